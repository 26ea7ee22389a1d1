/- The fault of an operation: what both models answer. -/
import Derived.Test.YtacaoehcfmblbaaJrM
import Derived.Test.YtacaoehcfmblbaaDr2
import Derived.Test.YtacaoehcfmblbaaOw1
import Derived.Test.YtacaoehcfmblbaaCmpO
import Derived.Handy
namespace Go.Proofs.Ytacaoehcfmblbaa
open Go.RowKit
namespace U
/-- An operation that lies in seven cells of a block. -/
structure OpAt (w : World) (g : Nat) (k : Int) (l : ByteArray) (v o p s n : Int) : Prop where
  c0 : w.cell? ⟨g, 0, none⟩ = some (.int .i64 k)
  c1 : w.cell? ⟨g, 1, none⟩ = some (.string l)
  c2 : w.cell? ⟨g, 2, none⟩ = some (.int .i64 v)
  c3 : w.cell? ⟨g, 3, none⟩ = some (.int .i64 o)
  c4 : w.cell? ⟨g, 4, none⟩ = some (.int .i64 p)
  c5 : w.cell? ⟨g, 5, none⟩ = some (.int .i64 s)
  c6 : w.cell? ⟨g, 6, none⟩ = some (.int .i64 n)
theorem OpAt.below {w w' : World} {g : Nat} {k : Int} {l : ByteArray} {v o p s n : Int} (h : OpAt w g k l v o p s n) (hb : Below w.heap.size w w') : OpAt w' g k l v o p s n :=
  ⟨After.cell h.c0 ⟨w', hb⟩, After.cell h.c1 ⟨w', hb⟩, After.cell h.c2 ⟨w', hb⟩, After.cell h.c3 ⟨w', hb⟩, After.cell h.c4 ⟨w', hb⟩, After.cell h.c5 ⟨w', hb⟩, After.cell h.c6 ⟨w', hb⟩⟩
theorem OpAt.new (w : World) (k : Int) (l : ByteArray) (v o p s n : Int) (t : TypeId) : OpAt (w.alloc (.cells #[.int .i64 k, .string l, .int .i64 v, .int .i64 o, .int .i64 p, .int .i64 s, .int .i64 n] t)) w.heap.size k l v o p s n := by
  have hh := heap_alloc_new w (.cells #[.int .i64 k, .string l, .int .i64 v, .int .i64 o, .int .i64 p, .int .i64 s, .int .i64 n] t)
  constructor <;> (unfold World.cell?; rw [hh]; rfl)
theorem OpAt.rc {w : World} {g : Nat} {k : Int} {l : ByteArray} {v o p s n : Int} (h : OpAt w g k l v o p s n) : RecS w g 1 ⟨l, v, o, p⟩ := ⟨h.c1, h.c2, h.c3, h.c4⟩
/-- A record held against nothing. -/
theorem rec_zero (l : ByteArray) (v o p : Int) (w : World) : (binOp .eql 30 (.agg #[.string l, .int .i64 v, .int .i64 o, .int .i64 p]) (.agg #[.string ⟨#[]⟩, .int .i64 0, .int .i64 0, .int .i64 0])).run Try.prog w = .ok (.bool (zB l v o p)) w := by
  have e : (⟨#[]⟩ : ByteArray).toList = [] := by unfold ByteArray.toList; unfold ByteArray.toList.loop; rfl
  unfold zB
  simp [go_sem, e]
  by_cases h : l.toList = [] <;> by_cases h1 : v = 0 <;> by_cases h2 : o = 0 <;> by_cases h3 : p = 0 <;> simp [h, h1, h2, h3]
/-- Whether the form of an operation is right. -/
def fmB (k : Int) (l : ByteArray) (v o p s n : Int) : Bool := if k = 1 then (n == 0) else (zrB l v o p s && (if k = 3 then true else inB k 2 6 && (n == 0)))
theorem fm_no {k : Int} {l : ByteArray} {v o p s n : Int} (h : fmB k l v o p s n = false) : opC k l v o p s n = 1 := by
  unfold fmB at h
  by_cases h1 : k = 1
  · subst h1
    rw [if_pos rfl] at h
    exact opC_up1 (by simpa using h)
  · rw [if_neg h1] at h
    rcases Bool.eq_false_or_eq_true (zrB l v o p s) with hz | hz
    · rw [hz] at h
      by_cases h3 : k = 3
      · rw [if_pos h3] at h
        cases h
      · rw [if_neg h3] at h
        rcases Bool.eq_false_or_eq_true (inB k 2 6) with hi | hi
        · rw [hi] at h
          exact opC_one1 h1 h3 (by simpa using h)
        · exact opC_none (inB_f (by have := inB_nb hi; omega))
    · exact opC_full h1 hz
theorem fm_yes {k : Int} {l : ByteArray} {v o p s n : Int} (h : fmB k l v o p s n = true) : (k = 1 ∧ n = 0) ∨ (k = 3 ∧ zrB l v o p s = true) ∨ ((k = 2 ∨ k = 4 ∨ k = 5 ∨ k = 6) ∧ zrB l v o p s = true ∧ n = 0) := by
  unfold fmB at h
  by_cases h1 : k = 1
  · rw [if_pos h1] at h
    exact Or.inl ⟨h1, by simpa using h⟩
  · rw [if_neg h1, Bool.and_eq_true] at h
    by_cases h3 : k = 3
    · exact Or.inr (Or.inl ⟨h3, h.1⟩)
    · rw [if_neg h3, Bool.and_eq_true] at h
      have := inB_bd h.2.1
      exact Or.inr (Or.inr ⟨by omega, h.1, by simpa using h.2.2⟩)
set_option maxRecDepth 100000 in
set_option maxHeartbeats 2000000 in
theorem l12Form_any (g : Nat) (k : Int) (l : ByteArray) (v o p s n : Int) (w : World) (h : OpAt w g k l v o p s n) :
    Calls Try.prog 20 #[.pointer (some ⟨g, 0, none⟩)] w fun e w' => e = .returned (.bool (fmB k l v o p s n)) ∧ w' = w := by
  have hz := fun w => rec_zero l v o p w
  have hI := fun w => l1In_any k 1 6 w
  obtain ⟨c0, c1, c2, c3, c4, c5, c6⟩ := h
  rcases Bool.eq_false_or_eq_true (inB k 1 6) with hi | hi
  · have hb := inB_bd hi
    rw [hi] at hI
    rcases Bool.eq_false_or_eq_true (zB l v o p) with hzb | hzb
    all_goals rw [hzb] at hz
    · by_cases hs : s = 0
      · subst hs
        have hr : zrB l v o p 0 = true := by unfold zrB; rw [hzb]; rfl
        rcases (by omega : k = 1 ∨ k = 2 ∨ k = 3 ∨ k = 4 ∨ k = 5 ∨ k = 6) with rfl | rfl | rfl | rfl | rfl | rfl
        all_goals
          clear hi hb
          go_enter Try.func20, Try.ntmps20
          go_wp2_with (go_at_call 15; refine (hI _).mono ?_; rintro e wq ⟨rfl, rfl⟩)
          go_ret
          exact ⟨ret_bool (by simp [fmB, hr, inB]), rfl⟩
      · have hr : zrB l v o p s = false := by unfold zrB; rw [hzb]; simpa using hs
        have hs' : (s == 0) = false := by simpa using hs
        rcases (by omega : k = 1 ∨ k = 2 ∨ k = 3 ∨ k = 4 ∨ k = 5 ∨ k = 6) with rfl | rfl | rfl | rfl | rfl | rfl
        all_goals
          clear hi hb hs
          go_enter Try.func20, Try.ntmps20
          go_wp2_with (go_at_call 15; refine (hI _).mono ?_; rintro e wq ⟨rfl, rfl⟩)
          go_ret
          exact ⟨ret_bool (by simp [fmB, hr]), rfl⟩
    · have hr : zrB l v o p s = false := by unfold zrB; rw [hzb]; rfl
      rcases (by omega : k = 1 ∨ k = 2 ∨ k = 3 ∨ k = 4 ∨ k = 5 ∨ k = 6) with rfl | rfl | rfl | rfl | rfl | rfl
      all_goals
        clear hi hb
        go_enter Try.func20, Try.ntmps20
        go_wp2_with (go_at_call 15; refine (hI _).mono ?_; rintro e wq ⟨rfl, rfl⟩)
        go_ret
        exact ⟨ret_bool (by simp [fmB, hr]), rfl⟩
  · have hb := inB_nb hi
    have hr : fmB k l v o p s n = false := by
      unfold fmB
      rw [if_neg (by omega), if_neg (by omega), inB_f (by omega)]
      simp
    rw [hr]
    rw [hi] at hI
    clear hi hb hz
    go_enter Try.func20, Try.ntmps20
    go_wp2_with (go_at_call 15; refine (hI _).mono ?_; rintro e wq ⟨rfl, rfl⟩)
    go_ret
    exact ⟨rfl, rfl⟩
set_option maxRecDepth 100000 in
set_option maxHeartbeats 2000000 in
theorem l12Fault_any (g : Nat) (k : Int) (l : ByteArray) (v o p s n : Int) (w : World) (h : OpAt w g k l v o p s n) (hl : l.size ≤ 1048576) :
    Calls Try.prog 16 #[.pointer (some ⟨g, 0, none⟩)] w fun e w' => e = .returned (.int .i64 (opC k l v o p s n)) ∧ Below w.heap.size w w' := by
  have hF := l12Form_any g k l v o p s n w h
  have hR := l3Fault_at g 1 l v o p w h.rc hl
  obtain ⟨c0, c1, c2, c3, c4, c5, c6⟩ := h
  rcases Bool.eq_false_or_eq_true (fmB k l v o p s n) with hf | hf
  · rw [hf] at hF
    rcases fm_yes hf with ⟨rfl, rfl⟩ | ⟨rfl, hz⟩ | ⟨hk, hz, rfl⟩
    · clear hf
      rcases Bool.eq_false_or_eq_true (inB s 0 999) with hs | hs
      · rw [opC_up0 rfl hs]
        generalize recC l v o p = rc at *
        go_enter Try.func16, Try.ntmps16
        go_wp2_with (first | (go_at_call 20; refine hF.mono ?_; rintro e wq ⟨rfl, hwq⟩; rw [hwq]; clear hwq) | (go_at_call 15; refine (l1In_any _ _ _ _).mono ?_; rintro e wq ⟨rfl, hwq⟩; rw [hwq]; clear hwq) | (go_at_call 21; refine hR.mono ?_; rintro e w1 ⟨rfl, hb1⟩))
        go_ret
        exact ⟨rfl, hb1⟩
      · rw [opC_up3 rfl hs]
        go_enter Try.func16, Try.ntmps16
        go_wp2_with (first | (go_at_call 20; refine hF.mono ?_; rintro e wq ⟨rfl, hwq⟩; rw [hwq]; clear hwq) | (go_at_call 15; refine (l1In_any _ _ _ _).mono ?_; rintro e wq ⟨rfl, hwq⟩; rw [hwq]; clear hwq))
        go_ret
        exact ⟨rfl, Below.refl _ _⟩
    · obtain ⟨-, -, -, -, rfl⟩ := zrB_iff hz
      have hs : inB 0 0 999 = true := rfl
      rcases Bool.eq_false_or_eq_true (inB n 1 256) with hn | hn
      · rw [opC_cp0 hz hn]
        clear hf hz
        go_enter Try.func16, Try.ntmps16
        go_wp2_with (first | (go_at_call 20; refine hF.mono ?_; rintro e wq ⟨rfl, hwq⟩; rw [hwq]; clear hwq) | (go_at_call 15; refine (l1In_any _ _ _ _).mono ?_; rintro e wq ⟨rfl, hwq⟩; rw [hwq]; clear hwq))
        go_ret
        exact ⟨rfl, Below.refl _ _⟩
      · rw [opC_cp3 hz hn]
        clear hf hz
        go_enter Try.func16, Try.ntmps16
        go_wp2_with (first | (go_at_call 20; refine hF.mono ?_; rintro e wq ⟨rfl, hwq⟩; rw [hwq]; clear hwq) | (go_at_call 15; refine (l1In_any _ _ _ _).mono ?_; rintro e wq ⟨rfl, hwq⟩; rw [hwq]; clear hwq))
        go_ret
        exact ⟨rfl, Below.refl _ _⟩
    · rw [opC_one0 (by omega) (by omega) (inB_t (by omega) (by omega)) hz rfl]
      obtain ⟨-, -, -, -, rfl⟩ := zrB_iff hz
      have hs : inB 0 0 999 = true := rfl
      clear hf hz
      rcases hk with rfl | rfl | rfl | rfl
      all_goals
        go_enter Try.func16, Try.ntmps16
        go_wp2_with (first | (go_at_call 20; refine hF.mono ?_; rintro e wq ⟨rfl, hwq⟩; rw [hwq]; clear hwq) | (go_at_call 15; refine (l1In_any _ _ _ _).mono ?_; rintro e wq ⟨rfl, hwq⟩; rw [hwq]; clear hwq))
        go_ret
        exact ⟨rfl, Below.refl _ _⟩
  · rw [fm_no hf]
    rw [hf] at hF
    clear hf hR
    go_enter Try.func16, Try.ntmps16
    go_wp2_with (go_at_call 20; refine hF.mono ?_; rintro e wq ⟨rfl, hwq⟩; rw [hwq]; clear hwq)
    go_ret
    exact ⟨rfl, Below.refl _ _⟩
end U
end Go.Proofs.Ytacaoehcfmblbaa
