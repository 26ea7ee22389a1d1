/- The fault of a step: what the model answers. -/
import Derived.Test.YtacaoehcfmblbaaJr1
namespace Go.Proofs.Ytacaoehcfmblbaa
open Go.RowKit
namespace U
/-- An operation that lies two cells into a block. -/
structure OqAt (w : World) (g : Nat) (k : Int) (l : ByteArray) (v o p s n : Int) : Prop where
  c0 : w.cell? ⟨g, 2, none⟩ = some (.int .i64 k)
  c1 : w.cell? ⟨g, 3, none⟩ = some (.string l)
  c2 : w.cell? ⟨g, 4, none⟩ = some (.int .i64 v)
  c3 : w.cell? ⟨g, 5, none⟩ = some (.int .i64 o)
  c4 : w.cell? ⟨g, 6, none⟩ = some (.int .i64 p)
  c5 : w.cell? ⟨g, 7, none⟩ = some (.int .i64 s)
  c6 : w.cell? ⟨g, 8, none⟩ = some (.int .i64 n)
theorem OqAt.rc {w : World} {g : Nat} {k : Int} {l : ByteArray} {v o p s n : Int} (h : OqAt w g k l v o p s n) : RecS w g 3 ⟨l, v, o, p⟩ := ⟨h.c1, h.c2, h.c3, h.c4⟩
/-- Whether an operation is nothing. -/
def zO (k : Int) (l : ByteArray) (v o p s n : Int) : Bool := (k == 0) && (zB l v o p && ((s == 0) && (n == 0)))
/-- The fault of a step. -/
def spC (b : Bool) (kp : Int) (k : Int) (l : ByteArray) (v o p s n : Int) : Int := if b = true then (if zO k l v o p s n = true then (if inB kp 0 99 = true then 0 else 3) else 1) else if kp = 0 then opC k l v o p s n else 1
theorem nine_cells {w : World} {g : Nat} {x0 x1 x2 x3 x4 x5 x6 x7 x8 : Value} {t : TypeId} (h : w.heap[g]? = some (.cells #[x0, x1, x2, x3, x4, x5, x6, x7, x8] t)) :
    w.cell? ⟨g, 0, none⟩ = some x0 ∧ w.cell? ⟨g, 1, none⟩ = some x1 ∧ w.cell? ⟨g, 2, none⟩ = some x2 ∧ w.cell? ⟨g, 3, none⟩ = some x3 ∧ w.cell? ⟨g, 4, none⟩ = some x4 ∧ w.cell? ⟨g, 5, none⟩ = some x5 ∧ w.cell? ⟨g, 6, none⟩ = some x6 ∧ w.cell? ⟨g, 7, none⟩ = some x7 ∧ w.cell? ⟨g, 8, none⟩ = some x8 := by
  simp [World.cell?, h]
set_option maxRecDepth 100000 in
set_option maxHeartbeats 2000000 in
theorem l12Form_q (g : Nat) (k : Int) (l : ByteArray) (v o p s n : Int) (w : World) (h : OqAt w g k l v o p s n) :
    Calls Try.prog 20 #[.pointer (some ⟨g, 2, none⟩)] w fun e w' => e = .returned (.bool (fmB k l v o p s n)) ∧ w' = w := by
  have hz := fun w => rec_zero l v o p w
  have hI := fun w => l1In_any k 1 6 w
  obtain ⟨c0, c1, c2, c3, c4, c5, c6⟩ := h
  rcases Bool.eq_false_or_eq_true (inB k 1 6) with hi | hi
  · have hb := inB_bd hi
    rw [hi] at hI
    rcases Bool.eq_false_or_eq_true (zB l v o p) with hzb | hzb
    all_goals rw [hzb] at hz
    · by_cases hs : s = 0
      · subst hs
        have hr : zrB l v o p 0 = true := by unfold zrB; rw [hzb]; rfl
        rcases (by omega : k = 1 ∨ k = 2 ∨ k = 3 ∨ k = 4 ∨ k = 5 ∨ k = 6) with rfl | rfl | rfl | rfl | rfl | rfl
        all_goals
          clear hi hb
          go_enter Try.func20, Try.ntmps20
          go_wp2_with (go_at_call 15; refine (hI _).mono ?_; rintro e wq ⟨rfl, rfl⟩)
          go_ret
          exact ⟨ret_bool (by simp [fmB, hr, inB]), rfl⟩
      · have hr : zrB l v o p s = false := by unfold zrB; rw [hzb]; simpa using hs
        have hs' : (s == 0) = false := by simpa using hs
        rcases (by omega : k = 1 ∨ k = 2 ∨ k = 3 ∨ k = 4 ∨ k = 5 ∨ k = 6) with rfl | rfl | rfl | rfl | rfl | rfl
        all_goals
          clear hi hb hs
          go_enter Try.func20, Try.ntmps20
          go_wp2_with (go_at_call 15; refine (hI _).mono ?_; rintro e wq ⟨rfl, rfl⟩)
          go_ret
          exact ⟨ret_bool (by simp [fmB, hr]), rfl⟩
    · have hr : zrB l v o p s = false := by unfold zrB; rw [hzb]; rfl
      rcases (by omega : k = 1 ∨ k = 2 ∨ k = 3 ∨ k = 4 ∨ k = 5 ∨ k = 6) with rfl | rfl | rfl | rfl | rfl | rfl
      all_goals
        clear hi hb
        go_enter Try.func20, Try.ntmps20
        go_wp2_with (go_at_call 15; refine (hI _).mono ?_; rintro e wq ⟨rfl, rfl⟩)
        go_ret
        exact ⟨ret_bool (by simp [fmB, hr]), rfl⟩
  · have hb := inB_nb hi
    have hr : fmB k l v o p s n = false := by
      unfold fmB
      rw [if_neg (by omega), if_neg (by omega), inB_f (by omega)]
      simp
    rw [hr]
    rw [hi] at hI
    clear hi hb hz
    go_enter Try.func20, Try.ntmps20
    go_wp2_with (go_at_call 15; refine (hI _).mono ?_; rintro e wq ⟨rfl, rfl⟩)
    go_ret
    exact ⟨rfl, rfl⟩
set_option maxRecDepth 100000 in
set_option maxHeartbeats 2000000 in
theorem l12Fault_q (g : Nat) (k : Int) (l : ByteArray) (v o p s n : Int) (w : World) (h : OqAt w g k l v o p s n) (hl : l.size ≤ 1048576) :
    Calls Try.prog 16 #[.pointer (some ⟨g, 2, none⟩)] w fun e w' => e = .returned (.int .i64 (opC k l v o p s n)) ∧ Below w.heap.size w w' := by
  have hF := l12Form_q g k l v o p s n w h
  have hR := l3Fault_at g 3 l v o p w h.rc hl
  obtain ⟨c0, c1, c2, c3, c4, c5, c6⟩ := h
  rcases Bool.eq_false_or_eq_true (fmB k l v o p s n) with hf | hf
  · rw [hf] at hF
    rcases fm_yes hf with ⟨rfl, rfl⟩ | ⟨rfl, hz⟩ | ⟨hk, hz, rfl⟩
    · clear hf
      rcases Bool.eq_false_or_eq_true (inB s 0 999) with hs | hs
      · rw [opC_up0 rfl hs]
        generalize recC l v o p = rc at *
        go_enter Try.func16, Try.ntmps16
        go_wp2_with (first | (go_at_call 20; refine hF.mono ?_; rintro e wq ⟨rfl, hwq⟩; rw [hwq]; clear hwq) | (go_at_call 15; refine (l1In_any _ _ _ _).mono ?_; rintro e wq ⟨rfl, hwq⟩; rw [hwq]; clear hwq) | (go_at_call 21; refine hR.mono ?_; rintro e w1 ⟨rfl, hb1⟩))
        go_ret
        exact ⟨rfl, hb1⟩
      · rw [opC_up3 rfl hs]
        go_enter Try.func16, Try.ntmps16
        go_wp2_with (first | (go_at_call 20; refine hF.mono ?_; rintro e wq ⟨rfl, hwq⟩; rw [hwq]; clear hwq) | (go_at_call 15; refine (l1In_any _ _ _ _).mono ?_; rintro e wq ⟨rfl, hwq⟩; rw [hwq]; clear hwq))
        go_ret
        exact ⟨rfl, Below.refl _ _⟩
    · obtain ⟨-, -, -, -, rfl⟩ := zrB_iff hz
      have hs : inB 0 0 999 = true := rfl
      rcases Bool.eq_false_or_eq_true (inB n 1 256) with hn | hn
      · rw [opC_cp0 hz hn]
        clear hf hz
        go_enter Try.func16, Try.ntmps16
        go_wp2_with (first | (go_at_call 20; refine hF.mono ?_; rintro e wq ⟨rfl, hwq⟩; rw [hwq]; clear hwq) | (go_at_call 15; refine (l1In_any _ _ _ _).mono ?_; rintro e wq ⟨rfl, hwq⟩; rw [hwq]; clear hwq))
        go_ret
        exact ⟨rfl, Below.refl _ _⟩
      · rw [opC_cp3 hz hn]
        clear hf hz
        go_enter Try.func16, Try.ntmps16
        go_wp2_with (first | (go_at_call 20; refine hF.mono ?_; rintro e wq ⟨rfl, hwq⟩; rw [hwq]; clear hwq) | (go_at_call 15; refine (l1In_any _ _ _ _).mono ?_; rintro e wq ⟨rfl, hwq⟩; rw [hwq]; clear hwq))
        go_ret
        exact ⟨rfl, Below.refl _ _⟩
    · rw [opC_one0 (by omega) (by omega) (inB_t (by omega) (by omega)) hz rfl]
      obtain ⟨-, -, -, -, rfl⟩ := zrB_iff hz
      have hs : inB 0 0 999 = true := rfl
      clear hf hz
      rcases hk with rfl | rfl | rfl | rfl
      all_goals
        go_enter Try.func16, Try.ntmps16
        go_wp2_with (first | (go_at_call 20; refine hF.mono ?_; rintro e wq ⟨rfl, hwq⟩; rw [hwq]; clear hwq) | (go_at_call 15; refine (l1In_any _ _ _ _).mono ?_; rintro e wq ⟨rfl, hwq⟩; rw [hwq]; clear hwq))
        go_ret
        exact ⟨rfl, Below.refl _ _⟩
  · rw [fm_no hf]
    rw [hf] at hF
    clear hf hR
    go_enter Try.func16, Try.ntmps16
    go_wp2_with (go_at_call 20; refine hF.mono ?_; rintro e wq ⟨rfl, hwq⟩; rw [hwq]; clear hwq)
    go_ret
    exact ⟨rfl, Below.refl _ _⟩

set_option maxRecDepth 100000 in
set_option maxHeartbeats 2000000 in
theorem l15NoOp_any (g : Nat) (k : Int) (l : ByteArray) (v o p s n : Int) (w : World) (h : OqAt w g k l v o p s n) :
    Calls Try.prog 14 #[.pointer (some ⟨g, 2, none⟩)] w fun e w' => e = .returned (.bool (zO k l v o p s n)) ∧ w' = w := by
  have hz := fun w => rec_zero l v o p w
  obtain ⟨c0, c1, c2, c3, c4, c5, c6⟩ := h
  unfold zO
  by_cases hk : k = 0
  · subst hk
    rcases Bool.eq_false_or_eq_true (zB l v o p) with hzb | hzb
    all_goals rw [hzb] at hz ⊢
    · by_cases hs : s = 0
      · subst hs
        go_enter Try.func14, Try.ntmps14
        go_wp2
        go_ret
        exact ⟨ret_bool (by simp), rfl⟩
      · have hs' : (s == 0) = false := by simpa using hs
        go_enter Try.func14, Try.ntmps14
        go_wp2
        go_ret
        exact ⟨ret_bool (by simp [hs']), rfl⟩
    · go_enter Try.func14, Try.ntmps14
      go_wp2
      go_ret
      exact ⟨ret_bool (by simp), rfl⟩
  · have hk' : (k == 0) = false := by simpa using hk
    go_enter Try.func14, Try.ntmps14
    go_wp2
    go_ret
    exact ⟨ret_bool (by simp [hk']), rfl⟩
set_option maxRecDepth 100000 in
set_option maxHeartbeats 2000000 in
theorem l15Fault_any (g : Nat) (b : Bool) (kp : Int) (k : Int) (l : ByteArray) (v o p s n : Int) (w : World) (hb0 : w.cell? ⟨g, 0, none⟩ = some (.bool b)) (hb1 : w.cell? ⟨g, 1, none⟩ = some (.int .i64 kp)) (h : OqAt w g k l v o p s n) (hl : l.size ≤ 1048576) :
    Calls Try.prog 9 #[.pointer (some ⟨g, 0, none⟩)] w fun e w' => e = .returned (.int .i64 (spC b kp k l v o p s n)) ∧ Below w.heap.size w w' := by
  have hN := l15NoOp_any g k l v o p s n w h
  have hF := l12Fault_q g k l v o p s n w h hl
  have hI := fun w => l1In_any kp 0 99 w
  clear h
  unfold spC
  generalize zO k l v o p s n = z at *
  generalize opC k l v o p s n = code at *
  rcases b with _ | _
  · rw [if_neg (by decide)]
    by_cases hk : kp = 0
    · subst hk
      rw [if_pos rfl]
      have e0 : inB 0 0 99 = true := rfl
      rw [e0] at hI
      go_enter Try.func9, Try.ntmps9
      go_wp2_with (first | (go_at_call 15; refine (hI _).mono ?_; rintro e wq ⟨rfl, hwq⟩; rw [hwq]; clear hwq) | (go_at_call 16; refine hF.mono ?_; rintro e w1 ⟨rfl, hbq⟩))
      go_ret
      exact ⟨rfl, hbq⟩
    · rw [if_neg hk]
      go_enter Try.func9, Try.ntmps9
      go_wp2
      go_ret
      exact ⟨rfl, Below.refl _ _⟩
  · rw [if_pos rfl]
    rcases z with _ | _
    · rw [if_neg (by decide)]
      go_enter Try.func9, Try.ntmps9
      go_wp2_with (go_at_call 14; refine hN.mono ?_; rintro e wq ⟨rfl, hwq⟩; rw [hwq]; clear hwq)
      go_ret
      exact ⟨rfl, Below.refl _ _⟩
    · rw [if_pos rfl]
      rcases Bool.eq_false_or_eq_true (inB kp 0 99) with hi | hi
      all_goals rw [hi] at hI ⊢
      · go_enter Try.func9, Try.ntmps9
        go_wp2_with (first | (go_at_call 15; refine (hI _).mono ?_; rintro e wq ⟨rfl, hwq⟩; rw [hwq]; clear hwq) | (go_at_call 14; refine hN.mono ?_; rintro e wq ⟨rfl, hwq⟩; rw [hwq]; clear hwq))
        go_ret
        exact ⟨rfl, Below.refl _ _⟩
      · go_enter Try.func9, Try.ntmps9
        go_wp2_with (first | (go_at_call 15; refine (hI _).mono ?_; rintro e wq ⟨rfl, hwq⟩; rw [hwq]; clear hwq) | (go_at_call 14; refine hN.mono ?_; rintro e wq ⟨rfl, hwq⟩; rw [hwq]; clear hwq))
        go_ret
        exact ⟨rfl, Below.refl _ _⟩
/-- A step as the model holds it. -/
def spV (b : Bool) (kp : Int) (k : Int) (l : ByteArray) (v o p s n : Int) : Value := .agg #[.bool b, .int .i64 kp, .int .i64 k, .string l, .int .i64 v, .int .i64 o, .int .i64 p, .int .i64 s, .int .i64 n]
set_option maxRecDepth 100000 in
set_option maxHeartbeats 2000000 in
theorem specStepFault_any (b : Bool) (kp : Int) (k : Int) (l : ByteArray) (v o p s n : Int) (w : World) (hl : l.size ≤ 1048576) :
    Calls Try.prog 5 #[spV b kp k l v o p s n] w fun e w' => e = .returned (.int .i64 (spC b kp k l v o p s n)) ∧ Below w.heap.size w w' := by
  have hh := heap_alloc_new w (.cells #[.bool b, .int .i64 kp, .int .i64 k, .string l, .int .i64 v, .int .i64 o, .int .i64 p, .int .i64 s, .int .i64 n] 34)
  obtain ⟨W, hW⟩ : ∃ W, W = w.alloc (.cells #[.bool b, .int .i64 kp, .int .i64 k, .string l, .int .i64 v, .int .i64 o, .int .i64 p, .int .i64 s, .int .i64 n] 34) := ⟨_, rfl⟩
  rw [← hW] at hh
  obtain ⟨c0, c1, c2, c3, c4, c5, c6, c7, c8⟩ := nine_cells hh
  have hF := l15Fault_any w.heap.size b kp k l v o p s n W c0 c1 ⟨c2, c3, c4, c5, c6, c7, c8⟩ hl
  have hB : Below w.heap.size w W := by rw [hW]; exact one_new _
  clear hh c0 c1 c2 c3 c4 c5 c6 c7 c8
  generalize spC b kp k l v o p s n = code at *
  unfold spV
  have HW : Hid (W = w.alloc (.cells #[.bool b, .int .i64 kp, .int .i64 k, .string l, .int .i64 v, .int .i64 o, .int .i64 p, .int .i64 s, .int .i64 n] 34)) := hW
  clear hW
  go_enter Try.func5, Try.ntmps5
  go_wp2_with fail
  rw [← show W = _ from HW]
  refine hF.mono ?_
  rintro e w1 ⟨rfl, hb1⟩
  go_wp2
  go_ret
  exact ⟨rfl, below_after_of hB hb1⟩
end U
end Go.Proofs.Ytacaoehcfmblbaa
