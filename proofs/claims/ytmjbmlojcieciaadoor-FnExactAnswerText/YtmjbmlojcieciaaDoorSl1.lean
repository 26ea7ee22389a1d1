/- Slots in memory: how they read; their faults, by the program and by the model. -/
import Derived.Test.YtmjbmlojcieciaaDoorSlN
namespace Go.Proofs.YtmjbmlojcieciaaDoor
open Go.RowKit
namespace U
/-- A slice value reads as a list of pairs of numbers. -/
def Prs (w : World) (v : Value) (l : Prl) : Prop :=
  (l = [] ∧ ∃ a c, v = .slice a 0 c) ∨ ∃ b off c, v = .slice (some ⟨b, off, none⟩) l.length c ∧ b < w.heap.size ∧ ∀ j, j < l.length → w.cell? ⟨b, off + j * 2, none⟩ = some (.int .i64 (pAt l j).1) ∧ w.cell? ⟨b, off + j * 2 + 1, none⟩ = some (.int .i64 (pAt l j).2)
theorem Prs.below {w w' : World} {v : Value} {l : Prl} (h : Prs w v l) (hb : Below w.heap.size w w') : Prs w' v l := by
  rcases h with h | ⟨b, off, c, rfl, hlt, hc⟩
  · exact Or.inl h
  · exact Or.inr ⟨b, off, c, rfl, Nat.lt_of_lt_of_le hlt hb.size, fun j hj => ⟨(hb.cell (p := ⟨b, off + j * 2, none⟩) hlt).trans (hc j hj).1, (hb.cell (p := ⟨b, off + j * 2 + 1, none⟩) hlt).trans (hc j hj).2⟩⟩
theorem Prs.shape {w : World} {v : Value} {l : Prl} (h : Prs w v l) : ∃ a c, v = .slice a l.length c := by
  rcases h with ⟨rfl, a, c, rfl⟩ | ⟨b, off, c, rfl, _⟩
  · exact ⟨a, c, rfl⟩
  · exact ⟨_, c, rfl⟩
theorem Prs.at {w : World} {a : Option Addr} {n c : Nat} {l : Prl} (h : Prs w (.slice a n c) l) (h0 : 0 < l.length) : n = l.length ∧ ∃ b off, a = some ⟨b, off, none⟩ ∧ b < w.heap.size ∧ ∀ j, j < l.length → w.cell? ⟨b, off + j * 2, none⟩ = some (.int .i64 (pAt l j).1) ∧ w.cell? ⟨b, off + j * 2 + 1, none⟩ = some (.int .i64 (pAt l j).2) := by
  rcases h with ⟨rfl, _⟩ | ⟨b, off, c', e, h1, h2⟩
  · simp at h0
  · cases e
    exact ⟨rfl, b, off, rfl, h1, h2⟩
/-- The cells of slots. -/
def fl (l : Prl) : List Int := l.flatMap fun p => [p.1, p.2]
theorem fl_len (l : Prl) : (fl l).length = l.length * 2 := by
  unfold fl
  induction l with
  | nil => rfl
  | cons p t ih => rw [List.flatMap_cons, List.length_append, ih]; simp; omega
theorem fl_app (l m : Prl) : fl (l ++ m) = fl l ++ fl m := by unfold fl; rw [List.flatMap_append]
theorem fl_at (l : Prl) : ∀ (j : Nat), j < l.length → (fl l)[j * 2]? = some (pAt l j).1 ∧ (fl l)[j * 2 + 1]? = some (pAt l j).2 := by
  induction l with
  | nil => intro j h; simp at h
  | cons p t ih =>
    intro j h
    unfold fl
    rw [List.flatMap_cons]
    cases j with
    | zero => simp [pAt]
    | succ j =>
      have := ih j (by simpa using h)
      unfold fl at this
      rw [show (j + 1) * 2 = j * 2 + 1 + 1 by omega]
      simpa [pAt] using this
theorem own_prs {w : World} {B : Nat} {e : TypeId} {v : Value} {l : Prl} (h : w.ownsRow B e 2 v l.length ((fl l).map (Value.int .i64))) : Prs w v l := by
  have h0 := h
  rcases h.2 with ⟨rfl, hn⟩ | ⟨g, cap, cur, rfl, hB, hg, _⟩
  · left; exact ⟨List.eq_nil_of_length_eq_zero hn, none, 0, rfl⟩
  · right
    refine ⟨g, 0, cap, rfl, (Array.getElem?_eq_some_iff.1 hg).1, fun j hj => ?_⟩
    rw [Nat.zero_add, h0.cellAt (j * 2) (by omega), h0.cellAt (j * 2 + 1) (by omega)]
    have := fl_at l j hj
    rw [List.getElem?_map, List.getElem?_map, this.1, this.2]
    exact ⟨rfl, rfl⟩
theorem own_prs' {w : World} {B n : Nat} {e : TypeId} {a : Option Addr} {c : Nat} {l : Prl} (h : w.ownsRow B e 2 (.slice a n c) n ((fl l).map (Value.int .i64))) : Prs w (.slice a n c) l := by
  have h1 := h.1
  rw [List.length_map, fl_len] at h1
  have : n = l.length := by omega
  subst this
  exact own_prs h
set_option maxRecDepth 100000 in
theorem isKey_any (n : Int) (w : World) : Calls Tryd.prog 59 #[.int .i64 n] w fun e w' => e = .returned (.bool (inB n 0 255)) ∧ w' = w := by
  rcases Bool.eq_false_or_eq_true (inB n 0 255) with h | h
  · have h1 := inB_bd h
    rw [h]
    go_enter Tryd.func59, Tryd.ntmps59
    go_wp2
    go_ret
    exact ⟨ret_bool (by simp; omega), rfl⟩
  · rw [h]
    rcases inB_nb h with h1 | h1
    · go_enter Tryd.func59, Tryd.ntmps59
      go_wp2
      go_ret
      exact ⟨ret_bool (by first | rfl | (simp; omega)), rfl⟩
    · go_enter Tryd.func59, Tryd.ntmps59
      go_wp2
      go_ret
      exact ⟨ret_bool (by first | rfl | (simp; omega)), rfl⟩
set_option maxRecDepth 100000 in
theorem l2Is4 (n : Int) (w : World) : Calls Tryd.prog 42 #[.int .i64 n] w fun e w' => e = .returned (.bool (sumB n)) ∧ w' = w := by
  go_enter Tryd.func42, Tryd.ntmps42
  go_wp2_with (go_at_call 54; refine (l1In_any _ _ _ _).mono ?_; rintro e w1 ⟨rfl, rfl⟩)
  go_ret
  exact ⟨ret_bool (by unfold sumB inB; simp), rfl⟩
set_option maxRecDepth 100000 in
theorem l4Key_any (n : Int) (w : World) : Calls Tryd.prog 30 #[.int .i64 n] w fun e w' => e = .returned (.bool (inB n 0 255)) ∧ w' = w := by
  have HK := fun w => l1In_any n 0 255 w
  generalize inB n 0 255 = x at *
  go_enter Tryd.func30, Tryd.ntmps30
  go_wp2_with fail
  refine (HK _).mono ?_
  rintro e w1 ⟨rfl, rfl⟩
  clear HK
  go_wp2
  go_ret
  exact ⟨rfl, rfl⟩
theorem two_cellsV {w : World} {g : Nat} {x y : Value} {t : TypeId} (h : w.heap[g]? = some (.cells #[x, y] t)) : w.cell? ⟨g, 0, none⟩ = some x ∧ w.cell? ⟨g, 1, none⟩ = some y ∧ w.frozen? ⟨g, 0, none⟩ = false ∧ w.frozen? ⟨g, 1, none⟩ = false := by
  refine ⟨?_, ?_, ?_, ?_⟩
  · unfold World.cell?; rw [h]; rfl
  · unfold World.cell?; rw [h]; rfl
  · unfold World.frozen?; rw [h]; rfl
  · unfold World.frozen?; rw [h]; rfl
theorem scan_step {l : Prl} {f i : Nat} (h : fine (pAt l i) = true) (h2 : 0 < i → (pAt l (i - 1)).1 < (pAt l i).1) : scan l (f + 1) i = scan l f (i + 1) := by
  rw [scan, if_neg (by rw [h]; simp), if_neg (by intro hh; have := h2 hh.1; omega)]
theorem scan_range {l : Prl} {f i : Nat} (h : fine (pAt l i) = false) : scan l (f + 1) i = 3 := by rw [scan, if_pos h]
theorem scan_form {l : Prl} {f i : Nat} (h : fine (pAt l i) = true) (h1 : 0 < i) (h2 : (pAt l i).1 ≤ (pAt l (i - 1)).1) : scan l (f + 1) i = 1 := by
  rw [scan, if_neg (by rw [h]; simp), if_pos ⟨h1, h2⟩]
theorem slF_many {l : Prl} (h : 12 < l.length) : slF l = 2 := by unfold slF; rw [if_pos h]
theorem slF_scan {l : Prl} (h : ¬ 12 < l.length) : slF l = scan l l.length 0 := by unfold slF; rw [if_neg h]
end U
end Go.Proofs.YtmjbmlojcieciaaDoor
