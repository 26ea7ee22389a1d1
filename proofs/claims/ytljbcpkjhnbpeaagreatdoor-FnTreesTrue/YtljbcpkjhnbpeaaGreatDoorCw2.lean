/- The clash that a walk ends with, asked of its error. -/
import Derived.Test.YtljbcpkjhnbpeaaGreatDoorCw1
namespace Go.Proofs.YtljbcpkjhnbpeaaGreatDoor
open Go.RowKit
namespace U
set_option maxRecDepth 100000 in
set_option maxHeartbeats 2000000 in
theorem clashOf_new (caps : Array Value) (o : Ck) (w : World) (hg : ErT w) (hcap : ∃ x0 x1, caps = #[x0, x1]) (hD : ∀ w', Below w.heap.size w w' → Calls Tryz.prog 125 caps w' fun e w'' => WkAns w' o e w'') :
    Calls Tryz.prog 50 #[.func (.func 125) #[] caps] w fun e w' => ClashAns w 0 (opF o) (op1 o) (op2 o) e w' := by
  obtain ⟨W, hW⟩ : ∃ W, W = (w.alloc (.cells #[.int .i64 0, .bool false, .slice none 0 0, .slice none 0 0] 35)).alloc (.cells #[.bool false, .slice none 0 0, .slice none 0 0] 140) := ⟨_, rfl⟩
  have HW : Hid ((w.alloc (.cells #[.int .i64 0, .bool false, .slice none 0 0, .slice none 0 0] 35)).alloc (.cells #[.bool false, .slice none 0 0, .slice none 0 0] 140) = W) := hW.symm
  have hB : Below w.heap.size w W := by rw [hW]; exact two_new _ _
  have HR : Hid (W.heap[w.heap.size]? = some (.cells #[.int .i64 0, .bool false, .slice none 0 0, .slice none 0 0] 35) ∧ W.heap[w.heap.size + 1]? = some (.cells #[.bool false, .slice none 0 0, .slice none 0 0] 140)) := (by
    rw [hW]
    have h1 := heap_alloc_new (w.alloc (.cells #[.int .i64 0, .bool false, .slice none 0 0, .slice none 0 0] 35)) (.cells #[.bool false, .slice none 0 0, .slice none 0 0] 140)
    rw [World.size_alloc] at h1
    exact ⟨((one_new _).block w.heap.size (by simp)).trans (heap_alloc_new w _), h1⟩ : _ ∧ _)
  have hz : w.heap.size + 1 < W.heap.size := (Array.getElem?_eq_some_iff.1 HR.out.2).1
  obtain ⟨x0, x1, rfl⟩ := hcap
  have hDW := hD W hB
  clear hW hD
  rcases o with _ | ⟨ls, bs⟩
  · go_enter Tryz.func50, Tryz.ntmps50
    go_wp2_with fail
    rw [HW.out]
    refine hDW.mono ?_
    intro e w1 h1
    obtain rfl := h1.n rfl
    have hb1 := h1.b
    clear h1 hDW
    go_wp2_with fail
    refine (as_nil _ _).mono ?_
    rintro e w2 ⟨rfl, rfl⟩
    obtain ⟨q0, q1, q2, q3, f0, f1, f2, f3⟩ := four_cells ((hb1.block w.heap.size (by omega)).trans HR.out.1)
    have hB1 := below_after_of hB hb1
    clear hb1
    go_wp2
    exact bodyPost_ret (v := .agg #[.int .i64 0, .bool false, .slice none 0 0, .slice none 0 0]) (by simp [results, Tryz.results50, go_sem, q0, q1, q2, q3]) rfl ⟨(((hB1.setCell (Nat.le_refl _) _).setCell (Nat.le_refl _) _).setCell (Nat.le_refl _) _).setCell (Nat.le_refl _) _, _, _, rfl, Rows2.nil _ _ _ _⟩
  · go_enter Tryz.func50, Tryz.ntmps50
    go_wp2_with fail
    rw [HW.out]
    refine hDW.mono ?_
    intro e w1 h1
    obtain ⟨a1, c1, a2, c2, rfl, hr⟩ := h1.s ls bs rfl
    have hb1 := h1.b
    have HR1 : Hid (Rows2 W w1 (.slice a1 ls.length c1) (.slice a2 bs.length c2) true ls bs) := hr
    obtain ⟨p, hp⟩ : ∃ p, p = ls.length := ⟨_, rfl⟩
    obtain ⟨q, hq⟩ : ∃ q, q = bs.length := ⟨_, rfl⟩
    have HP : Hid (p = ls.length ∧ q = bs.length) := ⟨hp, hq⟩
    rw [← hp, ← hq] at HR1 ⊢
    have hA := as_hit (w.heap.size + 1) true a1 a2 p c1 q c2 _ _ _ w1 ((hg.below hB).below hb1) ((hb1.block (w.heap.size + 1) hz).trans HR.out.2)
    clear h1 hDW hr hp hq
    go_wp2_with fail
    refine hA.mono ?_
    rintro e w2 ⟨rfl, W2, hbW2, hw2⟩
    have hb12 := below_after_of hb1 hbW2
    have hT2 := (hb12.block (w.heap.size + 1) hz).trans HR.out.2
    have hT3 : w2.heap[w.heap.size + 1]? = some (.cells #[.bool true, .slice a1 p c1, .slice a2 q c2] 140) := by
      rw [hw2]
      exact heap_setCell_same _ _ 2 _ _ _ (heap_setCell_same _ _ 1 _ _ _ (heap_setCell_same _ _ 0 _ _ _ hT2))
    have hR2 : w2.heap[w.heap.size]? = some (.cells #[.int .i64 0, .bool false, .slice none 0 0, .slice none 0 0] 35) := by
      rw [hw2, heap_setCell_other _ _ _ _ (by show w.heap.size ≠ w.heap.size + 1; omega), heap_setCell_other _ _ _ _ (by show w.heap.size ≠ w.heap.size + 1; omega), heap_setCell_other _ _ _ _ (by show w.heap.size ≠ w.heap.size + 1; omega)]
      exact (hb12.block w.heap.size (by omega)).trans HR.out.1
    have HR2 : Hid (Rows2 W w2 (.slice a1 p c1) (.slice a2 q c2) true ls bs) := (by rw [hw2]; exact ((((HR1.out.below hbW2).set hz _ _).set hz _ _).set hz _ _) : Rows2 W w2 (.slice a1 p c1) (.slice a2 q c2) true ls bs)
    have hB2 : Below w.heap.size w w2 := by
      rw [hw2]
      exact (((below_after_of hB hb12).setCell (by show w.heap.size ≤ w.heap.size + 1; omega) _).setCell (by show w.heap.size ≤ w.heap.size + 1; omega) _).setCell (by show w.heap.size ≤ w.heap.size + 1; omega) _
    obtain ⟨q0, q1, q2, q3, f0, f1, f2, f3⟩ := four_cells hR2
    obtain ⟨r0, r1, r2, -, -, -⟩ := three_cellsV hT3
    have hz0 : w.heap.size < W.heap.size := by omega
    clear hA hw2 hT2 hT3 hR2 hb1 hbW2 hb12
    go_wp2
    exact bodyPost_ret (v := .agg #[.int .i64 0, .bool true, .slice a1 p c1, .slice a2 q c2]) (by simp [results, Tryz.results50, go_sem, q0, q1, q2, q3]) rfl ⟨(((hB2.setCell (Nat.le_refl _) _).setCell (Nat.le_refl _) _).setCell (Nat.le_refl _) _).setCell (Nat.le_refl _) _, _, _, rfl, ((((HR2.out.set hz0 _ _).set hz0 _ _).set hz0 _ _).set hz0 _ _).under hB.size⟩
set_option maxRecDepth 100000 in
set_option maxHeartbeats 2000000 in
theorem clashOf_old (caps : Array Value) (o : Ck) (w : World) (hg : ErT w) (hcap : ∃ x0, caps = #[x0]) (hD : ∀ w', Below w.heap.size w w' → Calls Tryz.prog 131 caps w' fun e w'' => WkAns w' o e w'') :
    Calls Tryz.prog 50 #[.func (.func 131) #[] caps] w fun e w' => ClashAns w 0 (opF o) (op1 o) (op2 o) e w' := by
  obtain ⟨W, hW⟩ : ∃ W, W = (w.alloc (.cells #[.int .i64 0, .bool false, .slice none 0 0, .slice none 0 0] 35)).alloc (.cells #[.bool false, .slice none 0 0, .slice none 0 0] 140) := ⟨_, rfl⟩
  have HW : Hid ((w.alloc (.cells #[.int .i64 0, .bool false, .slice none 0 0, .slice none 0 0] 35)).alloc (.cells #[.bool false, .slice none 0 0, .slice none 0 0] 140) = W) := hW.symm
  have hB : Below w.heap.size w W := by rw [hW]; exact two_new _ _
  have HR : Hid (W.heap[w.heap.size]? = some (.cells #[.int .i64 0, .bool false, .slice none 0 0, .slice none 0 0] 35) ∧ W.heap[w.heap.size + 1]? = some (.cells #[.bool false, .slice none 0 0, .slice none 0 0] 140)) := (by
    rw [hW]
    have h1 := heap_alloc_new (w.alloc (.cells #[.int .i64 0, .bool false, .slice none 0 0, .slice none 0 0] 35)) (.cells #[.bool false, .slice none 0 0, .slice none 0 0] 140)
    rw [World.size_alloc] at h1
    exact ⟨((one_new _).block w.heap.size (by simp)).trans (heap_alloc_new w _), h1⟩ : _ ∧ _)
  have hz : w.heap.size + 1 < W.heap.size := (Array.getElem?_eq_some_iff.1 HR.out.2).1
  obtain ⟨x0, rfl⟩ := hcap
  have hDW := hD W hB
  clear hW hD
  rcases o with _ | ⟨ls, bs⟩
  · go_enter Tryz.func50, Tryz.ntmps50
    go_wp2_with fail
    rw [HW.out]
    refine hDW.mono ?_
    intro e w1 h1
    obtain rfl := h1.n rfl
    have hb1 := h1.b
    clear h1 hDW
    go_wp2_with fail
    refine (as_nil _ _).mono ?_
    rintro e w2 ⟨rfl, rfl⟩
    obtain ⟨q0, q1, q2, q3, f0, f1, f2, f3⟩ := four_cells ((hb1.block w.heap.size (by omega)).trans HR.out.1)
    have hB1 := below_after_of hB hb1
    clear hb1
    go_wp2
    exact bodyPost_ret (v := .agg #[.int .i64 0, .bool false, .slice none 0 0, .slice none 0 0]) (by simp [results, Tryz.results50, go_sem, q0, q1, q2, q3]) rfl ⟨(((hB1.setCell (Nat.le_refl _) _).setCell (Nat.le_refl _) _).setCell (Nat.le_refl _) _).setCell (Nat.le_refl _) _, _, _, rfl, Rows2.nil _ _ _ _⟩
  · go_enter Tryz.func50, Tryz.ntmps50
    go_wp2_with fail
    rw [HW.out]
    refine hDW.mono ?_
    intro e w1 h1
    obtain ⟨a1, c1, a2, c2, rfl, hr⟩ := h1.s ls bs rfl
    have hb1 := h1.b
    have HR1 : Hid (Rows2 W w1 (.slice a1 ls.length c1) (.slice a2 bs.length c2) true ls bs) := hr
    obtain ⟨p, hp⟩ : ∃ p, p = ls.length := ⟨_, rfl⟩
    obtain ⟨q, hq⟩ : ∃ q, q = bs.length := ⟨_, rfl⟩
    have HP : Hid (p = ls.length ∧ q = bs.length) := ⟨hp, hq⟩
    rw [← hp, ← hq] at HR1 ⊢
    have hA := as_hit (w.heap.size + 1) true a1 a2 p c1 q c2 _ _ _ w1 ((hg.below hB).below hb1) ((hb1.block (w.heap.size + 1) hz).trans HR.out.2)
    clear h1 hDW hr hp hq
    go_wp2_with fail
    refine hA.mono ?_
    rintro e w2 ⟨rfl, W2, hbW2, hw2⟩
    have hb12 := below_after_of hb1 hbW2
    have hT2 := (hb12.block (w.heap.size + 1) hz).trans HR.out.2
    have hT3 : w2.heap[w.heap.size + 1]? = some (.cells #[.bool true, .slice a1 p c1, .slice a2 q c2] 140) := by
      rw [hw2]
      exact heap_setCell_same _ _ 2 _ _ _ (heap_setCell_same _ _ 1 _ _ _ (heap_setCell_same _ _ 0 _ _ _ hT2))
    have hR2 : w2.heap[w.heap.size]? = some (.cells #[.int .i64 0, .bool false, .slice none 0 0, .slice none 0 0] 35) := by
      rw [hw2, heap_setCell_other _ _ _ _ (by show w.heap.size ≠ w.heap.size + 1; omega), heap_setCell_other _ _ _ _ (by show w.heap.size ≠ w.heap.size + 1; omega), heap_setCell_other _ _ _ _ (by show w.heap.size ≠ w.heap.size + 1; omega)]
      exact (hb12.block w.heap.size (by omega)).trans HR.out.1
    have HR2 : Hid (Rows2 W w2 (.slice a1 p c1) (.slice a2 q c2) true ls bs) := (by rw [hw2]; exact ((((HR1.out.below hbW2).set hz _ _).set hz _ _).set hz _ _) : Rows2 W w2 (.slice a1 p c1) (.slice a2 q c2) true ls bs)
    have hB2 : Below w.heap.size w w2 := by
      rw [hw2]
      exact (((below_after_of hB hb12).setCell (by show w.heap.size ≤ w.heap.size + 1; omega) _).setCell (by show w.heap.size ≤ w.heap.size + 1; omega) _).setCell (by show w.heap.size ≤ w.heap.size + 1; omega) _
    obtain ⟨q0, q1, q2, q3, f0, f1, f2, f3⟩ := four_cells hR2
    obtain ⟨r0, r1, r2, -, -, -⟩ := three_cellsV hT3
    have hz0 : w.heap.size < W.heap.size := by omega
    clear hA hw2 hT2 hT3 hR2 hb1 hbW2 hb12
    go_wp2
    exact bodyPost_ret (v := .agg #[.int .i64 0, .bool true, .slice a1 p c1, .slice a2 q c2]) (by simp [results, Tryz.results50, go_sem, q0, q1, q2, q3]) rfl ⟨(((hB2.setCell (Nat.le_refl _) _).setCell (Nat.le_refl _) _).setCell (Nat.le_refl _) _).setCell (Nat.le_refl _) _, _, _, rfl, ((((HR2.out.set hz0 _ _).set hz0 _ _).set hz0 _ _).set hz0 _ _).under hB.size⟩
set_option maxRecDepth 100000 in
set_option maxHeartbeats 2000000 in
theorem clashOf_trail (caps : Array Value) (o : Ck) (w : World) (hg : ErT w) (hcap : ∃ x0 x1 x2, caps = #[x0, x1, x2]) (hD : ∀ w', Below w.heap.size w w' → Calls Tryz.prog 101 caps w' fun e w'' => WkAns w' o e w'') :
    Calls Tryz.prog 50 #[.func (.func 101) #[] caps] w fun e w' => ClashAns w 0 (opF o) (op1 o) (op2 o) e w' := by
  obtain ⟨W, hW⟩ : ∃ W, W = (w.alloc (.cells #[.int .i64 0, .bool false, .slice none 0 0, .slice none 0 0] 35)).alloc (.cells #[.bool false, .slice none 0 0, .slice none 0 0] 140) := ⟨_, rfl⟩
  have HW : Hid ((w.alloc (.cells #[.int .i64 0, .bool false, .slice none 0 0, .slice none 0 0] 35)).alloc (.cells #[.bool false, .slice none 0 0, .slice none 0 0] 140) = W) := hW.symm
  have hB : Below w.heap.size w W := by rw [hW]; exact two_new _ _
  have HR : Hid (W.heap[w.heap.size]? = some (.cells #[.int .i64 0, .bool false, .slice none 0 0, .slice none 0 0] 35) ∧ W.heap[w.heap.size + 1]? = some (.cells #[.bool false, .slice none 0 0, .slice none 0 0] 140)) := (by
    rw [hW]
    have h1 := heap_alloc_new (w.alloc (.cells #[.int .i64 0, .bool false, .slice none 0 0, .slice none 0 0] 35)) (.cells #[.bool false, .slice none 0 0, .slice none 0 0] 140)
    rw [World.size_alloc] at h1
    exact ⟨((one_new _).block w.heap.size (by simp)).trans (heap_alloc_new w _), h1⟩ : _ ∧ _)
  have hz : w.heap.size + 1 < W.heap.size := (Array.getElem?_eq_some_iff.1 HR.out.2).1
  obtain ⟨x0, x1, x2, rfl⟩ := hcap
  have hDW := hD W hB
  clear hW hD
  rcases o with _ | ⟨ls, bs⟩
  · go_enter Tryz.func50, Tryz.ntmps50
    go_wp2_with fail
    rw [HW.out]
    refine hDW.mono ?_
    intro e w1 h1
    obtain rfl := h1.n rfl
    have hb1 := h1.b
    clear h1 hDW
    go_wp2_with fail
    refine (as_nil _ _).mono ?_
    rintro e w2 ⟨rfl, rfl⟩
    obtain ⟨q0, q1, q2, q3, f0, f1, f2, f3⟩ := four_cells ((hb1.block w.heap.size (by omega)).trans HR.out.1)
    have hB1 := below_after_of hB hb1
    clear hb1
    go_wp2
    exact bodyPost_ret (v := .agg #[.int .i64 0, .bool false, .slice none 0 0, .slice none 0 0]) (by simp [results, Tryz.results50, go_sem, q0, q1, q2, q3]) rfl ⟨(((hB1.setCell (Nat.le_refl _) _).setCell (Nat.le_refl _) _).setCell (Nat.le_refl _) _).setCell (Nat.le_refl _) _, _, _, rfl, Rows2.nil _ _ _ _⟩
  · go_enter Tryz.func50, Tryz.ntmps50
    go_wp2_with fail
    rw [HW.out]
    refine hDW.mono ?_
    intro e w1 h1
    obtain ⟨a1, c1, a2, c2, rfl, hr⟩ := h1.s ls bs rfl
    have hb1 := h1.b
    have HR1 : Hid (Rows2 W w1 (.slice a1 ls.length c1) (.slice a2 bs.length c2) true ls bs) := hr
    obtain ⟨p, hp⟩ : ∃ p, p = ls.length := ⟨_, rfl⟩
    obtain ⟨q, hq⟩ : ∃ q, q = bs.length := ⟨_, rfl⟩
    have HP : Hid (p = ls.length ∧ q = bs.length) := ⟨hp, hq⟩
    rw [← hp, ← hq] at HR1 ⊢
    have hA := as_hit (w.heap.size + 1) true a1 a2 p c1 q c2 _ _ _ w1 ((hg.below hB).below hb1) ((hb1.block (w.heap.size + 1) hz).trans HR.out.2)
    clear h1 hDW hr hp hq
    go_wp2_with fail
    refine hA.mono ?_
    rintro e w2 ⟨rfl, W2, hbW2, hw2⟩
    have hb12 := below_after_of hb1 hbW2
    have hT2 := (hb12.block (w.heap.size + 1) hz).trans HR.out.2
    have hT3 : w2.heap[w.heap.size + 1]? = some (.cells #[.bool true, .slice a1 p c1, .slice a2 q c2] 140) := by
      rw [hw2]
      exact heap_setCell_same _ _ 2 _ _ _ (heap_setCell_same _ _ 1 _ _ _ (heap_setCell_same _ _ 0 _ _ _ hT2))
    have hR2 : w2.heap[w.heap.size]? = some (.cells #[.int .i64 0, .bool false, .slice none 0 0, .slice none 0 0] 35) := by
      rw [hw2, heap_setCell_other _ _ _ _ (by show w.heap.size ≠ w.heap.size + 1; omega), heap_setCell_other _ _ _ _ (by show w.heap.size ≠ w.heap.size + 1; omega), heap_setCell_other _ _ _ _ (by show w.heap.size ≠ w.heap.size + 1; omega)]
      exact (hb12.block w.heap.size (by omega)).trans HR.out.1
    have HR2 : Hid (Rows2 W w2 (.slice a1 p c1) (.slice a2 q c2) true ls bs) := (by rw [hw2]; exact ((((HR1.out.below hbW2).set hz _ _).set hz _ _).set hz _ _) : Rows2 W w2 (.slice a1 p c1) (.slice a2 q c2) true ls bs)
    have hB2 : Below w.heap.size w w2 := by
      rw [hw2]
      exact (((below_after_of hB hb12).setCell (by show w.heap.size ≤ w.heap.size + 1; omega) _).setCell (by show w.heap.size ≤ w.heap.size + 1; omega) _).setCell (by show w.heap.size ≤ w.heap.size + 1; omega) _
    obtain ⟨q0, q1, q2, q3, f0, f1, f2, f3⟩ := four_cells hR2
    obtain ⟨r0, r1, r2, -, -, -⟩ := three_cellsV hT3
    have hz0 : w.heap.size < W.heap.size := by omega
    clear hA hw2 hT2 hT3 hR2 hb1 hbW2 hb12
    go_wp2
    exact bodyPost_ret (v := .agg #[.int .i64 0, .bool true, .slice a1 p c1, .slice a2 q c2]) (by simp [results, Tryz.results50, go_sem, q0, q1, q2, q3]) rfl ⟨(((hB2.setCell (Nat.le_refl _) _).setCell (Nat.le_refl _) _).setCell (Nat.le_refl _) _).setCell (Nat.le_refl _) _, _, _, rfl, ((((HR2.out.set hz0 _ _).set hz0 _ _).set hz0 _ _).set hz0 _ _).under hB.size⟩
end U
end Go.Proofs.YtljbcpkjhnbpeaaGreatDoor
