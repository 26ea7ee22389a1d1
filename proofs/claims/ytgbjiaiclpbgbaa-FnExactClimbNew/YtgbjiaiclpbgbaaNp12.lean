/- Climbing a trail: what the program and the model answer at every argument. -/
import Derived.Test.YtgbjiaiclpbgbaaNp10
import Derived.Test.YtgbjiaiclpbgbaaNp11
namespace Go.Proofs.Ytgbjiaiclpbgbaa
open Go.RowKit
namespace U
def clC (key : Int) (x : Bool) (k y : Int) (f : Prl) : Int := if inB key 0 255 = true then tlF x k y f else 3
def clW (key : Int) (x : Bool) (k y : Int) (f : Prl) : Int := if clC key x k y f = 0 then clV key x k y f else 0
theorem clC_out {key : Int} {x : Bool} {k y : Int} {f : Prl} (h : inB key 0 255 = false) : clC key x k y f = 3 := by unfold clC; rw [h]; rfl
theorem clC_in {key : Int} {x : Bool} {k y : Int} {f : Prl} (h : inB key 0 255 = true) : clC key x k y f = tlF x k y f := by unfold clC; rw [h]; rfl
theorem clW_no {key : Int} {x : Bool} {k y : Int} {f : Prl} (h : clC key x k y f ≠ 0) : clW key x k y f = 0 := if_neg h
theorem clW_ok {key : Int} {x : Bool} {k y : Int} {f : Prl} (h : clC key x k y f = 0) : clW key x k y f = clV key x k y f := if_pos h
set_option maxRecDepth 100000 in
set_option maxHeartbeats 2000000 in
theorem implClimbNew_out (key : Int) (x : Bool) (k y : Int) (sv : Value) (f : Prl) (w : World) (hv : Prs w sv f) (hk : inB key 0 255 = false) :
    Calls Try.prog 14 #[.int .i64 key, .agg #[.bool x, .int .i64 k, .int .i64 y, sv]] w fun e w' => IntAns w 3 0 e w' := by
  have hK := fun w => isKey_any key w
  rw [hk] at hK
  obtain ⟨ad, c, rfl⟩ := hv.shape
  generalize f.length = n at *
  clear hv hk
  go_enter Try.func14, Try.ntmps14
  go_wp2_with fail
  refine (hK _).mono ?_
  rintro e w1 ⟨rfl, hw1⟩
  have HW1 : Hid (w1 = _) := hw1
  subst hw1
  clear hK HW1
  go_wp2
  refine bodyPost_ret (v := .agg #[.int .i64 3, .int .i64 0]) (by simp [results, Try.results14, go_sem]) rfl ⟨rfl, ?_⟩
  exact ((one_new _).alloc (one_new _).size _).alloc ((one_new _).alloc (one_new _).size _).size _
set_option maxRecDepth 100000 in
set_option maxHeartbeats 2000000 in
theorem implClimbNew_rest (key : Int) (x : Bool) (k y : Int) (sv : Value) (f : Prl) (w : World) (hv : Prs w sv f) (hk : inB key 0 255 = true) (q r : Int) (hq : (q = tlF x k y f ∧ q ≠ 0 ∧ r = 0) ∨ (tlF x k y f = 0 ∧ q = 0 ∧ x = false ∧ r = sumL (tagL 9 []))) :
    Calls Try.prog 14 #[.int .i64 key, .agg #[.bool x, .int .i64 k, .int .i64 y, sv]] w fun e w' => IntAns w q r e w' := by
  have hK := fun w => isKey_any key w
  have hF := fun w' h => implTrailFault_any x k y sv f w' (hv.below (w' := w') h)
  have hSm := (trieSum_any (t := Tr.none) trivial).c
  rw [Tr.val_none, show Tr.none.sum = sumL (tagL 9 []) from rfl] at hSm
  rw [hk] at hK
  obtain ⟨ad, c, rfl⟩ := hv.shape
  generalize f.length = len at *
  obtain ⟨W, hW⟩ : ∃ W, W = ((w.alloc (.cells #[.int .i64 key] 2)).alloc (.cells #[.bool x, .int .i64 k, .int .i64 y, .slice ad len c] 31)).alloc (.cells #[.int .i64 0, .int .i64 0] 38) := ⟨_, rfl⟩
  have HW : Hid (((w.alloc (.cells #[.int .i64 key] 2)).alloc (.cells #[.bool x, .int .i64 k, .int .i64 y, .slice ad len c] 31)).alloc (.cells #[.int .i64 0, .int .i64 0] 38) = W) := hW.symm
  have hB : Below w.heap.size w W := by rw [hW]; exact ((one_new _).alloc (one_new _).size _).alloc ((one_new _).alloc (one_new _).size _).size _
  have HLL : Hid (W.heap[w.heap.size]? = some (.cells #[.int .i64 key] 2) ∧ W.heap[w.heap.size + 1]? = some (.cells #[.bool x, .int .i64 k, .int .i64 y, .slice ad len c] 31) ∧ W.heap[w.heap.size + 1 + 1]? = some (.cells #[.int .i64 0, .int .i64 0] 38)) := (by
    rw [hW]
    have h1 := heap_alloc_new (w.alloc (.cells #[.int .i64 key] 2)) (.cells #[.bool x, .int .i64 k, .int .i64 y, .slice ad len c] 31)
    have h2 := heap_alloc_new ((w.alloc (.cells #[.int .i64 key] 2)).alloc (.cells #[.bool x, .int .i64 k, .int .i64 y, .slice ad len c] 31)) (.cells #[.int .i64 0, .int .i64 0] 38)
    simp only [World.size_alloc] at h1 h2
    exact ⟨((two_new _ _).block w.heap.size (by simp)).trans (heap_alloc_new w _), ((one_new _).block (w.heap.size + 1) (by simp)).trans h1, h2⟩ : _ ∧ _ ∧ _)
  have hz0 : Hid (w.heap.size + 1 + 1 < W.heap.size) := (Array.getElem?_eq_some_iff.1 HLL.out.2.2).1
  have k0 := box1_cell HLL.out.1
  obtain ⟨t0, t1, t2, t3⟩ := TlBlk.cells HLL.out.2.1
  rcases hq with ⟨rfl, hq, rfl⟩ | ⟨hq, rfl, rfl, rfl⟩
  · generalize tlF x k y f = q at *
    have hqn : (q != 0) = true := by simpa using hq
    clear hW hv hk hSm hq
    go_enter Try.func14, Try.ntmps14
    go_wp2_with fail
    rw [HW.out]
    refine (hK _).mono ?_
    rintro e w1 ⟨rfl, rfl⟩
    clear hK
    go_wp2_with fail
    refine (hF _ hB).mono ?_
    rintro e w2 ⟨rfl, hb2⟩
    obtain ⟨g0, g1, f0, f1⟩ := two_cellsV ((hb2.block (w.heap.size + 1 + 1) hz0.out).trans HLL.out.2.2)
    have hB2 := below_after_of hB hb2
    clear hF hb2 k0 t0 t1 t2 t3
    go_wp2
    refine bodyPost_ret (v := .agg #[.int .i64 q, .int .i64 0]) (by simp [results, Try.results14, go_sem, *]) rfl ⟨rfl, ?_⟩
    exact (hB2.setCell (by show w.heap.size ≤ w.heap.size + 1 + 1; omega) _).setCell (by show w.heap.size ≤ w.heap.size + 1 + 1; omega) _
  · rw [hq] at hF
    generalize sumL (tagL 9 []) = r at *
    clear hW hv hk hq
    go_enter Try.func14, Try.ntmps14
    go_wp2_with fail
    rw [HW.out]
    refine (hK _).mono ?_
    rintro e w1 ⟨rfl, rfl⟩
    clear hK
    go_wp2_with fail
    refine (hF _ hB).mono ?_
    rintro e w2 ⟨rfl, hb2⟩
    have m0 := (hb2.cell (p := ⟨w.heap.size + 1, 0, none⟩) (by have := hz0.out; show w.heap.size + 1 < w1.heap.size; omega)).trans t0
    clear hF
    go_wp2_with fail
    refine (hSm _).mono ?_
    rintro e w3 ⟨rfl, hb3⟩
    have hb13 := below_after_of hb2 hb3
    obtain ⟨g0, g1, f0, f1⟩ := two_cellsV ((hb13.block (w.heap.size + 1 + 1) hz0.out).trans HLL.out.2.2)
    have hB3 := below_after_of hB hb13
    clear hSm hb2 hb3 hb13 k0 t0 t1 t2 t3 m0
    go_wp2
    refine bodyPost_ret (v := .agg #[.int .i64 0, .int .i64 r]) (by simp [results, Try.results14, go_sem, *]) rfl ⟨rfl, ?_⟩
    exact (hB3.setCell (by show w.heap.size ≤ w.heap.size + 1 + 1; omega) _).setCell (by show w.heap.size ≤ w.heap.size + 1 + 1; omega) _
theorem implClimbNew_any (key : Int) (x : Bool) (k y : Int) (sv : Value) (f : Prl) (w : World) (hv : Prs w sv f) :
    Calls Try.prog 14 #[.int .i64 key, .agg #[.bool x, .int .i64 k, .int .i64 y, sv]] w fun e w' => IntAns w (clC key x k y f) (clW key x k y f) e w' := by
  rcases Bool.eq_false_or_eq_true (inB key 0 255) with hk | hk
  · by_cases h : tlF x k y f = 0
    · have hc : clC key x k y f = 0 := by rw [clC_in hk, h]
      rw [hc, clW_ok hc]
      cases x
      · obtain ⟨rfl, rfl, rfl⟩ := (tlF_ok h).any rfl
        exact implClimbNew_rest key false 0 0 sv [] w hv hk _ _ (Or.inr ⟨h, rfl, rfl, rfl⟩)
      · exact implClimbNew_some key k y sv f w hv hk h
    · have hc : clC key x k y f ≠ 0 := by rw [clC_in hk]; exact h
      rw [clW_no hc]
      exact implClimbNew_rest key x k y sv f w hv hk _ _ (Or.inl ⟨clC_in hk, hc, rfl⟩)
  · rw [clW_no (by rw [clC_out hk]; decide), clC_out hk]
    exact implClimbNew_out key x k y sv f w hv hk
end U
end Go.Proofs.Ytgbjiaiclpbgbaa
