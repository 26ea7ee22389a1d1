/- Climbing a trail: what the model answers at every argument. -/
import Derived.Test.YtljbcpkjhnbpeaaNp12
namespace Go.Proofs.Ytljbcpkjhnbpeaa
open Go.RowKit
namespace U
set_option maxRecDepth 100000 in
set_option maxHeartbeats 2000000 in
theorem specClimbNew_out (key : Int) (x : Bool) (k y : Int) (sv : Value) (f : Prl) (w : World) (hv : Prs w sv f) (hk : inB key 0 255 = false) :
    Calls Try.prog 14 #[.int .i64 key, .agg #[.bool x, .int .i64 k, .int .i64 y, sv]] w fun e w' => IntAns w 3 0 e w' := by
  have hK := fun w => l4Key_any key w
  rw [hk] at hK
  obtain ⟨ad, c, rfl⟩ := hv.shape
  generalize f.length = n at *
  clear hv hk
  go_enter Try.func14, Try.ntmps14
  go_wp2_with fail
  refine (hK _).mono ?_
  rintro e w1 ⟨rfl, hw1⟩
  subst hw1
  clear hK
  go_wp2
  refine bodyPost_ret (v := .agg #[.int .i64 3, .int .i64 0]) (by simp [results, Try.results14, go_sem]) rfl ⟨rfl, ?_⟩
  exact two_new _ _
set_option maxRecDepth 100000 in
set_option maxHeartbeats 2000000 in
theorem specClimbNew_rest (key : Int) (x : Bool) (k y : Int) (sv : Value) (f : Prl) (w : World) (hv : Prs w sv f) (hk : inB key 0 255 = true) (q r : Int) (hq : (q = tlF x k y f ∧ q ≠ 0 ∧ r = 0) ∨ (tlF x k y f = 0 ∧ q = 0 ∧ r = clV key x k y f)) :
    Calls Try.prog 14 #[.int .i64 key, .agg #[.bool x, .int .i64 k, .int .i64 y, sv]] w fun e w' => IntAns w q r e w' := by
  have hK := fun w => l4Key_any key w
  rw [hk] at hK
  obtain ⟨W, hW⟩ : ∃ W, W = (w.alloc (.cells #[.bool x, .int .i64 k, .int .i64 y, sv] 31)).alloc (.cells #[.int .i64 0, .int .i64 0] 38) := ⟨_, rfl⟩
  have HW : Hid ((w.alloc (.cells #[.bool x, .int .i64 k, .int .i64 y, sv] 31)).alloc (.cells #[.int .i64 0, .int .i64 0] 38) = W) := hW.symm
  have hB : Below w.heap.size w W := by rw [hW]; exact two_new _ _
  have H : TlBlk W w.heap.size x k y sv := by rw [hW]; exact (tl_box w x k y _).below (one_new _)
  have HR : W.heap[w.heap.size + 1]? = some (.cells #[.int .i64 0, .int .i64 0] 38) := by
    have h := heap_alloc_new (w.alloc (.cells #[.bool x, .int .i64 k, .int .i64 y, sv] 31)) (.cells #[.int .i64 0, .int .i64 0] 38)
    rw [World.size_alloc] at h
    rw [hW]
    exact h
  have hr := (Array.getElem?_eq_some_iff.1 HR).1
  have hF := l7Fault_any w.heap.size x k y sv f W H (hv.below hB)
  obtain ⟨ad, c, rfl⟩ := hv.shape
  have hCl : tlF x k y f = 0 → ∀ w', Below W.heap.size W w' → Calls Try.prog 52 #[.int .i64 key, .pointer (some ⟨w.heap.size, 0, none⟩), .int .i64 (f.length : Int)] w' fun e w'' => e = .returned (.int .i64 (clV key x k y f)) ∧ Below w'.heap.size w' w'' := by
    intro h0 w' hb
    have hok := tlF_ok h0
    cases x
    · obtain ⟨rfl, rfl, rfl⟩ := hok.any rfl
      exact l7Climb_none key w.heap.size 0 0 _ _ w' (H.below hb)
    · have hf := fine_bd hok.leaf
      exact l7Climb_some key w.heap.size k y ad f.length c f.length f w' (H.below hb) ((hv.below hB).below hb) rfl (inB_bd hk) hf.1 hf.2 (Nat.le_refl _) hok.len hok.fk
  obtain ⟨t0, t1, t2, t3⟩ := H.cells
  have HC : Hid (∀ w', Below W.heap.size W w' → w'.cell? ⟨w.heap.size, 3, none⟩ = some (.slice ad f.length c)) := fun w' h => (H.below h).cells.2.2.2
  rcases hq with ⟨rfl, hq, rfl⟩ | ⟨hq, rfl, rfl⟩
  · generalize tlF x k y f = q at *
    generalize f.length = len at *
    have hqn : (q != 0) = true := by simpa using hq
    clear hW hv hk hq hCl H
    go_enter Try.func14, Try.ntmps14
    go_wp2_with fail
    rw [HW.out]
    refine (hK _).mono ?_
    rintro e w1 ⟨rfl, rfl⟩
    clear hK
    go_wp2_with fail
    refine hF.mono ?_
    rintro e w2 ⟨rfl, hb2⟩
    obtain ⟨g0, g1, f0, f1⟩ := two_cellsV ((hb2.block (w.heap.size + 1) hr).trans HR)
    have hB2 := below_after_of hB hb2
    clear hF hb2 t0 t1 t2 t3
    go_wp2
    refine bodyPost_ret (v := .agg #[.int .i64 q, .int .i64 0]) (by simp [results, Try.results14, go_sem, *]) rfl ⟨rfl, ?_⟩
    exact (hB2.setCell (Nat.le_succ _) _).setCell (Nat.le_succ _) _
  · have hC := hCl hq
    rw [hq] at hF
    generalize clV key x k y f = r at *
    generalize f.length = len at *
    clear hW hv hk hq hCl H
    go_enter Try.func14, Try.ntmps14
    go_wp2_with fail
    rw [HW.out]
    refine (hK _).mono ?_
    rintro e w1 ⟨rfl, rfl⟩
    clear hK
    go_wp2_with fail
    refine hF.mono ?_
    rintro e w2 ⟨rfl, hb2⟩
    have m3 := HC.out _ hb2
    clear hF t0 t1 t2 t3
    go_wp2_with fail
    refine (hC _ hb2).mono ?_
    rintro e w3 ⟨rfl, hb3⟩
    have hb13 := below_after_of hb2 hb3
    obtain ⟨g0, g1, f0, f1⟩ := two_cellsV ((hb13.block (w.heap.size + 1) hr).trans HR)
    have hB3 := below_after_of hB hb13
    clear hC hb2 hb3 hb13 m3
    go_wp2
    refine bodyPost_ret (v := .agg #[.int .i64 0, .int .i64 r]) (by simp [results, Try.results14, go_sem, *]) rfl ⟨rfl, ?_⟩
    exact (hB3.setCell (Nat.le_succ _) _).setCell (Nat.le_succ _) _
theorem specClimbNew_any (key : Int) (x : Bool) (k y : Int) (sv : Value) (f : Prl) (w : World) (hv : Prs w sv f) :
    Calls Try.prog 14 #[.int .i64 key, .agg #[.bool x, .int .i64 k, .int .i64 y, sv]] w fun e w' => IntAns w (clC key x k y f) (clW key x k y f) e w' := by
  rcases Bool.eq_false_or_eq_true (inB key 0 255) with hk | hk
  · by_cases h : tlF x k y f = 0
    · have hc : clC key x k y f = 0 := by rw [clC_in hk, h]
      rw [hc, clW_ok hc]
      exact specClimbNew_rest key x k y sv f w hv hk _ _ (Or.inr ⟨h, rfl, rfl⟩)
    · have hc : clC key x k y f ≠ 0 := by rw [clC_in hk]; exact h
      rw [clW_no hc]
      exact specClimbNew_rest key x k y sv f w hv hk _ _ (Or.inl ⟨clC_in hk, hc, rfl⟩)
  · rw [clW_no (by rw [clC_out hk]; decide), clC_out hk]
    exact specClimbNew_out key x k y sv f w hv hk
end U
end Go.Proofs.Ytljbcpkjhnbpeaa
