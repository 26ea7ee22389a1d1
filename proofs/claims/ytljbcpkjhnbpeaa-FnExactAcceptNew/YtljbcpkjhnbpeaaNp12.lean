/- Climbing a trail: what the program and the model answer at every argument. -/
import Derived.Test.YtljbcpkjhnbpeaaNp10
import Derived.Test.YtljbcpkjhnbpeaaNp11
namespace Go.Proofs.Ytljbcpkjhnbpeaa
open Go.RowKit
namespace U
def clC (key : Int) (x : Bool) (k y : Int) (f : Prl) : Int := if inB key 0 255 = true then tlF x k y f else 3
def clW (key : Int) (x : Bool) (k y : Int) (f : Prl) : Int := if clC key x k y f = 0 then clV key x k y f else 0
theorem clC_out {key : Int} {x : Bool} {k y : Int} {f : Prl} (h : inB key 0 255 = false) : clC key x k y f = 3 := by unfold clC; rw [h]; rfl
theorem clC_in {key : Int} {x : Bool} {k y : Int} {f : Prl} (h : inB key 0 255 = true) : clC key x k y f = tlF x k y f := by unfold clC; rw [h]; rfl
theorem clW_no {key : Int} {x : Bool} {k y : Int} {f : Prl} (h : clC key x k y f ≠ 0) : clW key x k y f = 0 := if_neg h
theorem clW_ok {key : Int} {x : Bool} {k y : Int} {f : Prl} (h : clC key x k y f = 0) : clW key x k y f = clV key x k y f := if_pos h
set_option maxRecDepth 100000 in
set_option maxHeartbeats 2000000 in
theorem implClimbNew_out (key : Int) (x : Bool) (k y : Int) (sv : Value) (f : Prl) (w : World) (hv : Prs w sv f) (hk : inB key 0 255 = false) :
    Calls Try.prog 12 #[.int .i64 key, .agg #[.bool x, .int .i64 k, .int .i64 y, sv]] w fun e w' => IntAns w 3 0 e w' := by
  have hK := fun w => isKey_any key w
  rw [hk] at hK
  obtain ⟨ad, c, rfl⟩ := hv.shape
  generalize f.length = n at *
  clear hv hk
  go_enter Try.func12, Try.ntmps12
  go_wp2_with fail
  refine (hK _).mono ?_
  rintro e w1 ⟨rfl, hw1⟩
  subst hw1
  clear hK
  go_wp2
  refine bodyPost_ret (v := .agg #[.int .i64 3, .int .i64 0]) (by simp [results, Try.results12, go_sem]) rfl ⟨rfl, ?_⟩
  exact two_new _ _
set_option maxRecDepth 100000 in
set_option maxHeartbeats 2000000 in
theorem implClimbNew_rest (key : Int) (x : Bool) (k y : Int) (sv : Value) (f : Prl) (w : World) (hv : Prs w sv f) (hk : inB key 0 255 = true) (q r : Int) (hq : (q = tlF x k y f ∧ q ≠ 0 ∧ r = 0) ∨ (tlF x k y f = 0 ∧ q = 0 ∧ r = clV key x k y f)) :
    Calls Try.prog 12 #[.int .i64 key, .agg #[.bool x, .int .i64 k, .int .i64 y, sv]] w fun e w' => IntAns w q r e w' := by
  have hK := fun w => isKey_any key w
  have hF := fun w' h => implTrailFault_any x k y sv f w' (hv.below (w' := w') h)
  have hP := fun h0 w' h => trailPieces_any key x k y sv f w' (hv.below (w' := w') h) hk h0
  rw [hk] at hK
  obtain ⟨ad, c, rfl⟩ := hv.shape
  obtain ⟨len, hlp⟩ : ∃ len, len = f.length := ⟨_, rfl⟩
  have HLP : Hid (len = f.length) := hlp
  rw [← hlp] at hF hP ⊢
  obtain ⟨W, hW⟩ : ∃ W, W = (w.alloc (.cells #[.bool x, .int .i64 k, .int .i64 y, .slice ad len c] 31)).alloc (.cells #[.int .i64 0, .int .i64 0] 38) := ⟨_, rfl⟩
  have HW : Hid ((w.alloc (.cells #[.bool x, .int .i64 k, .int .i64 y, .slice ad len c] 31)).alloc (.cells #[.int .i64 0, .int .i64 0] 38) = W) := hW.symm
  have hB : Below w.heap.size w W := by rw [hW]; exact two_new _ _
  have HLL : Hid (W.heap[w.heap.size]? = some (.cells #[.bool x, .int .i64 k, .int .i64 y, .slice ad len c] 31) ∧ W.heap[w.heap.size + 1]? = some (.cells #[.int .i64 0, .int .i64 0] 38)) := (by
    rw [hW]
    have h1 := heap_alloc_new (w.alloc (.cells #[.bool x, .int .i64 k, .int .i64 y, .slice ad len c] 31)) (.cells #[.int .i64 0, .int .i64 0] 38)
    simp only [World.size_alloc] at h1
    exact ⟨((one_new _).block w.heap.size (by simp)).trans (heap_alloc_new w _), h1⟩ : _ ∧ _)
  have hz0 : Hid (w.heap.size + 1 < W.heap.size) := (Array.getElem?_eq_some_iff.1 HLL.out.2).1
  obtain ⟨t0, t1, t2, t3⟩ := TlBlk.cells HLL.out.1
  have HT : Hid (∀ w', Below W.heap.size W w' → TlBlk w' w.heap.size x k y (.slice ad len c)) := fun w' h => TlBlk.below HLL.out.1 h
  rcases hq with ⟨rfl, hq, rfl⟩ | ⟨hq, rfl, rfl⟩
  · generalize tlF x k y f = q at *
    have hqn : (q != 0) = true := by simpa using hq
    clear hW hv hk hq hlp hP
    go_enter Try.func12, Try.ntmps12
    go_wp2_with fail
    rw [HW.out]
    refine (hK _).mono ?_
    rintro e w1 ⟨rfl, rfl⟩
    clear hK
    go_wp2_with fail
    refine (hF _ hB).mono ?_
    rintro e w2 ⟨rfl, hb2⟩
    obtain ⟨g0, g1, f0, f1⟩ := two_cellsV ((hb2.block (w.heap.size + 1) hz0.out).trans HLL.out.2)
    have hB2 := below_after_of hB hb2
    clear hF hb2 t0 t1 t2 t3
    go_wp2
    refine bodyPost_ret (v := .agg #[.int .i64 q, .int .i64 0]) (by simp [results, Try.results12, go_sem, *]) rfl ⟨rfl, ?_⟩
    exact (hB2.setCell (by show w.heap.size ≤ w.heap.size + 1; omega) _).setCell (by show w.heap.size ≤ w.heap.size + 1; omega) _
  · have hPc := hP hq
    have hpb := pcL_bts (key := key) hq (Nat.le_refl _)
    have hpn := pcL_len key x k y f f.length
    have hsm := sm_ok (bs := pcL key f (lfB x k y) f.length) (by omega)
    have hpv : smV (pcL key f (lfB x k y) f.length) = clV key x k y f := by rw [hsm.2, pcL_sum, lfB_sum]; rfl
    have hS := fun v w h => implSumOf_any v (pcL key f (lfB x k y) f.length) w h hpb (by omega)
    rw [hpv, hsm.1] at hS
    have HAT : Hid ((pcsL key x k y f)[len]? = some (pcL key f (lfB x k y) f.length)) := (by rw [hlp]; exact pcsL_at (Nat.le_refl _) : (pcsL key x k y f)[len]? = some (pcL key f (lfB x k y) f.length))
    have HLN : Hid ((pcsL key x k y f).length = len + 1) := (by rw [hlp]; exact pcsL_len _ _ _ _ _ : (pcsL key x k y f).length = len + 1)
    have hle : len ≤ 8 := by rw [hlp]; exact (tlF_ok hq).len
    rw [hq] at hF
    generalize clV key x k y f = r at *
    generalize pcL key f (lfB x k y) f.length = ys at *
    generalize pcsL key x k y f = ps at *
    clear hW hv hk hq hlp hP hpb hpn hsm hpv
    go_enter Try.func12, Try.ntmps12
    go_wp2_with fail
    rw [HW.out]
    refine (hK _).mono ?_
    rintro e w1 ⟨rfl, rfl⟩
    clear hK
    go_wp2_with fail
    refine (hF _ hB).mono ?_
    rintro e w2 ⟨rfl, hb2⟩
    obtain ⟨m0, m1, m2, m3⟩ := (HT.out _ hb2).cells
    clear hF t0 t1 t2 t3
    go_wp2_with fail
    refine (hPc _ (below_after_of hB hb2)).mono ?_
    rintro e w3 ⟨hb3, g, cc, us, rfl, ho3, hr3⟩
    rw [HLN.out] at ho3 ⊢
    obtain ⟨a4, d4, c4, o4⟩ := hr3.at ho3 HAT.out
    have I4 := own_ints o4
    have hb13 := below_after_of hb2 hb3
    have hl1 : (0 : Int) ≤ (len : Int) := by omega
    have hl2 : (len : Int) < ((len + 1 : Nat) : Int) := by omega
    have hl3 : IntKind.i64.wrap (((len + 1 : Nat) : Int) - 1) = (len : Int) := by rw [IntKind.wrap_i64]; omega
    clear hPc hb2 hb3 hr3 m0 m1 m2 m3
    go_wp2_with fail
    refine (hS _ _ I4).mono ?_
    rintro e w4 ⟨rfl, hb4⟩
    have hb14 := below_after_of hb13 hb4
    obtain ⟨g0, g1, f0, f1⟩ := two_cellsV ((hb14.block (w.heap.size + 1) hz0.out).trans HLL.out.2)
    have hB3 := below_after_of hB hb14
    clear hS hb4 hb13 hb14 I4 c4
    go_wp2
    refine bodyPost_ret (v := .agg #[.int .i64 0, .int .i64 r]) (by simp [results, Try.results12, go_sem, *]) rfl ⟨rfl, ?_⟩
    exact (hB3.setCell (by show w.heap.size ≤ w.heap.size + 1; omega) _).setCell (by show w.heap.size ≤ w.heap.size + 1; omega) _
theorem implClimbNew_any (key : Int) (x : Bool) (k y : Int) (sv : Value) (f : Prl) (w : World) (hv : Prs w sv f) :
    Calls Try.prog 12 #[.int .i64 key, .agg #[.bool x, .int .i64 k, .int .i64 y, sv]] w fun e w' => IntAns w (clC key x k y f) (clW key x k y f) e w' := by
  rcases Bool.eq_false_or_eq_true (inB key 0 255) with hk | hk
  · by_cases h : tlF x k y f = 0
    · have hc : clC key x k y f = 0 := by rw [clC_in hk, h]
      rw [hc, clW_ok hc]
      exact implClimbNew_rest key x k y sv f w hv hk _ _ (Or.inr ⟨h, rfl, rfl⟩)
    · have hc : clC key x k y f ≠ 0 := by rw [clC_in hk]; exact h
      rw [clW_no hc]
      exact implClimbNew_rest key x k y sv f w hv hk _ _ (Or.inl ⟨clC_in hk, hc, rfl⟩)
  · rw [clW_no (by rw [clC_out hk]; decide), clC_out hk]
    exact implClimbNew_out key x k y sv f w hv hk
end U
end Go.Proofs.Ytljbcpkjhnbpeaa
