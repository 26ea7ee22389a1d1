/- The law on SaidFault, walked: true, and nothing that was there has turned. -/
import Derived.Test.YtljbcpkjhnbpeaaSdT
import Derived.Test.YtljbcpkjhnbpeaaSl11
import Derived.Test.YtljbcpkjhnbpeaaEqR
import Derived.Deep.RegionHeld3
namespace Go.Proofs.Ytljbcpkjhnbpeaa
open Go.RowKit
namespace U
theorem own_ints_s {w : World} {B n : Nat} {e : TypeId} {v : Value} {xs : List Int} (HN : n = xs.length) (h : w.ownsRow B e 1 v n (xs.map (Value.int .i64))) : Ints .i64 w v xs := by
  subst HN
  exact own_ints h
theorem own_prs_s {w : World} {B n : Nat} {e : TypeId} {v : Value} {l : Prl} (HN : n = l.length) (h : w.ownsRow B e 2 v n ((fl l).map (Value.int .i64))) : Prs w v l := by
  subst HN
  exact own_prs h
set_option maxRecDepth 100000 in
set_option maxHeartbeats 4000000 in
theorem fnExactSaidFault_walk (o t : Bool) (v : Int) (sp : Value) (ps : List Int) (x : Bool) (k y : Int) (sv : Value) (f : Prl) (w : World) (hp : Ints .i64 w sp ps) (hpl : ps.length ≤ maxLen) (hv : Prs w sv f) (hfl : f.length ≤ maxLen) :
    Calls Try.prog 7 #[.agg #[.bool o, .bool t, .int .i64 v, sp, .bool x, .int .i64 k, .int .i64 y, sv]] w fun e w' => e = .returned (.bool true) ∧ Below w.heap.size w w' := by
  obtain ⟨a, c, rfl⟩ := hp.shape
  obtain ⟨a', c', rfl⟩ := hv.shape
  have hZ := fun w => szSaid_gen 1048576 (by omega) o t v a ps.length c x k y a' f.length c' w hpl hfl
  rw [show ((1048576 : Nat) : Int) = 1048576 from rfl] at hZ
  by_cases h : ps.length + f.length ≤ 1048576
  · rw [if_pos h] at hZ
    have hT := fun w' hb => toSaid_any o t v _ ps x k y _ f w' (hp.below (w' := w') hb) (hv.below hb) (by omega) (by omega)
    have hE := fun u u' z z' w' h1 h2 h3 h4 => eqSaid_same o t v u u' ps x k y z z' f w' h1 h2 h3 h4 (by omega) (by omega)
    have hS := fun u z w h1 h2 => specSaidFault_any o t v u ps x k y z f w h1 h2
    have hI := fun u z w h1 h2 => implSaidFault_any o t v u ps x k y z f w h1 h2 (by omega) (by omega)
    have h2 : ¬ ((1048576 - ps.length - f.length : Int) < 0) := by omega
    generalize sdC o t v ps.length (tlZ x k y f) = q at *
    have hqq : (q != q) = false := by simp
    generalize (1048576 - ps.length - f.length : Int) = z at *
    obtain ⟨pn, hpn⟩ : ∃ pn, pn = ps.length := ⟨_, rfl⟩
    obtain ⟨fn, hfn⟩ : ∃ fn, fn = f.length := ⟨_, rfl⟩
    have HPN : Hid (pn = ps.length) := hpn
    have HFN : Hid (fn = f.length) := hfn
    rw [← hpn, ← hfn] at hZ hT ⊢
    clear hpn hfn hp hv hpl hfl h
    obtain ⟨W, hW⟩ : ∃ W, W = w.alloc (.cells #[.bool o, .bool t, .int .i64 v, .slice a pn c, .bool x, .int .i64 k, .int .i64 y, .slice a' fn c'] 64) := ⟨_, rfl⟩
    have HW : Hid (w.alloc (.cells #[.bool o, .bool t, .int .i64 v, .slice a pn c, .bool x, .int .i64 k, .int .i64 y, .slice a' fn c'] 64) = W) := hW.symm
    have hb0 : Below w.heap.size w W := by rw [hW]; exact one_new _
    have HA : W.heap[w.heap.size]? = some (.cells #[.bool o, .bool t, .int .i64 v, .slice a pn c, .bool x, .int .i64 k, .int .i64 y, .slice a' fn c'] 64) := by rw [hW]; exact heap_alloc_new w _
    have hlt : w.heap.size < W.heap.size := (Array.getElem?_eq_some_iff.1 HA).1
    have HAA : Hid (∀ w', Below W.heap.size W w' → w'.heap[w.heap.size]? = some (.cells #[.bool o, .bool t, .int .i64 v, .slice a pn c, .bool x, .int .i64 k, .int .i64 y, .slice a' fn c'] 64)) := fun w' hb => (hb.block w.heap.size hlt).trans HA
    obtain ⟨⟨p0, p1, p2, p3, p4, p5, p6, p7⟩, -⟩ := eight_cells HA
    clear hW HA
    go_enter Try.func7, Try.ntmps7
    go_wp2_with fail
    rw [HW.out]
    refine (hZ _).mono ?_
    rintro e w0 ⟨rfl, hbz⟩
    obtain ⟨⟨b0, b1, b2, b3, b4, b5, b6, b7⟩, -⟩ := eight_cells (HAA.out _ hbz)
    clear hZ p0 p1 p2 p3 p4 p5 p6 p7
    go_wp2_with fail
    refine (hT _ (below_after_of hb0 hbz)).mono ?_
    rintro e w1 ⟨a1, c1, a1', c1', rfl, hB1, o1, o1'⟩
    have hC1 := below_after_of hbz hB1
    clear hbz hB1 b0 b1 b2 b3 b4 b5 b6 b7
    go_wp2_with fail
    refine (hS _ _ _ (own_ints_s HPN.out o1) (own_prs_s HFN.out o1')).mono ?_
    rintro e w2 ⟨rfl, hb2⟩
    have hC2 := below_after_of hC1 hb2
    clear o1 o1' hC1 hS hb2
    obtain ⟨⟨b0, b1, b2, b3, b4, b5, b6, b7⟩, -⟩ := eight_cells (HAA.out _ hC2)
    go_wp2_with fail
    refine (hT _ (below_after_of hb0 hC2)).mono ?_
    rintro e w3 ⟨a3, c3, a3', c3', rfl, hb3, o3, o3'⟩
    have hC3 := below_after_of hC2 hb3
    have P3 := own_ints_s HPN.out o3
    have P3' := own_prs_s HFN.out o3'
    clear hb3 o3 o3' hC2 b0 b1 b2 b3 b4 b5 b6 b7
    have hx3 := heap_alloc_new w3 (.cells #[.bool o, .bool t, .int .i64 v, .slice a3 pn c3, .bool x, .int .i64 k, .int .i64 y, .slice a3' fn c3'] 68)
    have hlx : w3.heap.size < (w3.alloc (.cells #[.bool o, .bool t, .int .i64 v, .slice a3 pn c3, .bool x, .int .i64 k, .int .i64 y, .slice a3' fn c3'] 68)).heap.size := by simp
    go_wp2_with fail
    refine (hI _ _ _ (P3.below (one_new _)) (P3'.below (one_new _))).mono ?_
    rintro e w4 ⟨rfl, hb4⟩
    have hX4 := (hb4.block w3.heap.size hlx).trans hx3
    have P4 := (P3.below (one_new _)).below hb4
    have P4' := (P3'.below (one_new _)).below hb4
    have hC4 := below_after_of (hC3.alloc hC3.size _) hb4
    have hz4 : w3.heap.size < w4.heap.size := Nat.lt_of_lt_of_le hlx hb4.size
    clear P3 P3' hI hC3 hb4 hx3 hlx
    obtain ⟨⟨b0, b1, b2, b3, b4, b5, b6, b7⟩, -⟩ := eight_cells (HAA.out _ hC4)
    obtain ⟨⟨e0, e1, e2, e3, e4, e5, e6, e7⟩, -⟩ := eight_cells hX4
    have hbr := Below.refl w4.heap.size w4
    have HC : Hid (∀ w', Below w4.heap.size w4 w' → (w'.cell? ⟨w.heap.size, 0, none⟩ = some (.bool o) ∧ w'.cell? ⟨w.heap.size, 1, none⟩ = some (.bool t) ∧ w'.cell? ⟨w.heap.size, 2, none⟩ = some (.int .i64 v) ∧ w'.cell? ⟨w.heap.size, 3, none⟩ = some (.slice a pn c) ∧ w'.cell? ⟨w.heap.size, 4, none⟩ = some (.bool x) ∧ w'.cell? ⟨w.heap.size, 5, none⟩ = some (.int .i64 k) ∧ w'.cell? ⟨w.heap.size, 6, none⟩ = some (.int .i64 y) ∧ w'.cell? ⟨w.heap.size, 7, none⟩ = some (.slice a' fn c')) ∧ (w'.cell? ⟨w3.heap.size, 0, none⟩ = some (.bool o) ∧ w'.cell? ⟨w3.heap.size, 1, none⟩ = some (.bool t) ∧ w'.cell? ⟨w3.heap.size, 2, none⟩ = some (.int .i64 v) ∧ w'.cell? ⟨w3.heap.size, 3, none⟩ = some (.slice a3 pn c3) ∧ w'.cell? ⟨w3.heap.size, 4, none⟩ = some (.bool x) ∧ w'.cell? ⟨w3.heap.size, 5, none⟩ = some (.int .i64 k) ∧ w'.cell? ⟨w3.heap.size, 6, none⟩ = some (.int .i64 y) ∧ w'.cell? ⟨w3.heap.size, 7, none⟩ = some (.slice a3' fn c3'))) := fun w' h => ⟨(eight_cells (HAA.out _ (below_after_of hC4 h))).1, (eight_cells ((h.block w3.heap.size hz4).trans hX4)).1⟩
    go_wp2_with fail
    go_region_held3 (fun w' => (w'.cell? ⟨w.heap.size, 0, none⟩ = some (.bool o) ∧ w'.cell? ⟨w.heap.size, 1, none⟩ = some (.bool t) ∧ w'.cell? ⟨w.heap.size, 2, none⟩ = some (.int .i64 v) ∧ w'.cell? ⟨w.heap.size, 3, none⟩ = some (.slice a pn c) ∧ w'.cell? ⟨w.heap.size, 4, none⟩ = some (.bool x) ∧ w'.cell? ⟨w.heap.size, 5, none⟩ = some (.int .i64 k) ∧ w'.cell? ⟨w.heap.size, 6, none⟩ = some (.int .i64 y) ∧ w'.cell? ⟨w.heap.size, 7, none⟩ = some (.slice a' fn c')) ∧ (w'.cell? ⟨w3.heap.size, 0, none⟩ = some (.bool o) ∧ w'.cell? ⟨w3.heap.size, 1, none⟩ = some (.bool t) ∧ w'.cell? ⟨w3.heap.size, 2, none⟩ = some (.int .i64 v) ∧ w'.cell? ⟨w3.heap.size, 3, none⟩ = some (.slice a3 pn c3) ∧ w'.cell? ⟨w3.heap.size, 4, none⟩ = some (.bool x) ∧ w'.cell? ⟨w3.heap.size, 5, none⟩ = some (.int .i64 k) ∧ w'.cell? ⟨w3.heap.size, 6, none⟩ = some (.int .i64 y) ∧ w'.cell? ⟨w3.heap.size, 7, none⟩ = some (.slice a3' fn c3')))
      (first | exact HC.out _ hbr | exact HC.out _ hbr.drew)
      (first
        | (go_at_call 34; refine (hT _ (below_after_of hb0 (below_after_of hC4 (by first | exact hbr | exact hbr.drew)))).mono ?_; rintro e w6 ⟨a6, c6, a6', c6', rfl, hb6, o6, o6'⟩; have hbr : Below w4.heap.size w4 w6 := (by first | exact below_after_of hbr hb6 | exact below_after_of hbr.drew hb6))
        | (go_at_call 36; refine (hE _ _ _ _ _ (P4.below hbr) (own_ints_s HPN.out o6) (P4'.below hbr) (own_prs_s HFN.out o6')).mono ?_; rintro e w7 ⟨rfl, hb7⟩; have hbr : Below w4.heap.size w4 w7 := below_after_of hbr hb7))
    have hB7 := below_after_of hb0 (below_after_of hC4 hbr)
    go_wp2
    go_ret
    exact ⟨rfl, hB7⟩
  · rw [if_neg h] at hZ
    generalize ps.length = pn at *
    generalize f.length = fn at *
    clear hp hv
    go_enter Try.func7, Try.ntmps7
    go_wp2_with fail
    refine (hZ _).mono ?_
    rintro e w0 ⟨rfl, hbz⟩
    have hB := below_after hbz
    clear hZ hbz
    go_wp2
    go_ret
    exact ⟨rfl, hB⟩
end U
end Go.Proofs.Ytljbcpkjhnbpeaa
