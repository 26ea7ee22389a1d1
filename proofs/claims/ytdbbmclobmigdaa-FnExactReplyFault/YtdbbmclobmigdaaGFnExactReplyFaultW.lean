/- The law on ReplyFault, walked: true, and nothing that was there has turned. -/
import Derived.Test.YtdbbmclobmigdaaGRp1
import Derived.Test.YtdbbmclobmigdaaGRp2
import Derived.Test.YtdbbmclobmigdaaGRpE
import Derived.Test.YtdbbmclobmigdaaGEqR
import Derived.Deep.RegionHeld3
namespace Go.Proofs.Ytdbbmclobmigdaa
open Go.RowKit
namespace U
theorem own_ints_rp {w : World} {B n : Nat} {e : TypeId} {v : Value} {xs : List Int} (HN : n = xs.length) (h : w.ownsRow B e 1 v n (xs.map (Value.int .i64))) : Ints .i64 w v xs := by
  subst HN
  exact own_ints h
theorem own_prs_rp {w : World} {B n : Nat} {e : TypeId} {v : Value} {l : Prl} (HN : n = l.length) (h : w.ownsRow B e 2 v n ((fl l).map (Value.int .i64))) : Prs w v l := by
  subst HN
  exact own_prs h
set_option maxRecDepth 100000 in
set_option maxHeartbeats 4000000 in
theorem fnExactReplyFault_walk (e : Int) (hl : Bool) (l : ByteArray) (v o p : Int) (so st : Bool) (sv : Int) (sp : Value) (ps : List Int) (sx : Bool) (sk sy : Int) (sf : Value) (f : Prl) (w : World) (hs : l.size ≤ maxLen) (hp : Ints .i64 w sp ps) (hpl : ps.length ≤ maxLen) (hv : Prs w sf f) (hfl : f.length ≤ maxLen) :
    Calls Try.prog 3 #[.agg #[.int .i64 e, .bool hl, .string l, .int .i64 v, .int .i64 o, .int .i64 p, .bool so, .bool st, .int .i64 sv, sp, .bool sx, .int .i64 sk, .int .i64 sy, sf]] w fun x w' => x = .returned (.bool true) ∧ Below w.heap.size w w' := by
  obtain ⟨a, c, rfl⟩ := hp.shape
  obtain ⟨a', c', rfl⟩ := hv.shape
  have hZ := fun w => szReply_any e hl l v o p so st sv a ps.length c sx sk sy a' f.length c' w hs hpl hfl
  by_cases h : l.size + ps.length + f.length ≤ 1048576
  · rw [if_pos h] at hZ
    have hT := fun w' hb => toReply_any e hl l v o p so st sv _ ps sx sk sy _ f w' (hp.below (w' := w') hb) (hv.below hb) (by omega) (by omega)
    have hE := fun u u' z z' w' h1 h2 h3 h4 => eqReply_same e hl l v o p so st sv u u' ps sx sk sy z z' f w' h1 h2 h3 h4 (by omega) (by omega)
    have hS := fun u z w h1 h2 => specReplyFault_any e hl l v o p so st sv u ps sx sk sy z f w h1 h2 (by omega)
    have hI := fun u z w h1 h2 => implReplyFault_any e hl l v o p so st sv u ps sx sk sy z f w h1 h2 (by omega) (by omega) (by omega)
    have h2 : ¬ ((1048576 - l.size - ps.length - f.length : Int) < 0) := by omega
    generalize rpC e hl l v o p st sv (sdC so st sv ps.length (tlZ sx sk sy f)) = q at *
    have hqq : (q != q) = false := by simp
    generalize (1048576 - l.size - ps.length - f.length : Int) = z at *
    unfold rpV at hT hE hS hI
    obtain ⟨pn, hpn⟩ : ∃ pn, pn = ps.length := ⟨_, rfl⟩
    obtain ⟨fn, hfn⟩ : ∃ fn, fn = f.length := ⟨_, rfl⟩
    have HPN : Hid (pn = ps.length) := hpn
    have HFN : Hid (fn = f.length) := hfn
    rw [← hpn, ← hfn] at hZ hT ⊢
    clear hpn hfn hp hv hpl hfl h hs
    obtain ⟨W, hW⟩ : ∃ W, W = w.alloc (.cells #[.int .i64 e, .bool hl, .string l, .int .i64 v, .int .i64 o, .int .i64 p, .bool so, .bool st, .int .i64 sv, .slice a pn c, .bool sx, .int .i64 sk, .int .i64 sy, .slice a' fn c'] 33) := ⟨_, rfl⟩
    have HW : Hid (w.alloc (.cells #[.int .i64 e, .bool hl, .string l, .int .i64 v, .int .i64 o, .int .i64 p, .bool so, .bool st, .int .i64 sv, .slice a pn c, .bool sx, .int .i64 sk, .int .i64 sy, .slice a' fn c'] 33) = W) := hW.symm
    have hb0 : Below w.heap.size w W := by rw [hW]; exact one_new _
    have HA : W.heap[w.heap.size]? = some (.cells #[.int .i64 e, .bool hl, .string l, .int .i64 v, .int .i64 o, .int .i64 p, .bool so, .bool st, .int .i64 sv, .slice a pn c, .bool sx, .int .i64 sk, .int .i64 sy, .slice a' fn c'] 33) := by rw [hW]; exact heap_alloc_new w _
    have hlt : w.heap.size < W.heap.size := (Array.getElem?_eq_some_iff.1 HA).1
    have HAA : Hid (∀ w', Below W.heap.size W w' → w'.heap[w.heap.size]? = some (.cells #[.int .i64 e, .bool hl, .string l, .int .i64 v, .int .i64 o, .int .i64 p, .bool so, .bool st, .int .i64 sv, .slice a pn c, .bool sx, .int .i64 sk, .int .i64 sy, .slice a' fn c'] 33)) := fun w' hb => (hb.block w.heap.size hlt).trans HA
    obtain ⟨⟨p0, p1, p2, p3, p4, p5, p6, p7, p8, p9, p10, p11, p12, p13⟩, -⟩ := fourteen HA
    clear hW HA
    go_enter Try.func3, Try.ntmps3
    go_wp2_with fail
    rw [HW.out]
    refine (hZ _).mono ?_
    rintro x w0 ⟨rfl, hbz⟩
    obtain ⟨⟨b0, b1, b2, b3, b4, b5, b6, b7, b8, b9, b10, b11, b12, b13⟩, -⟩ := fourteen (HAA.out _ hbz)
    clear hZ p0 p1 p2 p3 p4 p5 p6 p7 p8 p9 p10 p11 p12 p13
    go_wp2_with fail
    refine (hT _ (below_after_of hb0 hbz)).mono ?_
    rintro x w1 ⟨a1, c1, a1', c1', rfl, hB1, o1, o1'⟩
    have hC1 := below_after_of hbz hB1
    clear hbz hB1 b0 b1 b2 b3 b4 b5 b6 b7 b8 b9 b10 b11 b12 b13
    go_wp2_with fail
    refine (hS _ _ _ (own_ints_rp HPN.out o1) (own_prs_rp HFN.out o1')).mono ?_
    rintro x w2 ⟨rfl, hb2⟩
    have hC2 := below_after_of hC1 hb2
    clear o1 o1' hC1 hS hb2
    obtain ⟨⟨b0, b1, b2, b3, b4, b5, b6, b7, b8, b9, b10, b11, b12, b13⟩, -⟩ := fourteen (HAA.out _ hC2)
    go_wp2_with fail
    refine (hT _ (below_after_of hb0 hC2)).mono ?_
    rintro x w3 ⟨a3, c3, a3', c3', rfl, hb3, o3, o3'⟩
    have hC3 := below_after_of hC2 hb3
    have P3 := own_ints_rp HPN.out o3
    have P3' := own_prs_rp HFN.out o3'
    clear hb3 o3 o3' hC2 b0 b1 b2 b3 b4 b5 b6 b7 b8 b9 b10 b11 b12 b13
    have hx3 := heap_alloc_new w3 (.cells #[.int .i64 e, .bool hl, .string l, .int .i64 v, .int .i64 o, .int .i64 p, .bool so, .bool st, .int .i64 sv, .slice a3 pn c3, .bool sx, .int .i64 sk, .int .i64 sy, .slice a3' fn c3'] 44)
    have hlx : w3.heap.size < (w3.alloc (.cells #[.int .i64 e, .bool hl, .string l, .int .i64 v, .int .i64 o, .int .i64 p, .bool so, .bool st, .int .i64 sv, .slice a3 pn c3, .bool sx, .int .i64 sk, .int .i64 sy, .slice a3' fn c3'] 44)).heap.size := by simp
    go_wp2_with fail
    refine (hI _ _ _ (P3.below (one_new _)) (P3'.below (one_new _))).mono ?_
    rintro x w4 ⟨rfl, hb4⟩
    have hX4 := (hb4.block w3.heap.size hlx).trans hx3
    have P4 := (P3.below (one_new _)).below hb4
    have P4' := (P3'.below (one_new _)).below hb4
    have hC4 := below_after_of (hC3.alloc hC3.size _) hb4
    have hz4 : w3.heap.size < w4.heap.size := Nat.lt_of_lt_of_le hlx hb4.size
    clear P3 P3' hI hC3 hb4 hx3 hlx
    obtain ⟨⟨b0, b1, b2, b3, b4, b5, b6, b7, b8, b9, b10, b11, b12, b13⟩, -⟩ := fourteen (HAA.out _ hC4)
    obtain ⟨⟨k0, k1, k2, k3, k4, k5, k6, k7, k8, k9, k10, k11, k12, k13⟩, -⟩ := fourteen hX4
    have hbr := Below.refl w4.heap.size w4
    have HC : Hid (∀ w', Below w4.heap.size w4 w' → (w'.cell? ⟨w.heap.size, 0, none⟩ = some (.int .i64 e) ∧ w'.cell? ⟨w.heap.size, 1, none⟩ = some (.bool hl) ∧ w'.cell? ⟨w.heap.size, 2, none⟩ = some (.string l) ∧ w'.cell? ⟨w.heap.size, 3, none⟩ = some (.int .i64 v) ∧ w'.cell? ⟨w.heap.size, 4, none⟩ = some (.int .i64 o) ∧ w'.cell? ⟨w.heap.size, 5, none⟩ = some (.int .i64 p) ∧ w'.cell? ⟨w.heap.size, 6, none⟩ = some (.bool so) ∧ w'.cell? ⟨w.heap.size, 7, none⟩ = some (.bool st) ∧ w'.cell? ⟨w.heap.size, 8, none⟩ = some (.int .i64 sv) ∧ w'.cell? ⟨w.heap.size, 9, none⟩ = some (.slice a pn c) ∧ w'.cell? ⟨w.heap.size, 10, none⟩ = some (.bool sx) ∧ w'.cell? ⟨w.heap.size, 11, none⟩ = some (.int .i64 sk) ∧ w'.cell? ⟨w.heap.size, 12, none⟩ = some (.int .i64 sy) ∧ w'.cell? ⟨w.heap.size, 13, none⟩ = some (.slice a' fn c')) ∧ (w'.cell? ⟨w3.heap.size, 0, none⟩ = some (.int .i64 e) ∧ w'.cell? ⟨w3.heap.size, 1, none⟩ = some (.bool hl) ∧ w'.cell? ⟨w3.heap.size, 2, none⟩ = some (.string l) ∧ w'.cell? ⟨w3.heap.size, 3, none⟩ = some (.int .i64 v) ∧ w'.cell? ⟨w3.heap.size, 4, none⟩ = some (.int .i64 o) ∧ w'.cell? ⟨w3.heap.size, 5, none⟩ = some (.int .i64 p) ∧ w'.cell? ⟨w3.heap.size, 6, none⟩ = some (.bool so) ∧ w'.cell? ⟨w3.heap.size, 7, none⟩ = some (.bool st) ∧ w'.cell? ⟨w3.heap.size, 8, none⟩ = some (.int .i64 sv) ∧ w'.cell? ⟨w3.heap.size, 9, none⟩ = some (.slice a3 pn c3) ∧ w'.cell? ⟨w3.heap.size, 10, none⟩ = some (.bool sx) ∧ w'.cell? ⟨w3.heap.size, 11, none⟩ = some (.int .i64 sk) ∧ w'.cell? ⟨w3.heap.size, 12, none⟩ = some (.int .i64 sy) ∧ w'.cell? ⟨w3.heap.size, 13, none⟩ = some (.slice a3' fn c3'))) := fun w' h => ⟨(fourteen (HAA.out _ (below_after_of hC4 h))).1, (fourteen ((h.block w3.heap.size hz4).trans hX4)).1⟩
    go_wp2_with fail
    go_region_held3 (fun w' => (w'.cell? ⟨w.heap.size, 0, none⟩ = some (.int .i64 e) ∧ w'.cell? ⟨w.heap.size, 1, none⟩ = some (.bool hl) ∧ w'.cell? ⟨w.heap.size, 2, none⟩ = some (.string l) ∧ w'.cell? ⟨w.heap.size, 3, none⟩ = some (.int .i64 v) ∧ w'.cell? ⟨w.heap.size, 4, none⟩ = some (.int .i64 o) ∧ w'.cell? ⟨w.heap.size, 5, none⟩ = some (.int .i64 p) ∧ w'.cell? ⟨w.heap.size, 6, none⟩ = some (.bool so) ∧ w'.cell? ⟨w.heap.size, 7, none⟩ = some (.bool st) ∧ w'.cell? ⟨w.heap.size, 8, none⟩ = some (.int .i64 sv) ∧ w'.cell? ⟨w.heap.size, 9, none⟩ = some (.slice a pn c) ∧ w'.cell? ⟨w.heap.size, 10, none⟩ = some (.bool sx) ∧ w'.cell? ⟨w.heap.size, 11, none⟩ = some (.int .i64 sk) ∧ w'.cell? ⟨w.heap.size, 12, none⟩ = some (.int .i64 sy) ∧ w'.cell? ⟨w.heap.size, 13, none⟩ = some (.slice a' fn c')) ∧ (w'.cell? ⟨w3.heap.size, 0, none⟩ = some (.int .i64 e) ∧ w'.cell? ⟨w3.heap.size, 1, none⟩ = some (.bool hl) ∧ w'.cell? ⟨w3.heap.size, 2, none⟩ = some (.string l) ∧ w'.cell? ⟨w3.heap.size, 3, none⟩ = some (.int .i64 v) ∧ w'.cell? ⟨w3.heap.size, 4, none⟩ = some (.int .i64 o) ∧ w'.cell? ⟨w3.heap.size, 5, none⟩ = some (.int .i64 p) ∧ w'.cell? ⟨w3.heap.size, 6, none⟩ = some (.bool so) ∧ w'.cell? ⟨w3.heap.size, 7, none⟩ = some (.bool st) ∧ w'.cell? ⟨w3.heap.size, 8, none⟩ = some (.int .i64 sv) ∧ w'.cell? ⟨w3.heap.size, 9, none⟩ = some (.slice a3 pn c3) ∧ w'.cell? ⟨w3.heap.size, 10, none⟩ = some (.bool sx) ∧ w'.cell? ⟨w3.heap.size, 11, none⟩ = some (.int .i64 sk) ∧ w'.cell? ⟨w3.heap.size, 12, none⟩ = some (.int .i64 sy) ∧ w'.cell? ⟨w3.heap.size, 13, none⟩ = some (.slice a3' fn c3')))
      (first | exact HC.out _ hbr | exact HC.out _ hbr.drew)
      (first
        | (go_at_call 6; refine (hT _ (below_after_of hb0 (below_after_of hC4 (by first | exact hbr | exact hbr.drew)))).mono ?_; rintro x w6 ⟨a6, c6, a6', c6', rfl, hb6, o6, o6'⟩; have hbr : Below w4.heap.size w4 w6 := (by first | exact below_after_of hbr hb6 | exact below_after_of hbr.drew hb6))
        | (go_at_call 8; refine (hE _ _ _ _ _ (P4.below hbr) (own_ints_rp HPN.out o6) (P4'.below hbr) (own_prs_rp HFN.out o6')).mono ?_; rintro x w7 ⟨rfl, hb7⟩; have hbr : Below w4.heap.size w4 w7 := below_after_of hbr hb7))
    have hB7 := below_after_of hb0 (below_after_of hC4 hbr)
    go_wp2
    go_ret
    exact ⟨rfl, hB7⟩
  · rw [if_neg h] at hZ
    generalize ps.length = pn at *
    generalize f.length = fn at *
    clear hp hv
    go_enter Try.func3, Try.ntmps3
    go_wp2_with fail
    refine (hZ _).mono ?_
    rintro x w0 ⟨rfl, hbz⟩
    have hB := below_after hbz
    clear hZ hbz
    go_wp2
    go_ret
    exact ⟨rfl, hB⟩
end U
end Go.Proofs.Ytdbbmclobmigdaa
