/- The law on TrailFault, walked: true, and nothing that was there has turned. -/
import Derived.Test.YtgbjiaiclpbgbaaNp6
import Derived.Test.YtgbjiaiclpbgbaaNpL
import Derived.Test.YtgbjiaiclpbgbaaSl11
import Derived.Test.YtgbjiaiclpbgbaaEqR
import Derived.Deep.RegionHeld3
namespace Go.Proofs.Ytgbjiaiclpbgbaa
open Go.RowKit
namespace U
set_option maxRecDepth 100000 in
set_option maxHeartbeats 4000000 in
theorem fnExactTrailFault_walk (x : Bool) (k y : Int) (v : Value) (l : Prl) (w : World) (hv : Prs w v l) (hl : l.length ≤ maxLen) :
    Calls Try.prog 5 #[.agg #[.bool x, .int .i64 k, .int .i64 y, v]] w fun e w' => e = .returned (.bool true) ∧ Below w.heap.size w w' := by
  obtain ⟨a, c, rfl⟩ := hv.shape
  have hZ := fun w => szTrail_any x k y a l.length c w hl
  by_cases h : l.length ≤ 1048576
  · rw [if_pos h] at hZ
    have hT := fun w' hb => toTrail_any x k y _ l w' (hv.below (w' := w') hb) h
    have hE := fun u v w' hu hv => eqTrail7_same x k y u v l w' hu hv (by omega)
    have hS := fun u w hu => specTrailFault_any x k y u l w hu
    have hI := fun u w hu => implTrailFault_any x k y u l w hu
    have h2 : ¬ ((1048576 - l.length : Int) < 0) := by omega
    generalize tlF x k y l = q at *
    have hqq : (q != q) = false := by simp
    generalize (1048576 - l.length : Int) = z at *
    obtain ⟨n, hn⟩ : ∃ n, n = l.length := ⟨_, rfl⟩
    rw [← hn] at hZ hT hl h ⊢
    clear hn hv
    obtain ⟨W, hW⟩ : ∃ W, W = w.alloc (.cells #[.bool x, .int .i64 k, .int .i64 y, .slice a n c] 56) := ⟨_, rfl⟩
    have HW : Hid (w.alloc (.cells #[.bool x, .int .i64 k, .int .i64 y, .slice a n c] 56) = W) := hW.symm
    have hb0 : Below w.heap.size w W := by rw [hW]; exact one_new _
    have HA : W.heap[w.heap.size]? = some (.cells #[.bool x, .int .i64 k, .int .i64 y, .slice a n c] 56) := by rw [hW]; exact heap_alloc_new w _
    have hlt : w.heap.size < W.heap.size := (Array.getElem?_eq_some_iff.1 HA).1
    have HAA : Hid (∀ w', Below W.heap.size W w' → w'.heap[w.heap.size]? = some (.cells #[.bool x, .int .i64 k, .int .i64 y, .slice a n c] 56)) := fun w' hb => (hb.block w.heap.size hlt).trans HA
    obtain ⟨⟨a0, a1, a2, a3⟩, -⟩ := blk4L HA
    clear hW HA
    go_enter Try.func5, Try.ntmps5
    go_wp2_with fail
    rw [HW.out]
    refine (hZ _).mono ?_
    rintro e w0 ⟨rfl, hbz⟩
    obtain ⟨⟨b0, b1, b2, b3⟩, -⟩ := blk4L (HAA.out _ hbz)
    clear hZ a0 a1 a2 a3
    go_wp2_with fail
    refine (hT _ (below_after_of hb0 hbz)).mono ?_
    rintro e w1 ⟨a1, c1, rfl, hB1, o1⟩
    have hC1 := below_after_of hbz hB1
    clear hbz hB1 b0 b1 b2 b3
    go_wp2_with fail
    refine (hS _ _ (own_prs' o1)).mono ?_
    rintro e w2 ⟨rfl, hb2⟩
    have hC2 := below_after_of hC1 hb2
    clear o1 hC1 hS hb2
    obtain ⟨⟨b0, b1, b2, b3⟩, -⟩ := blk4L (HAA.out _ hC2)
    go_wp2_with fail
    refine (hT _ (below_after_of hb0 hC2)).mono ?_
    rintro e w3 ⟨a3, c3, rfl, hb3, o3⟩
    have hC3 := below_after_of hC2 hb3
    have P3 := own_prs' o3
    clear hb3 o3 hC2 b0 b1 b2 b3
    have hx3 := heap_alloc_new w3 (.cells #[.bool x, .int .i64 k, .int .i64 y, .slice a3 n c3] 31)
    have hlx : w3.heap.size < (w3.alloc (.cells #[.bool x, .int .i64 k, .int .i64 y, .slice a3 n c3] 31)).heap.size := by simp
    go_wp2_with fail
    refine (hI _ _ (P3.below (one_new _))).mono ?_
    rintro e w4 ⟨rfl, hb4⟩
    have hX4 := (hb4.block w3.heap.size hlx).trans hx3
    have P4 := (P3.below (one_new _)).below hb4
    have hC4 := below_after_of (hC3.alloc hC3.size _) hb4
    have hz4 : w3.heap.size < w4.heap.size := Nat.lt_of_lt_of_le hlx hb4.size
    clear P3 hI hC3 hb4 hx3 hlx
    obtain ⟨⟨b0, b1, b2, b3⟩, -⟩ := blk4L (HAA.out _ hC4)
    obtain ⟨⟨e0, e1, e2, e3⟩, -⟩ := blk4L hX4
    have hbr := Below.refl w4.heap.size w4
    have HC : Hid (∀ w', Below w4.heap.size w4 w' → (w'.cell? ⟨w.heap.size, 0, none⟩ = some (.bool x) ∧ w'.cell? ⟨w.heap.size, 1, none⟩ = some (.int .i64 k) ∧ w'.cell? ⟨w.heap.size, 2, none⟩ = some (.int .i64 y) ∧ w'.cell? ⟨w.heap.size, 3, none⟩ = some (.slice a n c)) ∧ w'.cell? ⟨w3.heap.size, 0, none⟩ = some (.bool x) ∧ w'.cell? ⟨w3.heap.size, 1, none⟩ = some (.int .i64 k) ∧ w'.cell? ⟨w3.heap.size, 2, none⟩ = some (.int .i64 y) ∧ w'.cell? ⟨w3.heap.size, 3, none⟩ = some (.slice a3 n c3)) := fun w' h => ⟨(blk4L (HAA.out _ (below_after_of hC4 h))).1, (blk4L ((h.block w3.heap.size hz4).trans hX4)).1⟩
    go_wp2_with fail
    go_region_held3 (fun w' => (w'.cell? ⟨w.heap.size, 0, none⟩ = some (.bool x) ∧ w'.cell? ⟨w.heap.size, 1, none⟩ = some (.int .i64 k) ∧ w'.cell? ⟨w.heap.size, 2, none⟩ = some (.int .i64 y) ∧ w'.cell? ⟨w.heap.size, 3, none⟩ = some (.slice a n c)) ∧ w'.cell? ⟨w3.heap.size, 0, none⟩ = some (.bool x) ∧ w'.cell? ⟨w3.heap.size, 1, none⟩ = some (.int .i64 k) ∧ w'.cell? ⟨w3.heap.size, 2, none⟩ = some (.int .i64 y) ∧ w'.cell? ⟨w3.heap.size, 3, none⟩ = some (.slice a3 n c3))
      (first | exact HC.out _ hbr | exact HC.out _ hbr.drew)
      (first
        | (go_at_call 31; refine (hT _ (below_after_of hb0 (below_after_of hC4 (by first | exact hbr | exact hbr.drew)))).mono ?_; rintro e w6 ⟨a6, c6, rfl, hb6, o6⟩; have hbr : Below w4.heap.size w4 w6 := (by first | exact below_after_of hbr hb6 | exact below_after_of hbr.drew hb6))
        | (go_at_call 32; refine (hE _ _ _ (P4.below hbr) (own_prs' o6)).mono ?_; rintro e w7 ⟨rfl, hb7⟩; have hbr : Below w4.heap.size w4 w7 := below_after_of hbr hb7))
    have hB7 := below_after_of hb0 (below_after_of hC4 hbr)
    go_wp2
    go_ret
    exact ⟨rfl, hB7⟩
  · rw [if_neg h] at hZ
    generalize l.length = n at *
    clear hv
    go_enter Try.func5, Try.ntmps5
    go_wp2_with fail
    refine (hZ _).mono ?_
    rintro e w0 ⟨rfl, hbz⟩
    have hB := below_after hbz
    clear hZ hbz
    go_wp2
    go_ret
    exact ⟨rfl, hB⟩
end U
end Go.Proofs.Ytgbjiaiclpbgbaa
