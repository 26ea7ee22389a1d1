/- The law on SameTrails, walked: true, and nothing that was there has turned. -/
import Derived.Test.YtgbjiaiclpbgbaaNp8
import Derived.Test.YtgbjiaiclpbgbaaNpS
import Derived.Test.YtgbjiaiclpbgbaaSl11
import Derived.Test.YtgbjiaiclpbgbaaHeldBy
namespace Go.Proofs.Ytgbjiaiclpbgbaa
open Go.RowKit
namespace U
set_option maxRecDepth 100000 in
set_option maxHeartbeats 8000000 in
theorem fnExactSameTrails_walk (x : Bool) (k y : Int) (v : Value) (l : Prl) (x' : Bool) (k' y' : Int) (u : Value) (m : Prl) (w : World) (hv : Prs w v l) (hl : l.length ≤ maxLen) (hu : Prs w u m) (hm : m.length ≤ maxLen) :
    Calls Try.prog 8 #[.agg #[.bool x, .int .i64 k, .int .i64 y, v], .agg #[.bool x', .int .i64 k', .int .i64 y', u]] w fun e w' => e = .returned (.bool true) ∧ Below w.heap.size w w' := by
  obtain ⟨a, c, rfl⟩ := hv.shape
  obtain ⟨a', c', rfl⟩ := hu.shape
  have hZ := fun w => szTrail_any x k y a l.length c w hl
  have HP : Hid (Prs w (.slice a l.length c) l ∧ Prs w (.slice a' m.length c') m) := ⟨hv, hu⟩
  obtain ⟨n, hn⟩ : ∃ n, n = l.length := ⟨_, rfl⟩
  obtain ⟨n', hn'⟩ : ∃ n', n' = m.length := ⟨_, rfl⟩
  rw [← hn] at hZ HP hl ⊢
  rw [← hn'] at HP hm ⊢
  clear hv hu
  obtain ⟨W, hW⟩ : ∃ W, W = (w.alloc (.cells #[.bool x, .int .i64 k, .int .i64 y, .slice a n c] 56)).alloc (.cells #[.bool x', .int .i64 k', .int .i64 y', .slice a' n' c'] 56) := ⟨_, rfl⟩
  have HW : Hid ((w.alloc (.cells #[.bool x, .int .i64 k, .int .i64 y, .slice a n c] 56)).alloc (.cells #[.bool x', .int .i64 k', .int .i64 y', .slice a' n' c'] 56) = W) := hW.symm
  have hb0 : Below w.heap.size w W := by rw [hW]; exact two_new _ _
  have HA : W.heap[w.heap.size]? = some (.cells #[.bool x, .int .i64 k, .int .i64 y, .slice a n c] 56) := by rw [hW]; exact ((one_new _).block w.heap.size (by simp)).trans (heap_alloc_new w _)
  have HB : W.heap[w.heap.size + 1]? = some (.cells #[.bool x', .int .i64 k', .int .i64 y', .slice a' n' c'] 56) := by
    have h := heap_alloc_new (w.alloc (.cells #[.bool x, .int .i64 k, .int .i64 y, .slice a n c] 56)) (.cells #[.bool x', .int .i64 k', .int .i64 y', .slice a' n' c'] 56)
    rw [World.size_alloc] at h
    rw [hW]
    exact h
  have hlt : w.heap.size + 1 < W.heap.size := (Array.getElem?_eq_some_iff.1 HB).1
  have HAA : Hid (∀ w', Below W.heap.size W w' → w'.heap[w.heap.size]? = some (.cells #[.bool x, .int .i64 k, .int .i64 y, .slice a n c] 56)) := fun w' hb => (hb.block w.heap.size (by omega)).trans HA
  have HBB : Hid (∀ w', Below W.heap.size W w' → w'.heap[w.heap.size + 1]? = some (.cells #[.bool x', .int .i64 k', .int .i64 y', .slice a' n' c'] 56)) := fun w' hb => (hb.block (w.heap.size + 1) hlt).trans HB
  clear hW HA HB
  obtain ⟨⟨u0, u1, u2, u3⟩, -⟩ := blk4L (HAA.out _ (Below.refl _ _))
  by_cases h : n ≤ 1048576
  · rw [if_pos h] at hZ
    have hzc : ((1048576 - n : Nat) : Int) = 1048576 - (n : Int) := by omega
    have hZ2 := fun w => szTrail_gen (1048576 - n) (by omega) x' k' y' a' n' c' w hm
    have h2 : ¬ ((1048576 : Int) - (n : Int) < 0) := by omega
    rw [hzc] at hZ2
    obtain ⟨q1, hq1⟩ : ∃ q1, q1 = (1048576 : Int) - (n : Int) := ⟨_, rfl⟩
    rw [← hq1] at hZ hZ2 h2
    clear hzc
    by_cases h' : n' ≤ 1048576 - n
    · rw [if_pos h'] at hZ2
      have h3 : ¬ (q1 - (n' : Int) < 0) := by omega
      generalize q1 - (n' : Int) = q2 at *
      have hTA := fun w' hb => toTrail_any x k y _ l w' (HP.out.1.below (w' := w') hb) (by omega)
      have hTB := fun w' hb => toTrail_any x' k' y' _ m w' (HP.out.2.below (w' := w') hb) (by omega)
      have hEA := fun u v w' hu hv => eqTrail7_same x k y u v l w' hu hv (by omega)
      have hEB := fun u v w' hu hv => eqTrail7_same x' k' y' u v m w' hu hv (by omega)
      have hS := fun u v w hu hv => specSameTrails_any x k y u l x' k' y' v m w hu hv (by omega)
      have hI := fun u v w hu hv => implSameTrails_any x k y u l x' k' y' v m w hu hv (by omega) (by omega)
      rw [← hn] at hTA
      rw [← hn'] at hTB
      obtain ⟨r, hr⟩ : ∃ r, r = stB x k y l x' k' y' m := ⟨_, rfl⟩
      rw [← hr] at hS hI
      have hrr : (r != r) = false := by simp
      clear hr hq1 h h' hn hn' hl hm hlt HP
      go_enter Try.func8, Try.ntmps8
      go_wp2_with fail
      rw [HW.out]
      refine (hZ _).mono ?_
      rintro e w0 ⟨rfl, hbz⟩
      clear hZ u0 u1 u2 u3
      obtain ⟨⟨u0, u1, u2, u3⟩, -⟩ := blk4L (HBB.out _ hbz)
      go_wp2_with fail
      refine (hZ2 _).mono ?_
      rintro e w1 ⟨rfl, hbz2⟩
      have hC1 := below_after_of hbz hbz2
      clear hZ2 hbz hbz2 u0 u1 u2 u3
      have hbr := Below.refl w1.heap.size w1
      have HC : Hid (∀ w', Below w1.heap.size w1 w' → (w'.cell? ⟨w.heap.size, 0, none⟩ = some (.bool x) ∧ w'.cell? ⟨w.heap.size, 1, none⟩ = some (.int .i64 k) ∧ w'.cell? ⟨w.heap.size, 2, none⟩ = some (.int .i64 y) ∧ w'.cell? ⟨w.heap.size, 3, none⟩ = some (.slice a n c)) ∧ w'.cell? ⟨w.heap.size + 1, 0, none⟩ = some (.bool x') ∧ w'.cell? ⟨w.heap.size + 1, 1, none⟩ = some (.int .i64 k') ∧ w'.cell? ⟨w.heap.size + 1, 2, none⟩ = some (.int .i64 y') ∧ w'.cell? ⟨w.heap.size + 1, 3, none⟩ = some (.slice a' n' c')) := fun w' h => ⟨(blk4L (HAA.out _ (below_after_of hC1 h))).1, (blk4L (HBB.out _ (below_after_of hC1 h))).1⟩
      go_wp2_with fail
      refine wp_region_held_drew (S := fun w' => (w'.cell? ⟨w.heap.size, 0, none⟩ = some (.bool x) ∧ w'.cell? ⟨w.heap.size, 1, none⟩ = some (.int .i64 k) ∧ w'.cell? ⟨w.heap.size, 2, none⟩ = some (.int .i64 y) ∧ w'.cell? ⟨w.heap.size, 3, none⟩ = some (.slice a n c)) ∧ w'.cell? ⟨w.heap.size + 1, 0, none⟩ = some (.bool x') ∧ w'.cell? ⟨w.heap.size + 1, 1, none⟩ = some (.int .i64 k') ∧ w'.cell? ⟨w.heap.size + 1, 2, none⟩ = some (.int .i64 y') ∧ w'.cell? ⟨w.heap.size + 1, 3, none⟩ = some (.slice a' n' c')) (by kernel_rfl) (HC.out _ hbr.drew) (fun hHeld => ?_)
      have hbr := hbr.drew
      refine h_take (i := 0) (d := (some 20)) (v := ?vs1) (by rfl) (by kernel_rfl) (by kernel_rfl) (by kernel_rfl) (fun _ _ _ h => h) (by rfl) ?hys1 hHeld ?rests1
      case hys1 =>
        intro o ho
        simp only [List.getElem?_toArray, List.getElem?_cons_zero, Option.some.injEq] at ho
        subst ho
        rintro w' ⟨⟨s0, s1, s2, s3⟩, t0, t1, t2, t3⟩
        first | (go_simp; done) | (go_simp; with_reducible rfl)
      try simp only [Act.put, List.setIfInBounds_toArray, List.set_cons_zero, List.set_cons_succ]
      refine h_take (i := 2) (d := (some 22)) (v := ?vs2) (by rfl) (by kernel_rfl) (by kernel_rfl) (by kernel_rfl) (fun _ _ _ h => h) (by rfl) ?hys2 hHeld ?rests2
      case hys2 =>
        intro o ho
        simp only [List.getElem?_toArray, List.getElem?_cons_succ, List.getElem?_cons_zero, Option.some.injEq] at ho
        subst ho
        rintro w' ⟨⟨s0, s1, s2, s3⟩, t0, t1, t2, t3⟩
        first | (go_simp; done) | (go_simp; with_reducible rfl)
      try simp only [Act.put, List.setIfInBounds_toArray, List.set_cons_zero, List.set_cons_succ]
      refine wpAnyH_ready (rs := [1]) (by kernel_rfl) (by simp) ?_
      refine AllReadyH.cons rfl (fun K hK => ?_) AllReadyH.nil
      go_simp
      refine (hTA _ (below_after_of hb0 (below_after_of hC1 hbr))).mono ?_
      rintro e wA ⟨aA, cA, rfl, hbA, oA⟩
      have hbr := below_after_of hbr hbA
      have PA := own_prs' oA
      clear oA hbA
      refine hK.out _ _ ?_ (fun hHeld => ?_)
      · exact HC.out _ hbr
      clear hK K
      try simp only [Act.put, List.setIfInBounds_toArray, List.set_cons_zero, List.set_cons_succ]
      refine wpAnyH_ready (rs := [3]) (by kernel_rfl) (by simp) ?_
      refine AllReadyH.cons rfl (fun K hK => ?_) AllReadyH.nil
      go_simp
      refine (hTB _ (below_after_of hb0 (below_after_of hC1 hbr))).mono ?_
      rintro e wB ⟨aB, cB, rfl, hbB, oB⟩
      have hbr := below_after_of hbr hbB
      have PB := own_prs' oB
      have PA := PA.below hbB
      clear oB hbB
      refine hK.out _ _ ?_ (fun hHeld => ?_)
      · exact HC.out _ hbr
      clear hK K
      try simp only [Act.put, List.setIfInBounds_toArray, List.set_cons_zero, List.set_cons_succ]
      refine wpAnyH_ready (rs := [4]) (by kernel_rfl) (by simp) ?_
      refine AllReadyH.cons rfl (fun K hK => ?_) AllReadyH.nil
      go_simp
      refine (hS _ _ _ PA PB).mono ?_
      rintro e w2 ⟨rfl, hb2⟩
      have hbr := below_after_of hbr hb2
      clear hb2
      refine hK.out _ _ ?_ (fun hHeld => ?_)
      · exact HC.out _ hbr
      clear hK K
      try simp only [Act.put, List.setIfInBounds_toArray, List.set_cons_zero, List.set_cons_succ]
      refine h_take (i := 5) (d := (some 6)) (v := ?vs3) (by rfl) (by kernel_rfl) (by kernel_rfl) (by kernel_rfl) (fun _ _ _ h => h) (by rfl) ?hys3 hHeld ?rests3
      case hys3 =>
        intro o ho
        simp only [List.getElem?_toArray, List.getElem?_cons_succ, List.getElem?_cons_zero, Option.some.injEq] at ho
        subst ho
        rintro w' ⟨⟨s0, s1, s2, s3⟩, t0, t1, t2, t3⟩
        first | (go_simp; done) | (go_simp; with_reducible rfl)
      try simp only [Act.put, List.setIfInBounds_toArray, List.set_cons_zero, List.set_cons_succ]
      refine wpAnyH_done (by kernel_rfl) ?_ _
      clear hHeld
      have hC2 := below_after_of hC1 hbr
      clear hbr HC hC1 hS PA PB
      obtain ⟨⟨u0, u1, u2, u3⟩, -⟩ := blk4L (HAA.out _ hC2)
      go_wp2_with fail
      refine (hTA _ (below_after_of hb0 hC2)).mono ?_
      rintro e w3 ⟨a3, c3, rfl, hb3, o3⟩
      have hC3 := below_after_of hC2 hb3
      have P3 := own_prs' o3
      clear o3 hb3 hC2 u0 u1 u2 u3
      have hX3 := heap_alloc_new w3 (.cells #[.bool x, .int .i64 k, .int .i64 y, .slice a3 n c3] 31)
      have hC3a : Below W.heap.size W (w3.alloc (.cells #[.bool x, .int .i64 k, .int .i64 y, .slice a3 n c3] 31)) := hC3.alloc hC3.size _
      have P3a := P3.below (one_new (w := w3) (.cells #[.bool x, .int .i64 k, .int .i64 y, .slice a3 n c3] 31))
      obtain ⟨⟨u0, u1, u2, u3⟩, -⟩ := blk4L (HBB.out _ hC3a)
      have hl3 : w3.heap.size < (w3.alloc (.cells #[.bool x, .int .i64 k, .int .i64 y, .slice a3 n c3] 31)).heap.size := by simp
      go_wp2_with fail
      refine (hTB _ (below_after_of hb0 hC3a)).mono ?_
      rintro e w4 ⟨a4, c4, rfl, hb4, o4⟩
      have hC4 := below_after_of hC3a hb4
      have P4 := own_prs' o4
      have P34 := P3a.below hb4
      have hX34 := (hb4.block w3.heap.size hl3).trans hX3
      have hl34 := Nat.lt_of_lt_of_le hl3 hb4.size
      clear o4 hb4 hC3 hC3a u0 u1 u2 u3 P3 P3a hX3 hl3
      have hX4 := heap_alloc_new w4 (.cells #[.bool x', .int .i64 k', .int .i64 y', .slice a4 n' c4] 31)
      have hb4a := one_new (w := w4) (.cells #[.bool x', .int .i64 k', .int .i64 y', .slice a4 n' c4] 31)
      have hC4a : Below W.heap.size W (w4.alloc (.cells #[.bool x', .int .i64 k', .int .i64 y', .slice a4 n' c4] 31)) := hC4.alloc hC4.size _
      have hX34a := (hb4a.block w3.heap.size hl34).trans hX34
      have P34a := P34.below hb4a
      have P4a := P4.below hb4a
      have hl4 : w4.heap.size < (w4.alloc (.cells #[.bool x', .int .i64 k', .int .i64 y', .slice a4 n' c4] 31)).heap.size := by simp
      have hl34a := Nat.lt_of_lt_of_le hl34 hb4a.size
      obtain ⟨⟨u0, u1, u2, u3⟩, -⟩ := blk4L hX34a
      go_wp2_with fail
      refine (hI _ _ _ P34a P4a).mono ?_
      rintro e w5 ⟨rfl, hb5⟩
      have hC5 := below_after_of hC4a hb5
      have hX35 := (hb5.block w3.heap.size hl34a).trans hX34a
      have hX45 := (hb5.block w4.heap.size hl4).trans hX4
      have P35 := P34a.below hb5
      have P45 := P4a.below hb5
      have hl35 := Nat.lt_of_lt_of_le hl34a hb5.size
      have hl45 := Nat.lt_of_lt_of_le hl4 hb5.size
      clear hI hb5 hC4 hC4a hb4a hX34 hX34a hX4 P34 P34a P4 P4a hl34 hl34a hl4 u0 u1 u2 u3
      have hbr := Below.refl w5.heap.size w5
      have HC14 : Hid (∀ w', Below w5.heap.size w5 w' → (w'.cell? ⟨w3.heap.size, 0, none⟩ = some (.bool x) ∧ w'.cell? ⟨w3.heap.size, 1, none⟩ = some (.int .i64 k) ∧ w'.cell? ⟨w3.heap.size, 2, none⟩ = some (.int .i64 y) ∧ w'.cell? ⟨w3.heap.size, 3, none⟩ = some (.slice a3 n c3)) ∧ w'.cell? ⟨w.heap.size, 0, none⟩ = some (.bool x) ∧ w'.cell? ⟨w.heap.size, 1, none⟩ = some (.int .i64 k) ∧ w'.cell? ⟨w.heap.size, 2, none⟩ = some (.int .i64 y) ∧ w'.cell? ⟨w.heap.size, 3, none⟩ = some (.slice a n c)) := fun w' h => ⟨(blk4L ((h.block w3.heap.size hl35).trans hX35)).1, (blk4L (HAA.out _ (below_after_of hC5 h))).1⟩
      go_wp2_with fail
      go_region_held3 (fun w' => (w'.cell? ⟨w3.heap.size, 0, none⟩ = some (.bool x) ∧ w'.cell? ⟨w3.heap.size, 1, none⟩ = some (.int .i64 k) ∧ w'.cell? ⟨w3.heap.size, 2, none⟩ = some (.int .i64 y) ∧ w'.cell? ⟨w3.heap.size, 3, none⟩ = some (.slice a3 n c3)) ∧ w'.cell? ⟨w.heap.size, 0, none⟩ = some (.bool x) ∧ w'.cell? ⟨w.heap.size, 1, none⟩ = some (.int .i64 k) ∧ w'.cell? ⟨w.heap.size, 2, none⟩ = some (.int .i64 y) ∧ w'.cell? ⟨w.heap.size, 3, none⟩ = some (.slice a n c))
        (first | exact HC14.out _ hbr | exact HC14.out _ hbr.drew)
        (first
          | (go_at_call 31; refine (hTA _ (below_after_of hb0 (below_after_of hC5 (by first | exact hbr | exact hbr.drew)))).mono ?_; rintro e w6 ⟨a6, c6, rfl, hb6, o6⟩; have hbr : Below w5.heap.size w5 w6 := (by first | exact below_after_of hbr hb6 | exact below_after_of hbr.drew hb6))
          | (go_at_call 32; refine (hEA _ _ _ (P35.below hbr) (own_prs' o6)).mono ?_; rintro e w7 ⟨rfl, hb7⟩; have hbr : Below w5.heap.size w5 w7 := below_after_of hbr hb7))
      have hC7 := below_after_of hC5 hbr
      have hX47 := (hbr.block w4.heap.size hl45).trans hX45
      have P47 := P45.below hbr
      have hl47 := Nat.lt_of_lt_of_le hl45 hbr.size
      clear hbr HC14 hX35 hX45 P35 P45 hl35 hl45 hC5 o6 hb6 hb7
      have hbr := Below.refl w7.heap.size w7
      have HC16 : Hid (∀ w', Below w7.heap.size w7 w' → (w'.cell? ⟨w4.heap.size, 0, none⟩ = some (.bool x') ∧ w'.cell? ⟨w4.heap.size, 1, none⟩ = some (.int .i64 k') ∧ w'.cell? ⟨w4.heap.size, 2, none⟩ = some (.int .i64 y') ∧ w'.cell? ⟨w4.heap.size, 3, none⟩ = some (.slice a4 n' c4)) ∧ w'.cell? ⟨w.heap.size + 1, 0, none⟩ = some (.bool x') ∧ w'.cell? ⟨w.heap.size + 1, 1, none⟩ = some (.int .i64 k') ∧ w'.cell? ⟨w.heap.size + 1, 2, none⟩ = some (.int .i64 y') ∧ w'.cell? ⟨w.heap.size + 1, 3, none⟩ = some (.slice a' n' c')) := fun w' h => ⟨(blk4L ((h.block w4.heap.size hl47).trans hX47)).1, (blk4L (HBB.out _ (below_after_of hC7 h))).1⟩
      go_wp2_with fail
      go_region_held3 (fun w' => (w'.cell? ⟨w4.heap.size, 0, none⟩ = some (.bool x') ∧ w'.cell? ⟨w4.heap.size, 1, none⟩ = some (.int .i64 k') ∧ w'.cell? ⟨w4.heap.size, 2, none⟩ = some (.int .i64 y') ∧ w'.cell? ⟨w4.heap.size, 3, none⟩ = some (.slice a4 n' c4)) ∧ w'.cell? ⟨w.heap.size + 1, 0, none⟩ = some (.bool x') ∧ w'.cell? ⟨w.heap.size + 1, 1, none⟩ = some (.int .i64 k') ∧ w'.cell? ⟨w.heap.size + 1, 2, none⟩ = some (.int .i64 y') ∧ w'.cell? ⟨w.heap.size + 1, 3, none⟩ = some (.slice a' n' c'))
        (first | exact HC16.out _ hbr | exact HC16.out _ hbr.drew)
        (first
          | (go_at_call 31; refine (hTB _ (below_after_of hb0 (below_after_of hC7 (by first | exact hbr | exact hbr.drew)))).mono ?_; rintro e w6 ⟨a6, c6, rfl, hb6, o6⟩; have hbr : Below w7.heap.size w7 w6 := (by first | exact below_after_of hbr hb6 | exact below_after_of hbr.drew hb6))
          | (go_at_call 32; refine (hEB _ _ _ (P47.below hbr) (own_prs' o6)).mono ?_; rintro e w8 ⟨rfl, hb7⟩; have hbr : Below w7.heap.size w7 w8 := below_after_of hbr hb7))
      have hB8 := below_after_of hb0 (below_after_of hC7 hbr)
      go_wp2
      go_ret
      exact ⟨rfl, hB8⟩
    · rw [if_neg h'] at hZ2
      clear hq1 h h' hn hn' hl hm hlt HP
      go_enter Try.func8, Try.ntmps8
      go_wp2_with fail
      rw [HW.out]
      refine (hZ _).mono ?_
      rintro e w0 ⟨rfl, hbz⟩
      clear hZ u0 u1 u2 u3
      obtain ⟨⟨u0, u1, u2, u3⟩, -⟩ := blk4L (HBB.out _ hbz)
      go_wp2_with fail
      refine (hZ2 _).mono ?_
      rintro e w1 ⟨rfl, hbz2⟩
      have hC1 := below_after_of hb0 (below_after_of hbz hbz2)
      clear hZ2 hbz hbz2 u0 u1 u2 u3
      go_wp2
      go_ret
      exact ⟨rfl, hC1⟩
  · rw [if_neg h] at hZ
    clear h hn hn' hl hm hlt HP
    go_enter Try.func8, Try.ntmps8
    go_wp2_with fail
    rw [HW.out]
    refine (hZ _).mono ?_
    rintro e w0 ⟨rfl, hbz⟩
    have hC1 := below_after_of hb0 hbz
    clear hZ hbz u0 u1 u2 u3
    go_wp2
    go_ret
    exact ⟨rfl, hC1⟩
end U
end Go.Proofs.Ytgbjiaiclpbgbaa
