/- The law on ReadHead, walked: true, and nothing that was there has turned. -/
import Derived.Test.YtpelafkjnmcdgaaHd4
import Derived.Test.YtpelafkjnmcdgaaHdL
import Derived.Test.YtpelafkjnmcdgaaTo
import Derived.Test.YtpelafkjnmcdgaaByteS
import Derived.Test.YtpelafkjnmcdgaaOwn
namespace Go.Proofs.Ytpelafkjnmcdgaa
open Go.RowKit
namespace U
theorem rdV_res (bs : List Int) : ∃ c e p o n v, rdV bs = hrV c e p o n v := by
  unfold rdV
  split
  · split
    · split <;> exact ⟨_, _, _, _, _, _, rfl⟩
    · exact ⟨_, _, _, _, _, _, rfl⟩
  · exact ⟨_, _, _, _, _, _, rfl⟩
set_option maxRecDepth 100000 in
set_option maxHeartbeats 4000000 in
theorem fnExactReadHead_small (v : Value) (bs : List Int) (w : World) (hv : Ints .u8 w v bs) (hx : bs.length ≤ 1048576) (hB : Bts bs) :
    Calls Try.prog 7 #[v] w fun e w' => e = .returned (.bool true) ∧ Below w.heap.size w w' := by
  obtain ⟨a, k, rfl⟩ := hv.shape
  have hS := fun w u h => specReadHead_any u bs w h hB
  have hI := fun w u h => implReadHead_any u bs w h hB
  have hT := fun w (h : Ints .u8 w (.slice a bs.length k) bs) => toByteS_any _ bs w h hx
  have hE := fun v u w h1 h2 => eqByteS_any v u bs bs w h1 h2 (by omega) (by omega)
  have h2 : decide (bs = bs) = true := by simp
  rw [h2] at hE
  obtain ⟨c, n0, n1, n2, n3, n4, hr⟩ := rdV_res bs
  rw [hr] at hS hI
  unfold hrV at hS hI
  have HV : Hid (∀ w', Below w.heap.size w w' → Ints .u8 w' (.slice a bs.length k) bs) := fun w' h => hv.below h
  have hQ := fun w => eqHeadResult_same c n0 n1 n2 n3 n4 w
  unfold hrV at hQ
  obtain ⟨n, hn⟩ : ∃ n, n = bs.length := ⟨_, rfl⟩
  have HN : Hid (n = bs.length) := hn
  rw [← hn] at hx HV hT ⊢
  clear hn h2 hv hr
  go_enter Try.func7, Try.ntmps7
  go_wp2_with fail
  refine (hT _ (HV.out _ (Below.refl _ _))).mono ?_
  rintro e w1 ⟨a1, k1, rfl, hb1, own1⟩
  go_wp2_with fail
  refine (hS _ _ (own_ints_n HN.out own1)).mono ?_
  rintro e w2 ⟨rfl, hb2⟩
  have hB2 := below_after_of (below_after_of hb1 hb2) (one_new (.cells #[.int .i64 c, .int .i64 n0, .int .i64 n1, .int .i64 n2, .int .i64 n3, .int .i64 n4] 75))
  have P2 := heap_alloc_new w2 (.cells #[.int .i64 c, .int .i64 n0, .int .i64 n1, .int .i64 n2, .int .i64 n3, .int .i64 n4] 75)
  clear hb1 hb2 own1 hS
  go_wp2_with fail
  refine (hT _ (HV.out _ hB2)).mono ?_
  rintro e w3 ⟨a3, k3, rfl, hb3, own3⟩
  go_wp2_with fail
  refine (hI _ _ (own_ints_n HN.out own3)).mono ?_
  rintro e w4 ⟨rfl, hb4⟩
  have hb4' := below_after_of hb4 (one_new (.cells #[.int .i64 c, .int .i64 n0, .int .i64 n1, .int .i64 n2, .int .i64 n3, .int .i64 n4] 75))
  have hb34 := below_after_of hb3 hb4'
  obtain ⟨⟨p0, p1, p2, p3, p4, p5⟩, -⟩ := six_cellsH ((hb34.block w2.heap.size (Array.getElem?_eq_some_iff.1 P2).1).trans P2)
  have hB4 := below_after_of hB2 hb34
  have own4 := own_below own3 hb4'
  clear hb3 hb4 hb4' hb34 own3 hB2 P2 hI
  go_wp2_with fail
  refine (hQ _).mono ?_
  rintro e w5 ⟨rfl, hb5⟩
  have hB5 := below_after_of hB4 hb5
  have own5 := own_below own4 hb5
  clear hb5 own4 hB4 p0 p1 p2 p3 p4 p5
  go_wp2_with fail
  refine (hT _ (HV.out _ hB5)).mono ?_
  rintro e w6 ⟨a6, k6, rfl, hb6, own6⟩
  have hB6 := below_after_of hB5 hb6
  have own5' := own_below own5 hb6
  clear own5 hb6 hB5
  go_wp2_with fail
  refine (hE _ _ _ (own_ints_n HN.out own5') (own_ints_n HN.out own6)).mono ?_
  rintro e w7 ⟨rfl, n7, rfl⟩
  go_wp2
  go_ret
  exact ⟨rfl, below_drewN hB6 n7⟩
set_option maxRecDepth 100000 in
set_option maxHeartbeats 1000000 in
theorem fnExactReadHead_walk (v : Value) (bs : List Int) (w : World) (hv : Ints .u8 w v bs) (hx : bs.length ≤ maxLen) (hB : ∀ b ∈ bs, 0 ≤ b ∧ b ≤ 255) :
    Calls Try.prog 7 #[v] w fun e w' => e = .returned (.bool true) ∧ Below w.heap.size w w' := by
  by_cases h : bs.length ≤ 1048576
  · exact fnExactReadHead_small v bs w hv h hB
  · obtain ⟨a, c, rfl⟩ := hv.shape
    clear hv
    unfold maxLen at hx
    generalize bs.length = n at *
    go_enter Try.func7, Try.ntmps7
    go_wp2
    go_ret
    exact ⟨rfl, Below.refl _ _⟩
end U
end Go.Proofs.Ytpelafkjnmcdgaa
