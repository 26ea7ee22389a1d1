/- The law on ReadOp, walked: true, and nothing that was there has turned. -/
import Derived.Test.YtcdodpcdennemaaJr9
import Derived.Test.YtcdodpcdennemaaJr8b
import Derived.Test.YtcdodpcdennemaaJrE
import Derived.Test.YtcdodpcdennemaaTo
import Derived.Test.YtcdodpcdennemaaByteS
import Derived.Test.YtcdodpcdennemaaOwn
namespace Go.Proofs.Ytcdodpcdennemaa
open Go.RowKit
namespace U
theorem own_offB {w : World} {B n : Nat} {e : TypeId} {a : Option Addr} {c : Nat} {bs : List Int} (hn : n = bs.length) (h : w.ownsRow B e 1 (.slice a n c) n (bs.map (Value.int .u8))) : OffB w (.slice a n c) bs := by
  subst hn
  refine ⟨⟨a, c, rfl, ?_⟩, own_ints h⟩
  rcases h.2 with ⟨e, hn⟩ | ⟨g, cap, cur, e, _, _, hc, _⟩
  · omega
  · cases e
    omega
set_option maxRecDepth 100000 in
set_option maxHeartbeats 4000000 in
theorem fnExactReadOp_small (v : Value) (bs : List Int) (w : World) (hv : Ints .u8 w v bs) (hx : bs.length ≤ 1048576) (hB : Bts bs) :
    Calls Try.prog 4 #[v] w fun e w' => e = .returned (.bool true) ∧ Below w.heap.size w w' := by
  obtain ⟨a, k, rfl⟩ := hv.shape
  have hS := fun w u h => specReadOp_any u bs w h hB hx
  have hI := fun w u h => implReadOp_any u bs w h hB hx
  have hT := fun w (h : Ints .u8 w (.slice a bs.length k) bs) => toByteS_any _ bs w h hx
  have hE := fun v u w h1 h2 => eqByteS_any v u bs bs w h1 h2 (by omega) (by omega)
  have h2 : decide (bs = bs) = true := by simp
  rw [h2] at hE
  obtain ⟨c, k0, l0, v0, o0, p0, s0, n0, hr⟩ := rdoV_res bs
  rw [hr] at hS hI
  unfold oprV at hS hI
  have HV : Hid (∀ w', Below w.heap.size w w' → Ints .u8 w' (.slice a bs.length k) bs) := fun w' h => hv.below h
  have hQ := fun w => eqOpResult_same c k0 l0 v0 o0 p0 s0 n0 w
  unfold oprV at hQ
  obtain ⟨n, hn⟩ : ∃ n, n = bs.length := ⟨_, rfl⟩
  have HN : Hid (n = bs.length) := hn
  rw [← hn] at hx HV hT ⊢
  clear hn h2 hv hr
  go_enter Try.func4, Try.ntmps4
  go_wp2_with fail
  refine (hT _ (HV.out _ (Below.refl _ _))).mono ?_
  rintro e w1 ⟨a1, k1, rfl, hb1, own1⟩
  go_wp2_with fail
  refine (hS _ _ (own_offB HN.out own1)).mono ?_
  rintro e w2 ⟨rfl, hb2⟩
  have hB2 := below_after_of (below_after_of hb1 hb2) (one_new (.cells #[.int .i64 c, .int .i64 k0, .string l0, .int .i64 v0, .int .i64 o0, .int .i64 p0, .int .i64 s0, .int .i64 n0] 39))
  have P2 := heap_alloc_new w2 (.cells #[.int .i64 c, .int .i64 k0, .string l0, .int .i64 v0, .int .i64 o0, .int .i64 p0, .int .i64 s0, .int .i64 n0] 39)
  clear hb1 hb2 own1 hS
  go_wp2_with fail
  refine (hT _ (HV.out _ hB2)).mono ?_
  rintro e w3 ⟨a3, k3, rfl, hb3, own3⟩
  go_wp2_with fail
  refine (hI _ _ (own_offB HN.out own3)).mono ?_
  rintro e w4 ⟨rfl, hb4⟩
  have hb4' := below_after_of hb4 (one_new (.cells #[.int .i64 c, .int .i64 k0, .string l0, .int .i64 v0, .int .i64 o0, .int .i64 p0, .int .i64 s0, .int .i64 n0] 39))
  have hb34 := below_after_of hb3 hb4'
  obtain ⟨⟨y0, y1, y2, y3, y4, y5, y6, y7⟩, -⟩ := eight_cellsO ((hb34.block w2.heap.size (Array.getElem?_eq_some_iff.1 P2).1).trans P2)
  have hB4 := below_after_of hB2 hb34
  have own4 := own_below own3 hb4'
  clear hb3 hb4 hb4' hb34 own3 hB2 P2 hI
  go_wp2_with fail
  refine (hQ _).mono ?_
  rintro e w5 ⟨rfl, hb5⟩
  have hB5 := below_after_of hB4 hb5
  have own5 := own_below own4 hb5
  clear hb5 own4 hB4 y0 y1 y2 y3 y4 y5 y6 y7
  go_wp2_with fail
  refine (hT _ (HV.out _ hB5)).mono ?_
  rintro e w6 ⟨a6, k6, rfl, hb6, own6⟩
  have hB6 := below_after_of hB5 hb6
  have own5' := own_below own5 hb6
  clear own5 hb6 hB5
  go_wp2_with fail
  refine (hE _ _ _ (own_ints_n HN.out own5') (own_ints_n HN.out own6)).mono ?_
  rintro e w7 ⟨rfl, n7, rfl⟩
  go_wp2
  go_ret
  exact ⟨rfl, below_drewN hB6 n7⟩
set_option maxRecDepth 100000 in
set_option maxHeartbeats 1000000 in
theorem fnExactReadOp_walk (v : Value) (bs : List Int) (w : World) (hv : Ints .u8 w v bs) (hx : bs.length ≤ maxLen) (hB : ∀ b ∈ bs, 0 ≤ b ∧ b ≤ 255) :
    Calls Try.prog 4 #[v] w fun e w' => e = .returned (.bool true) ∧ Below w.heap.size w w' := by
  by_cases h : bs.length ≤ 1048576
  · exact fnExactReadOp_small v bs w hv h hB
  · obtain ⟨a, c, rfl⟩ := hv.shape
    clear hv
    unfold maxLen at hx
    generalize bs.length = n at *
    go_enter Try.func4, Try.ntmps4
    go_wp2
    go_ret
    exact ⟨rfl, Below.refl _ _⟩
end U
end Go.Proofs.Ytcdodpcdennemaa
