/- The law on AcceptOld, walked: true, and nothing that was there has turned. -/
import Derived.Test.YtgflamlfplpfdabOp6
import Derived.Test.YtgflamlfplpfdabEqR
import Derived.Test.YtgflamlfplpfdabTo
import Derived.Test.YtgflamlfplpfdabOwn
namespace Go.Proofs.Ytgflamlfplpfdab
open Go.RowKit
namespace U
set_option maxRecDepth 100000 in
set_option maxHeartbeats 2000000 in
theorem fnExactAcceptOld_walk (k : Int) (b : Bool) (y : Int) (v : Value) (xs : List Int) (r : Int) (w : World) (hv : Ints .i64 w v xs) (hl : xs.length ≤ maxLen) :
    Calls Try.prog 6 #[.int .i64 k, .bool b, .int .i64 y, v, .int .i64 r] w fun e w' => e = .returned (.bool true) ∧ Below w.heap.size w w' := by
  obtain ⟨a, c, rfl⟩ := hv.shape
  by_cases h : xs.length ≤ 1048576
  · have hT := fun w' hb => toInt64S_any _ xs w' (hv.below (w' := w') hb) h
    have hS := fun u w' hu => specAcceptOld_any k b y u xs r w' hu (by omega)
    have hI := fun u w' hu => implAcceptOld_any k b y u xs r w' hu
    have hE := fun v u w h1 h2 => eqInt64S_any v u xs xs w h1 h2 (by omega) (by omega)
    rw [decide_eq_true rfl] at hE
    generalize acB k b y xs r = oc at *
    have hoo : (oc != oc) = false := by simp
    obtain ⟨n, hn⟩ : ∃ n, n = xs.length := ⟨_, rfl⟩
    rw [← hn] at hT hl h ⊢
    have HN : Hid (n = xs.length) := hn
    clear hn hv
    go_enter Try.func6, Try.ntmps6
    go_wp2_with fail
    refine (hT _ (Below.refl _ _)).mono ?_
    rintro e w1 ⟨a1, c1, rfl, hB1, o1⟩
    go_wp2_with fail
    refine (hS _ _ (own_ints_n HN.out o1)).mono ?_
    rintro e w2 ⟨rfl, hb2⟩
    have hB2 := below_after_of hB1 hb2
    clear o1 hB1 hS hb2
    go_wp2_with fail
    refine (hT _ hB2).mono ?_
    rintro e w3 ⟨a3, c3, rfl, hb3, o3⟩
    have hB3 := below_after_of hB2 hb3
    have P3 := own_ints_n HN.out o3
    clear hb3 o3 hB2
    go_wp2_with fail
    refine (hI _ _ P3).mono ?_
    rintro e w4 ⟨rfl, hb4⟩
    have hB4 := below_after_of hB3 hb4
    have P4 := P3.below hb4
    clear P3 hB3 hb4 hI
    go_wp2_with fail
    refine (hT _ hB4).mono ?_
    rintro e w6 ⟨a6, c6, rfl, hb6, o6⟩
    have P6 := P4.below hb6
    have hB6 := below_after_of hB4 hb6
    go_wp2_with fail
    refine (hE _ _ _ P6 (own_ints_n HN.out o6)).mono ?_
    rintro e w7 ⟨rfl, n7, rfl⟩
    have hB7 := below_drewN hB6 n7
    clear hE P6 hB6 o6 hb6 P4 hB4 hT
    go_wp2
    go_ret
    exact ⟨rfl, hB7⟩
  · clear hv
    unfold maxLen at hl
    generalize xs.length = n at *
    go_enter Try.func6, Try.ntmps6
    go_wp2
    go_ret
    exact ⟨rfl, Below.refl _ _⟩
end U
end Go.Proofs.Ytgflamlfplpfdab
