/- The law on ClimbOld, walked: true, and nothing that was there has turned. -/
import Derived.Test.YtgflamlfplpfdabOp6
import Derived.Test.YtgflamlfplpfdabEqR
import Derived.Test.YtgflamlfplpfdabTo
import Derived.Test.YtgflamlfplpfdabOwn
namespace Go.Proofs.Ytgflamlfplpfdab
open Go.RowKit
namespace U
set_option maxRecDepth 100000 in
set_option maxHeartbeats 2000000 in
theorem fnExactClimbOld_walk (k : Int) (b : Bool) (y : Int) (v : Value) (xs : List Int) (w : World) (hv : Ints .i64 w v xs) (hl : xs.length ≤ maxLen) :
    Calls Try.prog 5 #[.int .i64 k, .bool b, .int .i64 y, v] w fun e w' => e = .returned (.bool true) ∧ Below w.heap.size w w' := by
  obtain ⟨a, c, rfl⟩ := hv.shape
  by_cases h : xs.length ≤ 1048576
  · have hT := fun w' hb => toInt64S_any _ xs w' (hv.below (w' := w') hb) h
    have hS := fun u w' hu => specClimbOld_any k b y u xs w' hu (by omega)
    have hI := fun u w' hu => implClimbOld_any k b y u xs w' hu
    have hE := fun v u w h1 h2 => eqInt64S_any v u xs xs w h1 h2 (by omega) (by omega)
    have hR := fun w => eqIntResult_same (coC k b y xs) (coV k b y xs) w
    rw [decide_eq_true rfl] at hE
    generalize coC k b y xs = oc at *
    generalize coV k b y xs = ov at *
    obtain ⟨n, hn⟩ : ∃ n, n = xs.length := ⟨_, rfl⟩
    rw [← hn] at hT hl h ⊢
    have HN : Hid (n = xs.length) := hn
    clear hn hv
    go_enter Try.func5, Try.ntmps5
    go_wp2_with fail
    refine (hT _ (Below.refl _ _)).mono ?_
    rintro e w1 ⟨a1, c1, rfl, hB1, o1⟩
    go_wp2_with fail
    refine (hS _ _ (own_ints_n HN.out o1)).mono ?_
    rintro e w2 ⟨rfl, hb2⟩
    have hB2 := below_after_of hB1 hb2
    have hB2a : Below w.heap.size w (w2.alloc (.cells #[.int .i64 oc, .int .i64 ov] 25)) := hB2.alloc hB2.size _
    have A2 := heap_alloc_new w2 (.cells #[.int .i64 oc, .int .i64 ov] 25)
    clear o1 hB1 hS hb2
    go_wp2_with fail
    refine (hT _ hB2a).mono ?_
    rintro e w3 ⟨a3, c3, rfl, hb3, o3⟩
    have hB3 := below_after_of hB2a hb3
    have A3 := (hb3.block w2.heap.size (by simp)).trans A2
    have P3 := own_ints_n HN.out o3
    have hz3 : w2.heap.size < w3.heap.size := by have := hb3.size; simp at this; omega
    clear hb3 o3 hB2a A2
    go_wp2_with fail
    refine (hI _ _ P3).mono ?_
    rintro e w4 ⟨rfl, hb4⟩
    have hB4 := below_after_of hB3 hb4
    have P4 := P3.below hb4
    obtain ⟨g0, g1, -, -⟩ := two_cellsV ((hb4.block w2.heap.size hz3).trans A3)
    have hz4 : w2.heap.size < w4.heap.size := Nat.lt_of_lt_of_le hz3 hb4.size
    clear P3 hB3 hb4 hI A3
    go_wp2_with fail
    refine (hR _).mono ?_
    rintro e w5 ⟨rfl, hb5⟩
    have hB5 := below_after_of (hB4.alloc hB4.size _) hb5
    have P5 := P4.below (below_after hb5)
    clear hR hb5 P4 hB4
    go_wp2_with fail
    refine (hT _ hB5).mono ?_
    rintro e w6 ⟨a6, c6, rfl, hb6, o6⟩
    have P6 := P5.below hb6
    have hB6 := below_after_of hB5 hb6
    go_wp2_with fail
    refine (hE _ _ _ P6 (own_ints_n HN.out o6)).mono ?_
    rintro e w7 ⟨rfl, n7, rfl⟩
    have hB7 := below_drewN hB6 n7
    clear hE P6 hB6 o6 hb6 P5 hB5 hT
    go_wp2
    go_ret
    exact ⟨rfl, hB7⟩
  · clear hv
    unfold maxLen at hl
    generalize xs.length = n at *
    go_enter Try.func5, Try.ntmps5
    go_wp2
    go_ret
    exact ⟨rfl, Below.refl _ _⟩
end U
end Go.Proofs.Ytgflamlfplpfdab
