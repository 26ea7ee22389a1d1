/- The law on OldRoot, walked: true, and nothing that was there has turned. -/
import Derived.Test.YtgflamlfplpfdaaSl8
import Derived.Test.YtgflamlfplpfdaaEqR
namespace Go.Proofs.Ytgflamlfplpfdaa
open Go.RowKit
namespace U
set_option maxRecDepth 100000 in
set_option maxHeartbeats 2000000 in
theorem fnExactOldRoot_walk (v : Value) (l : Prl) (w : World) (hv : Prs w v l) (hl : l.length ≤ maxLen) :
    Calls Try.prog 8 #[v] w fun e w' => e = .returned (.bool true) ∧ Below w.heap.size w w' := by
  obtain ⟨a, c, rfl⟩ := hv.shape
  have hZ := fun w => szSlotS_any a l.length c w hl
  by_cases h : l.length ≤ 1048576
  · rw [if_pos h] at hZ
    have hT := fun w' hb => toSlotS_any _ l w' (hv.below (w' := w') hb) h
    have hS := fun u w' hu => specOldRoot_any u l w' hu (by omega)
    have hI := fun u w' hu => implOldRoot_any u l w' hu (by omega)
    have hE := fun u v w' hu hv => eqSlotS_any u v l l w' hu hv (by omega) (by omega)
    have hR := fun w => eqIntResult_same (orC l) (orV l) w
    have h2 : ¬ ((1048576 - l.length : Int) < 0) := by omega
    rw [decide_eq_true rfl] at hE
    generalize (1048576 - l.length : Int) = z at *
    generalize orC l = oc at *
    generalize orV l = ov at *
    obtain ⟨n, hn⟩ : ∃ n, n = l.length := ⟨_, rfl⟩
    rw [← hn] at hZ hT hl h ⊢
    clear hn hv
    go_enter Try.func8, Try.ntmps8
    go_wp2_with fail
    refine (hZ _).mono ?_
    rintro e w0 ⟨rfl, rfl⟩
    clear hZ
    go_wp2_with fail
    refine (hT _ (Below.refl _ _)).mono ?_
    rintro e w1 ⟨a1, c1, rfl, hB1, o1⟩
    go_wp2_with fail
    refine (hS _ _ (own_prs' o1)).mono ?_
    rintro e w2 ⟨rfl, hb2⟩
    have hB2 := below_after_of hB1 hb2
    have hB2a : Below w0.heap.size w0 (w2.alloc (.cells #[.int .i64 oc, .int .i64 ov] 38)) := hB2.alloc hB2.size _
    have A2 := heap_alloc_new w2 (.cells #[.int .i64 oc, .int .i64 ov] 38)
    clear o1 hB1 hS hb2
    go_wp2_with fail
    refine (hT _ hB2a).mono ?_
    rintro e w3 ⟨a3, c3, rfl, hb3, o3⟩
    have hB3 := below_after_of hB2a hb3
    have A3 := (hb3.block w2.heap.size (by simp)).trans A2
    have P3 := own_prs' o3
    have hz3 : w2.heap.size < w3.heap.size := by have := hb3.size; simp at this; omega
    clear hb3 o3 hB2a A2
    go_wp2_with fail
    refine (hI _ _ P3).mono ?_
    rintro e w4 ⟨rfl, hb4⟩
    have hB4 := below_after_of hB3 hb4
    have P4 := P3.below hb4
    obtain ⟨g0, g1, -, -⟩ := two_cellsV ((hb4.block w2.heap.size hz3).trans A3)
    have hz4 : w2.heap.size < w4.heap.size := Nat.lt_of_lt_of_le hz3 hb4.size
    clear P3 hB3 hb4 hI A3
    go_wp2_with fail
    refine (hR _).mono ?_
    rintro e w5 ⟨rfl, hb5⟩
    have hB5 := below_after_of (hB4.alloc hB4.size _) hb5
    have P5 := P4.below (below_after hb5)
    clear hR hb5 P4 hB4
    go_wp2_with fail
    refine (hT _ hB5).mono ?_
    rintro e w6 ⟨a6, c6, rfl, hb6, o6⟩
    have P6 := P5.below hb6
    have hB6 := below_after_of hB5 hb6
    go_wp2_with fail
    refine (hE _ _ _ P6 (own_prs' o6)).mono ?_
    rintro e w7 ⟨rfl, hb7⟩
    have hB7 := below_after_of hB6 hb7
    clear hE P6 hB6 hb7 o6 hb6 P5 hB5 hT
    go_wp2
    go_ret
    exact ⟨rfl, hB7⟩
  · rw [if_neg h] at hZ
    generalize l.length = n at *
    clear hv
    go_enter Try.func8, Try.ntmps8
    go_wp2_with fail
    refine (hZ _).mono ?_
    rintro e w1 ⟨rfl, rfl⟩
    clear hZ
    go_wp2
    go_ret
    exact ⟨rfl, Below.refl _ _⟩
end U
end Go.Proofs.Ytgflamlfplpfdaa
