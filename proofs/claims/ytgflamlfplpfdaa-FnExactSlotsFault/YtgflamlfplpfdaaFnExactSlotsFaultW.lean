/- The law on SlotsFault, walked: true, and nothing that was there has turned. -/
import Derived.Test.YtgflamlfplpfdaaSlL
namespace Go.Proofs.Ytgflamlfplpfdaa
open Go.RowKit
namespace U
set_option maxRecDepth 100000 in
set_option maxHeartbeats 2000000 in
theorem fnExactSlotsFault_walk (v : Value) (l : Prl) (w : World) (hv : Prs w v l) (hl : l.length ≤ maxLen) :
    Calls Try.prog 6 #[v] w fun e w' => e = .returned (.bool true) ∧ Below w.heap.size w w' := by
  obtain ⟨a, c, rfl⟩ := hv.shape
  have hZ := fun w => szSlotS_any a l.length c w hl
  by_cases h : l.length ≤ 1048576
  · rw [if_pos h] at hZ
    have hT := fun w' hb => toSlotS_any _ l w' (hv.below (w' := w') hb) h
    have hS := fun u w' hu => specSlotsFault_any u l w' hu (by omega)
    have hI := fun u w' hu => implSlotsFault_any u l w' hu (by omega)
    have hE := fun u v w' hu hv => eqSlotS_any u v l l w' hu hv (by omega) (by omega)
    have h2 : ¬ ((1048576 - l.length : Int) < 0) := by omega
    rw [decide_eq_true rfl] at hE
    generalize (1048576 - l.length : Int) = z at *
    generalize slF l = code at *
    have e0 : (code != code) = false := by simp
    obtain ⟨n, hn⟩ : ∃ n, n = l.length := ⟨_, rfl⟩
    rw [← hn] at hZ hT hl h ⊢
    clear hn hv
    go_enter Try.func6, Try.ntmps6
    go_wp2_with fail
    refine (hZ _).mono ?_
    rintro e w0 ⟨rfl, rfl⟩
    clear hZ
    go_wp2_with fail
    refine (hT _ (Below.refl _ _)).mono ?_
    rintro e w1 ⟨a1, c1, rfl, hB1, o1⟩
    go_wp2_with fail
    refine (hS _ _ (own_prs' o1)).mono ?_
    rintro e w2 ⟨rfl, q2, rfl⟩
    have hB2 := below_drewN hB1 q2
    clear o1 hB1 hS
    go_wp2_with fail
    refine (hT _ hB2).mono ?_
    rintro e w3 ⟨a3, c3, rfl, hb3, o3⟩
    have hB3 := below_after_of hB2 hb3
    have P3 := own_prs' o3
    clear hb3 o3 hB2
    go_wp2_with fail
    refine (hI _ _ P3).mono ?_
    rintro e w4 ⟨rfl, hb4⟩
    have hB4 := below_after_of hB3 hb4
    have P4 := P3.below hb4
    clear P3 hB3 hb4 hI
    go_wp2_with fail
    refine (hT _ hB4).mono ?_
    rintro e w5 ⟨a5, c5, rfl, hb5, o5⟩
    have P5 := P4.below hb5
    have hB5 := below_after_of hB4 hb5
    go_wp2_with fail
    refine (hE _ _ _ P5 (own_prs' o5)).mono ?_
    rintro e w6 ⟨rfl, hb6⟩
    have hB6 := below_after_of hB5 hb6
    clear hE P5 hB5 hb6 o5 hb5 P4 hB4 hT
    go_wp2
    go_ret
    exact ⟨rfl, hB6⟩
  · rw [if_neg h] at hZ
    generalize l.length = n at *
    clear hv
    go_enter Try.func6, Try.ntmps6
    go_wp2_with fail
    refine (hZ _).mono ?_
    rintro e w1 ⟨rfl, rfl⟩
    clear hZ
    go_wp2
    go_ret
    exact ⟨rfl, Below.refl _ _⟩
end U
end Go.Proofs.Ytgflamlfplpfdaa
