/- The fault and the size of a trail, as the model and as the program tell them. -/
import Derived.Test.YtljbcpkjhnbpeaaNp3
import Derived.Test.YtljbcpkjhnbpeaaNp4
namespace Go.Proofs.Ytljbcpkjhnbpeaa
open Go.RowKit
namespace U
set_option maxRecDepth 100000 in
set_option maxHeartbeats 2000000 in
theorem l7Fault_no (p : Nat) (x : Bool) (k y : Int) (ad : Option Addr) (n c : Nat) (w : World) (H : TlBlk w p x k y (.slice ad n c)) (q : Int)
    (hq : (q = 1 ∧ x = false ∧ ((k, y) ≠ (0, 0) ∨ 0 < n)) ∨ (q = 3 ∧ fine (k, y) = false ∧ (x = true ∨ (k = 0 ∧ y = 0 ∧ n = 0))) ∨ (q = 2 ∧ fine (k, y) = true ∧ 8 < n ∧ x = true)) :
    Calls Try.prog 51 #[.pointer (some ⟨p, 0, none⟩)] w fun e w' => e = .returned (.int .i64 q) ∧ Below w.heap.size w w' := by
  have hK := fun w => l4Key_any k w
  have hS := fun w => l2Is4 y w
  obtain ⟨c0, c1, c2, c3⟩ := H.cells
  clear H
  rcases hq with ⟨rfl, rfl, hh⟩ | ⟨rfl, hf, rfl | ⟨rfl, rfl, rfl⟩⟩ | ⟨rfl, hf, hn, rfl⟩
  · clear hK hS
    by_cases hk : k = 0
    · subst hk
      by_cases hy : y = 0
      · subst hy
        have hn : 0 < n := by rcases hh with h | h; exact absurd rfl h; exact h
        have hni : (0 : Int) < (n : Int) := by omega
        clear hh hn
        go_enter Try.func51, Try.ntmps51
        go_wp2
        go_ret
        exact ⟨rfl, Below.refl _ _⟩
      · have hy1 : (y == 0) = false := by simpa using hy
        have hy2 : (y != 0) = true := by simpa using hy
        clear hh
        go_enter Try.func51, Try.ntmps51
        go_wp2
        go_ret
        exact ⟨rfl, Below.refl _ _⟩
    · have hk1 : (k == 0) = false := by simpa using hk
      have hk2 : (k != 0) = true := by simpa using hk
      clear hh
      go_enter Try.func51, Try.ntmps51
      go_wp2
      go_ret
      exact ⟨rfl, Below.refl _ _⟩
  · unfold fine at hf
    dsimp only at hf
    generalize inB k 0 255 = u at *
    generalize sumB y = z at *
    cases u
    · clear hS hf
      go_enter Try.func51, Try.ntmps51
      go_wp2_with fail
      refine (hK _).mono ?_
      rintro e w1 ⟨rfl, rfl⟩
      clear hK
      go_wp2
      go_ret
      exact ⟨rfl, Below.refl _ _⟩
    · obtain rfl : z = false := by simpa using hf
      clear hf
      go_enter Try.func51, Try.ntmps51
      go_wp2_with fail
      refine (hK _).mono ?_
      rintro e w1 ⟨rfl, rfl⟩
      clear hK
      go_wp2_with fail
      refine (hS _).mono ?_
      rintro e w1 ⟨rfl, rfl⟩
      clear hS
      go_wp2
      go_ret
      exact ⟨rfl, Below.refl _ _⟩
  · exact absurd hf (by decide)
  · unfold fine at hf
    dsimp only at hf
    obtain ⟨h1, h2⟩ := Bool.and_eq_true_iff.1 hf
    rw [h1] at hK
    rw [h2] at hS
    have hn8 : (8 : Int) < (n : Int) := by omega
    clear hf h1 h2
    go_enter Try.func51, Try.ntmps51
    go_wp2_with fail
    refine (hK _).mono ?_
    rintro e w1 ⟨rfl, rfl⟩
    clear hK
    go_wp2_with fail
    refine (hS _).mono ?_
    rintro e w1 ⟨rfl, rfl⟩
    clear hS
    go_wp2
    go_ret
    exact ⟨rfl, Below.refl _ _⟩
/-- The ways of a trail's fault. -/
theorem tlF_ways (x : Bool) (k y : Int) (f : Prl) : ((tlF x k y f = 1 ∧ x = false ∧ ((k, y) ≠ (0, 0) ∨ 0 < f.length)) ∨ (tlF x k y f = 3 ∧ fine (k, y) = false ∧ (x = true ∨ (k = 0 ∧ y = 0 ∧ f.length = 0))) ∨ (tlF x k y f = 2 ∧ fine (k, y) = true ∧ 8 < f.length ∧ x = true)) ∨
    (tlF x k y f = fkF f ∧ fine (k, y) = true ∧ f.length ≤ 8 ∧ (x = true ∨ (x = false ∧ k = 0 ∧ y = 0 ∧ f.length = 0))) := by
  unfold tlF
  by_cases h1 : x = false ∧ ((k, y) ≠ (0, 0) ∨ 0 < f.length)
  · rw [if_pos h1]
    exact Or.inl (Or.inl ⟨rfl, h1⟩)
  · rw [if_neg h1]
    have hx : x = true ∨ (x = false ∧ k = 0 ∧ y = 0 ∧ f.length = 0) := by
      rcases Bool.eq_false_or_eq_true x with h | h
      · exact Or.inl h
      · right
        have h4 : (k, y) = (0, 0) := Classical.byContradiction fun e => h1 ⟨h, Or.inl e⟩
        have h5 : ¬ 0 < f.length := fun e => h1 ⟨h, Or.inr e⟩
        cases h4
        exact ⟨h, rfl, rfl, by omega⟩
    rcases Bool.eq_false_or_eq_true (fine (k, y)) with h2 | h2
    · rw [if_neg (by rw [h2]; decide)]
      by_cases h3 : 8 < f.length
      · rw [if_pos h3]
        refine Or.inl (Or.inr (Or.inr ⟨rfl, h2, h3, ?_⟩))
        rcases hx with h | h
        · exact h
        · omega
      · rw [if_neg h3]
        exact Or.inr ⟨rfl, h2, by omega, hx⟩
    · rw [if_pos h2]
      refine Or.inl (Or.inr (Or.inl ⟨rfl, h2, ?_⟩))
      rcases hx with h | h
      · exact Or.inl h
      · exact Or.inr h.2
theorem l7Fault_any (p : Nat) (x : Bool) (k y : Int) (sv : Value) (f : Prl) (w : World) (H : TlBlk w p x k y sv) (hv : Prs w sv f) :
    Calls Try.prog 51 #[.pointer (some ⟨p, 0, none⟩)] w fun e w' => e = .returned (.int .i64 (tlF x k y f)) ∧ Below w.heap.size w w' := by
  obtain ⟨a, c, rfl⟩ := hv.shape
  rcases tlF_ways x k y f with h | ⟨h, h1, h2, h3⟩
  · exact l7Fault_no p x k y a f.length c w H _ h
  · rw [h]
    unfold fine at h1
    dsimp only at h1
    obtain ⟨h4, h5⟩ := Bool.and_eq_true_iff.1 h1
    exact l7Fault_loop p x k y a f.length c f w H hv rfl h2 h3 h4 h5
set_option maxRecDepth 100000 in
theorem specTrailFault_any (x : Bool) (k y : Int) (sv : Value) (f : Prl) (w : World) (hv : Prs w sv f) :
    Calls Try.prog 26 #[.agg #[.bool x, .int .i64 k, .int .i64 y, sv]] w fun e w' => e = .returned (.int .i64 (tlF x k y f)) ∧ Below w.heap.size w w' := by
  have hF := l7Fault_any w.heap.size x k y sv f _ (tl_box w x k y sv) (hv.below (one_new _))
  obtain ⟨a, c, rfl⟩ := hv.shape
  generalize tlF x k y f = q at *
  generalize f.length = n at *
  clear hv
  go_enter Try.func26, Try.ntmps26
  go_wp2_with fail
  refine hF.mono ?_
  rintro e w1 ⟨rfl, hb1⟩
  have hB := below_after hb1
  clear hF hb1
  go_wp2
  go_ret
  exact ⟨rfl, hB⟩
end U
end Go.Proofs.Ytljbcpkjhnbpeaa
