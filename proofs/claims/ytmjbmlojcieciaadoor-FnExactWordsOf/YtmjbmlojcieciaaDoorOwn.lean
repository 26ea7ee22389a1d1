/- Rows of one's own over what grows elsewhere. -/
import Derived.Test.YtmjbmlojcieciaaDoorPairs
namespace Go.Proofs.YtmjbmlojcieciaaDoor
open Go.RowKit
namespace U
theorem own_ints_n {k : IntKind} {w : World} {B n : Nat} {e : TypeId} {v : Value} {xs : List Int} (HN : n = xs.length) (h : w.ownsRow B e 1 v n (xs.map (Value.int k))) : Ints k w v xs := by
  subst HN; exact own_ints h
theorem own_grown {w w' : World} {B n size : Nat} {e : TypeId} {v : Value} {xs : List Value} {row : Option Nat} (h : w.ownsRow B e size v n xs) (hg : w.grownBy w' row) (hne : v.ownBlock = none ∨ v.ownBlock ≠ row) : w'.ownsRow B e size v n xs := by
  refine ⟨h.1, ?_⟩
  rcases h.2 with h2 | ⟨g, cap, cur, rfl, h3, h4, h5⟩
  · exact Or.inl h2
  · refine Or.inr ⟨g, cap, cur, rfl, h3, (hg.block g (Array.getElem?_eq_some_iff.1 h4).1 ?_).trans h4, h5⟩
    rcases hne with hne | hne
    · simp [Value.ownBlock] at hne
    · exact hne
theorem apart_lt {v u : Value} (h : ∀ k, v.ownBlock = some k → ∀ j, u.ownBlock = some j → k < j) : v.ownBlock = none ∨ v.ownBlock ≠ u.ownBlock := by
  rcases hk : v.ownBlock with _ | k
  · exact Or.inl rfl
  · right
    intro e
    have := h k hk k e.symm
    omega
theorem apart_gt {v u : Value} (h : ∀ k, v.ownBlock = some k → ∀ j, u.ownBlock = some j → j < k) : v.ownBlock = none ∨ v.ownBlock ≠ u.ownBlock := by
  rcases hk : v.ownBlock with _ | k
  · exact Or.inl rfl
  · right
    intro e
    have := h k hk k e.symm
    omega
end U
end Go.Proofs.YtmjbmlojcieciaaDoor
