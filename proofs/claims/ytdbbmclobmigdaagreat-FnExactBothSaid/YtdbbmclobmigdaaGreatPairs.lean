/- Structs of two cells, and lists, carried over what does not touch them. -/
import Derived.Test.YtdbbmclobmigdaaGreatIntR
namespace Go.Proofs.YtdbbmclobmigdaaGreat
open Go.RowKit
namespace U
/-- What a struct of two cells in a block of its own reads as. -/
def Pair (w : World) (b : Nat) (x y : Value) : Prop := b < w.heap.size ∧ w.cell? ⟨b, 0, none⟩ = some x ∧ w.cell? ⟨b, 1, none⟩ = some y
theorem Pair.below {w w' : World} {b : Nat} {x y : Value} (h : Pair w b x y) (hb : Below w.heap.size w w') : Pair w' b x y :=
  ⟨Nat.lt_of_lt_of_le h.1 hb.size, (hb.cell (p := ⟨b, 0, none⟩) h.1).trans h.2.1, (hb.cell (p := ⟨b, 1, none⟩) h.1).trans h.2.2⟩
theorem Pair.grown {w w' : World} {b : Nat} {x y : Value} {row : Option Nat} (h : Pair w b x y) (hg : w.grownBy w' row) (hne : some b ≠ row) : Pair w' b x y :=
  ⟨Nat.lt_of_lt_of_le h.1 hg.size, hg.cell h.2.1 hne, hg.cell h.2.2 hne⟩
theorem Pair.new (w : World) (x y : Value) (t : TypeId) : Pair (w.alloc (.cells #[x, y] t)) w.heap.size x y :=
  have h := two_cells (heap_alloc_new w (.cells #[x, y] t))
  ⟨by simp, h.1, h.2.1⟩
theorem Ints.grown {k : IntKind} {w w' : World} {v : Value} {xs : List Int} {row : Option Nat} (h : Ints k w v xs) (hg : w.grownBy w' row) (hne : v.ownBlock = none ∨ v.ownBlock ≠ row) : Ints k w' v xs := by
  rcases h with h | ⟨b, off, c, rfl, hlt, hc⟩
  · exact Or.inl h
  · refine Or.inr ⟨b, off, c, rfl, Nat.lt_of_lt_of_le hlt hg.size, fun j hj => hg.cell (hc j hj) ?_⟩
    rcases hne with hne | hne
    · simp [Value.ownBlock] at hne
    · exact hne
end U
end Go.Proofs.YtdbbmclobmigdaaGreat
