/- A region that draws its order, whose callees turn nothing that was there and answer with one value: one walk. -/
import Derived.Test.YtdbbmclobmigdaaGreatIntR
import Derived.BigQuiet
namespace Go.Proofs.YtdbbmclobmigdaaGreat
open Go.RowKit
namespace U
/-- The worlds in which nothing that was there has turned. -/
def After (W : World) : Type := {w' : World // Below W.heap.size W w'}
def After.w {W : World} (n : After W) : World := n.1
theorem After.b {W : World} (n : After W) : Below W.heap.size W n.w := n.2
theorem After.ne (W : World) : Nonempty (After W) := ⟨⟨W, Below.refl _ _⟩⟩
theorem after_mk {W w' : World} (h : Below W.heap.size W w') : ∃ n : After W, w' = n.w := ⟨⟨w', h⟩, rfl⟩
theorem After.cell {W : World} {b i : Nat} {x : Value} (h : W.cell? ⟨b, i, none⟩ = some x) : ∀ n : After W, n.w.cell? ⟨b, i, none⟩ = some x := fun n => by
  have hlt : b < W.heap.size := by
    rcases hh : W.heap[b]? with _ | o
    · simp [World.cell?, hh] at h
    · exact (Array.getElem?_eq_some_iff.1 hh).1
  exact (n.b.cell (p := ⟨b, i, none⟩) hlt).trans h
theorem wp_region_after {P : Program} {id : Nat} {Q : Exit → Act → World → Prop} {a : Act} {w : World} {l : List Oper} (hm : P.follows .mixedOrders = true) (hB : Region.lexB .any l.toArray = true)
    (h : wpQuiet P l.toArray (fun w' => ∃ n : After w, w' = n.w) (fun a' => ∀ w', (∃ n : After w, w' = n.w) → Q .normal a' w') l a) : (Go.Code.region id l.toArray true).wp P Q a w :=
  wp_region_quiet (C := fun w' => ∃ n : After w, w' = n.w) hm hB (after_mk (Below.refl _ _).drew) (by simpa using h)
end U
end Go.Proofs.YtdbbmclobmigdaaGreat
