/- The law on LookClash, walked: true, and nothing that was there has turned. -/
import Derived.Test.YtdcfoggcepkelaaClashL
namespace Go.Proofs.Ytdcfoggcepkelaa
open Go.RowKit
namespace U
/-- What a struct of four cells in a block of its own reads as. -/
def Quad (w : World) (b : Nat) (x y z u : Value) : Prop := b < w.heap.size ∧ w.cell? ⟨b, 0, none⟩ = some x ∧ w.cell? ⟨b, 1, none⟩ = some y ∧ w.cell? ⟨b, 2, none⟩ = some z ∧ w.cell? ⟨b, 3, none⟩ = some u
theorem Quad.below {w w' : World} {b : Nat} {x y z u : Value} (h : Quad w b x y z u) (hb : Below w.heap.size w w') : Quad w' b x y z u :=
  ⟨Nat.lt_of_lt_of_le h.1 hb.size, (hb.cell (p := ⟨b, 0, none⟩) h.1).trans h.2.1, (hb.cell (p := ⟨b, 1, none⟩) h.1).trans h.2.2.1, (hb.cell (p := ⟨b, 2, none⟩) h.1).trans h.2.2.2.1, (hb.cell (p := ⟨b, 3, none⟩) h.1).trans h.2.2.2.2⟩
theorem Quad.grown {w w' : World} {b : Nat} {x y z u : Value} {row : Option Nat} (h : Quad w b x y z u) (hg : w.grownBy w' row) (hne : some b ≠ row) : Quad w' b x y z u :=
  ⟨Nat.lt_of_lt_of_le h.1 hg.size, hg.cell h.2.1 hne, hg.cell h.2.2.1 hne, hg.cell h.2.2.2.1 hne, hg.cell h.2.2.2.2 hne⟩
theorem Quad.new (w : World) (x y z u : Value) (t : TypeId) : Quad (w.alloc (.cells #[x, y, z, u] t)) w.heap.size x y z u :=
  have h := four_cells (heap_alloc_new w (.cells #[x, y, z, u] t))
  ⟨by simp, h.1, h.2.1, h.2.2.1, h.2.2.2.1⟩
theorem pick_len (f : Bool) (ls : List Int) : (pick f ls).length ≤ ls.length := by unfold pick; split <;> simp
/-- An answer of a clash, used. -/
theorem ClashAns.use {w w' : World} {code : Int} {f : Bool} {ls bs ps qs : List Int} {e : Ending} (h : ClashAns w code f ls bs e w') (hp : ps = pick f ls) (hq : qs = pick f bs) : ∃ a c a' c', e = .returned (.agg #[.int .i64 code, .bool f, .slice a ps.length c, .slice a' qs.length c']) ∧ Below w.heap.size w w' ∧
    w'.ownsRow w.heap.size 5 1 (.slice a ps.length c) ps.length (ps.map (Value.int .u8)) ∧ w'.ownsRow w.heap.size 5 1 (.slice a' qs.length c') qs.length (qs.map (Value.int .u8)) ∧ (∀ k, (Value.slice a ps.length c).ownBlock = some k → ∀ j, (Value.slice a' qs.length c').ownBlock = some j → k < j) := by
  obtain ⟨hb, v1, v2, rfl, r⟩ := h
  subst hp hq
  obtain ⟨⟨a, c, rfl⟩, a', c', rfl⟩ := r.shape
  exact ⟨a, c, a', c', rfl, hb, r⟩
end U
end Go.Proofs.Ytdcfoggcepkelaa
