/- Answers that hold a state. -/
import Derived.Test.YtjhmfaibpnagcaaGreatGCp3
namespace Go.Proofs.YtjhmfaibpnagcaaGreat
open Go.RowKit
namespace U
def stZ : St := ⟨0, 0, [], [], [], []⟩
def svZ : Sv := ⟨.slice none 0 0, .slice none 0 0, .slice none 0 0, .slice none 0 0⟩
theorem stZ_own (lo hi : Nat) (w : World) : StOwn lo hi w svZ [] stZ := by
  refine ⟨⟨fun r hr => ?_, fun g hg => ?_, ?_⟩, rfl⟩
  · have : r = dRow (.slice none 0 0) [] ∨ r = nRow (.slice none 0 0) [] ∨ r = hRow (.slice none 0 0) [] ∨ r = oRow (.slice none 0 0) [] := by simpa [sRows, svZ, stZ, pRows] using hr
    rcases this with rfl | rfl | rfl | rfl <;> exact ⟨rfl, Or.inl ⟨rfl, rfl⟩⟩
  · simp [sRows, svZ, stZ, pRows, blks, dRow, nRow, hRow, oRow, Value.ownBlock] at hg
  · simp [sRows, svZ, stZ, pRows, blks, dRow, nRow, hRow, oRow, Value.ownBlock]
/-- An answer of a code and a state. -/
def StAns (w : World) (c : Int) (t : St) (e : Ending) (w' : World) : Prop := ∃ u us, e = .returned (srV c t u) ∧ Below w.heap.size w w' ∧ StOwn w.heap.size w'.heap.size w' u us t
theorem seven_cellsR {w : World} {b : Nat} {x0 x1 x2 x3 x4 x5 x6 : Value} {t : TypeId} (h : w.heap[b]? = some (.cells #[x0, x1, x2, x3, x4, x5, x6] t)) : (w.cell? ⟨b, 0, none⟩ = some x0 ∧ w.cell? ⟨b, 1, none⟩ = some x1 ∧ w.cell? ⟨b, 2, none⟩ = some x2 ∧ w.cell? ⟨b, 3, none⟩ = some x3 ∧ w.cell? ⟨b, 4, none⟩ = some x4 ∧ w.cell? ⟨b, 5, none⟩ = some x5 ∧ w.cell? ⟨b, 6, none⟩ = some x6) ∧ w.frozen? ⟨b, 0, none⟩ = false ∧ w.frozen? ⟨b, 1, none⟩ = false ∧ w.frozen? ⟨b, 2, none⟩ = false ∧ w.frozen? ⟨b, 3, none⟩ = false ∧ w.frozen? ⟨b, 4, none⟩ = false ∧ w.frozen? ⟨b, 5, none⟩ = false ∧ w.frozen? ⟨b, 6, none⟩ = false := by
  simp [World.cell?, World.frozen?, h]
theorem StOwn.ph {lo hi : Nat} {w : World} {v : Sv} {us : List Value} {s : St} (h : StOwn lo hi w v us s) (p c : Int) : StOwn lo hi w v us ⟨p, c, s.d, s.n, s.h, s.p⟩ := ⟨h.own, h.len⟩
end U
end Go.Proofs.YtjhmfaibpnagcaaGreat
