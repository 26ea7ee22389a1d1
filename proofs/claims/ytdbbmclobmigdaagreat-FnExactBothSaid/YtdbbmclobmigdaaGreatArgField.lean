/- A field of an argument that is a slice of numbers, opened: it reads as a list. -/
import Derived.Test.YtdbbmclobmigdaaGreatArgInts
import Derived.Lib.SmallJoins
namespace Go.Proofs.YtdbbmclobmigdaaGreat
namespace U
open Go.ChangeShapes Go.WideShapes Go.ChangeAt Go.RowKit
theorem ints_field {H : Type} {enc : TypeId × Value → H} {P : Program} {W : World} {t e : TypeId} {k : IntKind} {v : Value} {x : DataW H × List MemPlace} {fuel : Nat} (ht : P.underlying t = some (.slice e)) (he : P.underlying e = some (.int k)) (hce : P.cellsOf e = 1)
    (hf : DataW.trod enc P W 0 (fun _ => true) true fuel t [v] = some x) : ∃ xs, Ints k W v xs ∧ xs.length ≤ maxLen ∧ ∀ n ∈ xs, (Lit.int k n).wf = true := by
  rcases open_ints ht he hce hf with ⟨hcs, hx⟩ | ⟨a, len, cap, zs, hcs, h1, hl, hm, hz, hx, hcell, hwz⟩
  · have e1 : v = .slice none 0 0 := by simpa using hcs
    exact ⟨[], Or.inl ⟨rfl, none, 0, e1⟩, by simp, by simp⟩
  · have e1 : v = .slice (some a) len cap := by simpa using hcs
    subst e1
    rw [if_pos rfl] at hz
    by_cases h0 : len = 0
    · subst h0
      exact ⟨[], Or.inl ⟨rfl, _, _, rfl⟩, by simp, by simp⟩
    · obtain ⟨b, off, rfl, hc⟩ := ints_at hcell (by omega)
      have hlen : (zs.take len).length = len := by rw [List.length_take]; omega
      have hb : b < W.heap.size := by
        have := hc 0 (by omega)
        rcases hh : W.heap[b]? with _ | o
        · simp [World.cell?, hh] at this
        · exact (Array.getElem?_eq_some_iff.1 hh).1
      refine ⟨zs.take len, Or.inr ⟨b, off, cap, by rw [hlen], hb, fun j hj => ?_⟩, by omega, fun n hn => hwz n (List.mem_of_mem_take hn)⟩
      rw [hlen] at hj
      rw [hc j (by omega)]
      congr 2
      simp only [List.getD_eq_getElem?_getD, List.getElem?_take, if_pos hj]
end U
end Go.Proofs.YtdbbmclobmigdaaGreat
