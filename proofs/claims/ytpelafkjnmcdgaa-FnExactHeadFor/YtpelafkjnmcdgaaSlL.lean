/- Slots as the laws look at them: sizes, copies, compared, marked and looked at anew. -/
import Derived.Test.YtpelafkjnmcdgaaSl1
import Derived.Test.YtpelafkjnmcdgaaQuiet
namespace Go.Proofs.Ytpelafkjnmcdgaa
open Go.RowKit
namespace U
theorem Try.infoSl : (Try.prog.info? 125).map (fun i => (i.zero, i.size, i.bytes)) = some (some (.agg #[.int .i64 0, .int .i64 0]), 2, 16) := by kernel_rfl
theorem made_two (n : Nat) : (madeCells #[Value.int .i64 0, Value.int .i64 0] n).toList = List.replicate n (Value.int .i64 0) := by
  apply List.ext_getElem
  · simp [madeCells]
  · intro i h1 h2
    simp only [madeCells, Array.toList_map, List.getElem_map, List.getElem_replicate]
    rcases (by omega : (Array.range n).toList[i]'(by simpa [madeCells] using h1) % 2 = 0 ∨ (Array.range n).toList[i]'(by simpa [madeCells] using h1) % 2 = 1) with h | h <;> (show #[Value.int .i64 0, Value.int .i64 0][_ % 2]! = _; rw [h]; rfl)
theorem made_slots {w1 w : World} {n : Nat} {l : Prl} (HN : n = l.length) (h : w1.ownsRow w.heap.size 125 2 (.slice (some ⟨w.heap.size, 0, none⟩) n n) n (madeCells #[Value.int .i64 0, Value.int .i64 0] (n * 2)).toList) :
    w1.ownsRow w.heap.size 125 2 (.slice (some ⟨w.heap.size, 0, none⟩) n n) n ((copied (fl l) 0).map (Value.int .i64)) := by
  rw [copied_zero, fl_len, ← HN, List.map_replicate, ← made_two]
  exact h
theorem own_some2 {w : World} {B g n cap : Nat} {e : TypeId} {xs : List Value} (h : w.ownsRow B e 2 (.slice (some ⟨g, 0, none⟩) n cap) n xs) {j : Nat} (hj : j < n * 2) : ∃ x, w.cell? ⟨g, j, none⟩ = some x :=
  ⟨_, (h.cellAt j (by omega)).trans (List.getElem?_eq_getElem (by rw [h.1]; omega))⟩
theorem fl_getD (l : Prl) {j : Nat} (h : j < l.length) : (fl l).getD (j * 2) 0 = (pAt l j).1 ∧ (fl l).getD (j * 2 + 1) 0 = (pAt l j).2 := by
  have := fl_at l j h
  rw [List.getD_eq_getElem?_getD, List.getD_eq_getElem?_getD, this.1, this.2]
  exact ⟨rfl, rfl⟩
theorem two_set (l : Prl) {k : Nat} (h : k < l.length) : ((copied (fl l) (k * 2)).set (k * 2) (pAt l k).1).set (k * 2 + 1) (pAt l k).2 = copied (fl l) ((k + 1) * 2) := by
  have hl := fl_len l
  rw [← (fl_getD l h).1, copied_set _ _ (by omega), ← (fl_getD l h).2, copied_set _ _ (by omega)]
  congr 1
  omega
/-- Two lists that agree below a place. -/
def AgreeP (l m : Prl) (k : Nat) : Prop := ∀ j, j < k → pAt l j = pAt m j
theorem AgreeP.all {l m : Prl} (h : AgreeP l m l.length) (hl : l.length = m.length) : l = m := by
  apply List.ext_getElem hl
  intro j h1 h2
  have := h j h1
  rwa [pAt_eq h1, pAt_eq h2] at this
theorem AgreeP.succ {l m : Prl} {k : Nat} (h : AgreeP l m k) (h1 : pAt l k = pAt m k) : AgreeP l m (k + 1) := by
  intro j hj
  by_cases e : j = k
  · subst e; exact h1
  · exact h j (by omega)
end U
end Go.Proofs.Ytpelafkjnmcdgaa
