/- Directories that are the same, by the program and by the model. -/
import Derived.Test.YtihhigmceeabmaaGreatDrE
namespace Go.Proofs.YtihhigmceeabmaaGreat
open Go.RowKit
namespace U
def rcB (r s : Rc) : Bool := (r.l.toList == s.l.toList) && ((r.v == s.v) && ((r.o == s.o) && (r.p == s.p)))
theorem rcB_iff (r s : Rc) : rcB r s = true ↔ r = s := by
  obtain ⟨l, v, o, p⟩ := r
  obtain ⟨l', v', o', p'⟩ := s
  unfold rcB
  simp only [Bool.and_eq_true, beq_iff_eq, Rc.mk.injEq, toList_iff]
theorem rcB_same (r : Rc) : rcB r r = true := (rcB_iff r r).2 rfl
def sameL (l m : Rcl) : Bool := (l.length == m.length) && (List.range l.length).all fun j => rcB (rAt l j) (rAt m j)
theorem sameL_len {l m : Rcl} (h : ¬ l.length = m.length) : sameL l m = false := by unfold sameL; rw [beq_eq_false_iff_ne.2 h]; rfl
theorem sameL_no {l m : Rcl} {k : Nat} (hk : k < l.length) (h : rcB (rAt l k) (rAt m k) = false) : sameL l m = false := by
  unfold sameL
  rw [Bool.and_eq_false_iff]
  right
  rw [List.all_eq_false]
  exact ⟨k, List.mem_range.2 hk, by rw [h]; decide⟩
theorem sameL_yes {l m : Rcl} (h : l.length = m.length) (ha : ∀ j, j < l.length → rcB (rAt l j) (rAt m j) = true) : sameL l m = true := by
  unfold sameL
  rw [h, beq_self_eq_true, Bool.true_and, List.all_eq_true]
  intro j hj
  exact ha j (by rw [h]; exact List.mem_range.1 hj)
theorem sameL_iff (l m : Rcl) : sameL l m = true ↔ l = m := by
  constructor
  · intro h
    have hl : l.length = m.length := by
      by_cases h1 : l.length = m.length
      · exact h1
      · rw [sameL_len h1] at h; cases h
    apply List.ext_getElem hl
    intro j h1 h2
    rw [← rAt_eq h1, ← rAt_eq h2, ← rcB_iff]
    cases hb : rcB (rAt l j) (rAt m j)
    · rw [sameL_no h1 hb] at h; cases h
    · rfl
  · rintro rfl
    exact sameL_yes rfl (fun j _ => rcB_same _)
theorem rec_neq_any (r s : Rc) (w : World) : (binOp .neq 37 (recV r.l r.v r.o r.p) (recV s.l s.v s.o s.p)).run Tryz.prog w = .ok (.bool (!rcB r s)) w := by
  unfold recV rcB
  simp [go_sem]
  by_cases h : r.l.toList = s.l.toList <;> by_cases h1 : r.v = s.v <;> by_cases h2 : r.o = s.o <;> by_cases h3 : r.p = s.p <;> simp [h, h1, h2, h3]
end U
end Go.Proofs.YtihhigmceeabmaaGreat
