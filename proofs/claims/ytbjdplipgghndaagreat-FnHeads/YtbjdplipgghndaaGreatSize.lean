/- What both SizeOf answer, where the table of the ends of sizes is as its text lays it. -/
import Derived.Test.YtbjdplipgghndaaGreatIntR
namespace Go.Proofs.YtbjdplipgghndaaGreat
open Go.RowKit
namespace U
def szC (r : Int) : Int := if runeB r = true then 0 else 3
def szV (r : Int) : Int := if runeB r = true then sizeI r else 0
theorem sz_yes {r : Int} (h : runeB r = true) : szC r = 0 ∧ szV r = sizeI r := by simp [szC, szV, h]
theorem sz_no {r : Int} (h : runeB r = false) : szC r = 3 ∧ szV r = 0 := by simp [szC, szV, h]
theorem runeB_iff (r : Int) : runeB r = true ↔ ((0 ≤ r ∧ r ≤ 1114111) ∧ ¬ (55296 ≤ r ∧ r ≤ 57343)) := by unfold runeB; exact decide_eq_true_iff
theorem runeB_not (r : Int) : runeB r = false ↔ (r < 0 ∨ 1114111 < r ∨ (55296 ≤ r ∧ r ≤ 57343)) := by unfold runeB; rw [decide_eq_false_iff_not]; omega
end U
end Go.Proofs.YtbjdplipgghndaaGreat
