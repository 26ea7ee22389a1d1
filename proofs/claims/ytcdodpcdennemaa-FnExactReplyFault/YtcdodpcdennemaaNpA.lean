/- More on the codes of forks. -/
import Derived.Test.YtcdodpcdennemaaNpM
namespace Go.Proofs.Ytcdodpcdennemaa
namespace U
theorem fk1_no {a : Int} {p : Int × Int} (h : fkB p = false) : fk1 a p = 3 := by unfold fk1; rw [h]; rfl
theorem fk1_low {a : Int} {p : Int × Int} (h : fkB p = true) (h2 : p.1 ≤ a) : fk1 a p = 1 := by unfold fk1; rw [h, if_pos rfl, if_pos h2]
theorem fk1_ok {a : Int} {p : Int × Int} (h : fkB p = true) (h2 : ¬ p.1 ≤ a) : fk1 a p = 0 := by unfold fk1; rw [h, if_pos rfl, if_neg h2]
theorem fkS_next {f : Prl} {j : Nat} (h : fkS f j = 0) : fkS f (j + 1) = fk1 (ahd f j) (pAt f j) := by rw [fkS, if_pos h]
theorem fkF_stop {f : Prl} {j : Nat} {q : Int} (h : fkS f j = 0) (hj : j + 1 ≤ f.length) (h1 : fk1 (ahd f j) (pAt f j) = q) (hq : q ≠ 0) : fkF f = q := by
  rw [← h1, ← fkS_next h]
  exact fkS_stop (by rw [fkS_next h, h1]; exact hq) _ hj
end U
end Go.Proofs.Ytcdodpcdennemaa
