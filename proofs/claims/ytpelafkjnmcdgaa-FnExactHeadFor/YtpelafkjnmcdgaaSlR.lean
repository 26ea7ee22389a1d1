/- Answers of a code and slots: compared, marked and looked at anew. -/
import Derived.Test.YtpelafkjnmcdgaaSlL
import Derived.Test.YtpelafkjnmcdgaaOwn
import Derived.Test.YtpelafkjnmcdgaaPairs
namespace Go.Proofs.Ytpelafkjnmcdgaa
open Go.RowKit
namespace U
def mkP (k n : Nat) : Prl := (List.range n).map fun j => (((k + j * 2 : Nat) : Int), ((k + (j * 2 + 1) : Nat) : Int))
theorem mkP_len (k n : Nat) : (mkP k n).length = n := by simp [mkP]
theorem mkP_at (k n j : Nat) (h : j < n) : pAt (mkP k n) j = (((k + j * 2 : Nat) : Int), ((k + (j * 2 + 1) : Nat) : Int)) := by
  rw [pAt_eq (by rw [mkP_len]; exact h)]
  simp [mkP]
theorem fl_mkP (k n : Nat) : fl (mkP k n) = marks k (n * 2) := by
  apply List.ext_getElem?
  intro i
  by_cases h : i < n * 2
  · have h1 := fl_at (mkP k n) (i / 2) (by rw [mkP_len]; omega)
    rw [mkP_at k n (i / 2) (by omega)] at h1
    have e : (marks k (n * 2))[i]? = some ((k + i : Nat) : Int) := by simp [marks, h]
    rw [e]
    rcases (by omega : i = i / 2 * 2 ∨ i = i / 2 * 2 + 1) with hh | hh
    · rw [hh, h1.1]
    · rw [hh, h1.2]
  · rw [List.getElem?_eq_none (by rw [fl_len, mkP_len]; omega), List.getElem?_eq_none (by rw [marks_len]; omega)]
theorem Prs.grown {w w' : World} {v : Value} {l : Prl} {row : Option Nat} (h : Prs w v l) (hg : w.grownBy w' row) (hne : v.ownBlock = none ∨ v.ownBlock ≠ row) : Prs w' v l := by
  rcases h with h | ⟨b, off, c, rfl, hlt, hc⟩
  · exact Or.inl h
  · have hnb : some b ≠ row := by
      rcases hne with hh | hh
      · simp [Value.ownBlock] at hh
      · exact hh
    exact Or.inr ⟨b, off, c, rfl, Nat.lt_of_lt_of_le hlt hg.size, fun j hj => ⟨hg.cell (hc j hj).1 hnb, hg.cell (hc j hj).2 hnb⟩⟩
theorem own_prs_n {w : World} {B n : Nat} {e : TypeId} {v : Value} {l : Prl} (HN : n = l.length) (h : w.ownsRow B e 2 v n ((fl l).map (Value.int .i64))) : Prs w v l := by
  subst HN; exact own_prs h
end U
end Go.Proofs.Ytpelafkjnmcdgaa
