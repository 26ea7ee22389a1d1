/- A state, as mathematics: what it is, and compared. -/
import Derived.Test.YtjhmfaibpnagcaaGreatGBA
import Derived.Test.YtjhmfaibpnagcaaGreatGBC
import Derived.Test.YtjhmfaibpnagcaaGreatGBB
namespace Go.Proofs.YtjhmfaibpnagcaaGreat
open Go.RowKit
namespace U
abbrev Pst := List Rcl
def dAt (p : Pst) (j : Nat) : Rcl := p.getD j []
theorem dAt_eq {p : Pst} {j : Nat} (h : j < p.length) : dAt p j = p[j] := by simp [dAt, List.getD_eq_getElem?_getD, List.getElem?_eq_getElem h]
/-- A state. -/
structure St where
  ph : Int
  cu : Int
  d : Rcl
  n : Prl
  h : Hdl
  p : Pst
/-- Slots compared. -/
def eqP (l m : Prl) : Bool := decide (l = m)
theorem eqP_len {l m : Prl} (h : ¬ l.length = m.length) : eqP l m = false := decide_eq_false fun e => h (by rw [e])
theorem eqP_no {l m : Prl} {k : Nat} (h : ¬ pAt l k = pAt m k) : eqP l m = false := decide_eq_false fun e => h (by rw [e])
theorem eqP_yes {l m : Prl} (h : l.length = m.length) (ha : ∀ j, j < l.length → pAt l j = pAt m j) : eqP l m = true := decide_eq_true (by
  apply List.ext_getElem h
  intro j h1 h2
  rw [← pAt_eq h1, ← pAt_eq h2]
  exact ha j h1)
theorem eqP_iff {l m : Prl} : eqP l m = true ↔ l = m := decide_eq_true_iff
/-- Heads compared. -/
def hdQ (a b : Hd) : Bool := (a.e == b.e) && ((a.p == b.p) && ((a.o == b.o) && ((a.n == b.n) && (a.v == b.v))))
end U
end Go.Proofs.YtjhmfaibpnagcaaGreat
