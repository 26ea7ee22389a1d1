/- A state, as mathematics: what it is, and compared. -/
import Derived.Test.YtcdodpcdennemaaHdS
import Derived.Test.YtcdodpcdennemaaDrS
import Derived.Test.YtcdodpcdennemaaSl1
namespace Go.Proofs.Ytcdodpcdennemaa
open Go.RowKit
namespace U
abbrev Pst := List Rcl
def dAt (p : Pst) (j : Nat) : Rcl := p.getD j []
theorem dAt_eq {p : Pst} {j : Nat} (h : j < p.length) : dAt p j = p[j] := by simp [dAt, List.getD_eq_getElem?_getD, List.getElem?_eq_getElem h]
theorem dAt_mem {p : Pst} {j : Nat} (h : j < p.length) : dAt p j ∈ p := by rw [dAt_eq h]; exact List.getElem_mem h
/-- A state. -/
structure St where
  ph : Int
  cu : Int
  d : Rcl
  n : Prl
  h : Hdl
  p : Pst
/-- Slots compared. -/
def eqP (l m : Prl) : Bool := decide (l = m)
theorem eqP_len {l m : Prl} (h : ¬ l.length = m.length) : eqP l m = false := decide_eq_false fun e => h (by rw [e])
theorem eqP_no {l m : Prl} {k : Nat} (h : ¬ pAt l k = pAt m k) : eqP l m = false := decide_eq_false fun e => h (by rw [e])
theorem eqP_yes {l m : Prl} (h : l.length = m.length) (ha : ∀ j, j < l.length → pAt l j = pAt m j) : eqP l m = true := decide_eq_true (by
  apply List.ext_getElem h
  intro j h1 h2
  rw [← pAt_eq h1, ← pAt_eq h2]
  exact ha j h1)
theorem eqP_iff {l m : Prl} : eqP l m = true ↔ l = m := decide_eq_true_iff
/-- Heads compared. -/
def hdQ (a b : Hd) : Bool := (a.e == b.e) && ((a.p == b.p) && ((a.o == b.o) && ((a.n == b.n) && (a.v == b.v))))
theorem hdQ_iff (a b : Hd) : hdQ a b = true ↔ a = b := by
  obtain ⟨e, p, o, n, v⟩ := a
  obtain ⟨e', p', o', n', v'⟩ := b
  unfold hdQ
  simp only [Bool.and_eq_true, beq_iff_eq, Hd.mk.injEq]
theorem hdQ_same (a : Hd) : hdQ a a = true := (hdQ_iff a a).2 rfl
def eqH (l m : Hdl) : Bool := (l.length == m.length) && (List.range l.length).all fun j => hdQ (hAt l j) (hAt m j)
theorem eqH_len {l m : Hdl} (h : ¬ l.length = m.length) : eqH l m = false := by unfold eqH; rw [beq_eq_false_iff_ne.2 h]; rfl
theorem eqH_no {l m : Hdl} {k : Nat} (hk : k < l.length) (h : hdQ (hAt l k) (hAt m k) = false) : eqH l m = false := by
  unfold eqH
  rw [Bool.and_eq_false_iff]
  right
  rw [List.all_eq_false]
  exact ⟨k, List.mem_range.2 hk, by rw [h]; decide⟩
theorem eqH_yes {l m : Hdl} (h : l.length = m.length) (ha : ∀ j, j < l.length → hdQ (hAt l j) (hAt m j) = true) : eqH l m = true := by
  unfold eqH
  rw [h, beq_self_eq_true, Bool.true_and, List.all_eq_true]
  intro j hj
  exact ha j (by rw [h]; exact List.mem_range.1 hj)
/-- The directories of the past compared. -/
def eqD (l m : Pst) : Bool := (l.length == m.length) && (List.range l.length).all fun j => sameL (dAt l j) (dAt m j)
theorem eqD_len {l m : Pst} (h : ¬ l.length = m.length) : eqD l m = false := by unfold eqD; rw [beq_eq_false_iff_ne.2 h]; rfl
theorem eqD_no {l m : Pst} {k : Nat} (hk : k < l.length) (h : sameL (dAt l k) (dAt m k) = false) : eqD l m = false := by
  unfold eqD
  rw [Bool.and_eq_false_iff]
  right
  rw [List.all_eq_false]
  exact ⟨k, List.mem_range.2 hk, by rw [h]; decide⟩
theorem eqD_yes {l m : Pst} (h : l.length = m.length) (ha : ∀ j, j < l.length → sameL (dAt l j) (dAt m j) = true) : eqD l m = true := by
  unfold eqD
  rw [h, beq_self_eq_true, Bool.true_and, List.all_eq_true]
  intro j hj
  exact ha j (by rw [h]; exact List.mem_range.1 hj)
end U
end Go.Proofs.Ytcdodpcdennemaa
