/- Directories: what both models answer, as mathematics. -/
import Derived.Test.YtmjbmlojcieciaaDoorRecM
import Derived.Test.YtmjbmlojcieciaaDoorKey
namespace Go.Proofs.YtmjbmlojcieciaaDoor
open Go.RowKit
namespace U
/-- A record. -/
structure Rc where
  l : ByteArray
  v : Int
  o : Int
  p : Int
abbrev Rcl := List Rc
def rcZ : Rc := ⟨⟨#[]⟩, 0, 0, 0⟩
def rAt (l : Rcl) (j : Nat) : Rc := l.getD j rcZ
theorem rAt_eq {l : Rcl} {j : Nat} (h : j < l.length) : rAt l j = l[j] := by simp [rAt, List.getD_eq_getElem?_getD, List.getElem?_eq_getElem h]
theorem rAt_mem {l : Rcl} {j : Nat} (h : j < l.length) : rAt l j ∈ l := by rw [rAt_eq h]; exact List.getElem_mem h
/-- Its fault, its key. -/
def Rc.c (r : Rc) : Int := recC r.l r.v r.o r.p
def Rc.k (r : Rc) : Int := keyI r.l
theorem Rc.kbd (r : Rc) : 0 ≤ r.k ∧ r.k < 256 := keyI_bd r.l
/-- The key ahead of a place. -/
def ahdR (l : Rcl) : Nat → Int
  | 0 => -1
  | j + 1 => (rAt l j).k
/-- The fault of the records from a place on. -/
def scanR (l : Rcl) : Nat → Nat → Int
  | 0, _ => 0
  | f + 1, i => if (rAt l i).c = 0 then (if (rAt l i).k ≤ ahdR l i then 1 else scanR l f (i + 1)) else (rAt l i).c
theorem scanR_fault {l : Rcl} {f i : Nat} (h : ¬ (rAt l i).c = 0) : scanR l (f + 1) i = (rAt l i).c := by rw [scanR, if_neg h]
theorem scanR_form {l : Rcl} {f i : Nat} (h : (rAt l i).c = 0) (h1 : (rAt l i).k ≤ ahdR l i) : scanR l (f + 1) i = 1 := by rw [scanR, if_pos h, if_pos h1]
theorem scanR_step {l : Rcl} {f i : Nat} (h : (rAt l i).c = 0) (h1 : ¬ (rAt l i).k ≤ ahdR l i) : scanR l (f + 1) i = scanR l f (i + 1) := by rw [scanR, if_pos h, if_neg h1]
/-- The fault of a directory. -/
def dirF (l : Rcl) : Int := if 12 < l.length then 2 else scanR l l.length 0
theorem dirF_many {l : Rcl} (h : 12 < l.length) : dirF l = 2 := if_pos h
theorem dirF_scan {l : Rcl} (h : ¬ 12 < l.length) : dirF l = scanR l l.length 0 := if_neg h
theorem scanR_codes (l : Rcl) : ∀ f i, scanR l f i = 0 ∨ scanR l f i = 1 ∨ scanR l f i = 2 ∨ scanR l f i = 3 ∨ scanR l f i = 5
  | 0, _ => Or.inl rfl
  | f + 1, i => by
    rw [scanR]
    split
    · split
      · simp
      · exact scanR_codes l f (i + 1)
    · exact recC_codes _ _ _ _
theorem dirF_codes (l : Rcl) : dirF l = 0 ∨ dirF l = 1 ∨ dirF l = 2 ∨ dirF l = 3 ∨ dirF l = 5 := by
  unfold dirF
  split
  · simp
  · exact scanR_codes l _ _
/-- What a directory without fault is. -/
structure DirOk (l : Rcl) : Prop where
  len : l.length ≤ 12
  ok : ∀ j, j < l.length → (rAt l j).c = 0
  up : ∀ j, j < l.length → ahdR l j < (rAt l j).k
theorem scanR_ok {l : Rcl} : ∀ f i, scanR l f i = 0 → ∀ j, i ≤ j → j < i + f → (rAt l j).c = 0 ∧ ahdR l j < (rAt l j).k
  | 0, i, _, j, h1, h2 => by omega
  | f + 1, i, h, j, h1, h2 => by
    rw [scanR] at h
    by_cases hc : (rAt l i).c = 0
    · rw [if_pos hc] at h
      by_cases hk : (rAt l i).k ≤ ahdR l i
      · rw [if_pos hk] at h; omega
      · rw [if_neg hk] at h
        by_cases hj : j = i
        · subst hj; exact ⟨hc, by omega⟩
        · exact scanR_ok f (i + 1) h j (by omega) (by omega)
    · rw [if_neg hc] at h; omega
theorem dirOk {l : Rcl} (h : dirF l = 0) : DirOk l := by
  by_cases h1 : 12 < l.length
  · rw [dirF_many h1] at h; omega
  · rw [dirF_scan h1] at h
    exact ⟨by omega, fun j hj => (scanR_ok _ _ h j (Nat.zero_le _) (by omega)).1, fun j hj => (scanR_ok _ _ h j (Nat.zero_le _) (by omega)).2⟩
theorem DirOk.rise {l : Rcl} (h : DirOk l) : ∀ j, j < l.length → ∀ i, i < j → (rAt l i).k < (rAt l j).k := by
  intro j
  induction j with
  | zero => intro _ i hi; omega
  | succ j ih =>
    intro hj i hi
    have h1 : (rAt l j).k < (rAt l (j + 1)).k := h.up (j + 1) hj
    by_cases e : i = j
    · subst e; exact h1
    · have := ih (by omega) i (by omega)
      omega
theorem DirOk.recA {l : Rcl} (h : DirOk l) {j : Nat} (hj : j < l.length) : RecOk (rAt l j).l (rAt l j).v (rAt l j).o (rAt l j).p := recOk (h.ok j hj)
theorem Rc.labelP_of {r : Rc} (h : r.c = 0) : labelP r.l = 0 := (recOk h).lab
theorem Rc.small_of {r : Rc} (h : r.c = 0) : r.l.size ≤ 12 := (recOk h).small
end U
end Go.Proofs.YtmjbmlojcieciaaDoor
