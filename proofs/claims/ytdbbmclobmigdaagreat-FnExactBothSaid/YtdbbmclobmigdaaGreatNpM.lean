/- Proofs of the new tree, by mathematics alone: the faults of trails, and what comes of climbing them. -/
import Derived.Test.YtdbbmclobmigdaaGreatTrM
namespace Go.Proofs.YtdbbmclobmigdaaGreat
namespace U
/-- The bit of the fork ahead of a place. -/
def ahd (f : Prl) (k : Nat) : Int := if k = 0 then -1 else (pAt f (k - 1)).1
theorem ahd_zero (f : Prl) : ahd f 0 = -1 := rfl
theorem ahd_succ (f : Prl) (k : Nat) : ahd f (k + 1) = (pAt f k).1 := by unfold ahd; rw [if_neg (by omega), Nat.add_sub_cancel]
/-- Is a fork in range? -/
def fkB (p : Int × Int) : Bool := inB p.1 0 7 && sumB p.2
/-- The code of one fork behind the bit of the one ahead. -/
def fk1 (a : Int) (p : Int × Int) : Int := if fkB p then (if p.1 ≤ a then 1 else 0) else 3
/-- The first code of the forks up to a place. -/
def fkS (f : Prl) : Nat → Int
  | 0 => 0
  | k + 1 => if fkS f k = 0 then fk1 (ahd f k) (pAt f k) else fkS f k
def fkF (f : Prl) : Int := fkS f f.length
theorem fkS_stop {f : Prl} {k : Nat} (h : fkS f k ≠ 0) : ∀ m, k ≤ m → fkS f m = fkS f k := by
  intro m hm
  induction m with
  | zero => rw [show k = 0 by omega]
  | succ m ih =>
    by_cases e : k = m + 1
    · rw [e]
    · have := ih (by omega)
      rw [fkS, this, if_neg h]
theorem fkS_ok {f : Prl} {m : Nat} (h : fkS f m = 0) : ∀ k, k ≤ m → fkS f k = 0 := by
  intro k hk
  by_cases e : fkS f k = 0
  · exact e
  · rw [← fkS_stop e m hk]; exact h
theorem fkS_at {f : Prl} {m : Nat} (h : fkS f m = 0) {k : Nat} (hk : k < m) : fkB (pAt f k) = true ∧ ahd f k < (pAt f k).1 := by
  have h1 := fkS_ok h (k + 1) hk
  have h2 := fkS_ok h k (Nat.le_of_lt hk)
  rw [fkS, if_pos h2] at h1
  unfold fk1 at h1
  split at h1
  · rename_i e
    split at h1
    · cases h1
    · rename_i e2; exact ⟨e, by omega⟩
  · cases h1
/-- The fault of a trail. -/
def tlF (x : Bool) (k v : Int) (f : Prl) : Int :=
  if x = false ∧ ((k, v) ≠ (0, 0) ∨ 0 < f.length) then 1 else if fine (k, v) = false then 3 else if 8 < f.length then 2 else fkF f
structure TlOk (x : Bool) (k v : Int) (f : Prl) : Prop where
  any : x = false → k = 0 ∧ v = 0 ∧ f = []
  leaf : fine (k, v) = true
  len : f.length ≤ 8
  fk : fkF f = 0
theorem tlF_ok {x : Bool} {k v : Int} {f : Prl} (h : tlF x k v f = 0) : TlOk x k v f := by
  unfold tlF at h
  split at h
  · cases h
  · rename_i h1
    split at h
    · cases h
    · rename_i h2
      split at h
      · cases h
      · rename_i h3
        refine ⟨fun hx => ?_, by simpa using h2, by omega, h⟩
        have h4 : (k, v) = (0, 0) := Classical.byContradiction fun e => h1 ⟨hx, Or.inl e⟩
        have h5 : f.length = 0 := by
          have : ¬ 0 < f.length := fun e => h1 ⟨hx, Or.inr e⟩
          omega
        cases h4
        exact ⟨rfl, rfl, List.eq_nil_of_length_eq_zero h5⟩
theorem tlF_all {x : Bool} {k v : Int} {f : Prl} (h : TlOk x k v f) : tlF x k v f = 0 := by
  unfold tlF
  rw [if_neg, if_neg (by rw [h.leaf]; decide), if_neg (by have := h.len; omega)]
  · exact h.fk
  · rintro ⟨hx, hh⟩
    obtain ⟨rfl, rfl, rfl⟩ := h.any hx
    rcases hh with hh | hh
    · exact hh rfl
    · simp at hh
/-- The pieces of a fork: what is summed. -/
def ndL (key b o s : Int) : List Int := if bitN key b.toNat = 0 then [b, s, o] else [b, o, s]
def ndS (key b o s : Int) : Int := sumL (tagL 5 (ndL key b o s))
/-- What comes of climbing the first forks. -/
def clmN (key : Int) (f : Prl) (s : Int) : Nat → Int
  | 0 => s
  | k + 1 => ndS key (pAt f k).1 (pAt f k).2 (clmN key f s k)
def lfS (x : Bool) (k v : Int) : Int := if x then sumL (tagL 4 [k, v]) else sumL (tagL 9 [])
def clV (key : Int) (x : Bool) (k v : Int) (f : Prl) : Int := clmN key f (lfS x k v) f.length
theorem clmN_bd {key : Int} {f : Prl} {s : Int} (hs : 0 ≤ s ∧ s ≤ 65520) : ∀ k, 0 ≤ clmN key f s k ∧ clmN key f s k ≤ 65520
  | 0 => hs
  | _ + 1 => sumL_bd _
theorem lfS_bd (x : Bool) (k v : Int) : 0 ≤ lfS x k v ∧ lfS x k v ≤ 65520 := by unfold lfS; split <;> exact sumL_bd _
theorem fkB_bd {p : Int × Int} (h : fkB p = true) : (0 ≤ p.1 ∧ p.1 ≤ 7) ∧ (0 ≤ p.2 ∧ p.2 ≤ 65520) := by
  unfold fkB at h
  rw [Bool.and_eq_true] at h
  exact ⟨inB_bd h.1, (sumB_iff _).1 h.2⟩
theorem ndL_len (key b o s : Int) : (ndL key b o s).length = 3 := by unfold ndL; split <;> rfl
theorem ndL_ok {key b o s : Int} (hb : 0 ≤ b ∧ b ≤ 7) (ho : 0 ≤ o ∧ o ≤ 65520) (hs : 0 ≤ s ∧ s ≤ 65520) : (ndL key b o s).all sumB = true := by
  unfold ndL
  split <;> (simp [sumB_iff]; omega)
end U
end Go.Proofs.YtdbbmclobmigdaaGreat
