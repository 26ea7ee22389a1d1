/- A clash in what the new tree shows, by mathematics: where there is none, what is shown is so. -/
import Derived.Test.YtljbcpkjhnbpeaaDoorNpW
import Derived.Test.YtljbcpkjhnbpeaaDoorClash2
namespace Go.Proofs.YtljbcpkjhnbpeaaDoor
namespace U
theorem numB_inj8 {a b : Int} (h : numB a = numB b) : a = b := by
  unfold numB at h
  simp only [List.cons.injEq, and_true] at h
  omega
theorem tag2_inj8 {t a b c d : Int} (h : tagL t [a, b] = tagL t [c, d]) : a = c ∧ b = d := by
  unfold tagL at h
  simp only [List.flatMap_cons, List.flatMap_nil, List.append_nil, List.cons.injEq, true_and] at h
  have h1 := List.append_inj_left h (by simp [numB])
  have h2 := List.append_inj_right h (by simp [numB])
  exact ⟨numB_inj8 h1, numB_inj8 h2⟩
theorem tag3_inj8 {t a b c d e f : Int} (h : tagL t [a, b, c] = tagL t [d, e, f]) : a = d ∧ b = e ∧ c = f := by
  unfold tagL at h
  simp only [List.flatMap_cons, List.flatMap_nil, List.append_nil, List.cons.injEq, true_and] at h
  have h1 := List.append_inj_left h (by simp [numB])
  have h2 := List.append_inj_right h (by simp [numB])
  have h3 := List.append_inj_left h2 (by simp [numB])
  have h4 := List.append_inj_right h2 (by simp [numB])
  exact ⟨numB_inj8 h1, numB_inj8 h3, numB_inj8 h4⟩
theorem tag_head {t u : Int} {xs ys : List Int} (h : tagL t xs = tagL u ys) : t = u := by
  unfold tagL at h
  exact (List.cons.inj h).1
theorem l2B_same8 {a b : List Int} (h : l2B a b = false) (hs : sumL a = sumL b) : a = b := by
  unfold l2B at h
  have := of_decide_eq_false h
  apply Classical.byContradiction
  intro e
  exact this ⟨hs, e⟩
/-- The side of a tree to which a key is led. -/
def chd (key : Int) (t : Tr) : Tr := t.fo Tr.none (fun _ _ => Tr.none) (fun b l r _ _ => if bitN key b = 0 then l else r)
theorem chd_fork (key : Int) (b : Nat) (l r : Tr) : chd key (Tr.fork b l r) = if bitN key b = 0 then l else r := rfl
/-- The piece of the fork at a place of a trail. -/
def npL (key : Int) (f : Prl) (s : Int) (i : Nat) : List Int := tagL 5 (ndL key (pAt f i).1 (pAt f i).2 (clmN key f s i))
/-- The two pieces at which the walk down a trail and a tree ends. -/
def ncT (key : Int) (f : Prl) (s : Int) (lf : List Int) : Nat → Tr → List Int × List Int
  | 0, t => (lf, t.bts)
  | i + 1, t => if l2B (npL key f s i) t.bts = true then (npL key f s i, t.bts) else ncT key f s lf i (chd key t)
theorem ncT_yes {key : Int} {f : Prl} {s : Int} {lf : List Int} {i : Nat} {t : Tr} (h : l2B (npL key f s i) t.bts = true) : ncT key f s lf (i + 1) t = (npL key f s i, t.bts) := by rw [ncT, if_pos h]
theorem ncT_no {key : Int} {f : Prl} {s : Int} {lf : List Int} {i : Nat} {t : Tr} (h : l2B (npL key f s i) t.bts = false) : ncT key f s lf (i + 1) t = ncT key f s lf i (chd key t) := by rw [ncT, h]; simp
/-- Where a fork's piece is that of a tree, the tree is that fork, and the side of the key has the sum that was climbed. -/
theorem np_fork {key : Int} {b o s : Int} {l : Prl} {t : Tr} (h : IsTr l t) (hb : 0 ≤ b) (e : tagL 5 (ndL key b o s) = t.bts) :
    ∃ L R, t = Tr.fork b.toNat L R ∧ 2 ≤ l.length ∧ FB l b.toNat ∧ IsTr (sd l b.toNat 0) L ∧ IsTr (sd l b.toNat 1) R ∧ (chd key t).sum = s := by
  induction h using IsTr.cs with
  | none => rw [Tr.bts_none] at e; have := tag_head e; omega
  | leaf k v => rw [Tr.bts_leaf] at e; have := tag_head e; omega
  | fork h2 hb2 h3 h4 =>
    rename_i l c L R
    rw [Tr.bts_fork] at e
    unfold ndL at e
    by_cases hz : bitN key b.toNat = 0
    · rw [if_pos hz] at e
      obtain ⟨e1, e2, e3⟩ := tag3_inj8 e
      have ec : c = b.toNat := by omega
      subst ec
      exact ⟨L, R, rfl, h2, hb2, h3, h4, by rw [chd_fork, if_pos hz]; exact e2.symm⟩
    · rw [if_neg hz] at e
      obtain ⟨e1, e2, e3⟩ := tag3_inj8 e
      have ec : c = b.toNat := by omega
      subst ec
      exact ⟨L, R, rfl, h2, hb2, h3, h4, by rw [chd_fork, if_neg hz]; exact e3.symm⟩
/-- Where no clash is found on the way down, a leaf that was shown is the slot to which the key is led. -/
theorem nc_leaf {key : Int} {f : Prl} {k y : Int} (hf : ∀ p ∈ f, 0 ≤ p.1) : ∀ (i : Nat) {l : Prl} {t : Tr}, i ≤ f.length → IsTr l t → clmN key f (sumL (tagL 4 [k, y])) i = t.sum →
    l2B (ncT key f (sumL (tagL 4 [k, y])) (tagL 4 [k, y]) i t).1 (ncT key f (sumL (tagL 4 [k, y])) (tagL 4 [k, y]) i t).2 = false → 0 < l.length ∧ t.near key = (k, y) := by
  intro i
  induction i with
  | zero =>
    intro l t _ ht hs hn
    have e := l2B_same8 hn hs
    change tagL 4 [k, y] = t.bts at e
    induction ht using IsTr.cs with
    | none => rw [Tr.bts_none] at e; have := tag_head e; omega
    | leaf k' v' =>
      rw [Tr.bts_leaf] at e
      obtain ⟨rfl, rfl⟩ := tag2_inj8 e
      exact ⟨by simp, rfl⟩
    | fork h2 hb h3 h4 => rw [Tr.bts_fork] at e; have := tag_head e; omega
  | succ i ih =>
    intro l t hi ht hs hn
    rcases Bool.eq_false_or_eq_true (l2B (npL key f (sumL (tagL 4 [k, y])) i) t.bts) with hc | hc
    · rw [ncT_yes hc] at hn
      rw [hc] at hn
      cases hn
    · rw [ncT_no hc] at hn
      have e := l2B_same8 hc hs
      have hb0 := hf _ (pAt_mem (show i < f.length by omega))
      obtain ⟨L, R, rfl, h2, hb, h3, h4, hcs⟩ := np_fork ht hb0 e
      rw [chd_fork] at hn hcs
      rw [Tr.near_fork]
      by_cases hz : bitN key (pAt f i).1.toNat = 0
      · rw [if_pos hz] at hn hcs ⊢
        exact ⟨by omega, (ih (by omega) h3 hcs.symm hn).2⟩
      · rw [if_neg hz] at hn hcs ⊢
        exact ⟨by omega, (ih (by omega) h4 hcs.symm hn).2⟩
/-- Where no clash is found, nothing that was shown is nothing that there is. -/
theorem nc_none {key : Int} {l : Prl} {t : Tr} (ht : IsTr l t) (hs : sumL (tagL 9 []) = t.sum) (hn : l2B (ncT key [] (sumL (tagL 9 [])) (tagL 9 []) 0 t).1 (ncT key [] (sumL (tagL 9 [])) (tagL 9 []) 0 t).2 = false) : l = [] := by
  have e := l2B_same8 hn hs
  change tagL 9 [] = t.bts at e
  induction ht using IsTr.cs with
  | none => rfl
  | leaf k' v' => rw [Tr.bts_leaf] at e; have := tag_head e; omega
  | fork h2 hb h3 h4 => rw [Tr.bts_fork] at e; have := tag_head e; omega
end U
end Go.Proofs.YtljbcpkjhnbpeaaDoor
