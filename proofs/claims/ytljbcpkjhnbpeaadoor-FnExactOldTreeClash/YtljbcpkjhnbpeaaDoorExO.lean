/- A clash in two old trees of one root, by mathematics: where there is none, the slots are the same. -/
import Derived.Test.YtljbcpkjhnbpeaaDoorOp7
namespace Go.Proofs.YtljbcpkjhnbpeaaDoor
namespace U
theorem numB_injO {a b : Int} (h : numB a = numB b) : a = b := by
  unfold numB at h
  simp only [List.cons.injEq, and_true] at h
  omega
theorem tag2_injO {t a b c d : Int} (h : tagL t [a, b] = tagL t [c, d]) : a = c ∧ b = d := by
  unfold tagL at h
  simp only [List.flatMap_cons, List.flatMap_nil, List.append_nil, List.cons.injEq, true_and] at h
  have h1 := List.append_inj_left h (by simp [numB])
  have h2 := List.append_inj_right h (by simp [numB])
  exact ⟨numB_injO h1, numB_injO h2⟩
theorem l2B_sameO {a b : List Int} (h : l2B a b = false) (hs : sumL a = sumL b) : a = b := by
  unfold l2B at h
  have := of_decide_eq_false h
  apply Classical.byContradiction
  intro e
  exact this ⟨hs, e⟩
/-- The piece of a part of slots. -/
def optL (l : Prl) (n : Nat) (q : Int) : List Int := tagL 2 [nd l n (2 * q), nd l n (2 * q + 1)]
/-- The first two pieces of one sum that are not the same, down both trees. -/
def otc (l m : Prl) : Nat → Int → Option (List Int × List Int)
  | 0, q => if l2B (lfT l q) (lfT m q) = true then some (lfT l q, lfT m q) else none
  | n + 1, q => if l2B (optL l n q) (optL m n q) = true then some (optL l n q, optL m n q) else match otc l m n (2 * q) with | some c => some c | none => otc l m n (2 * q + 1)
theorem otc_leaf {l m : Prl} (h0 : slF l = 0) (h1 : slF m = 0) : ∀ (n : Nat) (q : Int), nd l n q = nd m n q → otc l m n q = none → ∀ k : Int, k / (2 ^ n : Nat) = q → lfT l k = lfT m k := by
  intro n
  induction n with
  | zero =>
    intro q hs hn k hk
    have ek : k = q := by rw [← hk]; simp
    subst ek
    have h2 : l2B (lfT l k) (lfT m k) = false := by
      rcases Bool.eq_false_or_eq_true (l2B (lfT l k) (lfT m k)) with h | h
      · rw [otc, if_pos h] at hn; cases hn
      · exact h
    exact l2B_sameO h2 (by rw [lfT_sum h0, lfT_sum h1, hs])
  | succ n ih =>
    intro q hs hn k hk
    have h2 : l2B (optL l n q) (optL m n q) = false := by
      rcases Bool.eq_false_or_eq_true (l2B (optL l n q) (optL m n q)) with h | h
      · rw [otc, if_pos h] at hn; cases hn
      · exact h
    rw [nd_both, nd_both] at hs
    have e := l2B_sameO h2 hs
    obtain ⟨e1, e2⟩ := tag2_injO e
    rw [otc, if_neg (by rw [h2]; decide)] at hn
    have hl : otc l m n (2 * q) = none := by
      rcases hh : otc l m n (2 * q) with _ | x
      · rfl
      · rw [hh] at hn; cases hn
    rw [hl] at hn
    rw [div_succ] at hk
    rcases (show k / (2 ^ n : Nat) = 2 * q ∨ k / (2 ^ n : Nat) = 2 * q + 1 by omega) with h | h
    · exact ih _ e1 hl k h
    · exact ih _ e2 hn k h
theorem lfT_mem {l m : Prl} (h0 : slF l = 0) (h1 : slF m = 0) (h : ∀ k : Int, 0 ≤ k → k ≤ 255 → lfT l k = lfT m k) {p : Int × Int} (hp : p ∈ l) : p ∈ m := by
  have hl := slF_ok h0
  have hm := slF_ok h1
  have hb := (fine_bd (hl.fin p hp)).1
  have ht : thr l p.1 = true := (thr_iff hl.ris p.1).2 ⟨p, hp, rfl⟩
  have e := h p.1 hb.1 hb.2
  rcases Bool.eq_false_or_eq_true (thr m p.1) with hm1 | hm1
  · rw [lfT_there h0 ht, lfT_there h1 hm1] at e
    have e2 := (tag2_injO e).2
    have a1 : (pAt l (low l p.1)).1 = p.1 := by unfold thr at ht; simp at ht; exact ht.2
    have a2 : (pAt m (low m p.1)).1 = p.1 := by unfold thr at hm1; simp at hm1; exact hm1.2
    have l1 := thr_lt ht
    have l2 := thr_lt hm1
    have hq : pAt l (low l p.1) = p := by
      have hmem : pAt l (low l p.1) ∈ l := by rw [pAt_eq l1]; exact List.getElem_mem _
      refine Classical.byContradiction fun hne => ?_
      have := List.pairwise_iff_getElem.1 hl.ris
      obtain ⟨i, hi, ei⟩ := List.getElem_of_mem hmem
      obtain ⟨j, hj, ej⟩ := List.getElem_of_mem hp
      rcases Nat.lt_trichotomy i j with hij | hij | hij
      · have h3 := this i j hi hj hij
        rw [ei, ej] at h3
        omega
      · subst hij
        exact hne (ei.symm.trans ej)
      · have h3 := this j i hj hi hij
        rw [ei, ej] at h3
        omega
    have hm2 : pAt m (low m p.1) = p := by
      have : (pAt m (low m p.1)).2 = p.2 := by rw [← e2, hq]
      exact Prod.ext a2 this
    rw [← hm2, pAt_eq l2]
    exact List.getElem_mem _
  · rw [lfT_there h0 ht, lfT_none hm1] at e
    unfold tagL at e
    cases e
theorem ris_same : ∀ {l m : Prl}, Ris l → Ris m → (∀ p, p ∈ l ↔ p ∈ m) → l = m
  | [], [], _, _, _ => rfl
  | [], q :: m, _, _, h => by have := (h q).2 (List.mem_cons_self ..); cases this
  | p :: l, [], _, _, h => by have := (h p).1 (List.mem_cons_self ..); cases this
  | p :: l, q :: m, hl, hm, h => by
    have hl1 := List.pairwise_cons.1 hl
    have hm1 := List.pairwise_cons.1 hm
    have e : p = q := by
      rcases List.mem_cons.1 ((h p).1 (List.mem_cons_self ..)) with e | hp
      · exact e
      · rcases List.mem_cons.1 ((h q).2 (List.mem_cons_self ..)) with e | hq
        · exact e.symm
        · have h1 := hm1.1 p hp
          have h2 := hl1.1 q hq
          omega
    subst e
    rw [ris_same hl1.2 hm1.2 (fun r => ?_)]
    constructor
    · intro hr
      rcases List.mem_cons.1 ((h r).1 (List.mem_cons_of_mem _ hr)) with e | h3
      · subst e; have := hl1.1 r hr; omega
      · exact h3
    · intro hr
      rcases List.mem_cons.1 ((h r).2 (List.mem_cons_of_mem _ hr)) with e | h3
      · subst e; have := hm1.1 r hr; omega
      · exact h3
/-- Two sets of slots of one root are the same, or there is a clash. -/
theorem otc_same {l m : Prl} (h0 : slF l = 0) (h1 : slF m = 0) (hs : nd l 8 0 = nd m 8 0) (hn : otc l m 8 0 = none) : l = m := by
  have h : ∀ k : Int, 0 ≤ k → k ≤ 255 → lfT l k = lfT m k := fun k hk0 hk1 => otc_leaf h0 h1 8 0 hs hn k (by
    have : ((2 ^ 8 : Nat) : Int) = 256 := rfl
    rw [this]
    omega)
  exact ris_same (slF_ok h0).ris (slF_ok h1).ris (fun p => ⟨fun hp => lfT_mem h0 h1 h hp, fun hp => lfT_mem h1 h0 (fun k a b => (h k a b).symm) hp⟩)
end U
end Go.Proofs.YtljbcpkjhnbpeaaDoor
