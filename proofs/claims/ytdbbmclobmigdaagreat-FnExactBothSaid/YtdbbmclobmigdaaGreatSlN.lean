/- Slots by mathematics alone: their faults, where a key stands, what is cut out, put and found. -/
import Derived.Test.YtdbbmclobmigdaaGreatSlM
namespace Go.Proofs.YtdbbmclobmigdaaGreat
namespace U
def fine (p : Int × Int) : Bool := inB p.1 0 255 && sumB p.2
theorem fine_bd {p : Int × Int} (h : fine p = true) : (0 ≤ p.1 ∧ p.1 ≤ 255) ∧ 0 ≤ p.2 ∧ p.2 ≤ 65520 := by
  unfold fine at h
  rw [Bool.and_eq_true] at h
  exact ⟨inB_bd h.1, (sumB_iff _).1 h.2⟩
def pAt (l : Prl) (i : Nat) : Int × Int := l.getD i (0, 0)
theorem pAt_eq {l : Prl} {i : Nat} (h : i < l.length) : pAt l i = l[i] := by simp [pAt, h]
/-- The first fault from a place on. -/
def scan (l : Prl) : Nat → Nat → Int
  | 0, _ => 0
  | f + 1, i => if fine (pAt l i) = false then 3 else if 0 < i ∧ (pAt l i).1 ≤ (pAt l (i - 1)).1 then 1 else scan l f (i + 1)
def slF (l : Prl) : Int := if 12 < l.length then 2 else scan l l.length 0
theorem scan_ok {l : Prl} : ∀ (f i : Nat), scan l f i = 0 → ∀ j, i ≤ j → j < i + f → fine (pAt l j) = true ∧ (0 < j → (pAt l (j - 1)).1 < (pAt l j).1) := by
  intro f
  induction f with
  | zero => intro i _ j h1 h2; omega
  | succ f ih =>
    intro i h j h1 h2
    unfold scan at h
    split at h
    · cases h
    · split at h
      · cases h
      · rename_i g1 g2
        by_cases e : j = i
        · subst e
          exact ⟨by simpa using g1, fun h0 => by omega⟩
        · exact ih (i + 1) h j (by omega) (by omega)
theorem scan_all {l : Prl} : ∀ (f i : Nat), (∀ j, i ≤ j → j < i + f → fine (pAt l j) = true ∧ (0 < j → (pAt l (j - 1)).1 < (pAt l j).1)) → scan l f i = 0 := by
  intro f
  induction f with
  | zero => intro i _; rfl
  | succ f ih =>
    intro i h
    have h0 := h i (Nat.le_refl _) (by omega)
    unfold scan
    rw [if_neg (by rw [h0.1]; simp), if_neg (by intro hh; have := h0.2 hh.1; omega)]
    exact ih (i + 1) fun j h1 h2 => h j (by omega) (by omega)
structure Sls (l : Prl) : Prop where
  len : l.length ≤ 12
  ris : Ris l
  fin : ∀ p ∈ l, fine p = true
theorem ris_of {l : Prl} (h : ∀ j, j < l.length → 0 < j → (pAt l (j - 1)).1 < (pAt l j).1) : Ris l := by
  have h2 : ∀ d i, i + d + 1 < l.length → (pAt l i).1 < (pAt l (i + d + 1)).1 := by
    intro d
    induction d with
    | zero => intro i hi; exact h (i + 0 + 1) hi (by omega)
    | succ d ih =>
      intro i hi
      have h3 := ih i (by omega)
      have h4 := h (i + d + 1 + 1) hi (by omega)
      simp only [Nat.add_sub_cancel] at h4
      rw [show i + (d + 1) + 1 = i + d + 1 + 1 by omega]
      omega
  unfold Ris
  rw [List.pairwise_iff_getElem]
  intro i j hi hj hij
  have := h2 (j - i - 1) i (by omega)
  rw [show i + (j - i - 1) + 1 = j by omega, pAt_eq hi, pAt_eq hj] at this
  exact this
theorem slF_ok {l : Prl} (h : slF l = 0) : Sls l := by
  unfold slF at h
  split at h
  · cases h
  · rename_i h12
    have hs := scan_ok _ _ h
    refine ⟨by omega, ris_of fun j hj h0 => (hs j (Nat.zero_le _) (by omega)).2 h0, fun p hp => ?_⟩
    obtain ⟨j, hj, rfl⟩ := List.mem_iff_getElem.1 hp
    have := (hs j (Nat.zero_le _) (by omega)).1
    rwa [pAt_eq hj] at this
theorem slF_all {l : Prl} (h : Sls l) : slF l = 0 := by
  unfold slF
  have := h.len
  rw [if_neg (by omega)]
  apply scan_all
  intro j _ hj
  rw [pAt_eq (by omega : j < l.length)]
  refine ⟨h.fin _ (List.getElem_mem _), fun h0 => ?_⟩
  rw [pAt_eq (by omega : j - 1 < l.length)]
  have hr := h.ris
  unfold Ris at hr
  exact (List.pairwise_iff_getElem.1 hr) (j - 1) j (by omega) (by omega) (by omega)
theorem scan_bd (l : Prl) : ∀ (f i : Nat), 0 ≤ scan l f i ∧ scan l f i ≤ 3 := by
  intro f
  induction f with
  | zero => intro i; simp [scan]
  | succ f ih =>
    intro i
    unfold scan
    split
    · omega
    · split
      · omega
      · exact ih _
theorem slF_bd (l : Prl) : 0 ≤ slF l ∧ slF l ≤ 3 := by
  unfold slF
  split
  · omega
  · exact scan_bd _ _ _
theorem Sls.at {l : Prl} (h : Sls l) {i : Nat} (hi : i < l.length) : (0 ≤ (pAt l i).1 ∧ (pAt l i).1 ≤ 255) ∧ 0 ≤ (pAt l i).2 ∧ (pAt l i).2 ≤ 65520 := by
  rw [pAt_eq hi]; exact fine_bd (h.fin _ (List.getElem_mem _))
theorem Sls.pos {l : Prl} (h : Sls l) : ∀ p ∈ l, 0 ≤ p.1 := fun p hp => (fine_bd (h.fin p hp)).1.1
theorem ris_at {l : Prl} (h : Ris l) {i j : Nat} (hij : i < j) (hj : j < l.length) : (pAt l i).1 < (pAt l j).1 := by
  rw [pAt_eq hj, pAt_eq (by omega : i < l.length)]
  exact (List.pairwise_iff_getElem.1 h) i j (by omega) hj hij
/-- How many keys are below one. -/
def low (l : Prl) (k : Int) : Nat := l.countP fun p => decide (p.1 < k)
theorem low_le (l : Prl) (k : Int) : low l k ≤ l.length := List.countP_le_length
theorem low_take {l : Prl} (h : Ris l) (k : Int) : (l.filter fun p => decide (p.1 < k)) = l.take (low l k) := by
  induction l with
  | nil => rfl
  | cons p t ih =>
    have ht := List.pairwise_cons.1 h
    unfold low
    by_cases hp : p.1 < k
    · rw [List.filter_cons_of_pos (by simpa using hp), List.countP_cons_of_pos (by simpa using hp), List.take_succ_cons]
      rw [ih ht.2]
      rfl
    · have h0 : t.filter (fun p => decide (p.1 < k)) = [] := by
        rw [List.filter_eq_nil_iff]
        intro x hx
        have := ht.1 x hx
        simp
        omega
      rw [List.filter_cons_of_neg (by simpa using hp), List.countP_cons_of_neg (by simpa using hp), h0]
      rw [List.countP_eq_length_filter, h0]
      rfl
theorem low_drop {l : Prl} (h : Ris l) (k : Int) : (l.filter fun p => decide (k ≤ p.1)) = l.drop (low l k) := by
  induction l with
  | nil => rfl
  | cons p t ih =>
    have ht := List.pairwise_cons.1 h
    unfold low
    by_cases hp : p.1 < k
    · rw [List.filter_cons_of_neg (by simp; omega), List.countP_cons_of_pos (by simpa using hp), List.drop_succ_cons]
      rw [ih ht.2]
      rfl
    · have h0 : t.filter (fun p => decide (p.1 < k)) = [] := by
        rw [List.filter_eq_nil_iff]
        intro x hx
        have := ht.1 x hx
        simp
        omega
      have h1 : t.filter (fun p => decide (k ≤ p.1)) = t := by
        rw [List.filter_eq_self]
        intro x hx
        have := ht.1 x hx
        simp
        omega
      rw [List.filter_cons_of_pos (by simp; omega), List.countP_cons_of_neg (by simpa using hp), h1]
      rw [List.countP_eq_length_filter, h0]
      rfl
theorem low_iff {l : Prl} (h : Ris l) (k : Int) {i : Nat} (hi : i < l.length) : (pAt l i).1 < k ↔ i < low l k := by
  have h1 := low_take h k
  have h2 := low_drop h k
  rw [pAt_eq hi]
  constructor
  · intro hk
    by_cases hc : i < low l k
    · exact hc
    · have hm : l[i] ∈ l.drop (low l k) := by
        rw [List.mem_drop_iff_getElem]
        exact ⟨i - low l k, by omega, by congr 1; omega⟩
      rw [← h2, List.mem_filter] at hm
      have := hm.2
      simp at this
      omega
  · intro hc
    have hm : l[i] ∈ l.take (low l k) := by
      rw [List.mem_take_iff_getElem]
      exact ⟨i, by omega, rfl⟩
    rw [← h1, List.mem_filter] at hm
    simpa using hm.2
theorem low_mono (l : Prl) {a b : Int} (h : a ≤ b) : low l a ≤ low l b := by
  unfold low
  apply List.countP_mono_left
  intro x _ hx
  simp at hx ⊢
  omega
theorem cut_eq {l : Prl} (h : Ris l) (a b : Int) : cut l a b = (l.take (low l b)).drop (low l a) := by
  have e1 : cut l a b = (l.filter fun p => decide (p.1 < b)).filter fun p => decide (a ≤ p.1) := by
    unfold cut
    rw [List.filter_filter]
  have h2 : Ris (l.filter fun p => decide (p.1 < b)) := List.Pairwise.filter _ h
  rw [e1, low_drop h2, low_take h]
  by_cases hab : a ≤ b
  · have : low (l.take (low l b)) a = low l a := by
      rw [← low_take h b]
      unfold low
      rw [List.countP_filter]
      congr 1
      funext p
      by_cases hp : p.1 < a
      · simp [hp]; omega
      · simp [hp]
    rw [this]
  · have e2 : low (l.take (low l b)) a = (l.take (low l b)).length := by
      rw [← low_take h b]
      unfold low
      rw [List.countP_eq_length]
      intro p hp
      rw [List.mem_filter] at hp
      have := hp.2
      simp at this ⊢
      omega
    have e3 := low_mono l (by omega : b ≤ a)
    rw [e2, List.drop_length, List.drop_eq_nil_of_le]
    rw [List.length_take]
    omega
/-- Whether a key is there, at its place. -/
def thr (l : Prl) (k : Int) : Bool := decide (low l k < l.length) && decide ((pAt l (low l k)).1 = k)
theorem thr_iff {l : Prl} (h : Ris l) (k : Int) : thr l k = true ↔ ∃ p ∈ l, p.1 = k := by
  unfold thr
  rw [Bool.and_eq_true, decide_eq_true_iff, decide_eq_true_iff]
  constructor
  · rintro ⟨h1, h2⟩
    exact ⟨_, List.getElem_mem h1, by rw [pAt_eq h1] at h2; exact h2⟩
  · rintro ⟨p, hp, e⟩
    obtain ⟨i, hi, rfl⟩ := List.mem_iff_getElem.1 hp
    have h3 : ¬ i < low l k := by rw [← low_iff h k hi, pAt_eq hi]; omega
    have h4 : low l k < l.length := by omega
    refine ⟨h4, ?_⟩
    by_cases e2 : low l k = i
    · rw [e2, pAt_eq hi]; exact e
    · have h5 := ris_at h (by omega : low l k < i) hi
      rw [pAt_eq hi] at h5
      have := (low_iff h k h4).1 (by omega)
      omega
theorem at_low {l : Prl} (h : Ris l) {k : Int} {i : Nat} (hi : i < l.length) (e : (pAt l i).1 = k) : i = low l k := by
  have h3 : ¬ i < low l k := by rw [← low_iff h k hi]; omega
  by_cases e2 : low l k = i
  · exact e2.symm
  · have h5 := ris_at h (by omega : low l k < i) hi
    have := (low_iff h k (by omega : low l k < l.length)).1 (by omega)
    omega
/-- What was put. -/
def put (l : Prl) (s : Int × Int) : Prl := l.take (low l s.1) ++ [s] ++ l.drop (if thr l s.1 = true then low l s.1 + 1 else low l s.1)
def putF (s : Int × Int) (st : Prl × Bool) (p : Int × Int) : Prl × Bool :=
  let o := if st.2 = false ∧ s.1 ≤ p.1 then (st.1 ++ [s], true) else st
  if p.1 = s.1 then o else (o.1 ++ [p], o.2)
def putS (l : Prl) (s : Int × Int) : Prl × Bool := l.foldl (putF s) ([], false)
theorem putF_done {s : Int × Int} : ∀ (l : Prl) (out : Prl), (∀ p ∈ l, s.1 < p.1) → l.foldl (putF s) (out, true) = (out ++ l, true) := by
  intro l
  induction l with
  | nil => intro out _; simp
  | cons p t ih =>
    intro out h
    have hp := h p (by simp)
    rw [List.foldl_cons]
    have : putF s (out, true) p = (out ++ [p], true) := by
      unfold putF
      simp only [Bool.true_eq_false, false_and, if_false]
      rw [if_neg (by omega)]
    rw [this, ih _ (fun x hx => h x (List.mem_cons_of_mem _ hx))]
    simp
theorem putF_not {s : Int × Int} : ∀ (l : Prl) (out : Prl), Ris l → (l.foldl (putF s) (out, false)) = (if (∃ p ∈ l, s.1 ≤ p.1) then (out ++ (l.filter (fun p => decide (p.1 < s.1)) ++ [s] ++ l.filter (fun p => decide (s.1 < p.1))), true) else (out ++ l, false)) := by
  intro l
  induction l with
  | nil => intro out _; simp
  | cons p t ih =>
    intro out h
    have ht := List.pairwise_cons.1 h
    rw [List.foldl_cons]
    by_cases hp : p.1 < s.1
    · have : putF s (out, false) p = (out ++ [p], false) := by
        unfold putF
        rw [if_neg (by omega), if_neg (by omega)]
      rw [this, ih _ ht.2]
      have e : (∃ q ∈ t, s.1 ≤ q.1) ↔ (∃ q ∈ p :: t, s.1 ≤ q.1) := by
        constructor
        · rintro ⟨q, hq, e⟩; exact ⟨q, List.mem_cons_of_mem _ hq, e⟩
        · rintro ⟨q, hq, e⟩
          rcases List.mem_cons.1 hq with rfl | hq
          · omega
          · exact ⟨q, hq, e⟩
      by_cases hx : ∃ q ∈ t, s.1 ≤ q.1
      · rw [if_pos hx, if_pos (e.1 hx), List.filter_cons_of_pos (by simpa using hp), List.filter_cons_of_neg (by simp; omega)]
        simp
      · rw [if_neg hx, if_neg (fun h => hx (e.2 h))]
        simp
    · have hgt : ∀ q ∈ t, s.1 < q.1 := fun q hq => by have := ht.1 q hq; omega
      have h0 : t.filter (fun p => decide (p.1 < s.1)) = [] := by
        rw [List.filter_eq_nil_iff]
        intro x hx
        have := hgt x hx
        simp
        omega
      have h1 : t.filter (fun p => decide (s.1 < p.1)) = t := by
        rw [List.filter_eq_self]
        intro x hx
        have := hgt x hx
        simp
        omega
      rw [if_pos ⟨p, by simp, by omega⟩, List.filter_cons_of_neg (by simpa using hp), h0]
      by_cases he : p.1 = s.1
      · have : putF s (out, false) p = (out ++ [s], true) := by
          unfold putF
          rw [if_pos he, if_pos ⟨rfl, by omega⟩]
        rw [this, putF_done _ _ hgt, List.filter_cons_of_neg (by simp; omega), h1]
        simp
      · have : putF s (out, false) p = (out ++ [s] ++ [p], true) := by
          unfold putF
          rw [if_neg he, if_pos ⟨rfl, by omega⟩]
        rw [this, putF_done _ _ hgt, List.filter_cons_of_pos (by simp; omega), h1]
        simp
theorem put_eq {l : Prl} (h : Ris l) (s : Int × Int) : put l s = l.filter (fun p => decide (p.1 < s.1)) ++ [s] ++ l.filter (fun p => decide (s.1 < p.1)) := by
  unfold put
  rw [← low_take h]
  congr 1
  have e1 : l.filter (fun p => decide (s.1 < p.1)) = (l.drop (low l s.1)).filter (fun p => decide (s.1 < p.1)) := by
    rw [← low_drop h, List.filter_filter]
    congr 1
    funext p
    by_cases hp : s.1 < p.1
    · simp [hp]; omega
    · simp [hp]
  rw [e1]
  by_cases ht : thr l s.1 = true
  · rw [if_pos ht]
    have h2 := ht
    unfold thr at h2
    rw [Bool.and_eq_true, decide_eq_true_iff, decide_eq_true_iff] at h2
    rw [List.drop_eq_getElem_cons h2.1]
    rw [pAt_eq h2.1] at h2
    rw [List.filter_cons_of_neg (by simp; omega)]
    symm
    rw [List.filter_eq_self]
    intro x hx
    rw [List.mem_drop_iff_getElem] at hx
    obtain ⟨j, hj, rfl⟩ := hx
    have := ris_at h (by omega : low l s.1 < low l s.1 + 1 + j) (by omega)
    rw [pAt_eq h2.1, pAt_eq (by omega : low l s.1 + 1 + j < l.length)] at this
    simp
    omega
  · rw [if_neg ht]
    symm
    rw [List.filter_eq_self]
    intro x hx
    have hm : x ∈ l := List.mem_of_mem_drop hx
    rw [← low_drop h, List.mem_filter] at hx
    have h3 := hx.2
    simp at h3 ⊢
    have : x.1 ≠ s.1 := fun e => ht ((thr_iff h s.1).2 ⟨x, hm, e⟩)
    omega
theorem putS_put {l : Prl} (h : Ris l) (s : Int × Int) : (if (putS l s).2 = true then (putS l s).1 else (putS l s).1 ++ [s]) = put l s := by
  unfold putS
  rw [putF_not l [] h, put_eq h]
  by_cases hx : ∃ p ∈ l, s.1 ≤ p.1
  · rw [if_pos hx]; simp
  · rw [if_neg hx]
    have h0 : l.filter (fun p => decide (s.1 < p.1)) = [] := by
      rw [List.filter_eq_nil_iff]
      intro p hp hh
      exact hx ⟨p, hp, by simp at hh; omega⟩
    have h1 : l.filter (fun p => decide (p.1 < s.1)) = l := by
      rw [List.filter_eq_self]
      intro p hp
      have : ¬ s.1 ≤ p.1 := fun e => hx ⟨p, hp, e⟩
      simp
      omega
    rw [h0, h1]
    simp
theorem put_len {l : Prl} (s : Int × Int) : (put l s).length = if thr l s.1 = true then l.length else l.length + 1 := by
  unfold put
  have h1 := low_le l s.1
  simp only [List.length_append, List.length_take, List.length_drop, List.length_cons, List.length_nil]
  by_cases ht : thr l s.1 = true
  · rw [if_pos ht, if_pos ht]
    unfold thr at ht
    rw [Bool.and_eq_true, decide_eq_true_iff] at ht
    omega
  · rw [if_neg ht, if_neg ht]
    omega
theorem put_mem {l : Prl} (h : Ris l) (s : Int × Int) {p : Int × Int} : p ∈ put l s ↔ p = s ∨ (p ∈ l ∧ p.1 ≠ s.1) := by
  rw [put_eq h]
  simp only [List.mem_append, List.mem_filter, List.mem_cons, List.not_mem_nil, or_false, decide_eq_true_eq]
  constructor
  · rintro ((⟨h1, h2⟩ | h1) | ⟨h1, h2⟩)
    · exact Or.inr ⟨h1, by omega⟩
    · exact Or.inl h1
    · exact Or.inr ⟨h1, by omega⟩
  · rintro (h1 | ⟨h1, h2⟩)
    · exact Or.inl (Or.inr h1)
    · rcases Int.lt_or_gt_of_ne h2 with h3 | h3
      · exact Or.inl (Or.inl ⟨h1, h3⟩)
      · exact Or.inr ⟨h1, h3⟩
theorem put_ris {l : Prl} (h : Ris l) (s : Int × Int) : Ris (put l s) := by
  rw [put_eq h]
  unfold Ris
  rw [List.pairwise_append, List.pairwise_append]
  refine ⟨⟨List.Pairwise.filter _ h, List.pairwise_singleton _ _, ?_⟩, List.Pairwise.filter _ h, ?_⟩
  · intro a ha b hb
    rw [List.mem_filter] at ha
    have := ha.2
    simp at hb this
    subst hb
    exact this
  · intro a ha b hb
    rw [List.mem_filter] at hb
    have h2 := hb.2
    simp at h2
    rcases List.mem_append.1 ha with ha | ha
    · rw [List.mem_filter] at ha
      have h3 := ha.2
      simp at h3
      omega
    · simp at ha
      subst ha
      exact h2
end U
end Go.Proofs.YtdbbmclobmigdaaGreat
