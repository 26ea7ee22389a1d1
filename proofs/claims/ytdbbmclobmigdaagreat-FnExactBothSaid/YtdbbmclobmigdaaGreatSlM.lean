/- Slots, and the old tree, by mathematics alone: the sum of a part, rows of sums, levels. -/
import Derived.Test.YtdbbmclobmigdaaGreatTag2
namespace Go.Proofs.YtdbbmclobmigdaaGreat
namespace U
abbrev Prl := List (Int × Int)
/-- The sum above two, of a leaf, and of what is empty. -/
def t2 (a b : Int) : Int := sumL (tagL 2 [a, b])
def l3 (p : Int × Int) : Int := sumL (tagL 3 [p.1, p.2])
def emp : Nat → Int
  | 0 => 13
  | n + 1 => t2 (emp n) (emp n)
theorem t2_bd (a b : Int) : 0 ≤ t2 a b ∧ t2 a b ≤ 65520 := sumL_bd _
theorem l3_bd (p : Int × Int) : 0 ≤ l3 p ∧ l3 p ≤ 65520 := sumL_bd _
theorem emp_bd (n : Nat) : 0 ≤ emp n ∧ emp n ≤ 65520 := by
  cases n with
  | zero => simp [emp]
  | succ n => exact t2_bd _ _
/-- Whether a part has a slot. -/
abbrev has (l : Prl) (n : Nat) (q : Int) : Prop := ∃ p ∈ l, p.1 / (2 ^ n : Nat) = q
/-- The sum of a part, by its level and its place. -/
def nd (l : Prl) : Nat → Int → Int
  | 0, q => match l.find? (fun p => p.1 == q) with | some p => l3 p | none => 13
  | n + 1, q => if has l (n + 1) q then t2 (nd l n (2 * q)) (nd l n (2 * q + 1)) else emp (n + 1)
theorem nd_bd (l : Prl) (n : Nat) (q : Int) : 0 ≤ nd l n q ∧ nd l n q ≤ 65520 := by
  cases n with
  | zero =>
    unfold nd
    split
    · exact l3_bd _
    · omega
  | succ n =>
    unfold nd
    split
    · exact t2_bd _ _
    · exact emp_bd _
theorem nd_none {l : Prl} {n : Nat} {q : Int} (h : ¬ has l n q) : nd l n q = emp n := by
  cases n with
  | zero =>
    unfold nd emp
    have : l.find? (fun p => p.1 == q) = none := by
      rw [List.find?_eq_none]
      intro p hp e
      exact h ⟨p, hp, by have := (beq_iff_eq).1 e; simp [this]⟩
    rw [this]
  | succ n => unfold nd; rw [if_neg h]
theorem div_succ (x : Int) (n : Nat) : x / (2 ^ (n + 1) : Nat) = x / (2 ^ n : Nat) / 2 := by
  rw [Nat.pow_succ, Int.natCast_mul, Int.ediv_ediv_of_nonneg (Int.natCast_nonneg _)]
  rfl
theorem has_succ (l : Prl) (n : Nat) (q : Int) : has l (n + 1) q ↔ has l n (2 * q) ∨ has l n (2 * q + 1) := by
  unfold has
  constructor
  · rintro ⟨p, hp, e⟩
    rw [div_succ] at e
    rcases (by omega : p.1 / (2 ^ n : Nat) = 2 * q ∨ p.1 / (2 ^ n : Nat) = 2 * q + 1) with h | h
    · exact Or.inl ⟨p, hp, h⟩
    · exact Or.inr ⟨p, hp, h⟩
  · rintro (⟨p, hp, e⟩ | ⟨p, hp, e⟩)
    · exact ⟨p, hp, by rw [div_succ]; omega⟩
    · exact ⟨p, hp, by rw [div_succ]; omega⟩
theorem nd_succ (l : Prl) (n : Nat) (q : Int) : nd l (n + 1) q = if has l (n + 1) q then t2 (nd l n (2 * q)) (nd l n (2 * q + 1)) else emp (n + 1) := by rw [nd]
/-- The keys rise. -/
def Ris (l : Prl) : Prop := l.Pairwise fun a b => a.1 < b.1
/-- The row above a row; what is not there is empty. -/
def abv (e : Int) : Prl → Prl
  | [] => []
  | [(q, s)] => [(q / 2, if q % 2 = 1 then t2 e s else t2 s e)]
  | (q, s) :: (q', s') :: r =>
    if q % 2 = 1 then (q / 2, t2 e s) :: abv e ((q', s') :: r)
    else if q' = q + 1 then (q / 2, t2 s s') :: abv e r
    else (q / 2, t2 s e) :: abv e ((q', s') :: r)
def plc (r : Prl) (x : Int) : Prop := ∃ s, (x, s) ∈ r
structure Row (N : Int → Int) (e b : Int) (r : Prl) : Prop where
  ris : Ris r
  lo : ∀ p ∈ r, 2 * b ≤ p.1
  val : ∀ p ∈ r, p.2 = N p.1
  none : ∀ x, 2 * b ≤ x → ¬ plc r x → N x = e
structure Abv (N : Int → Int) (b : Int) (r a : Prl) : Prop where
  ris : Ris a
  lo : ∀ p ∈ a, b ≤ p.1
  val : ∀ p ∈ a, p.2 = t2 (N (2 * p.1)) (N (2 * p.1 + 1))
  pl : ∀ x, b ≤ x → (plc a x ↔ plc r (2 * x) ∨ plc r (2 * x + 1))
theorem plc_cons {q s x : Int} {r : Prl} : plc ((q, s) :: r) x ↔ x = q ∨ plc r x := by
  unfold plc
  simp only [List.mem_cons, Prod.mk.injEq]
  constructor
  · rintro ⟨t, (⟨h, _⟩ | h)⟩
    · exact Or.inl h
    · exact Or.inr ⟨t, h⟩
  · rintro (h | ⟨t, h⟩)
    · exact ⟨s, Or.inl ⟨h, rfl⟩⟩
    · exact ⟨t, Or.inr h⟩
theorem plc_nil {x : Int} : ¬ plc [] x := by rintro ⟨s, h⟩; cases h
theorem Abv.step {N : Int → Int} {b q : Int} {r r' a : Prl} (hb : 2 * b ≤ q) (h : Abv N (q / 2 + 1) r' a)
    (h1 : ∀ x, 2 * b ≤ x → (plc r x ↔ (x / 2 = q / 2 ∧ plc r x) ∨ plc r' x)) (h2 : plc r q) (h3 : ∀ x, plc r' x → q / 2 < x / 2) :
    Abv N b r ((q / 2, t2 (N (2 * (q / 2))) (N (2 * (q / 2) + 1))) :: a) := by
  refine ⟨List.pairwise_cons.2 ⟨fun p hp => ?_, h.ris⟩, ?_, ?_, ?_⟩
  · have := h.lo p hp
    show q / 2 < p.1
    omega
  · intro p hp
    rcases List.mem_cons.1 hp with rfl | hp
    · show b ≤ q / 2
      omega
    · have := h.lo p hp
      omega
  · intro p hp
    rcases List.mem_cons.1 hp with rfl | hp
    · rfl
    · exact h.val p hp
  · intro x hx
    rw [plc_cons]
    by_cases e : x = q / 2
    · constructor
      · intro _
        rcases (by omega : q = 2 * x ∨ q = 2 * x + 1) with e2 | e2
        · left; rw [← e2]; exact h2
        · right; rw [← e2]; exact h2
      · intro _; exact Or.inl e
    · constructor
      · rintro (h' | h')
        · exact absurd h' e
        · have hx2 : q / 2 + 1 ≤ x := by obtain ⟨s, hs⟩ := h'; exact h.lo _ hs
          rcases (h.pl x hx2).1 h' with h4 | h4
          · exact Or.inl ((h1 _ (by omega)).2 (Or.inr h4))
          · exact Or.inr ((h1 _ (by omega)).2 (Or.inr h4))
      · rintro (h' | h')
        · rcases (h1 _ (by omega)).1 h' with h4 | h4
          · exact absurd h4.1 (by omega)
          · have := h3 _ h4
            exact Or.inr ((h.pl x (by omega)).2 (Or.inl h4))
        · rcases (h1 _ (by omega)).1 h' with h4 | h4
          · exact absurd h4.1 (by omega)
          · have := h3 _ h4
            exact Or.inr ((h.pl x (by omega)).2 (Or.inr h4))
theorem ris_lt {q s : Int} {r : Prl} (h : Ris ((q, s) :: r)) {x : Int} (hx : plc r x) : q < x := by
  obtain ⟨t, ht⟩ := hx
  exact (List.pairwise_cons.1 h).1 _ ht
theorem abv_row (N : Int → Int) (e : Int) : ∀ (k : Nat) (r : Prl) (b : Int), r.length ≤ k → Row N e b r → Abv N b r (abv e r) := by
  intro k
  induction k with
  | zero =>
    intro r b hk h
    have : r = [] := List.eq_nil_of_length_eq_zero (by omega)
    subst this
    refine ⟨List.Pairwise.nil, (fun p hp => by cases hp), (fun p hp => by cases hp), fun x _ => ⟨fun hh => absurd hh plc_nil, fun hh => ?_⟩⟩
    rcases hh with hh | hh <;> exact absurd hh plc_nil
  | succ k ih =>
    intro r b hk h
    match r, h, hk with
    | [], h, hk =>
      refine ⟨List.Pairwise.nil, (fun p hp => by cases hp), (fun p hp => by cases hp), fun x _ => ⟨fun hh => absurd hh plc_nil, fun hh => ?_⟩⟩
      rcases hh with hh | hh <;> exact absurd hh plc_nil
    | [(q, s)], h, hk =>
      have hq := h.lo (q, s) (by simp)
      have hv := h.val (q, s) (by simp)
      dsimp only at hq hv
      have e0 : Abv N (q / 2 + 1) [] [] := ⟨List.Pairwise.nil, (fun p hp => by cases hp), (fun p hp => by cases hp), fun x _ => ⟨fun hh => absurd hh plc_nil, fun hh => by rcases hh with hh | hh <;> exact absurd hh plc_nil⟩⟩
      have st := Abv.step (r := [(q, s)]) hq e0 (fun x _ => by
        rw [plc_cons]
        constructor
        · rintro (rfl | h)
          · exact Or.inl ⟨rfl, Or.inl rfl⟩
          · exact absurd h plc_nil
        · rintro (⟨_, h⟩ | h)
          · exact h
          · exact absurd h plc_nil) (plc_cons.2 (Or.inl rfl)) (fun x hx => absurd hx plc_nil)
      unfold abv
      by_cases h1 : q % 2 = 1
      · rw [if_pos h1]
        have e1 : N (2 * (q / 2)) = e := h.none _ (by omega) (fun hh => by rcases plc_cons.1 hh with hh | hh; · omega
                                                                           · exact absurd hh plc_nil)
        rw [e1, (by omega : 2 * (q / 2) + 1 = q), ← hv] at st
        exact st
      · rw [if_neg h1]
        have e1 : N (2 * (q / 2) + 1) = e := h.none _ (by omega) (fun hh => by rcases plc_cons.1 hh with hh | hh; · omega
                                                                               · exact absurd hh plc_nil)
        rw [e1, (by omega : 2 * (q / 2) = q), ← hv] at st
        exact st
    | (q, s) :: (q', s') :: r, h, hk =>
      have hq := h.lo (q, s) (by simp)
      have hv := h.val (q, s) (by simp)
      have hv' := h.val (q', s') (by simp)
      have hqq : q < q' := ris_lt h.ris (plc_cons.2 (Or.inl rfl))
      dsimp only at hq hv hv'
      have hris' : Ris ((q', s') :: r) := (List.pairwise_cons.1 h.ris).2
      have hge : ∀ x, plc ((q', s') :: r) x → q' ≤ x := fun x hx => by
        rcases plc_cons.1 hx with hx | hx
        · omega
        · have := ris_lt hris' hx; omega
      have tail : ∀ b', (∀ x, plc ((q', s') :: r) x → 2 * b' ≤ x) → 2 * b ≤ 2 * b' → q < 2 * b' → Row N e b' ((q', s') :: r) := fun b' h1 h2 h3 =>
        ⟨hris', fun p hp => h1 p.1 ⟨p.2, hp⟩, fun p hp => h.val p (List.mem_cons_of_mem _ hp), fun x hx hn => h.none x (by omega) (fun hh => by
          rcases plc_cons.1 hh with hh | hh
          · omega
          · exact hn hh)⟩
      have sp : ∀ x, 2 * b ≤ x → (plc ((q, s) :: (q', s') :: r) x ↔ (x / 2 = q / 2 ∧ plc ((q, s) :: (q', s') :: r) x) ∨ plc ((q', s') :: r) x) := fun x _ => by
        constructor
        · intro hh
          rcases plc_cons.1 hh with h1 | h1
          · exact Or.inl ⟨by rw [h1], hh⟩
          · exact Or.inr h1
        · rintro (⟨_, hh⟩ | hh)
          · exact hh
          · exact plc_cons.2 (Or.inr hh)
      unfold abv
      by_cases h1 : q % 2 = 1
      · rw [if_pos h1]
        have t := ih ((q', s') :: r) (q / 2 + 1) (by simp at hk ⊢; omega) (tail _ (fun x hx => by have := hge x hx; omega) (by omega) (by omega))
        have st := Abv.step hq t sp (plc_cons.2 (Or.inl rfl)) (fun x hx => by have := hge x hx; omega)
        have e1 : N (2 * (q / 2)) = e := h.none _ (by omega) (fun hh => by
          rcases plc_cons.1 hh with hh | hh
          · omega
          · have := hge _ hh; omega)
        rw [e1, (by omega : 2 * (q / 2) + 1 = q), ← hv] at st
        exact st
      · rw [if_neg h1]
        by_cases h2 : q' = q + 1
        · rw [if_pos h2]
          have hr : Row N e (q / 2 + 1) r := ⟨(List.pairwise_cons.1 hris').2, fun p hp => by have := ris_lt hris' (x := p.1) ⟨p.2, hp⟩; omega, fun p hp => h.val p (List.mem_cons_of_mem _ (List.mem_cons_of_mem _ hp)), fun x hx hn => h.none x (by omega) (fun hh => by
            rcases plc_cons.1 hh with hh | hh
            · omega
            · rcases plc_cons.1 hh with hh | hh
              · omega
              · exact hn hh)⟩
          have t := ih r (q / 2 + 1) (by simp at hk ⊢; omega) hr
          have st := Abv.step (r := (q, s) :: (q', s') :: r) hq t (fun x _ => by
            constructor
            · intro hh
              rcases plc_cons.1 hh with h3 | h3
              · exact Or.inl ⟨by rw [h3], hh⟩
              · rcases plc_cons.1 h3 with h4 | h4
                · exact Or.inl ⟨by omega, hh⟩
                · exact Or.inr h4
            · rintro (⟨_, hh⟩ | hh)
              · exact hh
              · exact plc_cons.2 (Or.inr (plc_cons.2 (Or.inr hh)))) (plc_cons.2 (Or.inl rfl)) (fun x hx => by have := ris_lt hris' hx; omega)
          rw [(by omega : 2 * (q / 2) + 1 = q'), (by omega : 2 * (q / 2) = q), ← hv, ← hv'] at st
          exact st
        · rw [if_neg h2]
          have t := ih ((q', s') :: r) (q / 2 + 1) (by simp at hk ⊢; omega) (tail _ (fun x hx => by have := hge x hx; omega) (by omega) (by omega))
          have st := Abv.step hq t sp (plc_cons.2 (Or.inl rfl)) (fun x hx => by have := hge x hx; omega)
          have e1 : N (2 * (q / 2) + 1) = e := h.none _ (by omega) (fun hh => by
            rcases plc_cons.1 hh with hh | hh
            · omega
            · have := hge _ hh; omega)
          rw [e1, (by omega : 2 * (q / 2) = q), ← hv] at st
          exact st
/-- The rows, from the leaves on. -/
def rows (l : Prl) : Nat → Prl
  | 0 => l.map fun p => (p.1, l3 p)
  | n + 1 => abv (emp n) (rows l n)
theorem rows_row {l : Prl} (h : Ris l) (h0 : ∀ p ∈ l, 0 ≤ p.1) (n : Nat) : Row (nd l n) (emp n) 0 (rows l n) ∧ ∀ x, plc (rows l n) x ↔ has l n x := by
  induction n with
  | zero =>
    have hp : ∀ x, plc (rows l 0) x ↔ has l 0 x := by
      intro x
      unfold plc rows has
      simp only [List.mem_map, Prod.mk.injEq]
      constructor
      · rintro ⟨s, p, hp, e, _⟩
        exact ⟨p, hp, by simpa using e⟩
      · rintro ⟨p, hp, e⟩
        exact ⟨l3 p, p, hp, by simpa using e, rfl⟩
    refine ⟨⟨?_, ?_, ?_, fun x _ hn => nd_none (fun hh => hn ((hp x).2 hh))⟩, hp⟩
    · show List.Pairwise _ (l.map _)
      rw [List.pairwise_map]
      exact h
    · intro p hp
      obtain ⟨p', hp', rfl⟩ := List.mem_map.1 hp
      have := h0 p' hp'
      dsimp only
      omega
    · intro p hp
      obtain ⟨p', hp', rfl⟩ := List.mem_map.1 hp
      dsimp only
      unfold nd
      rcases hf : l.find? (fun p => p.1 == p'.1) with _ | p2
      · rw [List.find?_eq_none] at hf
        exact absurd (by simp) (hf p' hp')
      · have h1 := List.mem_of_find?_eq_some hf
        have h2 : p2.1 = p'.1 := by have := List.find?_some hf; simpa using this
        have : p2 = p' := by
          rcases List.mem_iff_getElem.1 h1 with ⟨i, hi, rfl⟩
          rcases List.mem_iff_getElem.1 hp' with ⟨j, hj, rfl⟩
          have hh := List.pairwise_iff_getElem.1 h
          rcases Nat.lt_trichotomy i j with c | c | c
          · have := hh i j hi hj c; omega
          · subst c; rfl
          · have := hh j i hj hi c; omega
        rw [hf, this]
  | succ n ih =>
    have a := abv_row (nd l n) (emp n) _ _ 0 (Nat.le_refl _) ih.1
    have hp : ∀ x, plc (rows l (n + 1)) x ↔ has l (n + 1) x := by
      intro x
      rw [has_succ, ← ih.2, ← ih.2]
      by_cases hx : 0 ≤ x
      · exact a.pl x hx
      · constructor
        · rintro ⟨s, hs⟩
          exact absurd (a.lo _ hs) hx
        · rintro (⟨s, hs⟩ | ⟨s, hs⟩)
          · have := ih.1.lo _ hs; dsimp only at this; omega
          · have := ih.1.lo _ hs; dsimp only at this; omega
    refine ⟨⟨a.ris, fun p hp => by have := a.lo p hp; omega, fun p hp' => ?_, fun x _ hn => nd_none (fun hh => hn ((hp x).2 hh))⟩, hp⟩
    rw [nd_succ, if_pos ((hp p.1).1 ⟨p.2, hp'⟩)]
    exact a.val p hp'
theorem rows_bd {l : Prl} (h : Ris l) (h0 : ∀ p ∈ l, 0 ≤ p.1) (n : Nat) : ∀ p ∈ rows l n, 0 ≤ p.1 ∧ 0 ≤ p.2 ∧ p.2 ≤ 65520 := by
  intro p hp
  have h1 := (rows_row h h0 n).1
  have h2 := h1.lo p hp
  rw [h1.val p hp]
  exact ⟨by omega, nd_bd _ _ _⟩
/-- A part whose slots all lie at one place: one row of one sum, or none. -/
theorem rows_one {l : Prl} (h : Ris l) (h0 : ∀ p ∈ l, 0 ≤ p.1) {n : Nat} {q : Int} (hq : ∀ p ∈ l, p.1 / (2 ^ n : Nat) = q) (hne : l ≠ []) : rows l n = [(q, nd l n q)] := by
  have h1 := rows_row h h0 n
  have hm : ∀ p ∈ rows l n, p.1 = q := fun p hp => by
    obtain ⟨p', hp', e⟩ := (h1.2 p.1).1 ⟨p.2, hp⟩
    rw [← e, hq p' hp']
  obtain ⟨p0, t, rfl⟩ := List.exists_cons_of_ne_nil hne
  have hx : has (p0 :: t) n q := ⟨p0, by simp, hq p0 (by simp)⟩
  obtain ⟨s, hs⟩ := (h1.2 q).2 hx
  rcases hr : rows (p0 :: t) n with _ | ⟨a, _ | ⟨b, r⟩⟩
  · rw [hr] at hs; cases hs
  · have e1 := hm a (by rw [hr]; simp)
    have e2 := h1.1.val a (by rw [hr]; simp)
    obtain ⟨a1, a2⟩ := a
    dsimp only at e1 e2
    rw [e2, e1]
  · have e1 := hm a (by rw [hr]; simp)
    have e2 := hm b (by rw [hr]; simp)
    have := h1.1.ris
    rw [hr] at this
    have := (List.pairwise_cons.1 this).1 b (by simp)
    omega
theorem rows_nil (n : Nat) : rows [] n = [] := by
  induction n with
  | zero => rfl
  | succ n ih => unfold rows; rw [ih]; rfl
theorem abv_len (e : Int) : ∀ (k : Nat) (r : Prl), r.length ≤ k → (abv e r).length ≤ r.length := by
  intro k
  induction k with
  | zero =>
    intro r hk
    have : r = [] := List.eq_nil_of_length_eq_zero (by omega)
    subst this
    simp [abv]
  | succ k ih =>
    intro r hk
    match r, hk with
    | [], _ => simp [abv]
    | [(q, s)], _ => simp [abv]
    | (q, s) :: (q', s') :: r, hk =>
      have h1 := ih ((q', s') :: r) (by simp at hk ⊢; omega)
      have h2 := ih r (by simp at hk ⊢; omega)
      simp only [List.length_cons] at h1 hk ⊢
      unfold abv
      split
      · simp only [List.length_cons]; omega
      · split
        · simp only [List.length_cons]; omega
        · simp only [List.length_cons]; omega
theorem rows_len (l : Prl) (n : Nat) : (rows l n).length ≤ l.length := by
  induction n with
  | zero => simp [rows]
  | succ n ih =>
    have := abv_len (emp n) _ (rows l n) (Nat.le_refl _)
    unfold rows
    omega
/-- What is cut out of slots: keys from one on, below another. -/
def cut (l : Prl) (a b : Int) : Prl := l.filter fun p => decide (a ≤ p.1) && decide (p.1 < b)
theorem cut_mem {l : Prl} {a b : Int} {p : Int × Int} : p ∈ cut l a b ↔ p ∈ l ∧ a ≤ p.1 ∧ p.1 < b := by
  unfold cut; rw [List.mem_filter]; simp
theorem pow_pos (n : Nat) : (0 : Int) < (2 ^ n : Nat) := by have := Nat.two_pow_pos n; omega
theorem in_part {x q : Int} {n : Nat} : x / (2 ^ n : Nat) = q ↔ q * (2 ^ n : Nat) ≤ x ∧ x < q * (2 ^ n : Nat) + (2 ^ n : Nat) := by
  have hp := pow_pos n
  constructor
  · rintro rfl
    exact ⟨Int.ediv_mul_le _ (by omega), by have := Int.lt_ediv_add_one_mul_self x hp; rw [Int.add_mul] at this; omega⟩
  · rintro ⟨h1, h2⟩
    have a1 : q ≤ x / (2 ^ n : Nat) := (Int.le_ediv_iff_mul_le hp).2 h1
    have a2 : x / (2 ^ n : Nat) < q + 1 := (Int.ediv_lt_iff_lt_mul hp).2 (by rw [Int.add_mul]; omega)
    omega
/-- The sum of a part hangs on its own slots alone. -/
theorem nd_local {l l' : Prl} : ∀ (n : Nat) (q : Int), (l.filter fun p => decide (p.1 / (2 ^ n : Nat) = q)) = (l'.filter fun p => decide (p.1 / (2 ^ n : Nat) = q)) → nd l n q = nd l' n q := by
  intro n
  induction n with
  | zero =>
    intro q h
    unfold nd
    have : ∀ m : Prl, m.find? (fun p => p.1 == q) = (m.filter fun p => decide (p.1 / (2 ^ 0 : Nat) = q)).head? := by
      intro m
      rw [List.head?_filter]
      congr 1
      funext p
      rw [Nat.pow_zero, Int.natCast_one, Int.ediv_one]
      rfl
    rw [this, this, h]
  | succ n ih =>
    intro q h
    have hm : ∀ x : Int, x / 2 = q → (l.filter fun p => decide (p.1 / (2 ^ n : Nat) = x)) = (l'.filter fun p => decide (p.1 / (2 ^ n : Nat) = x)) := by
      intro x hx
      have e : ∀ m : Prl, (m.filter fun p => decide (p.1 / (2 ^ n : Nat) = x)) = ((m.filter fun p => decide (p.1 / (2 ^ (n + 1) : Nat) = q)).filter fun p => decide (p.1 / (2 ^ n : Nat) = x)) := by
        intro m
        rw [List.filter_filter]
        congr 1
        funext p
        rw [div_succ]
        generalize p.1 / (2 ^ n : Nat) = y
        by_cases h1 : y = x
        · subst h1; simp [hx]
        · simp [h1]
      rw [e l, e l', h]
    have hh : has l (n + 1) q ↔ has l' (n + 1) q := by
      have e : ∀ m : Prl, has m (n + 1) q ↔ (m.filter fun p => decide (p.1 / (2 ^ (n + 1) : Nat) = q)) ≠ [] := by
        intro m
        unfold has
        constructor
        · rintro ⟨p, hp, e⟩ h0
          have := (List.filter_eq_nil_iff.1 h0) p hp
          exact this (decide_eq_true e)
        · intro h0
          obtain ⟨p, t, ht⟩ := List.exists_cons_of_ne_nil h0
          have hp : p ∈ (m.filter fun p => decide (p.1 / (2 ^ (n + 1) : Nat) = q)) := by rw [ht]; simp
          rw [List.mem_filter] at hp
          exact ⟨p, hp.1, of_decide_eq_true hp.2⟩
      rw [e l, e l', h]
    rw [nd_succ, nd_succ, ih _ (hm (2 * q) (by omega)), ih _ (hm (2 * q + 1) (by omega))]
    by_cases hx : has l (n + 1) q
    · rw [if_pos hx, if_pos (hh.1 hx)]
    · rw [if_neg hx, if_neg (fun h => hx (hh.2 h))]
theorem cut_part (l : Prl) (n : Nat) (q : Int) : cut l (q * (2 ^ n : Nat)) (q * (2 ^ n : Nat) + (2 ^ n : Nat)) = l.filter fun p => decide (p.1 / (2 ^ n : Nat) = q) := by
  unfold cut
  congr 1
  funext p
  have := in_part (x := p.1) (q := q) (n := n)
  by_cases h : p.1 / (2 ^ n : Nat) = q
  · have h2 := this.1 h
    rw [decide_eq_true h, decide_eq_true h2.1, decide_eq_true h2.2]; rfl
  · simp only [h, decide_false]
    have : ¬ (q * (2 ^ n : Nat) ≤ p.1 ∧ p.1 < q * (2 ^ n : Nat) + (2 ^ n : Nat)) := fun hh => h (this.2 hh)
    simp only [Bool.and_eq_false_iff, decide_eq_false_iff_not]
    omega
theorem nd_cut (l : Prl) (n : Nat) (q : Int) : nd (cut l (q * (2 ^ n : Nat)) (q * (2 ^ n : Nat) + (2 ^ n : Nat))) n q = nd l n q := by
  rw [cut_part]
  apply nd_local
  rw [List.filter_filter]
  congr 1
  funext p
  simp
/-- What is cut out of slots that rise, rises. -/
theorem cut_ris {l : Prl} (h : Ris l) (a b : Int) : Ris (cut l a b) := List.Pairwise.filter _ h
theorem cut_len (l : Prl) (a b : Int) : (cut l a b).length ≤ l.length := List.length_filter_le _ _
/-- The sum of a part, as rows tell it. -/
def prt (l : Prl) (n : Nat) : Int := match rows l n with | [] => emp n | p :: _ => p.2
theorem prt_nd {l : Prl} (h : Ris l) (h0 : ∀ p ∈ l, 0 ≤ p.1) {n : Nat} {q : Int} (hq : ∀ p ∈ l, p.1 / (2 ^ n : Nat) = q) : prt l n = nd l n q := by
  unfold prt
  by_cases hne : l = []
  · subst hne
    rw [rows_nil, nd_none]
    rintro ⟨p, hp, _⟩
    cases hp
  · rw [rows_one h h0 hq hne]
end U
end Go.Proofs.YtdbbmclobmigdaaGreat
