/- Updates of a directory, as mathematics. -/
import Derived.Test.YtpelafkjnmcdgaaGreatAn1
import Derived.Test.YtpelafkjnmcdgaaGreatOw1
namespace Go.Proofs.YtpelafkjnmcdgaaGreat
open Go.RowKit
namespace U
/-- May a right record be put? -/
def mayO (o : Option Rc) (full : Bool) (r : Rc) (ow : Int) : Int :=
  match o with
  | some x => if (r.l.toList == x.l.toList) = true then (if ow = x.o then (if r.v = x.v + 1 then 0 else 7) else 8) else 6
  | none => if r.v = 1 then (if ow = r.o then (if full = true then 11 else 0) else 8) else 7
def mayC (l : Rcl) (r : Rc) (s : Int) : Int := if inB s 0 999 = true then mayO (lkO l r.k) (decide (12 ≤ l.length)) r (ownL s) else 3
def upC (l : Rcl) (r : Rc) (s : Int) : Int := if dirF l = 0 then (if r.c = 0 then mayC l r s else r.c) else dirF l
/-- What stands behind some rounds of putting: whether it is done, what there is. -/
def putT (l : Rcl) (r : Rc) : Nat → Bool × Rcl
  | 0 => (false, [])
  | k + 1 =>
    let d := (putT l r k).1
    let o := (putT l r k).2
    let o1 := if (!d && decide (r.k ≤ (rAt l k).k)) = true then o ++ [r] else o
    (d || decide (r.k ≤ (rAt l k).k), if (rAt l k).k = r.k then o1 else o1 ++ [rAt l k])
def putR (l : Rcl) (r : Rc) : Rcl := if (putT l r l.length).1 = true then (putT l r l.length).2 else (putT l r l.length).2 ++ [r]
def upL (l : Rcl) (r : Rc) (s : Int) : Rcl := if upC l r s = 0 then putR l r else []
def ltF (l : Rcl) (r : Rc) : Rcl := l.filter fun x => decide (x.k < r.k)
def gtF (l : Rcl) (r : Rc) : Rcl := l.filter fun x => decide (r.k < x.k)
def anyF (l : Rcl) (r : Rc) : Bool := l.any fun x => decide (r.k ≤ x.k)
theorem ltF_snoc (l : Rcl) (x r : Rc) : ltF (l ++ [x]) r = ltF l r ++ (if x.k < r.k then [x] else []) := by
  unfold ltF
  rw [List.filter_append]
  congr 1
  by_cases h : x.k < r.k <;> simp [h]
theorem gtF_snoc (l : Rcl) (x r : Rc) : gtF (l ++ [x]) r = gtF l r ++ (if r.k < x.k then [x] else []) := by
  unfold gtF
  rw [List.filter_append]
  congr 1
  by_cases h : r.k < x.k <;> simp [h]
theorem anyF_snoc (l : Rcl) (x r : Rc) : anyF (l ++ [x]) r = (anyF l r || decide (r.k ≤ x.k)) := by
  unfold anyF
  rw [List.any_append]
  simp
theorem take_snocR (l : Rcl) {k : Nat} (h : k < l.length) : l.take (k + 1) = l.take k ++ [rAt l k] := by
  rw [List.take_add_one, List.getElem?_eq_getElem h, rAt_eq h]
  rfl
theorem gtF_none {l : Rcl} {r : Rc} (h : anyF l r = false) : gtF l r = [] := by
  unfold gtF
  rw [List.filter_eq_nil_iff]
  intro x hx
  unfold anyF at h
  rw [List.any_eq_false] at h
  have := h x hx
  simp at this ⊢
  omega
theorem anyF_no {l : Rcl} (hl : DirOk l) {r : Rc} {k : Nat} (hk : k < l.length) (h : (rAt l k).k ≤ r.k) : anyF (l.take k) r = false := by
  unfold anyF
  rw [List.any_eq_false]
  intro x hx
  obtain ⟨j, hj, rfl⟩ := List.mem_iff_getElem.1 hx
  rw [List.length_take] at hj
  have h1 := hl.rise k hk j (by omega)
  rw [rAt_eq (by omega)] at h1
  rw [List.getElem_take]
  simp
  omega
theorem putT_eq {l : Rcl} (hl : DirOk l) (r : Rc) : ∀ k, k ≤ l.length → putT l r k = (anyF (l.take k) r, ltF (l.take k) r ++ if anyF (l.take k) r = true then r :: gtF (l.take k) r else [])
  | 0, _ => rfl
  | k + 1, hk => by
    have ih := putT_eq hl r k (by omega)
    have hno := fun h => anyF_no hl (r := r) (k := k) (by omega) h
    rw [take_snocR l (by omega), ltF_snoc, gtF_snoc, anyF_snoc]
    show ((putT l r k).1 || decide (r.k ≤ (rAt l k).k), if (rAt l k).k = r.k then (if (!(putT l r k).1 && decide (r.k ≤ (rAt l k).k)) = true then (putT l r k).2 ++ [r] else (putT l r k).2) else (if (!(putT l r k).1 && decide (r.k ≤ (rAt l k).k)) = true then (putT l r k).2 ++ [r] else (putT l r k).2) ++ [rAt l k]) = _
    rw [ih]
    generalize rAt l k = x at *
    have hg := fun h => gtF_none (l := l.take k) (r := r) h
    generalize ltF (l.take k) r = a at *
    generalize gtF (l.take k) r = b at *
    rcases Int.lt_trichotomy x.k r.k with h | h | h
    · have h0 := hno (by omega)
      rw [h0]
      have h1 : ¬ x.k = r.k := by omega
      have h2 : ¬ r.k ≤ x.k := by omega
      simp [h, h1, h2]
    · have h0 := hno (by omega)
      rw [hg h0, h0]
      simp [h]
    · have h1 : ¬ x.k = r.k := by omega
      have h2 : ¬ x.k < r.k := by omega
      have h3 : r.k ≤ x.k := by omega
      cases hd : anyF (l.take k) r
      · rw [hg hd]
        simp [h, h1, h2, h3]
      · simp [h, h1, h2, h3]
theorem putR_eq {l : Rcl} (hl : DirOk l) (r : Rc) : putR l r = ltF l r ++ r :: gtF l r := by
  unfold putR
  rw [putT_eq hl r l.length (Nat.le_refl _), List.take_length]
  dsimp only
  cases hd : anyF l r
  · rw [gtF_none hd]
    simp
  · simp
theorem DirOk.pair {l : Rcl} (h : DirOk l) : l.Pairwise (fun x y => x.k < y.k) := by
  rw [List.pairwise_iff_getElem]
  intro i j hi hj hij
  have := h.rise j hj i hij
  rw [rAt_eq hi, rAt_eq hj] at this
  exact this
theorem putR_pair {l : Rcl} (hl : DirOk l) (r : Rc) : (putR l r).Pairwise (fun x y => x.k < y.k) := by
  rw [putR_eq hl, List.pairwise_append]
  refine ⟨hl.pair.filter _, ?_, ?_⟩
  · rw [List.pairwise_cons]
    refine ⟨fun y hy => ?_, hl.pair.filter _⟩
    have := (List.mem_filter.1 hy).2
    simpa using this
  · intro x hx y hy
    have h1 : x.k < r.k := by simpa using (List.mem_filter.1 hx).2
    rcases List.mem_cons.1 hy with rfl | hy
    · exact h1
    · have h2 : r.k < y.k := by simpa using (List.mem_filter.1 hy).2
      omega
theorem putR_mem {l : Rcl} (hl : DirOk l) (r x : Rc) : x ∈ putR l r ↔ x = r ∨ (x ∈ l ∧ x.k ≠ r.k) := by
  rw [putR_eq hl, List.mem_append, List.mem_cons]
  unfold ltF gtF
  rw [List.mem_filter, List.mem_filter]
  simp only [decide_eq_true_eq]
  constructor
  · rintro (⟨h1, h2⟩ | rfl | ⟨h1, h2⟩)
    · exact Or.inr ⟨h1, by omega⟩
    · exact Or.inl rfl
    · exact Or.inr ⟨h1, by omega⟩
  · rintro (rfl | ⟨h1, h2⟩)
    · exact Or.inr (Or.inl rfl)
    · rcases Int.lt_or_gt_of_ne h2 with h | h
      · exact Or.inl ⟨h1, h⟩
      · exact Or.inr (Or.inr ⟨h1, h⟩)
/-- The map behind the update. -/
def upG (l : Rcl) (r : Rc) (x : Int) : Option Rc := if x = r.k then some r else mapTo l l.length x
theorem mapTo_mem {l : Rcl} (hl : DirOk l) {x : Int} {y : Rc} : mapTo l l.length x = some y ↔ y ∈ l ∧ y.k = x := by
  rw [lkO_map hl]
  constructor
  · intro h
    have := lkO_key h
    exact ⟨this.2, this.1⟩
  · rintro ⟨h1, h2⟩
    obtain ⟨j, hj, rfl⟩ := List.mem_iff_getElem.1 h1
    rw [← rAt_eq hj] at h2 ⊢
    rw [← lkO_map hl]
    exact mapTo_some h2 _ hj (fun i hi e => hl.one hi hj (by rw [e, h2]))
theorem upG_mem {l : Rcl} (hl : DirOk l) {r : Rc} {x : Int} {y : Rc} : upG l r x = some y ↔ y ∈ putR l r ∧ y.k = x := by
  unfold upG
  rw [putR_mem hl]
  by_cases h : x = r.k
  · rw [if_pos h]
    constructor
    · intro e
      cases e
      exact ⟨Or.inl rfl, h.symm⟩
    · rintro ⟨rfl | ⟨h1, h2⟩, h3⟩
      · rfl
      · exact absurd (h3.trans h) h2
  · rw [if_neg h, mapTo_mem hl]
    constructor
    · rintro ⟨h1, h2⟩
      exact ⟨Or.inr ⟨h1, by rw [h2]; exact h⟩, h2⟩
    · rintro ⟨rfl | ⟨h1, h2⟩, h3⟩
      · exact absurd h3.symm h
      · exact ⟨h1, h3⟩
/-- Two lists of numbers that rise and have the same in them are one. -/
theorem rise_one : ∀ {a b : List Int}, a.Pairwise (· < ·) → b.Pairwise (· < ·) → (∀ x, x ∈ a ↔ x ∈ b) → a = b
  | [], [], _, _, _ => rfl
  | [], y :: b, _, _, h => by have := (h y).2 (by simp); cases this
  | x :: a, [], _, _, h => by have := (h x).1 (by simp); cases this
  | x :: a, y :: b, ha, hb, h => by
    obtain ⟨ha1, ha2⟩ := List.pairwise_cons.1 ha
    obtain ⟨hb1, hb2⟩ := List.pairwise_cons.1 hb
    have hxy : x = y := by
      rcases List.mem_cons.1 ((h x).1 (by simp)) with e | e
      · exact e
      · rcases List.mem_cons.1 ((h y).2 (by simp)) with e2 | e2
        · exact e2.symm
        · have := hb1 x e; have := ha1 y e2; omega
    subst hxy
    congr 1
    refine rise_one ha2 hb2 (fun z => ⟨fun hz => ?_, fun hz => ?_⟩)
    · rcases List.mem_cons.1 ((h z).1 (by simp [hz])) with e | e
      · have := ha1 z hz; omega
      · exact e
    · rcases List.mem_cons.1 ((h z).2 (by simp [hz])) with e | e
      · have := hb1 z hz; omega
      · exact e
/-- The records of the keys in their order are what was put. -/
theorem put_keys {l : Rcl} (hl : DirOk l) (r : Rc) {ks : List Int} (hs : ks.Pairwise (· < ·)) (hm : ∀ x, x ∈ ks ↔ (upG l r x).isSome = true) : ks.map (fun x => (upG l r x).getD rcZ) = putR l r := by
  have e : ks = (putR l r).map (fun y => y.k) := by
    refine rise_one hs ?_ (fun x => ?_)
    · rw [List.pairwise_map]
      exact putR_pair hl r
    · rw [hm, List.mem_map, Option.isSome_iff_exists]
      constructor
      · rintro ⟨y, hy⟩
        have := (upG_mem hl).1 hy
        exact ⟨y, this.1, this.2⟩
      · rintro ⟨y, h1, h2⟩
        exact ⟨y, (upG_mem hl).2 ⟨h1, h2⟩⟩
  rw [e, List.map_map]
  have : ∀ y ∈ putR l r, ((fun x => (upG l r x).getD rcZ) ∘ fun y => y.k) y = y := fun y hy => by
    show (upG l r y.k).getD rcZ = y
    rw [(upG_mem hl).2 ⟨hy, rfl⟩]
    rfl
  rw [List.map_congr_left this]
  exact List.map_id _
theorem parts_len (r : Rc) : ∀ l : Rcl, (ltF l r).length + (gtF l r).length ≤ l.length
  | [] => Nat.le_refl _
  | x :: t => by
    have ih := parts_len r t
    unfold ltF gtF at ih ⊢
    rw [List.filter_cons, List.filter_cons]
    rcases Int.lt_trichotomy x.k r.k with h | h | h
    · have h2 : ¬ r.k < x.k := by omega
      simp [h, h2]
      omega
    · have h1 : ¬ x.k < r.k := by omega
      have h2 : ¬ r.k < x.k := by omega
      simp [h1, h2]
      omega
    · have h1 : ¬ x.k < r.k := by omega
      simp [h, h1]
      omega
theorem putR_len {l : Rcl} (hl : DirOk l) (r : Rc) : (putR l r).length ≤ l.length + 1 := by
  have := parts_len r l
  rw [putR_eq hl, List.length_append, List.length_cons]
  omega
end U
end Go.Proofs.YtpelafkjnmcdgaaGreat
