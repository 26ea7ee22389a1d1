/- The new tree, by mathematics alone: the fork bit of slots, both sides of it, the tree, its pieces and sums, its forks, and where a key is led. -/
import Derived.Test.YtdbbmclobmigdaaGreatSlN
import Derived.Deep.Trees
namespace Go.Proofs.YtdbbmclobmigdaaGreat
namespace U
/-- Bit number b of a number. -/
def bitN (k : Int) (b : Nat) : Int := k / (2 ^ b : Nat) % 2
theorem bitN_bd (k : Int) (b : Nat) : bitN k b = 0 ∨ bitN k b = 1 := by unfold bitN; omega
/-- The slots that have a bit. -/
def sd (l : Prl) (b : Nat) (s : Int) : Prl := l.filter fun p => decide (bitN p.1 b = s)
theorem sd_mem {l : Prl} {b : Nat} {s : Int} {p : Int × Int} : p ∈ sd l b s ↔ p ∈ l ∧ bitN p.1 b = s := by
  unfold sd; rw [List.mem_filter, decide_eq_true_iff]
theorem sd_ris {l : Prl} (h : Ris l) (b : Nat) (s : Int) : Ris (sd l b s) := List.Pairwise.filter _ h
theorem sd_len (l : Prl) (b : Nat) (s : Int) : (sd l b s).length ≤ l.length := List.length_filter_le _ _
theorem sd_lt {l : Prl} {b : Nat} {s : Int} {p : Int × Int} (hp : p ∈ l) (h : bitN p.1 b ≠ s) : (sd l b s).length < l.length := by
  unfold sd
  rw [List.length_filter_lt_length_iff_exists]
  exact ⟨p, hp, by simpa using h⟩
theorem sd_sls {l : Prl} (h : Sls l) (b : Nat) (s : Int) : Sls (sd l b s) :=
  ⟨Nat.le_trans (sd_len l b s) h.len, sd_ris h.ris b s, fun p hp => h.fin p (sd_mem.1 hp).1⟩
/-- The number of the highest bit in which not all are the same. -/
structure FB (l : Prl) (b : Nat) : Prop where
  le : b ≤ 7
  top : ∀ p ∈ l, p.1 / (2 ^ (b + 1) : Nat) = (pAt l 0).1 / (2 ^ (b + 1) : Nat)
  lo : bitN (pAt l 0).1 b = 0
  hi : bitN (pAt l (l.length - 1)).1 b = 1
theorem ris_first {l : Prl} (h : Ris l) {p : Int × Int} (hp : p ∈ l) : (pAt l 0).1 ≤ p.1 := by
  obtain ⟨i, hi, rfl⟩ := List.getElem_of_mem hp
  rw [← pAt_eq hi]
  rcases Nat.eq_zero_or_pos i with rfl | h0
  · exact Int.le_refl _
  · exact Int.le_of_lt (ris_at h h0 hi)
theorem ris_last {l : Prl} (h : Ris l) {p : Int × Int} (hp : p ∈ l) : p.1 ≤ (pAt l (l.length - 1)).1 := by
  obtain ⟨i, hi, rfl⟩ := List.getElem_of_mem hp
  rw [← pAt_eq hi]
  by_cases e : i = l.length - 1
  · rw [← e]; exact Int.le_refl _
  · exact Int.le_of_lt (ris_at h (by omega) (by omega))
theorem pAt_mem {l : Prl} {i : Nat} (h : i < l.length) : pAt l i ∈ l := by rw [pAt_eq h]; exact List.getElem_mem _
theorem ediv_le {x y : Int} (h : x ≤ y) (n : Nat) : x / (2 ^ n : Nat) ≤ y / (2 ^ n : Nat) := Int.ediv_le_ediv (pow_pos n) h
theorem fb_aux {x y : Int} (h : x < y) : ∀ n : Nat, x / (2 ^ n : Nat) = y / (2 ^ n : Nat) → ∃ b, b < n ∧ x / (2 ^ (b + 1) : Nat) = y / (2 ^ (b + 1) : Nat) ∧ x / (2 ^ b : Nat) ≠ y / (2 ^ b : Nat) := by
  intro n
  induction n with
  | zero => intro h1; simp at h1; omega
  | succ n ih =>
    intro h1
    by_cases e : x / (2 ^ n : Nat) = y / (2 ^ n : Nat)
    · obtain ⟨b, h2, h3⟩ := ih e
      exact ⟨b, by omega, h3⟩
    · exact ⟨n, by omega, h1, e⟩
theorem fb_of {l : Prl} {b : Nat} (h : Ris l) (hb : b ≤ 7) (h2 : 2 ≤ l.length) (e1 : (pAt l 0).1 / (2 ^ (b + 1) : Nat) = (pAt l (l.length - 1)).1 / (2 ^ (b + 1) : Nat)) (e2 : (pAt l 0).1 / (2 ^ b : Nat) ≠ (pAt l (l.length - 1)).1 / (2 ^ b : Nat)) : FB l b := by
  have h3 := ediv_le (Int.le_of_lt (ris_at h (show 0 < l.length - 1 by omega) (by omega))) b
  have e3 := e1
  rw [div_succ, div_succ] at e3
  refine ⟨hb, fun p hp => ?_, ?_, ?_⟩
  · have h4 := ediv_le (ris_first h hp) (b + 1)
    have h5 := ediv_le (ris_last h hp) (b + 1)
    omega
  · unfold bitN; omega
  · unfold bitN; omega
theorem fb_ex {l : Prl} (h : Sls l) (h2 : 2 ≤ l.length) : ∃ b, FB l b := by
  have h3 := ris_at h.ris (show 0 < l.length - 1 by omega) (by omega)
  have h4 := (h.at (show 0 < l.length by omega)).1
  have h5 := (h.at (show l.length - 1 < l.length by omega)).1
  have h6 : (pAt l 0).1 / (2 ^ 8 : Nat) = (pAt l (l.length - 1)).1 / (2 ^ 8 : Nat) := by
    show _ / 256 = _ / 256
    omega
  obtain ⟨b, hb, e1, e2⟩ := fb_aux h3 8 h6
  exact ⟨b, fb_of h.ris (by omega) h2 e1 e2⟩
theorem fb_mid {l : Prl} {b : Nat} (h : FB l b) (h0 : 0 < l.length) {p : Int × Int} (hp : p ∈ l) : p.1 / (2 ^ b : Nat) = (pAt l (l.length - 1)).1 / (2 ^ b : Nat) - 1 + bitN p.1 b := by
  have h1 := h.top p hp
  have h2 := h.top _ (pAt_mem (show l.length - 1 < l.length by omega))
  have h3 := h.hi
  rw [div_succ, div_succ] at h1 h2
  unfold bitN at *
  omega
theorem fb_uniq {l : Prl} {b c : Nat} (h : FB l b) (h' : FB l c) (h0 : 0 < l.length) : b = c := by
  have key : ∀ {b c : Nat}, FB l b → FB l c → ¬ b < c := by
    intro b c h h' hlt
    have h1 := h.top _ (pAt_mem (show l.length - 1 < l.length by omega))
    have h2 := h'.lo
    have h3 := h'.hi
    unfold bitN at h2 h3
    obtain ⟨d, rfl⟩ : ∃ d, c = (b + 1) + d := ⟨c - (b + 1), by omega⟩
    rw [Nat.pow_add, Int.natCast_mul, ← Int.ediv_ediv_of_nonneg (Int.natCast_nonneg _)] at h2 h3
    rw [h1] at h3
    omega
  have h1 := key h h'
  have h2 := key h' h
  omega
/-- Where those begin that have a 1. -/
def ones (l : Prl) (b : Nat) : Int := (pAt l (l.length - 1)).1 / (2 ^ b : Nat) * (2 ^ b : Nat)
theorem ones_iff {l : Prl} {b : Nat} (h : FB l b) (h0 : 0 < l.length) {p : Int × Int} (hp : p ∈ l) : p.1 < ones l b ↔ bitN p.1 b = 0 := by
  unfold ones
  rw [← Int.ediv_lt_iff_lt_mul (pow_pos b)]
  have h1 := fb_mid h h0 hp
  have h2 := bitN_bd p.1 b
  omega
theorem sd_zero {l : Prl} {b : Nat} (hr : Ris l) (h : FB l b) (h0 : 0 < l.length) : sd l b 0 = l.take (low l (ones l b)) := by
  rw [← low_take hr]
  unfold sd
  apply List.filter_congr
  intro p hp
  rw [decide_eq_decide]
  exact (ones_iff h h0 hp).symm
theorem sd_one {l : Prl} {b : Nat} (hr : Ris l) (h : FB l b) (h0 : 0 < l.length) : sd l b 1 = l.drop (low l (ones l b)) := by
  rw [← low_drop hr]
  unfold sd
  apply List.filter_congr
  intro p hp
  rw [decide_eq_decide]
  have h1 := ones_iff h h0 hp
  have h2 := bitN_bd p.1 b
  omega
theorem fb_left {l : Prl} {b : Nat} (h : FB l b) (h0 : 0 < l.length) : pAt l 0 ∈ sd l b 0 := sd_mem.2 ⟨pAt_mem h0, h.lo⟩
theorem fb_right {l : Prl} {b : Nat} (h : FB l b) (h0 : 0 < l.length) : pAt l (l.length - 1) ∈ sd l b 1 := sd_mem.2 ⟨pAt_mem (by omega), h.hi⟩
theorem fb_less {l : Prl} {b : Nat} {s : Int} (h : FB l b) (h0 : 0 < l.length) (hs : s = 0 ∨ s = 1) : (sd l b s).length < l.length := by
  rcases hs with rfl | rfl
  · exact sd_lt (pAt_mem (show l.length - 1 < l.length by omega)) (by rw [h.hi]; decide)
  · exact sd_lt (pAt_mem h0) (by rw [h.lo]; decide)
theorem fb_some {l : Prl} {b : Nat} {s : Int} (h : FB l b) (h0 : 0 < l.length) (hs : s = 0 ∨ s = 1) : 0 < (sd l b s).length := by
  rcases hs with rfl | rfl
  · exact List.length_pos_of_mem (fb_left h h0)
  · exact List.length_pos_of_mem (fb_right h h0)
theorem sd_both (l : Prl) (b : Nat) : (sd l b 0).length + (sd l b 1).length = l.length := by
  induction l with
  | nil => rfl
  | cons p t ih =>
    unfold sd at *
    rcases bitN_bd p.1 b with e | e
    · rw [List.filter_cons_of_pos (by simp [e]), List.filter_cons_of_neg (by simp [e]), List.length_cons, List.length_cons]; omega
    · rw [List.filter_cons_of_neg (by simp [e]), List.filter_cons_of_pos (by simp [e]), List.length_cons, List.length_cons]; omega
/-- Trees of the library's, with a key and a value at a leaf and a number at a fork. -/
abbrev Bt := Go.Deep.BT (Option (Int × Int))
/-- A tree that is nothing, a leaf with nothing below, or a fork of two such trees. -/
def shp : Bt → Prop
  | .nil => True
  | .node b o (some _) l r => b = 0 ∧ o = 0 ∧ l = .nil ∧ r = .nil
  | .node _ o none l r => o = 0 ∧ shp l ∧ shp r
/-- The new tree. -/
structure Tr where
  t : Bt
  h : shp t
def Tr.none : Tr := ⟨.nil, trivial⟩
def Tr.leaf (k v : Int) : Tr := ⟨.node 0 0 (some (k, v)) .nil .nil, rfl, rfl, rfl, rfl⟩
def Tr.fork (b : Nat) (l r : Tr) : Tr := ⟨.node b 0 Option.none l.t r.t, rfl, l.h, r.h⟩
/-- Recursion on the new tree. -/
def foB {α : Type} (n : α) (lf : Int → Int → α) (fk : Nat → Tr → Tr → α → α → α) : (t : Bt) → shp t → α
  | .nil, _ => n
  | .node _ _ (some p) _ _, _ => lf p.1 p.2
  | .node b _ none l r, h => fk b ⟨l, h.2.1⟩ ⟨r, h.2.2⟩ (foB n lf fk l h.2.1) (foB n lf fk r h.2.2)
def Tr.fo {α : Type} (n : α) (lf : Int → Int → α) (fk : Nat → Tr → Tr → α → α → α) (t : Tr) : α := foB n lf fk t.t t.h
theorem ind_aux {motive : Tr → Prop} (none : motive Tr.none) (leaf : ∀ k v, motive (Tr.leaf k v)) (fork : ∀ b l r, motive l → motive r → motive (Tr.fork b l r)) : ∀ (t : Bt) (h : shp t), motive ⟨t, h⟩
  | .nil, _ => none
  | .node b o (some (k, v)) l r, h => by
    obtain ⟨rfl, rfl, rfl, rfl⟩ := h
    exact leaf k v
  | .node b o Option.none l r, h => by
    obtain ⟨rfl, h1, h2⟩ := h
    exact fork b ⟨l, h1⟩ ⟨r, h2⟩ (ind_aux none leaf fork l h1) (ind_aux none leaf fork r h2)
/-- Induction on the new tree. -/
theorem Tr.ind {motive : Tr → Prop} (none : motive Tr.none) (leaf : ∀ k v, motive (Tr.leaf k v)) (fork : ∀ b l r, motive l → motive r → motive (Tr.fork b l r)) (t : Tr) : motive t := ind_aux none leaf fork t.t t.h
theorem Tr.cs {motive : Tr → Prop} (none : motive Tr.none) (leaf : ∀ k v, motive (Tr.leaf k v)) (fork : ∀ b l r, motive (Tr.fork b l r)) (t : Tr) : motive t := Tr.ind none leaf (fun b l r _ _ => fork b l r) t
theorem Tr.three (t : Tr) : t = Tr.none ∨ (∃ k v, t = Tr.leaf k v) ∨ ∃ b l r, t = Tr.fork b l r := by
  induction t using Tr.cs with
  | none => exact Or.inl rfl
  | leaf k v => exact Or.inr (Or.inl ⟨k, v, rfl⟩)
  | fork b l r => exact Or.inr (Or.inr ⟨b, l, r, rfl⟩)
/-- The new tree of slots. -/
def isB : Bt → Prl → Prop
  | .nil, l => l = []
  | .node _ _ (some p) _ _, l => l = [p]
  | .node b _ none L R, l => 2 ≤ l.length ∧ FB l b ∧ isB L (sd l b 0) ∧ isB R (sd l b 1)
/-- The new tree of slots. -/
structure IsTr (l : Prl) (t : Tr) : Prop where
  b : isB t.t l
theorem IsTr.none : IsTr [] Tr.none := ⟨rfl⟩
theorem IsTr.leaf (k v : Int) : IsTr [(k, v)] (Tr.leaf k v) := ⟨rfl⟩
theorem IsTr.fork {l : Prl} {b : Nat} {L R : Tr} (h2 : 2 ≤ l.length) (hb : FB l b) (h3 : IsTr (sd l b 0) L) (h4 : IsTr (sd l b 1) R) : IsTr l (Tr.fork b L R) := ⟨⟨h2, hb, h3.b, h4.b⟩⟩
theorem IsTr.ind {motive : (l : Prl) → (t : Tr) → IsTr l t → Prop} (none : motive [] Tr.none IsTr.none) (leaf : ∀ k v, motive [(k, v)] (Tr.leaf k v) (IsTr.leaf k v))
    (fork : ∀ {l : Prl} {b : Nat} {L R : Tr} (h2 : 2 ≤ l.length) (hb : FB l b) (h3 : IsTr (sd l b 0) L) (h4 : IsTr (sd l b 1) R), motive (sd l b 0) L h3 → motive (sd l b 1) R h4 → motive l (Tr.fork b L R) (IsTr.fork h2 hb h3 h4)) {l : Prl} {t : Tr} (h : IsTr l t) : motive l t h := by
  induction t using Tr.ind generalizing l with
  | none => obtain ⟨e⟩ := h; cases (show l = [] from e); exact none
  | leaf k v => obtain ⟨e⟩ := h; cases (show l = [(k, v)] from e); exact leaf k v
  | fork b L R ih1 ih2 =>
    obtain ⟨h2, hb, h3, h4⟩ := h
    exact fork h2 hb ⟨h3⟩ ⟨h4⟩ (ih1 ⟨h3⟩) (ih2 ⟨h4⟩)
theorem IsTr.cs {motive : (l : Prl) → (t : Tr) → IsTr l t → Prop} (none : motive [] Tr.none IsTr.none) (leaf : ∀ k v, motive [(k, v)] (Tr.leaf k v) (IsTr.leaf k v))
    (fork : ∀ {l : Prl} {b : Nat} {L R : Tr} (h2 : 2 ≤ l.length) (hb : FB l b) (h3 : IsTr (sd l b 0) L) (h4 : IsTr (sd l b 1) R), motive l (Tr.fork b L R) (IsTr.fork h2 hb h3 h4)) {l : Prl} {t : Tr} (h : IsTr l t) : motive l t h :=
  IsTr.ind none leaf (fun h2 hb h3 h4 _ _ => fork h2 hb h3 h4) h
theorem isTr_ex : ∀ (n : Nat) (l : Prl), l.length ≤ n → Sls l → ∃ t, IsTr l t := by
  intro n
  induction n with
  | zero =>
    intro l h _
    rw [List.eq_nil_of_length_eq_zero (Nat.le_zero.1 h)]
    exact ⟨_, IsTr.none⟩
  | succ n ih =>
    intro l h hs
    match l, h, hs with
    | [], _, _ => exact ⟨_, IsTr.none⟩
    | [(k, v)], _, _ => exact ⟨_, IsTr.leaf k v⟩
    | p :: q :: r, h, hs =>
      have h2 : 2 ≤ (p :: q :: r).length := by simp
      obtain ⟨b, hb⟩ := fb_ex hs h2
      have h3 := fb_less (s := 0) hb (by omega) (Or.inl rfl)
      have h4 := fb_less (s := 1) hb (by omega) (Or.inr rfl)
      obtain ⟨L, hL⟩ := ih _ (by omega) (sd_sls hs b 0)
      obtain ⟨R, hR⟩ := ih _ (by omega) (sd_sls hs b 1)
      exact ⟨_, IsTr.fork h2 hb hL hR⟩
/-- What is summed for a tree. -/
def Tr.bts (t : Tr) : List Int := t.fo (tagL 9 []) (fun k v => tagL 4 [k, v]) (fun b _ _ x y => tagL 5 [(b : Int), sumL x, sumL y])
theorem Tr.bts_none : Tr.none.bts = tagL 9 [] := rfl
theorem Tr.bts_leaf (k v : Int) : (Tr.leaf k v).bts = tagL 4 [k, v] := rfl
theorem Tr.bts_fork (b : Nat) (l r : Tr) : (Tr.fork b l r).bts = tagL 5 [(b : Int), sumL l.bts, sumL r.bts] := rfl
def Tr.sum (t : Tr) : Int := sumL t.bts
theorem Tr.sum_bd (t : Tr) : 0 ≤ t.sum ∧ t.sum ≤ 65520 := sumL_bd _
theorem Tr.len (t : Tr) : t.bts.length ≤ 7 := by
  induction t using Tr.cs with
  | none => rw [Tr.bts_none, tagL_len]; simp
  | leaf k v => rw [Tr.bts_leaf, tagL_len]; simp
  | fork b l r => rw [Tr.bts_fork, tagL_len]; simp
/-- A tree all of whose leaves and bits are in range. -/
def Tr.Ok (t : Tr) : Prop := t.fo True (fun k v => (0 ≤ k ∧ k ≤ 255) ∧ (0 ≤ v ∧ v ≤ 65520)) (fun b _ _ x y => b ≤ 7 ∧ x ∧ y)
theorem Tr.ok_leaf {k v : Int} : (Tr.leaf k v).Ok ↔ (0 ≤ k ∧ k ≤ 255) ∧ (0 ≤ v ∧ v ≤ 65520) := Iff.rfl
theorem Tr.ok_fork {b : Nat} {l r : Tr} : (Tr.fork b l r).Ok ↔ b ≤ 7 ∧ l.Ok ∧ r.Ok := Iff.rfl
theorem IsTr.ok {l : Prl} {t : Tr} (h : IsTr l t) (hs : Sls l) : t.Ok := by
  induction h using IsTr.ind with
  | none => trivial
  | leaf k v => exact fine_bd (hs.fin _ (List.mem_singleton.2 rfl))
  | fork _ hb _ _ ih1 ih2 => exact ⟨hb.le, ih1 (sd_sls hs _ _), ih2 (sd_sls hs _ _)⟩
theorem Tr.Ok.nums3 {b : Nat} (hb : b ≤ 7) (l r : Tr) : [(b : Int), l.sum, r.sum].all sumB = true := by
  have h1 := l.sum_bd
  have h2 := r.sum_bd
  simp [sumB_iff]
  omega
theorem Tr.Ok.nums2 {k v : Int} (hk : 0 ≤ k ∧ k ≤ 255) (hv : 0 ≤ v ∧ v ≤ 65520) : [k, v].all sumB = true := by
  simp [sumB_iff]
  omega
theorem Tr.Ok.bts {t : Tr} (h : t.Ok) : Bts t.bts := by
  induction t using Tr.cs with
  | none => exact tagL_bts (by omega) rfl
  | leaf k v => exact tagL_bts (by omega) (Tr.Ok.nums2 h.1 h.2)
  | fork b l r => exact tagL_bts (by omega) (Tr.Ok.nums3 h.1 l r)
/-- How many forks there are. -/
def Tr.forks (t : Tr) : Nat := t.fo 0 (fun _ _ => 0) (fun _ _ _ x y => 1 + x + y)
theorem Tr.forks_fork (b : Nat) (l r : Tr) : (Tr.fork b l r).forks = 1 + l.forks + r.forks := rfl
theorem IsTr.forks {l : Prl} {t : Tr} (h : IsTr l t) : t.forks = l.length - 1 := by
  induction h using IsTr.ind with
  | none => rfl
  | leaf k v => rfl
  | fork h2 hb h3 h4 ih1 ih2 =>
    rename_i l b L R
    have e := sd_both l b
    have e1 := fb_some (s := 0) hb (by omega) (Or.inl rfl)
    have e2 := fb_some (s := 1) hb (by omega) (Or.inr rfl)
    rw [Tr.forks_fork]
    omega
/-- Where a key is led. -/
def Tr.near (key : Int) (t : Tr) : Int × Int := t.fo (0, 0) (fun k v => (k, v)) (fun b _ _ x y => if bitN key b = 0 then x else y)
theorem Tr.near_fork (key : Int) (b : Nat) (l r : Tr) : (Tr.fork b l r).near key = if bitN key b = 0 then l.near key else r.near key := rfl
theorem IsTr.near {l : Prl} {t : Tr} (h : IsTr l t) : ∀ p ∈ l, t.near p.1 = p := by
  induction h using IsTr.ind with
  | none => intro p hp; cases hp
  | leaf k v => intro p hp; rw [List.mem_singleton] at hp; subst hp; rfl
  | fork h2 hb h3 h4 ih1 ih2 =>
    intro p hp
    rw [Tr.near_fork]
    split
    · rename_i e; exact ih1 p (sd_mem.2 ⟨hp, e⟩)
    · rename_i l b L R e
      have e2 := bitN_bd p.1 b
      exact ih2 p (sd_mem.2 ⟨hp, by omega⟩)
theorem IsTr.led {l : Prl} {t : Tr} (h : IsTr l t) (key : Int) (h0 : 0 < l.length) : t.near key ∈ l := by
  induction h using IsTr.ind with
  | none => simp at h0
  | leaf k v => exact List.mem_singleton.2 rfl
  | fork h2 hb h3 h4 ih1 ih2 =>
    rw [Tr.near_fork]
    split
    · exact (sd_mem.1 (ih1 (fb_some hb h0 (Or.inl rfl)))).1
    · exact (sd_mem.1 (ih2 (fb_some hb h0 (Or.inr rfl)))).1
/-- The forks at which a key is led on, from the last one on: the bit, and the sum of the other side. -/
def Tr.way (key : Int) (t : Tr) : Prl := t.fo [] (fun _ _ => []) (fun b l r x y => if bitN key b = 0 then x ++ [((b : Int), r.sum)] else y ++ [((b : Int), l.sum)])
theorem Tr.way_none (key : Int) : Tr.none.way key = [] := rfl
theorem Tr.way_leaf (key k v : Int) : (Tr.leaf k v).way key = [] := rfl
theorem Tr.way_fork (key : Int) (b : Nat) (l r : Tr) : (Tr.fork b l r).way key = if bitN key b = 0 then l.way key ++ [((b : Int), r.sum)] else r.way key ++ [((b : Int), l.sum)] := rfl
theorem Tr.way_len (key : Int) (t : Tr) : (t.way key).length ≤ t.forks := by
  induction t using Tr.ind with
  | none => simp [Tr.way_none]
  | leaf k v => simp [Tr.way_leaf]
  | fork b l r ih1 ih2 =>
    rw [Tr.way_fork, Tr.forks_fork]
    split <;> simp <;> omega
theorem IsTr.isNone {l : Prl} {t : Tr} (h : IsTr l t) (h0 : l.length = 0) : t = .none := by
  induction h using IsTr.cs with
  | none => rfl
  | leaf k v => simp at h0
  | fork h2 => omega
theorem IsTr.isLeaf {l : Prl} {t : Tr} (h : IsTr l t) (h0 : l.length = 1) : t = .leaf (pAt l 0).1 (pAt l 0).2 := by
  induction h using IsTr.cs with
  | none => simp at h0
  | leaf k v => rfl
  | fork h2 => omega
theorem IsTr.isFork {l : Prl} {t : Tr} (h : IsTr l t) (h0 : 2 ≤ l.length) : ∃ b L R, t = .fork b L R ∧ FB l b ∧ IsTr (sd l b 0) L ∧ IsTr (sd l b 1) R := by
  induction h using IsTr.cs with
  | none => simp at h0
  | leaf k v => simp at h0
  | fork h2 hb h3 h4 => exact ⟨_, _, _, rfl, hb, h3, h4⟩
end U
end Go.Proofs.YtdbbmclobmigdaaGreat
