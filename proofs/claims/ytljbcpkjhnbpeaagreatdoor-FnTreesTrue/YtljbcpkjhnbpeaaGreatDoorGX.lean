/- Joined: what the texts behind it need. -/
import Derived.Test.YtljbcpkjhnbpeaaGreatDoorSlN
import Derived.Deep.Trees
import Derived.Test.YtljbcpkjhnbpeaaGreatDoorSl1
import Derived.Test.YtljbcpkjhnbpeaaGreatDoorQuiet
import Derived.Handy
import Derived.Lib.Walk
import Derived.Lib.BitFns
import Derived.Test.YtljbcpkjhnbpeaaGreatDoorSl2
import Derived.Test.YtljbcpkjhnbpeaaGreatDoorOp2
import Derived.Test.YtljbcpkjhnbpeaaGreatDoorCw2
import Derived.Test.YtljbcpkjhnbpeaaGreatDoorClash2
import Derived.Test.YtljbcpkjhnbpeaaGreatDoorSl4
import Derived.Test.YtljbcpkjhnbpeaaGreatDoorSl11
/- The new tree, by mathematics alone: the fork bit of slots, both sides of it, the tree, its pieces and sums, its forks, and where a key is led. -/
namespace Go.Proofs.YtljbcpkjhnbpeaaGreatDoor
namespace U
/-- Bit number b of a number. -/
def bitN (k : Int) (b : Nat) : Int := k / (2 ^ b : Nat) % 2
theorem bitN_bd (k : Int) (b : Nat) : bitN k b = 0 ∨ bitN k b = 1 := by unfold bitN; omega
/-- The slots that have a bit. -/
def sd (l : Prl) (b : Nat) (s : Int) : Prl := l.filter fun p => decide (bitN p.1 b = s)
theorem sd_mem {l : Prl} {b : Nat} {s : Int} {p : Int × Int} : p ∈ sd l b s ↔ p ∈ l ∧ bitN p.1 b = s := by
  unfold sd; rw [List.mem_filter, decide_eq_true_iff]
theorem sd_ris {l : Prl} (h : Ris l) (b : Nat) (s : Int) : Ris (sd l b s) := List.Pairwise.filter _ h
theorem sd_len (l : Prl) (b : Nat) (s : Int) : (sd l b s).length ≤ l.length := List.length_filter_le _ _
theorem sd_lt {l : Prl} {b : Nat} {s : Int} {p : Int × Int} (hp : p ∈ l) (h : bitN p.1 b ≠ s) : (sd l b s).length < l.length := by
  unfold sd
  rw [List.length_filter_lt_length_iff_exists]
  exact ⟨p, hp, by simpa using h⟩
theorem sd_sls {l : Prl} (h : Sls l) (b : Nat) (s : Int) : Sls (sd l b s) :=
  ⟨Nat.le_trans (sd_len l b s) h.len, sd_ris h.ris b s, fun p hp => h.fin p (sd_mem.1 hp).1⟩
/-- The number of the highest bit in which not all are the same. -/
structure FB (l : Prl) (b : Nat) : Prop where
  le : b ≤ 7
  top : ∀ p ∈ l, p.1 / (2 ^ (b + 1) : Nat) = (pAt l 0).1 / (2 ^ (b + 1) : Nat)
  lo : bitN (pAt l 0).1 b = 0
  hi : bitN (pAt l (l.length - 1)).1 b = 1
theorem ris_first {l : Prl} (h : Ris l) {p : Int × Int} (hp : p ∈ l) : (pAt l 0).1 ≤ p.1 := by
  obtain ⟨i, hi, rfl⟩ := List.getElem_of_mem hp
  rw [← pAt_eq hi]
  rcases Nat.eq_zero_or_pos i with rfl | h0
  · exact Int.le_refl _
  · exact Int.le_of_lt (ris_at h h0 hi)
theorem ris_last {l : Prl} (h : Ris l) {p : Int × Int} (hp : p ∈ l) : p.1 ≤ (pAt l (l.length - 1)).1 := by
  obtain ⟨i, hi, rfl⟩ := List.getElem_of_mem hp
  rw [← pAt_eq hi]
  by_cases e : i = l.length - 1
  · rw [← e]; exact Int.le_refl _
  · exact Int.le_of_lt (ris_at h (by omega) (by omega))
theorem pAt_mem {l : Prl} {i : Nat} (h : i < l.length) : pAt l i ∈ l := by rw [pAt_eq h]; exact List.getElem_mem _
theorem ediv_le {x y : Int} (h : x ≤ y) (n : Nat) : x / (2 ^ n : Nat) ≤ y / (2 ^ n : Nat) := Int.ediv_le_ediv (pow_pos n) h
theorem fb_aux {x y : Int} (h : x < y) : ∀ n : Nat, x / (2 ^ n : Nat) = y / (2 ^ n : Nat) → ∃ b, b < n ∧ x / (2 ^ (b + 1) : Nat) = y / (2 ^ (b + 1) : Nat) ∧ x / (2 ^ b : Nat) ≠ y / (2 ^ b : Nat) := by
  intro n
  induction n with
  | zero => intro h1; simp at h1; omega
  | succ n ih =>
    intro h1
    by_cases e : x / (2 ^ n : Nat) = y / (2 ^ n : Nat)
    · obtain ⟨b, h2, h3⟩ := ih e
      exact ⟨b, by omega, h3⟩
    · exact ⟨n, by omega, h1, e⟩
theorem fb_of {l : Prl} {b : Nat} (h : Ris l) (hb : b ≤ 7) (h2 : 2 ≤ l.length) (e1 : (pAt l 0).1 / (2 ^ (b + 1) : Nat) = (pAt l (l.length - 1)).1 / (2 ^ (b + 1) : Nat)) (e2 : (pAt l 0).1 / (2 ^ b : Nat) ≠ (pAt l (l.length - 1)).1 / (2 ^ b : Nat)) : FB l b := by
  have h3 := ediv_le (Int.le_of_lt (ris_at h (show 0 < l.length - 1 by omega) (by omega))) b
  have e3 := e1
  rw [div_succ, div_succ] at e3
  refine ⟨hb, fun p hp => ?_, ?_, ?_⟩
  · have h4 := ediv_le (ris_first h hp) (b + 1)
    have h5 := ediv_le (ris_last h hp) (b + 1)
    omega
  · unfold bitN; omega
  · unfold bitN; omega
theorem fb_ex {l : Prl} (h : Sls l) (h2 : 2 ≤ l.length) : ∃ b, FB l b := by
  have h3 := ris_at h.ris (show 0 < l.length - 1 by omega) (by omega)
  have h4 := (h.at (show 0 < l.length by omega)).1
  have h5 := (h.at (show l.length - 1 < l.length by omega)).1
  have h6 : (pAt l 0).1 / (2 ^ 8 : Nat) = (pAt l (l.length - 1)).1 / (2 ^ 8 : Nat) := by
    show _ / 256 = _ / 256
    omega
  obtain ⟨b, hb, e1, e2⟩ := fb_aux h3 8 h6
  exact ⟨b, fb_of h.ris (by omega) h2 e1 e2⟩
theorem fb_mid {l : Prl} {b : Nat} (h : FB l b) (h0 : 0 < l.length) {p : Int × Int} (hp : p ∈ l) : p.1 / (2 ^ b : Nat) = (pAt l (l.length - 1)).1 / (2 ^ b : Nat) - 1 + bitN p.1 b := by
  have h1 := h.top p hp
  have h2 := h.top _ (pAt_mem (show l.length - 1 < l.length by omega))
  have h3 := h.hi
  rw [div_succ, div_succ] at h1 h2
  unfold bitN at *
  omega
theorem fb_uniq {l : Prl} {b c : Nat} (h : FB l b) (h' : FB l c) (h0 : 0 < l.length) : b = c := by
  have key : ∀ {b c : Nat}, FB l b → FB l c → ¬ b < c := by
    intro b c h h' hlt
    have h1 := h.top _ (pAt_mem (show l.length - 1 < l.length by omega))
    have h2 := h'.lo
    have h3 := h'.hi
    unfold bitN at h2 h3
    obtain ⟨d, rfl⟩ : ∃ d, c = (b + 1) + d := ⟨c - (b + 1), by omega⟩
    rw [Nat.pow_add, Int.natCast_mul, ← Int.ediv_ediv_of_nonneg (Int.natCast_nonneg _)] at h2 h3
    rw [h1] at h3
    omega
  have h1 := key h h'
  have h2 := key h' h
  omega
/-- Where those begin that have a 1. -/
def ones (l : Prl) (b : Nat) : Int := (pAt l (l.length - 1)).1 / (2 ^ b : Nat) * (2 ^ b : Nat)
theorem ones_iff {l : Prl} {b : Nat} (h : FB l b) (h0 : 0 < l.length) {p : Int × Int} (hp : p ∈ l) : p.1 < ones l b ↔ bitN p.1 b = 0 := by
  unfold ones
  rw [← Int.ediv_lt_iff_lt_mul (pow_pos b)]
  have h1 := fb_mid h h0 hp
  have h2 := bitN_bd p.1 b
  omega
theorem sd_zero {l : Prl} {b : Nat} (hr : Ris l) (h : FB l b) (h0 : 0 < l.length) : sd l b 0 = l.take (low l (ones l b)) := by
  rw [← low_take hr]
  unfold sd
  apply List.filter_congr
  intro p hp
  rw [decide_eq_decide]
  exact (ones_iff h h0 hp).symm
theorem sd_one {l : Prl} {b : Nat} (hr : Ris l) (h : FB l b) (h0 : 0 < l.length) : sd l b 1 = l.drop (low l (ones l b)) := by
  rw [← low_drop hr]
  unfold sd
  apply List.filter_congr
  intro p hp
  rw [decide_eq_decide]
  have h1 := ones_iff h h0 hp
  have h2 := bitN_bd p.1 b
  omega
theorem fb_left {l : Prl} {b : Nat} (h : FB l b) (h0 : 0 < l.length) : pAt l 0 ∈ sd l b 0 := sd_mem.2 ⟨pAt_mem h0, h.lo⟩
theorem fb_right {l : Prl} {b : Nat} (h : FB l b) (h0 : 0 < l.length) : pAt l (l.length - 1) ∈ sd l b 1 := sd_mem.2 ⟨pAt_mem (by omega), h.hi⟩
theorem fb_less {l : Prl} {b : Nat} {s : Int} (h : FB l b) (h0 : 0 < l.length) (hs : s = 0 ∨ s = 1) : (sd l b s).length < l.length := by
  rcases hs with rfl | rfl
  · exact sd_lt (pAt_mem (show l.length - 1 < l.length by omega)) (by rw [h.hi]; decide)
  · exact sd_lt (pAt_mem h0) (by rw [h.lo]; decide)
theorem fb_some {l : Prl} {b : Nat} {s : Int} (h : FB l b) (h0 : 0 < l.length) (hs : s = 0 ∨ s = 1) : 0 < (sd l b s).length := by
  rcases hs with rfl | rfl
  · exact List.length_pos_of_mem (fb_left h h0)
  · exact List.length_pos_of_mem (fb_right h h0)
theorem sd_both (l : Prl) (b : Nat) : (sd l b 0).length + (sd l b 1).length = l.length := by
  induction l with
  | nil => rfl
  | cons p t ih =>
    unfold sd at *
    rcases bitN_bd p.1 b with e | e
    · rw [List.filter_cons_of_pos (by simp [e]), List.filter_cons_of_neg (by simp [e]), List.length_cons, List.length_cons]; omega
    · rw [List.filter_cons_of_neg (by simp [e]), List.filter_cons_of_pos (by simp [e]), List.length_cons, List.length_cons]; omega
/-- Trees of the library's, with a key and a value at a leaf and a number at a fork. -/
abbrev Bt := Go.Deep.BT (Option (Int × Int))
/-- A tree that is nothing, a leaf with nothing below, or a fork of two such trees. -/
def shp : Bt → Prop
  | .nil => True
  | .node b o (some _) l r => b = 0 ∧ o = 0 ∧ l = .nil ∧ r = .nil
  | .node _ o none l r => o = 0 ∧ shp l ∧ shp r
/-- The new tree. -/
structure Tr where
  t : Bt
  h : shp t
def Tr.none : Tr := ⟨.nil, trivial⟩
def Tr.leaf (k v : Int) : Tr := ⟨.node 0 0 (some (k, v)) .nil .nil, rfl, rfl, rfl, rfl⟩
def Tr.fork (b : Nat) (l r : Tr) : Tr := ⟨.node b 0 Option.none l.t r.t, rfl, l.h, r.h⟩
/-- Recursion on the new tree. -/
def foB {α : Type} (n : α) (lf : Int → Int → α) (fk : Nat → Tr → Tr → α → α → α) : (t : Bt) → shp t → α
  | .nil, _ => n
  | .node _ _ (some p) _ _, _ => lf p.1 p.2
  | .node b _ none l r, h => fk b ⟨l, h.2.1⟩ ⟨r, h.2.2⟩ (foB n lf fk l h.2.1) (foB n lf fk r h.2.2)
def Tr.fo {α : Type} (n : α) (lf : Int → Int → α) (fk : Nat → Tr → Tr → α → α → α) (t : Tr) : α := foB n lf fk t.t t.h
theorem ind_aux {motive : Tr → Prop} (none : motive Tr.none) (leaf : ∀ k v, motive (Tr.leaf k v)) (fork : ∀ b l r, motive l → motive r → motive (Tr.fork b l r)) : ∀ (t : Bt) (h : shp t), motive ⟨t, h⟩
  | .nil, _ => none
  | .node b o (some (k, v)) l r, h => by
    obtain ⟨rfl, rfl, rfl, rfl⟩ := h
    exact leaf k v
  | .node b o Option.none l r, h => by
    obtain ⟨rfl, h1, h2⟩ := h
    exact fork b ⟨l, h1⟩ ⟨r, h2⟩ (ind_aux none leaf fork l h1) (ind_aux none leaf fork r h2)
/-- Induction on the new tree. -/
theorem Tr.ind {motive : Tr → Prop} (none : motive Tr.none) (leaf : ∀ k v, motive (Tr.leaf k v)) (fork : ∀ b l r, motive l → motive r → motive (Tr.fork b l r)) (t : Tr) : motive t := ind_aux none leaf fork t.t t.h
theorem Tr.cs {motive : Tr → Prop} (none : motive Tr.none) (leaf : ∀ k v, motive (Tr.leaf k v)) (fork : ∀ b l r, motive (Tr.fork b l r)) (t : Tr) : motive t := Tr.ind none leaf (fun b l r _ _ => fork b l r) t
theorem Tr.three (t : Tr) : t = Tr.none ∨ (∃ k v, t = Tr.leaf k v) ∨ ∃ b l r, t = Tr.fork b l r := by
  induction t using Tr.cs with
  | none => exact Or.inl rfl
  | leaf k v => exact Or.inr (Or.inl ⟨k, v, rfl⟩)
  | fork b l r => exact Or.inr (Or.inr ⟨b, l, r, rfl⟩)
/-- The new tree of slots. -/
def isB : Bt → Prl → Prop
  | .nil, l => l = []
  | .node _ _ (some p) _ _, l => l = [p]
  | .node b _ none L R, l => 2 ≤ l.length ∧ FB l b ∧ isB L (sd l b 0) ∧ isB R (sd l b 1)
/-- The new tree of slots. -/
structure IsTr (l : Prl) (t : Tr) : Prop where
  b : isB t.t l
theorem IsTr.none : IsTr [] Tr.none := ⟨rfl⟩
theorem IsTr.leaf (k v : Int) : IsTr [(k, v)] (Tr.leaf k v) := ⟨rfl⟩
theorem IsTr.fork {l : Prl} {b : Nat} {L R : Tr} (h2 : 2 ≤ l.length) (hb : FB l b) (h3 : IsTr (sd l b 0) L) (h4 : IsTr (sd l b 1) R) : IsTr l (Tr.fork b L R) := ⟨⟨h2, hb, h3.b, h4.b⟩⟩
theorem IsTr.ind {motive : (l : Prl) → (t : Tr) → IsTr l t → Prop} (none : motive [] Tr.none IsTr.none) (leaf : ∀ k v, motive [(k, v)] (Tr.leaf k v) (IsTr.leaf k v))
    (fork : ∀ {l : Prl} {b : Nat} {L R : Tr} (h2 : 2 ≤ l.length) (hb : FB l b) (h3 : IsTr (sd l b 0) L) (h4 : IsTr (sd l b 1) R), motive (sd l b 0) L h3 → motive (sd l b 1) R h4 → motive l (Tr.fork b L R) (IsTr.fork h2 hb h3 h4)) {l : Prl} {t : Tr} (h : IsTr l t) : motive l t h := by
  induction t using Tr.ind generalizing l with
  | none => obtain ⟨e⟩ := h; cases (show l = [] from e); exact none
  | leaf k v => obtain ⟨e⟩ := h; cases (show l = [(k, v)] from e); exact leaf k v
  | fork b L R ih1 ih2 =>
    obtain ⟨h2, hb, h3, h4⟩ := h
    exact fork h2 hb ⟨h3⟩ ⟨h4⟩ (ih1 ⟨h3⟩) (ih2 ⟨h4⟩)
theorem IsTr.cs {motive : (l : Prl) → (t : Tr) → IsTr l t → Prop} (none : motive [] Tr.none IsTr.none) (leaf : ∀ k v, motive [(k, v)] (Tr.leaf k v) (IsTr.leaf k v))
    (fork : ∀ {l : Prl} {b : Nat} {L R : Tr} (h2 : 2 ≤ l.length) (hb : FB l b) (h3 : IsTr (sd l b 0) L) (h4 : IsTr (sd l b 1) R), motive l (Tr.fork b L R) (IsTr.fork h2 hb h3 h4)) {l : Prl} {t : Tr} (h : IsTr l t) : motive l t h :=
  IsTr.ind none leaf (fun h2 hb h3 h4 _ _ => fork h2 hb h3 h4) h
theorem isTr_ex : ∀ (n : Nat) (l : Prl), l.length ≤ n → Sls l → ∃ t, IsTr l t := by
  intro n
  induction n with
  | zero =>
    intro l h _
    rw [List.eq_nil_of_length_eq_zero (Nat.le_zero.1 h)]
    exact ⟨_, IsTr.none⟩
  | succ n ih =>
    intro l h hs
    match l, h, hs with
    | [], _, _ => exact ⟨_, IsTr.none⟩
    | [(k, v)], _, _ => exact ⟨_, IsTr.leaf k v⟩
    | p :: q :: r, h, hs =>
      have h2 : 2 ≤ (p :: q :: r).length := by simp
      obtain ⟨b, hb⟩ := fb_ex hs h2
      have h3 := fb_less (s := 0) hb (by omega) (Or.inl rfl)
      have h4 := fb_less (s := 1) hb (by omega) (Or.inr rfl)
      obtain ⟨L, hL⟩ := ih _ (by omega) (sd_sls hs b 0)
      obtain ⟨R, hR⟩ := ih _ (by omega) (sd_sls hs b 1)
      exact ⟨_, IsTr.fork h2 hb hL hR⟩
/-- What is summed for a tree. -/
def Tr.bts (t : Tr) : List Int := t.fo (tagL 9 []) (fun k v => tagL 4 [k, v]) (fun b _ _ x y => tagL 5 [(b : Int), sumL x, sumL y])
theorem Tr.bts_none : Tr.none.bts = tagL 9 [] := rfl
theorem Tr.bts_leaf (k v : Int) : (Tr.leaf k v).bts = tagL 4 [k, v] := rfl
theorem Tr.bts_fork (b : Nat) (l r : Tr) : (Tr.fork b l r).bts = tagL 5 [(b : Int), sumL l.bts, sumL r.bts] := rfl
def Tr.sum (t : Tr) : Int := sumL t.bts
theorem Tr.sum_bd (t : Tr) : 0 ≤ t.sum ∧ t.sum ≤ 65520 := sumL_bd _
theorem Tr.len (t : Tr) : t.bts.length ≤ 7 := by
  induction t using Tr.cs with
  | none => rw [Tr.bts_none, tagL_len]; simp
  | leaf k v => rw [Tr.bts_leaf, tagL_len]; simp
  | fork b l r => rw [Tr.bts_fork, tagL_len]; simp
/-- A tree all of whose leaves and bits are in range. -/
def Tr.Ok (t : Tr) : Prop := t.fo True (fun k v => (0 ≤ k ∧ k ≤ 255) ∧ (0 ≤ v ∧ v ≤ 65520)) (fun b _ _ x y => b ≤ 7 ∧ x ∧ y)
theorem Tr.ok_leaf {k v : Int} : (Tr.leaf k v).Ok ↔ (0 ≤ k ∧ k ≤ 255) ∧ (0 ≤ v ∧ v ≤ 65520) := Iff.rfl
theorem Tr.ok_fork {b : Nat} {l r : Tr} : (Tr.fork b l r).Ok ↔ b ≤ 7 ∧ l.Ok ∧ r.Ok := Iff.rfl
theorem IsTr.ok {l : Prl} {t : Tr} (h : IsTr l t) (hs : Sls l) : t.Ok := by
  induction h using IsTr.ind with
  | none => trivial
  | leaf k v => exact fine_bd (hs.fin _ (List.mem_singleton.2 rfl))
  | fork _ hb _ _ ih1 ih2 => exact ⟨hb.le, ih1 (sd_sls hs _ _), ih2 (sd_sls hs _ _)⟩
theorem Tr.Ok.nums3 {b : Nat} (hb : b ≤ 7) (l r : Tr) : [(b : Int), l.sum, r.sum].all sumB = true := by
  have h1 := l.sum_bd
  have h2 := r.sum_bd
  simp [sumB_iff]
  omega
theorem Tr.Ok.nums2 {k v : Int} (hk : 0 ≤ k ∧ k ≤ 255) (hv : 0 ≤ v ∧ v ≤ 65520) : [k, v].all sumB = true := by
  simp [sumB_iff]
  omega
theorem Tr.Ok.bts {t : Tr} (h : t.Ok) : Bts t.bts := by
  induction t using Tr.cs with
  | none => exact tagL_bts (by omega) rfl
  | leaf k v => exact tagL_bts (by omega) (Tr.Ok.nums2 h.1 h.2)
  | fork b l r => exact tagL_bts (by omega) (Tr.Ok.nums3 h.1 l r)
/-- How many forks there are. -/
def Tr.forks (t : Tr) : Nat := t.fo 0 (fun _ _ => 0) (fun _ _ _ x y => 1 + x + y)
theorem Tr.forks_fork (b : Nat) (l r : Tr) : (Tr.fork b l r).forks = 1 + l.forks + r.forks := rfl
theorem IsTr.forks {l : Prl} {t : Tr} (h : IsTr l t) : t.forks = l.length - 1 := by
  induction h using IsTr.ind with
  | none => rfl
  | leaf k v => rfl
  | fork h2 hb h3 h4 ih1 ih2 =>
    rename_i l b L R
    have e := sd_both l b
    have e1 := fb_some (s := 0) hb (by omega) (Or.inl rfl)
    have e2 := fb_some (s := 1) hb (by omega) (Or.inr rfl)
    rw [Tr.forks_fork]
    omega
/-- Where a key is led. -/
def Tr.near (key : Int) (t : Tr) : Int × Int := t.fo (0, 0) (fun k v => (k, v)) (fun b _ _ x y => if bitN key b = 0 then x else y)
theorem Tr.near_fork (key : Int) (b : Nat) (l r : Tr) : (Tr.fork b l r).near key = if bitN key b = 0 then l.near key else r.near key := rfl
theorem IsTr.near {l : Prl} {t : Tr} (h : IsTr l t) : ∀ p ∈ l, t.near p.1 = p := by
  induction h using IsTr.ind with
  | none => intro p hp; cases hp
  | leaf k v => intro p hp; rw [List.mem_singleton] at hp; subst hp; rfl
  | fork h2 hb h3 h4 ih1 ih2 =>
    intro p hp
    rw [Tr.near_fork]
    split
    · rename_i e; exact ih1 p (sd_mem.2 ⟨hp, e⟩)
    · rename_i l b L R e
      have e2 := bitN_bd p.1 b
      exact ih2 p (sd_mem.2 ⟨hp, by omega⟩)
theorem IsTr.led {l : Prl} {t : Tr} (h : IsTr l t) (key : Int) (h0 : 0 < l.length) : t.near key ∈ l := by
  induction h using IsTr.ind with
  | none => simp at h0
  | leaf k v => exact List.mem_singleton.2 rfl
  | fork h2 hb h3 h4 ih1 ih2 =>
    rw [Tr.near_fork]
    split
    · exact (sd_mem.1 (ih1 (fb_some hb h0 (Or.inl rfl)))).1
    · exact (sd_mem.1 (ih2 (fb_some hb h0 (Or.inr rfl)))).1
/-- The forks at which a key is led on, from the last one on: the bit, and the sum of the other side. -/
def Tr.way (key : Int) (t : Tr) : Prl := t.fo [] (fun _ _ => []) (fun b l r x y => if bitN key b = 0 then x ++ [((b : Int), r.sum)] else y ++ [((b : Int), l.sum)])
theorem Tr.way_none (key : Int) : Tr.none.way key = [] := rfl
theorem Tr.way_leaf (key k v : Int) : (Tr.leaf k v).way key = [] := rfl
theorem Tr.way_fork (key : Int) (b : Nat) (l r : Tr) : (Tr.fork b l r).way key = if bitN key b = 0 then l.way key ++ [((b : Int), r.sum)] else r.way key ++ [((b : Int), l.sum)] := rfl
theorem Tr.way_len (key : Int) (t : Tr) : (t.way key).length ≤ t.forks := by
  induction t using Tr.ind with
  | none => simp [Tr.way_none]
  | leaf k v => simp [Tr.way_leaf]
  | fork b l r ih1 ih2 =>
    rw [Tr.way_fork, Tr.forks_fork]
    split <;> simp <;> omega
theorem IsTr.isNone {l : Prl} {t : Tr} (h : IsTr l t) (h0 : l.length = 0) : t = .none := by
  induction h using IsTr.cs with
  | none => rfl
  | leaf k v => simp at h0
  | fork h2 => omega
theorem IsTr.isLeaf {l : Prl} {t : Tr} (h : IsTr l t) (h0 : l.length = 1) : t = .leaf (pAt l 0).1 (pAt l 0).2 := by
  induction h using IsTr.cs with
  | none => simp at h0
  | leaf k v => rfl
  | fork h2 => omega
theorem IsTr.isFork {l : Prl} {t : Tr} (h : IsTr l t) (h0 : 2 ≤ l.length) : ∃ b L R, t = .fork b L R ∧ FB l b ∧ IsTr (sd l b 0) L ∧ IsTr (sd l b 1) R := by
  induction h using IsTr.cs with
  | none => simp at h0
  | leaf k v => simp at h0
  | fork h2 hb h3 h4 => exact ⟨_, _, _, rfl, hb, h3, h4⟩
end U
end Go.Proofs.YtljbcpkjhnbpeaaGreatDoor

/- The new tree as the program holds it: its values, what assertions tell of them, bits, and the fork bit. -/
namespace Go.Proofs.YtljbcpkjhnbpeaaGreatDoor
open Go.RowKit
namespace U
def Tr.val (t : Tr) : Value := t.fo (.iface 171 (.agg #[])) (fun k v => .iface 173 (.agg #[.int .i64 k, .int .i64 v])) (fun b _ _ x y => .iface 168 (.agg #[.int .i64 (b : Int), x, y]))
theorem Tr.val_none : Tr.none.val = .iface 171 (.agg #[]) := rfl
theorem Tr.val_leaf (k v : Int) : (Tr.leaf k v).val = .iface 173 (.agg #[.int .i64 k, .int .i64 v]) := rfl
theorem Tr.val_fork (b : Nat) (l r : Tr) : (Tr.fork b l r).val = .iface 168 (.agg #[.int .i64 (b : Int), l.val, r.val]) := rfl
theorem Tr.isIface (t : Tr) : ∃ k x, t.val = .iface k x := by
  induction t using Tr.cs <;> exact ⟨_, _, rfl⟩
theorem three_cellsT {w : World} {g : Nat} {x y z : Value} {t : TypeId} (h : w.heap[g]? = some (.cells #[x, y, z] t)) : w.cell? ⟨g, 0, none⟩ = some x ∧ w.cell? ⟨g, 1, none⟩ = some y ∧ w.cell? ⟨g, 2, none⟩ = some z := by
  refine ⟨?_, ?_, ?_⟩
  · unfold World.cell?; rw [h]; rfl
  · unfold World.cell?; rw [h]; rfl
  · unfold World.cell?; rw [h]; rfl
theorem as_fork (x : Value) (w : World) : (Instr.typeAssert (.iface 168 x) 107 168 true).run Tryz.prog w = .ok (.tuple #[x, .bool true]) w := by kernel_rfl
theorem as_fork_leaf (x : Value) (w : World) : (Instr.typeAssert (.iface 173 x) 107 168 true).run Tryz.prog w = .ok (.tuple #[.agg #[.int .i64 0, .nilIface, .nilIface], .bool false]) w := by kernel_rfl
theorem as_fork_none (x : Value) (w : World) : (Instr.typeAssert (.iface 171 x) 107 168 true).run Tryz.prog w = .ok (.tuple #[.agg #[.int .i64 0, .nilIface, .nilIface], .bool false]) w := by kernel_rfl
theorem as_leaf (x : Value) (w : World) : (Instr.typeAssert (.iface 173 x) 107 173 true).run Tryz.prog w = .ok (.tuple #[x, .bool true]) w := by kernel_rfl
theorem as_leaf_none (x : Value) (w : World) : (Instr.typeAssert (.iface 171 x) 107 173 true).run Tryz.prog w = .ok (.tuple #[.agg #[.int .i64 0, .int .i64 0], .bool false]) w := by kernel_rfl
theorem as_leaf_fork (x : Value) (w : World) : (Instr.typeAssert (.iface 168 x) 107 173 true).run Tryz.prog w = .ok (.tuple #[.agg #[.int .i64 0, .int .i64 0], .bool false]) w := by kernel_rfl
theorem and_all : ∀ q : Fin 256, bits BinOp.and IntKind.i64 ((q.1 : Nat) : Int) 1 = ((q.1 : Nat) : Int) % 2 := by decide +kernel
theorem and_one {q : Int} (h0 : 0 ≤ q) (h1 : q ≤ 255) : bits BinOp.and IntKind.i64 q 1 = q % 2 := by
  have := and_all ⟨q.toNat, by omega⟩
  have e : ((q.toNat : Nat) : Int) = q := by omega
  simp only [e] at this
  exact this
set_option maxRecDepth 100000 in
theorem bitOf_any (k : Int) (b : Nat) (w : World) (hb : b ≤ 7) (hk : 0 ≤ k ∧ k ≤ 255) : Calls Tryz.prog 155 #[.int .i64 k, .int .i64 (b : Int)] w fun e w' => e = .returned (.int .i64 (bitN k b)) ∧ w' = w := by
  unfold bitN
  rcases (show b = 0 ∨ b = 1 ∨ b = 2 ∨ b = 3 ∨ b = 4 ∨ b = 5 ∨ b = 6 ∨ b = 7 by omega) with rfl | rfl | rfl | rfl | rfl | rfl | rfl | rfl
  all_goals
    go_enter Tryz.func155, Tryz.ntmps155
    go_wp2
    go_ret
    refine ⟨ret_int ?_, rfl⟩
    rw [and_one (by omega) (by omega)]
    simp only [Nat.reducePow]
    omega
set_option maxRecDepth 100000 in
theorem l6Bit_any (k : Int) (b : Nat) (w : World) (hb : b ≤ 7) (hk : 0 ≤ k ∧ k ≤ 255) : Calls Tryz.prog 114 #[.int .i64 k, .int .i64 (b : Int)] w fun e w' => e = .returned (.int .i64 (bitN k b)) ∧ w' = w := by
  unfold bitN
  rcases (show b = 0 ∨ b = 1 ∨ b = 2 ∨ b = 3 ∨ b = 4 ∨ b = 5 ∨ b = 6 ∨ b = 7 by omega) with rfl | rfl | rfl | rfl | rfl | rfl | rfl | rfl
  all_goals
    go_enter Tryz.func114, Tryz.ntmps114
    go_wp2
    go_ret
    refine ⟨ret_int ?_, rfl⟩
    simp only [Nat.reducePow]
    omega
theorem xor_i64 (a b : Nat) (ha : a < 256) (hb : b < 256) : bits .xor .i64 (a : Int) (b : Int) = ((a ^^^ b : Nat) : Int) := by
  have hx : a ^^^ b < 2 ^ 8 := Nat.xor_lt_two_pow (n := 8) ha hb
  have h1 : (BitVec.ofInt 64 (a : Int)).toNat = a := by
    rw [BitVec.ofInt_natCast, BitVec.toNat_ofNat]; exact Nat.mod_eq_of_lt (by omega)
  have h2 : (BitVec.ofInt 64 (b : Int)).toNat = b := by
    rw [BitVec.ofInt_natCast, BitVec.toNat_ofNat]; exact Nat.mod_eq_of_lt (by omega)
  show IntKind.i64.wrap ((BitVec.ofInt 64 (a : Int) ^^^ BitVec.ofInt 64 (b : Int)).toNat : Int) = _
  rw [BitVec.toNat_xor, h1, h2, IntKind.wrap_i64]
  omega
theorem xor_shift (a b c : Nat) : (a ^^^ b) / 2 ^ c = (a / 2 ^ c) ^^^ (b / 2 ^ c) := by
  rw [← Nat.shiftRight_eq_div_pow, ← Nat.shiftRight_eq_div_pow, ← Nat.shiftRight_eq_div_pow, Nat.shiftRight_xor_distrib]
theorem xor_zero_of {a b : Nat} (h : a ^^^ b = 0) : a = b := by
  have : a ^^^ b ^^^ b = b := by rw [h]; simp
  rw [Nat.xor_assoc, Nat.xor_self, Nat.xor_zero] at this
  exact this
/-- What two numbers have apart lies between two powers. -/
theorem xor_log {a b c : Nat} (h1 : a / 2 ^ (c + 1) = b / 2 ^ (c + 1)) (h2 : a / 2 ^ c ≠ b / 2 ^ c) : 2 ^ c ≤ a ^^^ b ∧ a ^^^ b < 2 ^ (c + 1) := by
  have e1 : (a ^^^ b) / 2 ^ (c + 1) = 0 := by rw [xor_shift, h1, Nat.xor_self]
  have e2 : (a ^^^ b) / 2 ^ c ≠ 0 := by
    rw [xor_shift]
    exact fun h => h2 (xor_zero_of h)
  have p1 := Nat.two_pow_pos (c + 1)
  have p2 := Nat.two_pow_pos c
  constructor
  · rcases Nat.lt_or_ge (a ^^^ b) (2 ^ c) with h | h
    · exact absurd (Nat.div_eq_of_lt h) e2
    · exact h
  · rcases Nat.lt_or_ge (a ^^^ b) (2 ^ (c + 1)) with h | h
    · exact h
    · have := Nat.div_pos h p1
      omega
set_option maxRecDepth 100000 in
set_option maxHeartbeats 4000000 in
theorem len64_any (x : Int) (w : World) (h0 : 0 ≤ x) (h1 : x ≤ 255) : Calls Tryz.prog 170 #[.int .u64 x] w fun e w' => e = .returned (.int .i64 (Lib.bitLen x.toNat)) ∧ w' = w := by
  have g1 : ¬ x ≥ 4294967296 := by omega
  have g2 : ¬ x ≥ 65536 := by omega
  have g3 : ¬ x ≥ 256 := by omega
  go_enter Tryz.func170, Tryz.ntmps170
  go_wp2
  go_ret
  refine ⟨ret_int ?_, rfl⟩
  rw [Lib.len8_of x h0 h1]
  have l := Lib.bitLen_le8' x h0 h1
  simp only [wrap64]
  omega
theorem bitLen_at {x c : Nat} (h1 : 2 ^ c ≤ x) (h2 : x < 2 ^ (c + 1)) (hx : x < 256) : Lib.bitLen x = c + 1 := by
  rw [Lib.bitLen_shift c x h1 (by omega)]
  have e : x / 2 ^ c = 1 := by
    have p := Nat.two_pow_pos c
    rw [Nat.pow_succ] at h2
    have h3 : 1 ≤ x / 2 ^ c := (Nat.le_div_iff_mul_le p).2 (by omega)
    have h4 : x / 2 ^ c < 2 := (Nat.div_lt_iff_lt_mul p).2 (by omega)
    omega
  rw [e]
  rfl
/-- The fork bit, out of the lowest and the highest key. -/
theorem fb_bits {l : Prl} {b : Nat} (hs : Sls l) (h2 : 2 ≤ l.length) (hb : FB l b) : ∃ x : Nat, bits .xor .i64 (pAt l 0).1 (pAt l (l.length - 1)).1 = (x : Int) ∧ x < 256 ∧ Lib.bitLen x = b + 1 := by
  have h3 := (hs.at (show 0 < l.length by omega)).1
  have h4 := (hs.at (show l.length - 1 < l.length by omega)).1
  have t := hb.top _ (pAt_mem (show l.length - 1 < l.length by omega))
  have lo := hb.lo
  have hi := hb.hi
  unfold bitN at lo hi
  generalize (pAt l 0).1 = p at *
  generalize (pAt l (l.length - 1)).1 = q at *
  obtain ⟨p, rfl⟩ : ∃ n : Nat, p = n := ⟨p.toNat, by omega⟩
  obtain ⟨q, rfl⟩ : ∃ n : Nat, q = n := ⟨q.toNat, by omega⟩
  have e1 : p / 2 ^ (b + 1) = q / 2 ^ (b + 1) := by
    rw [← Int.natCast_ediv, ← Int.natCast_ediv] at t
    omega
  have e2 : p / 2 ^ b ≠ q / 2 ^ b := by
    rw [← Int.natCast_ediv] at lo hi
    intro h
    rw [h] at lo
    omega
  have hx : p ^^^ q < 2 ^ 8 := Nat.xor_lt_two_pow (n := 8) (by omega) (by omega)
  have hl := xor_log e1 e2
  exact ⟨p ^^^ q, xor_i64 p q (by omega) (by omega), hx, bitLen_at hl.1 hl.2 hx⟩
set_option maxRecDepth 100000 in
set_option maxHeartbeats 1000000 in
theorem forkBitOf_any (v : Value) (l : Prl) (b : Nat) (w : World) (hv : Prs w v l) (hs : Sls l) (h2 : 2 ≤ l.length) (hb : FB l b) :
    Calls Tryz.prog 126 #[v] w fun e w' => e = .returned (.int .i64 (b : Int)) ∧ ∃ n, w' = w.drewN n := by
  obtain ⟨a, c, rfl⟩ := hv.shape
  obtain ⟨-, bb, off, rfl, hlt, hc⟩ := hv.at (by omega)
  obtain ⟨x, hx, hx2, hx3⟩ := fb_bits hs h2 hb
  have hn := hs.len
  have hb7 := hb.le
  have c0 := (hc 0 (by omega)).1
  have c1 := (hc (l.length - 1) (by omega)).1
  have hL := fun w => len64_any (x : Int) w (by omega) (by omega)
  rw [Int.toNat_natCast, hx3] at hL
  simp only [Nat.zero_mul, Nat.add_zero] at c0
  generalize (pAt l 0).1 = p at *
  generalize (pAt l (l.length - 1)).1 = q at *
  clear hv hs hb hc hx3
  generalize l.length = n at *
  obtain ⟨m, rfl⟩ : ∃ m, n = m + 1 := ⟨n - 1, by omega⟩
  have hm1 : 1 ≤ m := by omega
  have hm2 : m ≤ 11 := by omega
  rw [Nat.add_sub_cancel] at c1
  clear h2 hn
  go_enter Tryz.func126, Tryz.ntmps126
  go_wp2
  go_quiet (fail)
  go_wp2_with fail
  refine (hL _).mono ?_
  rintro e w1 ⟨rfl, rfl⟩
  clear hL
  go_wp2
  go_ret
  exact ⟨ret_int (by go_arith), _, rfl⟩
end U
end Go.Proofs.YtljbcpkjhnbpeaaGreatDoor

/- What is summed for a node of the new tree, and its sum, as the program makes them. -/
namespace Go.Proofs.YtljbcpkjhnbpeaaGreatDoor
open Go.RowKit
namespace U
/-- Which method tells the piece of a node, and of what. -/
def pcF (t : Tr) : Nat := t.fo 144 (fun _ _ => 145) (fun _ _ _ _ _ => 210)
def pcV (t : Tr) : Value := t.fo (.agg #[]) (fun k v => .agg #[.int .i64 k, .int .i64 v]) (fun b l r _ _ => .agg #[.int .i64 (b : Int), l.val, r.val])
theorem pcF_none : pcF Tr.none = 144 := rfl
theorem pcF_leaf (k v : Int) : pcF (Tr.leaf k v) = 145 := rfl
theorem pcF_fork (b : Nat) (l r : Tr) : pcF (Tr.fork b l r) = 210 := rfl
theorem pcV_none : pcV Tr.none = .agg #[] := rfl
theorem pcV_leaf (k v : Int) : pcV (Tr.leaf k v) = .agg #[.int .i64 k, .int .i64 v] := rfl
theorem pcV_fork (b : Nat) (l r : Tr) : pcV (Tr.fork b l r) = .agg #[.int .i64 (b : Int), l.val, r.val] := rfl
structure PcAt (t : Tr) : Prop where
  c : ∀ w, Calls Tryz.prog (pcF t) #[pcV t] w fun e w' => ∃ v', e = .returned v' ∧ w'.ownsRow w.heap.size 5 1 v' t.bts.length (t.bts.map (Value.int .u8)) ∧ Below w.heap.size w w'
theorem Tr.sumOf {t : Tr} (h : t.Ok) (u : Value) (w : World) (hu : Ints .u8 w u t.bts) : Calls Tryz.prog 98 #[u] w fun e w' => e = .returned (.agg #[.int .i64 0, .int .i64 t.sum]) ∧ Below w.heap.size w w' := by
  have h1 := implSumOf_any u t.bts w hu h.bts (by have := t.len; omega)
  have h2 := sm_ok (bs := t.bts) (by have := t.len; omega)
  rw [h2.1, h2.2] at h1
  exact h1
set_option maxRecDepth 100000 in
set_option maxHeartbeats 1000000 in
theorem trieSum_of {t : Tr} (h : t.Ok) (hp : PcAt t) (w : World) : Calls Tryz.prog 99 #[t.val] w fun e w' => e = .returned (.int .i64 t.sum) ∧ Below w.heap.size w w' := by
  have hP := hp.c
  have hS := fun u w hu => Tr.sumOf h u w hu
  have hf := field_IR1
  rcases t.three with rfl | ⟨k, v, rfl⟩ | ⟨b, l, r, rfl⟩
  all_goals
    simp only [pcF_none, pcF_leaf, pcF_fork, pcV_none, pcV_leaf, pcV_fork, Tr.val_none, Tr.val_leaf, Tr.val_fork] at hP ⊢
    generalize Tr.sum _ = s at *
    generalize Tr.bts _ = ys at *
    clear hp h
    try generalize Tr.val _ = vl at *
    try generalize Tr.val _ = vr at *
    go_enter Tryz.func99, Tryz.ntmps99
    go_wp2_with fail
    refine (hP _).mono ?_
    rintro e w1 ⟨u, rfl, own1, hb1⟩
    have HI := own_ints own1
    obtain ⟨a1, c1, rfl⟩ := own_shape own1
    clear hP own1
    go_wp2_with fail
    refine (hS _ _ HI).mono ?_
    rintro e w2 ⟨rfl, hb2⟩
    have hB2 := below_after_of hb1 hb2
    clear hS hb1 hb2 HI
    go_wp2
    go_ret
    exact ⟨rfl, hB2⟩
theorem three_ints (w : World) (a b c : Int) (t : TypeId) : Ints .i64 (w.alloc (.cells #[.int .i64 a, .int .i64 b, .int .i64 c] t)) (.slice (some ⟨w.heap.size, 0, none⟩) 3 3) [a, b, c] := by
  refine Or.inr ⟨w.heap.size, 0, 3, rfl, by simp, fun j hj => ?_⟩
  have hh := heap_alloc_new w (.cells #[.int .i64 a, .int .i64 b, .int .i64 c] t)
  unfold World.cell?
  rw [hh]
  rcases (show j = 0 ∨ j = 1 ∨ j = 2 by simp at hj; omega) with rfl | rfl | rfl <;> rfl
theorem tag_none : tgC 9 [] = 0 ∧ tgL 9 [] = Tr.none.bts := tg_ok rfl (by simp) rfl
theorem tag_leaf {k v : Int} (h : (Tr.leaf k v).Ok) : tgC 4 [k, v] = 0 ∧ tgL 4 [k, v] = (Tr.leaf k v).bts := tg_ok rfl (by simp) (Tr.Ok.nums2 h.1 h.2)
theorem tag_fork {b : Nat} {l r : Tr} (h : (Tr.fork b l r).Ok) : tgC 5 [(b : Int), l.sum, r.sum] = 0 ∧ tgL 5 [(b : Int), l.sum, r.sum] = (Tr.fork b l r).bts := tg_ok rfl (by simp) (Tr.Ok.nums3 h.1 l r)
set_option maxRecDepth 100000 in
set_option maxHeartbeats 1000000 in
theorem piece_none : PcAt .none := by
  refine ⟨fun w => ?_⟩
  have hT := fun w => implTagBytes_any 9 (.slice none 0 0) [] w (Or.inl ⟨rfl, _, _, rfl⟩) (by simp)
  rw [tag_none.1, tag_none.2] at hT
  simp only [pcF_none, pcV_none]
  generalize Tr.bts _ = ys at *
  go_enter Tryz.func144, Tryz.ntmps144
  go_wp2_with fail
  refine (hT _).mono ?_
  intro e w2 h2
  obtain ⟨a2, c2, rfl, hb2, own2⟩ := h2.use
  have kf := fun w => field_BR1 0 a2 ys.length c2 w
  have hB2 := below_after hb2
  rw [World.size_alloc] at own2
  have own3 := own_mono own2 (show w.heap.size ≤ w.heap.size + 1 by omega)
  clear hT h2
  go_wp2
  go_ret
  exact ⟨_, rfl, own3, hB2⟩
set_option maxRecDepth 100000 in
set_option maxHeartbeats 1000000 in
theorem piece_leaf {k v : Int} (h : (Tr.leaf k v).Ok) : PcAt (.leaf k v) := by
  refine ⟨fun w => ?_⟩
  have hT := fun u w hu => implTagBytes_any 4 u [k, v] w hu (by simp)
  rw [(tag_leaf h).1, (tag_leaf h).2] at hT
  simp only [pcF_leaf, pcV_leaf]
  generalize Tr.bts _ = ys at *
  clear h
  go_enter Tryz.func145, Tryz.ntmps145
  go_wp2_with fail
  refine (hT _ _ (two_ints_at (by simp))).mono ?_
  intro e w2 h2
  obtain ⟨a2, c2, rfl, hb2, own2⟩ := h2.use
  have kf := fun w => field_BR1 0 a2 ys.length c2 w
  have hB2 := below_after (below_after hb2)
  rw [World.size_alloc, World.size_alloc] at own2
  have own3 := own_mono own2 (show w.heap.size ≤ w.heap.size + 1 + 1 by omega)
  clear hT h2
  go_wp2
  go_ret
  exact ⟨_, rfl, own3, hB2⟩
/-- The sum of a node's value. -/
structure SmAt (v : Value) (s : Int) : Prop where
  c : ∀ w, Calls Tryz.prog 99 #[v] w fun e w' => e = .returned (.int .i64 s) ∧ Below w.heap.size w w'
set_option maxRecDepth 100000 in
set_option maxHeartbeats 2000000 in
theorem piece_fork {b : Nat} {l r : Tr} (h : (Tr.fork b l r).Ok) (h1 : SmAt l.val l.sum) (h2 : SmAt r.val r.sum) : PcAt (.fork b l r) := by
  refine ⟨fun w => ?_⟩
  have hT := fun u w hu => implTagBytes_any 5 u [(b : Int), l.sum, r.sum] w hu (by simp)
  rw [(tag_fork h).1, (tag_fork h).2] at hT
  simp only [pcF_fork, pcV_fork]
  generalize Tr.bts _ = ys at *
  generalize l.val = vl at *
  generalize r.val = vr at *
  generalize l.sum = x at *
  generalize r.sum = y at *
  clear h
  have A0 := three_cellsT (heap_alloc_new w (.cells #[.int .i64 (b : Int), vl, vr] 168))
  obtain ⟨W, hW⟩ : ∃ W, W = w.alloc (.cells #[.int .i64 (b : Int), vl, vr] 168) := ⟨_, rfl⟩
  have hBW : Hid (Below w.heap.size w W) := by rw [hW]; exact one_new _
  have hlt : w.heap.size < W.heap.size := by rw [hW]; simp
  rw [← hW] at A0
  have HW : Hid (w.alloc (.cells #[.int .i64 (b : Int), vl, vr] 168) = W) := hW.symm
  have HG : Hid (∀ w', Below W.heap.size W w' → w'.cell? ⟨w.heap.size, 0, none⟩ = some (.int .i64 (b : Int)) ∧ w'.cell? ⟨w.heap.size, 1, none⟩ = some vl ∧ w'.cell? ⟨w.heap.size, 2, none⟩ = some vr) := fun w' h => ⟨(h.cell (p := ⟨w.heap.size, 0, none⟩) hlt).trans A0.1, (h.cell (p := ⟨w.heap.size, 1, none⟩) hlt).trans A0.2.1, (h.cell (p := ⟨w.heap.size, 2, none⟩) hlt).trans A0.2.2⟩
  obtain ⟨c0, c1, c2⟩ := A0
  have hbr := Below.refl W.heap.size W
  clear hW
  go_enter Tryz.func210, Tryz.ntmps210
  go_wp2
  rw [HW.out]
  go_region_held3 (fun w' => w'.cell? ⟨w.heap.size, 0, none⟩ = some (.int .i64 (b : Int)) ∧ w'.cell? ⟨w.heap.size, 1, none⟩ = some vl ∧ w'.cell? ⟨w.heap.size, 2, none⟩ = some vr)
    (first | exact ⟨c0, c1, c2⟩ | exact HG.out _ hbr | exact HG.out _ (hbr.alloc hbr.size _))
    (first
      | (go_at_call 99; refine (SmAt.c (by assumption) _).mono ?_; rintro e wq ⟨rfl, hbq⟩; have hbr : Below W.heap.size W wq := (by first | exact below_after_of hbr hbq | exact below_after_of hbr.drew hbq))
      | (go_at_call 175; refine (hT _ _ (three_ints _ _ _ _ _)).mono ?_; intro e wt ht; obtain ⟨at', ct', rfl, hbt, own2⟩ := ht.use; rw [World.size_alloc] at own2; have own3 := own_mono own2 (Nat.le_succ_of_le (Nat.le_trans (Nat.le_of_lt hlt) hbr.size)); have hbr : Below W.heap.size W wt := below_after_of (hbr.alloc hbr.size _) hbt; have kf := fun w => field_BR1 0 at' ys.length ct' w))
  have hB3 := below_after_of hBW.out hbr
  go_wp2
  go_ret
  exact ⟨_, rfl, own3, hB3⟩
theorem piece_any (t : Tr) : t.Ok → PcAt t := by
  induction t using Tr.ind with
  | none => exact fun _ => piece_none
  | leaf k v => exact fun h => piece_leaf h
  | fork b l r ih1 ih2 => exact fun h => piece_fork h ⟨fun w => trieSum_of h.2.1 (ih1 h.2.1) w⟩ ⟨fun w => trieSum_of h.2.2 (ih2 h.2.2) w⟩
theorem trieSum_any {t : Tr} (h : t.Ok) : SmAt t.val t.sum := ⟨fun w => trieSum_of h (piece_any t h) w⟩
end U
end Go.Proofs.YtljbcpkjhnbpeaaGreatDoor

/- The walk down two new trees, as the program goes. -/
namespace Go.Proofs.YtljbcpkjhnbpeaaGreatDoor
open Go.RowKit
namespace U
/-- A method that tells a piece. -/
structure PcOf (f : Nat) (v : Value) (ys : List Int) : Prop where
  c : ∀ w, Calls Tryz.prog f #[v] w fun e w' => ∃ v', e = .returned v' ∧ w'.ownsRow w.heap.size 5 1 v' ys.length (ys.map (Value.int .u8)) ∧ Below w.heap.size w w'
theorem mt_n (x : Value) (w : World) : (Go.method 398 171 x "loop.example/g00602/impl.piece").run Tryz.prog w = .ok (144, x) w := by kernel_rfl
theorem mt_l (x : Value) (w : World) : (Go.method 398 173 x "loop.example/g00602/impl.piece").run Tryz.prog w = .ok (145, x) w := by kernel_rfl
theorem mt_f (x : Value) (w : World) : (Go.method 398 168 x "loop.example/g00602/impl.piece").run Tryz.prog w = .ok (210, x) w := by kernel_rfl
/-- Two boxes that hold two values. -/
structure TwoB (w : World) (p q : Nat) (x y : Value) : Prop where
  a : w.cell? ⟨p, 0, none⟩ = some x
  b : w.cell? ⟨q, 0, none⟩ = some y
  p : p < w.heap.size
  q : q < w.heap.size
theorem TwoB.below {w w' : World} {p q : Nat} {x y : Value} (h : TwoB w p q x y) (hb : Below w.heap.size w w') : TwoB w' p q x y :=
  ⟨(hb.cell (p := ⟨p, 0, none⟩) h.p).trans h.a, (hb.cell (p := ⟨q, 0, none⟩) h.q).trans h.b, Nat.lt_of_lt_of_le h.p hb.size, Nat.lt_of_lt_of_le h.q hb.size⟩
theorem two_boxes (w : World) (x y : Value) (t t' : TypeId) : TwoB ((w.alloc (.cells #[x] t)).alloc (.cells #[y] t')) w.heap.size (w.heap.size + 1) x y := by
  have h1 := heap_alloc_new (w.alloc (.cells #[x] t)) (.cells #[y] t')
  rw [World.size_alloc] at h1
  have h0 := ((one_new (w := w.alloc (.cells #[x] t)) (.cells #[y] t')).block w.heap.size (by simp)).trans (heap_alloc_new w (.cells #[x] t))
  refine ⟨by unfold World.cell?; rw [h0]; rfl, by unfold World.cell?; rw [h1]; rfl, by simp; omega, by simp⟩
set_option maxRecDepth 100000 in
theorem newTreesWalk_any (t u : TypeId) (x y : Value) (w : World) : Calls Tryz.prog 70 #[.iface t x, .iface u y] w fun e w' => e = .returned (.func (.func 125) #[] #[.pointer (some ⟨w.heap.size, 0, none⟩), .pointer (some ⟨w.heap.size + 1, 0, none⟩)]) ∧ w' = (w.alloc (.cells #[.iface t x] 107)).alloc (.cells #[.iface u y] 107) := by
  go_enter Tryz.func70, Tryz.ntmps70
  go_wp2
  go_ret
  exact ⟨rfl, rfl⟩
set_option maxRecDepth 100000 in
set_option maxHeartbeats 2000000 in
theorem nw_miss_nn   (ys : List Int) (p q : Nat) (w : World) (hPb : PcOf 144 (.agg #[]) ys) (hys : Bts ys ∧ ys.length ≤ 200) (hB : TwoB w p q (.iface 171 (.agg #[])) (.iface 171 (.agg #[]))) (hf : l2B ys ys = false) :
    Calls Tryz.prog 125 #[.pointer (some ⟨p, 0, none⟩), .pointer (some ⟨q, 0, none⟩)] w fun e w' => WkAns w (none) e w' := by
  have hL := fun A B v u w hv hu => lookAt_any A B v u ys ys w hv hu hys.1 hys.1 hys.2 hys.2
  rw [ckO_no hf] at hL
  have hAa := as_fork_none (.agg #[])
  have hAb := as_fork_none (.agg #[])
  have hmA := fun w => mt_n (.agg #[]) w
  have hmB := fun w => mt_n (.agg #[]) w
  have hbr := Below.refl w.heap.size w
  have ca := hB.a
  have cb := hB.b
  have HS : Hid (∀ w', Below w.heap.size w w' → w'.cell? ⟨p, 0, none⟩ = some (.iface 171 (.agg #[])) ∧ w'.cell? ⟨q, 0, none⟩ = some (.iface 171 (.agg #[]))) := fun w' h => ⟨(hB.below h).a, (hB.below h).b⟩
  go_enter Tryz.func125, Tryz.ntmps125
  go_wp2
  go_region_held3 (fun w' => w'.cell? ⟨p, 0, none⟩ = some (.iface 171 (.agg #[])) ∧ w'.cell? ⟨q, 0, none⟩ = some (.iface 171 (.agg #[])))
    (first | exact ⟨ca, cb⟩ | exact HS.out _ hbr3 | exact HS.out _ hbr | exact HS.out _ hbr.drew)
    (first
      | (go_at_call 144; refine (PcOf.c (ys := ys) (by assumption) _).mono ?_; rintro e wr ⟨v', rfl, owny, hbr2⟩; obtain ⟨ay, cy, rfl⟩ := own_shape owny; (first | have ownx := own_below ownx hbr2 | have ownx := owny); have hbr : Below w.heap.size w wr := (by first | exact below_after_of hbr hbr2 | exact below_after_of hbr.drew hbr2))
      | (go_at_call 144; refine (PcOf.c (ys := ys) (by assumption) _).mono ?_; rintro e wr ⟨v', rfl, owny, hbr2⟩; obtain ⟨ay, cy, rfl⟩ := own_shape owny; (first | have ownx := own_below ownx hbr2 | have ownx := owny); have hbr : Below w.heap.size w wr := (by first | exact below_after_of hbr hbr2 | exact below_after_of hbr.drew hbr2))
      | (go_at_call 103; refine (hL _ _ _ _ _ ownx owny).mono ?_; intro e wl hl; have hbl := hl.b; obtain rfl := hl.n rfl; have hbr3 : Below w.heap.size w wl := below_after_of hbr hbl))
  have cal := (HS.out _ hbr3).1
  have cbl := (HS.out _ hbr3).2
  have hpl : p < wl.heap.size := Nat.lt_of_lt_of_le hB.p hbr3.size
  have hql : q < wl.heap.size := Nat.lt_of_lt_of_le hB.q hbr3.size
  clear hl ownx owny hL ca cb hPb hmA hmB
  go_wp2
  go_ret
  exact ⟨(hbr3.alloc hbr3.size _).alloc (hbr3.alloc hbr3.size _).size _, fun _ => rfl, fun _ _ e => by cases e⟩
set_option maxRecDepth 100000 in
set_option maxHeartbeats 2000000 in
theorem nw_hit_nl  (kb vb : Int) (xs ys : List Int) (p q : Nat) (w : World) (hPa : PcOf 144 (.agg #[]) xs) (hPb : PcOf 145 (.agg #[.int .i64 kb, .int .i64 vb]) ys) (hxs : Bts xs ∧ xs.length ≤ 200) (hys : Bts ys ∧ ys.length ≤ 200) (hB : TwoB w p q (.iface 171 (.agg #[])) (.iface 173 (.agg #[.int .i64 kb, .int .i64 vb]))) (hf : l2B xs ys = true) :
    Calls Tryz.prog 125 #[.pointer (some ⟨p, 0, none⟩), .pointer (some ⟨q, 0, none⟩)] w fun e w' => WkAns w (some (xs, ys)) e w' := by
  have hL := fun A B v u w hv hu => lookAt_any A B v u xs ys w hv hu hxs.1 hys.1 hxs.2 hys.2
  rw [ckO_yes hf] at hL
  have hmA := fun w => mt_n (.agg #[]) w
  have hmB := fun w => mt_l (.agg #[.int .i64 kb, .int .i64 vb]) w
  have hbr := Below.refl w.heap.size w
  have ca := hB.a
  have cb := hB.b
  have HS : Hid (∀ w', Below w.heap.size w w' → w'.cell? ⟨p, 0, none⟩ = some (.iface 171 (.agg #[])) ∧ w'.cell? ⟨q, 0, none⟩ = some (.iface 173 (.agg #[.int .i64 kb, .int .i64 vb]))) := fun w' h => ⟨(hB.below h).a, (hB.below h).b⟩
  go_enter Tryz.func125, Tryz.ntmps125
  go_wp2
  go_region_held3 (fun w' => w'.cell? ⟨p, 0, none⟩ = some (.iface 171 (.agg #[])) ∧ w'.cell? ⟨q, 0, none⟩ = some (.iface 173 (.agg #[.int .i64 kb, .int .i64 vb])))
    (first | exact ⟨ca, cb⟩ | exact HS.out _ hbr3 | exact HS.out _ hbr | exact HS.out _ hbr.drew)
    (first
      | (go_at_call 144; refine (PcOf.c (ys := xs) (by assumption) _).mono ?_; rintro e wq ⟨v', rfl, ownx, hbq⟩; obtain ⟨ax, cx, rfl⟩ := own_shape ownx; have hbr : Below w.heap.size w wq := (by first | exact below_after_of hbr hbq | exact below_after_of hbr.drew hbq))
      | (go_at_call 145; refine (PcOf.c (ys := ys) (by assumption) _).mono ?_; rintro e wr ⟨v', rfl, owny, hbr2⟩; obtain ⟨ay, cy, rfl⟩ := own_shape owny; have ownx := own_below ownx hbr2; have hbr : Below w.heap.size w wr := below_after_of hbr hbr2)
      | (go_at_call 103; refine (hL _ _ _ _ _ ownx owny).mono ?_; intro e wl hl; have hbl := hl.b; obtain ⟨a5, c5, a6, c6, rfl, hr5⟩ := hl.s _ _ rfl; have hbr3 : Below w.heap.size w wl := below_after_of hbr hbl))
  have HR5 : Hid (Rows2 wr wl (.slice a5 xs.length c5) (.slice a6 ys.length c6) true xs ys) := hr5
  clear hr5 hl ownx owny hL HS ca cb hPa hPb hmA hmB
  go_wp2
  go_ret
  refine ⟨hbr3, (fun h => by cases h), fun ls bs e => ?_⟩
  cases e
  exact ⟨a5, c5, a6, c6, rfl, HR5.out.under hbr.size⟩
set_option maxRecDepth 100000 in
set_option maxHeartbeats 2000000 in
theorem nw_miss_nl  (kb vb : Int) (xs ys : List Int) (p q : Nat) (w : World) (hPa : PcOf 144 (.agg #[]) xs) (hPb : PcOf 145 (.agg #[.int .i64 kb, .int .i64 vb]) ys) (hxs : Bts xs ∧ xs.length ≤ 200) (hys : Bts ys ∧ ys.length ≤ 200) (hB : TwoB w p q (.iface 171 (.agg #[])) (.iface 173 (.agg #[.int .i64 kb, .int .i64 vb]))) (hf : l2B xs ys = false) :
    Calls Tryz.prog 125 #[.pointer (some ⟨p, 0, none⟩), .pointer (some ⟨q, 0, none⟩)] w fun e w' => WkAns w (none) e w' := by
  have hL := fun A B v u w hv hu => lookAt_any A B v u xs ys w hv hu hxs.1 hys.1 hxs.2 hys.2
  rw [ckO_no hf] at hL
  have hAa := as_fork_none (.agg #[])
  have hAb := as_fork_leaf (.agg #[.int .i64 kb, .int .i64 vb])
  have hmA := fun w => mt_n (.agg #[]) w
  have hmB := fun w => mt_l (.agg #[.int .i64 kb, .int .i64 vb]) w
  have hbr := Below.refl w.heap.size w
  have ca := hB.a
  have cb := hB.b
  have HS : Hid (∀ w', Below w.heap.size w w' → w'.cell? ⟨p, 0, none⟩ = some (.iface 171 (.agg #[])) ∧ w'.cell? ⟨q, 0, none⟩ = some (.iface 173 (.agg #[.int .i64 kb, .int .i64 vb]))) := fun w' h => ⟨(hB.below h).a, (hB.below h).b⟩
  go_enter Tryz.func125, Tryz.ntmps125
  go_wp2
  go_region_held3 (fun w' => w'.cell? ⟨p, 0, none⟩ = some (.iface 171 (.agg #[])) ∧ w'.cell? ⟨q, 0, none⟩ = some (.iface 173 (.agg #[.int .i64 kb, .int .i64 vb])))
    (first | exact ⟨ca, cb⟩ | exact HS.out _ hbr3 | exact HS.out _ hbr | exact HS.out _ hbr.drew)
    (first
      | (go_at_call 144; refine (PcOf.c (ys := xs) (by assumption) _).mono ?_; rintro e wq ⟨v', rfl, ownx, hbq⟩; obtain ⟨ax, cx, rfl⟩ := own_shape ownx; have hbr : Below w.heap.size w wq := (by first | exact below_after_of hbr hbq | exact below_after_of hbr.drew hbq))
      | (go_at_call 145; refine (PcOf.c (ys := ys) (by assumption) _).mono ?_; rintro e wr ⟨v', rfl, owny, hbr2⟩; obtain ⟨ay, cy, rfl⟩ := own_shape owny; have ownx := own_below ownx hbr2; have hbr : Below w.heap.size w wr := below_after_of hbr hbr2)
      | (go_at_call 103; refine (hL _ _ _ _ _ ownx owny).mono ?_; intro e wl hl; have hbl := hl.b; obtain rfl := hl.n rfl; have hbr3 : Below w.heap.size w wl := below_after_of hbr hbl))
  have cal := (HS.out _ hbr3).1
  have cbl := (HS.out _ hbr3).2
  have hpl : p < wl.heap.size := Nat.lt_of_lt_of_le hB.p hbr3.size
  have hql : q < wl.heap.size := Nat.lt_of_lt_of_le hB.q hbr3.size
  clear hl ownx owny hL ca cb hPa hPb hmA hmB
  go_wp2
  go_ret
  exact ⟨(hbr3.alloc hbr3.size _).alloc (hbr3.alloc hbr3.size _).size _, fun _ => rfl, fun _ _ e => by cases e⟩
set_option maxRecDepth 100000 in
set_option maxHeartbeats 2000000 in
theorem nw_hit_nf  (bb : Int) (tb ub : TypeId) (xb yb : Value) (xs ys : List Int) (p q : Nat) (w : World) (hPa : PcOf 144 (.agg #[]) xs) (hPb : PcOf 210 (.agg #[.int .i64 bb, .iface tb xb, .iface ub yb]) ys) (hxs : Bts xs ∧ xs.length ≤ 200) (hys : Bts ys ∧ ys.length ≤ 200) (hB : TwoB w p q (.iface 171 (.agg #[])) (.iface 168 (.agg #[.int .i64 bb, .iface tb xb, .iface ub yb]))) (hf : l2B xs ys = true) :
    Calls Tryz.prog 125 #[.pointer (some ⟨p, 0, none⟩), .pointer (some ⟨q, 0, none⟩)] w fun e w' => WkAns w (some (xs, ys)) e w' := by
  have hL := fun A B v u w hv hu => lookAt_any A B v u xs ys w hv hu hxs.1 hys.1 hxs.2 hys.2
  rw [ckO_yes hf] at hL
  have hmA := fun w => mt_n (.agg #[]) w
  have hmB := fun w => mt_f (.agg #[.int .i64 bb, .iface tb xb, .iface ub yb]) w
  have hbr := Below.refl w.heap.size w
  have ca := hB.a
  have cb := hB.b
  have HS : Hid (∀ w', Below w.heap.size w w' → w'.cell? ⟨p, 0, none⟩ = some (.iface 171 (.agg #[])) ∧ w'.cell? ⟨q, 0, none⟩ = some (.iface 168 (.agg #[.int .i64 bb, .iface tb xb, .iface ub yb]))) := fun w' h => ⟨(hB.below h).a, (hB.below h).b⟩
  go_enter Tryz.func125, Tryz.ntmps125
  go_wp2
  go_region_held3 (fun w' => w'.cell? ⟨p, 0, none⟩ = some (.iface 171 (.agg #[])) ∧ w'.cell? ⟨q, 0, none⟩ = some (.iface 168 (.agg #[.int .i64 bb, .iface tb xb, .iface ub yb])))
    (first | exact ⟨ca, cb⟩ | exact HS.out _ hbr3 | exact HS.out _ hbr | exact HS.out _ hbr.drew)
    (first
      | (go_at_call 144; refine (PcOf.c (ys := xs) (by assumption) _).mono ?_; rintro e wq ⟨v', rfl, ownx, hbq⟩; obtain ⟨ax, cx, rfl⟩ := own_shape ownx; have hbr : Below w.heap.size w wq := (by first | exact below_after_of hbr hbq | exact below_after_of hbr.drew hbq))
      | (go_at_call 210; refine (PcOf.c (ys := ys) (by assumption) _).mono ?_; rintro e wr ⟨v', rfl, owny, hbr2⟩; obtain ⟨ay, cy, rfl⟩ := own_shape owny; have ownx := own_below ownx hbr2; have hbr : Below w.heap.size w wr := below_after_of hbr hbr2)
      | (go_at_call 103; refine (hL _ _ _ _ _ ownx owny).mono ?_; intro e wl hl; have hbl := hl.b; obtain ⟨a5, c5, a6, c6, rfl, hr5⟩ := hl.s _ _ rfl; have hbr3 : Below w.heap.size w wl := below_after_of hbr hbl))
  have HR5 : Hid (Rows2 wr wl (.slice a5 xs.length c5) (.slice a6 ys.length c6) true xs ys) := hr5
  clear hr5 hl ownx owny hL HS ca cb hPa hPb hmA hmB
  go_wp2
  go_ret
  refine ⟨hbr3, (fun h => by cases h), fun ls bs e => ?_⟩
  cases e
  exact ⟨a5, c5, a6, c6, rfl, HR5.out.under hbr.size⟩
set_option maxRecDepth 100000 in
set_option maxHeartbeats 2000000 in
theorem nw_miss_nf  (bb : Int) (tb ub : TypeId) (xb yb : Value) (xs ys : List Int) (p q : Nat) (w : World) (hPa : PcOf 144 (.agg #[]) xs) (hPb : PcOf 210 (.agg #[.int .i64 bb, .iface tb xb, .iface ub yb]) ys) (hxs : Bts xs ∧ xs.length ≤ 200) (hys : Bts ys ∧ ys.length ≤ 200) (hB : TwoB w p q (.iface 171 (.agg #[])) (.iface 168 (.agg #[.int .i64 bb, .iface tb xb, .iface ub yb]))) (hf : l2B xs ys = false) :
    Calls Tryz.prog 125 #[.pointer (some ⟨p, 0, none⟩), .pointer (some ⟨q, 0, none⟩)] w fun e w' => WkAns w (none) e w' := by
  have hL := fun A B v u w hv hu => lookAt_any A B v u xs ys w hv hu hxs.1 hys.1 hxs.2 hys.2
  rw [ckO_no hf] at hL
  have hAa := as_fork_none (.agg #[])
  have hAb := as_fork (.agg #[.int .i64 bb, .iface tb xb, .iface ub yb])
  have hmA := fun w => mt_n (.agg #[]) w
  have hmB := fun w => mt_f (.agg #[.int .i64 bb, .iface tb xb, .iface ub yb]) w
  have hbr := Below.refl w.heap.size w
  have ca := hB.a
  have cb := hB.b
  have HS : Hid (∀ w', Below w.heap.size w w' → w'.cell? ⟨p, 0, none⟩ = some (.iface 171 (.agg #[])) ∧ w'.cell? ⟨q, 0, none⟩ = some (.iface 168 (.agg #[.int .i64 bb, .iface tb xb, .iface ub yb]))) := fun w' h => ⟨(hB.below h).a, (hB.below h).b⟩
  go_enter Tryz.func125, Tryz.ntmps125
  go_wp2
  go_region_held3 (fun w' => w'.cell? ⟨p, 0, none⟩ = some (.iface 171 (.agg #[])) ∧ w'.cell? ⟨q, 0, none⟩ = some (.iface 168 (.agg #[.int .i64 bb, .iface tb xb, .iface ub yb])))
    (first | exact ⟨ca, cb⟩ | exact HS.out _ hbr3 | exact HS.out _ hbr | exact HS.out _ hbr.drew)
    (first
      | (go_at_call 144; refine (PcOf.c (ys := xs) (by assumption) _).mono ?_; rintro e wq ⟨v', rfl, ownx, hbq⟩; obtain ⟨ax, cx, rfl⟩ := own_shape ownx; have hbr : Below w.heap.size w wq := (by first | exact below_after_of hbr hbq | exact below_after_of hbr.drew hbq))
      | (go_at_call 210; refine (PcOf.c (ys := ys) (by assumption) _).mono ?_; rintro e wr ⟨v', rfl, owny, hbr2⟩; obtain ⟨ay, cy, rfl⟩ := own_shape owny; have ownx := own_below ownx hbr2; have hbr : Below w.heap.size w wr := below_after_of hbr hbr2)
      | (go_at_call 103; refine (hL _ _ _ _ _ ownx owny).mono ?_; intro e wl hl; have hbl := hl.b; obtain rfl := hl.n rfl; have hbr3 : Below w.heap.size w wl := below_after_of hbr hbl))
  have cal := (HS.out _ hbr3).1
  have cbl := (HS.out _ hbr3).2
  have hpl : p < wl.heap.size := Nat.lt_of_lt_of_le hB.p hbr3.size
  have hql : q < wl.heap.size := Nat.lt_of_lt_of_le hB.q hbr3.size
  clear hl ownx owny hL ca cb hPa hPb hmA hmB
  go_wp2
  go_ret
  exact ⟨(hbr3.alloc hbr3.size _).alloc (hbr3.alloc hbr3.size _).size _, fun _ => rfl, fun _ _ e => by cases e⟩
set_option maxRecDepth 100000 in
set_option maxHeartbeats 2000000 in
theorem nw_hit_ln (ka va : Int)  (xs ys : List Int) (p q : Nat) (w : World) (hPa : PcOf 145 (.agg #[.int .i64 ka, .int .i64 va]) xs) (hPb : PcOf 144 (.agg #[]) ys) (hxs : Bts xs ∧ xs.length ≤ 200) (hys : Bts ys ∧ ys.length ≤ 200) (hB : TwoB w p q (.iface 173 (.agg #[.int .i64 ka, .int .i64 va])) (.iface 171 (.agg #[]))) (hf : l2B xs ys = true) :
    Calls Tryz.prog 125 #[.pointer (some ⟨p, 0, none⟩), .pointer (some ⟨q, 0, none⟩)] w fun e w' => WkAns w (some (xs, ys)) e w' := by
  have hL := fun A B v u w hv hu => lookAt_any A B v u xs ys w hv hu hxs.1 hys.1 hxs.2 hys.2
  rw [ckO_yes hf] at hL
  have hmA := fun w => mt_l (.agg #[.int .i64 ka, .int .i64 va]) w
  have hmB := fun w => mt_n (.agg #[]) w
  have hbr := Below.refl w.heap.size w
  have ca := hB.a
  have cb := hB.b
  have HS : Hid (∀ w', Below w.heap.size w w' → w'.cell? ⟨p, 0, none⟩ = some (.iface 173 (.agg #[.int .i64 ka, .int .i64 va])) ∧ w'.cell? ⟨q, 0, none⟩ = some (.iface 171 (.agg #[]))) := fun w' h => ⟨(hB.below h).a, (hB.below h).b⟩
  go_enter Tryz.func125, Tryz.ntmps125
  go_wp2
  go_region_held3 (fun w' => w'.cell? ⟨p, 0, none⟩ = some (.iface 173 (.agg #[.int .i64 ka, .int .i64 va])) ∧ w'.cell? ⟨q, 0, none⟩ = some (.iface 171 (.agg #[])))
    (first | exact ⟨ca, cb⟩ | exact HS.out _ hbr3 | exact HS.out _ hbr | exact HS.out _ hbr.drew)
    (first
      | (go_at_call 145; refine (PcOf.c (ys := xs) (by assumption) _).mono ?_; rintro e wq ⟨v', rfl, ownx, hbq⟩; obtain ⟨ax, cx, rfl⟩ := own_shape ownx; have hbr : Below w.heap.size w wq := (by first | exact below_after_of hbr hbq | exact below_after_of hbr.drew hbq))
      | (go_at_call 144; refine (PcOf.c (ys := ys) (by assumption) _).mono ?_; rintro e wr ⟨v', rfl, owny, hbr2⟩; obtain ⟨ay, cy, rfl⟩ := own_shape owny; have ownx := own_below ownx hbr2; have hbr : Below w.heap.size w wr := below_after_of hbr hbr2)
      | (go_at_call 103; refine (hL _ _ _ _ _ ownx owny).mono ?_; intro e wl hl; have hbl := hl.b; obtain ⟨a5, c5, a6, c6, rfl, hr5⟩ := hl.s _ _ rfl; have hbr3 : Below w.heap.size w wl := below_after_of hbr hbl))
  have HR5 : Hid (Rows2 wr wl (.slice a5 xs.length c5) (.slice a6 ys.length c6) true xs ys) := hr5
  clear hr5 hl ownx owny hL HS ca cb hPa hPb hmA hmB
  go_wp2
  go_ret
  refine ⟨hbr3, (fun h => by cases h), fun ls bs e => ?_⟩
  cases e
  exact ⟨a5, c5, a6, c6, rfl, HR5.out.under hbr.size⟩
set_option maxRecDepth 100000 in
set_option maxHeartbeats 2000000 in
theorem nw_miss_ln (ka va : Int)  (xs ys : List Int) (p q : Nat) (w : World) (hPa : PcOf 145 (.agg #[.int .i64 ka, .int .i64 va]) xs) (hPb : PcOf 144 (.agg #[]) ys) (hxs : Bts xs ∧ xs.length ≤ 200) (hys : Bts ys ∧ ys.length ≤ 200) (hB : TwoB w p q (.iface 173 (.agg #[.int .i64 ka, .int .i64 va])) (.iface 171 (.agg #[]))) (hf : l2B xs ys = false) :
    Calls Tryz.prog 125 #[.pointer (some ⟨p, 0, none⟩), .pointer (some ⟨q, 0, none⟩)] w fun e w' => WkAns w (none) e w' := by
  have hL := fun A B v u w hv hu => lookAt_any A B v u xs ys w hv hu hxs.1 hys.1 hxs.2 hys.2
  rw [ckO_no hf] at hL
  have hAa := as_fork_leaf (.agg #[.int .i64 ka, .int .i64 va])
  have hAb := as_fork_none (.agg #[])
  have hmA := fun w => mt_l (.agg #[.int .i64 ka, .int .i64 va]) w
  have hmB := fun w => mt_n (.agg #[]) w
  have hbr := Below.refl w.heap.size w
  have ca := hB.a
  have cb := hB.b
  have HS : Hid (∀ w', Below w.heap.size w w' → w'.cell? ⟨p, 0, none⟩ = some (.iface 173 (.agg #[.int .i64 ka, .int .i64 va])) ∧ w'.cell? ⟨q, 0, none⟩ = some (.iface 171 (.agg #[]))) := fun w' h => ⟨(hB.below h).a, (hB.below h).b⟩
  go_enter Tryz.func125, Tryz.ntmps125
  go_wp2
  go_region_held3 (fun w' => w'.cell? ⟨p, 0, none⟩ = some (.iface 173 (.agg #[.int .i64 ka, .int .i64 va])) ∧ w'.cell? ⟨q, 0, none⟩ = some (.iface 171 (.agg #[])))
    (first | exact ⟨ca, cb⟩ | exact HS.out _ hbr3 | exact HS.out _ hbr | exact HS.out _ hbr.drew)
    (first
      | (go_at_call 145; refine (PcOf.c (ys := xs) (by assumption) _).mono ?_; rintro e wq ⟨v', rfl, ownx, hbq⟩; obtain ⟨ax, cx, rfl⟩ := own_shape ownx; have hbr : Below w.heap.size w wq := (by first | exact below_after_of hbr hbq | exact below_after_of hbr.drew hbq))
      | (go_at_call 144; refine (PcOf.c (ys := ys) (by assumption) _).mono ?_; rintro e wr ⟨v', rfl, owny, hbr2⟩; obtain ⟨ay, cy, rfl⟩ := own_shape owny; have ownx := own_below ownx hbr2; have hbr : Below w.heap.size w wr := below_after_of hbr hbr2)
      | (go_at_call 103; refine (hL _ _ _ _ _ ownx owny).mono ?_; intro e wl hl; have hbl := hl.b; obtain rfl := hl.n rfl; have hbr3 : Below w.heap.size w wl := below_after_of hbr hbl))
  have cal := (HS.out _ hbr3).1
  have cbl := (HS.out _ hbr3).2
  have hpl : p < wl.heap.size := Nat.lt_of_lt_of_le hB.p hbr3.size
  have hql : q < wl.heap.size := Nat.lt_of_lt_of_le hB.q hbr3.size
  clear hl ownx owny hL ca cb hPa hPb hmA hmB
  go_wp2
  go_ret
  exact ⟨(hbr3.alloc hbr3.size _).alloc (hbr3.alloc hbr3.size _).size _, fun _ => rfl, fun _ _ e => by cases e⟩
set_option maxRecDepth 100000 in
set_option maxHeartbeats 2000000 in
theorem nw_hit_ll (ka va : Int) (kb vb : Int) (xs ys : List Int) (p q : Nat) (w : World) (hPa : PcOf 145 (.agg #[.int .i64 ka, .int .i64 va]) xs) (hPb : PcOf 145 (.agg #[.int .i64 kb, .int .i64 vb]) ys) (hxs : Bts xs ∧ xs.length ≤ 200) (hys : Bts ys ∧ ys.length ≤ 200) (hB : TwoB w p q (.iface 173 (.agg #[.int .i64 ka, .int .i64 va])) (.iface 173 (.agg #[.int .i64 kb, .int .i64 vb]))) (hf : l2B xs ys = true) :
    Calls Tryz.prog 125 #[.pointer (some ⟨p, 0, none⟩), .pointer (some ⟨q, 0, none⟩)] w fun e w' => WkAns w (some (xs, ys)) e w' := by
  have hL := fun A B v u w hv hu => lookAt_any A B v u xs ys w hv hu hxs.1 hys.1 hxs.2 hys.2
  rw [ckO_yes hf] at hL
  have hmA := fun w => mt_l (.agg #[.int .i64 ka, .int .i64 va]) w
  have hmB := fun w => mt_l (.agg #[.int .i64 kb, .int .i64 vb]) w
  have hbr := Below.refl w.heap.size w
  have ca := hB.a
  have cb := hB.b
  have HS : Hid (∀ w', Below w.heap.size w w' → w'.cell? ⟨p, 0, none⟩ = some (.iface 173 (.agg #[.int .i64 ka, .int .i64 va])) ∧ w'.cell? ⟨q, 0, none⟩ = some (.iface 173 (.agg #[.int .i64 kb, .int .i64 vb]))) := fun w' h => ⟨(hB.below h).a, (hB.below h).b⟩
  go_enter Tryz.func125, Tryz.ntmps125
  go_wp2
  go_region_held3 (fun w' => w'.cell? ⟨p, 0, none⟩ = some (.iface 173 (.agg #[.int .i64 ka, .int .i64 va])) ∧ w'.cell? ⟨q, 0, none⟩ = some (.iface 173 (.agg #[.int .i64 kb, .int .i64 vb])))
    (first | exact ⟨ca, cb⟩ | exact HS.out _ hbr3 | exact HS.out _ hbr | exact HS.out _ hbr.drew)
    (first
      | (go_at_call 145; refine (PcOf.c (ys := xs) (by assumption) _).mono ?_; rintro e wq ⟨v', rfl, ownx, hbq⟩; obtain ⟨ax, cx, rfl⟩ := own_shape ownx; have hbr : Below w.heap.size w wq := (by first | exact below_after_of hbr hbq | exact below_after_of hbr.drew hbq))
      | (go_at_call 145; refine (PcOf.c (ys := ys) (by assumption) _).mono ?_; rintro e wr ⟨v', rfl, owny, hbr2⟩; obtain ⟨ay, cy, rfl⟩ := own_shape owny; have ownx := own_below ownx hbr2; have hbr : Below w.heap.size w wr := below_after_of hbr hbr2)
      | (go_at_call 103; refine (hL _ _ _ _ _ ownx owny).mono ?_; intro e wl hl; have hbl := hl.b; obtain ⟨a5, c5, a6, c6, rfl, hr5⟩ := hl.s _ _ rfl; have hbr3 : Below w.heap.size w wl := below_after_of hbr hbl))
  have HR5 : Hid (Rows2 wr wl (.slice a5 xs.length c5) (.slice a6 ys.length c6) true xs ys) := hr5
  clear hr5 hl ownx owny hL HS ca cb hPa hPb hmA hmB
  go_wp2
  go_ret
  refine ⟨hbr3, (fun h => by cases h), fun ls bs e => ?_⟩
  cases e
  exact ⟨a5, c5, a6, c6, rfl, HR5.out.under hbr.size⟩
set_option maxRecDepth 100000 in
set_option maxHeartbeats 2000000 in
theorem nw_miss_ll (ka va : Int) (kb vb : Int) (xs ys : List Int) (p q : Nat) (w : World) (hPa : PcOf 145 (.agg #[.int .i64 ka, .int .i64 va]) xs) (hPb : PcOf 145 (.agg #[.int .i64 kb, .int .i64 vb]) ys) (hxs : Bts xs ∧ xs.length ≤ 200) (hys : Bts ys ∧ ys.length ≤ 200) (hB : TwoB w p q (.iface 173 (.agg #[.int .i64 ka, .int .i64 va])) (.iface 173 (.agg #[.int .i64 kb, .int .i64 vb]))) (hf : l2B xs ys = false) :
    Calls Tryz.prog 125 #[.pointer (some ⟨p, 0, none⟩), .pointer (some ⟨q, 0, none⟩)] w fun e w' => WkAns w (none) e w' := by
  have hL := fun A B v u w hv hu => lookAt_any A B v u xs ys w hv hu hxs.1 hys.1 hxs.2 hys.2
  rw [ckO_no hf] at hL
  have hAa := as_fork_leaf (.agg #[.int .i64 ka, .int .i64 va])
  have hAb := as_fork_leaf (.agg #[.int .i64 kb, .int .i64 vb])
  have hmA := fun w => mt_l (.agg #[.int .i64 ka, .int .i64 va]) w
  have hmB := fun w => mt_l (.agg #[.int .i64 kb, .int .i64 vb]) w
  have hbr := Below.refl w.heap.size w
  have ca := hB.a
  have cb := hB.b
  have HS : Hid (∀ w', Below w.heap.size w w' → w'.cell? ⟨p, 0, none⟩ = some (.iface 173 (.agg #[.int .i64 ka, .int .i64 va])) ∧ w'.cell? ⟨q, 0, none⟩ = some (.iface 173 (.agg #[.int .i64 kb, .int .i64 vb]))) := fun w' h => ⟨(hB.below h).a, (hB.below h).b⟩
  go_enter Tryz.func125, Tryz.ntmps125
  go_wp2
  go_region_held3 (fun w' => w'.cell? ⟨p, 0, none⟩ = some (.iface 173 (.agg #[.int .i64 ka, .int .i64 va])) ∧ w'.cell? ⟨q, 0, none⟩ = some (.iface 173 (.agg #[.int .i64 kb, .int .i64 vb])))
    (first | exact ⟨ca, cb⟩ | exact HS.out _ hbr3 | exact HS.out _ hbr | exact HS.out _ hbr.drew)
    (first
      | (go_at_call 145; refine (PcOf.c (ys := xs) (by assumption) _).mono ?_; rintro e wq ⟨v', rfl, ownx, hbq⟩; obtain ⟨ax, cx, rfl⟩ := own_shape ownx; have hbr : Below w.heap.size w wq := (by first | exact below_after_of hbr hbq | exact below_after_of hbr.drew hbq))
      | (go_at_call 145; refine (PcOf.c (ys := ys) (by assumption) _).mono ?_; rintro e wr ⟨v', rfl, owny, hbr2⟩; obtain ⟨ay, cy, rfl⟩ := own_shape owny; have ownx := own_below ownx hbr2; have hbr : Below w.heap.size w wr := below_after_of hbr hbr2)
      | (go_at_call 103; refine (hL _ _ _ _ _ ownx owny).mono ?_; intro e wl hl; have hbl := hl.b; obtain rfl := hl.n rfl; have hbr3 : Below w.heap.size w wl := below_after_of hbr hbl))
  have cal := (HS.out _ hbr3).1
  have cbl := (HS.out _ hbr3).2
  have hpl : p < wl.heap.size := Nat.lt_of_lt_of_le hB.p hbr3.size
  have hql : q < wl.heap.size := Nat.lt_of_lt_of_le hB.q hbr3.size
  clear hl ownx owny hL ca cb hPa hPb hmA hmB
  go_wp2
  go_ret
  exact ⟨(hbr3.alloc hbr3.size _).alloc (hbr3.alloc hbr3.size _).size _, fun _ => rfl, fun _ _ e => by cases e⟩
set_option maxRecDepth 100000 in
set_option maxHeartbeats 2000000 in
theorem nw_hit_lf (ka va : Int) (bb : Int) (tb ub : TypeId) (xb yb : Value) (xs ys : List Int) (p q : Nat) (w : World) (hPa : PcOf 145 (.agg #[.int .i64 ka, .int .i64 va]) xs) (hPb : PcOf 210 (.agg #[.int .i64 bb, .iface tb xb, .iface ub yb]) ys) (hxs : Bts xs ∧ xs.length ≤ 200) (hys : Bts ys ∧ ys.length ≤ 200) (hB : TwoB w p q (.iface 173 (.agg #[.int .i64 ka, .int .i64 va])) (.iface 168 (.agg #[.int .i64 bb, .iface tb xb, .iface ub yb]))) (hf : l2B xs ys = true) :
    Calls Tryz.prog 125 #[.pointer (some ⟨p, 0, none⟩), .pointer (some ⟨q, 0, none⟩)] w fun e w' => WkAns w (some (xs, ys)) e w' := by
  have hL := fun A B v u w hv hu => lookAt_any A B v u xs ys w hv hu hxs.1 hys.1 hxs.2 hys.2
  rw [ckO_yes hf] at hL
  have hmA := fun w => mt_l (.agg #[.int .i64 ka, .int .i64 va]) w
  have hmB := fun w => mt_f (.agg #[.int .i64 bb, .iface tb xb, .iface ub yb]) w
  have hbr := Below.refl w.heap.size w
  have ca := hB.a
  have cb := hB.b
  have HS : Hid (∀ w', Below w.heap.size w w' → w'.cell? ⟨p, 0, none⟩ = some (.iface 173 (.agg #[.int .i64 ka, .int .i64 va])) ∧ w'.cell? ⟨q, 0, none⟩ = some (.iface 168 (.agg #[.int .i64 bb, .iface tb xb, .iface ub yb]))) := fun w' h => ⟨(hB.below h).a, (hB.below h).b⟩
  go_enter Tryz.func125, Tryz.ntmps125
  go_wp2
  go_region_held3 (fun w' => w'.cell? ⟨p, 0, none⟩ = some (.iface 173 (.agg #[.int .i64 ka, .int .i64 va])) ∧ w'.cell? ⟨q, 0, none⟩ = some (.iface 168 (.agg #[.int .i64 bb, .iface tb xb, .iface ub yb])))
    (first | exact ⟨ca, cb⟩ | exact HS.out _ hbr3 | exact HS.out _ hbr | exact HS.out _ hbr.drew)
    (first
      | (go_at_call 145; refine (PcOf.c (ys := xs) (by assumption) _).mono ?_; rintro e wq ⟨v', rfl, ownx, hbq⟩; obtain ⟨ax, cx, rfl⟩ := own_shape ownx; have hbr : Below w.heap.size w wq := (by first | exact below_after_of hbr hbq | exact below_after_of hbr.drew hbq))
      | (go_at_call 210; refine (PcOf.c (ys := ys) (by assumption) _).mono ?_; rintro e wr ⟨v', rfl, owny, hbr2⟩; obtain ⟨ay, cy, rfl⟩ := own_shape owny; have ownx := own_below ownx hbr2; have hbr : Below w.heap.size w wr := below_after_of hbr hbr2)
      | (go_at_call 103; refine (hL _ _ _ _ _ ownx owny).mono ?_; intro e wl hl; have hbl := hl.b; obtain ⟨a5, c5, a6, c6, rfl, hr5⟩ := hl.s _ _ rfl; have hbr3 : Below w.heap.size w wl := below_after_of hbr hbl))
  have HR5 : Hid (Rows2 wr wl (.slice a5 xs.length c5) (.slice a6 ys.length c6) true xs ys) := hr5
  clear hr5 hl ownx owny hL HS ca cb hPa hPb hmA hmB
  go_wp2
  go_ret
  refine ⟨hbr3, (fun h => by cases h), fun ls bs e => ?_⟩
  cases e
  exact ⟨a5, c5, a6, c6, rfl, HR5.out.under hbr.size⟩
set_option maxRecDepth 100000 in
set_option maxHeartbeats 2000000 in
theorem nw_miss_lf (ka va : Int) (bb : Int) (tb ub : TypeId) (xb yb : Value) (xs ys : List Int) (p q : Nat) (w : World) (hPa : PcOf 145 (.agg #[.int .i64 ka, .int .i64 va]) xs) (hPb : PcOf 210 (.agg #[.int .i64 bb, .iface tb xb, .iface ub yb]) ys) (hxs : Bts xs ∧ xs.length ≤ 200) (hys : Bts ys ∧ ys.length ≤ 200) (hB : TwoB w p q (.iface 173 (.agg #[.int .i64 ka, .int .i64 va])) (.iface 168 (.agg #[.int .i64 bb, .iface tb xb, .iface ub yb]))) (hf : l2B xs ys = false) :
    Calls Tryz.prog 125 #[.pointer (some ⟨p, 0, none⟩), .pointer (some ⟨q, 0, none⟩)] w fun e w' => WkAns w (none) e w' := by
  have hL := fun A B v u w hv hu => lookAt_any A B v u xs ys w hv hu hxs.1 hys.1 hxs.2 hys.2
  rw [ckO_no hf] at hL
  have hAa := as_fork_leaf (.agg #[.int .i64 ka, .int .i64 va])
  have hAb := as_fork (.agg #[.int .i64 bb, .iface tb xb, .iface ub yb])
  have hmA := fun w => mt_l (.agg #[.int .i64 ka, .int .i64 va]) w
  have hmB := fun w => mt_f (.agg #[.int .i64 bb, .iface tb xb, .iface ub yb]) w
  have hbr := Below.refl w.heap.size w
  have ca := hB.a
  have cb := hB.b
  have HS : Hid (∀ w', Below w.heap.size w w' → w'.cell? ⟨p, 0, none⟩ = some (.iface 173 (.agg #[.int .i64 ka, .int .i64 va])) ∧ w'.cell? ⟨q, 0, none⟩ = some (.iface 168 (.agg #[.int .i64 bb, .iface tb xb, .iface ub yb]))) := fun w' h => ⟨(hB.below h).a, (hB.below h).b⟩
  go_enter Tryz.func125, Tryz.ntmps125
  go_wp2
  go_region_held3 (fun w' => w'.cell? ⟨p, 0, none⟩ = some (.iface 173 (.agg #[.int .i64 ka, .int .i64 va])) ∧ w'.cell? ⟨q, 0, none⟩ = some (.iface 168 (.agg #[.int .i64 bb, .iface tb xb, .iface ub yb])))
    (first | exact ⟨ca, cb⟩ | exact HS.out _ hbr3 | exact HS.out _ hbr | exact HS.out _ hbr.drew)
    (first
      | (go_at_call 145; refine (PcOf.c (ys := xs) (by assumption) _).mono ?_; rintro e wq ⟨v', rfl, ownx, hbq⟩; obtain ⟨ax, cx, rfl⟩ := own_shape ownx; have hbr : Below w.heap.size w wq := (by first | exact below_after_of hbr hbq | exact below_after_of hbr.drew hbq))
      | (go_at_call 210; refine (PcOf.c (ys := ys) (by assumption) _).mono ?_; rintro e wr ⟨v', rfl, owny, hbr2⟩; obtain ⟨ay, cy, rfl⟩ := own_shape owny; have ownx := own_below ownx hbr2; have hbr : Below w.heap.size w wr := below_after_of hbr hbr2)
      | (go_at_call 103; refine (hL _ _ _ _ _ ownx owny).mono ?_; intro e wl hl; have hbl := hl.b; obtain rfl := hl.n rfl; have hbr3 : Below w.heap.size w wl := below_after_of hbr hbl))
  have cal := (HS.out _ hbr3).1
  have cbl := (HS.out _ hbr3).2
  have hpl : p < wl.heap.size := Nat.lt_of_lt_of_le hB.p hbr3.size
  have hql : q < wl.heap.size := Nat.lt_of_lt_of_le hB.q hbr3.size
  clear hl ownx owny hL ca cb hPa hPb hmA hmB
  go_wp2
  go_ret
  exact ⟨(hbr3.alloc hbr3.size _).alloc (hbr3.alloc hbr3.size _).size _, fun _ => rfl, fun _ _ e => by cases e⟩
set_option maxRecDepth 100000 in
set_option maxHeartbeats 2000000 in
theorem nw_hit_fn (ba : Int) (ta ua : TypeId) (xa ya : Value)  (xs ys : List Int) (p q : Nat) (w : World) (hPa : PcOf 210 (.agg #[.int .i64 ba, .iface ta xa, .iface ua ya]) xs) (hPb : PcOf 144 (.agg #[]) ys) (hxs : Bts xs ∧ xs.length ≤ 200) (hys : Bts ys ∧ ys.length ≤ 200) (hB : TwoB w p q (.iface 168 (.agg #[.int .i64 ba, .iface ta xa, .iface ua ya])) (.iface 171 (.agg #[]))) (hf : l2B xs ys = true) :
    Calls Tryz.prog 125 #[.pointer (some ⟨p, 0, none⟩), .pointer (some ⟨q, 0, none⟩)] w fun e w' => WkAns w (some (xs, ys)) e w' := by
  have hL := fun A B v u w hv hu => lookAt_any A B v u xs ys w hv hu hxs.1 hys.1 hxs.2 hys.2
  rw [ckO_yes hf] at hL
  have hmA := fun w => mt_f (.agg #[.int .i64 ba, .iface ta xa, .iface ua ya]) w
  have hmB := fun w => mt_n (.agg #[]) w
  have hbr := Below.refl w.heap.size w
  have ca := hB.a
  have cb := hB.b
  have HS : Hid (∀ w', Below w.heap.size w w' → w'.cell? ⟨p, 0, none⟩ = some (.iface 168 (.agg #[.int .i64 ba, .iface ta xa, .iface ua ya])) ∧ w'.cell? ⟨q, 0, none⟩ = some (.iface 171 (.agg #[]))) := fun w' h => ⟨(hB.below h).a, (hB.below h).b⟩
  go_enter Tryz.func125, Tryz.ntmps125
  go_wp2
  go_region_held3 (fun w' => w'.cell? ⟨p, 0, none⟩ = some (.iface 168 (.agg #[.int .i64 ba, .iface ta xa, .iface ua ya])) ∧ w'.cell? ⟨q, 0, none⟩ = some (.iface 171 (.agg #[])))
    (first | exact ⟨ca, cb⟩ | exact HS.out _ hbr3 | exact HS.out _ hbr | exact HS.out _ hbr.drew)
    (first
      | (go_at_call 210; refine (PcOf.c (ys := xs) (by assumption) _).mono ?_; rintro e wq ⟨v', rfl, ownx, hbq⟩; obtain ⟨ax, cx, rfl⟩ := own_shape ownx; have hbr : Below w.heap.size w wq := (by first | exact below_after_of hbr hbq | exact below_after_of hbr.drew hbq))
      | (go_at_call 144; refine (PcOf.c (ys := ys) (by assumption) _).mono ?_; rintro e wr ⟨v', rfl, owny, hbr2⟩; obtain ⟨ay, cy, rfl⟩ := own_shape owny; have ownx := own_below ownx hbr2; have hbr : Below w.heap.size w wr := below_after_of hbr hbr2)
      | (go_at_call 103; refine (hL _ _ _ _ _ ownx owny).mono ?_; intro e wl hl; have hbl := hl.b; obtain ⟨a5, c5, a6, c6, rfl, hr5⟩ := hl.s _ _ rfl; have hbr3 : Below w.heap.size w wl := below_after_of hbr hbl))
  have HR5 : Hid (Rows2 wr wl (.slice a5 xs.length c5) (.slice a6 ys.length c6) true xs ys) := hr5
  clear hr5 hl ownx owny hL HS ca cb hPa hPb hmA hmB
  go_wp2
  go_ret
  refine ⟨hbr3, (fun h => by cases h), fun ls bs e => ?_⟩
  cases e
  exact ⟨a5, c5, a6, c6, rfl, HR5.out.under hbr.size⟩
set_option maxRecDepth 100000 in
set_option maxHeartbeats 2000000 in
theorem nw_miss_fn (ba : Int) (ta ua : TypeId) (xa ya : Value)  (xs ys : List Int) (p q : Nat) (w : World) (hPa : PcOf 210 (.agg #[.int .i64 ba, .iface ta xa, .iface ua ya]) xs) (hPb : PcOf 144 (.agg #[]) ys) (hxs : Bts xs ∧ xs.length ≤ 200) (hys : Bts ys ∧ ys.length ≤ 200) (hB : TwoB w p q (.iface 168 (.agg #[.int .i64 ba, .iface ta xa, .iface ua ya])) (.iface 171 (.agg #[]))) (hf : l2B xs ys = false) :
    Calls Tryz.prog 125 #[.pointer (some ⟨p, 0, none⟩), .pointer (some ⟨q, 0, none⟩)] w fun e w' => WkAns w (none) e w' := by
  have hL := fun A B v u w hv hu => lookAt_any A B v u xs ys w hv hu hxs.1 hys.1 hxs.2 hys.2
  rw [ckO_no hf] at hL
  have hAa := as_fork (.agg #[.int .i64 ba, .iface ta xa, .iface ua ya])
  have hAb := as_fork_none (.agg #[])
  have hmA := fun w => mt_f (.agg #[.int .i64 ba, .iface ta xa, .iface ua ya]) w
  have hmB := fun w => mt_n (.agg #[]) w
  have hbr := Below.refl w.heap.size w
  have ca := hB.a
  have cb := hB.b
  have HS : Hid (∀ w', Below w.heap.size w w' → w'.cell? ⟨p, 0, none⟩ = some (.iface 168 (.agg #[.int .i64 ba, .iface ta xa, .iface ua ya])) ∧ w'.cell? ⟨q, 0, none⟩ = some (.iface 171 (.agg #[]))) := fun w' h => ⟨(hB.below h).a, (hB.below h).b⟩
  go_enter Tryz.func125, Tryz.ntmps125
  go_wp2
  go_region_held3 (fun w' => w'.cell? ⟨p, 0, none⟩ = some (.iface 168 (.agg #[.int .i64 ba, .iface ta xa, .iface ua ya])) ∧ w'.cell? ⟨q, 0, none⟩ = some (.iface 171 (.agg #[])))
    (first | exact ⟨ca, cb⟩ | exact HS.out _ hbr3 | exact HS.out _ hbr | exact HS.out _ hbr.drew)
    (first
      | (go_at_call 210; refine (PcOf.c (ys := xs) (by assumption) _).mono ?_; rintro e wq ⟨v', rfl, ownx, hbq⟩; obtain ⟨ax, cx, rfl⟩ := own_shape ownx; have hbr : Below w.heap.size w wq := (by first | exact below_after_of hbr hbq | exact below_after_of hbr.drew hbq))
      | (go_at_call 144; refine (PcOf.c (ys := ys) (by assumption) _).mono ?_; rintro e wr ⟨v', rfl, owny, hbr2⟩; obtain ⟨ay, cy, rfl⟩ := own_shape owny; have ownx := own_below ownx hbr2; have hbr : Below w.heap.size w wr := below_after_of hbr hbr2)
      | (go_at_call 103; refine (hL _ _ _ _ _ ownx owny).mono ?_; intro e wl hl; have hbl := hl.b; obtain rfl := hl.n rfl; have hbr3 : Below w.heap.size w wl := below_after_of hbr hbl))
  have cal := (HS.out _ hbr3).1
  have cbl := (HS.out _ hbr3).2
  have hpl : p < wl.heap.size := Nat.lt_of_lt_of_le hB.p hbr3.size
  have hql : q < wl.heap.size := Nat.lt_of_lt_of_le hB.q hbr3.size
  clear hl ownx owny hL ca cb hPa hPb hmA hmB
  go_wp2
  go_ret
  exact ⟨(hbr3.alloc hbr3.size _).alloc (hbr3.alloc hbr3.size _).size _, fun _ => rfl, fun _ _ e => by cases e⟩
set_option maxRecDepth 100000 in
set_option maxHeartbeats 2000000 in
theorem nw_hit_fl (ba : Int) (ta ua : TypeId) (xa ya : Value) (kb vb : Int) (xs ys : List Int) (p q : Nat) (w : World) (hPa : PcOf 210 (.agg #[.int .i64 ba, .iface ta xa, .iface ua ya]) xs) (hPb : PcOf 145 (.agg #[.int .i64 kb, .int .i64 vb]) ys) (hxs : Bts xs ∧ xs.length ≤ 200) (hys : Bts ys ∧ ys.length ≤ 200) (hB : TwoB w p q (.iface 168 (.agg #[.int .i64 ba, .iface ta xa, .iface ua ya])) (.iface 173 (.agg #[.int .i64 kb, .int .i64 vb]))) (hf : l2B xs ys = true) :
    Calls Tryz.prog 125 #[.pointer (some ⟨p, 0, none⟩), .pointer (some ⟨q, 0, none⟩)] w fun e w' => WkAns w (some (xs, ys)) e w' := by
  have hL := fun A B v u w hv hu => lookAt_any A B v u xs ys w hv hu hxs.1 hys.1 hxs.2 hys.2
  rw [ckO_yes hf] at hL
  have hmA := fun w => mt_f (.agg #[.int .i64 ba, .iface ta xa, .iface ua ya]) w
  have hmB := fun w => mt_l (.agg #[.int .i64 kb, .int .i64 vb]) w
  have hbr := Below.refl w.heap.size w
  have ca := hB.a
  have cb := hB.b
  have HS : Hid (∀ w', Below w.heap.size w w' → w'.cell? ⟨p, 0, none⟩ = some (.iface 168 (.agg #[.int .i64 ba, .iface ta xa, .iface ua ya])) ∧ w'.cell? ⟨q, 0, none⟩ = some (.iface 173 (.agg #[.int .i64 kb, .int .i64 vb]))) := fun w' h => ⟨(hB.below h).a, (hB.below h).b⟩
  go_enter Tryz.func125, Tryz.ntmps125
  go_wp2
  go_region_held3 (fun w' => w'.cell? ⟨p, 0, none⟩ = some (.iface 168 (.agg #[.int .i64 ba, .iface ta xa, .iface ua ya])) ∧ w'.cell? ⟨q, 0, none⟩ = some (.iface 173 (.agg #[.int .i64 kb, .int .i64 vb])))
    (first | exact ⟨ca, cb⟩ | exact HS.out _ hbr3 | exact HS.out _ hbr | exact HS.out _ hbr.drew)
    (first
      | (go_at_call 210; refine (PcOf.c (ys := xs) (by assumption) _).mono ?_; rintro e wq ⟨v', rfl, ownx, hbq⟩; obtain ⟨ax, cx, rfl⟩ := own_shape ownx; have hbr : Below w.heap.size w wq := (by first | exact below_after_of hbr hbq | exact below_after_of hbr.drew hbq))
      | (go_at_call 145; refine (PcOf.c (ys := ys) (by assumption) _).mono ?_; rintro e wr ⟨v', rfl, owny, hbr2⟩; obtain ⟨ay, cy, rfl⟩ := own_shape owny; have ownx := own_below ownx hbr2; have hbr : Below w.heap.size w wr := below_after_of hbr hbr2)
      | (go_at_call 103; refine (hL _ _ _ _ _ ownx owny).mono ?_; intro e wl hl; have hbl := hl.b; obtain ⟨a5, c5, a6, c6, rfl, hr5⟩ := hl.s _ _ rfl; have hbr3 : Below w.heap.size w wl := below_after_of hbr hbl))
  have HR5 : Hid (Rows2 wr wl (.slice a5 xs.length c5) (.slice a6 ys.length c6) true xs ys) := hr5
  clear hr5 hl ownx owny hL HS ca cb hPa hPb hmA hmB
  go_wp2
  go_ret
  refine ⟨hbr3, (fun h => by cases h), fun ls bs e => ?_⟩
  cases e
  exact ⟨a5, c5, a6, c6, rfl, HR5.out.under hbr.size⟩
set_option maxRecDepth 100000 in
set_option maxHeartbeats 2000000 in
theorem nw_miss_fl (ba : Int) (ta ua : TypeId) (xa ya : Value) (kb vb : Int) (xs ys : List Int) (p q : Nat) (w : World) (hPa : PcOf 210 (.agg #[.int .i64 ba, .iface ta xa, .iface ua ya]) xs) (hPb : PcOf 145 (.agg #[.int .i64 kb, .int .i64 vb]) ys) (hxs : Bts xs ∧ xs.length ≤ 200) (hys : Bts ys ∧ ys.length ≤ 200) (hB : TwoB w p q (.iface 168 (.agg #[.int .i64 ba, .iface ta xa, .iface ua ya])) (.iface 173 (.agg #[.int .i64 kb, .int .i64 vb]))) (hf : l2B xs ys = false) :
    Calls Tryz.prog 125 #[.pointer (some ⟨p, 0, none⟩), .pointer (some ⟨q, 0, none⟩)] w fun e w' => WkAns w (none) e w' := by
  have hL := fun A B v u w hv hu => lookAt_any A B v u xs ys w hv hu hxs.1 hys.1 hxs.2 hys.2
  rw [ckO_no hf] at hL
  have hAa := as_fork (.agg #[.int .i64 ba, .iface ta xa, .iface ua ya])
  have hAb := as_fork_leaf (.agg #[.int .i64 kb, .int .i64 vb])
  have hmA := fun w => mt_f (.agg #[.int .i64 ba, .iface ta xa, .iface ua ya]) w
  have hmB := fun w => mt_l (.agg #[.int .i64 kb, .int .i64 vb]) w
  have hbr := Below.refl w.heap.size w
  have ca := hB.a
  have cb := hB.b
  have HS : Hid (∀ w', Below w.heap.size w w' → w'.cell? ⟨p, 0, none⟩ = some (.iface 168 (.agg #[.int .i64 ba, .iface ta xa, .iface ua ya])) ∧ w'.cell? ⟨q, 0, none⟩ = some (.iface 173 (.agg #[.int .i64 kb, .int .i64 vb]))) := fun w' h => ⟨(hB.below h).a, (hB.below h).b⟩
  go_enter Tryz.func125, Tryz.ntmps125
  go_wp2
  go_region_held3 (fun w' => w'.cell? ⟨p, 0, none⟩ = some (.iface 168 (.agg #[.int .i64 ba, .iface ta xa, .iface ua ya])) ∧ w'.cell? ⟨q, 0, none⟩ = some (.iface 173 (.agg #[.int .i64 kb, .int .i64 vb])))
    (first | exact ⟨ca, cb⟩ | exact HS.out _ hbr3 | exact HS.out _ hbr | exact HS.out _ hbr.drew)
    (first
      | (go_at_call 210; refine (PcOf.c (ys := xs) (by assumption) _).mono ?_; rintro e wq ⟨v', rfl, ownx, hbq⟩; obtain ⟨ax, cx, rfl⟩ := own_shape ownx; have hbr : Below w.heap.size w wq := (by first | exact below_after_of hbr hbq | exact below_after_of hbr.drew hbq))
      | (go_at_call 145; refine (PcOf.c (ys := ys) (by assumption) _).mono ?_; rintro e wr ⟨v', rfl, owny, hbr2⟩; obtain ⟨ay, cy, rfl⟩ := own_shape owny; have ownx := own_below ownx hbr2; have hbr : Below w.heap.size w wr := below_after_of hbr hbr2)
      | (go_at_call 103; refine (hL _ _ _ _ _ ownx owny).mono ?_; intro e wl hl; have hbl := hl.b; obtain rfl := hl.n rfl; have hbr3 : Below w.heap.size w wl := below_after_of hbr hbl))
  have cal := (HS.out _ hbr3).1
  have cbl := (HS.out _ hbr3).2
  have hpl : p < wl.heap.size := Nat.lt_of_lt_of_le hB.p hbr3.size
  have hql : q < wl.heap.size := Nat.lt_of_lt_of_le hB.q hbr3.size
  clear hl ownx owny hL ca cb hPa hPb hmA hmB
  go_wp2
  go_ret
  exact ⟨(hbr3.alloc hbr3.size _).alloc (hbr3.alloc hbr3.size _).size _, fun _ => rfl, fun _ _ e => by cases e⟩
set_option maxRecDepth 100000 in
set_option maxHeartbeats 2000000 in
theorem nw_hit_ff (ba : Int) (ta ua : TypeId) (xa ya : Value) (bb : Int) (tb ub : TypeId) (xb yb : Value) (xs ys : List Int) (p q : Nat) (w : World) (hPa : PcOf 210 (.agg #[.int .i64 ba, .iface ta xa, .iface ua ya]) xs) (hPb : PcOf 210 (.agg #[.int .i64 bb, .iface tb xb, .iface ub yb]) ys) (hxs : Bts xs ∧ xs.length ≤ 200) (hys : Bts ys ∧ ys.length ≤ 200) (hB : TwoB w p q (.iface 168 (.agg #[.int .i64 ba, .iface ta xa, .iface ua ya])) (.iface 168 (.agg #[.int .i64 bb, .iface tb xb, .iface ub yb]))) (hf : l2B xs ys = true) :
    Calls Tryz.prog 125 #[.pointer (some ⟨p, 0, none⟩), .pointer (some ⟨q, 0, none⟩)] w fun e w' => WkAns w (some (xs, ys)) e w' := by
  have hL := fun A B v u w hv hu => lookAt_any A B v u xs ys w hv hu hxs.1 hys.1 hxs.2 hys.2
  rw [ckO_yes hf] at hL
  have hmA := fun w => mt_f (.agg #[.int .i64 ba, .iface ta xa, .iface ua ya]) w
  have hmB := fun w => mt_f (.agg #[.int .i64 bb, .iface tb xb, .iface ub yb]) w
  have hbr := Below.refl w.heap.size w
  have ca := hB.a
  have cb := hB.b
  have HS : Hid (∀ w', Below w.heap.size w w' → w'.cell? ⟨p, 0, none⟩ = some (.iface 168 (.agg #[.int .i64 ba, .iface ta xa, .iface ua ya])) ∧ w'.cell? ⟨q, 0, none⟩ = some (.iface 168 (.agg #[.int .i64 bb, .iface tb xb, .iface ub yb]))) := fun w' h => ⟨(hB.below h).a, (hB.below h).b⟩
  go_enter Tryz.func125, Tryz.ntmps125
  go_wp2
  go_region_held3 (fun w' => w'.cell? ⟨p, 0, none⟩ = some (.iface 168 (.agg #[.int .i64 ba, .iface ta xa, .iface ua ya])) ∧ w'.cell? ⟨q, 0, none⟩ = some (.iface 168 (.agg #[.int .i64 bb, .iface tb xb, .iface ub yb])))
    (first | exact ⟨ca, cb⟩ | exact HS.out _ hbr3 | exact HS.out _ hbr | exact HS.out _ hbr.drew)
    (first
      | (go_at_call 210; refine (PcOf.c (ys := xs) (by assumption) _).mono ?_; rintro e wq ⟨v', rfl, ownx, hbq⟩; obtain ⟨ax, cx, rfl⟩ := own_shape ownx; have hbr : Below w.heap.size w wq := (by first | exact below_after_of hbr hbq | exact below_after_of hbr.drew hbq))
      | (go_at_call 210; refine (PcOf.c (ys := ys) (by assumption) _).mono ?_; rintro e wr ⟨v', rfl, owny, hbr2⟩; obtain ⟨ay, cy, rfl⟩ := own_shape owny; have ownx := own_below ownx hbr2; have hbr : Below w.heap.size w wr := below_after_of hbr hbr2)
      | (go_at_call 103; refine (hL _ _ _ _ _ ownx owny).mono ?_; intro e wl hl; have hbl := hl.b; obtain ⟨a5, c5, a6, c6, rfl, hr5⟩ := hl.s _ _ rfl; have hbr3 : Below w.heap.size w wl := below_after_of hbr hbl))
  have HR5 : Hid (Rows2 wr wl (.slice a5 xs.length c5) (.slice a6 ys.length c6) true xs ys) := hr5
  clear hr5 hl ownx owny hL HS ca cb hPa hPb hmA hmB
  go_wp2
  go_ret
  refine ⟨hbr3, (fun h => by cases h), fun ls bs e => ?_⟩
  cases e
  exact ⟨a5, c5, a6, c6, rfl, HR5.out.under hbr.size⟩
end U
end Go.Proofs.YtljbcpkjhnbpeaaGreatDoor

/- Proofs of the new tree, by mathematics alone: the faults of trails, and what comes of climbing them. -/
namespace Go.Proofs.YtljbcpkjhnbpeaaGreatDoor
namespace U
/-- The bit of the fork ahead of a place. -/
def ahd (f : Prl) (k : Nat) : Int := if k = 0 then -1 else (pAt f (k - 1)).1
theorem ahd_zero (f : Prl) : ahd f 0 = -1 := rfl
theorem ahd_succ (f : Prl) (k : Nat) : ahd f (k + 1) = (pAt f k).1 := by unfold ahd; rw [if_neg (by omega), Nat.add_sub_cancel]
/-- Is a fork in range? -/
def fkB (p : Int × Int) : Bool := inB p.1 0 7 && sumB p.2
/-- The code of one fork behind the bit of the one ahead. -/
def fk1 (a : Int) (p : Int × Int) : Int := if fkB p then (if p.1 ≤ a then 1 else 0) else 3
/-- The first code of the forks up to a place. -/
def fkS (f : Prl) : Nat → Int
  | 0 => 0
  | k + 1 => if fkS f k = 0 then fk1 (ahd f k) (pAt f k) else fkS f k
def fkF (f : Prl) : Int := fkS f f.length
theorem fkS_stop {f : Prl} {k : Nat} (h : fkS f k ≠ 0) : ∀ m, k ≤ m → fkS f m = fkS f k := by
  intro m hm
  induction m with
  | zero => rw [show k = 0 by omega]
  | succ m ih =>
    by_cases e : k = m + 1
    · rw [e]
    · have := ih (by omega)
      rw [fkS, this, if_neg h]
theorem fkS_ok {f : Prl} {m : Nat} (h : fkS f m = 0) : ∀ k, k ≤ m → fkS f k = 0 := by
  intro k hk
  by_cases e : fkS f k = 0
  · exact e
  · rw [← fkS_stop e m hk]; exact h
theorem fkS_at {f : Prl} {m : Nat} (h : fkS f m = 0) {k : Nat} (hk : k < m) : fkB (pAt f k) = true ∧ ahd f k < (pAt f k).1 := by
  have h1 := fkS_ok h (k + 1) hk
  have h2 := fkS_ok h k (Nat.le_of_lt hk)
  rw [fkS, if_pos h2] at h1
  unfold fk1 at h1
  split at h1
  · rename_i e
    split at h1
    · cases h1
    · rename_i e2; exact ⟨e, by omega⟩
  · cases h1
/-- The fault of a trail. -/
def tlF (x : Bool) (k v : Int) (f : Prl) : Int :=
  if x = false ∧ ((k, v) ≠ (0, 0) ∨ 0 < f.length) then 1 else if fine (k, v) = false then 3 else if 8 < f.length then 2 else fkF f
structure TlOk (x : Bool) (k v : Int) (f : Prl) : Prop where
  any : x = false → k = 0 ∧ v = 0 ∧ f = []
  leaf : fine (k, v) = true
  len : f.length ≤ 8
  fk : fkF f = 0
theorem tlF_ok {x : Bool} {k v : Int} {f : Prl} (h : tlF x k v f = 0) : TlOk x k v f := by
  unfold tlF at h
  split at h
  · cases h
  · rename_i h1
    split at h
    · cases h
    · rename_i h2
      split at h
      · cases h
      · rename_i h3
        refine ⟨fun hx => ?_, by simpa using h2, by omega, h⟩
        have h4 : (k, v) = (0, 0) := Classical.byContradiction fun e => h1 ⟨hx, Or.inl e⟩
        have h5 : f.length = 0 := by
          have : ¬ 0 < f.length := fun e => h1 ⟨hx, Or.inr e⟩
          omega
        cases h4
        exact ⟨rfl, rfl, List.eq_nil_of_length_eq_zero h5⟩
theorem tlF_all {x : Bool} {k v : Int} {f : Prl} (h : TlOk x k v f) : tlF x k v f = 0 := by
  unfold tlF
  rw [if_neg, if_neg (by rw [h.leaf]; decide), if_neg (by have := h.len; omega)]
  · exact h.fk
  · rintro ⟨hx, hh⟩
    obtain ⟨rfl, rfl, rfl⟩ := h.any hx
    rcases hh with hh | hh
    · exact hh rfl
    · simp at hh
/-- The pieces of a fork: what is summed. -/
def ndL (key b o s : Int) : List Int := if bitN key b.toNat = 0 then [b, s, o] else [b, o, s]
def ndS (key b o s : Int) : Int := sumL (tagL 5 (ndL key b o s))
/-- What comes of climbing the first forks. -/
def clmN (key : Int) (f : Prl) (s : Int) : Nat → Int
  | 0 => s
  | k + 1 => ndS key (pAt f k).1 (pAt f k).2 (clmN key f s k)
def lfS (x : Bool) (k v : Int) : Int := if x then sumL (tagL 4 [k, v]) else sumL (tagL 9 [])
def clV (key : Int) (x : Bool) (k v : Int) (f : Prl) : Int := clmN key f (lfS x k v) f.length
theorem clmN_bd {key : Int} {f : Prl} {s : Int} (hs : 0 ≤ s ∧ s ≤ 65520) : ∀ k, 0 ≤ clmN key f s k ∧ clmN key f s k ≤ 65520
  | 0 => hs
  | _ + 1 => sumL_bd _
theorem lfS_bd (x : Bool) (k v : Int) : 0 ≤ lfS x k v ∧ lfS x k v ≤ 65520 := by unfold lfS; split <;> exact sumL_bd _
theorem fkB_bd {p : Int × Int} (h : fkB p = true) : (0 ≤ p.1 ∧ p.1 ≤ 7) ∧ (0 ≤ p.2 ∧ p.2 ≤ 65520) := by
  unfold fkB at h
  rw [Bool.and_eq_true] at h
  exact ⟨inB_bd h.1, (sumB_iff _).1 h.2⟩
theorem ndL_len (key b o s : Int) : (ndL key b o s).length = 3 := by unfold ndL; split <;> rfl
theorem ndL_ok {key b o s : Int} (hb : 0 ≤ b ∧ b ≤ 7) (ho : 0 ≤ o ∧ o ≤ 65520) (hs : 0 ≤ s ∧ s ≤ 65520) : (ndL key b o s).all sumB = true := by
  unfold ndL
  split <;> (simp [sumB_iff]; omega)
end U
end Go.Proofs.YtljbcpkjhnbpeaaGreatDoor

/- More on the codes of forks. -/
namespace Go.Proofs.YtljbcpkjhnbpeaaGreatDoor
namespace U
theorem fk1_no {a : Int} {p : Int × Int} (h : fkB p = false) : fk1 a p = 3 := by unfold fk1; rw [h]; rfl
theorem fk1_low {a : Int} {p : Int × Int} (h : fkB p = true) (h2 : p.1 ≤ a) : fk1 a p = 1 := by unfold fk1; rw [h, if_pos rfl, if_pos h2]
theorem fk1_ok {a : Int} {p : Int × Int} (h : fkB p = true) (h2 : ¬ p.1 ≤ a) : fk1 a p = 0 := by unfold fk1; rw [h, if_pos rfl, if_neg h2]
theorem fkS_next {f : Prl} {j : Nat} (h : fkS f j = 0) : fkS f (j + 1) = fk1 (ahd f j) (pAt f j) := by rw [fkS, if_pos h]
theorem fkF_stop {f : Prl} {j : Nat} {q : Int} (h : fkS f j = 0) (hj : j + 1 ≤ f.length) (h1 : fk1 (ahd f j) (pAt f j) = q) (hq : q ≠ 0) : fkF f = q := by
  rw [← h1, ← fkS_next h]
  exact fkS_stop (by rw [fkS_next h, h1]; exact hq) _ hj
end U
end Go.Proofs.YtljbcpkjhnbpeaaGreatDoor

/- The trail of a key in the new tree: its bits rise, it has no fault, and climbing it leads to the root. -/
namespace Go.Proofs.YtljbcpkjhnbpeaaGreatDoor
namespace U
/-- Forks in range whose bits rise, all below a bound. -/
structure Rise (ws : Prl) (B : Int) : Prop where
  ok : ∀ p ∈ ws, fkB p = true
  ris : Ris ws
  top : ∀ p ∈ ws, p.1 < B
theorem rise_nil (B : Int) : Rise [] B := ⟨(fun p hp => by cases hp), List.Pairwise.nil, (fun p hp => by cases hp)⟩
theorem rise_snoc {ws : Prl} {b s B : Int} (h : Rise ws b) (hf : fkB (b, s) = true) (hb : b < B) : Rise (ws ++ [(b, s)]) B := by
  refine ⟨fun p hp => ?_, ?_, fun p hp => ?_⟩
  · rcases List.mem_append.1 hp with hp | hp
    · exact h.ok p hp
    · rw [List.mem_singleton.1 hp]; exact hf
  · refine List.pairwise_append.2 ⟨h.ris, List.pairwise_singleton _ _, fun p hp q hq => ?_⟩
    rw [List.mem_singleton.1 hq]
    exact h.top p hp
  · rcases List.mem_append.1 hp with hp | hp
    · have := h.top p hp; omega
    · rw [List.mem_singleton.1 hp]; exact hb
theorem agree_up {x y : Int} {b c : Nat} (h : x / (2 ^ b : Nat) = y / (2 ^ b : Nat)) (hc : b ≤ c) : x / (2 ^ c : Nat) = y / (2 ^ c : Nat) := by
  obtain ⟨d, rfl⟩ : ∃ d, c = b + d := ⟨c - b, by omega⟩
  rw [Nat.pow_add, Int.natCast_mul, ← Int.ediv_ediv_of_nonneg (Int.natCast_nonneg _), ← Int.ediv_ediv_of_nonneg (Int.natCast_nonneg _), h]
theorem fb_below {l : Prl} {b B : Nat} (h : FB l b) (h0 : 0 < l.length) (hB : ∀ p ∈ l, ∀ q ∈ l, p.1 / (2 ^ B : Nat) = q.1 / (2 ^ B : Nat)) : b < B := by
  refine Classical.byContradiction fun hn => ?_
  have h1 := hB _ (pAt_mem h0) _ (pAt_mem (show l.length - 1 < l.length by omega))
  have h2 := agree_up h1 (show B ≤ b by omega)
  have h3 := h.lo
  have h4 := h.hi
  unfold bitN at h3 h4
  rw [h2] at h3
  omega
theorem sd_agree {l : Prl} {b : Nat} {s : Int} (h : FB l b) (h0 : 0 < l.length) : ∀ p ∈ sd l b s, ∀ q ∈ sd l b s, p.1 / (2 ^ b : Nat) = q.1 / (2 ^ b : Nat) := by
  intro p hp q hq
  have h1 := fb_mid h h0 (sd_mem.1 hp).1
  have h2 := fb_mid h h0 (sd_mem.1 hq).1
  have h3 := (sd_mem.1 hp).2
  have h4 := (sd_mem.1 hq).2
  omega
theorem fkB_mk {b : Nat} (hb : b ≤ 7) (t : Tr) : fkB ((b : Int), t.sum) = true := by
  have := t.sum_bd
  unfold fkB
  rw [Bool.and_eq_true]
  refine ⟨?_, (sumB_iff _).2 this⟩
  unfold inB
  rw [decide_eq_true_iff]
  dsimp only
  omega
theorem way_rise {l : Prl} {t : Tr} (h : IsTr l t) (key : Int) : ∀ B : Nat, (∀ p ∈ l, ∀ q ∈ l, p.1 / (2 ^ B : Nat) = q.1 / (2 ^ B : Nat)) → Rise (t.way key) (B : Int) := by
  induction h using IsTr.ind with
  | none => intro B _; exact rise_nil _
  | leaf k v => intro B _; exact rise_nil _
  | fork h2 hb h3 h4 ih1 ih2 =>
    intro B hB
    have hlt := fb_below hb (by omega) hB
    rw [Tr.way_fork]
    split
    · exact rise_snoc (ih1 _ (sd_agree hb (by omega))) (fkB_mk hb.le _) (by omega)
    · exact rise_snoc (ih2 _ (sd_agree hb (by omega))) (fkB_mk hb.le _) (by omega)
theorem way_up {l : Prl} {t : Tr} (h : IsTr l t) (hs : Sls l) (key : Int) : Rise (t.way key) 8 :=
  way_rise h key 8 (fun p hp q hq => by
    have h1 := (fine_bd (hs.fin p hp)).1
    have h2 := (fine_bd (hs.fin q hq)).1
    show p.1 / 256 = q.1 / 256
    omega)
theorem rise_at {ws : Prl} {B : Int} (h : Rise ws B) : ∀ j, j < ws.length → (j : Int) ≤ (pAt ws j).1
  | 0, h0 => (fkB_bd (h.ok _ (pAt_mem h0))).1.1
  | j + 1, hj => by
    have h1 := rise_at h j (by omega)
    have h2 := ris_at h.ris (show j < j + 1 by omega) hj
    omega
theorem rise_len {ws : Prl} (h : Rise ws 8) : ws.length ≤ 8 := by
  refine Classical.byContradiction fun hn => ?_
  have h1 := rise_at h 8 (by omega)
  have h2 := h.top _ (pAt_mem (show 8 < ws.length by omega))
  omega
theorem rise_fk {ws : Prl} {B : Int} (h : Rise ws B) : fkF ws = 0 := by
  have : ∀ k, k ≤ ws.length → fkS ws k = 0 := by
    intro k
    induction k with
    | zero => intro _; rfl
    | succ k ih =>
      intro hk
      rw [fkS_next (ih (by omega))]
      refine fk1_ok (h.ok _ (pAt_mem (by omega))) ?_
      rcases k with _ | i
      · rw [ahd_zero]
        have := (fkB_bd (h.ok _ (pAt_mem (show 0 < ws.length by omega)))).1.1
        omega
      · rw [ahd_succ]
        have := ris_at h.ris (show i < i + 1 by omega) (show i + 1 < ws.length by omega)
        omega
  exact this _ (Nat.le_refl _)
theorem pAt_app {ws vs : Prl} {j : Nat} (h : j < ws.length) : pAt (ws ++ vs) j = pAt ws j := by
  rw [pAt_eq h, pAt_eq (show j < (ws ++ vs).length by rw [List.length_append]; omega), List.getElem_append_left h]
theorem pAt_last (ws : Prl) (p : Int × Int) : pAt (ws ++ [p]) ws.length = p := by
  rw [pAt_eq (show ws.length < (ws ++ [p]).length by simp)]
  simp
theorem clm_app (key : Int) (ws vs : Prl) (s : Int) : ∀ k, k ≤ ws.length → clmN key (ws ++ vs) s k = clmN key ws s k
  | 0, _ => rfl
  | k + 1, hk => by
    show ndS key (pAt (ws ++ vs) k).1 (pAt (ws ++ vs) k).2 (clmN key (ws ++ vs) s k) = ndS key (pAt ws k).1 (pAt ws k).2 (clmN key ws s k)
    rw [pAt_app (by omega), clm_app key ws vs s k (by omega)]
theorem clm_snoc (key : Int) (ws : Prl) (b o s : Int) : clmN key (ws ++ [(b, o)]) s (ws ++ [(b, o)]).length = ndS key b o (clmN key ws s ws.length) := by
  rw [List.length_append]
  show ndS key (pAt (ws ++ [(b, o)]) ws.length).1 (pAt (ws ++ [(b, o)]) ws.length).2 (clmN key (ws ++ [(b, o)]) s ws.length) = _
  rw [pAt_last, clm_app key ws _ s _ (Nat.le_refl _)]
theorem climb_way {l : Prl} {t : Tr} (h : IsTr l t) (key : Int) : 0 < l.length → clmN key (t.way key) (lfS true (t.near key).1 (t.near key).2) (t.way key).length = t.sum := by
  induction h using IsTr.ind with
  | none => intro h0; simp at h0
  | leaf k v => intro _; rfl
  | fork h2 hb h3 h4 ih1 ih2 =>
    intro h0
    rename_i l b L R
    rw [Tr.way_fork, Tr.near_fork]
    by_cases hz : bitN key b = 0
    · rw [if_pos hz, if_pos hz, clm_snoc, ih1 (fb_some hb h0 (Or.inl rfl))]
      unfold ndS ndL
      rw [show ((b : Int)).toNat = b by omega, if_pos hz]
      rfl
    · rw [if_neg hz, if_neg hz, clm_snoc, ih2 (fb_some hb h0 (Or.inr rfl))]
      unfold ndS ndL
      rw [show ((b : Int)).toNat = b by omega, if_neg hz]
      rfl
theorem way_ok {l : Prl} {t : Tr} (h : IsTr l t) (hs : Sls l) (key : Int) (h0 : 0 < l.length) : TlOk true (t.near key).1 (t.near key).2 (t.way key) :=
  ⟨(fun e => by cases e), hs.fin _ (h.led key h0), rise_len (way_up h hs key), rise_fk (way_up h hs key)⟩
theorem none_ok : TlOk false 0 0 [] := ⟨fun _ => ⟨rfl, rfl, rfl⟩, rfl, by simp, rfl⟩
end U
end Go.Proofs.YtljbcpkjhnbpeaaGreatDoor

/- A clash in what the new tree shows, by mathematics: where there is none, what is shown is so. -/
namespace Go.Proofs.YtljbcpkjhnbpeaaGreatDoor
namespace U
theorem numB_inj8 {a b : Int} (h : numB a = numB b) : a = b := by
  unfold numB at h
  simp only [List.cons.injEq, and_true] at h
  omega
theorem tag2_inj8 {t a b c d : Int} (h : tagL t [a, b] = tagL t [c, d]) : a = c ∧ b = d := by
  unfold tagL at h
  simp only [List.flatMap_cons, List.flatMap_nil, List.append_nil, List.cons.injEq, true_and] at h
  have h1 := List.append_inj_left h (by simp [numB])
  have h2 := List.append_inj_right h (by simp [numB])
  exact ⟨numB_inj8 h1, numB_inj8 h2⟩
theorem tag3_inj8 {t a b c d e f : Int} (h : tagL t [a, b, c] = tagL t [d, e, f]) : a = d ∧ b = e ∧ c = f := by
  unfold tagL at h
  simp only [List.flatMap_cons, List.flatMap_nil, List.append_nil, List.cons.injEq, true_and] at h
  have h1 := List.append_inj_left h (by simp [numB])
  have h2 := List.append_inj_right h (by simp [numB])
  have h3 := List.append_inj_left h2 (by simp [numB])
  have h4 := List.append_inj_right h2 (by simp [numB])
  exact ⟨numB_inj8 h1, numB_inj8 h3, numB_inj8 h4⟩
theorem tag_head {t u : Int} {xs ys : List Int} (h : tagL t xs = tagL u ys) : t = u := by
  unfold tagL at h
  exact (List.cons.inj h).1
theorem l2B_same8 {a b : List Int} (h : l2B a b = false) (hs : sumL a = sumL b) : a = b := by
  unfold l2B at h
  have := of_decide_eq_false h
  apply Classical.byContradiction
  intro e
  exact this ⟨hs, e⟩
/-- The side of a tree to which a key is led. -/
def chd (key : Int) (t : Tr) : Tr := t.fo Tr.none (fun _ _ => Tr.none) (fun b l r _ _ => if bitN key b = 0 then l else r)
theorem chd_fork (key : Int) (b : Nat) (l r : Tr) : chd key (Tr.fork b l r) = if bitN key b = 0 then l else r := rfl
/-- The piece of the fork at a place of a trail. -/
def npL (key : Int) (f : Prl) (s : Int) (i : Nat) : List Int := tagL 5 (ndL key (pAt f i).1 (pAt f i).2 (clmN key f s i))
/-- The two pieces at which the walk down a trail and a tree ends. -/
def ncT (key : Int) (f : Prl) (s : Int) (lf : List Int) : Nat → Tr → List Int × List Int
  | 0, t => (lf, t.bts)
  | i + 1, t => if l2B (npL key f s i) t.bts = true then (npL key f s i, t.bts) else ncT key f s lf i (chd key t)
theorem ncT_yes {key : Int} {f : Prl} {s : Int} {lf : List Int} {i : Nat} {t : Tr} (h : l2B (npL key f s i) t.bts = true) : ncT key f s lf (i + 1) t = (npL key f s i, t.bts) := by rw [ncT, if_pos h]
theorem ncT_no {key : Int} {f : Prl} {s : Int} {lf : List Int} {i : Nat} {t : Tr} (h : l2B (npL key f s i) t.bts = false) : ncT key f s lf (i + 1) t = ncT key f s lf i (chd key t) := by rw [ncT, h]; simp
/-- Where a fork's piece is that of a tree, the tree is that fork, and the side of the key has the sum that was climbed. -/
theorem np_fork {key : Int} {b o s : Int} {l : Prl} {t : Tr} (h : IsTr l t) (hb : 0 ≤ b) (e : tagL 5 (ndL key b o s) = t.bts) :
    ∃ L R, t = Tr.fork b.toNat L R ∧ 2 ≤ l.length ∧ FB l b.toNat ∧ IsTr (sd l b.toNat 0) L ∧ IsTr (sd l b.toNat 1) R ∧ (chd key t).sum = s := by
  induction h using IsTr.cs with
  | none => rw [Tr.bts_none] at e; have := tag_head e; omega
  | leaf k v => rw [Tr.bts_leaf] at e; have := tag_head e; omega
  | fork h2 hb2 h3 h4 =>
    rename_i l c L R
    rw [Tr.bts_fork] at e
    unfold ndL at e
    by_cases hz : bitN key b.toNat = 0
    · rw [if_pos hz] at e
      obtain ⟨e1, e2, e3⟩ := tag3_inj8 e
      have ec : c = b.toNat := by omega
      subst ec
      exact ⟨L, R, rfl, h2, hb2, h3, h4, by rw [chd_fork, if_pos hz]; exact e2.symm⟩
    · rw [if_neg hz] at e
      obtain ⟨e1, e2, e3⟩ := tag3_inj8 e
      have ec : c = b.toNat := by omega
      subst ec
      exact ⟨L, R, rfl, h2, hb2, h3, h4, by rw [chd_fork, if_neg hz]; exact e3.symm⟩
/-- Where no clash is found on the way down, a leaf that was shown is the slot to which the key is led. -/
theorem nc_leaf {key : Int} {f : Prl} {k y : Int} (hf : ∀ p ∈ f, 0 ≤ p.1) : ∀ (i : Nat) {l : Prl} {t : Tr}, i ≤ f.length → IsTr l t → clmN key f (sumL (tagL 4 [k, y])) i = t.sum →
    l2B (ncT key f (sumL (tagL 4 [k, y])) (tagL 4 [k, y]) i t).1 (ncT key f (sumL (tagL 4 [k, y])) (tagL 4 [k, y]) i t).2 = false → 0 < l.length ∧ t.near key = (k, y) := by
  intro i
  induction i with
  | zero =>
    intro l t _ ht hs hn
    have e := l2B_same8 hn hs
    change tagL 4 [k, y] = t.bts at e
    induction ht using IsTr.cs with
    | none => rw [Tr.bts_none] at e; have := tag_head e; omega
    | leaf k' v' =>
      rw [Tr.bts_leaf] at e
      obtain ⟨rfl, rfl⟩ := tag2_inj8 e
      exact ⟨by simp, rfl⟩
    | fork h2 hb h3 h4 => rw [Tr.bts_fork] at e; have := tag_head e; omega
  | succ i ih =>
    intro l t hi ht hs hn
    rcases Bool.eq_false_or_eq_true (l2B (npL key f (sumL (tagL 4 [k, y])) i) t.bts) with hc | hc
    · rw [ncT_yes hc] at hn
      rw [hc] at hn
      cases hn
    · rw [ncT_no hc] at hn
      have e := l2B_same8 hc hs
      have hb0 := hf _ (pAt_mem (show i < f.length by omega))
      obtain ⟨L, R, rfl, h2, hb, h3, h4, hcs⟩ := np_fork ht hb0 e
      rw [chd_fork] at hn hcs
      rw [Tr.near_fork]
      by_cases hz : bitN key (pAt f i).1.toNat = 0
      · rw [if_pos hz] at hn hcs ⊢
        exact ⟨by omega, (ih (by omega) h3 hcs.symm hn).2⟩
      · rw [if_neg hz] at hn hcs ⊢
        exact ⟨by omega, (ih (by omega) h4 hcs.symm hn).2⟩
/-- Where no clash is found, nothing that was shown is nothing that there is. -/
theorem nc_none {key : Int} {l : Prl} {t : Tr} (ht : IsTr l t) (hs : sumL (tagL 9 []) = t.sum) (hn : l2B (ncT key [] (sumL (tagL 9 [])) (tagL 9 []) 0 t).1 (ncT key [] (sumL (tagL 9 [])) (tagL 9 []) 0 t).2 = false) : l = [] := by
  have e := l2B_same8 hn hs
  change tagL 9 [] = t.bts at e
  induction ht using IsTr.cs with
  | none => rfl
  | leaf k' v' => rw [Tr.bts_leaf] at e; have := tag_head e; omega
  | fork h2 hb h3 h4 => rw [Tr.bts_fork] at e; have := tag_head e; omega
end U
end Go.Proofs.YtljbcpkjhnbpeaaGreatDoor

/- A clash in two new trees of one root, by mathematics: where there is none, the slots are the same. -/
namespace Go.Proofs.YtljbcpkjhnbpeaaGreatDoor
namespace U
/-- The first two pieces of one sum that are not the same, down both trees. -/
def tcl (a : Tr) : Tr → Option (List Int × List Int) :=
  a.fo (fun t => if l2B Tr.none.bts t.bts = true then some (Tr.none.bts, t.bts) else none) (fun k v t => if l2B (Tr.leaf k v).bts t.bts = true then some ((Tr.leaf k v).bts, t.bts) else none)
    (fun b l r fl fr t => if l2B (Tr.fork b l r).bts t.bts = true then some ((Tr.fork b l r).bts, t.bts) else t.fo none (fun _ _ => none) (fun _ l' r' _ _ => match fl l' with | some c => some c | none => fr r'))
theorem tcl_none (t : Tr) : tcl Tr.none t = if l2B Tr.none.bts t.bts = true then some (Tr.none.bts, t.bts) else none := rfl
theorem tcl_leaf (k v : Int) (t : Tr) : tcl (Tr.leaf k v) t = if l2B (Tr.leaf k v).bts t.bts = true then some ((Tr.leaf k v).bts, t.bts) else none := rfl
theorem tcl_yes {b : Nat} {l r t : Tr} (h : l2B (Tr.fork b l r).bts t.bts = true) : tcl (Tr.fork b l r) t = some ((Tr.fork b l r).bts, t.bts) := by
  show (if l2B (Tr.fork b l r).bts t.bts = true then _ else _) = _
  rw [if_pos h]
theorem tcl_fork {b c : Nat} {l r l' r' : Tr} (h : l2B (Tr.fork b l r).bts (Tr.fork c l' r').bts = false) : tcl (Tr.fork b l r) (Tr.fork c l' r') = match tcl l l' with | some c => some c | none => tcl r r' := by
  show (if l2B (Tr.fork b l r).bts (Tr.fork c l' r').bts = true then _ else _) = _
  rw [if_neg (by rw [h]; decide)]
  rfl
theorem sd_all {l : Prl} {b : Nat} (hr : Ris l) (h : FB l b) (h0 : 0 < l.length) : l = sd l b 0 ++ sd l b 1 := by
  rw [sd_zero hr h h0, sd_one hr h h0, List.take_append_drop]
theorem tcl_same {l : Prl} {a : Tr} (ha : IsTr l a) : ∀ {m : Prl} {b : Tr}, IsTr m b → Sls l → Sls m → a.sum = b.sum → tcl a b = none → l = m := by
  induction ha using IsTr.ind with
  | none =>
    intro m b hb _ _ hs hn
    have h1 : l2B Tr.none.bts b.bts = false := by
      rcases Bool.eq_false_or_eq_true (l2B Tr.none.bts b.bts) with h | h
      · rw [tcl_none, if_pos h] at hn; cases hn
      · exact h
    have e := l2B_same8 h1 hs
    rw [Tr.bts_none] at e
    induction hb using IsTr.cs with
    | none => rfl
    | leaf k v => rw [Tr.bts_leaf] at e; have := tag_head e; omega
    | fork _ _ _ _ => rw [Tr.bts_fork] at e; have := tag_head e; omega
  | leaf k v =>
    intro m b hb _ _ hs hn
    have h1 : l2B (Tr.leaf k v).bts b.bts = false := by
      rcases Bool.eq_false_or_eq_true (l2B (Tr.leaf k v).bts b.bts) with h | h
      · rw [tcl_leaf, if_pos h] at hn; cases hn
      · exact h
    have e := l2B_same8 h1 hs
    rw [Tr.bts_leaf] at e
    induction hb using IsTr.cs with
    | none => rw [Tr.bts_none] at e; have := tag_head e; omega
    | leaf k' v' =>
      rw [Tr.bts_leaf] at e
      obtain ⟨rfl, rfl⟩ := tag2_inj8 e
      rfl
    | fork _ _ _ _ => rw [Tr.bts_fork] at e; have := tag_head e; omega
  | fork h2 hb2 h3 h4 ih1 ih2 =>
    rename_i l c L R
    intro m b hb hsl hsm hs hn
    have h1 : l2B (Tr.fork c L R).bts b.bts = false := by
      rcases Bool.eq_false_or_eq_true (l2B (Tr.fork c L R).bts b.bts) with h | h
      · rw [tcl_yes h] at hn; cases hn
      · exact h
    have e := l2B_same8 h1 hs
    rw [Tr.bts_fork] at e
    induction hb using IsTr.cs with
    | none => rw [Tr.bts_none] at e; have := tag_head e; omega
    | leaf k' v' => rw [Tr.bts_leaf] at e; have := tag_head e; omega
    | fork k2 kb k3 k4 =>
      rename_i m c' L' R'
      rw [Tr.bts_fork] at e
      obtain ⟨e1, e2, e3⟩ := tag3_inj8 e
      have ec : c' = c := by omega
      subst ec
      rw [tcl_fork h1] at hn
      have hl : tcl L L' = none := by
        rcases hh : tcl L L' with _ | x
        · rfl
        · rw [hh] at hn; cases hn
      rw [hl] at hn
      have q1 := ih1 k3 (sd_sls hsl _ _) (sd_sls hsm _ _) e2 hl
      have q2 := ih2 k4 (sd_sls hsl _ _) (sd_sls hsm _ _) e3 hn
      rw [sd_all hsl.ris hb2 (by omega), sd_all hsm.ris kb (by omega), q1, q2]
end U
end Go.Proofs.YtljbcpkjhnbpeaaGreatDoor

/- The walk down two new trees, as the program goes: at every two trees. -/
namespace Go.Proofs.YtljbcpkjhnbpeaaGreatDoor
open Go.RowKit
namespace U
/-- The first clash, or else the other one. -/
def ckOr (a b : Ck) : Ck := match a with | some c => some c | none => b
theorem ckOr_none (b : Ck) : ckOr none b = b := rfl
theorem ckOr_some (c : List Int × List Int) (b : Ck) : ckOr (some c) b = some c := rfl
/-- The walk of two values, wherever they are boxed. -/
structure NwAt (x y : Value) (o : Ck) : Prop where
  c : ∀ p q w, TwoB w p q x y → Calls Tryz.prog 125 #[.pointer (some ⟨p, 0, none⟩), .pointer (some ⟨q, 0, none⟩)] w fun e w' => WkAns w o e w'
/-- A box of a fork. -/
structure FkB (w : World) (g : Nat) (b x y : Value) : Prop where
  a : w.cell? ⟨g, 0, none⟩ = some b
  b : w.cell? ⟨g, 1, none⟩ = some x
  c : w.cell? ⟨g, 1 + 1, none⟩ = some y
  lt : g < w.heap.size
theorem FkB.below {w w' : World} {g : Nat} {b x y : Value} (h : FkB w g b x y) (hb : Below w.heap.size w w') : FkB w' g b x y :=
  ⟨(hb.cell (p := ⟨g, 0, none⟩) h.lt).trans h.a, (hb.cell (p := ⟨g, 1, none⟩) h.lt).trans h.b, (hb.cell (p := ⟨g, 1 + 1, none⟩) h.lt).trans h.c, Nat.lt_of_lt_of_le h.lt hb.size⟩
theorem FkB.new (w : World) (b x y : Value) (t : TypeId) : FkB (w.alloc (.cells #[b, x, y] t)) w.heap.size b x y := by
  have h := heap_alloc_new w (.cells #[b, x, y] t)
  obtain ⟨h0, h1, h2⟩ := three_cellsT h
  exact ⟨h0, h1, h2, by simp⟩
theorem newTreesWalk_box (t u : TypeId) (x y : Value) (w : World) : Calls Tryz.prog 70 #[.iface t x, .iface u y] w fun e w' => ∃ p q, e = .returned (.func (.func 125) #[] #[.pointer (some ⟨p, 0, none⟩), .pointer (some ⟨q, 0, none⟩)]) ∧ Below w.heap.size w w' ∧ TwoB w' p q (.iface t x) (.iface u y) := by
  refine (newTreesWalk_any t u x y w).mono ?_
  rintro e w' ⟨rfl, rfl⟩
  exact ⟨_, _, rfl, two_new _ _, two_boxes _ _ _ _ _⟩
set_option maxRecDepth 100000 in
set_option maxHeartbeats 4000000 in
theorem nw_ff (ba : Int) (ta ua : TypeId) (xa ya : Value) (bb : Int) (tb ub : TypeId) (xb yb : Value) (xs ys : List Int) (p q : Nat) (w : World) (o0 o1 : Ck) (hPa : PcOf 210 (.agg #[.int .i64 ba, .iface ta xa, .iface ua ya]) xs) (hPb : PcOf 210 (.agg #[.int .i64 bb, .iface tb xb, .iface ub yb]) ys) (hxs : Bts xs ∧ xs.length ≤ 200) (hys : Bts ys ∧ ys.length ≤ 200) (hB : TwoB w p q (.iface 168 (.agg #[.int .i64 ba, .iface ta xa, .iface ua ya])) (.iface 168 (.agg #[.int .i64 bb, .iface tb xb, .iface ub yb]))) (hf : l2B xs ys = false)
    (h0 : NwAt (.iface ta xa) (.iface tb xb) o0) (h1 : NwAt (.iface ua ya) (.iface ub yb) o1) :
    Calls Tryz.prog 125 #[.pointer (some ⟨p, 0, none⟩), .pointer (some ⟨q, 0, none⟩)] w fun e w' => WkAns w (ckOr o0 o1) e w' := by
  have hL := fun A B v u w hv hu => lookAt_any A B v u xs ys w hv hu hxs.1 hys.1 hxs.2 hys.2
  rw [ckO_no hf] at hL
  have hAa := as_fork (.agg #[.int .i64 ba, .iface ta xa, .iface ua ya])
  have hAb := as_fork (.agg #[.int .i64 bb, .iface tb xb, .iface ub yb])
  have hN0 := fun w => newTreesWalk_box ta tb xa xb w
  have hN1 := fun w => newTreesWalk_box ua ub ya yb w
  have hmA := fun w => mt_f (.agg #[.int .i64 ba, .iface ta xa, .iface ua ya]) w
  have hmB := fun w => mt_f (.agg #[.int .i64 bb, .iface tb xb, .iface ub yb]) w
  have hbr := Below.refl w.heap.size w
  have ca := hB.a
  have cb := hB.b
  have HS : Hid (∀ w', Below w.heap.size w w' → w'.cell? ⟨p, 0, none⟩ = some (.iface 168 (.agg #[.int .i64 ba, .iface ta xa, .iface ua ya])) ∧ w'.cell? ⟨q, 0, none⟩ = some (.iface 168 (.agg #[.int .i64 bb, .iface tb xb, .iface ub yb]))) := fun w' h => ⟨(hB.below h).a, (hB.below h).b⟩
  go_enter Tryz.func125, Tryz.ntmps125
  go_wp2
  go_region_held3 (fun w' => w'.cell? ⟨p, 0, none⟩ = some (.iface 168 (.agg #[.int .i64 ba, .iface ta xa, .iface ua ya])) ∧ w'.cell? ⟨q, 0, none⟩ = some (.iface 168 (.agg #[.int .i64 bb, .iface tb xb, .iface ub yb])))
    (first | exact ⟨ca, cb⟩ | exact HS.out _ hbr3 | exact HS.out _ hbr | exact HS.out _ hbr.drew)
    (first
      | (go_at_call 210; refine (PcOf.c (ys := xs) (by assumption) _).mono ?_; rintro e wq ⟨v', rfl, ownx, hbq⟩; obtain ⟨ax, cx, rfl⟩ := own_shape ownx; have hbr : Below w.heap.size w wq := (by first | exact below_after_of hbr hbq | exact below_after_of hbr.drew hbq))
      | (go_at_call 210; refine (PcOf.c (ys := ys) (by assumption) _).mono ?_; rintro e wr ⟨v', rfl, owny, hbr2⟩; obtain ⟨ay, cy, rfl⟩ := own_shape owny; have ownx := own_below ownx hbr2; have hbr : Below w.heap.size w wr := below_after_of hbr hbr2)
      | (go_at_call 103; refine (hL _ _ _ _ _ ownx owny).mono ?_; intro e wl hl; have hbl := hl.b; obtain rfl := hl.n rfl; have hbr3 : Below w.heap.size w wl := below_after_of hbr hbl))
  have cal := (HS.out _ hbr3).1
  have cbl := (HS.out _ hbr3).2
  have hpl : p < wl.heap.size := Nat.lt_of_lt_of_le hB.p hbr3.size
  have hql : q < wl.heap.size := Nat.lt_of_lt_of_le hB.q hbr3.size
  obtain ⟨W, hW⟩ : ∃ W, W = (wl.alloc (.cells #[.int .i64 ba, .iface ta xa, .iface ua ya] 168)).alloc (.cells #[.int .i64 bb, .iface tb xb, .iface ub yb] 168) := ⟨_, rfl⟩
  have HW : Hid ((wl.alloc (.cells #[.int .i64 ba, .iface ta xa, .iface ua ya] 168)).alloc (.cells #[.int .i64 bb, .iface tb xb, .iface ub yb] 168) = W) := hW.symm
  have FA : FkB W wl.heap.size (.int .i64 ba) (.iface ta xa) (.iface ua ya) := by rw [hW]; exact (FkB.new _ _ _ _ _).below (one_new _)
  have FB : FkB W (wl.heap.size + 1) (.int .i64 bb) (.iface tb xb) (.iface ub yb) := by
    rw [hW]
    have h := FkB.new (wl.alloc (.cells #[.int .i64 ba, .iface ta xa, .iface ua ya] 168)) (.int .i64 bb) (.iface tb xb) (.iface ub yb) 168
    rw [World.size_alloc] at h
    exact h
  have hBW : Below w.heap.size w W := by rw [hW]; exact (hbr3.alloc hbr3.size _).alloc (hbr3.alloc hbr3.size _).size _
  clear hl ownx owny hL ca cb hPa hPb hmA hmB hW hbr hbq hbr2 hbl
  have HF : Hid (∀ w', Below W.heap.size W w' → (w'.cell? ⟨wl.heap.size, 1, none⟩ = some (.iface ta xa) ∧ w'.cell? ⟨wl.heap.size, 2, none⟩ = some (.iface ua ya)) ∧ w'.cell? ⟨wl.heap.size + 1, 1, none⟩ = some (.iface tb xb) ∧ w'.cell? ⟨wl.heap.size + 1, 2, none⟩ = some (.iface ub yb)) := fun w' h => ⟨⟨(FA.below h).b, (FA.below h).c⟩, (FB.below h).b, (FB.below h).c⟩
  have hbs := Below.refl W.heap.size W
  obtain ⟨⟨e1, e2⟩, e3, e4⟩ := HF.out _ hbs
  clear FA FB
  rcases o0 with _ | ⟨ls, bs⟩
  · go_wp2
    rw [HW.out]
    refine wp_loop_rounds 3 ?_
    rw [rounds_succ]
    go_wp2
    go_region_held3 (fun w' => (w'.cell? ⟨wl.heap.size, 1, none⟩ = some (.iface ta xa) ∧ w'.cell? ⟨wl.heap.size, 2, none⟩ = some (.iface ua ya)) ∧ w'.cell? ⟨wl.heap.size + 1, 1, none⟩ = some (.iface tb xb) ∧ w'.cell? ⟨wl.heap.size + 1, 2, none⟩ = some (.iface ub yb))
      (first | exact HF.out _ hbx | exact HF.out _ hby | exact HF.out _ hbs | exact HF.out _ hbs.drew)
      (first
        | (go_at_call 70; refine (hN0 _).mono ?_; rintro e wq ⟨pq, qq, rfl, hbq, hTB⟩; have hby : Below W.heap.size W wq := (by first | exact below_after_of hbs hbq | exact below_after_of hbs.drew hbq))
        | (go_at_call 125; refine (h0.c _ _ _ hTB).mono ?_; intro e wx hx; have hxb := hx.b; obtain rfl := hx.n rfl; have hbx : Below W.heap.size W wx := below_after_of hby hxb))
    have hbs := hbx
    clear hx hTB hby hbx hbq hxb
    obtain ⟨⟨e1, e2⟩, e3, e4⟩ := HF.out _ hbs
    rcases o1 with _ | ⟨ls, bs⟩
    · go_wp2
      rw [rounds_succ]
      go_wp2
      go_region_held3 (fun w' => (w'.cell? ⟨wl.heap.size, 1, none⟩ = some (.iface ta xa) ∧ w'.cell? ⟨wl.heap.size, 2, none⟩ = some (.iface ua ya)) ∧ w'.cell? ⟨wl.heap.size + 1, 1, none⟩ = some (.iface tb xb) ∧ w'.cell? ⟨wl.heap.size + 1, 2, none⟩ = some (.iface ub yb))
        (first | exact HF.out _ hbx | exact HF.out _ hby | exact HF.out _ hbs | exact HF.out _ hbs.drew)
        (first
          | (go_at_call 70; refine (hN1 _).mono ?_; rintro e wq ⟨pq, qq, rfl, hbq, hTB⟩; have hby : Below W.heap.size W wq := (by first | exact below_after_of hbs hbq | exact below_after_of hbs.drew hbq))
          | (go_at_call 125; refine (h1.c _ _ _ hTB).mono ?_; intro e wz hx; have hxb := hx.b; obtain rfl := hx.n rfl; have hbx : Below W.heap.size W wz := below_after_of hby hxb))
      have hBX := below_after_of hBW hbx
      clear hx
      go_wp2
      rw [rounds_succ]
      go_wp2
      go_ret
      exact ⟨hBX, fun _ => rfl, fun ls bs e => by have e2 : (none : Ck) = some (ls, bs) := e; cases e2⟩
    · go_wp2
      rw [rounds_succ]
      go_wp2
      go_region_held3 (fun w' => (w'.cell? ⟨wl.heap.size, 1, none⟩ = some (.iface ta xa) ∧ w'.cell? ⟨wl.heap.size, 2, none⟩ = some (.iface ua ya)) ∧ w'.cell? ⟨wl.heap.size + 1, 1, none⟩ = some (.iface tb xb) ∧ w'.cell? ⟨wl.heap.size + 1, 2, none⟩ = some (.iface ub yb))
        (first | exact HF.out _ hbx | exact HF.out _ hby | exact HF.out _ hbs | exact HF.out _ hbs.drew)
        (first
          | (go_at_call 70; refine (hN1 _).mono ?_; rintro e wq ⟨pq, qq, rfl, hbq, hTB⟩; have hby : Below W.heap.size W wq := (by first | exact below_after_of hbs hbq | exact below_after_of hbs.drew hbq))
          | (go_at_call 125; refine (h1.c _ _ _ hTB).mono ?_; intro e wz hx; have hxb := hx.b; obtain ⟨a5, c5, a6, c6, rfl, hr5⟩ := hx.s _ _ rfl; have hbx : Below W.heap.size W wz := below_after_of hby hxb))
      have HR5 : Hid (Rows2 wq wz (.slice a5 ls.length c5) (.slice a6 bs.length c6) true ls bs) := hr5
      have hBX := below_after_of hBW hbx
      have hzq := Nat.le_trans hBW.size hby.size
      clear hr5 hx
      go_wp2
      go_ret
      refine ⟨hBX, (fun h => by have h2 : (some (ls, bs) : Ck) = none := h; cases h2), fun ls' bs' e => ?_⟩
      have e2 : (some (ls, bs) : Ck) = some (ls', bs') := e
      cases e2
      exact ⟨a5, c5, a6, c6, rfl, HR5.out.under hzq⟩
  · go_wp2
    rw [HW.out]
    refine wp_loop_rounds 3 ?_
    rw [rounds_succ]
    go_wp2
    go_region_held3 (fun w' => (w'.cell? ⟨wl.heap.size, 1, none⟩ = some (.iface ta xa) ∧ w'.cell? ⟨wl.heap.size, 2, none⟩ = some (.iface ua ya)) ∧ w'.cell? ⟨wl.heap.size + 1, 1, none⟩ = some (.iface tb xb) ∧ w'.cell? ⟨wl.heap.size + 1, 2, none⟩ = some (.iface ub yb))
      (first | exact HF.out _ hbx | exact HF.out _ hby | exact HF.out _ hbs | exact HF.out _ hbs.drew)
      (first
        | (go_at_call 70; refine (hN0 _).mono ?_; rintro e wq ⟨pq, qq, rfl, hbq, hTB⟩; have hby : Below W.heap.size W wq := (by first | exact below_after_of hbs hbq | exact below_after_of hbs.drew hbq))
        | (go_at_call 125; refine (h0.c _ _ _ hTB).mono ?_; intro e wx hx; have hxb := hx.b; obtain ⟨a5, c5, a6, c6, rfl, hr5⟩ := hx.s _ _ rfl; have hbx : Below W.heap.size W wx := below_after_of hby hxb))
    have HR5 : Hid (Rows2 wq wx (.slice a5 ls.length c5) (.slice a6 bs.length c6) true ls bs) := hr5
    have hBX := below_after_of hBW hbx
    have hzq := Nat.le_trans hBW.size hby.size
    clear hr5 hx
    go_wp2
    go_ret
    refine ⟨hBX, (fun h => by have h2 : (some (ls, bs) : Ck) = none := h; cases h2), fun ls' bs' e => ?_⟩
    have e2 : (some (ls, bs) : Ck) = some (ls', bs') := e
    cases e2
    exact ⟨a5, c5, a6, c6, rfl, HR5.out.under hzq⟩
end U
end Go.Proofs.YtljbcpkjhnbpeaaGreatDoor

/- The walk down two new trees, as the program goes: at every two trees of nodes in range. -/
namespace Go.Proofs.YtljbcpkjhnbpeaaGreatDoor
open Go.RowKit
namespace U
theorem tcl_hit {a b : Tr} (h : l2B a.bts b.bts = true) : tcl a b = some (a.bts, b.bts) := by
  rcases a.three with rfl | ⟨k, v, rfl⟩ | ⟨c, l, r, rfl⟩
  · rw [tcl_none, if_pos h]
  · rw [tcl_leaf, if_pos h]
  · exact tcl_yes h
theorem tcl_n {b : Tr} (h : l2B Tr.none.bts b.bts = false) : tcl Tr.none b = none := by rw [tcl_none, if_neg (by rw [h]; decide)]
theorem tcl_l {k v : Int} {b : Tr} (h : l2B (Tr.leaf k v).bts b.bts = false) : tcl (Tr.leaf k v) b = none := by rw [tcl_leaf, if_neg (by rw [h]; decide)]
theorem tcl_fn {c : Nat} {l r : Tr} (h : l2B (Tr.fork c l r).bts Tr.none.bts = false) : tcl (Tr.fork c l r) Tr.none = none := by
  show (if l2B (Tr.fork c l r).bts Tr.none.bts = true then _ else _) = _
  rw [if_neg (by rw [h]; decide)]
  rfl
theorem tcl_fl {c : Nat} {l r : Tr} {k v : Int} (h : l2B (Tr.fork c l r).bts (Tr.leaf k v).bts = false) : tcl (Tr.fork c l r) (Tr.leaf k v) = none := by
  show (if l2B (Tr.fork c l r).bts (Tr.leaf k v).bts = true then _ else _) = _
  rw [if_neg (by rw [h]; decide)]
  rfl
theorem pcOf_n : PcOf 144 (.agg #[]) Tr.none.bts := ⟨piece_none.c⟩
theorem pcOf_l {k v : Int} (h : (Tr.leaf k v).Ok) : PcOf 145 (.agg #[.int .i64 k, .int .i64 v]) (Tr.leaf k v).bts := ⟨(piece_leaf h).c⟩
theorem pcOf_f {c : Nat} {l r : Tr} (h : (Tr.fork c l r).Ok) : PcOf 210 (.agg #[.int .i64 (c : Int), l.val, r.val]) (Tr.fork c l r).bts := ⟨(piece_any _ h).c⟩
theorem Tr.Ok.two {t : Tr} (h : t.Ok) : Bts t.bts ∧ t.bts.length ≤ 200 := ⟨h.bts, by have := t.len; omega⟩
theorem nw_any (a : Tr) : ∀ b : Tr, a.Ok → b.Ok → NwAt a.val b.val (tcl a b) := by
  induction a using Tr.ind with
  | none =>
    intro b ha hb
    refine ⟨fun p q w hB => ?_⟩
    rcases b.three with rfl | ⟨k, v, rfl⟩ | ⟨c, l, r, rfl⟩
    · rw [tcl_n (by unfold l2B; exact decide_eq_false (fun e => e.2 rfl))]
      exact nw_miss_nn _ p q w pcOf_n hb.two hB (by unfold l2B; exact decide_eq_false (fun e => e.2 rfl))
    · rcases Bool.eq_false_or_eq_true (l2B Tr.none.bts (Tr.leaf k v).bts) with h | h
      · rw [tcl_hit h]; exact nw_hit_nl k v _ _ p q w pcOf_n (pcOf_l hb) ha.two hb.two hB h
      · rw [tcl_n h]; exact nw_miss_nl k v _ _ p q w pcOf_n (pcOf_l hb) ha.two hb.two hB h
    · have hPb := pcOf_f hb
      obtain ⟨tL, xL, eL⟩ := l.isIface
      obtain ⟨tR, xR, eR⟩ := r.isIface
      rw [eL, eR] at hPb
      rw [Tr.val_fork, eL, eR] at hB
      rcases Bool.eq_false_or_eq_true (l2B Tr.none.bts (Tr.fork c l r).bts) with h | h
      · rw [tcl_hit h]; exact nw_hit_nf _ _ _ _ _ _ _ p q w pcOf_n hPb ha.two hb.two hB h
      · rw [tcl_n h]; exact nw_miss_nf _ _ _ _ _ _ _ p q w pcOf_n hPb ha.two hb.two hB h
  | leaf k v =>
    intro b ha hb
    refine ⟨fun p q w hB => ?_⟩
    rcases b.three with rfl | ⟨k', v', rfl⟩ | ⟨c, l, r, rfl⟩
    · rcases Bool.eq_false_or_eq_true (l2B (Tr.leaf k v).bts Tr.none.bts) with h | h
      · rw [tcl_hit h]; exact nw_hit_ln k v _ _ p q w (pcOf_l ha) pcOf_n ha.two hb.two hB h
      · rw [tcl_l h]; exact nw_miss_ln k v _ _ p q w (pcOf_l ha) pcOf_n ha.two hb.two hB h
    · rcases Bool.eq_false_or_eq_true (l2B (Tr.leaf k v).bts (Tr.leaf k' v').bts) with h | h
      · rw [tcl_hit h]; exact nw_hit_ll k v k' v' _ _ p q w (pcOf_l ha) (pcOf_l hb) ha.two hb.two hB h
      · rw [tcl_l h]; exact nw_miss_ll k v k' v' _ _ p q w (pcOf_l ha) (pcOf_l hb) ha.two hb.two hB h
    · have hPb := pcOf_f hb
      obtain ⟨tL, xL, eL⟩ := l.isIface
      obtain ⟨tR, xR, eR⟩ := r.isIface
      rw [eL, eR] at hPb
      rw [Tr.val_fork, eL, eR] at hB
      rcases Bool.eq_false_or_eq_true (l2B (Tr.leaf k v).bts (Tr.fork c l r).bts) with h | h
      · rw [tcl_hit h]; exact nw_hit_lf k v _ _ _ _ _ _ _ p q w (pcOf_l ha) hPb ha.two hb.two hB h
      · rw [tcl_l h]; exact nw_miss_lf k v _ _ _ _ _ _ _ p q w (pcOf_l ha) hPb ha.two hb.two hB h
  | fork c l r ih1 ih2 =>
    intro b ha hb
    refine ⟨fun p q w hB => ?_⟩
    have hPa := pcOf_f ha
    have i1 := fun b' hb' => ih1 b' ha.2.1 hb'
    have i2 := fun b' hb' => ih2 b' ha.2.2 hb'
    obtain ⟨tL, xL, eL⟩ := l.isIface
    obtain ⟨tR, xR, eR⟩ := r.isIface
    rw [eL, eR] at hPa
    rw [Tr.val_fork, eL, eR] at hB
    rw [eL] at i1
    rw [eR] at i2
    rcases b.three with rfl | ⟨k, v, rfl⟩ | ⟨c', l', r', rfl⟩
    · rcases Bool.eq_false_or_eq_true (l2B (Tr.fork c l r).bts Tr.none.bts) with h | h
      · rw [tcl_hit h]; exact nw_hit_fn _ _ _ _ _ _ _ p q w hPa pcOf_n ha.two hb.two hB h
      · rw [tcl_fn h]; exact nw_miss_fn _ _ _ _ _ _ _ p q w hPa pcOf_n ha.two hb.two hB h
    · rcases Bool.eq_false_or_eq_true (l2B (Tr.fork c l r).bts (Tr.leaf k v).bts) with h | h
      · rw [tcl_hit h]; exact nw_hit_fl _ _ _ _ _ k v _ _ p q w hPa (pcOf_l hb) ha.two hb.two hB h
      · rw [tcl_fl h]; exact nw_miss_fl _ _ _ _ _ k v _ _ p q w hPa (pcOf_l hb) ha.two hb.two hB h
    · have hPb := pcOf_f hb
      have j1 := i1 l' hb.2.1
      have j2 := i2 r' hb.2.2
      obtain ⟨tL', xL', eL'⟩ := l'.isIface
      obtain ⟨tR', xR', eR'⟩ := r'.isIface
      rw [eL', eR'] at hPb
      rw [Tr.val_fork, eL', eR'] at hB
      rw [eL'] at j1
      rw [eR'] at j2
      rcases Bool.eq_false_or_eq_true (l2B (Tr.fork c l r).bts (Tr.fork c' l' r').bts) with h | h
      · rw [tcl_hit h]; exact nw_hit_ff _ _ _ _ _ _ _ _ _ _ _ _ p q w hPa hPb ha.two hb.two hB h
      · rw [tcl_fork h]; exact nw_ff _ _ _ _ _ _ _ _ _ _ _ _ p q w _ _ hPa hPb ha.two hb.two hB h j1 j2
end U
end Go.Proofs.YtljbcpkjhnbpeaaGreatDoor

/- The fork bit and a side of slots, as the model makes them. -/
namespace Go.Proofs.YtljbcpkjhnbpeaaGreatDoor
open Go.RowKit
namespace U
def sdAt (l : Prl) (b : Nat) (s : Int) (k : Nat) : Prl := sd (l.take k) b s
theorem sdAt_all (l : Prl) (b : Nat) (s : Int) : sdAt l b s l.length = sd l b s := by unfold sdAt; rw [List.take_length]
theorem sdAt_in {l : Prl} {b : Nat} {s : Int} {k : Nat} (h : k < l.length) (h1 : bitN (pAt l k).1 b = s) : sdAt l b s (k + 1) = sdAt l b s k ++ [pAt l k] := by
  unfold sdAt sd
  rw [takeP h, List.filter_append, List.filter_cons_of_pos (by simp [h1])]
  rfl
theorem sdAt_out {l : Prl} {b : Nat} {s : Int} {k : Nat} (h : k < l.length) (h1 : ¬ bitN (pAt l k).1 b = s) : sdAt l b s (k + 1) = sdAt l b s k := by
  unfold sdAt sd
  rw [takeP h, List.filter_append, List.filter_cons_of_neg (by simp [h1])]
  simp
theorem sdAt_len (l : Prl) (b : Nat) (s : Int) (k : Nat) : (sdAt l b s k).length ≤ l.length := by
  have h1 := sd_len (l.take k) b s
  rw [List.length_take] at h1
  unfold sdAt
  omega
set_option maxRecDepth 100000 in
set_option maxHeartbeats 2000000 in
theorem l6Side_core (ad : Option Addr) (n c : Nat) (l : Prl) (b : Nat) (s : Int) (w : World) (HN : Hid (n = l.length)) (hn : n ≤ 12) (HS : Hid (Sls l)) (hb7 : b ≤ 7) (HV : Hid (Prs w (.slice ad n c) l)) :
    Calls Tryz.prog 113 #[.slice ad n c, .int .i64 (b : Int), .int .i64 s] w fun e w' => ∃ v', e = .returned v' ∧ w'.ownsRow w.heap.size 26 2 v' (sd l b s).length ((fl (sd l b s)).map (Value.int .i64)) ∧ Below w.heap.size w w' := by
  obtain ⟨i0, hi, hz0, hz1, hz2⟩ := info_parts Tryz.infoSl
  go_enter Tryz.func113, Tryz.ntmps113
  go_wp2
  go_loopw [7, 8] (fun u i wr => ∃ k : Nat, k ≤ n ∧ i = .int .i64 k ∧ Hid (Below w.heap.size w wr) ∧ Hid (wr.ownsRow w.heap.size 26 2 u (sdAt l b s k).length ((fl (sdAt l b s k)).map (Value.int .i64)))) (fun _ i _ => n - (intOf i).toNat)
  case atStart => exact ⟨0, Nat.zero_le _, rfl, one_new _, none_own w _ _ (Nat.le_refl _)⟩
  case round =>
    obtain ⟨k, hk, rfl, hB, ho⟩ := hrel
    obtain ⟨a', c', rfl⟩ := own_shape2 ho.out
    by_cases hkn : k < n
    · have hki : (k : Int) < (n : Int) := by omega
      have hkl : k < l.length := by have := HN.out; omega
      obtain ⟨-, bk, off, rfl, hbk, hc⟩ := HV.out.at (by omega)
      have hc1 := (hB.out.cell (p := ⟨bk, off + k * 2, none⟩) hbk).trans (hc k hkl).1
      have hc2 := (hB.out.cell (p := ⟨bk, off + k * 2 + 1, none⟩) hbk).trans (hc k hkl).2
      have HI : Hid (bitN (pAt l k).1 b = s → sdAt l b s (k + 1) = sdAt l b s k ++ [((pAt l k).1, (pAt l k).2)]) := sdAt_in hkl
      have HO : Hid (¬ bitN (pAt l k).1 b = s → sdAt l b s (k + 1) = sdAt l b s k) := sdAt_out hkl
      have hBt := fun w => l6Bit_any (pAt l k).1 b w hb7 (HS.out.at hkl).1
      have hlen := sdAt_len l b s k
      rw [← HN.out] at hlen
      generalize bitN (pAt l k).1 b = z at *
      generalize (pAt l k).1 = x at *
      generalize (pAt l k).2 = y at *
      generalize sdAt l b s k = m at *
      clear hc
      by_cases h1 : z = s
      · have HI2 := HI.out h1
        have HS : Hid (sdAt l b s (k + 1) = m ++ [(x, y)]) := HI2
        have h1' : (z == s) = true := by simpa using h1
        have ho2 := ho.out
        have hsz := hB.out.size
        clear HI HO HI2 h1
        go_wp2_with fail
        refine (hBt _).mono ?_
        rintro e w1 ⟨rfl, rfl⟩
        clear hBt
        go_wp2_with (at_builtin; refine wpList_append_own _ rfl _ _ 24 rfl w.heap.size 26 i0 (.agg #[.int .i64 0, .int .i64 0]) 2 16 Tryz.underlying24 hi hz0 hz1 hz2 rfl (by decide) _ _ _ rfl (ho2.alloc _) ⟨w1.heap.size, 0, none⟩ 1 1 [.int .i64 x, .int .i64 y] rfl rfl (World.news_of_block (heap_alloc_new _ _)) (ints_oneCell .i64 [x, y]) (by unfold maxLen; omega) (by omega) (by simp; omega) ?_)
        intro v' w2 hown' hgrow _
        have hb2 : Below w.heap.size w w2 := (hB.out.alloc (by omega) _).grown hgrow (by simp; omega) (fun k hk => (ho.out.lt k hk).1)
        have own2 := own_snoc hown'
        clear hgrow hown' ho2 ho
        go_wp2
        go_roundw
        case rel => exact ⟨k + 1, by omega, by go_num, hb2, by rw [HS.out]; exact own2⟩
        case measure => simp [intOf]; omega
      · have HS : Hid (sdAt l b s (k + 1) = m) := HO.out h1
        have h1' : (z == s) = false := by simpa using h1
        clear HI HO h1
        go_wp2_with fail
        refine (hBt _).mono ?_
        rintro e w1 ⟨rfl, rfl⟩
        clear hBt
        go_wp2
        go_roundw
        case rel => exact ⟨k + 1, by omega, by go_num, hB, by rw [HS.out]; exact ho⟩
        case measure => simp [intOf]; omega
    · have hkn : k = n := by omega
      subst hkn
      have e1 : sdAt l b s k = sd l b s := by rw [HN.out]; exact sdAt_all _ _ _
      rw [e1] at ho ⊢
      go_wp2
      go_ret
      exact ⟨_, rfl, ho.out, hB.out⟩
theorem l6Side_any (v : Value) (l : Prl) (b : Nat) (s : Int) (w : World) (hv : Prs w v l) (hs : Sls l) (hb : b ≤ 7) :
    Calls Tryz.prog 113 #[v, .int .i64 (b : Int), .int .i64 s] w fun e w' => ∃ a' c', e = .returned (.slice a' (sd l b s).length c') ∧ w'.ownsRow w.heap.size 26 2 (.slice a' (sd l b s).length c') (sd l b s).length ((fl (sd l b s)).map (Value.int .i64)) ∧ Below w.heap.size w w' := by
  obtain ⟨ad, c, rfl⟩ := hv.shape
  refine (l6Side_core ad l.length c l b s w rfl hs.len hs hb hv).mono ?_
  rintro e w' ⟨v', rfl, ho, hb⟩
  obtain ⟨a', c', rfl⟩ := own_shape2 ho
  exact ⟨a', c', rfl, ho, hb⟩
/-- All keys are the same above a bit. -/
def Top (l : Prl) (k : Nat) : Prop := ∀ p ∈ l, p.1 / (2 ^ (k + 1) : Nat) = (pAt l 0).1 / (2 ^ (k + 1) : Nat)
theorem top_seven {l : Prl} (hs : Sls l) (h0 : 0 < l.length) : Top l 7 := by
  intro p hp
  have h1 := (fine_bd (hs.fin p hp)).1
  have h2 := (hs.at h0).1
  show p.1 / 256 = _ / 256
  omega
theorem top_down {l : Prl} {k : Nat} (h : Top l (k + 1)) (hb : ∀ j, j < l.length → bitN (pAt l j).1 (k + 1) = bitN (pAt l 0).1 (k + 1)) : Top l k := by
  intro p hp
  obtain ⟨i, hi, rfl⟩ := List.getElem_of_mem hp
  have h1 := h _ hp
  have h2 := hb i hi
  rw [pAt_eq hi] at h2
  unfold bitN at h2
  rw [div_succ _ (k + 1), div_succ (pAt l 0).1 (k + 1)] at h1
  omega
theorem top_found {l : Prl} {k i : Nat} (hs : Sls l) (hk : k ≤ 7) (h : Top l k) (hi : i < l.length) (h2 : 2 ≤ l.length) (hd : bitN (pAt l i).1 k ≠ bitN (pAt l 0).1 k) : FB l k := by
  refine fb_of hs.ris hk h2 (h _ (pAt_mem (by omega))).symm ?_
  intro e
  apply hd
  have h4 := ediv_le (ris_first hs.ris (pAt_mem hi)) k
  have h5 := ediv_le (ris_last hs.ris (pAt_mem hi)) k
  unfold bitN
  rw [show (pAt l i).1 / (2 ^ k : Nat) = (pAt l 0).1 / (2 ^ k : Nat) by omega]
theorem top_zero {l : Prl} (hs : Sls l) (h : Top l 0) (h2 : 2 ≤ l.length) : FB l 0 := by
  refine fb_of hs.ris (by omega) h2 (h _ (pAt_mem (by omega))).symm ?_
  have h3 := ris_at hs.ris (show 0 < l.length - 1 by omega) (by omega)
  show _ / 1 ≠ _ / 1
  omega
/-- A bit, as the model tells it. -/
structure BtAt (k b z : Int) : Prop where
  c : ∀ w, Calls Tryz.prog 114 #[.int .i64 k, .int .i64 b] w fun e w' => e = .returned (.int .i64 z) ∧ w' = w
set_option maxRecDepth 100000 in
set_option maxHeartbeats 4000000 in
theorem l6Fork_core (bk off c n : Nat) (l : Prl) (b : Nat) (w : World) (HN : Hid (n = l.length)) (hn : n ≤ 12) (hn2 : 2 ≤ n) (HS : Hid (Sls l)) (HB : Hid (FB l b)) (hbk : bk < w.heap.size)
    (HC : Hid (∀ j, j < n → w.cell? ⟨bk, off + j * 2, none⟩ = some (.int .i64 (pAt l j).1) ∧ w.cell? ⟨bk, off + j * 2 + 1, none⟩ = some (.int .i64 (pAt l j).2))) :
    Calls Tryz.prog 132 #[.slice (some ⟨bk, off, none⟩) n c] w fun e w' => e = .returned (.int .i64 (b : Int)) ∧ Below w.heap.size w w' := by
  go_enter Tryz.func132, Tryz.ntmps132
  go_wp2
  go_loopw [3] (fun i wr => ∃ k : Nat, k ≤ 7 ∧ i = .int .i64 k ∧ Hid (Below w.heap.size w wr) ∧ Hid (Top l k)) (fun i _ => (intOf i).toNat)
  case atStart => exact ⟨7, Nat.le_refl _, rfl, Below.refl _ _, top_seven HS.out (by have := HN.out; omega)⟩
  case round =>
    obtain ⟨k, hk, rfl, hB, ht⟩ := hrel
    by_cases hk0 : 0 < k
    · have hki : (0 : Int) < (k : Int) := by omega
      go_wp2
      go_loopw [4] (fun i wr2 => ∃ j : Nat, 1 ≤ j ∧ j ≤ n ∧ i = .int .i64 j ∧ Hid (Below w.heap.size w wr2) ∧ Hid (∀ m, m < j → bitN (pAt l m).1 k = bitN (pAt l 0).1 k)) (fun i _ => n - (intOf i).toNat)
      case atStart => exact ⟨1, Nat.le_refl _, by omega, rfl, hB, fun m hm => by rw [show m = 0 by omega]⟩
      case round =>
        obtain ⟨j, hj1, hjn, rfl, hB2, hE⟩ := hrel
        by_cases hlt : j < n
        · have hji : (j : Int) < (n : Int) := by omega
          have hjl : j < l.length := by have := HN.out; omega
          have h0l : 0 < l.length := by omega
          have c0 := (hB2.out.cell (p := ⟨bk, off + 0 * 2, none⟩) hbk).trans (HC.out 0 (by omega)).1
          have cj := (hB2.out.cell (p := ⟨bk, off + j * 2, none⟩) hbk).trans (HC.out j hlt).1
          simp only [Nat.zero_mul, Nat.add_zero] at c0
          have b0 : BtAt (pAt l 0).1 (k : Int) (bitN (pAt l 0).1 k) := ⟨fun w => l6Bit_any _ k w hk (HS.out.at h0l).1⟩
          have bj : BtAt (pAt l j).1 (k : Int) (bitN (pAt l j).1 k) := ⟨fun w => l6Bit_any _ k w hk (HS.out.at hjl).1⟩
          have HF : Hid (bitN (pAt l j).1 k ≠ bitN (pAt l 0).1 k → b = k) := fun h => fb_uniq HB.out (top_found HS.out hk ht.out hjl (by omega) h) h0l
          obtain ⟨z0, hz0⟩ : ∃ z, z = bitN (pAt l 0).1 k := ⟨_, rfl⟩
          obtain ⟨zj, hzj⟩ : ∃ z, z = bitN (pAt l j).1 k := ⟨_, rfl⟩
          have HZ0 : Hid (z0 = bitN (pAt l 0).1 k) := hz0
          have HZJ : Hid (zj = bitN (pAt l j).1 k) := hzj
          rw [← hz0] at b0 HF
          rw [← hzj] at bj HF
          clear hz0 hzj hjl h0l
          obtain ⟨x0, hx0⟩ : ∃ x, x = (pAt l 0).1 := ⟨_, rfl⟩
          obtain ⟨xj, hxj⟩ : ∃ x, x = (pAt l j).1 := ⟨_, rfl⟩
          rw [← hx0] at b0 c0
          rw [← hxj] at bj cj
          clear hx0 hxj
          have q0 := After.cell c0
          have qj := After.cell cj
          have hne := After.ne wr
          clear c0 cj
          by_cases hz : zj = z0
          · have hz' : (zj != z0) = false := by simpa using hz
            have HE2 : Hid (∀ m, m < j + 1 → bitN (pAt l m).1 k = bitN (pAt l 0).1 k) := fun m hm => by
              by_cases hmj : m = j
              · rw [hmj, ← HZ0.out, ← HZJ.out, hz]
              · exact hE.out m (by omega)
            clear hz
            go_wp2_with fail
            refine wp_region_after (by kernel_rfl) (by kernel_rfl) ?_
            repeat (first | go_big_quiet_skip | (go_big_quiet_want; go_big_quiet_op; first | go_big_quiet_on | go_big_quiet_call (first
              | (go_at_call 114; refine (BtAt.c (by assumption) _).mono ?_; rintro e wq ⟨rfl, rfl⟩; exact ⟨rfl, _, rfl⟩))))
            refine wpQuiet_nil ?_
            rintro _ ⟨n3, rfl⟩
            have hB3 := below_after_of hB2.out n3.b
            generalize n3.w = w3 at *
            clear q0 qj hne n3
            go_wp2
            go_roundw
            case rel => exact ⟨j + 1, by omega, by omega, by go_num, hB3, HE2⟩
            case measure => simp [intOf]; omega
          · have hz' : (zj != z0) = true := by simpa using hz
            have e : Hid (b = k) := HF.out hz
            clear hz
            go_wp2_with fail
            refine wp_region_after (by kernel_rfl) (by kernel_rfl) ?_
            repeat (first | go_big_quiet_skip | (go_big_quiet_want; go_big_quiet_op; first | go_big_quiet_on | go_big_quiet_call (first
              | (go_at_call 114; refine (BtAt.c (by assumption) _).mono ?_; rintro e wq ⟨rfl, rfl⟩; exact ⟨rfl, _, rfl⟩))))
            refine wpQuiet_nil ?_
            rintro _ ⟨n3, rfl⟩
            have hB3 := below_after_of hB2.out n3.b
            generalize n3.w = w3 at *
            clear q0 qj hne n3
            go_wp2
            go_ret
            exact ⟨ret_int (by rw [e.out]), hB3⟩
        · have hjn : j = n := by omega
          subst hjn
          obtain ⟨m, rfl⟩ : ∃ m, k = m + 1 := ⟨k - 1, by omega⟩
          have hT : Hid (Top l m) := top_down ht.out (fun i hi => hE.out i (by have := HN.out; omega))
          go_wp2
          go_roundw
          case rel => exact ⟨m, by omega, by go_num, hB2, hT⟩
          case measure => simp [intOf]
    · have hk0 : k = 0 := by omega
      subst hk0
      have e : Hid (b = 0) := fb_uniq HB.out (top_zero HS.out ht.out (by have := HN.out; omega)) (by have := HN.out; omega)
      go_wp2
      go_ret
      exact ⟨ret_int (by rw [e.out]; rfl), hB.out⟩
theorem l6Fork_any (v : Value) (l : Prl) (b : Nat) (w : World) (hv : Prs w v l) (hs : Sls l) (h2 : 2 ≤ l.length) (hb : FB l b) :
    Calls Tryz.prog 132 #[v] w fun e w' => e = .returned (.int .i64 (b : Int)) ∧ Below w.heap.size w w' := by
  obtain ⟨a, c, rfl⟩ := hv.shape
  obtain ⟨-, bb, off, rfl, hlt, hc⟩ := hv.at (by omega)
  exact l6Fork_core bb off c l.length l b w rfl hs.len h2 hs hb hlt hc
end U
end Go.Proofs.YtljbcpkjhnbpeaaGreatDoor

/- What is summed for slots, their root and their forks, as the model makes them. -/
namespace Go.Proofs.YtljbcpkjhnbpeaaGreatDoor
open Go.RowKit
namespace U
/-- The piece of slots, as the model makes it. -/
structure ByAt (l : Prl) (t : Tr) : Prop where
  c : ∀ (v : Value) (w : World), Prs w v l → Calls Tryz.prog 110 #[v] w fun e w' => ∃ v', e = .returned v' ∧ w'.ownsRow w.heap.size 5 1 v' t.bts.length (t.bts.map (Value.int .u8)) ∧ Below w.heap.size w w'
/-- The root of slots, as the model makes it. -/
structure RtAt (l : Prl) (x : Int) : Prop where
  c : ∀ (v : Value) (w : World), Prs w v l → Calls Tryz.prog 54 #[v] w fun e w' => e = .returned (.int .i64 x) ∧ Below w.heap.size w w'
set_option maxRecDepth 100000 in
set_option maxHeartbeats 1000000 in
theorem l6Root_of {l : Prl} {t : Tr} (h : ByAt l t) (hok : t.Ok) : RtAt l t.sum := by
  refine ⟨fun v w hv => ?_⟩
  have hB := h.c v w hv
  have hS := fun u w hu => l2Sum_any u t.bts w hu hok.bts (by have := t.len; omega)
  obtain ⟨ad, c, rfl⟩ := hv.shape
  have e1 : sumL t.bts = t.sum := rfl
  rw [e1] at hS
  generalize t.sum = x at *
  generalize t.bts = ys at *
  generalize l.length = n at *
  clear hv h hok e1
  go_enter Tryz.func54, Tryz.ntmps54
  go_wp2_with fail
  refine hB.mono ?_
  rintro e w1 ⟨u, rfl, own1, hb1⟩
  have HI := own_ints own1
  obtain ⟨a1, c1, rfl⟩ := own_shape own1
  clear hB own1
  go_wp2_with fail
  refine (hS _ _ HI).mono ?_
  rintro e w2 ⟨rfl, rfl⟩
  clear hS HI
  go_wp2
  go_ret
  exact ⟨rfl, hb1⟩
set_option maxRecDepth 100000 in
set_option maxHeartbeats 1000000 in
theorem l6Bytes_none : ByAt [] .none := by
  refine ⟨fun v w hv => ?_⟩
  have hT := fun w => l2Bytes_any 9 (.slice none 0 0) [] w (Or.inl ⟨rfl, _, _, rfl⟩) (by simp) (by omega) rfl
  obtain ⟨ad, c, rfl⟩ := hv.shape
  have e1 : tagL 9 [] = Tr.none.bts := rfl
  rw [e1] at hT
  generalize Tr.bts _ = ys at *
  clear hv e1
  go_enter Tryz.func110, Tryz.ntmps110
  go_wp2_with fail
  refine (hT _).mono ?_
  rintro e w2 ⟨u, rfl, own2, hb2⟩
  obtain ⟨a2, c2, rfl⟩ := own_shape own2
  clear hT
  go_wp2
  go_ret
  exact ⟨_, rfl, own2, hb2⟩
set_option maxRecDepth 100000 in
set_option maxHeartbeats 1000000 in
theorem l6Bytes_leaf {k y : Int} (h : (Tr.leaf k y).Ok) : ByAt [(k, y)] (.leaf k y) := by
  refine ⟨fun v w hv => ?_⟩
  have hT := fun u w hu => l2Bytes_any 4 u [k, y] w hu (by simp) (by omega) (Tr.Ok.nums2 h.1 h.2)
  obtain ⟨ad, c, rfl⟩ := hv.shape
  obtain ⟨-, b, off, rfl, hlt, hc⟩ := hv.at (by simp)
  have c0 : w.cell? ⟨b, off, none⟩ = some (.int .i64 k) := by simpa [pAt] using (hc 0 (by simp)).1
  have c1 : w.cell? ⟨b, off + 1, none⟩ = some (.int .i64 y) := by simpa [pAt] using (hc 0 (by simp)).2
  have e1 : tagL 4 [k, y] = (Tr.leaf k y).bts := rfl
  rw [e1] at hT
  generalize Tr.bts _ = ys at *
  have HG : Hid (∀ w', Below w.heap.size w w' → w'.cell? ⟨b, off, none⟩ = some (.int .i64 k) ∧ w'.cell? ⟨b, off + 1, none⟩ = some (.int .i64 y)) := fun w' h => ⟨(h.cell (p := ⟨b, off, none⟩) hlt).trans c0, (h.cell (p := ⟨b, off + 1, none⟩) hlt).trans c1⟩
  clear hv e1 h hc
  have hbr := Below.refl w.heap.size w
  go_enter Tryz.func110, Tryz.ntmps110
  go_wp2
  go_region_held3 (fun w' => w'.cell? ⟨b, off, none⟩ = some (.int .i64 k) ∧ w'.cell? ⟨b, off + 1, none⟩ = some (.int .i64 y))
    (first | exact ⟨c0, c1⟩ | exact HG.out _ hbr | exact HG.out _ hbr.drew | exact HG.out _ (one_new _) | exact HG.out _ (hbr.drew.alloc hbr.drew.size _))
    (first
      | (go_at_call 158; refine (hT _ _ ((two_ints w k y 2).below (Below.refl _ _).drew)).mono ?_; rintro e wt ⟨u, rfl, own2, hbt⟩; obtain ⟨a2, c2, rfl⟩ := own_shape own2; have hbd : Below w.heap.size w (w.alloc (.cells #[.int .i64 k, .int .i64 y] 2)).drew := (one_new _).drew; have own3 := own_mono own2 hbd.size; have hbr : Below w.heap.size w wt := below_after_of hbd hbt))
  go_wp2
  go_ret
  exact ⟨_, rfl, own3, hbr⟩
set_option maxRecDepth 100000 in
set_option maxHeartbeats 1000000 in
theorem l6Bytes_fork {l : Prl} {b : Nat} {L R : Tr} (hs : Sls l) (h2 : 2 ≤ l.length) (hb : FB l b) (r0 : RtAt (sd l b 0) L.sum) (r1 : RtAt (sd l b 1) R.sum) : ByAt l (.fork b L R) := by
  refine ⟨fun v w hv => ?_⟩
  have hF := fun w' h => l6Fork_any v l b w' (hv.below h) hs h2 hb
  have hS := fun s w' h => l6Side_any v l b s w' (hv.below h) hs hb.le
  have hT := fun u w hu => l2Bytes_any 5 u [(b : Int), L.sum, R.sum] w hu (by simp) (by omega) (Tr.Ok.nums3 hb.le L R)
  have e1 : tagL 5 [(b : Int), L.sum, R.sum] = (Tr.fork b L R).bts := rfl
  rw [e1] at hT
  have hn := hs.len
  obtain ⟨ad, c, rfl⟩ := hv.shape
  have R0 := fun a c w h => r0.c (.slice a (sd l b 0).length c) w h
  have R1 := fun a c w h => r1.c (.slice a (sd l b 1).length c) w h
  have S0 := hS 0
  have S1 := hS 1
  generalize L.sum = x at *
  generalize R.sum = y at *
  generalize Tr.bts _ = ys at *
  generalize sd l b 0 = m0 at *
  generalize sd l b 1 = m1 at *
  generalize l.length = n at *
  clear hv e1 hs hS r0 r1 hb
  have d1 : ¬ ((n : Int) = 0) := by omega
  have d2 : ¬ ((n : Int) = 1) := by omega
  have d1' : ((n : Int) == 0) = false := by simpa using d1
  have d2' : ((n : Int) == 1) = false := by simpa using d2
  go_enter Tryz.func110, Tryz.ntmps110
  go_wp2_with fail
  refine (hF _ (Below.refl _ _)).mono ?_
  rintro e w1 ⟨rfl, hb1⟩
  clear hF
  go_wp2_with fail
  refine (S0 _ hb1).mono ?_
  rintro e w2 ⟨a2, c2, rfl, own2, hb2⟩
  have hB2 := below_after_of hb1 hb2
  clear S0 hb1 hb2
  go_wp2_with fail
  refine (R0 _ _ _ (own_prs' own2)).mono ?_
  rintro e w3 ⟨rfl, hb3⟩
  have hB3 := below_after_of hB2 hb3
  clear R0 hB2 hb3 own2
  go_wp2_with fail
  refine (S1 _ hB3).mono ?_
  rintro e w4 ⟨a4, c4, rfl, own4, hb4⟩
  have hB4 := below_after_of hB3 hb4
  clear S1 hB3 hb4
  go_wp2_with fail
  refine (R1 _ _ _ (own_prs' own4)).mono ?_
  rintro e w5 ⟨rfl, hb5⟩
  have hB5 := below_after_of hB4 hb5
  clear R1 hB4 hb5 own4
  go_wp2_with fail
  refine (hT _ _ (three_ints _ _ _ _ _)).mono ?_
  rintro e w6 ⟨u, rfl, own6, hb6⟩
  rw [World.size_alloc] at own6
  have own7 := own_mono own6 (Nat.le_succ_of_le hB5.size)
  have hB6 := below_after_of (hB5.alloc hB5.size _) hb6
  obtain ⟨a6, c6, rfl⟩ := own_shape own7
  clear hT own6 hb6 hB5
  go_wp2
  go_ret
  exact ⟨_, rfl, own7, hB6⟩
theorem l6Bytes_any {l : Prl} {t : Tr} (h : IsTr l t) : Sls l → ByAt l t := by
  induction h using IsTr.ind with
  | none => intro _; exact l6Bytes_none
  | leaf k y => intro hs; exact l6Bytes_leaf ((IsTr.leaf k y).ok hs)
  | fork h2 hb h3 h4 ih1 ih2 =>
    intro hs
    exact l6Bytes_fork hs h2 hb (l6Root_of (ih1 (sd_sls hs _ _)) (h3.ok (sd_sls hs _ _))) (l6Root_of (ih2 (sd_sls hs _ _)) (h4.ok (sd_sls hs _ _)))
theorem l6Root_any {l : Prl} {t : Tr} (h : IsTr l t) (hs : Sls l) : RtAt l t.sum := l6Root_of (l6Bytes_any h hs) (h.ok hs)
end U
end Go.Proofs.YtljbcpkjhnbpeaaGreatDoor

/- The new tree of slots, as the program makes it. -/
namespace Go.Proofs.YtljbcpkjhnbpeaaGreatDoor
open Go.RowKit
namespace U
set_option maxRecDepth 100000 in
theorem trieOf_none (a : Option Addr) (c : Nat) (w : World) : Calls Tryz.prog 71 #[.slice a 0 c] w fun e w' => e = .returned Tr.none.val ∧ Below w.heap.size w w' := by
  rw [Tr.val_none]
  go_enter Tryz.func71, Tryz.ntmps71
  go_wp2
  go_ret
  exact ⟨rfl, Below.refl _ _⟩
set_option maxRecDepth 100000 in
theorem trieOf_leaf (b off c : Nat) (k v : Int) (w : World) (c0 : w.cell? ⟨b, off, none⟩ = some (.int .i64 k)) (c1 : w.cell? ⟨b, off + 1, none⟩ = some (.int .i64 v)) :
    Calls Tryz.prog 71 #[.slice (some ⟨b, off, none⟩) 1 c] w fun e w' => e = .returned (Tr.leaf k v).val ∧ Below w.heap.size w w' := by
  rw [Tr.val_leaf]
  go_enter Tryz.func71, Tryz.ntmps71
  go_wp2
  go_ret
  exact ⟨rfl, Below.refl _ _⟩
/-- What the program makes of a slice, from a world on. -/
structure TrAt (W : World) (v x : Value) : Prop where
  c : ∀ w', Below W.heap.size W w' → Calls Tryz.prog 71 #[v] w' fun e w'' => e = .returned x ∧ Below w'.heap.size w' w''
set_option maxRecDepth 100000 in
set_option maxHeartbeats 1000000 in
theorem trieOf_fork (l : Prl) (b : Nat) (L R : Tr) (h2 : 2 ≤ l.length) (hb : FB l b)
    (ih1 : ∀ (v : Value) (w : World), Prs w v (sd l b 0) → Okv v → Calls Tryz.prog 71 #[v] w fun e w' => e = .returned L.val ∧ Below w.heap.size w w')
    (ih2 : ∀ (v : Value) (w : World), Prs w v (sd l b 1) → Okv v → Calls Tryz.prog 71 #[v] w fun e w' => e = .returned R.val ∧ Below w.heap.size w w')
    (v : Value) (w : World) (hv : Prs w v l) (hcap : Okv v) (hs : Sls l) :
    Calls Tryz.prog 71 #[v] w fun e w' => e = .returned (Tr.fork b L R).val ∧ Below w.heap.size w w' := by
  have hF := fun w' h => forkBitOf_any v l b w' (hv.below h) hs h2 hb
  have hP := fun w' h => placeOf_any v l (ones l b) w' (hv.below h) hs.len hs.ris
  obtain ⟨a, c, rfl⟩ := hv.shape
  obtain ⟨-, bb, off, rfl, hlt, hc⟩ := hv.at (by omega)
  have hcp := (hcap _ _ _ rfl).1
  have hn := hs.len
  have hb7 := hb.le
  have c1 := (hc (l.length - 1) (by omega)).1
  have hK := (hs.at (show l.length - 1 < l.length by omega)).1
  have e0 := sd_zero hs.ris hb (by omega)
  have e1 := sd_one hs.ris hb (by omega)
  have hlo : 0 < low l (ones l b) ∧ low l (ones l b) < l.length := by
    have s0 := fb_some (s := 0) hb (by omega) (Or.inl rfl)
    have s1 := fb_some (s := 1) hb (by omega) (Or.inr rfl)
    rw [e0, List.length_take] at s0
    rw [e1, List.length_drop] at s1
    omega
  have hp1 : ∀ cc, Prs w (.slice (some ⟨bb, off, none⟩) (low l (ones l b)) cc) (sd l b 0) := fun cc => by
    rw [e0]
    exact prs_part (i := 0) rfl hlt (Nat.zero_le _) (Nat.le_of_lt hlo.2) hc
  have hp2 : ∀ cc, Prs w (.slice (some ⟨bb, off + low l (ones l b) * 2, none⟩) (l.length - low l (ones l b)) cc) (sd l b 1) := fun cc => by
    have := prs_part (c := cc) rfl hlt (show low l (ones l b) ≤ l.length by omega) (Nat.le_refl _) hc
    rw [List.take_length] at this
    rw [e1]
    exact this
  have hX : wrap64 ((pAt l (l.length - 1)).1 / 2 ^ b * 2 ^ b) = ones l b := by
    have h1 := Int.ediv_mul_le (pAt l (l.length - 1)).1 (Int.ne_of_gt (pow_pos b))
    have h3 : 0 ≤ ones l b := Int.mul_nonneg (Int.ediv_nonneg hK.1 (Int.le_of_lt (pow_pos b))) (Int.le_of_lt (pow_pos b))
    have e : (pAt l (l.length - 1)).1 / 2 ^ b * 2 ^ b = ones l b := by unfold ones; rw [Int.natCast_pow]; rfl
    rw [e]
    have h4 : ones l b ≤ (pAt l (l.length - 1)).1 := h1
    generalize ones l b = z at *
    generalize (pAt l (l.length - 1)).1 = y at *
    go_arith
  generalize (pAt l (l.length - 1)).1 = q at *
  generalize ones l b = X at *
  generalize low l X = lo at *
  generalize thr l X = th at *
  have T1 : TrAt w (.slice (some ⟨bb, off, none⟩) lo c) L.val := ⟨fun w' h => ih1 _ w' ((hp1 c).below (w' := w') h) (by intro a n c' e; cases e; exact ⟨by omega, fun h => by cases h⟩)⟩
  have T2 : TrAt w (.slice (some ⟨bb, off + lo * 2, none⟩) (l.length - lo) (c - lo)) R.val := ⟨fun w' h => ih2 _ w' ((hp2 (c - lo)).below (w' := w') h) (by intro a n c' e; cases e; exact ⟨by omega, fun h => by cases h⟩)⟩
  clear ih1 ih2 hp1 hp2 e0 e1 hc hv hs hcap hb
  generalize l.length = n at *
  obtain ⟨m, rfl⟩ : ∃ m, n = m + 1 := ⟨n - 1, by omega⟩
  rw [Nat.add_sub_cancel] at c1
  rw [Tr.val_fork]
  obtain ⟨tL, xL, eL⟩ := L.isIface
  obtain ⟨tR, xR, eR⟩ := R.isIface
  rw [eL] at T1 ⊢
  rw [eR] at T2 ⊢
  clear eL eR
  have hm1 : 1 ≤ m := by omega
  have hm2 : m ≤ 11 := by omega
  have hb0 : (0 : Int) ≤ (b : Int) := by omega
  have hb8 : (b : Int) ≤ 64 := by omega
  have d1 : ¬ ((m : Int) + 1 = 0) := by omega
  have d2 : ¬ ((m : Int) + 1 = 1) := by omega
  have d3 : ¬ (m = 0) := by omega
  go_enter Tryz.func71, Tryz.ntmps71
  go_wp2_with fail
  refine (hF _ (Below.refl _ _)).mono ?_
  rintro e w1 ⟨rfl, k1, rfl⟩
  have hb1 : Below w.heap.size w (w.drewN k1) := below_drewN (Below.refl _ _) _
  clear hF
  go_wp2_with fail
  refine (hP _ hb1).mono ?_
  rintro e w2 ⟨rfl, hb2⟩
  have hB2 := below_after_of hb1 hb2
  have hne := After.ne w2
  clear hP hb1 hb2
  go_wp2_with fail
  refine wp_region_after (by kernel_rfl) (by kernel_rfl) ?_
  repeat (first | go_big_quiet_skip | (go_big_quiet_want; go_big_quiet_op; first | go_big_quiet_on | go_big_quiet_call (first
    | (go_at_call 71; refine (TrAt.c (by assumption) _ (below_after_of hB2 (After.b _))).mono ?_; rintro e wq ⟨rfl, hbq⟩; exact ⟨rfl, after_mk (below_after_of (After.b _) hbq)⟩))))
  refine wpQuiet_nil ?_
  rintro _ ⟨n3, rfl⟩
  have hB3 := below_after_of hB2 n3.b
  generalize n3.w = w3 at *
  clear hne n3 hB2 T1 T2
  go_wp2
  go_ret
  exact ⟨rfl, hB3⟩
theorem trieOf_any {l : Prl} {t : Tr} (h : IsTr l t) : ∀ (v : Value) (w : World), Sls l → Prs w v l → Okv v → Calls Tryz.prog 71 #[v] w fun e w' => e = .returned t.val ∧ Below w.heap.size w w' := by
  induction h using IsTr.ind with
  | none =>
    intro v w _ hv _
    obtain ⟨a, c, rfl⟩ := hv.shape
    exact trieOf_none a c w
  | leaf k y =>
    intro v w _ hv _
    obtain ⟨a, c, rfl⟩ := hv.shape
    obtain ⟨-, b, off, rfl, -, hc⟩ := hv.at (by simp)
    have h0 := hc 0 (by simp)
    exact trieOf_leaf b off c k y w (by simpa [pAt] using h0.1) (by simpa [pAt] using h0.2)
  | fork h2 hb h3 h4 ih1 ih2 =>
    intro v w hs hv ho
    exact trieOf_fork _ _ _ _ h2 hb (fun v w hp ho => ih1 v w (sd_sls hs _ _) hp ho) (fun v w hp ho => ih2 v w (sd_sls hs _ _) hp ho) v w hv ho hs
end U
end Go.Proofs.YtljbcpkjhnbpeaaGreatDoor

/- How many forks the new tree has, as the program counts them. -/
namespace Go.Proofs.YtljbcpkjhnbpeaaGreatDoor
open Go.RowKit
namespace U
end U
end Go.Proofs.YtljbcpkjhnbpeaaGreatDoor

/- The fork bit, the root, the forks and the piece of slots, as the program answers them. -/
namespace Go.Proofs.YtljbcpkjhnbpeaaGreatDoor
open Go.RowKit
namespace U
/-- The code and the value of the fork bit of a tree. -/
def Tr.fbC (t : Tr) : Int := t.fo 4 (fun _ _ => 4) (fun _ _ _ _ _ => 0)
def Tr.fbV (t : Tr) : Int := t.fo 0 (fun _ _ => 0) (fun b _ _ _ _ => (b : Int))
theorem Tr.fbC_none : Tr.none.fbC = 4 := rfl
theorem Tr.fbC_leaf (k v : Int) : (Tr.leaf k v).fbC = 4 := rfl
theorem Tr.fbC_fork (b : Nat) (l r : Tr) : (Tr.fork b l r).fbC = 0 := rfl
theorem Tr.fbV_none : Tr.none.fbV = 0 := rfl
theorem Tr.fbV_leaf (k v : Int) : (Tr.leaf k v).fbV = 0 := rfl
theorem Tr.fbV_fork (b : Nat) (l r : Tr) : (Tr.fork b l r).fbV = (b : Int) := rfl
set_option maxRecDepth 100000 in
set_option maxHeartbeats 1000000 in
theorem implNewRoot_no (v : Value) (l : Prl) (w : World) (hv : Prs w v l) (hx : l.length ≤ 1099511627776) (h0 : slF l ≠ 0) :
    Calls Tryz.prog 49 #[v] w fun e w' => IntAns w (slF l) 0 e w' := by
  have hF := fun w' h => implSlotsFault_any v l w' (hv.below h) hx
  obtain ⟨ad, c, rfl⟩ := hv.shape
  generalize slF l = f at *
  generalize l.length = n at *
  have hfn : (f != 0) = true := by simpa using h0
  clear hv h0
  go_enter Tryz.func49, Tryz.ntmps49
  go_wp2_with fail
  refine (hF _ (one_new _)).mono ?_
  rintro e w1 ⟨rfl, hb1⟩
  obtain ⟨g0, g1, f0, f1⟩ := two_cellsV ((hb1.block w.heap.size (by simp)).trans (heap_alloc_new w _))
  have hB1 := below_after hb1
  clear hF hb1
  go_wp2
  exact bodyPost_ret (v := .agg #[.int .i64 f, .int .i64 0]) (by simp [results, Tryz.results49, go_sem, *]) rfl ⟨rfl, (hB1.setCell (by simp) _).setCell (by simp) _⟩
set_option maxRecDepth 100000 in
set_option maxHeartbeats 1000000 in
theorem implNewRoot_ok (v : Value) (l : Prl) (t : Tr) (w : World) (hv : Prs w v l) (ho : Okv v) (h0 : slF l = 0) (ht : IsTr l t) :
    Calls Tryz.prog 49 #[v] w fun e w' => IntAns w 0 t.sum e w' := by
  have hs := slF_ok h0
  have hF := fun w' h => implSlotsFault_any v l w' (hv.below h) (by have := hs.len; omega)
  have hT := fun w' h => trieOf_any ht v w' hs (hv.below h) ho
  have hfk : t.forks ≤ 1000 := by have := ht.forks; have := hs.len; omega
  have hQ := (SmAt.c (trieSum_any (ht.ok hs)))
  rw [h0] at hF
  obtain ⟨tT, xT, eT⟩ := t.isIface
  rw [eT] at hT hQ
  obtain ⟨ad, c, rfl⟩ := hv.shape
  generalize t.sum = x at *
  generalize l.length = n at *
  clear hv h0 hs ht ho eT hfk
  go_enter Tryz.func49, Tryz.ntmps49
  go_wp2_with fail
  refine (hF _ (one_new _)).mono ?_
  rintro e w1 ⟨rfl, hb1⟩
  clear hF
  go_wp2_with fail
  refine (hT _ (below_after hb1)).mono ?_
  rintro e w2 ⟨rfl, hb2⟩
  have hb2' := below_after_of hb1 hb2
  clear hT hb1 hb2
  go_wp2_with fail
  refine (hQ _).mono ?_
  rintro e w3 ⟨rfl, hb3⟩
  have hb3' := below_after_of hb2' hb3
  obtain ⟨g0, g1, f0, f1⟩ := two_cellsV ((hb3'.block w.heap.size (by simp)).trans (heap_alloc_new w _))
  have hB3 := below_after hb3'
  clear hQ hb2' hb3 hb3'
  go_wp2
  exact bodyPost_ret (v := .agg #[.int .i64 0, .int .i64 x]) (by simp [results, Tryz.results49, go_sem, *]) rfl ⟨rfl, (hB3.setCell (by simp) _).setCell (by simp) _⟩
end U
end Go.Proofs.YtljbcpkjhnbpeaaGreatDoor
