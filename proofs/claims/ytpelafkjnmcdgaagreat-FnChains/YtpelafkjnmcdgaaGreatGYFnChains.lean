/- Joined: what the texts behind it need. -/
import Derived.Test.YtpelafkjnmcdgaaGreatDr2
import Derived.Test.YtpelafkjnmcdgaaGreatRecL
import Derived.Test.YtpelafkjnmcdgaaGreatRecE
import Derived.RangeFuncBox
import Derived.Test.YtpelafkjnmcdgaaGreatPairs
import Derived.Test.YtpelafkjnmcdgaaGreatRec4
import Derived.Test.YtpelafkjnmcdgaaGreatTag2
import Derived.Test.YtpelafkjnmcdgaaGreatQuiet
import Derived.Deep.RegionHeld3
import Derived.Deep.AppendLies
import Derived.Test.YtpelafkjnmcdgaaGreatUpM
import Derived.Deep.RegionLaw
import Derived.Test.YtpelafkjnmcdgaaGreatUp1
import Derived.Test.YtpelafkjnmcdgaaGreatDraw0
import Derived.Test.YtpelafkjnmcdgaaGreatAn2
import Derived.Test.YtpelafkjnmcdgaaGreatHd3
import Derived.Test.YtpelafkjnmcdgaaGreatRecD
import Derived.Test.YtpelafkjnmcdgaaGreatRec1
import Derived.Test.YtpelafkjnmcdgaaGreatBits
import Derived.Test.YtpelafkjnmcdgaaGreatStr
import Derived.Test.YtpelafkjnmcdgaaGreatHdM
import Derived.Test.YtpelafkjnmcdgaaGreatCmpO
/- Directories as the laws look at them: sizes, copies, compared. -/
namespace Go.Proofs.YtpelafkjnmcdgaaGreat
open Go.RowKit
namespace U
theorem Tryz.infoRc : (Tryz.prog.info? 88).map (fun i => (i.zero, i.size, i.bytes)) = some (some (.agg #[.string ⟨#[]⟩, .int .i64 0, .int .i64 0, .int .i64 0]), 4, 40) := by kernel_rfl
/-- What is left of a size behind some records. -/
def szT (l : Rcl) (z : Int) : Nat → Int
  | 0 => z - l.length
  | k + 1 => szT l z k - (rAt l k).l.size
theorem szT_mono (l : Rcl) (z : Int) (k : Nat) : ∀ d, szT l z (k + d) ≤ szT l z k
  | 0 => Int.le_refl _
  | d + 1 => by
    have := szT_mono l z k d
    show szT l z (k + d) - _ ≤ _
    omega
def szR (l : Rcl) (z : Int) : Int := if szT l z l.length < 0 then -1 else szT l z l.length
theorem szT_le {l : Rcl} {z : Int} {k : Nat} : szT l z k ≤ z := by
  have h := szT_mono l z 0 k
  rw [Nat.zero_add] at h
  have : szT l z 0 = z - l.length := rfl
  omega
theorem szR_ok {l : Rcl} {z : Int} (hz : z ≤ 1048576) (h : ¬ szR l z < 0) : l.length ≤ 1048576 ∧ Lbs l ∧ szR l z ≤ z ∧ szR l z = szT l z l.length := by
  unfold szR at h ⊢
  by_cases h1 : szT l z l.length < 0
  · rw [if_pos h1] at h; omega
  · rw [if_neg h1]
    refine ⟨?_, ?_, szT_le, rfl⟩
    · have h2 := szT_mono l z 0 l.length
      rw [Nat.zero_add] at h2
      have : szT l z 0 = z - l.length := rfl
      omega
    · intro r hr
      obtain ⟨j, hj, rfl⟩ := List.mem_iff_getElem.1 hr
      have h2 := szT_mono l z (j + 1) (l.length - (j + 1))
      rw [show j + 1 + (l.length - (j + 1)) = l.length by omega] at h2
      have h3 : szT l z (j + 1) = szT l z j - (rAt l j).l.size := rfl
      have h4 : szT l z j ≤ z := szT_le
      rw [rAt_eq hj] at h3
      omega
/-- Records whose labels lie in memory. -/
def LbM (l : Rcl) : Prop := ∀ r ∈ l, r.l.size ≤ maxLen
theorem LbM.at {l : Rcl} (h : LbM l) {j : Nat} (hj : j < l.length) : (rAt l j).l.size ≤ maxLen := h _ (rAt_mem hj)
end U
end Go.Proofs.YtpelafkjnmcdgaaGreat

/- A record's cells; a box. -/
namespace Go.Proofs.YtpelafkjnmcdgaaGreat
open Go.RowKit Go.Maps
namespace U
theorem flR_one (r : Rc) : flR [r] = [.string r.l, .int .i64 r.v, .int .i64 r.o, .int .i64 r.p] := rfl
theorem boxed_new (w : World) (v : Value) (t : TypeId) : Boxed (w.alloc (.cells #[v] t)) w.heap.size t v := heap_alloc_new w _
end U
end Go.Proofs.YtpelafkjnmcdgaaGreat

/- Rows of one's own over what grows elsewhere. -/
namespace Go.Proofs.YtpelafkjnmcdgaaGreat
open Go.RowKit
namespace U
theorem own_ints_n {k : IntKind} {w : World} {B n : Nat} {e : TypeId} {v : Value} {xs : List Int} (HN : n = xs.length) (h : w.ownsRow B e 1 v n (xs.map (Value.int k))) : Ints k w v xs := by
  subst HN; exact own_ints h
theorem own_grown {w w' : World} {B n size : Nat} {e : TypeId} {v : Value} {xs : List Value} {row : Option Nat} (h : w.ownsRow B e size v n xs) (hg : w.grownBy w' row) (hne : v.ownBlock = none ∨ v.ownBlock ≠ row) : w'.ownsRow B e size v n xs := by
  refine ⟨h.1, ?_⟩
  rcases h.2 with h2 | ⟨g, cap, cur, rfl, h3, h4, h5⟩
  · exact Or.inl h2
  · refine Or.inr ⟨g, cap, cur, rfl, h3, (hg.block g (Array.getElem?_eq_some_iff.1 h4).1 ?_).trans h4, h5⟩
    rcases hne with hne | hne
    · simp [Value.ownBlock] at hne
    · exact hne
theorem apart_lt {v u : Value} (h : ∀ k, v.ownBlock = some k → ∀ j, u.ownBlock = some j → k < j) : v.ownBlock = none ∨ v.ownBlock ≠ u.ownBlock := by
  rcases hk : v.ownBlock with _ | k
  · exact Or.inl rfl
  · right
    intro e
    have := h k hk k e.symm
    omega
theorem apart_gt {v u : Value} (h : ∀ k, v.ownBlock = some k → ∀ j, u.ownBlock = some j → j < k) : v.ownBlock = none ∨ v.ownBlock ≠ u.ownBlock := by
  rcases hk : v.ownBlock with _ | k
  · exact Or.inl rfl
  · right
    intro e
    have := h k hk k e.symm
    omega
end U
end Go.Proofs.YtpelafkjnmcdgaaGreat

/- The bytes and the sum of a record that lies in a row, as the model tells them. -/
namespace Go.Proofs.YtpelafkjnmcdgaaGreat
open Go.RowKit
namespace U
/-- A record in four cells, cell by cell. -/
structure RecT (w : World) (g off : Nat) (l : ByteArray) (v o p : Int) : Prop where
  c0 : w.cell? ⟨g, off, none⟩ = some (.string l)
  c1 : w.cell? ⟨g, off + 1, none⟩ = some (.int .i64 v)
  c2 : w.cell? ⟨g, off + 2, none⟩ = some (.int .i64 o)
  c3 : w.cell? ⟨g, off + 3, none⟩ = some (.int .i64 p)
theorem RecT.below {w w' : World} {g off : Nat} {l : ByteArray} {v o p : Int} (h : RecT w g off l v o p) (hb : Below w.heap.size w w') : RecT w' g off l v o p :=
  ⟨After.cell h.c0 ⟨w', hb⟩, After.cell h.c1 ⟨w', hb⟩, After.cell h.c2 ⟨w', hb⟩, After.cell h.c3 ⟨w', hb⟩⟩
theorem RecS.t {w : World} {b off : Nat} {r : Rc} (h : RecS w b off r) : RecT w b off r.l r.v r.o r.p := ⟨h.c0, h.c1, h.c2, h.c3⟩
theorem RecT.grown {w w' : World} {g off : Nat} {l : ByteArray} {v o p : Int} {row : Option Nat} (h : RecT w g off l v o p) (hg : w.grownBy w' row) (hne : some g ≠ row) : RecT w' g off l v o p :=
  ⟨hg.cell h.c0 hne, hg.cell h.c1 hne, hg.cell h.c2 hne, hg.cell h.c3 hne⟩
set_option maxRecDepth 100000 in
set_option maxHeartbeats 4000000 in
theorem l3Pack_at (g off : Nat) (l : ByteArray) (v o p : Int) (w : World) (h : RecT w g off l v o p) (hsm : l.size ≤ 12) (hl0 : 0 < l.size) (hSS : [v, o, p].all sumB = true) (hg : g < w.heap.size) :
    Calls Tryz.prog 120 #[.pointer (some ⟨g, off, none⟩)] w fun e w' => ∃ v', e = .returned v' ∧ w'.ownsRow w.heap.size 5 1 v' (packL l v o p).length ((packL l v o p).map (Value.int .u8)) ∧ Below w.heap.size w w' := by
  obtain ⟨i0, hi, hz0, hz1, hz2⟩ := info_parts Tryz.infoB
  have hws : IntKind.u8.wrap (l.size : Int) = (l.size : Int) := wrapU8' _ (by omega) (by omega)
  have kc := fun (w : World) => run_bytes_of_string (P := Tryz.prog) w 9 22 5 l Tryz.underlying9 Tryz.underlying22 Tryz.underlying5
  have hc0 := h.c0
  obtain ⟨n, hn⟩ : ∃ n, n = l.size := ⟨_, rfl⟩
  have hbn := bl_len l
  go_enter Tryz.func120, Tryz.ntmps120
  go_wp2
  go_region_law (first
    | (refine step_append_lies _ (by rfl) _ _ _ (by rfl) w.heap.size 5 i0 _ 1 1 Tryz.underlying22 hi hz0 hz1 hz2 rfl (by omega) (.slice (some ⟨w.heap.size, 0, none⟩) 2 2) 2 [.int .u8 1, .int .u8 (l.size : Int)] (by rfl) ((((lit_own2 w 1 l.size).alloc _).drew).drew) ⟨w.heap.size + 1, 0, none⟩ l.size _ ((bl l).map (Value.int .u8)) (by rfl) (by simp [hbn]) (row_news (rowA w _ l _ _)) (ints_oneCell .u8 (bl l)) (by omega) (by unfold maxLen; omega) (by omega) (by simp; try omega) (w.heap.size + 2) (by simp) ?_; intro g1 cap1 w1 hown1 hgrow hat hlt)
    | (refine step_append_lies _ (by rfl) _ _ _ (by rfl) w.heap.size 5 i0 _ 1 1 Tryz.underlying22 hi hz0 hz1 hz2 rfl (by omega) (.slice (some ⟨w.heap.size + 1, 0, none⟩) 2 2) 2 [.int .u8 1, .int .u8 (l.size : Int)] (by rfl) (ownB w _ 1 l.size) ⟨w.heap.size, 0, none⟩ l.size _ ((bl l).map (Value.int .u8)) (by rfl) (by simp [hbn]) (row_news (rowB w _ l _ _)) (ints_oneCell .u8 (bl l)) (by omega) (by unfold maxLen; omega) (by omega) (by simp; try omega) (w.heap.size + 2) (by simp) ?_; intro g1 cap1 w1 hown1 hgrow hat hlt))
  all_goals (
    have hb1 : Below w.heap.size w w1 := ((two_new _ _).drew.drew).grown hgrow (by simp; try omega) (fun k hk => by simp [Value.ownBlock] at hk; omega)
    have own1 : w1.ownsRow w.heap.size 5 1 (.slice (some ⟨g1, 0, none⟩) (2 + l.size) cap1) (2 + l.size) ((headL l).map (Value.int .u8)) := hown1
    have hge1 : w.heap.size ≤ g1 := (own1.lt g1 rfl).1
    clear hgrow hown1 hat
    have R1 := h.below hb1
    have hg1 : g < w1.heap.size := Nat.lt_of_lt_of_le hg hb1.size
    have ⟨c0, c1, c2, c3⟩ := R1
    have hS := hSS
    have HS : Hid ([v, o, p].all sumB = true) := hS
    clear hS hc0 kc
    have h6 : (six v o p).length = 6 := rfl
    go_wp2
    go_region_held3 (fun w' => w'.cell? ⟨g, off + 1, none⟩ = some (.int .i64 v) ∧ w'.cell? ⟨g, off + 2, none⟩ = some (.int .i64 o) ∧ w'.cell? ⟨g, off + 3, none⟩ = some (.int .i64 p)) (first | go_keep | (have R2 := R1.below hb2'; exact ⟨R2.c1, R2.c2, R2.c3⟩) | (have R3 := (R1.below hb2').grown hgrow3 (by simp [Value.ownBlock]; omega); exact ⟨R3.c1, R3.c2, R3.c3⟩) | exact True.intro) (first
      | (go_at_call 69; refine (l2Bytes3 _ v o p _ ?_ HS.out).mono ?_; (first | exact lit3_ints w1 v o p _ | exact lit3_ints w1.drew v o p _ | (trace_state; fail)); rintro e w2 ⟨g2, cap2, rfl, hcap2, hg2, hg2', hnews2, hb2⟩; have hb2' : Below w1.heap.size w1 w2 := (by first | exact below_after_of (one_new _).drew hb2 | exact below_after_of (one_new _) hb2); have own2 := own_below own1 hb2'; clear hb2)
      | (refine step_append_lies _ (by rfl) _ _ _ (by rfl) w.heap.size 5 i0 _ 1 1 Tryz.underlying22 hi hz0 hz1 hz2 rfl (by omega) (.slice (some ⟨g1, 0, none⟩) (2 + l.size) cap1) (2 + l.size) ((headL l).map (Value.int .u8)) (by rfl) own2 ⟨g2, 1, none⟩ 6 (cap2 - 1) ((six v o p).map (Value.int .u8)) (by simp [Act.eval]; omega) (by simp [h6]) hnews2 (ints_oneCell .u8 (six v o p)) (by omega) (by unfold maxLen; omega) (by omega) (by have q1 := hb1.size; have q2 := hb2'.size; simp; omega) w2.heap.size (by simp) ?_; intro g3 cap3 w3 hown3 hgrow3 hat3 hlt3))
    have hb3 : Below w.heap.size w w3 := (below_after_of hb1 hb2').grown hgrow3 (by have q1 := hb1.size; have q2 := hb2'.size; omega) (fun k hk => by simp [Value.ownBlock] at hk; omega)
    clear hgrow3 hat3 own2 own1 hb2' hnews2 R1 c0 c1 c2 c3
    go_wp2
    go_ret
    refine ⟨_, rfl, ?_, hb3⟩
    have e1 : packL l v o p = headL l ++ six v o p := rfl
    have e2 : (packL l v o p).length = 2 + l.size + 6 := by rw [packL_len]; omega
    rw [e2, e1, List.map_append]
    exact hown3)
theorem l3Pack_atR (g off : Nat) (l : ByteArray) (v o p : Int) (w : World) (h : RecT w g off l v o p) (hR : RecOk l v o p) (hg : g < w.heap.size) :
    Calls Tryz.prog 120 #[.pointer (some ⟨g, off, none⟩)] w fun e w' => ∃ v', e = .returned v' ∧ w'.ownsRow w.heap.size 5 1 v' (packL l v o p).length ((packL l v o p).map (Value.int .u8)) ∧ Below w.heap.size w w' := l3Pack_at g off l v o p w h hR.small hR.pos hR.sums hg
set_option maxRecDepth 100000 in
set_option maxHeartbeats 1000000 in
theorem l3Sum_at (g off : Nat) (l : ByteArray) (v o p : Int) (w : World) (h : RecT w g off l v o p) (hR : RecOk l v o p) (hg : g < w.heap.size) :
    Calls Tryz.prog 101 #[.pointer (some ⟨g, off, none⟩)] w fun e w' => e = .returned (.int .i64 (sumL (packL l v o p))) ∧ Below w.heap.size w w' := by
  have hbt := packL_bts hR
  have hln : (packL l v o p).length ≤ 1099511627776 := by rw [packL_len]; have := hR.small; omega
  have hP := l3Pack_atR g off l v o p w h hR hg
  generalize packL l v o p = ys at *
  go_enter Tryz.func101, Tryz.ntmps101
  go_wp2_with fail
  refine hP.mono ?_
  rintro e w1 ⟨v', rfl, ho1, hb1⟩
  have hI := own_ints ho1
  obtain ⟨a', c', rfl⟩ := own_shape ho1
  clear ho1 hP
  go_wp2_with fail
  refine (l2Sum_any _ ys _ hI hbt hln).mono ?_
  rintro e w2 ⟨rfl, rfl⟩
  go_wp2
  go_ret
  exact ⟨rfl, hb1⟩
end U
end Go.Proofs.YtpelafkjnmcdgaaGreat

/- Slots, and the old tree, by mathematics alone: the sum of a part, rows of sums, levels. -/
namespace Go.Proofs.YtpelafkjnmcdgaaGreat
namespace U
abbrev Prl := List (Int × Int)
/-- The sum above two, of a leaf, and of what is empty. -/
def t2 (a b : Int) : Int := sumL (tagL 2 [a, b])
def l3 (p : Int × Int) : Int := sumL (tagL 3 [p.1, p.2])
def emp : Nat → Int
  | 0 => 13
  | n + 1 => t2 (emp n) (emp n)
theorem t2_bd (a b : Int) : 0 ≤ t2 a b ∧ t2 a b ≤ 65520 := sumL_bd _
theorem l3_bd (p : Int × Int) : 0 ≤ l3 p ∧ l3 p ≤ 65520 := sumL_bd _
theorem emp_bd (n : Nat) : 0 ≤ emp n ∧ emp n ≤ 65520 := by
  cases n with
  | zero => simp [emp]
  | succ n => exact t2_bd _ _
/-- Whether a part has a slot. -/
abbrev has (l : Prl) (n : Nat) (q : Int) : Prop := ∃ p ∈ l, p.1 / (2 ^ n : Nat) = q
/-- The sum of a part, by its level and its place. -/
def nd (l : Prl) : Nat → Int → Int
  | 0, q => match l.find? (fun p => p.1 == q) with | some p => l3 p | none => 13
  | n + 1, q => if has l (n + 1) q then t2 (nd l n (2 * q)) (nd l n (2 * q + 1)) else emp (n + 1)
theorem nd_bd (l : Prl) (n : Nat) (q : Int) : 0 ≤ nd l n q ∧ nd l n q ≤ 65520 := by
  cases n with
  | zero =>
    unfold nd
    split
    · exact l3_bd _
    · omega
  | succ n =>
    unfold nd
    split
    · exact t2_bd _ _
    · exact emp_bd _
theorem nd_none {l : Prl} {n : Nat} {q : Int} (h : ¬ has l n q) : nd l n q = emp n := by
  cases n with
  | zero =>
    unfold nd emp
    have : l.find? (fun p => p.1 == q) = none := by
      rw [List.find?_eq_none]
      intro p hp e
      exact h ⟨p, hp, by have := (beq_iff_eq).1 e; simp [this]⟩
    rw [this]
  | succ n => unfold nd; rw [if_neg h]
theorem div_succ (x : Int) (n : Nat) : x / (2 ^ (n + 1) : Nat) = x / (2 ^ n : Nat) / 2 := by
  rw [Nat.pow_succ, Int.natCast_mul, Int.ediv_ediv_of_nonneg (Int.natCast_nonneg _)]
  rfl
theorem has_succ (l : Prl) (n : Nat) (q : Int) : has l (n + 1) q ↔ has l n (2 * q) ∨ has l n (2 * q + 1) := by
  unfold has
  constructor
  · rintro ⟨p, hp, e⟩
    rw [div_succ] at e
    rcases (by omega : p.1 / (2 ^ n : Nat) = 2 * q ∨ p.1 / (2 ^ n : Nat) = 2 * q + 1) with h | h
    · exact Or.inl ⟨p, hp, h⟩
    · exact Or.inr ⟨p, hp, h⟩
  · rintro (⟨p, hp, e⟩ | ⟨p, hp, e⟩)
    · exact ⟨p, hp, by rw [div_succ]; omega⟩
    · exact ⟨p, hp, by rw [div_succ]; omega⟩
theorem nd_succ (l : Prl) (n : Nat) (q : Int) : nd l (n + 1) q = if has l (n + 1) q then t2 (nd l n (2 * q)) (nd l n (2 * q + 1)) else emp (n + 1) := by rw [nd]
/-- The keys rise. -/
def Ris (l : Prl) : Prop := l.Pairwise fun a b => a.1 < b.1
/-- The row above a row; what is not there is empty. -/
def abv (e : Int) : Prl → Prl
  | [] => []
  | [(q, s)] => [(q / 2, if q % 2 = 1 then t2 e s else t2 s e)]
  | (q, s) :: (q', s') :: r =>
    if q % 2 = 1 then (q / 2, t2 e s) :: abv e ((q', s') :: r)
    else if q' = q + 1 then (q / 2, t2 s s') :: abv e r
    else (q / 2, t2 s e) :: abv e ((q', s') :: r)
def plc (r : Prl) (x : Int) : Prop := ∃ s, (x, s) ∈ r
structure Row (N : Int → Int) (e b : Int) (r : Prl) : Prop where
  ris : Ris r
  lo : ∀ p ∈ r, 2 * b ≤ p.1
  val : ∀ p ∈ r, p.2 = N p.1
  none : ∀ x, 2 * b ≤ x → ¬ plc r x → N x = e
structure Abv (N : Int → Int) (b : Int) (r a : Prl) : Prop where
  ris : Ris a
  lo : ∀ p ∈ a, b ≤ p.1
  val : ∀ p ∈ a, p.2 = t2 (N (2 * p.1)) (N (2 * p.1 + 1))
  pl : ∀ x, b ≤ x → (plc a x ↔ plc r (2 * x) ∨ plc r (2 * x + 1))
theorem plc_cons {q s x : Int} {r : Prl} : plc ((q, s) :: r) x ↔ x = q ∨ plc r x := by
  unfold plc
  simp only [List.mem_cons, Prod.mk.injEq]
  constructor
  · rintro ⟨t, (⟨h, _⟩ | h)⟩
    · exact Or.inl h
    · exact Or.inr ⟨t, h⟩
  · rintro (h | ⟨t, h⟩)
    · exact ⟨s, Or.inl ⟨h, rfl⟩⟩
    · exact ⟨t, Or.inr h⟩
theorem plc_nil {x : Int} : ¬ plc [] x := by rintro ⟨s, h⟩; cases h
theorem Abv.step {N : Int → Int} {b q : Int} {r r' a : Prl} (hb : 2 * b ≤ q) (h : Abv N (q / 2 + 1) r' a)
    (h1 : ∀ x, 2 * b ≤ x → (plc r x ↔ (x / 2 = q / 2 ∧ plc r x) ∨ plc r' x)) (h2 : plc r q) (h3 : ∀ x, plc r' x → q / 2 < x / 2) :
    Abv N b r ((q / 2, t2 (N (2 * (q / 2))) (N (2 * (q / 2) + 1))) :: a) := by
  refine ⟨List.pairwise_cons.2 ⟨fun p hp => ?_, h.ris⟩, ?_, ?_, ?_⟩
  · have := h.lo p hp
    show q / 2 < p.1
    omega
  · intro p hp
    rcases List.mem_cons.1 hp with rfl | hp
    · show b ≤ q / 2
      omega
    · have := h.lo p hp
      omega
  · intro p hp
    rcases List.mem_cons.1 hp with rfl | hp
    · rfl
    · exact h.val p hp
  · intro x hx
    rw [plc_cons]
    by_cases e : x = q / 2
    · constructor
      · intro _
        rcases (by omega : q = 2 * x ∨ q = 2 * x + 1) with e2 | e2
        · left; rw [← e2]; exact h2
        · right; rw [← e2]; exact h2
      · intro _; exact Or.inl e
    · constructor
      · rintro (h' | h')
        · exact absurd h' e
        · have hx2 : q / 2 + 1 ≤ x := by obtain ⟨s, hs⟩ := h'; exact h.lo _ hs
          rcases (h.pl x hx2).1 h' with h4 | h4
          · exact Or.inl ((h1 _ (by omega)).2 (Or.inr h4))
          · exact Or.inr ((h1 _ (by omega)).2 (Or.inr h4))
      · rintro (h' | h')
        · rcases (h1 _ (by omega)).1 h' with h4 | h4
          · exact absurd h4.1 (by omega)
          · have := h3 _ h4
            exact Or.inr ((h.pl x (by omega)).2 (Or.inl h4))
        · rcases (h1 _ (by omega)).1 h' with h4 | h4
          · exact absurd h4.1 (by omega)
          · have := h3 _ h4
            exact Or.inr ((h.pl x (by omega)).2 (Or.inr h4))
theorem ris_lt {q s : Int} {r : Prl} (h : Ris ((q, s) :: r)) {x : Int} (hx : plc r x) : q < x := by
  obtain ⟨t, ht⟩ := hx
  exact (List.pairwise_cons.1 h).1 _ ht
theorem abv_row (N : Int → Int) (e : Int) : ∀ (k : Nat) (r : Prl) (b : Int), r.length ≤ k → Row N e b r → Abv N b r (abv e r) := by
  intro k
  induction k with
  | zero =>
    intro r b hk h
    have : r = [] := List.eq_nil_of_length_eq_zero (by omega)
    subst this
    refine ⟨List.Pairwise.nil, (fun p hp => by cases hp), (fun p hp => by cases hp), fun x _ => ⟨fun hh => absurd hh plc_nil, fun hh => ?_⟩⟩
    rcases hh with hh | hh <;> exact absurd hh plc_nil
  | succ k ih =>
    intro r b hk h
    match r, h, hk with
    | [], h, hk =>
      refine ⟨List.Pairwise.nil, (fun p hp => by cases hp), (fun p hp => by cases hp), fun x _ => ⟨fun hh => absurd hh plc_nil, fun hh => ?_⟩⟩
      rcases hh with hh | hh <;> exact absurd hh plc_nil
    | [(q, s)], h, hk =>
      have hq := h.lo (q, s) (by simp)
      have hv := h.val (q, s) (by simp)
      dsimp only at hq hv
      have e0 : Abv N (q / 2 + 1) [] [] := ⟨List.Pairwise.nil, (fun p hp => by cases hp), (fun p hp => by cases hp), fun x _ => ⟨fun hh => absurd hh plc_nil, fun hh => by rcases hh with hh | hh <;> exact absurd hh plc_nil⟩⟩
      have st := Abv.step (r := [(q, s)]) hq e0 (fun x _ => by
        rw [plc_cons]
        constructor
        · rintro (rfl | h)
          · exact Or.inl ⟨rfl, Or.inl rfl⟩
          · exact absurd h plc_nil
        · rintro (⟨_, h⟩ | h)
          · exact h
          · exact absurd h plc_nil) (plc_cons.2 (Or.inl rfl)) (fun x hx => absurd hx plc_nil)
      unfold abv
      by_cases h1 : q % 2 = 1
      · rw [if_pos h1]
        have e1 : N (2 * (q / 2)) = e := h.none _ (by omega) (fun hh => by rcases plc_cons.1 hh with hh | hh; · omega
                                                                           · exact absurd hh plc_nil)
        rw [e1, (by omega : 2 * (q / 2) + 1 = q), ← hv] at st
        exact st
      · rw [if_neg h1]
        have e1 : N (2 * (q / 2) + 1) = e := h.none _ (by omega) (fun hh => by rcases plc_cons.1 hh with hh | hh; · omega
                                                                               · exact absurd hh plc_nil)
        rw [e1, (by omega : 2 * (q / 2) = q), ← hv] at st
        exact st
    | (q, s) :: (q', s') :: r, h, hk =>
      have hq := h.lo (q, s) (by simp)
      have hv := h.val (q, s) (by simp)
      have hv' := h.val (q', s') (by simp)
      have hqq : q < q' := ris_lt h.ris (plc_cons.2 (Or.inl rfl))
      dsimp only at hq hv hv'
      have hris' : Ris ((q', s') :: r) := (List.pairwise_cons.1 h.ris).2
      have hge : ∀ x, plc ((q', s') :: r) x → q' ≤ x := fun x hx => by
        rcases plc_cons.1 hx with hx | hx
        · omega
        · have := ris_lt hris' hx; omega
      have tail : ∀ b', (∀ x, plc ((q', s') :: r) x → 2 * b' ≤ x) → 2 * b ≤ 2 * b' → q < 2 * b' → Row N e b' ((q', s') :: r) := fun b' h1 h2 h3 =>
        ⟨hris', fun p hp => h1 p.1 ⟨p.2, hp⟩, fun p hp => h.val p (List.mem_cons_of_mem _ hp), fun x hx hn => h.none x (by omega) (fun hh => by
          rcases plc_cons.1 hh with hh | hh
          · omega
          · exact hn hh)⟩
      have sp : ∀ x, 2 * b ≤ x → (plc ((q, s) :: (q', s') :: r) x ↔ (x / 2 = q / 2 ∧ plc ((q, s) :: (q', s') :: r) x) ∨ plc ((q', s') :: r) x) := fun x _ => by
        constructor
        · intro hh
          rcases plc_cons.1 hh with h1 | h1
          · exact Or.inl ⟨by rw [h1], hh⟩
          · exact Or.inr h1
        · rintro (⟨_, hh⟩ | hh)
          · exact hh
          · exact plc_cons.2 (Or.inr hh)
      unfold abv
      by_cases h1 : q % 2 = 1
      · rw [if_pos h1]
        have t := ih ((q', s') :: r) (q / 2 + 1) (by simp at hk ⊢; omega) (tail _ (fun x hx => by have := hge x hx; omega) (by omega) (by omega))
        have st := Abv.step hq t sp (plc_cons.2 (Or.inl rfl)) (fun x hx => by have := hge x hx; omega)
        have e1 : N (2 * (q / 2)) = e := h.none _ (by omega) (fun hh => by
          rcases plc_cons.1 hh with hh | hh
          · omega
          · have := hge _ hh; omega)
        rw [e1, (by omega : 2 * (q / 2) + 1 = q), ← hv] at st
        exact st
      · rw [if_neg h1]
        by_cases h2 : q' = q + 1
        · rw [if_pos h2]
          have hr : Row N e (q / 2 + 1) r := ⟨(List.pairwise_cons.1 hris').2, fun p hp => by have := ris_lt hris' (x := p.1) ⟨p.2, hp⟩; omega, fun p hp => h.val p (List.mem_cons_of_mem _ (List.mem_cons_of_mem _ hp)), fun x hx hn => h.none x (by omega) (fun hh => by
            rcases plc_cons.1 hh with hh | hh
            · omega
            · rcases plc_cons.1 hh with hh | hh
              · omega
              · exact hn hh)⟩
          have t := ih r (q / 2 + 1) (by simp at hk ⊢; omega) hr
          have st := Abv.step (r := (q, s) :: (q', s') :: r) hq t (fun x _ => by
            constructor
            · intro hh
              rcases plc_cons.1 hh with h3 | h3
              · exact Or.inl ⟨by rw [h3], hh⟩
              · rcases plc_cons.1 h3 with h4 | h4
                · exact Or.inl ⟨by omega, hh⟩
                · exact Or.inr h4
            · rintro (⟨_, hh⟩ | hh)
              · exact hh
              · exact plc_cons.2 (Or.inr (plc_cons.2 (Or.inr hh)))) (plc_cons.2 (Or.inl rfl)) (fun x hx => by have := ris_lt hris' hx; omega)
          rw [(by omega : 2 * (q / 2) + 1 = q'), (by omega : 2 * (q / 2) = q), ← hv, ← hv'] at st
          exact st
        · rw [if_neg h2]
          have t := ih ((q', s') :: r) (q / 2 + 1) (by simp at hk ⊢; omega) (tail _ (fun x hx => by have := hge x hx; omega) (by omega) (by omega))
          have st := Abv.step hq t sp (plc_cons.2 (Or.inl rfl)) (fun x hx => by have := hge x hx; omega)
          have e1 : N (2 * (q / 2) + 1) = e := h.none _ (by omega) (fun hh => by
            rcases plc_cons.1 hh with hh | hh
            · omega
            · have := hge _ hh; omega)
          rw [e1, (by omega : 2 * (q / 2) = q), ← hv] at st
          exact st
/-- The rows, from the leaves on. -/
def rows (l : Prl) : Nat → Prl
  | 0 => l.map fun p => (p.1, l3 p)
  | n + 1 => abv (emp n) (rows l n)
theorem rows_row {l : Prl} (h : Ris l) (h0 : ∀ p ∈ l, 0 ≤ p.1) (n : Nat) : Row (nd l n) (emp n) 0 (rows l n) ∧ ∀ x, plc (rows l n) x ↔ has l n x := by
  induction n with
  | zero =>
    have hp : ∀ x, plc (rows l 0) x ↔ has l 0 x := by
      intro x
      unfold plc rows has
      simp only [List.mem_map, Prod.mk.injEq]
      constructor
      · rintro ⟨s, p, hp, e, _⟩
        exact ⟨p, hp, by simpa using e⟩
      · rintro ⟨p, hp, e⟩
        exact ⟨l3 p, p, hp, by simpa using e, rfl⟩
    refine ⟨⟨?_, ?_, ?_, fun x _ hn => nd_none (fun hh => hn ((hp x).2 hh))⟩, hp⟩
    · show List.Pairwise _ (l.map _)
      rw [List.pairwise_map]
      exact h
    · intro p hp
      obtain ⟨p', hp', rfl⟩ := List.mem_map.1 hp
      have := h0 p' hp'
      dsimp only
      omega
    · intro p hp
      obtain ⟨p', hp', rfl⟩ := List.mem_map.1 hp
      dsimp only
      unfold nd
      rcases hf : l.find? (fun p => p.1 == p'.1) with _ | p2
      · rw [List.find?_eq_none] at hf
        exact absurd (by simp) (hf p' hp')
      · have h1 := List.mem_of_find?_eq_some hf
        have h2 : p2.1 = p'.1 := by have := List.find?_some hf; simpa using this
        have : p2 = p' := by
          rcases List.mem_iff_getElem.1 h1 with ⟨i, hi, rfl⟩
          rcases List.mem_iff_getElem.1 hp' with ⟨j, hj, rfl⟩
          have hh := List.pairwise_iff_getElem.1 h
          rcases Nat.lt_trichotomy i j with c | c | c
          · have := hh i j hi hj c; omega
          · subst c; rfl
          · have := hh j i hj hi c; omega
        rw [hf, this]
  | succ n ih =>
    have a := abv_row (nd l n) (emp n) _ _ 0 (Nat.le_refl _) ih.1
    have hp : ∀ x, plc (rows l (n + 1)) x ↔ has l (n + 1) x := by
      intro x
      rw [has_succ, ← ih.2, ← ih.2]
      by_cases hx : 0 ≤ x
      · exact a.pl x hx
      · constructor
        · rintro ⟨s, hs⟩
          exact absurd (a.lo _ hs) hx
        · rintro (⟨s, hs⟩ | ⟨s, hs⟩)
          · have := ih.1.lo _ hs; dsimp only at this; omega
          · have := ih.1.lo _ hs; dsimp only at this; omega
    refine ⟨⟨a.ris, fun p hp => by have := a.lo p hp; omega, fun p hp' => ?_, fun x _ hn => nd_none (fun hh => hn ((hp x).2 hh))⟩, hp⟩
    rw [nd_succ, if_pos ((hp p.1).1 ⟨p.2, hp'⟩)]
    exact a.val p hp'
theorem rows_bd {l : Prl} (h : Ris l) (h0 : ∀ p ∈ l, 0 ≤ p.1) (n : Nat) : ∀ p ∈ rows l n, 0 ≤ p.1 ∧ 0 ≤ p.2 ∧ p.2 ≤ 65520 := by
  intro p hp
  have h1 := (rows_row h h0 n).1
  have h2 := h1.lo p hp
  rw [h1.val p hp]
  exact ⟨by omega, nd_bd _ _ _⟩
/-- A part whose slots all lie at one place: one row of one sum, or none. -/
theorem rows_one {l : Prl} (h : Ris l) (h0 : ∀ p ∈ l, 0 ≤ p.1) {n : Nat} {q : Int} (hq : ∀ p ∈ l, p.1 / (2 ^ n : Nat) = q) (hne : l ≠ []) : rows l n = [(q, nd l n q)] := by
  have h1 := rows_row h h0 n
  have hm : ∀ p ∈ rows l n, p.1 = q := fun p hp => by
    obtain ⟨p', hp', e⟩ := (h1.2 p.1).1 ⟨p.2, hp⟩
    rw [← e, hq p' hp']
  obtain ⟨p0, t, rfl⟩ := List.exists_cons_of_ne_nil hne
  have hx : has (p0 :: t) n q := ⟨p0, by simp, hq p0 (by simp)⟩
  obtain ⟨s, hs⟩ := (h1.2 q).2 hx
  rcases hr : rows (p0 :: t) n with _ | ⟨a, _ | ⟨b, r⟩⟩
  · rw [hr] at hs; cases hs
  · have e1 := hm a (by rw [hr]; simp)
    have e2 := h1.1.val a (by rw [hr]; simp)
    obtain ⟨a1, a2⟩ := a
    dsimp only at e1 e2
    rw [e2, e1]
  · have e1 := hm a (by rw [hr]; simp)
    have e2 := hm b (by rw [hr]; simp)
    have := h1.1.ris
    rw [hr] at this
    have := (List.pairwise_cons.1 this).1 b (by simp)
    omega
theorem rows_nil (n : Nat) : rows [] n = [] := by
  induction n with
  | zero => rfl
  | succ n ih => unfold rows; rw [ih]; rfl
theorem abv_len (e : Int) : ∀ (k : Nat) (r : Prl), r.length ≤ k → (abv e r).length ≤ r.length := by
  intro k
  induction k with
  | zero =>
    intro r hk
    have : r = [] := List.eq_nil_of_length_eq_zero (by omega)
    subst this
    simp [abv]
  | succ k ih =>
    intro r hk
    match r, hk with
    | [], _ => simp [abv]
    | [(q, s)], _ => simp [abv]
    | (q, s) :: (q', s') :: r, hk =>
      have h1 := ih ((q', s') :: r) (by simp at hk ⊢; omega)
      have h2 := ih r (by simp at hk ⊢; omega)
      simp only [List.length_cons] at h1 hk ⊢
      unfold abv
      split
      · simp only [List.length_cons]; omega
      · split
        · simp only [List.length_cons]; omega
        · simp only [List.length_cons]; omega
theorem rows_len (l : Prl) (n : Nat) : (rows l n).length ≤ l.length := by
  induction n with
  | zero => simp [rows]
  | succ n ih =>
    have := abv_len (emp n) _ (rows l n) (Nat.le_refl _)
    unfold rows
    omega
/-- What is cut out of slots: keys from one on, below another. -/
def cut (l : Prl) (a b : Int) : Prl := l.filter fun p => decide (a ≤ p.1) && decide (p.1 < b)
theorem cut_mem {l : Prl} {a b : Int} {p : Int × Int} : p ∈ cut l a b ↔ p ∈ l ∧ a ≤ p.1 ∧ p.1 < b := by
  unfold cut; rw [List.mem_filter]; simp
theorem pow_pos (n : Nat) : (0 : Int) < (2 ^ n : Nat) := by have := Nat.two_pow_pos n; omega
theorem in_part {x q : Int} {n : Nat} : x / (2 ^ n : Nat) = q ↔ q * (2 ^ n : Nat) ≤ x ∧ x < q * (2 ^ n : Nat) + (2 ^ n : Nat) := by
  have hp := pow_pos n
  constructor
  · rintro rfl
    exact ⟨Int.ediv_mul_le _ (by omega), by have := Int.lt_ediv_add_one_mul_self x hp; rw [Int.add_mul] at this; omega⟩
  · rintro ⟨h1, h2⟩
    have a1 : q ≤ x / (2 ^ n : Nat) := (Int.le_ediv_iff_mul_le hp).2 h1
    have a2 : x / (2 ^ n : Nat) < q + 1 := (Int.ediv_lt_iff_lt_mul hp).2 (by rw [Int.add_mul]; omega)
    omega
/-- The sum of a part hangs on its own slots alone. -/
theorem nd_local {l l' : Prl} : ∀ (n : Nat) (q : Int), (l.filter fun p => decide (p.1 / (2 ^ n : Nat) = q)) = (l'.filter fun p => decide (p.1 / (2 ^ n : Nat) = q)) → nd l n q = nd l' n q := by
  intro n
  induction n with
  | zero =>
    intro q h
    unfold nd
    have : ∀ m : Prl, m.find? (fun p => p.1 == q) = (m.filter fun p => decide (p.1 / (2 ^ 0 : Nat) = q)).head? := by
      intro m
      rw [List.head?_filter]
      congr 1
      funext p
      rw [Nat.pow_zero, Int.natCast_one, Int.ediv_one]
      rfl
    rw [this, this, h]
  | succ n ih =>
    intro q h
    have hm : ∀ x : Int, x / 2 = q → (l.filter fun p => decide (p.1 / (2 ^ n : Nat) = x)) = (l'.filter fun p => decide (p.1 / (2 ^ n : Nat) = x)) := by
      intro x hx
      have e : ∀ m : Prl, (m.filter fun p => decide (p.1 / (2 ^ n : Nat) = x)) = ((m.filter fun p => decide (p.1 / (2 ^ (n + 1) : Nat) = q)).filter fun p => decide (p.1 / (2 ^ n : Nat) = x)) := by
        intro m
        rw [List.filter_filter]
        congr 1
        funext p
        rw [div_succ]
        generalize p.1 / (2 ^ n : Nat) = y
        by_cases h1 : y = x
        · subst h1; simp [hx]
        · simp [h1]
      rw [e l, e l', h]
    have hh : has l (n + 1) q ↔ has l' (n + 1) q := by
      have e : ∀ m : Prl, has m (n + 1) q ↔ (m.filter fun p => decide (p.1 / (2 ^ (n + 1) : Nat) = q)) ≠ [] := by
        intro m
        unfold has
        constructor
        · rintro ⟨p, hp, e⟩ h0
          have := (List.filter_eq_nil_iff.1 h0) p hp
          exact this (decide_eq_true e)
        · intro h0
          obtain ⟨p, t, ht⟩ := List.exists_cons_of_ne_nil h0
          have hp : p ∈ (m.filter fun p => decide (p.1 / (2 ^ (n + 1) : Nat) = q)) := by rw [ht]; simp
          rw [List.mem_filter] at hp
          exact ⟨p, hp.1, of_decide_eq_true hp.2⟩
      rw [e l, e l', h]
    rw [nd_succ, nd_succ, ih _ (hm (2 * q) (by omega)), ih _ (hm (2 * q + 1) (by omega))]
    by_cases hx : has l (n + 1) q
    · rw [if_pos hx, if_pos (hh.1 hx)]
    · rw [if_neg hx, if_neg (fun h => hx (hh.2 h))]
theorem cut_part (l : Prl) (n : Nat) (q : Int) : cut l (q * (2 ^ n : Nat)) (q * (2 ^ n : Nat) + (2 ^ n : Nat)) = l.filter fun p => decide (p.1 / (2 ^ n : Nat) = q) := by
  unfold cut
  congr 1
  funext p
  have := in_part (x := p.1) (q := q) (n := n)
  by_cases h : p.1 / (2 ^ n : Nat) = q
  · have h2 := this.1 h
    rw [decide_eq_true h, decide_eq_true h2.1, decide_eq_true h2.2]; rfl
  · simp only [h, decide_false]
    have : ¬ (q * (2 ^ n : Nat) ≤ p.1 ∧ p.1 < q * (2 ^ n : Nat) + (2 ^ n : Nat)) := fun hh => h (this.2 hh)
    simp only [Bool.and_eq_false_iff, decide_eq_false_iff_not]
    omega
theorem nd_cut (l : Prl) (n : Nat) (q : Int) : nd (cut l (q * (2 ^ n : Nat)) (q * (2 ^ n : Nat) + (2 ^ n : Nat))) n q = nd l n q := by
  rw [cut_part]
  apply nd_local
  rw [List.filter_filter]
  congr 1
  funext p
  simp
/-- What is cut out of slots that rise, rises. -/
theorem cut_ris {l : Prl} (h : Ris l) (a b : Int) : Ris (cut l a b) := List.Pairwise.filter _ h
theorem cut_len (l : Prl) (a b : Int) : (cut l a b).length ≤ l.length := List.length_filter_le _ _
/-- The sum of a part, as rows tell it. -/
def prt (l : Prl) (n : Nat) : Int := match rows l n with | [] => emp n | p :: _ => p.2
theorem prt_nd {l : Prl} (h : Ris l) (h0 : ∀ p ∈ l, 0 ≤ p.1) {n : Nat} {q : Int} (hq : ∀ p ∈ l, p.1 / (2 ^ n : Nat) = q) : prt l n = nd l n q := by
  unfold prt
  by_cases hne : l = []
  · subst hne
    rw [rows_nil, nd_none]
    rintro ⟨p, hp, _⟩
    cases hp
  · rw [rows_one h h0 hq hne]
end U
end Go.Proofs.YtpelafkjnmcdgaaGreat

/- Slots by mathematics alone: their faults, where a key stands, what is cut out, put and found. -/
namespace Go.Proofs.YtpelafkjnmcdgaaGreat
namespace U
def fine (p : Int × Int) : Bool := inB p.1 0 255 && sumB p.2
theorem fine_bd {p : Int × Int} (h : fine p = true) : (0 ≤ p.1 ∧ p.1 ≤ 255) ∧ 0 ≤ p.2 ∧ p.2 ≤ 65520 := by
  unfold fine at h
  rw [Bool.and_eq_true] at h
  exact ⟨inB_bd h.1, (sumB_iff _).1 h.2⟩
def pAt (l : Prl) (i : Nat) : Int × Int := l.getD i (0, 0)
theorem pAt_eq {l : Prl} {i : Nat} (h : i < l.length) : pAt l i = l[i] := by simp [pAt, h]
/-- The first fault from a place on. -/
def scan (l : Prl) : Nat → Nat → Int
  | 0, _ => 0
  | f + 1, i => if fine (pAt l i) = false then 3 else if 0 < i ∧ (pAt l i).1 ≤ (pAt l (i - 1)).1 then 1 else scan l f (i + 1)
def slF (l : Prl) : Int := if 12 < l.length then 2 else scan l l.length 0
theorem scan_ok {l : Prl} : ∀ (f i : Nat), scan l f i = 0 → ∀ j, i ≤ j → j < i + f → fine (pAt l j) = true ∧ (0 < j → (pAt l (j - 1)).1 < (pAt l j).1) := by
  intro f
  induction f with
  | zero => intro i _ j h1 h2; omega
  | succ f ih =>
    intro i h j h1 h2
    unfold scan at h
    split at h
    · cases h
    · split at h
      · cases h
      · rename_i g1 g2
        by_cases e : j = i
        · subst e
          exact ⟨by simpa using g1, fun h0 => by omega⟩
        · exact ih (i + 1) h j (by omega) (by omega)
theorem scan_all {l : Prl} : ∀ (f i : Nat), (∀ j, i ≤ j → j < i + f → fine (pAt l j) = true ∧ (0 < j → (pAt l (j - 1)).1 < (pAt l j).1)) → scan l f i = 0 := by
  intro f
  induction f with
  | zero => intro i _; rfl
  | succ f ih =>
    intro i h
    have h0 := h i (Nat.le_refl _) (by omega)
    unfold scan
    rw [if_neg (by rw [h0.1]; simp), if_neg (by intro hh; have := h0.2 hh.1; omega)]
    exact ih (i + 1) fun j h1 h2 => h j (by omega) (by omega)
structure Sls (l : Prl) : Prop where
  len : l.length ≤ 12
  ris : Ris l
  fin : ∀ p ∈ l, fine p = true
theorem ris_of {l : Prl} (h : ∀ j, j < l.length → 0 < j → (pAt l (j - 1)).1 < (pAt l j).1) : Ris l := by
  have h2 : ∀ d i, i + d + 1 < l.length → (pAt l i).1 < (pAt l (i + d + 1)).1 := by
    intro d
    induction d with
    | zero => intro i hi; exact h (i + 0 + 1) hi (by omega)
    | succ d ih =>
      intro i hi
      have h3 := ih i (by omega)
      have h4 := h (i + d + 1 + 1) hi (by omega)
      simp only [Nat.add_sub_cancel] at h4
      rw [show i + (d + 1) + 1 = i + d + 1 + 1 by omega]
      omega
  unfold Ris
  rw [List.pairwise_iff_getElem]
  intro i j hi hj hij
  have := h2 (j - i - 1) i (by omega)
  rw [show i + (j - i - 1) + 1 = j by omega, pAt_eq hi, pAt_eq hj] at this
  exact this
theorem slF_ok {l : Prl} (h : slF l = 0) : Sls l := by
  unfold slF at h
  split at h
  · cases h
  · rename_i h12
    have hs := scan_ok _ _ h
    refine ⟨by omega, ris_of fun j hj h0 => (hs j (Nat.zero_le _) (by omega)).2 h0, fun p hp => ?_⟩
    obtain ⟨j, hj, rfl⟩ := List.mem_iff_getElem.1 hp
    have := (hs j (Nat.zero_le _) (by omega)).1
    rwa [pAt_eq hj] at this
theorem slF_all {l : Prl} (h : Sls l) : slF l = 0 := by
  unfold slF
  have := h.len
  rw [if_neg (by omega)]
  apply scan_all
  intro j _ hj
  rw [pAt_eq (by omega : j < l.length)]
  refine ⟨h.fin _ (List.getElem_mem _), fun h0 => ?_⟩
  rw [pAt_eq (by omega : j - 1 < l.length)]
  have hr := h.ris
  unfold Ris at hr
  exact (List.pairwise_iff_getElem.1 hr) (j - 1) j (by omega) (by omega) (by omega)
theorem scan_bd (l : Prl) : ∀ (f i : Nat), 0 ≤ scan l f i ∧ scan l f i ≤ 3 := by
  intro f
  induction f with
  | zero => intro i; simp [scan]
  | succ f ih =>
    intro i
    unfold scan
    split
    · omega
    · split
      · omega
      · exact ih _
theorem slF_bd (l : Prl) : 0 ≤ slF l ∧ slF l ≤ 3 := by
  unfold slF
  split
  · omega
  · exact scan_bd _ _ _
theorem Sls.at {l : Prl} (h : Sls l) {i : Nat} (hi : i < l.length) : (0 ≤ (pAt l i).1 ∧ (pAt l i).1 ≤ 255) ∧ 0 ≤ (pAt l i).2 ∧ (pAt l i).2 ≤ 65520 := by
  rw [pAt_eq hi]; exact fine_bd (h.fin _ (List.getElem_mem _))
theorem Sls.pos {l : Prl} (h : Sls l) : ∀ p ∈ l, 0 ≤ p.1 := fun p hp => (fine_bd (h.fin p hp)).1.1
theorem ris_at {l : Prl} (h : Ris l) {i j : Nat} (hij : i < j) (hj : j < l.length) : (pAt l i).1 < (pAt l j).1 := by
  rw [pAt_eq hj, pAt_eq (by omega : i < l.length)]
  exact (List.pairwise_iff_getElem.1 h) i j (by omega) hj hij
/-- How many keys are below one. -/
def low (l : Prl) (k : Int) : Nat := l.countP fun p => decide (p.1 < k)
theorem low_le (l : Prl) (k : Int) : low l k ≤ l.length := List.countP_le_length
theorem low_take {l : Prl} (h : Ris l) (k : Int) : (l.filter fun p => decide (p.1 < k)) = l.take (low l k) := by
  induction l with
  | nil => rfl
  | cons p t ih =>
    have ht := List.pairwise_cons.1 h
    unfold low
    by_cases hp : p.1 < k
    · rw [List.filter_cons_of_pos (by simpa using hp), List.countP_cons_of_pos (by simpa using hp), List.take_succ_cons]
      rw [ih ht.2]
      rfl
    · have h0 : t.filter (fun p => decide (p.1 < k)) = [] := by
        rw [List.filter_eq_nil_iff]
        intro x hx
        have := ht.1 x hx
        simp
        omega
      rw [List.filter_cons_of_neg (by simpa using hp), List.countP_cons_of_neg (by simpa using hp), h0]
      rw [List.countP_eq_length_filter, h0]
      rfl
theorem low_drop {l : Prl} (h : Ris l) (k : Int) : (l.filter fun p => decide (k ≤ p.1)) = l.drop (low l k) := by
  induction l with
  | nil => rfl
  | cons p t ih =>
    have ht := List.pairwise_cons.1 h
    unfold low
    by_cases hp : p.1 < k
    · rw [List.filter_cons_of_neg (by simp; omega), List.countP_cons_of_pos (by simpa using hp), List.drop_succ_cons]
      rw [ih ht.2]
      rfl
    · have h0 : t.filter (fun p => decide (p.1 < k)) = [] := by
        rw [List.filter_eq_nil_iff]
        intro x hx
        have := ht.1 x hx
        simp
        omega
      have h1 : t.filter (fun p => decide (k ≤ p.1)) = t := by
        rw [List.filter_eq_self]
        intro x hx
        have := ht.1 x hx
        simp
        omega
      rw [List.filter_cons_of_pos (by simp; omega), List.countP_cons_of_neg (by simpa using hp), h1]
      rw [List.countP_eq_length_filter, h0]
      rfl
theorem low_iff {l : Prl} (h : Ris l) (k : Int) {i : Nat} (hi : i < l.length) : (pAt l i).1 < k ↔ i < low l k := by
  have h1 := low_take h k
  have h2 := low_drop h k
  rw [pAt_eq hi]
  constructor
  · intro hk
    by_cases hc : i < low l k
    · exact hc
    · have hm : l[i] ∈ l.drop (low l k) := by
        rw [List.mem_drop_iff_getElem]
        exact ⟨i - low l k, by omega, by congr 1; omega⟩
      rw [← h2, List.mem_filter] at hm
      have := hm.2
      simp at this
      omega
  · intro hc
    have hm : l[i] ∈ l.take (low l k) := by
      rw [List.mem_take_iff_getElem]
      exact ⟨i, by omega, rfl⟩
    rw [← h1, List.mem_filter] at hm
    simpa using hm.2
theorem low_mono (l : Prl) {a b : Int} (h : a ≤ b) : low l a ≤ low l b := by
  unfold low
  apply List.countP_mono_left
  intro x _ hx
  simp at hx ⊢
  omega
theorem cut_eq {l : Prl} (h : Ris l) (a b : Int) : cut l a b = (l.take (low l b)).drop (low l a) := by
  have e1 : cut l a b = (l.filter fun p => decide (p.1 < b)).filter fun p => decide (a ≤ p.1) := by
    unfold cut
    rw [List.filter_filter]
  have h2 : Ris (l.filter fun p => decide (p.1 < b)) := List.Pairwise.filter _ h
  rw [e1, low_drop h2, low_take h]
  by_cases hab : a ≤ b
  · have : low (l.take (low l b)) a = low l a := by
      rw [← low_take h b]
      unfold low
      rw [List.countP_filter]
      congr 1
      funext p
      by_cases hp : p.1 < a
      · simp [hp]; omega
      · simp [hp]
    rw [this]
  · have e2 : low (l.take (low l b)) a = (l.take (low l b)).length := by
      rw [← low_take h b]
      unfold low
      rw [List.countP_eq_length]
      intro p hp
      rw [List.mem_filter] at hp
      have := hp.2
      simp at this ⊢
      omega
    have e3 := low_mono l (by omega : b ≤ a)
    rw [e2, List.drop_length, List.drop_eq_nil_of_le]
    rw [List.length_take]
    omega
/-- Whether a key is there, at its place. -/
def thr (l : Prl) (k : Int) : Bool := decide (low l k < l.length) && decide ((pAt l (low l k)).1 = k)
theorem thr_iff {l : Prl} (h : Ris l) (k : Int) : thr l k = true ↔ ∃ p ∈ l, p.1 = k := by
  unfold thr
  rw [Bool.and_eq_true, decide_eq_true_iff, decide_eq_true_iff]
  constructor
  · rintro ⟨h1, h2⟩
    exact ⟨_, List.getElem_mem h1, by rw [pAt_eq h1] at h2; exact h2⟩
  · rintro ⟨p, hp, e⟩
    obtain ⟨i, hi, rfl⟩ := List.mem_iff_getElem.1 hp
    have h3 : ¬ i < low l k := by rw [← low_iff h k hi, pAt_eq hi]; omega
    have h4 : low l k < l.length := by omega
    refine ⟨h4, ?_⟩
    by_cases e2 : low l k = i
    · rw [e2, pAt_eq hi]; exact e
    · have h5 := ris_at h (by omega : low l k < i) hi
      rw [pAt_eq hi] at h5
      have := (low_iff h k h4).1 (by omega)
      omega
theorem at_low {l : Prl} (h : Ris l) {k : Int} {i : Nat} (hi : i < l.length) (e : (pAt l i).1 = k) : i = low l k := by
  have h3 : ¬ i < low l k := by rw [← low_iff h k hi]; omega
  by_cases e2 : low l k = i
  · exact e2.symm
  · have h5 := ris_at h (by omega : low l k < i) hi
    have := (low_iff h k (by omega : low l k < l.length)).1 (by omega)
    omega
/-- What was put. -/
def put (l : Prl) (s : Int × Int) : Prl := l.take (low l s.1) ++ [s] ++ l.drop (if thr l s.1 = true then low l s.1 + 1 else low l s.1)
def putF (s : Int × Int) (st : Prl × Bool) (p : Int × Int) : Prl × Bool :=
  let o := if st.2 = false ∧ s.1 ≤ p.1 then (st.1 ++ [s], true) else st
  if p.1 = s.1 then o else (o.1 ++ [p], o.2)
def putS (l : Prl) (s : Int × Int) : Prl × Bool := l.foldl (putF s) ([], false)
theorem putF_done {s : Int × Int} : ∀ (l : Prl) (out : Prl), (∀ p ∈ l, s.1 < p.1) → l.foldl (putF s) (out, true) = (out ++ l, true) := by
  intro l
  induction l with
  | nil => intro out _; simp
  | cons p t ih =>
    intro out h
    have hp := h p (by simp)
    rw [List.foldl_cons]
    have : putF s (out, true) p = (out ++ [p], true) := by
      unfold putF
      simp only [Bool.true_eq_false, false_and, if_false]
      rw [if_neg (by omega)]
    rw [this, ih _ (fun x hx => h x (List.mem_cons_of_mem _ hx))]
    simp
theorem putF_not {s : Int × Int} : ∀ (l : Prl) (out : Prl), Ris l → (l.foldl (putF s) (out, false)) = (if (∃ p ∈ l, s.1 ≤ p.1) then (out ++ (l.filter (fun p => decide (p.1 < s.1)) ++ [s] ++ l.filter (fun p => decide (s.1 < p.1))), true) else (out ++ l, false)) := by
  intro l
  induction l with
  | nil => intro out _; simp
  | cons p t ih =>
    intro out h
    have ht := List.pairwise_cons.1 h
    rw [List.foldl_cons]
    by_cases hp : p.1 < s.1
    · have : putF s (out, false) p = (out ++ [p], false) := by
        unfold putF
        rw [if_neg (by omega), if_neg (by omega)]
      rw [this, ih _ ht.2]
      have e : (∃ q ∈ t, s.1 ≤ q.1) ↔ (∃ q ∈ p :: t, s.1 ≤ q.1) := by
        constructor
        · rintro ⟨q, hq, e⟩; exact ⟨q, List.mem_cons_of_mem _ hq, e⟩
        · rintro ⟨q, hq, e⟩
          rcases List.mem_cons.1 hq with rfl | hq
          · omega
          · exact ⟨q, hq, e⟩
      by_cases hx : ∃ q ∈ t, s.1 ≤ q.1
      · rw [if_pos hx, if_pos (e.1 hx), List.filter_cons_of_pos (by simpa using hp), List.filter_cons_of_neg (by simp; omega)]
        simp
      · rw [if_neg hx, if_neg (fun h => hx (e.2 h))]
        simp
    · have hgt : ∀ q ∈ t, s.1 < q.1 := fun q hq => by have := ht.1 q hq; omega
      have h0 : t.filter (fun p => decide (p.1 < s.1)) = [] := by
        rw [List.filter_eq_nil_iff]
        intro x hx
        have := hgt x hx
        simp
        omega
      have h1 : t.filter (fun p => decide (s.1 < p.1)) = t := by
        rw [List.filter_eq_self]
        intro x hx
        have := hgt x hx
        simp
        omega
      rw [if_pos ⟨p, by simp, by omega⟩, List.filter_cons_of_neg (by simpa using hp), h0]
      by_cases he : p.1 = s.1
      · have : putF s (out, false) p = (out ++ [s], true) := by
          unfold putF
          rw [if_pos he, if_pos ⟨rfl, by omega⟩]
        rw [this, putF_done _ _ hgt, List.filter_cons_of_neg (by simp; omega), h1]
        simp
      · have : putF s (out, false) p = (out ++ [s] ++ [p], true) := by
          unfold putF
          rw [if_neg he, if_pos ⟨rfl, by omega⟩]
        rw [this, putF_done _ _ hgt, List.filter_cons_of_pos (by simp; omega), h1]
        simp
theorem put_eq {l : Prl} (h : Ris l) (s : Int × Int) : put l s = l.filter (fun p => decide (p.1 < s.1)) ++ [s] ++ l.filter (fun p => decide (s.1 < p.1)) := by
  unfold put
  rw [← low_take h]
  congr 1
  have e1 : l.filter (fun p => decide (s.1 < p.1)) = (l.drop (low l s.1)).filter (fun p => decide (s.1 < p.1)) := by
    rw [← low_drop h, List.filter_filter]
    congr 1
    funext p
    by_cases hp : s.1 < p.1
    · simp [hp]; omega
    · simp [hp]
  rw [e1]
  by_cases ht : thr l s.1 = true
  · rw [if_pos ht]
    have h2 := ht
    unfold thr at h2
    rw [Bool.and_eq_true, decide_eq_true_iff, decide_eq_true_iff] at h2
    rw [List.drop_eq_getElem_cons h2.1]
    rw [pAt_eq h2.1] at h2
    rw [List.filter_cons_of_neg (by simp; omega)]
    symm
    rw [List.filter_eq_self]
    intro x hx
    rw [List.mem_drop_iff_getElem] at hx
    obtain ⟨j, hj, rfl⟩ := hx
    have := ris_at h (by omega : low l s.1 < low l s.1 + 1 + j) (by omega)
    rw [pAt_eq h2.1, pAt_eq (by omega : low l s.1 + 1 + j < l.length)] at this
    simp
    omega
  · rw [if_neg ht]
    symm
    rw [List.filter_eq_self]
    intro x hx
    have hm : x ∈ l := List.mem_of_mem_drop hx
    rw [← low_drop h, List.mem_filter] at hx
    have h3 := hx.2
    simp at h3 ⊢
    have : x.1 ≠ s.1 := fun e => ht ((thr_iff h s.1).2 ⟨x, hm, e⟩)
    omega
theorem putS_put {l : Prl} (h : Ris l) (s : Int × Int) : (if (putS l s).2 = true then (putS l s).1 else (putS l s).1 ++ [s]) = put l s := by
  unfold putS
  rw [putF_not l [] h, put_eq h]
  by_cases hx : ∃ p ∈ l, s.1 ≤ p.1
  · rw [if_pos hx]; simp
  · rw [if_neg hx]
    have h0 : l.filter (fun p => decide (s.1 < p.1)) = [] := by
      rw [List.filter_eq_nil_iff]
      intro p hp hh
      exact hx ⟨p, hp, by simp at hh; omega⟩
    have h1 : l.filter (fun p => decide (p.1 < s.1)) = l := by
      rw [List.filter_eq_self]
      intro p hp
      have : ¬ s.1 ≤ p.1 := fun e => hx ⟨p, hp, e⟩
      simp
      omega
    rw [h0, h1]
    simp
theorem put_len {l : Prl} (s : Int × Int) : (put l s).length = if thr l s.1 = true then l.length else l.length + 1 := by
  unfold put
  have h1 := low_le l s.1
  simp only [List.length_append, List.length_take, List.length_drop, List.length_cons, List.length_nil]
  by_cases ht : thr l s.1 = true
  · rw [if_pos ht, if_pos ht]
    unfold thr at ht
    rw [Bool.and_eq_true, decide_eq_true_iff] at ht
    omega
  · rw [if_neg ht, if_neg ht]
    omega
theorem put_mem {l : Prl} (h : Ris l) (s : Int × Int) {p : Int × Int} : p ∈ put l s ↔ p = s ∨ (p ∈ l ∧ p.1 ≠ s.1) := by
  rw [put_eq h]
  simp only [List.mem_append, List.mem_filter, List.mem_cons, List.not_mem_nil, or_false, decide_eq_true_eq]
  constructor
  · rintro ((⟨h1, h2⟩ | h1) | ⟨h1, h2⟩)
    · exact Or.inr ⟨h1, by omega⟩
    · exact Or.inl h1
    · exact Or.inr ⟨h1, by omega⟩
  · rintro (h1 | ⟨h1, h2⟩)
    · exact Or.inl (Or.inr h1)
    · rcases Int.lt_or_gt_of_ne h2 with h3 | h3
      · exact Or.inl (Or.inl ⟨h1, h3⟩)
      · exact Or.inr ⟨h1, h3⟩
theorem put_ris {l : Prl} (h : Ris l) (s : Int × Int) : Ris (put l s) := by
  rw [put_eq h]
  unfold Ris
  rw [List.pairwise_append, List.pairwise_append]
  refine ⟨⟨List.Pairwise.filter _ h, List.pairwise_singleton _ _, ?_⟩, List.Pairwise.filter _ h, ?_⟩
  · intro a ha b hb
    rw [List.mem_filter] at ha
    have := ha.2
    simp at hb this
    subst hb
    exact this
  · intro a ha b hb
    rw [List.mem_filter] at hb
    have h2 := hb.2
    simp at h2
    rcases List.mem_append.1 ha with ha | ha
    · rw [List.mem_filter] at ha
      have h3 := ha.2
      simp at h3
      omega
    · simp at ha
      subst ha
      exact h2
end U
end Go.Proofs.YtpelafkjnmcdgaaGreat

/- Slots in memory: how they read; their faults, by the program and by the model. -/
namespace Go.Proofs.YtpelafkjnmcdgaaGreat
open Go.RowKit
namespace U
/-- A slice value reads as a list of pairs of numbers. -/
def Prs (w : World) (v : Value) (l : Prl) : Prop :=
  (l = [] ∧ ∃ a c, v = .slice a 0 c) ∨ ∃ b off c, v = .slice (some ⟨b, off, none⟩) l.length c ∧ b < w.heap.size ∧ ∀ j, j < l.length → w.cell? ⟨b, off + j * 2, none⟩ = some (.int .i64 (pAt l j).1) ∧ w.cell? ⟨b, off + j * 2 + 1, none⟩ = some (.int .i64 (pAt l j).2)
theorem Prs.below {w w' : World} {v : Value} {l : Prl} (h : Prs w v l) (hb : Below w.heap.size w w') : Prs w' v l := by
  rcases h with h | ⟨b, off, c, rfl, hlt, hc⟩
  · exact Or.inl h
  · exact Or.inr ⟨b, off, c, rfl, Nat.lt_of_lt_of_le hlt hb.size, fun j hj => ⟨(hb.cell (p := ⟨b, off + j * 2, none⟩) hlt).trans (hc j hj).1, (hb.cell (p := ⟨b, off + j * 2 + 1, none⟩) hlt).trans (hc j hj).2⟩⟩
theorem Prs.shape {w : World} {v : Value} {l : Prl} (h : Prs w v l) : ∃ a c, v = .slice a l.length c := by
  rcases h with ⟨rfl, a, c, rfl⟩ | ⟨b, off, c, rfl, _⟩
  · exact ⟨a, c, rfl⟩
  · exact ⟨_, c, rfl⟩
theorem Prs.at {w : World} {a : Option Addr} {n c : Nat} {l : Prl} (h : Prs w (.slice a n c) l) (h0 : 0 < l.length) : n = l.length ∧ ∃ b off, a = some ⟨b, off, none⟩ ∧ b < w.heap.size ∧ ∀ j, j < l.length → w.cell? ⟨b, off + j * 2, none⟩ = some (.int .i64 (pAt l j).1) ∧ w.cell? ⟨b, off + j * 2 + 1, none⟩ = some (.int .i64 (pAt l j).2) := by
  rcases h with ⟨rfl, _⟩ | ⟨b, off, c', e, h1, h2⟩
  · simp at h0
  · cases e
    exact ⟨rfl, b, off, rfl, h1, h2⟩
/-- The cells of slots. -/
def fl (l : Prl) : List Int := l.flatMap fun p => [p.1, p.2]
theorem fl_len (l : Prl) : (fl l).length = l.length * 2 := by
  unfold fl
  induction l with
  | nil => rfl
  | cons p t ih => rw [List.flatMap_cons, List.length_append, ih]; simp; omega
theorem fl_app (l m : Prl) : fl (l ++ m) = fl l ++ fl m := by unfold fl; rw [List.flatMap_append]
theorem fl_at (l : Prl) : ∀ (j : Nat), j < l.length → (fl l)[j * 2]? = some (pAt l j).1 ∧ (fl l)[j * 2 + 1]? = some (pAt l j).2 := by
  induction l with
  | nil => intro j h; simp at h
  | cons p t ih =>
    intro j h
    unfold fl
    rw [List.flatMap_cons]
    cases j with
    | zero => simp [pAt]
    | succ j =>
      have := ih j (by simpa using h)
      unfold fl at this
      rw [show (j + 1) * 2 = j * 2 + 1 + 1 by omega]
      simpa [pAt] using this
theorem own_prs {w : World} {B : Nat} {e : TypeId} {v : Value} {l : Prl} (h : w.ownsRow B e 2 v l.length ((fl l).map (Value.int .i64))) : Prs w v l := by
  have h0 := h
  rcases h.2 with ⟨rfl, hn⟩ | ⟨g, cap, cur, rfl, hB, hg, _⟩
  · left; exact ⟨List.eq_nil_of_length_eq_zero hn, none, 0, rfl⟩
  · right
    refine ⟨g, 0, cap, rfl, (Array.getElem?_eq_some_iff.1 hg).1, fun j hj => ?_⟩
    rw [Nat.zero_add, h0.cellAt (j * 2) (by omega), h0.cellAt (j * 2 + 1) (by omega)]
    have := fl_at l j hj
    rw [List.getElem?_map, List.getElem?_map, this.1, this.2]
    exact ⟨rfl, rfl⟩
theorem own_prs' {w : World} {B n : Nat} {e : TypeId} {a : Option Addr} {c : Nat} {l : Prl} (h : w.ownsRow B e 2 (.slice a n c) n ((fl l).map (Value.int .i64))) : Prs w (.slice a n c) l := by
  have h1 := h.1
  rw [List.length_map, fl_len] at h1
  have : n = l.length := by omega
  subst this
  exact own_prs h
set_option maxRecDepth 100000 in
theorem isKey_any (n : Int) (w : World) : Calls Tryz.prog 105 #[.int .i64 n] w fun e w' => e = .returned (.bool (inB n 0 255)) ∧ w' = w := by
  rcases Bool.eq_false_or_eq_true (inB n 0 255) with h | h
  · have h1 := inB_bd h
    rw [h]
    go_enter Tryz.func105, Tryz.ntmps105
    go_wp2
    go_ret
    exact ⟨ret_bool (by simp; omega), rfl⟩
  · rw [h]
    rcases inB_nb h with h1 | h1
    · go_enter Tryz.func105, Tryz.ntmps105
      go_wp2
      go_ret
      exact ⟨ret_bool (by first | rfl | (simp; omega)), rfl⟩
    · go_enter Tryz.func105, Tryz.ntmps105
      go_wp2
      go_ret
      exact ⟨ret_bool (by first | rfl | (simp; omega)), rfl⟩
set_option maxRecDepth 100000 in
theorem isSlot_any (p : Int × Int) (w : World) : Calls Tryz.prog 84 #[.agg #[.int .i64 p.1, .int .i64 p.2]] w fun e w' => e = .returned (.bool (fine p)) ∧ Below w.heap.size w w' := by
  obtain ⟨k, v⟩ := p
  unfold fine
  have HK := fun w => isKey_any k w
  have HV := fun w => isSum_any v w
  dsimp only
  generalize sumB v = y at *
  generalize inB k 0 255 = x at *
  cases x
  · go_enter Tryz.func84, Tryz.ntmps84
    go_wp2_with fail
    refine (HK _).mono ?_
    rintro e w1 ⟨rfl, rfl⟩
    clear HK HV
    go_wp2
    go_ret
    exact ⟨rfl, one_new _⟩
  · go_enter Tryz.func84, Tryz.ntmps84
    go_wp2_with fail
    refine (HK _).mono ?_
    rintro e w1 ⟨rfl, rfl⟩
    clear HK
    go_wp2_with fail
    refine (HV _).mono ?_
    rintro e w1 ⟨rfl, rfl⟩
    clear HV
    go_wp2
    go_ret
    exact ⟨rfl, one_new _⟩
set_option maxRecDepth 100000 in
theorem l2Is4 (n : Int) (w : World) : Calls Tryz.prog 71 #[.int .i64 n] w fun e w' => e = .returned (.bool (sumB n)) ∧ w' = w := by
  go_enter Tryz.func71, Tryz.ntmps71
  go_wp2_with (go_at_call 65; refine (l1In_any _ _ _ _).mono ?_; rintro e w1 ⟨rfl, rfl⟩)
  go_ret
  exact ⟨ret_bool (by unfold sumB inB; simp), rfl⟩
theorem two_cellsV {w : World} {g : Nat} {x y : Value} {t : TypeId} (h : w.heap[g]? = some (.cells #[x, y] t)) : w.cell? ⟨g, 0, none⟩ = some x ∧ w.cell? ⟨g, 1, none⟩ = some y ∧ w.frozen? ⟨g, 0, none⟩ = false ∧ w.frozen? ⟨g, 1, none⟩ = false := by
  refine ⟨?_, ?_, ?_, ?_⟩
  · unfold World.cell?; rw [h]; rfl
  · unfold World.cell?; rw [h]; rfl
  · unfold World.frozen?; rw [h]; rfl
  · unfold World.frozen?; rw [h]; rfl
theorem scan_step {l : Prl} {f i : Nat} (h : fine (pAt l i) = true) (h2 : 0 < i → (pAt l (i - 1)).1 < (pAt l i).1) : scan l (f + 1) i = scan l f (i + 1) := by
  rw [scan, if_neg (by rw [h]; simp), if_neg (by intro hh; have := h2 hh.1; omega)]
theorem scan_range {l : Prl} {f i : Nat} (h : fine (pAt l i) = false) : scan l (f + 1) i = 3 := by rw [scan, if_pos h]
theorem scan_form {l : Prl} {f i : Nat} (h : fine (pAt l i) = true) (h1 : 0 < i) (h2 : (pAt l i).1 ≤ (pAt l (i - 1)).1) : scan l (f + 1) i = 1 := by
  rw [scan, if_neg (by rw [h]; simp), if_pos ⟨h1, h2⟩]
set_option maxRecDepth 100000 in
set_option maxHeartbeats 2000000 in
theorem implSlotsFault_core (b off c n : Nat) (l : Prl) (w : World) (hn : n ≤ 12) (hb : b < w.heap.size)
    (hc : ∀ j, j < n → w.cell? ⟨b, off + j * 2, none⟩ = some (.int .i64 (pAt l j).1) ∧ w.cell? ⟨b, off + j * 2 + 1, none⟩ = some (.int .i64 (pAt l j).2)) :
    Calls Tryz.prog 56 #[.slice (some ⟨b, off, none⟩) n c] w fun e w' => e = .returned (.int .i64 (scan l n 0)) ∧ Below w.heap.size w w' := by
  go_enter Tryz.func56, Tryz.ntmps56
  go_wp2
  go_loopw [10] (fun i wr => ∃ k : Nat, k ≤ n ∧ i = .int .i64 k ∧ Below w.heap.size w wr ∧ Hid (scan l (n - k) k = scan l n 0)) (fun i _ => n - (intOf i).toNat)
  case atStart => exact ⟨0, Nat.zero_le _, rfl, Below.refl _ _, rfl⟩
  case round =>
    obtain ⟨k, hk, rfl, hB, HS⟩ := hrel
    by_cases hkn : k < n
    · have hki : (k : Int) < (n : Int) := by omega
      have hc1 := (hB.cell (p := ⟨b, off + k * 2, none⟩) hb).trans (hc k hkn).1
      have hc2 := (hB.cell (p := ⟨b, off + k * 2 + 1, none⟩) hb).trans (hc k hkn).2
      have HC : Hid (∀ j, j < n → w.cell? ⟨b, off + j * 2, none⟩ = some (.int .i64 (pAt l j).1) ∧ w.cell? ⟨b, off + j * 2 + 1, none⟩ = some (.int .i64 (pAt l j).2)) := hc
      have hI := fun w => isSlot_any (pAt l k) w
      obtain ⟨x, hx⟩ : ∃ x, x = (pAt l k).1 := ⟨_, rfl⟩
      obtain ⟨y, hy⟩ : ∃ y, y = (pAt l k).2 := ⟨_, rfl⟩
      obtain ⟨f, hf⟩ : ∃ f, f = fine (pAt l k) := ⟨_, rfl⟩
      have HX : Hid (x = (pAt l k).1) := hx
      have HF : Hid (f = fine (pAt l k)) := hf
      rw [← hx] at hc1 hI
      rw [← hy] at hc2 hI
      rw [← hf] at hI
      have hbr : b < wr.heap.size := Nat.lt_of_lt_of_le hb hB.size
      clear hx hy hf hc
      go_wp2_with fail
      refine (hI _).mono ?_
      rintro e w1 ⟨rfl, hb1⟩
      clear hI
      have hB1 : Below w.heap.size w w1 := below_after_of (hB.alloc hB.size _) hb1
      have hwr : wr.heap.size < w1.heap.size := by have := hb1.size; simp at this; omega
      obtain ⟨g0, g1, -, -⟩ := two_cellsV ((hb1.block wr.heap.size (by simp)).trans (heap_alloc_new wr _))
      have HB1 : Hid (Below w.heap.size w w1) := hB1
      have hbw := hB1.size
      cases f
      · have e3 : Hid (scan l n 0 = 3) := by show _ = _; rw [← HS.out, show n - k = (n - k - 1) + 1 by omega]; exact scan_range HF.out.symm
        clear hB1 hb1 hB
        go_wp2
        go_ret
        exact ⟨ret_int e3.out.symm, HB1.out⟩
      · by_cases hk0 : k = 0
        · subst hk0
          have HS2 : Hid (scan l (n - 1) 1 = scan l n 0) := by
            show _ = _
            rw [show n = (n - 1) + 1 by omega]
            exact (scan_step HF.out.symm (by omega)).symm
          clear hB1 hb1 hB HS
          go_wp2
          go_quiet (fail)
          go_wp2
          go_roundw
          case rel => exact ⟨1, by omega, by go_num, below_drewN HB1.out _, HS2⟩
          case measure => simp [intOf]; omega
        · have hk1 : 0 < k := by omega
          have hkp := (hB1.cell (p := ⟨b, off + (k - 1) * 2, none⟩) hb).trans (HC.out (k - 1) (by omega)).1
          obtain ⟨z, hz⟩ : ∃ z, z = (pAt l (k - 1)).1 := ⟨_, rfl⟩
          have HZ : Hid (z = (pAt l (k - 1)).1) := hz
          rw [← hz] at hkp
          obtain ⟨m, rfl⟩ : ∃ m, k = m + 1 := ⟨k - 1, by omega⟩
          simp only [Nat.add_sub_cancel] at hkp
          have hkg : decide (0 < ((m + 1 : Nat) : Int)) = true := by simp
          clear hz hB1 hb1 hB
          by_cases hle : x ≤ z
          · have hd : decide (x ≤ z) = true := by simpa using hle
            have e1 : Hid (scan l n 0 = 1) := by
              show _ = _
              rw [← HS.out, show n - (m + 1) = (n - (m + 1) - 1) + 1 by omega]
              exact scan_form HF.out.symm hk1 (by rw [← HX.out, ← HZ.out]; exact hle)
            go_wp2
            go_quiet (fail)
            go_wp2
            go_ret
            exact ⟨ret_int e1.out.symm, below_drewN HB1.out _⟩
          · have hd : decide (x ≤ z) = false := by simpa using hle
            have HS2 : Hid (scan l (n - (m + 1) - 1) (m + 1 + 1) = scan l n 0) := by
              show _ = _
              rw [← HS.out, show n - (m + 1) = (n - (m + 1) - 1) + 1 by omega]
              exact (scan_step HF.out.symm (fun _ => by rw [← HX.out, ← HZ.out]; omega)).symm
            go_wp2
            go_quiet (fail)
            go_wp2
            go_roundw
            case rel => exact ⟨m + 1 + 1, by omega, by go_num, below_drewN HB1.out _, by rw [show n - (m + 1 + 1) = n - (m + 1) - 1 by omega]; exact HS2⟩
            case measure => simp [intOf]; omega
    · have hkn : k = n := by omega
      subst hkn
      have e0 : Hid (scan l k 0 = 0) := by show _ = _; rw [← HS.out, Nat.sub_self]; rfl
      clear hc
      go_wp2
      go_ret
      exact ⟨ret_int e0.out.symm, hB⟩
theorem slF_many {l : Prl} (h : 12 < l.length) : slF l = 2 := by unfold slF; rw [if_pos h]
theorem slF_scan {l : Prl} (h : ¬ 12 < l.length) : slF l = scan l l.length 0 := by unfold slF; rw [if_neg h]
set_option maxRecDepth 100000 in
set_option maxHeartbeats 1000000 in
theorem implSlotsFault_any (v : Value) (l : Prl) (w : World) (hv : Prs w v l) (hx : l.length ≤ 1099511627776) :
    Calls Tryz.prog 56 #[v] w fun e w' => e = .returned (.int .i64 (slF l)) ∧ Below w.heap.size w w' := by
  obtain ⟨a, c, rfl⟩ := hv.shape
  by_cases h : 12 < l.length
  · rw [slF_many h]
    generalize l.length = n at *
    clear hv
    go_enter Tryz.func56, Tryz.ntmps56
    go_wp2
    go_ret
    exact ⟨rfl, Below.refl _ _⟩
  · rw [slF_scan h]
    by_cases h0 : 0 < l.length
    · obtain ⟨_, b, off, rfl, hb, hc⟩ := hv.at h0
      exact implSlotsFault_core b off c l.length l w (by omega) hb hc
    · have e1 : l = [] := List.eq_nil_of_length_eq_zero (by omega)
      subst e1
      simp only [List.length_nil]
      have e2 : scan [] 0 0 = 0 := rfl
      rw [e2]
      clear hv h0 hx h e2
      go_enter Tryz.func56, Tryz.ntmps56
      go_wp2
      refine wp_loop_rounds 1 ?_; rw [rounds_succ]
      go_wp2
      go_ret
      exact ⟨rfl, Below.refl _ _⟩
end U
end Go.Proofs.YtpelafkjnmcdgaaGreat

/- Where a key stands: a binary search over slots. -/
namespace Go.Proofs.YtpelafkjnmcdgaaGreat
open Go.RowKit
namespace U
def cmpI (x k : Int) : Int := if x < k then -1 else if k < x then 1 else 0
set_option maxRecDepth 100000 in
theorem isNaN_any (x : Int) (w : World) : Calls Tryz.prog 126 #[.int .i64 x] w fun e w' => e = .returned (.bool false) ∧ ∃ n, w' = w.drewN n := by
  go_enter Tryz.func126, Tryz.ntmps126
  go_wp2
  go_ret
  exact ⟨ret_bool (by simp), 0, rfl⟩
set_option maxRecDepth 100000 in
theorem compare_any (x k : Int) (w : World) : Calls Tryz.prog 111 #[.int .i64 x, .int .i64 k] w fun e w' => e = .returned (.int .i64 (cmpI x k)) ∧ ∃ n, w' = w.drewN n := by
  have hN := fun x w => isNaN_any x w
  unfold cmpI
  by_cases h1 : x < k
  · rw [if_pos h1]
    go_enter Tryz.func111, Tryz.ntmps111
    go_wp2_with (go_at_call 126; refine (hN _ _).mono ?_; rintro e w1 ⟨rfl, n1, rfl⟩)
    go_ret
    exact ⟨rfl, _, rfl⟩
  · rw [if_neg h1]
    by_cases h2 : k < x
    · rw [if_pos h2]
      go_enter Tryz.func111, Tryz.ntmps111
      go_wp2_with (go_at_call 126; refine (hN _ _).mono ?_; rintro e w1 ⟨rfl, n1, rfl⟩)
      go_ret
      exact ⟨rfl, _, rfl⟩
    · rw [if_neg h2]
      go_enter Tryz.func111, Tryz.ntmps111
      go_wp2_with (go_at_call 126; refine (hN _ _).mono ?_; rintro e w1 ⟨rfl, n1, rfl⟩)
      go_ret
      exact ⟨rfl, _, rfl⟩
set_option maxRecDepth 100000 in
theorem placeOf1_any (x y k : Int) (w : World) : Calls Tryz.prog 110 #[.agg #[.int .i64 x, .int .i64 y], .int .i64 k] w fun e w' => e = .returned (.int .i64 (cmpI x k)) ∧ Below w.heap.size w w' := by
  have hC := fun w => compare_any x k w
  generalize cmpI x k = c at *
  go_enter Tryz.func110, Tryz.ntmps110
  go_wp2_with fail
  refine (hC _).mono ?_
  rintro e w1 ⟨rfl, n1, rfl⟩
  clear hC
  go_wp2
  go_ret
  exact ⟨rfl, below_drewN (one_new _) _⟩
set_option maxRecDepth 100000 in
set_option maxHeartbeats 2000000 in
theorem binarySearch_core (b off c n : Nat) (l : Prl) (k : Int) (w : World) (HN : Hid (n = l.length)) (hn : n ≤ 12) (hb : b < w.heap.size) (HR : Hid (Ris l))
    (hc : ∀ j, j < n → w.cell? ⟨b, off + j * 2, none⟩ = some (.int .i64 (pAt l j).1) ∧ w.cell? ⟨b, off + j * 2 + 1, none⟩ = some (.int .i64 (pAt l j).2)) :
    Calls Tryz.prog 109 #[.slice (some ⟨b, off, none⟩) n c, .int .i64 k, .func (.func 110) #[] #[]] w fun e w' => e = .returned (.tuple #[.int .i64 (low l k : Nat), .bool (thr l k)]) ∧ Below w.heap.size w w' := by
  have hll : low l k ≤ n := by have := low_le l k; have := HN.out; omega
  have HI : Hid (∀ i, i < n → ((pAt l i).1 < k ↔ i < low l k)) := fun i hi => low_iff HR.out k (by have := HN.out; omega)
  have HC : Hid (∀ j, j < n → w.cell? ⟨b, off + j * 2, none⟩ = some (.int .i64 (pAt l j).1) ∧ w.cell? ⟨b, off + j * 2 + 1, none⟩ = some (.int .i64 (pAt l j).2)) := hc
  have HT : Hid (thr l k = (decide (low l k < n) && decide ((pAt l (low l k)).1 = k))) := by show _ = _; rw [HN.out]; rfl
  have HCM := fun x y w => placeOf1_any x y k w
  generalize thr l k = th at *
  generalize low l k = lo at *
  clear hc
  go_enter Tryz.func109, Tryz.ntmps109
  go_wp2
  go_loopw [9, 10] (fun a z wr => ∃ i j : Nat, a = .int .i64 i ∧ z = .int .i64 j ∧ i ≤ lo ∧ lo ≤ j ∧ j ≤ n ∧ Below w.heap.size w wr) (fun a z _ => (intOf z).toNat - (intOf a).toNat)
  case atStart => exact ⟨0, n, rfl, rfl, by omega, hll, by omega, Below.refl _ _⟩
  case round =>
    obtain ⟨i, j, rfl, rfl, hi, hj, hjn, hB⟩ := hrel
    by_cases hij : i < j
    · have hiji : (i : Int) < (j : Int) := by omega
      obtain ⟨h, hh⟩ : ∃ h, h = (i + j) / 2 := ⟨_, rfl⟩
      have h1 : i ≤ h := by omega
      have h2 : h < j := by omega
      have h3 : h < n := by omega
      obtain ⟨c0, c1⟩ := HC.out h h3
      have c0 := (hB.cell (p := ⟨b, off + h * 2, none⟩) hb).trans c0
      have c1 := (hB.cell (p := ⟨b, off + h * 2 + 1, none⟩) hb).trans c1
      have hM := fun w => HCM (pAt l h).1 (pAt l h).2 w
      have HX := HI.out h h3
      generalize (pAt l h).1 = x at *
      generalize (pAt l h).2 = y at *
      have e1 : IntKind.u64.wrap ((i : Int) + (j : Int)) = (i : Int) + (j : Int) := by rw [IntKind.wrap_u64]; omega
      have e2 : ((i : Int) + (j : Int)) / 2 = (h : Int) := by omega
      have hhn : (h : Int) < (n : Int) := by omega
      have HH : Hid (h = (i + j) / 2) := hh
      clear hh
      go_wp2_with fail
      refine (hM _).mono ?_
      rintro e w1 ⟨rfl, hb1⟩
      have hB1 := below_after_of hB hb1
      clear hM hb1 HCM
      by_cases hx : x < k
      · have hlt := HX.1 hx
        have ec : cmpI x k = -1 := by unfold cmpI; rw [if_pos hx]
        rw [ec]
        clear HX ec
        go_wp2
        go_roundw
        case rel => exact ⟨h + 1, j, by go_num, rfl, by omega, hj, hjn, hB1⟩
        case measure => simp [intOf]; omega
      · have hge : lo ≤ h := Nat.le_of_not_lt fun hh => hx (HX.2 hh)
        have ec : 0 ≤ cmpI x k ∧ cmpI x k ≤ 1 := by unfold cmpI; rw [if_neg hx]; split <;> omega
        generalize cmpI x k = cc at *
        clear HX
        go_wp2
        go_roundw
        case rel => exact ⟨i, h, rfl, rfl, hi, hge, by omega, hB1⟩
        case measure => simp [intOf]; omega
    · have e0 : i = lo := by omega
      subst e0
      have hiji : ¬ (i : Int) < (j : Int) := by omega
      by_cases hin : i < n
      · have hini : (i : Int) < (n : Int) := by omega
        obtain ⟨c0, c1⟩ := HC.out i hin
        have c0 := (hB.cell (p := ⟨b, off + i * 2, none⟩) hb).trans c0
        have c1 := (hB.cell (p := ⟨b, off + i * 2 + 1, none⟩) hb).trans c1
        have hM := fun w => HCM (pAt l i).1 (pAt l i).2 w
        have HX := HI.out i hin
        have ht := HT.out
        rw [decide_eq_true hin, Bool.true_and] at ht
        generalize (pAt l i).1 = x at *
        generalize (pAt l i).2 = y at *
        have hxk : ¬ x < k := fun hh => by have := HX.1 hh; omega
        have ec : (cmpI x k == 0) = decide (x = k) := by
          unfold cmpI
          rw [if_neg hxk]
          by_cases e : x = k
          · subst e; simp
          · rw [if_pos (by omega), decide_eq_false e]; rfl
        rw [← ht] at ec
        have ET : Hid ((cmpI x k == 0) = th) := ec
        generalize cmpI x k = cc at *
        clear HCM HX HT HI ht ec
        go_wp2_with fail
        refine (hM _).mono ?_
        rintro e w1 ⟨rfl, hb1⟩
        have hB1 := below_after_of hB hb1
        clear hM hb1
        go_wp2
        go_ret2
        exact ⟨by have := ET.out; subst this; rfl, hB1⟩
      · have hini : ¬ (i : Int) < (n : Int) := by omega
        have ht := HT.out
        rw [decide_eq_false hin, Bool.false_and] at ht
        subst ht
        clear HCM HI HT
        go_wp2
        go_ret2
        exact ⟨rfl, hB⟩
theorem thr_nil (k : Int) : thr [] k = false := rfl
theorem low_nil (k : Int) : low [] k = 0 := rfl
set_option maxRecDepth 100000 in
set_option maxHeartbeats 1000000 in
theorem binarySearch_any (v : Value) (l : Prl) (k : Int) (w : World) (hv : Prs w v l) (hl : l.length ≤ 12) (hr : Ris l) :
    Calls Tryz.prog 109 #[v, .int .i64 k, .func (.func 110) #[] #[]] w fun e w' => e = .returned (.tuple #[.int .i64 (low l k : Nat), .bool (thr l k)]) ∧ Below w.heap.size w w' := by
  obtain ⟨a, c, rfl⟩ := hv.shape
  by_cases h0 : 0 < l.length
  · obtain ⟨_, b, off, rfl, hb, hc⟩ := hv.at h0
    exact binarySearch_core b off c l.length l k w rfl hl hb hr hc
  · have e1 : l = [] := List.eq_nil_of_length_eq_zero (by omega)
    subst e1
    rw [thr_nil, low_nil]
    simp only [List.length_nil]
    clear hv h0 hl hr
    go_enter Tryz.func109, Tryz.ntmps109
    go_wp2
    refine wp_loop_rounds 1 ?_; rw [rounds_succ]
    go_wp2
    go_ret2
    exact ⟨rfl, Below.refl _ _⟩
set_option maxRecDepth 100000 in
set_option maxHeartbeats 1000000 in
theorem placeOf_any (v : Value) (l : Prl) (k : Int) (w : World) (hv : Prs w v l) (hl : l.length ≤ 12) (hr : Ris l) :
    Calls Tryz.prog 89 #[v, .int .i64 k] w fun e w' => e = .returned (.tuple #[.int .i64 (low l k : Nat), .bool (thr l k)]) ∧ Below w.heap.size w w' := by
  have hB := binarySearch_any v l k w hv hl hr
  obtain ⟨a, c, rfl⟩ := hv.shape
  generalize thr l k = th at *
  generalize low l k = lo at *
  generalize l.length = n at *
  clear hv hr
  go_enter Tryz.func89, Tryz.ntmps89
  go_wp2_with fail
  refine hB.mono ?_
  rintro e w1 ⟨rfl, hb1⟩
  clear hB
  go_wp2
  go_ret2
  exact ⟨rfl, hb1⟩
end U
end Go.Proofs.YtpelafkjnmcdgaaGreat

/- Slots as the laws look at them: sizes, copies, compared, marked and looked at anew. -/
namespace Go.Proofs.YtpelafkjnmcdgaaGreat
open Go.RowKit
namespace U
theorem Tryz.infoSl : (Tryz.prog.info? 92).map (fun i => (i.zero, i.size, i.bytes)) = some (some (.agg #[.int .i64 0, .int .i64 0]), 2, 16) := by kernel_rfl
theorem made_two (n : Nat) : (madeCells #[Value.int .i64 0, Value.int .i64 0] n).toList = List.replicate n (Value.int .i64 0) := by
  apply List.ext_getElem
  · simp [madeCells]
  · intro i h1 h2
    simp only [madeCells, Array.toList_map, List.getElem_map, List.getElem_replicate]
    rcases (by omega : (Array.range n).toList[i]'(by simpa [madeCells] using h1) % 2 = 0 ∨ (Array.range n).toList[i]'(by simpa [madeCells] using h1) % 2 = 1) with h | h <;> (show #[Value.int .i64 0, Value.int .i64 0][_ % 2]! = _; rw [h]; rfl)
theorem made_slots {w1 w : World} {n : Nat} {l : Prl} (HN : n = l.length) (h : w1.ownsRow w.heap.size 92 2 (.slice (some ⟨w.heap.size, 0, none⟩) n n) n (madeCells #[Value.int .i64 0, Value.int .i64 0] (n * 2)).toList) :
    w1.ownsRow w.heap.size 92 2 (.slice (some ⟨w.heap.size, 0, none⟩) n n) n ((copied (fl l) 0).map (Value.int .i64)) := by
  rw [copied_zero, fl_len, ← HN, List.map_replicate, ← made_two]
  exact h
theorem own_some2 {w : World} {B g n cap : Nat} {e : TypeId} {xs : List Value} (h : w.ownsRow B e 2 (.slice (some ⟨g, 0, none⟩) n cap) n xs) {j : Nat} (hj : j < n * 2) : ∃ x, w.cell? ⟨g, j, none⟩ = some x :=
  ⟨_, (h.cellAt j (by omega)).trans (List.getElem?_eq_getElem (by rw [h.1]; omega))⟩
theorem fl_getD (l : Prl) {j : Nat} (h : j < l.length) : (fl l).getD (j * 2) 0 = (pAt l j).1 ∧ (fl l).getD (j * 2 + 1) 0 = (pAt l j).2 := by
  have := fl_at l j h
  rw [List.getD_eq_getElem?_getD, List.getD_eq_getElem?_getD, this.1, this.2]
  exact ⟨rfl, rfl⟩
theorem two_set (l : Prl) {k : Nat} (h : k < l.length) : ((copied (fl l) (k * 2)).set (k * 2) (pAt l k).1).set (k * 2 + 1) (pAt l k).2 = copied (fl l) ((k + 1) * 2) := by
  have hl := fl_len l
  rw [← (fl_getD l h).1, copied_set _ _ (by omega), ← (fl_getD l h).2, copied_set _ _ (by omega)]
  congr 1
  omega
/-- Two lists that agree below a place. -/
def AgreeP (l m : Prl) (k : Nat) : Prop := ∀ j, j < k → pAt l j = pAt m j
theorem AgreeP.all {l m : Prl} (h : AgreeP l m l.length) (hl : l.length = m.length) : l = m := by
  apply List.ext_getElem hl
  intro j h1 h2
  have := h j h1
  rwa [pAt_eq h1, pAt_eq h2] at this
theorem AgreeP.succ {l m : Prl} {k : Nat} (h : AgreeP l m k) (h1 : pAt l k = pAt m k) : AgreeP l m (k + 1) := by
  intro j hj
  by_cases e : j = k
  · subst e; exact h1
  · exact h j (by omega)
end U
end Go.Proofs.YtpelafkjnmcdgaaGreat

/- The sums of what is empty, by the program and by the model. -/
namespace Go.Proofs.YtpelafkjnmcdgaaGreat
open Go.RowKit
namespace U
theorem pair_tag {tag a b : Int} (ht : 1 ≤ tag ∧ tag ≤ 9) (ha : 0 ≤ a ∧ a ≤ 65520) (hb : 0 ≤ b ∧ b ≤ 65520) : tgC tag [a, b] = 0 ∧ tsV tag [a, b] = sumL (tagL tag [a, b]) := by
  have h1 : inB tag 1 9 = true := inB_t ht.1 ht.2
  have h3 : [a, b].all sumB = true := by simp [sumB_iff, ha, hb]
  have h2 : ¬ 20 < [a, b].length := by simp
  have := tg_ok h1 h2 h3
  exact ⟨this.1, by rw [ts_ok this.1, this.2]⟩
theorem two_ints (w : World) (a b : Int) (t : TypeId) : Ints .i64 (w.alloc (.cells #[.int .i64 a, .int .i64 b] t)) (.slice (some ⟨w.heap.size, 0, none⟩) 2 2) [a, b] := by
  refine Or.inr ⟨w.heap.size, 0, 2, rfl, by simp, fun j hj => ?_⟩
  have hh := heap_alloc_new w (.cells #[.int .i64 a, .int .i64 b] t)
  have hj2 : j < 2 := hj
  rcases (by omega : j = 0 ∨ j = 1) with rfl | rfl <;> (unfold World.cell?; rw [hh]; rfl)
theorem two_ints_at {w : World} {g : Nat} {a b : Int} {t : TypeId} (hg : g = w.heap.size) : Ints .i64 (w.alloc (.cells #[.int .i64 a, .int .i64 b] t)) (.slice (some ⟨g, 0, none⟩) 2 2) [a, b] := by subst hg; exact two_ints w a b t
theorem field_IR1 (x y : Int) (w : World) : (Instr.field 37 (.agg #[.int .i64 x, .int .i64 y]) 1).run Tryz.prog w = .ok (.int .i64 y) w := by kernel_rfl
set_option maxRecDepth 100000 in
theorem pairSum_any (a b : Int) (w : World) (ha : 0 ≤ a ∧ a ≤ 65520) (hb : 0 ≤ b ∧ b ≤ 65520) :
    Calls Tryz.prog 87 #[.int .i64 a, .int .i64 b] w fun e w' => e = .returned (.int .i64 (t2 a b)) ∧ Below w.heap.size w w' := by
  have hT := fun (w : World) hv => implTagSum_any 2 (.slice (some ⟨w.heap.size, 0, none⟩) 2 2) [a, b] (w.alloc (.cells #[.int .i64 a, .int .i64 b] 2)) hv (by simp)
  have hp := pair_tag (tag := 2) (by omega) ha hb
  rw [hp.1, hp.2] at hT
  have e0 : sumL (tagL 2 [a, b]) = t2 a b := rfl
  rw [e0] at hT
  generalize t2 a b = s at *
  clear hp e0
  have kf := fun w => field_IR1 0 s w
  go_enter Tryz.func87, Tryz.ntmps87
  go_wp2_with fail
  refine (hT _ (two_ints _ _ _ _)).mono ?_
  rintro e w1 ⟨rfl, hb1⟩
  clear hT
  go_wp2
  go_ret
  exact ⟨rfl, below_after hb1⟩
set_option maxRecDepth 100000 in
set_option maxHeartbeats 1000000 in
theorem l2Tag2_any (tag a b : Int) (u : Value) (w : World) (ht : 0 ≤ tag ∧ tag ≤ 255) (hu : Ints .i64 w u [a, b]) (ha : 0 ≤ a ∧ a ≤ 65520) (hb : 0 ≤ b ∧ b ≤ 65520) :
    Calls Tryz.prog 123 #[.int .i64 tag, u] w fun e w' => e = .returned (.int .i64 (sumL (tagL tag [a, b]))) ∧ Below w.heap.size w w' := by
  have h3 : [a, b].all sumB = true := by simp [sumB_iff, ha, hb]
  have hB := fun w h => l2Bytes_any tag u [a, b] w h (by simp) ht h3
  have hS := fun v w h => l2Sum_any v (tagL tag [a, b]) w h (tagL_bts ht h3) (by rw [tagL_len]; simp)
  have hl : (tagL tag [a, b]).length = 5 := by rw [tagL_len]; rfl
  have HU : Hid (Ints .i64 w u [a, b]) := hu
  obtain ⟨a', c', hu2⟩ := hu.shape
  have hu3 : u = .slice a' 2 c' := hu2
  subst hu3
  clear hu2
  rw [hl] at hB
  have HL : Hid ((tagL tag [a, b]).length = 5) := hl
  generalize sumL (tagL tag [a, b]) = s at *
  generalize tagL tag [a, b] = ys at *
  clear hu hl h3 ha hb ht
  go_enter Tryz.func123, Tryz.ntmps123
  go_wp2_with fail
  refine (hB _ HU.out).mono ?_
  rintro e w1 ⟨v', rfl, own1, hb1⟩
  rw [← HL.out] at own1
  have HI : Hid (Ints .u8 w1 v' ys) := own_ints own1
  obtain ⟨a1, c1, rfl⟩ := own_shape own1
  rw [HL.out] at HI ⊢
  clear hB own1
  go_wp2_with fail
  refine (hS _ _ HI.out).mono ?_
  rintro e w2 ⟨rfl, rfl⟩
  clear hS
  go_wp2
  go_ret
  exact ⟨rfl, hb1⟩
set_option maxRecDepth 100000 in
set_option maxHeartbeats 1000000 in
theorem l4Empty_any (n : Nat) (w : World) (hn : n ≤ 1000) :
    Calls Tryz.prog 122 #[.int .i64 (n : Int)] w fun e w' => e = .returned (.int .i64 (emp n)) ∧ Below w.heap.size w w' := by
  have hS := fun w => l2Sum_any (.slice none 0 0) [] w (Or.inl ⟨rfl, _, _, rfl⟩) (fun b hb => by cases hb) (by simp)
  have e0 : sumL [] = 13 := rfl
  rw [e0] at hS
  go_enter Tryz.func122, Tryz.ntmps122
  go_wp2_with fail
  refine (hS _).mono ?_
  rintro e w1 ⟨rfl, rfl⟩
  clear hS e0
  go_wp2
  go_loopw [0, 3] (fun i s wr => ∃ k : Nat, k ≤ n ∧ i = .int .i64 k ∧ s = .int .i64 (emp (n - k)) ∧ Below w1.heap.size w1 wr) (fun i _ _ => (intOf i).toNat)
  case atStart => exact ⟨n, Nat.le_refl _, rfl, by rw [Nat.sub_self]; rfl, Below.refl _ _⟩
  case round =>
    obtain ⟨k, hk, rfl, rfl, hB⟩ := hrel
    by_cases h0 : 0 < k
    · have hi0 : (0 : Int) < (k : Int) := by omega
      have hbd := emp_bd (n - k)
      have he : Hid (emp (n - (k - 1)) = sumL (tagL 2 [emp (n - k), emp (n - k)])) := by
        show _ = _
        rw [show n - (k - 1) = (n - k) + 1 by omega]
        rfl
      generalize emp (n - k) = x at *
      have hT := fun w u hu => l2Tag2_any 2 x x u w (by omega) hu hbd hbd
      generalize sumL (tagL 2 [x, x]) = y at *
      go_wp2_with fail
      refine (hT _ _ (two_ints _ _ _ _)).mono ?_
      rintro e w2 ⟨rfl, hb2⟩
      have hB2 := below_after_of hB (below_after hb2)
      clear hT hb2 hB
      go_wp2
      go_roundw
      case rel => exact ⟨k - 1, by omega, by go_num, by rw [he.out], hB2⟩
      case measure => simp [intOf]; omega
    · have : k = 0 := by omega
      subst this
      go_wp2
      go_ret
      exact ⟨rfl, hB⟩
/-- The code and the value of the sum of what is empty. -/
def eC (n : Int) : Int := if inB n 0 8 = true then 0 else 3
def eV (n : Int) : Int := if inB n 0 8 = true then emp n.toNat else 0
end U
end Go.Proofs.YtpelafkjnmcdgaaGreat

/- What is cut out of slots, and the sum of a part, by the model. -/
namespace Go.Proofs.YtpelafkjnmcdgaaGreat
open Go.RowKit
namespace U
def cutAt (l : Prl) (a b : Int) (k : Nat) : Prl := cut (l.take k) a b
theorem cutAt_zero (l : Prl) (a b : Int) : cutAt l a b 0 = [] := rfl
theorem cutAt_all (l : Prl) (a b : Int) : cutAt l a b l.length = cut l a b := by unfold cutAt; rw [List.take_length]
theorem takeP {l : Prl} {k : Nat} (h : k < l.length) : l.take (k + 1) = l.take k ++ [pAt l k] := by
  rw [List.take_succ_eq_append_getElem h, pAt_eq h]
theorem cutAt_in {l : Prl} {a b : Int} {k : Nat} (h : k < l.length) (h1 : a ≤ (pAt l k).1) (h2 : (pAt l k).1 < b) : cutAt l a b (k + 1) = cutAt l a b k ++ [pAt l k] := by
  unfold cutAt cut
  rw [takeP h, List.filter_append, List.filter_cons_of_pos (by simp [h1, h2])]
  rfl
theorem cutAt_out {l : Prl} {a b : Int} {k : Nat} (h : k < l.length) (h1 : ¬ (a ≤ (pAt l k).1 ∧ (pAt l k).1 < b)) : cutAt l a b (k + 1) = cutAt l a b k := by
  unfold cutAt cut
  rw [takeP h, List.filter_append, List.filter_cons_of_neg (by simp; omega)]
  simp
theorem cutAt_len (l : Prl) (a b : Int) (k : Nat) : (cutAt l a b k).length ≤ l.length := by
  have h1 := cut_len (l.take k) a b
  rw [List.length_take] at h1
  unfold cutAt
  omega
theorem own_snoc {w : World} {B : Nat} {e : TypeId} {v : Value} {l : Prl} {x y : Int} (h : w.ownsRow B e 2 v (l.length + 1) ((fl l).map (Value.int .i64) ++ [.int .i64 x, .int .i64 y])) : w.ownsRow B e 2 v (l ++ [(x, y)]).length ((fl (l ++ [(x, y)])).map (Value.int .i64)) := by
  rw [fl_app, List.map_append, List.length_append]
  exact h
theorem own_shape2 {w : World} {B n : Nat} {e : TypeId} {v : Value} {xs : List Value} (h : w.ownsRow B e 2 v n xs) : ∃ a c, v = .slice a n c := by
  rcases h.2 with ⟨rfl, hn⟩ | ⟨g, cap, cur, rfl, _⟩
  · exact ⟨none, 0, by rw [hn]⟩
  · exact ⟨_, _, rfl⟩
theorem none_own (w : World) (e : TypeId) (B : Nat) (hB : B ≤ w.heap.size) : (w.alloc (.cells #[] e)).ownsRow B e 2 (.slice (some ⟨w.heap.size, 0, none⟩) 0 0) 0 [] :=
  World.ownsRow_made w #[] 0 hB (by decide) rfl
set_option maxRecDepth 100000 in
set_option maxHeartbeats 2000000 in
theorem l4Cut_core (ad : Option Addr) (n c : Nat) (l : Prl) (a b : Int) (w : World) (HN : Hid (n = l.length)) (hn : n ≤ 1048576) (HV : Hid (Prs w (.slice ad n c) l)) :
    Calls Tryz.prog 121 #[.slice ad n c, .int .i64 a, .int .i64 b] w fun e w' => ∃ v', e = .returned v' ∧ w'.ownsRow w.heap.size 92 2 v' (cut l a b).length ((fl (cut l a b)).map (Value.int .i64)) ∧ Below w.heap.size w w' := by
  obtain ⟨i0, hi, hz0, hz1, hz2⟩ := info_parts Tryz.infoSl
  go_enter Tryz.func121, Tryz.ntmps121
  go_wp2
  go_loopw [7, 8] (fun u i wr => ∃ k : Nat, k ≤ n ∧ i = .int .i64 k ∧ Hid (Below w.heap.size w wr) ∧ Hid (wr.ownsRow w.heap.size 92 2 u (cutAt l a b k).length ((fl (cutAt l a b k)).map (Value.int .i64)))) (fun _ i _ => n - (intOf i).toNat)
  case atStart => exact ⟨0, Nat.zero_le _, rfl, one_new _, none_own w _ _ (Nat.le_refl _)⟩
  case round =>
    obtain ⟨k, hk, rfl, hB, ho⟩ := hrel
    obtain ⟨a', c', rfl⟩ := own_shape2 ho.out
    by_cases hkn : k < n
    · have hki : (k : Int) < (n : Int) := by omega
      have hkl : k < l.length := by have := HN.out; omega
      obtain ⟨-, bk, off, rfl, hbk, hc⟩ := HV.out.at (by omega)
      have hc1 := (hB.out.cell (p := ⟨bk, off + k * 2, none⟩) hbk).trans (hc k hkl).1
      have hc2 := (hB.out.cell (p := ⟨bk, off + k * 2 + 1, none⟩) hbk).trans (hc k hkl).2
      have HI : Hid (a ≤ (pAt l k).1 → (pAt l k).1 < b → cutAt l a b (k + 1) = cutAt l a b k ++ [((pAt l k).1, (pAt l k).2)]) := cutAt_in hkl
      have HO : Hid (¬ (a ≤ (pAt l k).1 ∧ (pAt l k).1 < b) → cutAt l a b (k + 1) = cutAt l a b k) := cutAt_out hkl
      have hlen := cutAt_len l a b k
      rw [← HN.out] at hlen
      generalize (pAt l k).1 = x at *
      generalize (pAt l k).2 = y at *
      generalize cutAt l a b k = m at *
      clear hc
      by_cases h1 : a ≤ x
      · by_cases h2 : x < b
        · have HI2 := HI.out h1 h2
          have HS : Hid (cutAt l a b (k + 1) = m ++ [(x, y)]) := HI2
          have ho2 := ho.out
          have hsz := hB.out.size
          clear HI HO HI2
          go_wp2_with (at_builtin; refine wpList_append_own _ rfl _ _ 46 rfl w.heap.size 92 i0 (.agg #[.int .i64 0, .int .i64 0]) 2 16 Tryz.underlying46 hi hz0 hz1 hz2 rfl (by decide) _ _ _ rfl (ho2.alloc _) ⟨wr.heap.size, 0, none⟩ 1 1 [.int .i64 x, .int .i64 y] rfl rfl (World.news_of_block (heap_alloc_new _ _)) (ints_oneCell .i64 [x, y]) (by unfold maxLen; omega) (by omega) (by simp; omega) ?_)
          intro v' w2 hown' hgrow _
          have hb2 : Below w.heap.size w w2 := (hB.out.alloc (by omega) _).grown hgrow (by simp; omega) (fun k hk => (ho.out.lt k hk).1)
          have own2 := own_snoc hown'
          clear hgrow hown' ho2 ho
          go_wp2
          go_roundw
          case rel => exact ⟨k + 1, by omega, by go_num, hb2, by rw [HS.out]; exact own2⟩
          case measure => simp [intOf]; omega
        · have HS : Hid (cutAt l a b (k + 1) = m) := HO.out (fun h => h2 h.2)
          clear HI HO
          go_wp2
          go_roundw
          case rel => exact ⟨k + 1, by omega, by go_num, hB, by rw [HS.out]; exact ho⟩
          case measure => simp [intOf]; omega
      · have HS : Hid (cutAt l a b (k + 1) = m) := HO.out (fun h => h1 h.1)
        clear HI HO
        go_wp2
        go_roundw
        case rel => exact ⟨k + 1, by omega, by go_num, hB, by rw [HS.out]; exact ho⟩
        case measure => simp [intOf]; omega
    · have hkn : k = n := by omega
      subst hkn
      have e1 : cutAt l a b k = cut l a b := by rw [HN.out]; exact cutAt_all _ _ _
      rw [e1] at ho ⊢
      go_wp2
      go_ret
      exact ⟨_, rfl, ho.out, hB.out⟩
theorem l4Cut_any (v : Value) (l : Prl) (a b : Int) (w : World) (hv : Prs w v l) (hn : l.length ≤ 1048576) :
    Calls Tryz.prog 121 #[v, .int .i64 a, .int .i64 b] w fun e w' => ∃ a' c', e = .returned (.slice a' (cut l a b).length c') ∧ w'.ownsRow w.heap.size 92 2 (.slice a' (cut l a b).length c') (cut l a b).length ((fl (cut l a b)).map (Value.int .i64)) ∧ Below w.heap.size w w' := by
  obtain ⟨ad, c, rfl⟩ := hv.shape
  refine (l4Cut_core ad l.length c l a b w rfl hn hv).mono ?_
  rintro e w' ⟨v', rfl, ho, hb⟩
  obtain ⟨a', c', rfl⟩ := own_shape2 ho
  exact ⟨a', c', rfl, ho, hb⟩
end U
end Go.Proofs.YtpelafkjnmcdgaaGreat

/- Answers of a code and slots: compared, marked and looked at anew. -/
namespace Go.Proofs.YtpelafkjnmcdgaaGreat
open Go.RowKit
namespace U
def mkP (k n : Nat) : Prl := (List.range n).map fun j => (((k + j * 2 : Nat) : Int), ((k + (j * 2 + 1) : Nat) : Int))
theorem mkP_len (k n : Nat) : (mkP k n).length = n := by simp [mkP]
theorem mkP_at (k n j : Nat) (h : j < n) : pAt (mkP k n) j = (((k + j * 2 : Nat) : Int), ((k + (j * 2 + 1) : Nat) : Int)) := by
  rw [pAt_eq (by rw [mkP_len]; exact h)]
  simp [mkP]
theorem fl_mkP (k n : Nat) : fl (mkP k n) = marks k (n * 2) := by
  apply List.ext_getElem?
  intro i
  by_cases h : i < n * 2
  · have h1 := fl_at (mkP k n) (i / 2) (by rw [mkP_len]; omega)
    rw [mkP_at k n (i / 2) (by omega)] at h1
    have e : (marks k (n * 2))[i]? = some ((k + i : Nat) : Int) := by simp [marks, h]
    rw [e]
    rcases (by omega : i = i / 2 * 2 ∨ i = i / 2 * 2 + 1) with hh | hh
    · rw [hh, h1.1]
    · rw [hh, h1.2]
  · rw [List.getElem?_eq_none (by rw [fl_len, mkP_len]; omega), List.getElem?_eq_none (by rw [marks_len]; omega)]
theorem Prs.grown {w w' : World} {v : Value} {l : Prl} {row : Option Nat} (h : Prs w v l) (hg : w.grownBy w' row) (hne : v.ownBlock = none ∨ v.ownBlock ≠ row) : Prs w' v l := by
  rcases h with h | ⟨b, off, c, rfl, hlt, hc⟩
  · exact Or.inl h
  · have hnb : some b ≠ row := by
      rcases hne with hh | hh
      · simp [Value.ownBlock] at hh
      · exact hh
    exact Or.inr ⟨b, off, c, rfl, Nat.lt_of_lt_of_le hlt hg.size, fun j hj => ⟨hg.cell (hc j hj).1 hnb, hg.cell (hc j hj).2 hnb⟩⟩
theorem own_prs_n {w : World} {B n : Nat} {e : TypeId} {v : Value} {l : Prl} (HN : n = l.length) (h : w.ownsRow B e 2 v n ((fl l).map (Value.int .i64))) : Prs w v l := by
  subst HN; exact own_prs h
end U
end Go.Proofs.YtpelafkjnmcdgaaGreat

/- What is cut out of slots, by the program; CutSlots. -/
namespace Go.Proofs.YtpelafkjnmcdgaaGreat
open Go.RowKit
namespace U
/-- The answer of a function that hands back a code and slots of its own. -/
def SlotsAns (w : World) (code : Int) (l : Prl) (e : Ending) (w' : World) : Prop :=
  Below w.heap.size w w' ∧ ∃ v, e = .returned (.agg #[.int .i64 code, v]) ∧ w'.ownsRow w.heap.size 92 2 v l.length ((fl l).map (Value.int .i64))
theorem SlotsAns.use {w w' : World} {code : Int} {l : Prl} {e : Ending} (h : SlotsAns w code l e w') : ∃ a c, e = .returned (.agg #[.int .i64 code, .slice a l.length c]) ∧ Below w.heap.size w w' ∧ w'.ownsRow w.heap.size 92 2 (.slice a l.length c) l.length ((fl l).map (Value.int .i64)) := by
  obtain ⟨hb, v, rfl, ho⟩ := h
  obtain ⟨a, c, rfl⟩ := own_shape2 ho
  exact ⟨a, c, rfl, hb, ho⟩
/-- A slice value as it may be: no more in it than it has room for; without an address there is no room. -/
def Okv (v : Value) : Prop := ∀ a n c, v = .slice a n c → n ≤ c ∧ (a = none → c = 0)
theorem own_okv {w : World} {B : Nat} {e : TypeId} {v : Value} {m : Nat} {xs : List Value} (h : w.ownsRow B e 2 v m xs) : Okv v := by
  intro a n c hv
  subst hv
  rcases h.2 with ⟨h1, _⟩ | ⟨g, cap, cur, h1, _, _, hc, _⟩
  · cases h1; exact ⟨by omega, fun _ => rfl⟩
  · cases h1; exact ⟨hc, fun h => by cases h⟩
/-- Slots between two keys: it shares memory with the list. -/
theorem prs_part {w : World} {b off n c i j : Nat} {l : Prl} (hn : n = l.length) (hb : b < w.heap.size) (hij : i ≤ j) (hj : j ≤ n)
    (hc : ∀ j, j < n → w.cell? ⟨b, off + j * 2, none⟩ = some (.int .i64 (pAt l j).1) ∧ w.cell? ⟨b, off + j * 2 + 1, none⟩ = some (.int .i64 (pAt l j).2)) :
    Prs w (.slice (some ⟨b, off + i * 2, none⟩) (j - i) c) ((l.take j).drop i) := by
  right
  have hl : ((l.take j).drop i).length = j - i := by rw [List.length_drop, List.length_take]; omega
  refine ⟨b, off + i * 2, c, by rw [hl], hb, fun k hk => ?_⟩
  rw [hl] at hk
  have h1 := hc (i + k) (by omega)
  have e : pAt ((l.take j).drop i) k = pAt l (i + k) := by
    unfold pAt
    rw [List.getD_eq_getElem?_getD, List.getD_eq_getElem?_getD, List.getElem?_drop, List.getElem?_take, if_pos (by omega)]
  rw [e, show off + i * 2 + k * 2 = off + (i + k) * 2 by omega]
  exact h1
/-- The code and the slots that are cut out. -/
def cutB (a b : Int) : Bool := inB a 0 256 && inB b a 256
def csC (l : Prl) (a b : Int) : Int := if slF l = 0 then (if cutB a b = true then 0 else 3) else slF l
def csL (l : Prl) (a b : Int) : Prl := if slF l = 0 ∧ cutB a b = true then cut l a b else []
theorem csL_len (l : Prl) (a b : Int) : (csL l a b).length ≤ l.length := by
  unfold csL
  split
  · exact cut_len _ _ _
  · simp
theorem pair_cells {w : World} {g : Nat} {x y : Value} {t : TypeId} : w.heap[g]? = some (.cells #[x, y] t) → w.cell? ⟨g, 0, none⟩ = some x ∧ w.cell? ⟨g, 1, none⟩ = some y ∧ w.frozen? ⟨g, 0, none⟩ = false ∧ w.frozen? ⟨g, 1, none⟩ = false := two_cellsV
theorem prs_news {w : World} {ad : Addr} {m c : Nat} {l : Prl} (h : Prs w (.slice (some ad) m c) l) : ∀ j u, ((fl l).map (Value.int .i64))[j]? = some u → w.cell? (ad.add j) = some u := by
  intro j u hu
  have hj : j < l.length * 2 := by
    have := (List.getElem?_eq_some_iff.1 hu).1
    rwa [List.length_map, fl_len] at this
  obtain ⟨_, b, off, e, hb, hc⟩ := h.at (by omega)
  cases e
  have h1 := hc (j / 2) (by omega)
  have h2 := fl_at l (j / 2) (by omega)
  rw [List.getElem?_map] at hu
  rw [Go.WideShapes.add_plain]
  rcases (by omega : j = j / 2 * 2 ∨ j = j / 2 * 2 + 1) with e | e
  · rw [e, h2.1] at hu
    rw [show off + j = off + j / 2 * 2 by omega, h1.1]
    exact hu
  · rw [e, h2.2] at hu
    rw [show off + j = off + j / 2 * 2 + 1 by omega, h1.2]
    exact hu
end U
end Go.Proofs.YtpelafkjnmcdgaaGreat

/- The slots of a directory, as the program tells them. -/
namespace Go.Proofs.YtpelafkjnmcdgaaGreat
open Go.RowKit
namespace U
/-- The sum of a record. -/
def Rc.s (r : Rc) : Int := sumL (packL r.l r.v r.o r.p)
theorem Rc.sbd (r : Rc) : 0 ≤ r.s ∧ r.s ≤ 65520 := sumL_bd _
/-- The slots of the first records. -/
def slTo (l : Rcl) : Nat → Prl
  | 0 => []
  | k + 1 => slTo l k ++ [((rAt l k).k, (rAt l k).s)]
theorem slTo_len (l : Rcl) : ∀ k, (slTo l k).length = k
  | 0 => rfl
  | k + 1 => by show (slTo l k ++ _).length = _; rw [List.length_append, slTo_len l k]; rfl
def dirSl (l : Rcl) : Prl := slTo l l.length
def sfL (l : Rcl) : Prl := if dirF l = 0 then dirSl l else []
/-- One element more, where it stands among operations. -/
theorem step_append_one {P : Program} {w : World} {ops : Array Oper} {o : Oper} {a : Act} {K : Act → World → Prop} {Q : Exit → Act → World → Prop} {E : Prop} (hgd : o.guard = none) (s x : Operand) (t : TypeId)
    (ho : o.op = .call { callee := .builtin .append, args := #[s, x], argTypes := #[t, t] })
    (base : Nat) (e : TypeId) (i : TypeInfo) (z : Value) (size bytes : Nat) (ht : P.underlying t = some (.slice e)) (hi : P.info? e = some i) (hz : i.zero = some z)
    (hsize : i.size = size) (hby : i.bytes = bytes) (hzs : z.cells.size = size) (hsz : 0 < size)
    (v : Value) (n : Nat) (xs : List Value) (hs : a.eval s = v) (hown : w.ownsRow base e size v n xs)
    (ad : Addr) (c : Nat) (news : List Value) (hx : a.eval x = .slice (some ad) 1 c) (hl : news.length = 1 * size) (hnews : ∀ j u, news[j]? = some u → w.cell? (ad.add j) = some u) (h1 : ∀ u ∈ news, u.oneCell' = true)
    (h63 : n + 1 ≤ maxLen) (hbytes : (n + 1) * bytes ≤ 140737488355328) (hbase : base ≤ w.heap.size)
    (h : ∀ g c' w', w'.ownsRow base e size (.slice (some ⟨g, 0, none⟩) (n + 1) c') (n + 1) (xs ++ news) → w.grownBy w' v.ownBlock → K (a.put o.dst (.slice (some ⟨g, 0, none⟩) (n + 1) c')) w') :
    if Region.wanted o (yielded ops a.tmps) = true then Oper.wp P o a w K Q else E := by
  have hw : Region.wanted o (yielded ops a.tmps) = true := by simp [Region.wanted, hgd]
  rw [if_pos hw]
  refine wp_append_own w s x t ho base e i z size bytes ht hi hz hsize hby hzs hsz v n xs hs hown ad 1 c news hx hl hnews h1 h63 hbytes hbase fun v' w' h2 h3 _ => ?_
  rcases h2.2 with ⟨rfl, hn⟩ | ⟨g, cap, cur, rfl, _⟩
  · omega
  · exact h g cap w' h2 h3
theorem own_snocS {w : World} {B : Nat} {v : Value} {m : Prl} {x y : Int} {n : Nat} (h : w.ownsRow B 92 2 v (n + 1) ((fl m).map (Value.int .i64) ++ [.int .i64 x, .int .i64 y])) : w.ownsRow B 92 2 v (n + 1) ((fl (m ++ [(x, y)])).map (Value.int .i64)) := by
  rw [fl_app, List.map_append]
  exact h
theorem field_IRx (x y : Int) (w : World) : (Instr.field 37 (.agg #[.int .i64 x, .int .i64 y]) 1).run Tryz.prog w = .ok (.int .i64 y) w := by kernel_rfl
theorem own_sh {w : World} {B e size n : Nat} {v : Value} {xs : List Value} (h : w.ownsRow B e size v n xs) : ∃ a c, v = .slice a n c := by
  rcases h.2 with ⟨rfl, rfl⟩ | ⟨g, cap, cur, rfl, _⟩
  · exact ⟨none, 0, rfl⟩
  · exact ⟨_, _, rfl⟩
set_option maxRecDepth 100000 in
set_option maxHeartbeats 4000000 in
theorem implSlotsOf_core (b off c n : Nat) (l : Rcl) (w : World) (hn : n ≤ 12) (hb : b < w.heap.size) (hok : ∀ j, j < n → (rAt l j).c = 0) (hc : ∀ j, j < n → RecS w b (off + j * 4) (rAt l j))
    (hF : ∀ w', Below w.heap.size w w' → Calls Tryz.prog 48 #[.agg #[.slice (some ⟨b, off, none⟩) n c]] w' fun e w'' => e = .returned (.int .i64 0) ∧ Below w'.heap.size w' w'') :
    Calls Tryz.prog 19 #[.agg #[.slice (some ⟨b, off, none⟩) n c]] w fun e w' => ∃ u, e = .returned (.agg #[.int .i64 0, u]) ∧ Below w.heap.size w w' ∧ w'.ownsRow w.heap.size 92 2 u n ((fl (slTo l n)).map (Value.int .i64)) := by
  obtain ⟨i0, hi, hz0, hz1, hz2⟩ := info_parts Tryz.infoSl
  obtain ⟨W, hW⟩ : ∃ W, W = (w.alloc (.cells #[.slice (some ⟨b, off, none⟩) n c] 42)).alloc (.cells #[.int .i64 0, .slice none 0 0] 48) := ⟨_, rfl⟩
  have HW : Hid ((w.alloc (.cells #[.slice (some ⟨b, off, none⟩) n c] 42)).alloc (.cells #[.int .i64 0, .slice none 0 0] 48) = W) := hW.symm
  have hB : Below w.heap.size w W := by rw [hW]; exact two_new _ _
  have h1 : W.heap[w.heap.size + 1]? = some (.cells #[.int .i64 0, .slice none 0 0] 48) := by rw [hW]; exact heap_new2 w _ _
  have h2 : W.heap[w.heap.size]? = some (.cells #[.slice (some ⟨b, off, none⟩) n c] 42) := by rw [hW]; exact heap_alloc_old' _ _ _ (heap_alloc_new w _)
  have hF := hF W hB
  clear hW
  go_enter Tryz.func19, Tryz.ntmps19
  go_wp2_with fail
  rw [HW.out]
  refine hF.mono ?_
  rintro e w1 ⟨rfl, hb1⟩
  have hB1 := below_after_of hB hb1
  have h1 := (hb1.block _ (Array.getElem?_eq_some_iff.1 h1).1).trans h1
  have h2 := (hb1.block _ (Array.getElem?_eq_some_iff.1 h2).1).trans h2
  have k2 : w1.cell? ⟨w.heap.size, 0, none⟩ = some (.slice (some ⟨b, off, none⟩) n c) := by unfold World.cell?; rw [h2]; rfl
  have hlt1 : w.heap.size + 1 < w1.heap.size := (Array.getElem?_eq_some_iff.1 h1).1
  have HH : Hid (w1.heap[w.heap.size + 1]? = some (.cells #[.int .i64 0, .slice none 0 0] 48)) := h1
  have HC : Hid (∀ j, j < n → RecS w1 b (off + j * 4) (rAt l j)) := fun j hj => (hc j hj).below hB1 hb
  have hb1' : b < w1.heap.size := Nat.lt_of_lt_of_le hb hB1.size
  have HB1 : Hid (Below w.heap.size w w1) := hB1
  clear hF hb1 hB h1 h2 hc hB1
  go_wp2
  go_loopw [4, 16] (fun u i wr => ∃ k : Nat, k ≤ n ∧ i = .int .i64 k ∧ Hid (Below w1.heap.size w1 wr) ∧ Hid (wr.ownsRow w1.heap.size 92 2 u k ((fl (slTo l k)).map (Value.int .i64)))) (fun _ i _ => n - (intOf i).toNat)
  case atStart => exact ⟨0, Nat.zero_le _, rfl, Below.refl _ _, World.ownsRow_nil _ _ _ _⟩
  case round =>
    obtain ⟨k, hk, rfl, hB, ho⟩ := hrel
    obtain ⟨a', c', rfl⟩ := own_sh ho.out
    by_cases hkn : k < n
    · have hki : (k : Int) < (n : Int) := by omega
      have hr := (HC.out k hkn).below hB.out hb1'
      have hc0 := hok k hkn
      have hKy := fun w => recordKey_any (rAt l k).l (rAt l k).v (rAt l k).o (rAt l k).p w (Rc.labelP_of hc0)
      have hRs := fun w => implRecordSum_any (rAt l k).l (rAt l k).v (rAt l k).o (rAt l k).p w (by have := Rc.small_of hc0; omega)
      have e1 : recC (rAt l k).l (rAt l k).v (rAt l k).o (rAt l k).p = 0 := hc0
      rw [rs_ok e1, e1] at hRs
      have e2 : keyI (rAt l k).l = (rAt l k).k := rfl
      have e3 : sumL (packL (rAt l k).l (rAt l k).v (rAt l k).o (rAt l k).p) = (rAt l k).s := rfl
      rw [e2] at hKy
      rw [e3] at hRs
      have HG : Hid (slTo l (k + 1) = slTo l k ++ [((rAt l k).k, (rAt l k).s)]) := rfl
      obtain ⟨d0, d1, d2, d3⟩ := hr
      unfold recV at hKy hRs
      generalize (rAt l k).k = kz at *
      generalize (rAt l k).s = sz at *
      generalize (rAt l k).l = x0 at *
      generalize (rAt l k).v = x1 at *
      generalize (rAt l k).o = x2 at *
      generalize (rAt l k).p = x3 at *
      have hfx := field_IRx
      have hbr0 : b < wr.heap.size := Nat.lt_of_lt_of_le hb1' hB.out.size
      obtain ⟨V, hV⟩ : ∃ V, V = wr.alloc (.cells #[.string x0, .int .i64 x1, .int .i64 x2, .int .i64 x3] 88) := ⟨_, rfl⟩
      have HV : Hid (wr.alloc (.cells #[.string x0, .int .i64 x1, .int .i64 x2, .int .i64 x3] 88) = V) := hV.symm
      have hVB : Below wr.heap.size wr V := by rw [hV]; exact one_new _
      have hVH : V.heap[wr.heap.size]? = some (.cells #[.string x0, .int .i64 x1, .int .i64 x2, .int .i64 x3] 88) := by rw [hV]; exact heap_alloc_new wr _
      have hlt := (Array.getElem?_eq_some_iff.1 hVH).1
      have HVC : Hid (∀ w', Below V.heap.size V w' → w'.cell? ⟨wr.heap.size, 0, none⟩ = some (.string x0) ∧ w'.cell? ⟨wr.heap.size, 1, none⟩ = some (.int .i64 x1) ∧ w'.cell? ⟨wr.heap.size, 2, none⟩ = some (.int .i64 x2) ∧ w'.cell? ⟨wr.heap.size, 3, none⟩ = some (.int .i64 x3)) := fun w' h => four_cellsV ((h.block wr.heap.size hlt).trans hVH)
      have HOW : Hid (∀ w', Below V.heap.size V w' → w'.ownsRow w1.heap.size 92 2 (.slice a' k c') k ((fl (slTo l k)).map (Value.int .i64))) := fun w' h => own_below (own_below ho.out hVB) h
      have hoB : ∀ j, (Value.slice a' k c').ownBlock = some j → w1.heap.size ≤ j ∧ j < wr.heap.size := fun j hj => ho.out.lt j hj
      obtain ⟨g0, g1, g2, g3⟩ := four_cellsV hVH
      have hbr := Below.refl V.heap.size V
      have HZS : Hid (w1.heap.size ≤ wr.heap.size) := hB.out.size
      have HVS : Hid (wr.heap.size ≤ V.heap.size) := hVB.size
      have HVB : Hid (Below wr.heap.size wr V) := hVB
      clear hc0 e1 e2 e3 hV hVH hVB
      go_wp2_with fail
      rw [HV.out]
      go_region_held3 (fun w' => w'.cell? ⟨wr.heap.size, 0, none⟩ = some (.string x0) ∧ w'.cell? ⟨wr.heap.size, 1, none⟩ = some (.int .i64 x1) ∧ w'.cell? ⟨wr.heap.size, 2, none⟩ = some (.int .i64 x2) ∧ w'.cell? ⟨wr.heap.size, 3, none⟩ = some (.int .i64 x3))
        (first | with_reducible exact ⟨g0, g1, g2, g3⟩ | with_reducible exact HVC.out _ hbr | with_reducible exact HVC.out _ hbr.drew | with_reducible exact HVC.out _ (hbr.alloc hbr.size _) | with_reducible exact hlast)
        (first
          | (go_at_call 54; refine (hKy _).mono ?_; rintro e w5 ⟨rfl, hb5⟩; have hbr : Below V.heap.size V w5 := (by first | exact below_after_of hbr hb5 | exact below_after_of hbr.drew hb5))
          | (go_at_call 55; refine (hRs _).mono ?_; rintro e w6 ⟨rfl, hb6⟩; have hbr : Below V.heap.size V w6 := (by first | exact below_after_of hbr hb6 | exact below_after_of hbr.drew hb6))
          | (refine step_append_one (by rfl) _ _ _ (by rfl) w1.heap.size 92 i0 (.agg #[.int .i64 0, .int .i64 0]) 2 16 Tryz.underlying46 hi hz0 hz1 hz2 rfl (by decide) (.slice a' k c') k _ (by rfl) (HOW.out _ (hbr.alloc hbr.size _)) ⟨w6.heap.size, 0, none⟩ 1 [.int .i64 kz, .int .i64 sz] (by rfl) (by rfl) (World.news_of_block (heap_alloc_new _ _)) (ints_oneCell .i64 [kz, sz]) (by unfold maxLen; omega) (by omega) (by have := HZS.out; have := HVS.out; have := hbr.size; simp; omega) ?_; intro g7 c7 w7 ho7 hg7; have hlast : w7.cell? ⟨wr.heap.size, 0, none⟩ = some (.string x0) ∧ w7.cell? ⟨wr.heap.size, 1, none⟩ = some (.int .i64 x1) ∧ w7.cell? ⟨wr.heap.size, 2, none⟩ = some (.int .i64 x2) ∧ w7.cell? ⟨wr.heap.size, 3, none⟩ = some (.int .i64 x3) := (by
              have hne : some wr.heap.size ≠ (Value.slice a' k c').ownBlock := (fun e => by have := hoB _ e.symm; omega)
              have q := HVC.out _ (hbr.alloc hbr.size (.cells #[.int .i64 kz, .int .i64 sz] 92))
              exact ⟨hg7.cell q.1 hne, hg7.cell q.2.1 hne, hg7.cell q.2.2.1 hne, hg7.cell q.2.2.2 hne⟩)))
      have HO7 : Hid (w7.ownsRow w1.heap.size 92 2 (.slice (some ⟨g7, 0, none⟩) (k + 1) c7) (k + 1) ((fl (slTo l (k + 1))).map (Value.int .i64))) := (by rw [HG.out]; exact own_snocS ho7 : w7.ownsRow w1.heap.size 92 2 (.slice (some ⟨g7, 0, none⟩) (k + 1) c7) (k + 1) ((fl (slTo l (k + 1))).map (Value.int .i64)))
      have hbA : Below w1.heap.size w1 (w6.alloc (.cells #[.int .i64 kz, .int .i64 sz] 92)) := below_after_of hB.out (below_after_of HVB.out (hbr.alloc hbr.size _))
      have HB7 : Hid (Below w1.heap.size w1 w7) := hbA.grown hg7 hbA.size (fun j hj => (hoB j hj).1)
      clear hbA hg7 ho7 hlast HOW HVC
      go_wp2
      go_roundw
      case rel => exact ⟨k + 1, by omega, by go_num, HB7, HO7⟩
      case measure => simp [intOf]; omega
    · have hkn : k = n := by omega
      subst hkn
      have hh := (hB.out.block _ hlt1).trans HH.out
      obtain ⟨c0, c1, f0, f1⟩ := two_cells hh
      have HBE : Hid (Below w.heap.size w wr) := below_after_of HB1.out hB.out
      have HL1 : Hid (w.heap.size ≤ w1.heap.size) := HB1.out.size
      clear hh HC
      go_wp2
      refine bodyPost_ret (v := .agg #[.int .i64 0, .slice a' k c']) (by simp [results, Tryz.results19, go_sem, c0, c1]) rfl ⟨.slice a' k c', rfl, (HBE.out.setCell (Nat.le_succ _) _).setCell (Nat.le_succ _) _, ?_⟩
      exact own_mono (ownsRow_setCell_below (ownsRow_setCell_below ho.out (by show w.heap.size + 1 < w1.heap.size; exact hlt1) _) (by show w.heap.size + 1 < w1.heap.size; exact hlt1) _) HL1.out
set_option maxRecDepth 100000 in
set_option maxHeartbeats 1000000 in
theorem implSlotsOf_any (v : Value) (l : Rcl) (w : World) (hv : Rcs w v l) (hl : Lbs l) (hx : l.length ≤ 1048576) :
    Calls Tryz.prog 19 #[.agg #[v]] w fun e w' => SlotsAns w (dirF l) (sfL l) e w' := by
  have hF := fun w' hb => implDirectoryFault_any v l w' (hv.below (w' := w') hb) hl (by omega)
  obtain ⟨a, c, rfl⟩ := hv.shape
  by_cases h0 : dirF l = 0
  · have hok := dirOk h0
    have e1 : sfL l = slTo l l.length := by unfold sfL; rw [if_pos h0]; rfl
    rw [h0] at hF ⊢
    rw [e1]
    by_cases hl0 : 0 < l.length
    · obtain ⟨_, b, off, rfl, hb, hc⟩ := hv.at hl0
      refine (implSlotsOf_core b off c l.length l w hok.len hb hok.ok hc hF).mono ?_
      rintro e w' ⟨u, rfl, hB, ho⟩
      exact ⟨hB, u, rfl, by rw [slTo_len]; exact ho⟩
    · have e2 : l = [] := List.eq_nil_of_length_eq_zero (by omega)
      subst e2
      simp only [List.length_nil] at *
      have hF := fun o o' => hF ((w.alloc o).alloc o') (two_new _ _)
      clear hv hl0 hok e1 h0 hl
      go_enter Tryz.func19, Tryz.ntmps19
      go_wp2_with fail
      refine (hF _ _).mono ?_
      rintro e w1 ⟨rfl, hb1⟩
      obtain ⟨c0, c1, f0, f1⟩ := two_cells ((hb1.block (w.heap.size + 1) (by simp)).trans (heap_new2 w _ _))
      have k2 : w1.cell? ⟨w.heap.size, 0, none⟩ = some (.slice a 0 c) := by unfold World.cell?; rw [(hb1.block w.heap.size (by simp; omega)).trans (heap_alloc_old' _ _ _ (heap_alloc_new w _))]; rfl
      have hB1 : Below w.heap.size w w1 := below_after (below_after hb1)
      clear hF hb1
      go_wp2
      refine wp_loop_rounds 1 ?_; rw [rounds_succ]
      go_wp2
      exact bodyPost_ret (v := .agg #[.int .i64 0, .slice none 0 0]) (by simp [results, Tryz.results19, go_sem, c0, c1]) rfl ⟨(hB1.setCell (Nat.le_succ _) _).setCell (Nat.le_succ _) _, _, rfl, World.ownsRow_nil _ _ _ _⟩
  · have e1 : sfL l = [] := by unfold sfL; rw [if_neg h0]
    have hqn : (dirF l != 0) = true := by simpa using h0
    rw [e1]
    have hF := fun o o' => hF ((w.alloc o).alloc o') (two_new _ _)
    generalize dirF l = q at *
    generalize l.length = n at *
    clear hv e1 h0
    go_enter Tryz.func19, Tryz.ntmps19
    go_wp2_with fail
    refine (hF _ _).mono ?_
    rintro e w1 ⟨rfl, hb1⟩
    obtain ⟨c0, c1, f0, f1⟩ := two_cells ((hb1.block (w.heap.size + 1) (by simp)).trans (heap_new2 w _ _))
    have hB1 : Below w.heap.size w w1 := below_after (below_after hb1)
    clear hF hb1
    go_wp2
    exact bodyPost_ret (v := .agg #[.int .i64 q, .slice none 0 0]) (by simp [results, Tryz.results19, go_sem, c0, c1]) rfl ⟨(hB1.setCell (Nat.le_succ _) _).setCell (Nat.le_succ _) _, _, rfl, World.ownsRow_nil _ _ _ _⟩
end U
end Go.Proofs.YtpelafkjnmcdgaaGreat

/- A record put among those of other keys, by the model. -/
namespace Go.Proofs.YtpelafkjnmcdgaaGreat
open Go.RowKit
namespace U
theorem putT_len_le (l : Rcl) (r : Rc) : ∀ k, (putT l r k).2.length ≤ 2 * k
  | 0 => Nat.le_refl _
  | k + 1 => by
    have ih := putT_len_le l r k
    show (if (rAt l k).k = r.k then (if (!(putT l r k).1 && decide (r.k ≤ (rAt l k).k)) = true then (putT l r k).2 ++ [r] else (putT l r k).2) else (if (!(putT l r k).1 && decide (r.k ≤ (rAt l k).k)) = true then (putT l r k).2 ++ [r] else (putT l r k).2) ++ [rAt l k]).length ≤ _
    split <;> split <;> (try simp only [List.length_append, List.length_cons, List.length_nil]) <;> omega
theorem boxed_grown {W w1 : World} {n₀ B : Nat} {t e : TypeId} {size : Nat} {v : Value} {k : Nat} {xs : List Value} {tmp : Obj} (hv : Boxed W B t v) (hte : t ≠ e) (hrow : W.ownsRow n₀ e size v k xs) (hgrow : (W.alloc tmp).grownBy w1 v.ownBlock) : Boxed w1 B t v := (hv.alloc tmp).kept hgrow (hv.not_row hte hrow)
theorem grown_like {V W w1 : World} {row : Option Nat} (h : V.grownBy w1 row) (e1 : V.os = W.os) (e2 : V.tape = W.tape) (e3 : V.output = W.output) (e4 : V.heap = W.heap) : W.grownBy w1 row := ⟨h.os.trans e1, h.tape.trans e2, h.output.trans e3, by rw [← e4]; exact h.size, fun i hi hr => by rw [← e4] at hi ⊢; exact h.block i hi hr⟩
/-- What a round of putting does. -/
theorem putT_step (l : Rcl) (r : Rc) (k : Nat) : putT l r (k + 1) = ((putT l r k).1 || decide (r.k ≤ (rAt l k).k), if (rAt l k).k = r.k then (if (!(putT l r k).1 && decide (r.k ≤ (rAt l k).k)) = true then (putT l r k).2 ++ [r] else (putT l r k).2) else (if (!(putT l r k).1 && decide (r.k ≤ (rAt l k).k)) = true then (putT l r k).2 ++ [r] else (putT l r k).2) ++ [rAt l k]) := rfl
set_option maxRecDepth 100000 in
set_option maxHeartbeats 8000000 in
theorem l9Put_core (g b off c n : Nat) (av : Option Addr) (l : Rcl) (r0 : ByteArray) (r1 r2 r3 : Int) (w : World) (hn : n ≤ 12) (hg : g < w.heap.size) (hav : 0 < n → av = some ⟨b, off, none⟩ ∧ b < w.heap.size) (hsm : ∀ j, j < n → (rAt l j).l.size ≤ 12) (hrs : r0.size ≤ 12)
    (hD : w.cell? ⟨g, 0, none⟩ = some (.slice av n c)) (hc : ∀ j, j < n → RecS w b (off + j * 4) (rAt l j)) :
    Calls Tryz.prog 116 #[.pointer (some ⟨g, 0, none⟩), .agg #[.string r0, .int .i64 r1, .int .i64 r2, .int .i64 r3]] w fun e w' => ∃ a m c, e = .returned (.agg #[.slice a m c]) ∧ Below w.heap.size w w' ∧ w'.ownsRow w.heap.size 88 4 (.slice a m c) m (flR (if (putT l ⟨r0, r1, r2, r3⟩ n).1 = true then (putT l ⟨r0, r1, r2, r3⟩ n).2 else (putT l ⟨r0, r1, r2, r3⟩ n).2 ++ [⟨r0, r1, r2, r3⟩])) := by
  obtain ⟨i0, hi, hz0, hz1, hz2⟩ := info_parts Tryz.infoRc
  obtain ⟨r, hr⟩ : ∃ r : Rc, r = ⟨r0, r1, r2, r3⟩ := ⟨_, rfl⟩
  have HR0 : Hid (r = ⟨r0, r1, r2, r3⟩) := hr
  rw [← hr]
  obtain ⟨RL, hRL⟩ : ∃ RL, RL = if (putT l r n).1 = true then (putT l r n).2 else (putT l r n).2 ++ [r] := ⟨_, rfl⟩
  have HRL : Hid (RL = if (putT l r n).1 = true then (putT l r n).2 else (putT l r n).2 ++ [r]) := hRL
  rw [← hRL]
  clear hRL
  have hKr := fun w => l2Key_any r0 w hrs
  have e0 : keyI r0 = r.k := by rw [hr]; rfl
  rw [e0] at hKr
  clear hr e0
  obtain ⟨W, hW⟩ : ∃ W, W = ((w.alloc (.cells #[.string r0, .int .i64 r1, .int .i64 r2, .int .i64 r3] 88)).alloc (.cells #[.slice none 0 0] 42)).alloc (.cells #[.slice none 0 0] 42) := ⟨_, rfl⟩
  have HW : Hid (((w.alloc (.cells #[.string r0, .int .i64 r1, .int .i64 r2, .int .i64 r3] 88)).alloc (.cells #[.slice none 0 0] 42)).alloc (.cells #[.slice none 0 0] 42) = W) := hW.symm
  have hB : Below w.heap.size w W := by rw [hW]; exact ((one_new _).alloc (one_new _).size _).alloc ((one_new _).alloc (one_new _).size _).size _
  have q2 : Boxed W (w.heap.size + 1 + 1) 42 (.slice none 0 0) := by
    have h2 := heap_alloc_new ((w.alloc (.cells #[.string r0, .int .i64 r1, .int .i64 r2, .int .i64 r3] 88)).alloc (.cells #[.slice none 0 0] 42)) (.cells #[.slice none 0 0] 42)
    simp only [World.size_alloc] at h2
    rw [hW]
    exact h2
  have q1 : Boxed W (w.heap.size + 1) 42 (.slice none 0 0) := by
    have h1 := heap_alloc_new (w.alloc (.cells #[.string r0, .int .i64 r1, .int .i64 r2, .int .i64 r3] 88)) (.cells #[.slice none 0 0] 42)
    simp only [World.size_alloc] at h1
    rw [hW]
    exact ((one_new _).block (w.heap.size + 1) (by simp)).trans h1
  have q0 : W.heap[w.heap.size]? = some (.cells #[.string r0, .int .i64 r1, .int .i64 r2, .int .i64 r3] 88) := by
    rw [hW]
    exact ((one_new _).block w.heap.size (by simp; omega)).trans (heap_alloc_old' _ _ _ (heap_alloc_new w _))
  clear hW
  go_enter Tryz.func116, Tryz.ntmps116
  go_wp2_with fail
  rw [HW.out]
  refine (hKr _).mono ?_
  rintro e w1 ⟨rfl, hb1⟩
  have q2 : Boxed w1 (w.heap.size + 1 + 1) 42 (.slice none 0 0) := (hb1.block _ q2.lt).trans q2
  have q1 : Boxed w1 (w.heap.size + 1) 42 (.slice none 0 0) := (hb1.block _ q1.lt).trans q1
  have q0 := (hb1.block _ (Array.getElem?_eq_some_iff.1 q0).1).trans q0
  have hBW := below_after_of hB hb1
  have HD : Hid (∀ w', Below (w.heap.size + 1 + 1) w1 w' → w'.cell? ⟨g, 0, none⟩ = some (.slice av n c)) := fun w' h => (h.cell (p := ⟨g, 0, none⟩) (by show g < w.heap.size + 1 + 1; omega)).trans ((hBW.cell (p := ⟨g, 0, none⟩) hg).trans hD)
  have HX : Hid (∀ j w', j < n → Below (w.heap.size + 1 + 1) w1 w' → RecS w' b (off + j * 4) (rAt l j)) := fun j w' hj h => ((hc j hj).below hBW (hav (by omega)).2).below h (by have := (hav (by omega)).2; omega)
  have HRB : Hid (∀ w', Below (w.heap.size + 1 + 1) w1 w' → w'.cell? ⟨w.heap.size, 0, none⟩ = some (.string r0) ∧ w'.cell? ⟨w.heap.size, 1, none⟩ = some (.int .i64 r1) ∧ w'.cell? ⟨w.heap.size, 2, none⟩ = some (.int .i64 r2) ∧ w'.cell? ⟨w.heap.size, 3, none⟩ = some (.int .i64 r3)) := fun w' h => four_cellsV ((h.block _ (by omega)).trans q0)
  have HZ1 : Hid (∀ w', Below (w.heap.size + 1 + 1) w1 w' → Boxed w' (w.heap.size + 1) 42 (.slice none 0 0)) := fun w' h => (h.block _ (by omega)).trans q1
  have hzw : w.heap.size + 1 + 1 < w1.heap.size := q2.lt
  clear hKr hb1 hB q0 q1 hc hD
  go_wp2
  go_loopw [6, 8] (fun d i wr => ∃ k : Nat, k ≤ n ∧ i = .int .i64 k ∧ d = .bool (putT l r k).1 ∧ Hid (Below (w.heap.size + 1 + 1) w1 wr) ∧ Hid (w1.heap.size ≤ wr.heap.size) ∧ Hid (∃ a c, Boxed wr (w.heap.size + 1 + 1) 42 (.slice a (putT l r k).2.length c) ∧ wr.ownsRow w1.heap.size 88 4 (.slice a (putT l r k).2.length c) (putT l r k).2.length (flR (putT l r k).2))) (fun _ i _ => n - (intOf i).toNat)
  case atStart => exact ⟨0, Nat.zero_le _, rfl, rfl, Below.refl _ _, Nat.le_refl _, ⟨none, 0, q2, World.ownsRow_nil _ _ _ _⟩⟩
  case round =>
    obtain ⟨k, hk, rfl, rfl, hB, hzr, ho⟩ := hrel
    obtain ⟨a, cr, hbx, hrow⟩ := ho.out
    have hDk := HD.out _ hB.out
    have hcx := hbx.cell
    have hml := putT_len_le l r k
    obtain ⟨rr0, rr1, rr2, rr3⟩ := HRB.out _ hB.out
    have hzr' := hzr.out
    by_cases hkn : k < n
    · have hki : (k : Int) < (n : Int) := by omega
      obtain ⟨hav1, hb⟩ := hav (by omega)
      subst hav1
      have hK := fun w => l2Key_any (rAt l k).l w (hsm k hkn)
      have e2 : keyI (rAt l k).l = (rAt l k).k := rfl
      rw [e2] at hK
      have HXK : Hid (∀ w', Below (w.heap.size + 1 + 1) w1 w' → RecS w' b (off + k * 4) (rAt l k)) := fun w' h => HX.out k w' hkn h
      have HST := putT_step l r k
      have HS : Hid (putT l r (k + 1) = ((putT l r k).1 || decide (r.k ≤ (rAt l k).k), if (rAt l k).k = r.k then (if (!(putT l r k).1 && decide (r.k ≤ (rAt l k).k)) = true then (putT l r k).2 ++ [r] else (putT l r k).2) else (if (!(putT l r k).1 && decide (r.k ≤ (rAt l k).k)) = true then (putT l r k).2 ++ [r] else (putT l r k).2) ++ [rAt l k])) := HST
      generalize rAt l k = x at *
      obtain ⟨x0, x1, x2, x3⟩ := x
      generalize hxk : Rc.k ⟨x0, x1, x2, x3⟩ = xk at *
      have HXC : Hid (∀ w', Below (w.heap.size + 1 + 1) w1 w' → w'.cell? ⟨b, off + k * 4, none⟩ = some (.string x0) ∧ w'.cell? ⟨b, off + k * 4 + 1, none⟩ = some (.int .i64 x1) ∧ w'.cell? ⟨b, off + k * 4 + 2, none⟩ = some (.int .i64 x2) ∧ w'.cell? ⟨b, off + k * 4 + 3, none⟩ = some (.int .i64 x3)) := fun w' h => ⟨(HXK.out _ h).c0, (HXK.out _ h).c1, (HXK.out _ h).c2, (HXK.out _ h).c3⟩
      obtain ⟨xx0, -, -, -⟩ := HXC.out _ hB.out
      dsimp only at hK
      generalize (putT l r k).1 = d at *
      generalize (putT l r k).2 = o at *
      generalize hrk : r.k = rk at *
      have HHB : Hid (Boxed wr (w.heap.size + 1 + 1) 42 (.slice a o.length cr)) := hbx
      have HHR : Hid (wr.ownsRow w1.heap.size 88 4 (.slice a o.length cr) o.length (flR o)) := hrow
      clear HST e2 hxk hrk HXK hbx hrow ho HX
      cases d
      · by_cases hge : rk ≤ xk
        · have hdl : decide (rk ≤ xk) = true := by simpa using hge
          by_cases hxr : xk = rk
          · have hxn : (xk != rk) = false := by simpa using hxr
            have HQ : Hid (putT l r (k + 1) = (true, o ++ [r])) := (by rw [HS.out]; simp [hxr] : putT l r (k + 1) = (true, o ++ [r]))
            go_wp2_with fail
            refine (hK _).mono ?_
            rintro e w2 ⟨rfl, hb2⟩
            have hB2 : Below (w.heap.size + 1 + 1) w1 w2 := hB.out.trans (hb2.mono (by omega))
            have HHB2 : Hid (Boxed w2 (w.heap.size + 1 + 1) 42 (.slice a o.length cr)) := (hb2.block _ HHB.out.lt).trans HHB.out
            have HHR2 : Hid (w2.ownsRow w1.heap.size 88 4 (.slice a o.length cr) o.length (flR o)) := own_below HHR.out hb2
            have hzr2 : w1.heap.size ≤ w2.heap.size := Nat.le_trans hzr' hb2.size
            have hDk2 := HD.out _ hB2
            have hcx2 := HHB2.out.cell
            obtain ⟨rr0, rr1, rr2, rr3⟩ := HRB.out _ hB2
            obtain ⟨xx0, xx1, xx2, xx3⟩ := HXC.out _ hB2
            have hlt2 : w.heap.size + 1 + 1 < w2.heap.size := by omega
            clear hK hb2 HHB HHR hcx hDk
            go_wp2_with (at_builtin; refine wpList_append_own _ rfl _ _ 40 rfl w1.heap.size 88 i0 (.agg #[.string ⟨#[]⟩, .int .i64 0, .int .i64 0, .int .i64 0]) 4 40 Tryz.underlying40 hi hz0 hz1 hz2 rfl (by decide) _ _ _ rfl (HHR2.out.alloc _) ⟨w2.heap.size, 0, none⟩ 1 1 [.string r0, .int .i64 r1, .int .i64 r2, .int .i64 r3] rfl rfl (World.news_of_block (heap_alloc_new _ _)) (by simp [Value.oneCell']) (by unfold maxLen; omega) (by omega) (by simp; omega) ?_; intro v' w81 hown1 hgrow1 hnil1; obtain ⟨g1, p1, rfl⟩ := ownsRow_succ hown1; obtain ⟨hv11, hv21, hr21, hk21, hb21⟩ := HHB2.out.appended (by decide) (own_mono HHR2.out (by omega : w.heap.size + 1 + 1 ≤ w1.heap.size)) (by omega) (Nat.le_refl _) (own_mono hown1 (by omega : w.heap.size + 1 + 1 ≤ w1.heap.size)) hgrow1; have hc11 := hv11.cell; have hf11 := hv11.frozen; have HON1 : Hid (w81.ownsRow w1.heap.size 88 4 (.slice (some ⟨g1, 0, none⟩) (o.length + 1) p1) (o.length + 1) (flR o ++ [.string r0, .int .i64 r1, .int .i64 r2, .int .i64 r3])) := hown1; have HBN1 : Hid (Boxed (w81.setCell ⟨w.heap.size + 1 + 1, 0, none⟩ (.slice (some ⟨g1, 0, none⟩) (o.length + 1) p1)) (w.heap.size + 1 + 1) 42 (.slice (some ⟨g1, 0, none⟩) (o.length + 1) p1)) := hv21; have HBB1 : Hid (Below (w.heap.size + 1 + 1) w2 (w81.setCell ⟨w.heap.size + 1 + 1, 0, none⟩ (.slice (some ⟨g1, 0, none⟩) (o.length + 1) p1))) := hb21; have HSZ1 : Hid (w2.heap.size ≤ w81.heap.size) := Nat.le_trans (by simp) hgrow1.size; clear hgrow1 hnil1 hown1 hr21 hk21 hv21 hb21)
            have hBE : Below (w.heap.size + 1 + 1) w1 (w81.setCell ⟨w.heap.size + 1 + 1, 0, none⟩ (.slice (some ⟨g1, 0, none⟩) (o.length + 1) p1)) := hB2.trans HBB1.out
            have HRE : Hid ((w81.setCell ⟨w.heap.size + 1 + 1, 0, none⟩ (.slice (some ⟨g1, 0, none⟩) (o.length + 1) p1)).ownsRow w1.heap.size 88 4 (.slice (some ⟨g1, 0, none⟩) (o.length + 1) p1) (o.length + 1) (flR (o ++ [r]))) := (by rw [flR_app, HR0.out]; exact ownsRow_setCell_below HON1.out (by show w.heap.size + 1 + 1 < w1.heap.size; omega) _ : (w81.setCell ⟨w.heap.size + 1 + 1, 0, none⟩ (.slice (some ⟨g1, 0, none⟩) (o.length + 1) p1)).ownsRow w1.heap.size 88 4 (.slice (some ⟨g1, 0, none⟩) (o.length + 1) p1) (o.length + 1) (flR (o ++ [r])))
            have HZE : Hid (w1.heap.size ≤ (w81.setCell ⟨w.heap.size + 1 + 1, 0, none⟩ (.slice (some ⟨g1, 0, none⟩) (o.length + 1) p1)).heap.size) := hBE.size
            clear hc11 hf11 HBB1 HON1 hv11
            go_wp2
            go_roundw
            case rel => exact ⟨k + 1, by omega, by go_num, by rw [HQ.out], hBE, HZE, ⟨_, _, by rw [HQ.out, List.length_append]; exact HBN1.out, by rw [HQ.out, List.length_append]; exact HRE.out⟩⟩
            case measure => simp [intOf]; omega
          · have hxn : (xk != rk) = true := by simpa using hxr
            have HQ : Hid (putT l r (k + 1) = (true, (o ++ [r]) ++ [⟨x0, x1, x2, x3⟩])) := (by rw [HS.out]; simp [hdl, hxr] : putT l r (k + 1) = (true, (o ++ [r]) ++ [⟨x0, x1, x2, x3⟩]))
            go_wp2_with fail
            refine (hK _).mono ?_
            rintro e w2 ⟨rfl, hb2⟩
            have hB2 : Below (w.heap.size + 1 + 1) w1 w2 := hB.out.trans (hb2.mono (by omega))
            have HHB2 : Hid (Boxed w2 (w.heap.size + 1 + 1) 42 (.slice a o.length cr)) := (hb2.block _ HHB.out.lt).trans HHB.out
            have HHR2 : Hid (w2.ownsRow w1.heap.size 88 4 (.slice a o.length cr) o.length (flR o)) := own_below HHR.out hb2
            have hzr2 : w1.heap.size ≤ w2.heap.size := Nat.le_trans hzr' hb2.size
            have hDk2 := HD.out _ hB2
            have hcx2 := HHB2.out.cell
            obtain ⟨rr0, rr1, rr2, rr3⟩ := HRB.out _ hB2
            obtain ⟨xx0, xx1, xx2, xx3⟩ := HXC.out _ hB2
            have hlt2 : w.heap.size + 1 + 1 < w2.heap.size := by omega
            clear hK hb2 HHB HHR hcx hDk
            go_wp2_with (at_builtin; refine wpList_append_own _ rfl _ _ 40 rfl w1.heap.size 88 i0 (.agg #[.string ⟨#[]⟩, .int .i64 0, .int .i64 0, .int .i64 0]) 4 40 Tryz.underlying40 hi hz0 hz1 hz2 rfl (by decide) _ _ _ rfl (HHR2.out.alloc _) ⟨w2.heap.size, 0, none⟩ 1 1 [.string r0, .int .i64 r1, .int .i64 r2, .int .i64 r3] rfl rfl (World.news_of_block (heap_alloc_new _ _)) (by simp [Value.oneCell']) (by unfold maxLen; omega) (by omega) (by simp; omega) ?_; intro v' w81 hown1 hgrow1 hnil1; obtain ⟨g1, p1, rfl⟩ := ownsRow_succ hown1; obtain ⟨hv11, hv21, hr21, hk21, hb21⟩ := HHB2.out.appended (by decide) (own_mono HHR2.out (by omega : w.heap.size + 1 + 1 ≤ w1.heap.size)) (by omega) (Nat.le_refl _) (own_mono hown1 (by omega : w.heap.size + 1 + 1 ≤ w1.heap.size)) hgrow1; have hc11 := hv11.cell; have hf11 := hv11.frozen; have HON1 : Hid (w81.ownsRow w1.heap.size 88 4 (.slice (some ⟨g1, 0, none⟩) (o.length + 1) p1) (o.length + 1) (flR o ++ [.string r0, .int .i64 r1, .int .i64 r2, .int .i64 r3])) := hown1; have HBN1 : Hid (Boxed (w81.setCell ⟨w.heap.size + 1 + 1, 0, none⟩ (.slice (some ⟨g1, 0, none⟩) (o.length + 1) p1)) (w.heap.size + 1 + 1) 42 (.slice (some ⟨g1, 0, none⟩) (o.length + 1) p1)) := hv21; have HBB1 : Hid (Below (w.heap.size + 1 + 1) w2 (w81.setCell ⟨w.heap.size + 1 + 1, 0, none⟩ (.slice (some ⟨g1, 0, none⟩) (o.length + 1) p1))) := hb21; have HSZ1 : Hid (w2.heap.size ≤ w81.heap.size) := Nat.le_trans (by simp) hgrow1.size; clear hgrow1 hnil1 hown1 hr21 hk21 hv21 hb21)
            have hBE : Below (w.heap.size + 1 + 1) w1 (w81.setCell ⟨w.heap.size + 1 + 1, 0, none⟩ (.slice (some ⟨g1, 0, none⟩) (o.length + 1) p1)) := hB2.trans HBB1.out
            have HRE : Hid ((w81.setCell ⟨w.heap.size + 1 + 1, 0, none⟩ (.slice (some ⟨g1, 0, none⟩) (o.length + 1) p1)).ownsRow w1.heap.size 88 4 (.slice (some ⟨g1, 0, none⟩) (o.length + 1) p1) (o.length + 1) (flR (o ++ [r]))) := (by rw [flR_app, HR0.out]; exact ownsRow_setCell_below HON1.out (by show w.heap.size + 1 + 1 < w1.heap.size; omega) _ : (w81.setCell ⟨w.heap.size + 1 + 1, 0, none⟩ (.slice (some ⟨g1, 0, none⟩) (o.length + 1) p1)).ownsRow w1.heap.size 88 4 (.slice (some ⟨g1, 0, none⟩) (o.length + 1) p1) (o.length + 1) (flR (o ++ [r])))
            have HBE : Hid (Boxed (w81.setCell ⟨w.heap.size + 1 + 1, 0, none⟩ (.slice (some ⟨g1, 0, none⟩) (o.length + 1) p1)) (w.heap.size + 1 + 1) 42 (.slice (some ⟨g1, 0, none⟩) (o.length + 1) p1)) := HBN1.out
            obtain ⟨E, hE⟩ : ∃ E, E = w81.setCell ⟨w.heap.size + 1 + 1, 0, none⟩ (.slice (some ⟨g1, 0, none⟩) (o.length + 1) p1) := ⟨_, rfl⟩
            rw [← hE] at hBE HRE HBE ⊢
            have hDkE := HD.out _ hBE
            have hcxE := HBE.out.cell
            have hzrE : w1.heap.size ≤ E.heap.size := hBE.size
            obtain ⟨ex0, ex1, ex2, ex3⟩ := HXC.out _ hBE
            have hltE : w.heap.size + 1 + 1 < E.heap.size := by omega
            clear hc11 hf11 HBB1 HON1 hv11 HBN1 hE HHB2 HHR2 hcx2 hDk2 rr0 rr1 rr2 rr3 xx0 xx1 xx2 xx3 hB2 hlt2 HSZ1
            try go_wp2_with fail
            go_region_law (first
              | (refine step_append_one (by rfl) _ _ _ (by rfl) w1.heap.size 88 i0 (.agg #[.string ⟨#[]⟩, .int .i64 0, .int .i64 0, .int .i64 0]) 4 40 Tryz.underlying40 hi hz0 hz1 hz2 rfl (by decide) (.slice (some ⟨g1, 0, none⟩) (o.length + 1) p1) (o.length + 1) (flR (o ++ [r])) (by rfl) (by first | exact HRE.out.alloc _ | exact (HRE.out.alloc _).drew | exact ((HRE.out.alloc _).drew).drew | exact (HRE.out.drew.alloc _) | exact (HRE.out.drew.alloc _).drew) ⟨E.heap.size, 0, none⟩ 1 [.string x0, .int .i64 x1, .int .i64 x2, .int .i64 x3] (by rfl) (by rfl) (World.news_of_block (by first | exact heap_alloc_new E _ | exact heap_alloc_new E.drew _)) (by simp [Value.oneCell']) (by unfold maxLen; omega) (by omega) (by simp; omega) ?_; intro gx px wx ownx grx0; have grx : (E.alloc (.cells #[.string x0, .int .i64 x1, .int .i64 x2, .int .i64 x3] 88)).grownBy wx (Value.slice (some ⟨g1, 0, none⟩) (o.length + 1) p1).ownBlock := grown_like grx0 rfl rfl rfl rfl; clear grx0; have kx := (boxed_grown HBE.out (by decide) (own_mono HRE.out (by omega : w.heap.size + 1 + 1 ≤ w1.heap.size)) grx).cell; have kf := (boxed_grown HBE.out (by decide) (own_mono HRE.out (by omega : w.heap.size + 1 + 1 ≤ w1.heap.size)) grx).frozen))
            all_goals (
              obtain ⟨y1, y2, y3, y4, y5⟩ := HBE.out.appended (by decide) (own_mono HRE.out (by omega : w.heap.size + 1 + 1 ≤ w1.heap.size)) (by omega) (Nat.le_refl _) (own_mono ownx (by omega : w.heap.size + 1 + 1 ≤ w1.heap.size)) grx
              have HOX : Hid ((wx.setCell ⟨w.heap.size + 1 + 1, 0, none⟩ (.slice (some ⟨gx, 0, none⟩) (o.length + 1 + 1) px)).ownsRow w1.heap.size 88 4 (.slice (some ⟨gx, 0, none⟩) (o.length + 1 + 1) px) (o.length + 1 + 1) (flR (o ++ [r]) ++ [.string x0, .int .i64 x1, .int .i64 x2, .int .i64 x3])) := ownsRow_setCell_below ownx (by show w.heap.size + 1 + 1 < w1.heap.size; omega) _
              have HBX : Hid (Below (w.heap.size + 1 + 1) w1 (wx.setCell ⟨w.heap.size + 1 + 1, 0, none⟩ (.slice (some ⟨gx, 0, none⟩) (o.length + 1 + 1) px))) := hBE.trans y5
              have HZX : Hid (w1.heap.size ≤ (wx.setCell ⟨w.heap.size + 1 + 1, 0, none⟩ (.slice (some ⟨gx, 0, none⟩) (o.length + 1 + 1) px)).heap.size) := HBX.out.size
              have HYX : Hid (Boxed (wx.setCell ⟨w.heap.size + 1 + 1, 0, none⟩ (.slice (some ⟨gx, 0, none⟩) (o.length + 1 + 1) px)) (w.heap.size + 1 + 1) 42 (.slice (some ⟨gx, 0, none⟩) (o.length + 1 + 1) px)) := y2
              clear y1 y2 y3 y4 y5 ownx grx kx kf
              go_wp2
              go_roundw
              case rel => exact ⟨k + 1, by omega, by go_num, by rw [HQ.out], HBX, HZX, ⟨_, _, by rw [HQ.out, List.length_append, List.length_append]; exact HYX.out, by rw [HQ.out, List.length_append, List.length_append, flR_app]; exact HOX.out⟩⟩
              case measure => simp [intOf]; omega)
        · have hdl : decide (rk ≤ xk) = false := by simpa using hge
          by_cases hxr : xk = rk
          · omega
          · have hxn : (xk != rk) = true := by simpa using hxr
            have HQ : Hid (putT l r (k + 1) = (false, o ++ [⟨x0, x1, x2, x3⟩])) := (by rw [HS.out]; simp [hdl, hxr] : putT l r (k + 1) = (false, o ++ [⟨x0, x1, x2, x3⟩]))
            go_wp2_with fail
            refine (hK _).mono ?_
            rintro e w2 ⟨rfl, hb2⟩
            have hB2 : Below (w.heap.size + 1 + 1) w1 w2 := hB.out.trans (hb2.mono (by omega))
            have HHB2 : Hid (Boxed w2 (w.heap.size + 1 + 1) 42 (.slice a o.length cr)) := (hb2.block _ HHB.out.lt).trans HHB.out
            have HHR2 : Hid (w2.ownsRow w1.heap.size 88 4 (.slice a o.length cr) o.length (flR o)) := own_below HHR.out hb2
            have hzr2 : w1.heap.size ≤ w2.heap.size := Nat.le_trans hzr' hb2.size
            have hDk2 := HD.out _ hB2
            have hcx2 := HHB2.out.cell
            obtain ⟨rr0, rr1, rr2, rr3⟩ := HRB.out _ hB2
            obtain ⟨xx0, xx1, xx2, xx3⟩ := HXC.out _ hB2
            have hlt2 : w.heap.size + 1 + 1 < w2.heap.size := by omega
            clear hK hb2 HHB HHR hcx hDk
            go_wp2_with fail
            go_region_law (first
              | (refine step_append_one (by rfl) _ _ _ (by rfl) w1.heap.size 88 i0 (.agg #[.string ⟨#[]⟩, .int .i64 0, .int .i64 0, .int .i64 0]) 4 40 Tryz.underlying40 hi hz0 hz1 hz2 rfl (by decide) (.slice a o.length cr) (o.length) (flR (o)) (by rfl) (by first | exact HHR2.out.alloc _ | exact (HHR2.out.alloc _).drew | exact ((HHR2.out.alloc _).drew).drew | exact (HHR2.out.drew.alloc _) | exact (HHR2.out.drew.alloc _).drew) ⟨w2.heap.size, 0, none⟩ 1 [.string x0, .int .i64 x1, .int .i64 x2, .int .i64 x3] (by rfl) (by rfl) (World.news_of_block (by first | exact heap_alloc_new w2 _ | exact heap_alloc_new w2.drew _)) (by simp [Value.oneCell']) (by unfold maxLen; omega) (by omega) (by simp; omega) ?_; intro gx px wx ownx grx0; have grx : (w2.alloc (.cells #[.string x0, .int .i64 x1, .int .i64 x2, .int .i64 x3] 88)).grownBy wx (Value.slice a o.length cr).ownBlock := grown_like grx0 rfl rfl rfl rfl; clear grx0; have kx := (boxed_grown HHB2.out (by decide) (own_mono HHR2.out (by omega : w.heap.size + 1 + 1 ≤ w1.heap.size)) grx).cell; have kf := (boxed_grown HHB2.out (by decide) (own_mono HHR2.out (by omega : w.heap.size + 1 + 1 ≤ w1.heap.size)) grx).frozen))
            all_goals (
              obtain ⟨y1, y2, y3, y4, y5⟩ := HHB2.out.appended (by decide) (own_mono HHR2.out (by omega : w.heap.size + 1 + 1 ≤ w1.heap.size)) (by omega) (Nat.le_refl _) (own_mono ownx (by omega : w.heap.size + 1 + 1 ≤ w1.heap.size)) grx
              have HOX : Hid ((wx.setCell ⟨w.heap.size + 1 + 1, 0, none⟩ (.slice (some ⟨gx, 0, none⟩) (o.length + 1) px)).ownsRow w1.heap.size 88 4 (.slice (some ⟨gx, 0, none⟩) (o.length + 1) px) (o.length + 1) (flR (o) ++ [.string x0, .int .i64 x1, .int .i64 x2, .int .i64 x3])) := ownsRow_setCell_below ownx (by show w.heap.size + 1 + 1 < w1.heap.size; omega) _
              have HBX : Hid (Below (w.heap.size + 1 + 1) w1 (wx.setCell ⟨w.heap.size + 1 + 1, 0, none⟩ (.slice (some ⟨gx, 0, none⟩) (o.length + 1) px))) := hB2.trans y5
              have HZX : Hid (w1.heap.size ≤ (wx.setCell ⟨w.heap.size + 1 + 1, 0, none⟩ (.slice (some ⟨gx, 0, none⟩) (o.length + 1) px)).heap.size) := HBX.out.size
              have HYX : Hid (Boxed (wx.setCell ⟨w.heap.size + 1 + 1, 0, none⟩ (.slice (some ⟨gx, 0, none⟩) (o.length + 1) px)) (w.heap.size + 1 + 1) 42 (.slice (some ⟨gx, 0, none⟩) (o.length + 1) px)) := y2
              clear y1 y2 y3 y4 y5 ownx grx kx kf
              go_wp2
              go_roundw
              case rel => exact ⟨k + 1, by omega, by go_num, by rw [HQ.out], HBX, HZX, ⟨_, _, by rw [HQ.out, List.length_append]; exact HYX.out, by rw [HQ.out, List.length_append, flR_app]; exact HOX.out⟩⟩
              case measure => simp [intOf]; omega)
      · by_cases hxr : xk = rk
        · have hxn : (xk != rk) = false := by simpa using hxr
          have HQ : Hid (putT l r (k + 1) = (true, o)) := (by rw [HS.out]; simp [hxr] : putT l r (k + 1) = (true, o))
          go_wp2_with fail
          refine (hK _).mono ?_
          rintro e w2 ⟨rfl, hb2⟩
          have hB2 : Below (w.heap.size + 1 + 1) w1 w2 := hB.out.trans (hb2.mono (by omega))
          have HHB2 : Hid (Boxed w2 (w.heap.size + 1 + 1) 42 (.slice a o.length cr)) := (hb2.block _ HHB.out.lt).trans HHB.out
          have HHR2 : Hid (w2.ownsRow w1.heap.size 88 4 (.slice a o.length cr) o.length (flR o)) := own_below HHR.out hb2
          have hzr2 : w1.heap.size ≤ w2.heap.size := Nat.le_trans hzr' hb2.size
          have hDk2 := HD.out _ hB2
          have hcx2 := HHB2.out.cell
          obtain ⟨rr0, rr1, rr2, rr3⟩ := HRB.out _ hB2
          obtain ⟨xx0, xx1, xx2, xx3⟩ := HXC.out _ hB2
          have hlt2 : w.heap.size + 1 + 1 < w2.heap.size := by omega
          clear hK hb2 HHB HHR hcx hDk
          have HZ2 : Hid (w1.heap.size ≤ w2.heap.size) := hzr2
          have HB2 : Hid (Below (w.heap.size + 1 + 1) w1 w2) := hB2
          go_wp2
          go_roundw
          case rel => exact ⟨k + 1, by omega, by go_num, by rw [HQ.out], HB2, HZ2, ⟨_, _, by rw [HQ.out]; exact HHB2.out, by rw [HQ.out]; exact HHR2.out⟩⟩
          case measure => simp [intOf]; omega
        · have hxn : (xk != rk) = true := by simpa using hxr
          have HQ : Hid (putT l r (k + 1) = (true, o ++ [⟨x0, x1, x2, x3⟩])) := (by rw [HS.out]; simp [hxr] : putT l r (k + 1) = (true, o ++ [⟨x0, x1, x2, x3⟩]))
          go_wp2_with fail
          refine (hK _).mono ?_
          rintro e w2 ⟨rfl, hb2⟩
          have hB2 : Below (w.heap.size + 1 + 1) w1 w2 := hB.out.trans (hb2.mono (by omega))
          have HHB2 : Hid (Boxed w2 (w.heap.size + 1 + 1) 42 (.slice a o.length cr)) := (hb2.block _ HHB.out.lt).trans HHB.out
          have HHR2 : Hid (w2.ownsRow w1.heap.size 88 4 (.slice a o.length cr) o.length (flR o)) := own_below HHR.out hb2
          have hzr2 : w1.heap.size ≤ w2.heap.size := Nat.le_trans hzr' hb2.size
          have hDk2 := HD.out _ hB2
          have hcx2 := HHB2.out.cell
          obtain ⟨rr0, rr1, rr2, rr3⟩ := HRB.out _ hB2
          obtain ⟨xx0, xx1, xx2, xx3⟩ := HXC.out _ hB2
          have hlt2 : w.heap.size + 1 + 1 < w2.heap.size := by omega
          clear hK hb2 HHB HHR hcx hDk
          go_wp2_with fail
          go_region_law (first
            | (refine step_append_one (by rfl) _ _ _ (by rfl) w1.heap.size 88 i0 (.agg #[.string ⟨#[]⟩, .int .i64 0, .int .i64 0, .int .i64 0]) 4 40 Tryz.underlying40 hi hz0 hz1 hz2 rfl (by decide) (.slice a o.length cr) (o.length) (flR (o)) (by rfl) (by first | exact HHR2.out.alloc _ | exact (HHR2.out.alloc _).drew | exact ((HHR2.out.alloc _).drew).drew | exact (HHR2.out.drew.alloc _) | exact (HHR2.out.drew.alloc _).drew) ⟨w2.heap.size, 0, none⟩ 1 [.string x0, .int .i64 x1, .int .i64 x2, .int .i64 x3] (by rfl) (by rfl) (World.news_of_block (by first | exact heap_alloc_new w2 _ | exact heap_alloc_new w2.drew _)) (by simp [Value.oneCell']) (by unfold maxLen; omega) (by omega) (by simp; omega) ?_; intro gx px wx ownx grx0; have grx : (w2.alloc (.cells #[.string x0, .int .i64 x1, .int .i64 x2, .int .i64 x3] 88)).grownBy wx (Value.slice a o.length cr).ownBlock := grown_like grx0 rfl rfl rfl rfl; clear grx0; have kx := (boxed_grown HHB2.out (by decide) (own_mono HHR2.out (by omega : w.heap.size + 1 + 1 ≤ w1.heap.size)) grx).cell; have kf := (boxed_grown HHB2.out (by decide) (own_mono HHR2.out (by omega : w.heap.size + 1 + 1 ≤ w1.heap.size)) grx).frozen))
          all_goals (
            obtain ⟨y1, y2, y3, y4, y5⟩ := HHB2.out.appended (by decide) (own_mono HHR2.out (by omega : w.heap.size + 1 + 1 ≤ w1.heap.size)) (by omega) (Nat.le_refl _) (own_mono ownx (by omega : w.heap.size + 1 + 1 ≤ w1.heap.size)) grx
            have HOX : Hid ((wx.setCell ⟨w.heap.size + 1 + 1, 0, none⟩ (.slice (some ⟨gx, 0, none⟩) (o.length + 1) px)).ownsRow w1.heap.size 88 4 (.slice (some ⟨gx, 0, none⟩) (o.length + 1) px) (o.length + 1) (flR (o) ++ [.string x0, .int .i64 x1, .int .i64 x2, .int .i64 x3])) := ownsRow_setCell_below ownx (by show w.heap.size + 1 + 1 < w1.heap.size; omega) _
            have HBX : Hid (Below (w.heap.size + 1 + 1) w1 (wx.setCell ⟨w.heap.size + 1 + 1, 0, none⟩ (.slice (some ⟨gx, 0, none⟩) (o.length + 1) px))) := hB2.trans y5
            have HZX : Hid (w1.heap.size ≤ (wx.setCell ⟨w.heap.size + 1 + 1, 0, none⟩ (.slice (some ⟨gx, 0, none⟩) (o.length + 1) px)).heap.size) := HBX.out.size
            have HYX : Hid (Boxed (wx.setCell ⟨w.heap.size + 1 + 1, 0, none⟩ (.slice (some ⟨gx, 0, none⟩) (o.length + 1) px)) (w.heap.size + 1 + 1) 42 (.slice (some ⟨gx, 0, none⟩) (o.length + 1) px)) := y2
            clear y1 y2 y3 y4 y5 ownx grx kx kf
            go_wp2
            go_roundw
            case rel => exact ⟨k + 1, by omega, by go_num, by rw [HQ.out], HBX, HZX, ⟨_, _, by rw [HQ.out, List.length_append]; exact HYX.out, by rw [HQ.out, List.length_append, flR_app]; exact HOX.out⟩⟩
            case measure => simp [intOf]; omega)

    · have hkn : k = n := by omega
      subst hkn
      have hz1b := HZ1.out _ hB.out
      have hbx1 := hz1b.cell
      have hfx1 := hz1b.frozen
      have HZB : Hid (Boxed wr (w.heap.size + 1) 42 (.slice none 0 0)) := hz1b
      have HBE : Hid (Below w.heap.size w wr) := hBW.trans (hB.out.mono (by omega))
      generalize (putT l r k).1 = d at *
      generalize (putT l r k).2 = o at *
      have HHB : Hid (Boxed wr (w.heap.size + 1 + 1) 42 (.slice a o.length cr)) := hbx
      have HHR : Hid (wr.ownsRow w1.heap.size 88 4 (.slice a o.length cr) o.length (flR o)) := hrow
      have hltr : w.heap.size + 1 + 1 < wr.heap.size := by omega
      clear hbx hrow ho HX hz1b
      cases d
      · have HRE : Hid (RL = o ++ [r]) := (by rw [HRL.out]; rfl : RL = o ++ [r])
        go_wp2_with (at_builtin; refine wpList_append_own _ rfl _ _ 40 rfl w1.heap.size 88 i0 (.agg #[.string ⟨#[]⟩, .int .i64 0, .int .i64 0, .int .i64 0]) 4 40 Tryz.underlying40 hi hz0 hz1 hz2 rfl (by decide) _ _ _ rfl (HHR.out.alloc _) ⟨wr.heap.size, 0, none⟩ 1 1 [.string r0, .int .i64 r1, .int .i64 r2, .int .i64 r3] rfl rfl (World.news_of_block (heap_alloc_new _ _)) (by simp [Value.oneCell']) (by unfold maxLen; omega) (by omega) (by simp; omega) ?_; intro v' w81 hown1 hgrow1 hnil1; obtain ⟨g1, p1, rfl⟩ := ownsRow_succ hown1; obtain ⟨hv11, hv21, hr21, hk21, hb21⟩ := HHB.out.appended (by decide) (own_mono HHR.out (by omega : w.heap.size + 1 + 1 ≤ w1.heap.size)) (by omega) (Nat.le_refl _) (own_mono hown1 (by omega : w.heap.size + 1 + 1 ≤ w1.heap.size)) hgrow1; have hc11 := hv11.cell; have hf11 := hv11.frozen; have HON1 : Hid (w81.ownsRow w1.heap.size 88 4 (.slice (some ⟨g1, 0, none⟩) (o.length + 1) p1) (o.length + 1) (flR o ++ [.string r0, .int .i64 r1, .int .i64 r2, .int .i64 r3])) := hown1; have HBN1 : Hid (Boxed (w81.setCell ⟨w.heap.size + 1 + 1, 0, none⟩ (.slice (some ⟨g1, 0, none⟩) (o.length + 1) p1)) (w.heap.size + 1 + 1) 42 (.slice (some ⟨g1, 0, none⟩) (o.length + 1) p1)) := hv21; have HBB1 : Hid (Below (w.heap.size + 1 + 1) wr (w81.setCell ⟨w.heap.size + 1 + 1, 0, none⟩ (.slice (some ⟨g1, 0, none⟩) (o.length + 1) p1))) := hb21; have HSZ1 : Hid (wr.heap.size ≤ w81.heap.size) := Nat.le_trans (by simp) hgrow1.size; have hq1 := (HZB.out.alloc (.cells #[.string r0, .int .i64 r1, .int .i64 r2, .int .i64 r3] 88)).kept hgrow1 (fun e => by have := (HHR.out.lt _ e.symm).1; omega); have hqc := hq1.cell; have hqf := hq1.frozen; clear hgrow1 hnil1 hown1 hr21 hk21 hv21 hb21)
        have HRO : Hid ((w81.setCell ⟨w.heap.size + 1 + 1, 0, none⟩ (.slice (some ⟨g1, 0, none⟩) (o.length + 1) p1)).ownsRow w1.heap.size 88 4 (.slice (some ⟨g1, 0, none⟩) (o.length + 1) p1) (o.length + 1) (flR RL)) := (by rw [HRE.out, flR_app, HR0.out]; exact ownsRow_setCell_below HON1.out (by show w.heap.size + 1 + 1 < w1.heap.size; omega) _ : (w81.setCell ⟨w.heap.size + 1 + 1, 0, none⟩ (.slice (some ⟨g1, 0, none⟩) (o.length + 1) p1)).ownsRow w1.heap.size 88 4 (.slice (some ⟨g1, 0, none⟩) (o.length + 1) p1) (o.length + 1) (flR RL))
        have HBF : Hid (Below w.heap.size w (w81.setCell ⟨w.heap.size + 1 + 1, 0, none⟩ (.slice (some ⟨g1, 0, none⟩) (o.length + 1) p1))) := HBE.out.trans (HBB1.out.mono (by omega))
        clear HBB1 HON1 hv11 HBN1 HRE
        go_wp2
        exact bodyPost_ret (v := .agg #[.slice (some ⟨g1, 0, none⟩) (o.length + 1) p1]) (by simp [results, Tryz.results116, go_sem, hqc]) rfl ⟨_, _, _, rfl, HBF.out.setCell (Nat.le_succ _) _, own_mono (ownsRow_setCell_below HRO.out (by show w.heap.size + 1 < w1.heap.size; omega) _) (by omega)⟩
      · have HRE : Hid (RL = o) := (by rw [HRL.out]; rfl : RL = o)
        have HRO : Hid (wr.ownsRow w1.heap.size 88 4 (.slice a o.length cr) o.length (flR RL)) := (by rw [HRE.out]; exact HHR.out : wr.ownsRow w1.heap.size 88 4 (.slice a o.length cr) o.length (flR RL))
        go_wp2
        exact bodyPost_ret (v := .agg #[.slice a o.length cr]) (by simp [results, Tryz.results116, go_sem, hbx1]) rfl ⟨a, _, cr, rfl, HBE.out.setCell (Nat.le_succ _) _, own_mono (ownsRow_setCell_below HRO.out (by show w.heap.size + 1 < w1.heap.size; omega) _) (by omega)⟩
theorem l9Put_any (g : Nat) (v : Value) (l : Rcl) (r : Rc) (w : World) (hg : g < w.heap.size) (hD : w.cell? ⟨g, 0, none⟩ = some v) (hv : Rcs w v l) (hok : DirOk l) (hrs : r.l.size ≤ 12) :
    Calls Tryz.prog 116 #[.pointer (some ⟨g, 0, none⟩), .agg #[.string r.l, .int .i64 r.v, .int .i64 r.o, .int .i64 r.p]] w fun e w' => ∃ a m c, e = .returned (.agg #[.slice a m c]) ∧ Below w.heap.size w w' ∧ w'.ownsRow w.heap.size 88 4 (.slice a m c) m (flR (putR l r)) := by
  obtain ⟨a, c, rfl⟩ := hv.shape
  obtain ⟨b, off, hav, hc⟩ : ∃ b off, (0 < l.length → a = some ⟨b, off, none⟩ ∧ b < w.heap.size) ∧ ∀ j, j < l.length → RecS w b (off + j * 4) (rAt l j) := by
    by_cases h0 : 0 < l.length
    · obtain ⟨-, b, off, e, hb, hc⟩ := hv.at h0
      exact ⟨b, off, fun _ => ⟨e, hb⟩, hc⟩
    · exact ⟨0, 0, fun h => absurd h h0, fun j hj => by omega⟩
  exact l9Put_core g b off c l.length a l r.l r.v r.o r.p w hok.len hg hav (fun j hj => Rc.small_of (hok.ok j hj)) hrs hD hc
end U
end Go.Proofs.YtpelafkjnmcdgaaGreat

/- Updates, by the model. -/
namespace Go.Proofs.YtpelafkjnmcdgaaGreat
open Go.RowKit
namespace U
set_option maxRecDepth 100000 in
set_option maxHeartbeats 1000000 in
theorem l9May_secret (g p : Nat) (s : Int) (w : World) (hs : inB s 0 999 = false) :
    Calls Tryz.prog 115 #[.pointer (some ⟨g, 0, none⟩), .pointer (some ⟨p, 0, none⟩), .int .i64 s] w fun e w' => e = .returned (.int .i64 3) ∧ Below w.heap.size w w' := by
  have hI := fun w => l1In_any s 0 999 w
  rw [hs] at hI
  clear hs
  go_enter Tryz.func115, Tryz.ntmps115
  go_wp2_with fail
  refine (hI _).mono ?_
  rintro e w0 ⟨rfl, rfl⟩
  clear hI
  go_wp2
  go_ret
  exact ⟨rfl, Below.refl _ _⟩
theorem beq_comm8 (a b : List UInt8) : (a == b) = (b == a) := by
  rw [Bool.eq_iff_iff]
  simp only [beq_iff_eq]
  exact eq_comm
theorem l9May_any (g p : Nat) (v : Value) (l : Rcl) (r : Rc) (s : Int) (w : World) (hg : g < w.heap.size) (hD : w.cell? ⟨g, 0, none⟩ = some v) (hv : Rcs w v l) (hok : DirOk l) (hp : p < w.heap.size) (hr : RecS w p 0 r) (hrc : r.c = 0) :
    Calls Tryz.prog 115 #[.pointer (some ⟨g, 0, none⟩), .pointer (some ⟨p, 0, none⟩), .int .i64 s] w fun e w' => e = .returned (.int .i64 (mayC l r s)) ∧ Below w.heap.size w w' := by
  rcases Bool.eq_false_or_eq_true (inB s 0 999) with hs | hs
  · have e0 : mayC l r s = mayO (lkO l r.k) (decide (12 ≤ l.length)) r (ownL s) := by unfold mayC; rw [if_pos hs]
    rw [e0]
    have hK := fun w => l2Key_any r.l w (Rc.small_of hrc)
    have hA := fun w' (h : Below w.heap.size w w') => l9At_any g v l r.k w' (Nat.lt_of_lt_of_le hg h.size) ((h.cell (p := ⟨g, 0, none⟩) hg).trans hD) (hv.below h) hok
    have hO := fun w => l9Owner_any s w (inB_bd hs)
    obtain ⟨a, c, rfl⟩ := hv.shape
    rcases atI_cases l r.k with ⟨h1, -⟩ | ⟨j, hj, -, h1⟩
    · have e1 : lkO l r.k = none := by unfold lkO; rw [if_pos h1]
      rw [e1]
      rw [h1] at hA
      have hn := hok.len
      unfold mayO
      dsimp only
      by_cases hv1 : r.v = 1
      · rw [if_pos hv1]
        by_cases ho : ownL s = r.o
        · rw [if_pos ho]
          by_cases hf : 12 ≤ l.length
          · rw [if_pos (by simpa using hf)]
            exact l9May_full g p l.length c a s r.l r.v r.o (ownL s) r.k w hg hp hn hD hr.c0 hr.c1 hr.c2 hs (by simp [hv1]) (by simp [ho]) hf hK hA hO
          · rw [if_neg (by simpa using hf)]
            exact l9May_room g p l.length c a s r.l r.v r.o (ownL s) r.k w hg hp hn hD hr.c0 hr.c1 hr.c2 hs (by simp [hv1]) (by simp [ho]) hf hK hA hO
        · rw [if_neg ho]
          exact l9May_new g p l.length c a s r.l r.v r.o (ownL s) r.k w hg hp hn hD hr.c0 hr.c1 hr.c2 hs (by simp [hv1]) (by simp; exact fun e => ho e.symm) hK hA hO
      · rw [if_neg hv1]
        exact l9May_first g p l.length c a s r.l r.v r.o (ownL s) r.k w hg hp hn hD hr.c0 hr.c1 hr.c2 hs (by simp [hv1]) hK hA hO
    · have e1 : lkO l r.k = some (rAt l j) := by unfold lkO; rw [h1, if_neg (by omega), Int.toNat_natCast]
      rw [e1]
      rw [h1] at hA
      obtain ⟨-, b, off, rfl, hb, hc⟩ := hv.at (by omega)
      have hx := hc j hj
      have hxk := hok.recA hj
      have hxb : 1 ≤ (rAt l j).v ∧ (rAt l j).v ≤ 999 := ⟨hxk.v0, hxk.v1⟩
      generalize rAt l j = x at *
      unfold mayO
      dsimp only
      rcases Bool.eq_false_or_eq_true (r.l.toList == x.l.toList) with hl | hl
      · rw [if_pos hl]
        rw [beq_comm8] at hl
        by_cases ho : ownL s = x.o
        · rw [if_pos ho]
          by_cases hvv : r.v = x.v + 1
          · rw [if_pos hvv]
            exact l9May_ok g p b off c l.length j s x.l r.l x.v x.o r.v r.o (ownL s) r.k w hg hp hb hj hD hx.c0 hx.c1 hx.c2 hr.c0 hr.c1 hr.c2 hxb hs hl (by simp [ho]) (by simp [hvv]) hK hA hO
          · rw [if_neg hvv]
            exact l9May_version g p b off c l.length j s x.l r.l x.v x.o r.v r.o (ownL s) r.k w hg hp hb hj hD hx.c0 hx.c1 hx.c2 hr.c0 hr.c1 hr.c2 hxb hs hl (by simp [ho]) (by simp; exact fun e => hvv e.symm) hK hA hO
        · rw [if_neg ho]
          exact l9May_owner g p b off c l.length j s x.l r.l x.v x.o r.v r.o (ownL s) r.k w hg hp hb hj hD hx.c0 hx.c1 hx.c2 hr.c0 hr.c1 hr.c2 hxb hs hl (by simp; exact fun e => ho e.symm) hK hA hO
      · rw [if_neg (by rw [hl]; decide)]
        rw [beq_comm8] at hl
        exact l9May_taken g p b off c l.length j s x.l r.l x.v x.o r.v r.o (ownL s) r.k w hg hp hb hj hD hx.c0 hx.c1 hx.c2 hr.c0 hr.c1 hr.c2 hxb hs hl hK hA hO
  · have e0 : mayC l r s = 3 := by unfold mayC; rw [if_neg (by rw [hs]; decide)]
    rw [e0]
    exact l9May_secret g p s w hs
/-- What the model's update hands back. -/
def u9C (l : Rcl) (r : Rc) (s : Int) : Int := if r.c = 0 then mayC l r s else r.c
def u9L (l : Rcl) (r : Rc) (s : Int) : Rcl := if u9C l r s = 0 then putR l r else []
theorem own_len {w : World} {B m : Nat} {e : TypeId} {a : Option Addr} {c : Nat} {L : Rcl} (h : w.ownsRow B e 4 (.slice a m c) m (flR L)) : m = L.length := by
  have := h.1
  rw [flR_len] at this
  omega
set_option maxRecDepth 100000 in
set_option maxHeartbeats 2000000 in
theorem l9Update_any (g p : Nat) (v : Value) (l : Rcl) (r : Rc) (s : Int) (w : World) (hg : g < w.heap.size) (hD : w.cell? ⟨g, 0, none⟩ = some v) (hv : Rcs w v l) (hok : DirOk l) (hp : p < w.heap.size) (hr : RecS w p 0 r) (hrs : r.l.size ≤ 1048576) :
    Calls Tryz.prog 93 #[.pointer (some ⟨g, 0, none⟩), .pointer (some ⟨p, 0, none⟩), .int .i64 s] w fun e w' => ∃ a c, e = .returned (.tuple #[.agg #[.slice a (u9L l r s).length c], .int .i64 (u9C l r s)]) ∧ Below w.heap.size w w' ∧ w'.ownsRow w.heap.size 88 4 (.slice a (u9L l r s).length c) (u9L l r s).length (flR (u9L l r s)) := by
  have HF : Hid (∀ w', Below w.heap.size w w' → Calls Tryz.prog 77 #[.pointer (some ⟨p, 0, none⟩)] w' fun e w'' => e = .returned (.int .i64 r.c) ∧ Below w'.heap.size w' w'') := fun w' h => l3Fault_at p 0 r.l r.v r.o r.p w' (hr.below h hp) hrs
  have HM : Hid (r.c = 0 → ∀ w', Below w.heap.size w w' → Calls Tryz.prog 115 #[.pointer (some ⟨g, 0, none⟩), .pointer (some ⟨p, 0, none⟩), .int .i64 s] w' fun e w'' => e = .returned (.int .i64 (mayC l r s)) ∧ Below w'.heap.size w' w'') := fun h0 w' h => l9May_any g p v l r s w' (Nat.lt_of_lt_of_le hg h.size) ((h.cell (p := ⟨g, 0, none⟩) hg).trans hD) (hv.below h) hok (Nat.lt_of_lt_of_le hp h.size) (hr.below h hp) h0
  have HP : Hid (r.c = 0 → ∀ w', Below w.heap.size w w' → Calls Tryz.prog 116 #[.pointer (some ⟨g, 0, none⟩), .agg #[.string r.l, .int .i64 r.v, .int .i64 r.o, .int .i64 r.p]] w' fun e w'' => ∃ a m c, e = .returned (.agg #[.slice a m c]) ∧ Below w'.heap.size w' w'' ∧ w''.ownsRow w'.heap.size 88 4 (.slice a m c) m (flR (putR l r))) := fun h0 w' h => l9Put_any g v l r w' (Nat.lt_of_lt_of_le hg h.size) ((h.cell (p := ⟨g, 0, none⟩) hg).trans hD) (hv.below h) hok (Rc.small_of h0)
  have HC : Hid (∀ w', Below w.heap.size w w' → w'.cell? ⟨p, 0, none⟩ = some (.string r.l) ∧ w'.cell? ⟨p, 1, none⟩ = some (.int .i64 r.v) ∧ w'.cell? ⟨p, 2, none⟩ = some (.int .i64 r.o) ∧ w'.cell? ⟨p, 3, none⟩ = some (.int .i64 r.p)) := fun w' h => ⟨(hr.below h hp).c0, (hr.below h hp).c1, (hr.below h hp).c2, (hr.below h hp).c3⟩
  have q0 := heap_alloc_new w (.cells #[.slice none 0 0] 42)
  have hB0 := one_new (w := w) (.cells #[.slice none 0 0] 42)
  clear hv hr hok hD
  by_cases h0 : r.c = 0
  · have hM := HM.out h0
    have hP := HP.out h0
    have hF := HF.out
    rw [h0] at hF
    have e1 : u9C l r s = mayC l r s := by unfold u9C; rw [if_pos h0]
    unfold u9L
    rw [e1]
    generalize mayC l r s = q at *
    clear HF HM HP h0 e1
    by_cases hq : q = 0
    · subst hq
      rw [if_pos rfl]
      generalize putR l r = L at *
      generalize r.l = r0 at *
      generalize r.v = r1 at *
      generalize r.o = r2 at *
      generalize r.p = r3 at *
      go_enter Tryz.func93, Tryz.ntmps93
      go_wp2_with fail
      refine (hF _ hB0).mono ?_
      rintro e w1 ⟨rfl, hb1⟩
      have hB1 := below_after_of hB0 hb1
      have q1 := (hb1.block _ (by simp)).trans q0
      clear hF hb1
      go_wp2_with fail
      refine (hM _ hB1).mono ?_
      rintro e w2 ⟨rfl, hb2⟩
      have hB2 := below_after_of hB1 hb2
      have q2 := (hb2.block _ (Array.getElem?_eq_some_iff.1 q1).1).trans q1
      obtain ⟨c0, c1, c2, c3⟩ := HC.out _ hB2
      clear hM hb2 q1 hB1
      go_wp2_with fail
      refine (hP _ hB2).mono ?_
      rintro e w3 ⟨a3, m3, c3', rfl, hb3, ho3⟩
      have hB3 := below_after_of hB2 hb3
      have q3 : Boxed w3 w.heap.size 42 (.slice none 0 0) := (hb3.block _ (Array.getElem?_eq_some_iff.1 q2).1).trans q2
      have k3 := q3.cell
      have f3 := q3.frozen
      have hlt2 : w.heap.size < w2.heap.size := (Array.getElem?_eq_some_iff.1 q2).1
      have HO3 : Hid (w3.ownsRow w2.heap.size 88 4 (.slice a3 m3 c3') m3 (flR L)) := ho3
      have HL3 : Hid (m3 = L.length) := own_len ho3
      clear hP hb3 ho3 q2 q3 hB2
      go_wp2
      refine bodyPost_ret (v := .tuple #[.agg #[.slice a3 m3 c3'], .int .i64 0]) (by simp [results, Tryz.results93, go_sem, k3]) rfl ⟨a3, c3', by rw [← HL3.out], hB3.setCell (Nat.le_refl _) _, ?_⟩
      rw [← HL3.out]
      exact own_mono (ownsRow_setCell_below HO3.out (by show w.heap.size < w2.heap.size; exact hlt2) _) (Nat.le_of_lt hlt2)
    · rw [if_neg hq]
      have hqn : (q != 0) = true := by simpa using hq
      clear hP
      go_enter Tryz.func93, Tryz.ntmps93
      go_wp2_with fail
      refine (hF _ hB0).mono ?_
      rintro e w1 ⟨rfl, hb1⟩
      have hB1 := below_after_of hB0 hb1
      have q1 := (hb1.block _ (by simp)).trans q0
      clear hF hb1
      go_wp2_with fail
      refine (hM _ hB1).mono ?_
      rintro e w2 ⟨rfl, hb2⟩
      have hB2 := below_after_of hB1 hb2
      have q2 : Boxed w2 w.heap.size 42 (.slice none 0 0) := (hb2.block _ (Array.getElem?_eq_some_iff.1 q1).1).trans q1
      have k3 := q2.cell
      have f3 := q2.frozen
      clear hM hb2 q1 hB1 q2
      go_wp2
      exact bodyPost_ret (v := .tuple #[.agg #[.slice none 0 0], .int .i64 q]) (by simp [results, Tryz.results93, go_sem, k3]) rfl ⟨none, 0, rfl, hB2.setCell (Nat.le_refl _) _, World.ownsRow_nil _ _ _ _⟩
  · have e1 : u9C l r s = r.c := by unfold u9C; rw [if_neg h0]
    have hF := HF.out
    unfold u9L
    rw [e1, if_neg h0]
    generalize r.c = q at *
    have hqn : (q != 0) = true := by simpa using h0
    clear HF HM HP e1 h0
    go_enter Tryz.func93, Tryz.ntmps93
    go_wp2_with fail
    refine (hF _ hB0).mono ?_
    rintro e w1 ⟨rfl, hb1⟩
    have hB1 := below_after_of hB0 hb1
    have q1 : Boxed w1 w.heap.size 42 (.slice none 0 0) := (hb1.block _ (by simp)).trans q0
    have k3 := q1.cell
    have f3 := q1.frozen
    clear hF hb1 q1
    go_wp2
    exact bodyPost_ret (v := .tuple #[.agg #[.slice none 0 0], .int .i64 q]) (by simp [results, Tryz.results93, go_sem, k3]) rfl ⟨none, 0, rfl, hB1.setCell (Nat.le_refl _) _, World.ownsRow_nil _ _ _ _⟩
end U
end Go.Proofs.YtpelafkjnmcdgaaGreat

/- Updates, by the model, whole; what the program asks of a record that is put. -/
namespace Go.Proofs.YtpelafkjnmcdgaaGreat
open Go.RowKit Go.Maps
namespace U
/-- The answer of a function that hands back a code and a directory of its own. -/
def DirAns (w : World) (code : Int) (l : Rcl) (e : Ending) (w' : World) : Prop :=
  ∃ a c, e = .returned (.agg #[.int .i64 code, .slice a l.length c]) ∧ Below w.heap.size w w' ∧ w'.ownsRow w.heap.size 88 4 (.slice a l.length c) l.length (flR l)
theorem upC_u9 {l : Rcl} {r : Rc} {s : Int} (h : dirF l = 0) : upC l r s = u9C l r s ∧ upL l r s = u9L l r s := by
  have e : upC l r s = u9C l r s := by unfold upC u9C; rw [if_pos h]
  refine ⟨e, ?_⟩
  unfold upL u9L
  rw [e]
theorem upC_bad {l : Rcl} {r : Rc} {s : Int} (h : ¬ dirF l = 0) : upC l r s = dirF l ∧ upL l r s = [] := by
  have e : upC l r s = dirF l := by unfold upC; rw [if_neg h]
  refine ⟨e, ?_⟩
  unfold upL
  rw [e, if_neg h]
/-- What the program asks where a record has the key. -/
def nxC (x r : Rc) (ow : Int) : Int := if (r.l.toList == x.l.toList) = true then (if ow = x.o then (if r.v = x.v + 1 then 0 else 7) else 8) else 6
def fsC9 (r : Rc) (ow : Int) : Int := if r.v = 1 then (if ow = r.o then 0 else 8) else 7
end U
end Go.Proofs.YtpelafkjnmcdgaaGreat

/- Directories that are drawn: an update of a right directory is right; labels. -/
namespace Go.Proofs.YtpelafkjnmcdgaaGreat
open Go.RowKit Go.Maps
namespace U
theorem rAt_put {l : Rcl} {j : Nat} (h : j < l.length) : rAt l j = l[j] := rAt_eq h
/-- A list whose records are right and rise is a right directory. -/
theorem dirOk_mk {l : Rcl} (hn : l.length ≤ 12) (hc : ∀ x ∈ l, x.c = 0) (hp : l.Pairwise (fun x y => x.k < y.k)) : DirOk l := by
  refine ⟨hn, fun j hj => hc _ (rAt_mem hj), fun j hj => ?_⟩
  cases j with
  | zero =>
    show (-1 : Int) < _
    have := (rAt l 0).kbd
    omega
  | succ j =>
    show (rAt l j).k < (rAt l (j + 1)).k
    rw [rAt_eq (by omega : j < l.length), rAt_eq hj]
    exact List.pairwise_iff_getElem.1 hp j (j + 1) (by omega) hj (by omega)
theorem mem_c {l : Rcl} (h : DirOk l) {x : Rc} (hx : x ∈ l) : x.c = 0 := by
  obtain ⟨j, hj, e⟩ := List.mem_iff_getElem.1 hx
  have := h.ok j hj
  rw [rAt_eq hj, e] at this
  exact this
/-- Where the key is there, an update makes the list no longer. -/
theorem parts_lt {r : Rc} : ∀ {l : Rcl}, (∃ x ∈ l, x.k = r.k) → (ltF l r).length + (gtF l r).length < l.length
  | [], ⟨_, h, _⟩ => by cases h
  | y :: t, ⟨x, hx, e⟩ => by
    have hle := parts_len r t
    have ih := fun h => parts_lt (l := t) (r := r) h
    unfold ltF gtF at hle ih ⊢
    rw [List.filter_cons, List.filter_cons]
    rcases Int.lt_trichotomy y.k r.k with h | h | h
    · have h2 : ¬ r.k < y.k := by omega
      have := ih ⟨x, by rcases List.mem_cons.1 hx with rfl | hx; · omega
                        · exact hx, e⟩
      simp [h, h2]
      omega
    · have h1 : ¬ y.k < r.k := by omega
      have h2 : ¬ r.k < y.k := by omega
      simp [h1, h2]
      omega
    · have h1 : ¬ y.k < r.k := by omega
      have := ih ⟨x, by rcases List.mem_cons.1 hx with rfl | hx; · omega
                        · exact hx, e⟩
      simp [h, h1]
      omega
/-- What an update of a right directory answers with code 0 is a right directory. -/
theorem u9_ok {l : Rcl} (h : DirOk l) {r : Rc} {s : Int} (hu : u9C l r s = 0) : DirOk (u9L l r s) := by
  have e : u9L l r s = putR l r := by unfold u9L; rw [if_pos hu]
  rw [e]
  unfold u9C at hu
  by_cases hc : r.c = 0
  · rw [if_pos hc] at hu
    refine dirOk_mk ?_ ?_ (putR_pair h r)
    · unfold mayC at hu
      rw [putR_eq h, List.length_append, List.length_cons]
      have hl := h.len
      have hpl := parts_len r l
      split at hu
      · rcases ho : lkO l r.k with _ | x
        · rw [ho] at hu
          unfold mayO at hu
          dsimp only at hu
          by_cases hf : 12 ≤ l.length
          · exfalso
            split at hu
            · split at hu
              · rw [if_pos (by simpa using hf)] at hu; omega
              · omega
            · omega
          · omega
        · have hk := lkO_key ho
          have := parts_lt (r := r) (l := l) ⟨x, hk.2, hk.1⟩
          omega
      · omega
    · intro x hx
      rcases (putR_mem h r x).1 hx with rfl | ⟨hx, -⟩
      · exact hc
      · exact mem_c h hx
  · rw [if_neg hc] at hu
    exact absurd hu hc
end U
end Go.Proofs.YtpelafkjnmcdgaaGreat

/- Labels that are drawn. -/
namespace Go.Proofs.YtpelafkjnmcdgaaGreat
open Go.RowKit Go.Maps
namespace U
def lbl9 : List Value := [.string ⟨#[97]⟩, .string ⟨#[98, 111, 98]⟩, .string ⟨#[101, 118, 101]⟩, .string ⟨#[109, 195, 169]⟩, .string ⟨#[122, 111, 101]⟩, .string ⟨#[120, 49]⟩, .string ⟨#[226, 130, 172]⟩]
theorem lbl9_at {w : World} {b : Nat} {t : TypeId} (h : w.heap[b]? = some (.cells lbl9.toArray t)) {r : Nat} (hr : r < 7) : ∃ s : ByteArray, s.size ≤ 12 ∧ w.cell? ⟨b, r, none⟩ = some (.string s) := by
  rcases (by omega : r = 0 ∨ r = 1 ∨ r = 2 ∨ r = 3 ∨ r = 4 ∨ r = 5 ∨ r = 6) with rfl | rfl | rfl | rfl | rfl | rfl | rfl <;>
    (refine ⟨_, ?_, by unfold World.cell?; rw [h]; rfl⟩; decide)
set_option maxRecDepth 100000 in
set_option maxHeartbeats 2000000 in
theorem l9Label_any (q a : Nat) (cv : Value) (cs : List Int) (w : World) (h : SrcAt q cv cs a w) (ha : a ≤ 100000) :
    Calls Tryz.prog 112 #[.pointer (some ⟨q, 0, none⟩)] w fun e w' => ∃ t : ByteArray, t.size ≤ 12 ∧ e = .returned (.string t) ∧ w.grownBy w' (some q) ∧ SrcAt q cv cs (a + 1) w' := by
  have hq := h.lt
  have h1 := fun o => h.grown (World.grownBy_alloc w o none) (fun k hk => by cases hk)
  have hN := fun o => l1Next_any q a cv cs 7 _ (h1 o) ha (by omega) (by omega)
  clear h h1
  go_enter Tryz.func112, Tryz.ntmps112
  go_wp2_with fail
  refine (hN _).mono ?_
  rintro e w2 ⟨r, hr, rfl, hg2, hs2⟩
  have hb := (hg2.block w.heap.size (by simp) (by simp; omega)).trans (heap_alloc_new w _)
  obtain ⟨s, hs, hc⟩ := lbl9_at hb hr
  have HG : Hid (w.grownBy w2 (some q)) := grown_trans (World.grownBy_alloc _ _ _) hg2
  have HS : Hid (SrcAt q cv cs (a + 1) w2) := hs2
  have hr7 : (r : Int) < 7 := by omega
  clear hN hg2 hs2 hb
  go_wp2
  go_ret
  exact ⟨s, hs, rfl, HG.out, HS.out⟩
end U
end Go.Proofs.YtpelafkjnmcdgaaGreat

/- Records that are drawn. -/
namespace Go.Proofs.YtpelafkjnmcdgaaGreat
open Go.RowKit Go.Maps
namespace U
theorem grownB {w w' : World} {row : Option Nat} (h : Below w.heap.size w w') : w.grownBy w' row := ⟨h.os, h.tape, h.output, h.size, fun k hk _ => h.block k hk⟩
theorem grown_blk {w w' : World} {q b : Nat} {o : Obj} (h : w.grownBy w' (some q)) (hb : w.heap[b]? = some o) (hne : b ≠ q) : w'.heap[b]? = some o := (h.block b (Array.getElem?_eq_some_iff.1 hb).1 (by simp; exact hne)).trans hb
theorem setG {w a : World} {q g i : Nat} {v : Value} (h : w.grownBy a (some q)) (hg : w.heap.size ≤ g) : w.grownBy (a.setCell ⟨g, i, none⟩ v) (some q) :=
  grown_new (r2 := some g) h ⟨rfl, rfl, rfl, by simp, fun k _ hk => heap_setCell_other a ⟨g, i, none⟩ k v (fun e => hk (by simp [e]))⟩ (fun j hj => by cases hj; exact hg)
theorem SrcAt.set {q a g i : Nat} {cv : Value} {cs : List Int} {w : World} {v : Value} (h : SrcAt q cv cs a w) (hg : q < g) : SrcAt q cv cs a (w.setCell ⟨g, i, none⟩ v) :=
  h.grown (row := some g) ⟨rfl, rfl, rfl, by simp, fun k _ hk => heap_setCell_other w ⟨g, i, none⟩ k v (fun e => hk (by simp [e]))⟩ (fun k hk => by cases hk; exact hg)
/-- What the rounds of a drawn record leave as it is. -/
structure NwAt (b0 b7 b8 : Nat) (t : ByteArray) (y ow p x2 : Int) (w : World) : Prop where
  z0 : w.heap[b0]? = some (.cells #[.string ⟨#[]⟩, .int .i64 0, .int .i64 0, .int .i64 0] 88)
  c0 : w.cell? ⟨b7, 0, none⟩ = some (.string t)
  c1 : w.cell? ⟨b7, 1, none⟩ = some (.int .i64 y)
  c2 : w.cell? ⟨b7, 2, none⟩ = some (.int .i64 ow)
  c3 : w.cell? ⟨b7, 3, none⟩ = some (.int .i64 p)
  d2 : w.cell? ⟨b8, 2, none⟩ = some (.int .i64 x2)
theorem NwAt.grown {q b0 b7 b8 : Nat} {t : ByteArray} {y ow p x2 : Int} {w w' : World} (h : NwAt b0 b7 b8 t y ow p x2 w) (hg : w.grownBy w' (some q)) (h0 : b0 ≠ q) (h7 : b7 ≠ q) (h8 : b8 ≠ q) : NwAt b0 b7 b8 t y ow p x2 w' :=
  ⟨grown_blk hg h.z0 h0, hg.cell h.c0 (by simp; exact h7), hg.cell h.c1 (by simp; exact h7), hg.cell h.c2 (by simp; exact h7), hg.cell h.c3 (by simp; exact h7), hg.cell h.d2 (by simp; exact h8)⟩
set_option maxRecDepth 100000 in
set_option maxHeartbeats 4000000 in
theorem l9New_any (q a g : Nat) (cv v : Value) (cs : List Int) (l : Rcl) (w : World) (h : SrcAt q cv cs a w) (ha : a ≤ 90000) (hg : g < w.heap.size) (hok : DirOk l) (HV : Hid (∀ w', w.grownBy w' (some q) → w'.cell? ⟨g, 0, none⟩ = some v ∧ Rcs w' v l)) :
    Calls Tryz.prog 92 #[.pointer (some ⟨q, 0, none⟩), .pointer (some ⟨g, 0, none⟩)] w fun e w' => ∃ (t : ByteArray) (x y z s : Int) (a' : Nat), t.size ≤ 12 ∧ a' ≤ a + 6 ∧ e = .returned (.tuple #[.agg #[.string t, .int .i64 x, .int .i64 y, .int .i64 z], .int .i64 s]) ∧ w.grownBy w' (some q) ∧ SrcAt q cv cs a' w' := by
  have hq := h.lt
  have G0 : w.grownBy (w.alloc (.cells #[.string ⟨#[]⟩, .int .i64 0, .int .i64 0, .int .i64 0] 88)) (some q) := World.grownBy_alloc _ _ _
  have A0 := heap_alloc_new w (.cells #[.string ⟨#[]⟩, .int .i64 0, .int .i64 0, .int .i64 0] 88)
  have hN1 := l1Next_any q a cv cs 3 _ (h.alloc (.cells #[.string ⟨#[]⟩, .int .i64 0, .int .i64 0, .int .i64 0] 88)) (by omega) (by omega) (by omega)
  have hnq : w.heap.size ≠ q := by omega
  clear h
  go_enter Tryz.func92, Tryz.ntmps92
  go_wp2_with fail
  refine hN1.mono ?_
  rintro e w1 ⟨s0, hs0, rfl, hg1, S1⟩
  have G1 := grown_trans G0 hg1
  have A1 := grown_blk hg1 A0 hnq
  clear hN1 hg1 G0 A0
  go_wp2_with fail
  refine (l9Label_any q (a + 1) cv cs _ S1 (by omega)).mono ?_
  rintro e w2 ⟨t, ht, rfl, hg2, S2⟩
  have G2 := grown_trans G1 hg2
  have A2 := grown_blk hg2 A1 hnq
  clear S1 hg2 G1 A1
  go_wp2_with fail
  refine (l9Owner_any s0 _ (by omega)).mono ?_
  rintro e w3 ⟨rfl, hb3⟩
  have G3 := grown_trans G2 (grownB hb3)
  have A3 := grown_blk (q := q) (grownB hb3) A2 hnq
  have S3 := S2.grown (row := none) (grownB hb3) (fun k hk => by cases hk)
  generalize ownL s0 = ow at *
  clear S2 hb3 G2 A2
  go_wp2_with fail
  refine (l1Next_any q (a + 1 + 1) cv cs 65521 _ S3 (by omega) (by omega) (by omega)).mono ?_
  rintro e w4 ⟨p, hp, rfl, hg4, S4⟩
  have G4 := grown_trans G3 hg4
  have A4 := grown_blk hg4 A3 hnq
  have hz4 : w.heap.size < w4.heap.size := (Array.getElem?_eq_some_iff.1 A4).1
  obtain ⟨W4, hW4⟩ : ∃ W4, W4 = w4.alloc (.cells #[.string t, .int .i64 1, .int .i64 ow, .int .i64 p] 88) := ⟨_, rfl⟩
  have HW4 : Hid (w4.alloc (.cells #[.string t, .int .i64 1, .int .i64 ow, .int .i64 p] 88) = W4) := hW4.symm
  have S5 : SrcAt q cv cs (a + 1 + 1 + 1) W4 := by rw [hW4]; exact S4.alloc _
  have G5 : w.grownBy W4 (some q) := by rw [hW4]; exact grown_trans G4 (World.grownBy_alloc _ _ _)
  have A5 : W4.heap[w.heap.size]? = some (.cells #[.string ⟨#[]⟩, .int .i64 0, .int .i64 0, .int .i64 0] 88) := by rw [hW4]; exact heap_alloc_old' _ _ _ A4
  have B5 : W4.heap[w4.heap.size]? = some (.cells #[.string t, .int .i64 1, .int .i64 ow, .int .i64 p] 88) := by rw [hW4]; exact heap_alloc_new _ _
  obtain ⟨hc5, hv5⟩ := HV.out _ G5
  have hL := l9Look_any g v l t W4 (Nat.lt_of_lt_of_le hg G5.size) hc5 hv5 hok ht
  have hxv : ∀ x, fO (lkO l (keyI t)) (foldS t) = some x → 1 ≤ x.v ∧ x.v ≤ 999 := fun x hx => by
    rcases ho : lkO l (keyI t) with _ | y
    · rw [ho] at hx; cases hx
    · rw [ho] at hx
      rcases Bool.eq_false_or_eq_true (y.l.toList == (foldS t).toList) with hh | hh
      · rw [fO_yes hh] at hx
        cases hx
        have := mem_c hok (lkO_key ho).2
        exact ⟨(recOk this).v0, (recOk this).v1⟩
      · rw [fO_no hh] at hx; cases hx
  obtain ⟨b0, b1, b2, b3⟩ := four_cellsV B5
  rw [hW4] at b0 b1 b2 b3
  generalize fO (lkO l (keyI t)) (foldS t) = o at *
  clear S3 hg4 G3 A3 S4 G4 A4 hW4 hc5 hv5 HV
  go_wp2_with fail
  rw [HW4.out]
  refine hL.mono ?_
  rintro e w5 ⟨rfl, hb5⟩
  have G6 := grown_trans G5 (grownB hb5)
  have S6 := S5.grown (row := none) (grownB hb5) (fun k hk => by cases hk)
  have A6 := (hb5.block _ (Array.getElem?_eq_some_iff.1 A5).1).trans A5
  have B6 := (hb5.block _ (Array.getElem?_eq_some_iff.1 B5).1).trans B5
  clear hL b0 b1 b2 b3 G5 S5 A5 B5 hb5
  rcases o with _ | ⟨x0, x1, x2, x3⟩
  · unfold lkV
    dsimp only [Option.getD, Option.isSome, Rc.val, rcZ]
    have A7 := heap_alloc_old' w5 (.cells #[.string ⟨#[]⟩, .int .i64 0, .int .i64 0, .int .i64 0] 88) _ A6
    have B7 := heap_alloc_old' w5 (.cells #[.string ⟨#[]⟩, .int .i64 0, .int .i64 0, .int .i64 0] 88) _ B6
    have HG7 : Hid (w.grownBy (w5.alloc (.cells #[.string ⟨#[]⟩, .int .i64 0, .int .i64 0, .int .i64 0] 88)) (some q)) := grown_trans G6 (World.grownBy_alloc _ _ _)
    have HS7 : Hid (SrcAt q cv cs (a + 1 + 1 + 1) (w5.alloc (.cells #[.string ⟨#[]⟩, .int .i64 0, .int .i64 0, .int .i64 0] 88))) := S6.alloc _
    obtain ⟨b0, b1, b2, b3⟩ := four_cellsV B7
    have a0 := blk4 A7
    go_split_ands
    clear A6 B6 A7 B7 G6 S6 hxv
    go_wp2
    refine bodyPost_ret (v := .tuple #[.agg #[.string t, .int .i64 1, .int .i64 ow, .int .i64 p], .int .i64 s0]) (by simp [results, Tryz.results92, go_sem, *]) rfl ⟨t, 1, ow, p, s0, a + 1 + 1 + 1, ht, by omega, rfl, ?_, ?_⟩
    · exact setG (setG (setG (setG HG7.out (Nat.le_refl _)) (Nat.le_refl _)) (Nat.le_refl _)) (Nat.le_refl _)
    · exact (((HS7.out.set hq).set hq).set hq).set hq
  · have hx1 := hxv _ rfl
    dsimp only at hx1
    unfold lkV
    dsimp only [Option.getD, Option.isSome, Rc.val]
    have hz5 : w4.heap.size < w5.heap.size := (Array.getElem?_eq_some_iff.1 B6).1
    obtain ⟨U5, hU5⟩ : ∃ U5, U5 = w5.setCell ⟨w4.heap.size, 1, none⟩ (.int .i64 (x1 + 1)) := ⟨_, rfl⟩
    have hsz : U5.heap.size = w5.heap.size := by rw [hU5]; simp
    have GU : w.grownBy U5 (some q) := by rw [hU5]; exact setG G6 (by omega)
    have SU : SrcAt q cv cs (a + 1 + 1 + 1) U5 := by rw [hU5]; exact S6.set (by omega)
    have AU : U5.heap[w.heap.size]? = some (.cells #[.string ⟨#[]⟩, .int .i64 0, .int .i64 0, .int .i64 0] 88) := by rw [hU5]; exact (heap_setCell_other _ _ _ _ (by show w.heap.size ≠ w4.heap.size; omega)).trans A6
    obtain ⟨b0, b1, b2, b3⟩ := four_cellsV B6
    have u0 : U5.cell? ⟨w4.heap.size, 0, none⟩ = some (.string t) := by rw [hU5]; exact (World.cell?_setCell_other _ _ _ _ (by simp)).trans b0
    have u1 : U5.cell? ⟨w4.heap.size, 1, none⟩ = some (.int .i64 (x1 + 1)) := by rw [hU5]; exact World.cell?_setCell_same _ _ _ b1
    have u2 : U5.cell? ⟨w4.heap.size, 2, none⟩ = some (.int .i64 ow) := by rw [hU5]; exact (World.cell?_setCell_other _ _ _ _ (by simp)).trans b2
    have u3 : U5.cell? ⟨w4.heap.size, 3, none⟩ = some (.int .i64 p) := by rw [hU5]; exact (World.cell?_setCell_other _ _ _ _ (by simp)).trans b3
    have hlU : w4.heap.size < U5.heap.size := by omega
    have HN : Hid (NwAt w.heap.size w4.heap.size w5.heap.size t (x1 + 1) ow p x2 (U5.alloc (.cells #[.string x0, .int .i64 x1, .int .i64 x2, .int .i64 x3] 88))) := by
      have hd := heap_alloc_new U5 (.cells #[.string x0, .int .i64 x1, .int .i64 x2, .int .i64 x3] 88)
      rw [hsz] at hd
      exact ⟨heap_alloc_old' _ _ _ AU, ((one_new _).cell (p := ⟨w4.heap.size, 0, none⟩) hlU).trans u0, ((one_new _).cell (p := ⟨w4.heap.size, 1, none⟩) hlU).trans u1, ((one_new _).cell (p := ⟨w4.heap.size, 2, none⟩) hlU).trans u2, ((one_new _).cell (p := ⟨w4.heap.size, 3, none⟩) hlU).trans u3, (four_cellsV hd).2.2.1⟩
    have HG : Hid (w.grownBy (U5.alloc (.cells #[.string x0, .int .i64 x1, .int .i64 x2, .int .i64 x3] 88)) (some q)) := grown_trans GU (World.grownBy_alloc _ _ _)
    have HS : Hid (SrcAt q cv cs (a + 1 + 1 + 1) (U5.alloc (.cells #[.string x0, .int .i64 x1, .int .i64 x2, .int .i64 x3] 88))) := SU.alloc _
    rw [hU5] at HN HG HS
    have k7 := blk4 (heap_alloc_old' w5 (.cells #[.string x0, .int .i64 x1, .int .i64 x2, .int .i64 x3] 88) _ B6)
    obtain ⟨e0, e1, e2, e3⟩ := four_cellsV (heap_alloc_new w5 (.cells #[.string x0, .int .i64 x1, .int .i64 x2, .int .i64 x3] 88))
    go_split_ands
    have hq4 : w4.heap.size ≠ q := by omega
    have hq5 : w5.heap.size ≠ q := by omega
    clear A6 B6 G6 S6 hxv b0 b1 b2 b3 hok GU SU AU u0 u1 u2 u3 hlU hsz hU5
    go_wp2
    go_loopw [6, 10] (fun sec i wr => ∃ k : Nat, k ≤ 3 ∧ i = .int .i64 k ∧ (∃ s' : Int, sec = .int .i64 s') ∧ (∃ a', a' ≤ a + 3 + k ∧ Hid (SrcAt q cv cs a' wr)) ∧ Hid (w.grownBy wr (some q)) ∧ Hid (NwAt w.heap.size w4.heap.size w5.heap.size t (x1 + 1) ow p x2 wr)) (fun _ i _ => 3 - (intOf i).toNat)
    case atStart => exact ⟨0, by omega, rfl, ⟨_, rfl⟩, ⟨_, by omega, HS⟩, HG, HN⟩
    case round =>
      obtain ⟨k, hk, rfl, ⟨s', rfl⟩, ⟨a', ha', hS⟩, hG, hN⟩ := hrel
      by_cases hkn : k < 3
      · have hki : (k : Int) < 3 := by omega
        have hOw := fun w => l9Owner_any (k : Int) w (by omega)
        have HD : Hid (∀ w', wr.grownBy w' (some q) → w'.cell? ⟨w5.heap.size, 2, none⟩ = some (.int .i64 x2)) := fun w' h => (hN.out.grown h hnq hq4 hq5).d2
        have hbr := Below.refl wr.heap.size wr
        have d2 := hN.out.d2
        have HC : Hid (∀ w', Below wr.heap.size wr w' → Calls Tryz.prog 62 #[.pointer (some ⟨q, 0, none⟩), .int .i64 6] w' fun e w'' => ∃ r : Bool, e = .returned (.bool r) ∧ w'.grownBy w'' (some q) ∧ SrcAt q cv cs (a' + 1) w'') := fun w' h => l1Chance_any q a' cv cs 6 w' (hS.out.grown (row := none) (grownB h) (fun k hk => by cases hk)) (by omega) (by omega) (by omega)
        generalize ownL (k : Int) = oz at *
        by_cases ho : oz = x2
        · have hd : (oz == x2) = true := by simp [ho]
          clear ho
          go_wp2_with fail
          go_region_held3 (fun w' => w'.cell? ⟨w5.heap.size, 2, none⟩ = some (.int .i64 x2))
            (first | with_reducible exact d2 | with_reducible exact HD.out _ (grownB hbr) | with_reducible exact HD.out _ (grownB hbr.drew) | with_reducible exact HD.out _ hgr)
            (first
              | (go_at_call 113; refine (hOw _).mono ?_; rintro e w6 ⟨rfl, hb6⟩; have hbr : Below wr.heap.size wr w6 := (by first | exact below_after_of hbr hb6 | exact below_after_of hbr.drew hb6))
              | (go_at_call 62; refine (HC.out _ (by first | exact hbr | exact hbr.drew)).mono ?_; rintro e w7 ⟨ch, rfl, hg7, S7⟩; have hgr : wr.grownBy w7 (some q) := grown_trans (grownB hbr) hg7))
          have G8 := grown_trans hG.out hgr
          have N8 := hN.out.grown hgr hnq hq4 hq5
          have HG8 : Hid (w.grownBy w7 (some q)) := G8
          have HN8 : Hid (NwAt w.heap.size w4.heap.size w5.heap.size t (x1 + 1) ow p x2 w7) := N8
          have HS8 : Hid (SrcAt q cv cs (a' + 1) w7) := S7
          clear G8 N8 S7 hgr hg7 HC HD hOw hbr d2 hb6
          cases ch
          · go_wp2
            go_roundw
            case rel => exact ⟨k + 1, by omega, by go_num, ⟨_, rfl⟩, ⟨_, by omega, HS8⟩, HG8, HN8⟩
            case measure => simp [intOf]; omega
          · go_wp2
            go_roundw
            case rel => exact ⟨k + 1, by omega, by go_num, ⟨_, rfl⟩, ⟨_, by omega, HS8⟩, HG8, HN8⟩
            case measure => simp [intOf]; omega
        · have hd : (oz == x2) = false := by simp [ho]
          clear ho
          have q0 := After.cell d2
          have hne := After.ne wr
          go_wp2_with fail
          refine wp_region_after (by kernel_rfl) (by kernel_rfl) ?_
          repeat (first | go_big_quiet_skip | (go_big_quiet_want; go_big_quiet_op; first | go_big_quiet_on | go_big_quiet_call (first | (go_at_call 113; refine (hOw _).mono ?_; rintro e wq ⟨rfl, hbq⟩; exact ⟨rfl, after_mk (below_after_of (After.b _) hbq)⟩))))
          refine wpQuiet_nil ?_
          rintro _ ⟨n6, rfl⟩
          have hbr := n6.b
          generalize n6.w = w6 at *
          have hgr : wr.grownBy w6 (some q) := grownB hbr
          have HG8 : Hid (w.grownBy w6 (some q)) := grown_trans hG.out hgr
          have HN8 : Hid (NwAt w.heap.size w4.heap.size w5.heap.size t (x1 + 1) ow p x2 w6) := hN.out.grown hgr hnq hq4 hq5
          have HS8 : Hid (SrcAt q cv cs a' w6) := hS.out.grown (row := none) (grownB hbr) (fun k hk => by cases hk)
          clear hgr HC HD hOw hbr d2 q0 hne n6
          go_wp2
          go_roundw
          case rel => exact ⟨k + 1, by omega, by go_num, ⟨_, rfl⟩, ⟨_, by omega, HS8⟩, HG8, HN8⟩
          case measure => simp [intOf]; omega
      · have hk3 : k = 3 := by omega
        subst hk3
        have a0 := blk4 hN.out.z0
        obtain ⟨-, n0, n1, n2, n3, -⟩ := hN.out
        go_split_ands
        go_wp2
        refine bodyPost_ret (v := .tuple #[.agg #[.string t, .int .i64 (x1 + 1), .int .i64 ow, .int .i64 p], .int .i64 s']) (by simp [results, Tryz.results92, go_sem, *]) rfl ⟨t, x1 + 1, ow, p, s', a', ht, by omega, rfl, ?_, ?_⟩
        · exact setG (setG (setG (setG hG.out (Nat.le_refl _)) (Nat.le_refl _)) (Nat.le_refl _)) (Nat.le_refl _)
        · exact (((hS.out.set hq).set hq).set hq).set hq
end U
end Go.Proofs.YtpelafkjnmcdgaaGreat

/- Heads, drawn: right ones, and bent ones. -/
namespace Go.Proofs.YtpelafkjnmcdgaaGreat
open Go.RowKit
namespace U
def hd0 : Obj := .cells #[.int .i64 0, .int .i64 0, .int .i64 0, .int .i64 0, .int .i64 0] 26
def hdO (e p o n v : Int) : Obj := .cells #[.int .i64 e, .int .i64 p, .int .i64 o, .int .i64 n, .int .i64 v] 26
/-- A head under way, while choices are drawn: where it lies, where the answer will lie. -/
structure DwH (w : World) (q : Nat) (cv : Value) (cs : List Int) (B : Nat) (X : World) (a : Nat) (e p o n v : Int) : Prop where
  g : w.grownBy X (some q)
  s : SrcAt q cv cs a X
  qa : X.heap[w.heap.size]? = some hd0
  qb : X.heap[B]? = some (hdO e p o n v)
  lt : w.heap.size < B
  ql : q < w.heap.size
theorem DwH.grown {w X X' : World} {q B a a' : Nat} {cv : Value} {cs : List Int} {e p o n v : Int} (h : DwH w q cv cs B X a e p o n v) (hg : X.grownBy X' (some q)) (hs : SrcAt q cv cs a' X') : DwH w q cv cs B X' a' e p o n v := by
  have h1 := h.lt
  have h2 := h.ql
  exact ⟨grown_trans h.g hg, hs, (hg.block _ (Array.getElem?_eq_some_iff.1 h.qa).1 (fun e => by have := Option.some.inj e; omega)).trans h.qa, (hg.block _ (Array.getElem?_eq_some_iff.1 h.qb).1 (fun e => by have := Option.some.inj e; omega)).trans h.qb, h1, h2⟩
theorem DwH.put {w X : World} {q B a i : Nat} {cv x : Value} {cs : List Int} {e p o n v e' p' o' n' v' : Int} (h : DwH w q cv cs B X a e p o n v) (hb : (X.setCell ⟨B, i, none⟩ x).heap[B]? = some (hdO e' p' o' n' v')) : DwH w q cv cs B (X.setCell ⟨B, i, none⟩ x) a e' p' o' n' v' := by
  have h1 := h.lt
  have h2 := h.ql
  exact ⟨grown_new h.g (setCell_grown _ _ _ _) (fun g e => by cases e; omega), h.s.grown (setCell_grown _ _ _ _) (fun k e => by cases e; omega), (heap_setCell_other X ⟨B, i, none⟩ w.heap.size _ (by simp; omega)).trans h.qa, hb, h1, h2⟩
theorem DwH.set0 {w X : World} {q B a : Nat} {cv : Value} {cs : List Int} {e p o n v : Int} (h : DwH w q cv cs B X a e p o n v) (x : Int) : DwH w q cv cs B (X.setCell ⟨B, 0, none⟩ (.int .i64 x)) a x p o n v :=
  h.put (by have := heap_setCell_same X B 0 _ _ (.int .i64 x) h.qb; simpa [hdO] using this)
theorem DwH.set1 {w X : World} {q B a : Nat} {cv : Value} {cs : List Int} {e p o n v : Int} (h : DwH w q cv cs B X a e p o n v) (x : Int) : DwH w q cv cs B (X.setCell ⟨B, 1, none⟩ (.int .i64 x)) a e x o n v :=
  h.put (by have := heap_setCell_same X B 1 _ _ (.int .i64 x) h.qb; simpa [hdO] using this)
theorem DwH.set2 {w X : World} {q B a : Nat} {cv : Value} {cs : List Int} {e p o n v : Int} (h : DwH w q cv cs B X a e p o n v) (x : Int) : DwH w q cv cs B (X.setCell ⟨B, 2, none⟩ (.int .i64 x)) a e p x n v :=
  h.put (by have := heap_setCell_same X B 2 _ _ (.int .i64 x) h.qb; simpa [hdO] using this)
theorem DwH.set3 {w X : World} {q B a : Nat} {cv : Value} {cs : List Int} {e p o n v : Int} (h : DwH w q cv cs B X a e p o n v) (x : Int) : DwH w q cv cs B (X.setCell ⟨B, 3, none⟩ (.int .i64 x)) a e p o x v :=
  h.put (by have := heap_setCell_same X B 3 _ _ (.int .i64 x) h.qb; simpa [hdO] using this)
/-- What can be read of it. -/
structure HdCells (X : World) (A B : Nat) (e p o n v : Int) : Prop where
  a0 : X.cell? ⟨A, 0, none⟩ = some (.int .i64 0)
  a1 : X.cell? ⟨A, 1, none⟩ = some (.int .i64 0)
  a2 : X.cell? ⟨A, 2, none⟩ = some (.int .i64 0)
  a3 : X.cell? ⟨A, 3, none⟩ = some (.int .i64 0)
  a4 : X.cell? ⟨A, 4, none⟩ = some (.int .i64 0)
  g0 : X.frozen? ⟨A, 0, none⟩ = false
  g1 : X.frozen? ⟨A, 1, none⟩ = false
  g2 : X.frozen? ⟨A, 2, none⟩ = false
  g3 : X.frozen? ⟨A, 3, none⟩ = false
  g4 : X.frozen? ⟨A, 4, none⟩ = false
  b0 : X.cell? ⟨B, 0, none⟩ = some (.int .i64 e)
  b1 : X.cell? ⟨B, 1, none⟩ = some (.int .i64 p)
  b2 : X.cell? ⟨B, 2, none⟩ = some (.int .i64 o)
  b3 : X.cell? ⟨B, 3, none⟩ = some (.int .i64 n)
  b4 : X.cell? ⟨B, 4, none⟩ = some (.int .i64 v)
  f0 : X.frozen? ⟨B, 0, none⟩ = false
  f1 : X.frozen? ⟨B, 1, none⟩ = false
  f2 : X.frozen? ⟨B, 2, none⟩ = false
  f3 : X.frozen? ⟨B, 3, none⟩ = false
theorem DwH.cells {w X : World} {q B a : Nat} {cv : Value} {cs : List Int} {e p o n v : Int} (h : DwH w q cv cs B X a e p o n v) : HdCells X w.heap.size B e p o n v := by
  have h1 := h.qa
  have h2 := h.qb
  unfold hd0 at h1
  unfold hdO at h2
  constructor <;> simp [World.cell?, World.frozen?, h1, h2]
theorem DwH.done {w X : World} {q B a : Nat} {cv : Value} {cs : List Int} {e p o n v : Int} (h : DwH w q cv cs B X a e p o n v) (x0 x1 x2 x3 x4 : Value) :
    w.grownBy (((((X.setCell ⟨w.heap.size, 0, none⟩ x0).setCell ⟨w.heap.size, 1, none⟩ x1).setCell ⟨w.heap.size, 2, none⟩ x2).setCell ⟨w.heap.size, 3, none⟩ x3).setCell ⟨w.heap.size, 4, none⟩ x4) (some q) ∧ SrcAt q cv cs a (((((X.setCell ⟨w.heap.size, 0, none⟩ x0).setCell ⟨w.heap.size, 1, none⟩ x1).setCell ⟨w.heap.size, 2, none⟩ x2).setCell ⟨w.heap.size, 3, none⟩ x3).setCell ⟨w.heap.size, 4, none⟩ x4) := by
  have hq := h.ql
  refine ⟨?_, ?_⟩
  · exact grown_new (grown_new (grown_new (grown_new (grown_new h.g (setCell_grown _ _ _ _) (fun g e => by cases e; exact Nat.le_refl _)) (setCell_grown _ _ _ _) (fun g e => by cases e; exact Nat.le_refl _)) (setCell_grown _ _ _ _) (fun g e => by cases e; exact Nat.le_refl _)) (setCell_grown _ _ _ _) (fun g e => by cases e; exact Nat.le_refl _)) (setCell_grown _ _ _ _) (fun g e => by cases e; exact Nat.le_refl _)
  · exact ((((h.s.grown (setCell_grown _ _ _ _) (fun k e => by cases e; exact hq)).grown (setCell_grown _ _ _ _) (fun k e => by cases e; exact hq)).grown (setCell_grown _ _ _ _) (fun k e => by cases e; exact hq)).grown (setCell_grown _ _ _ _) (fun k e => by cases e; exact hq)).grown (setCell_grown _ _ _ _) (fun k e => by cases e; exact hq)
theorem DwH.new {w X : World} {q a : Nat} {cv : Value} {cs : List Int} (e p o n v : Int) (g : (w.alloc hd0).grownBy X (some q)) (s : SrcAt q cv cs a X) (hq : q < w.heap.size) : DwH w q cv cs X.heap.size (X.alloc (hdO e p o n v)) a e p o n v := by
  have h1 := g.size
  simp at h1
  have h2 := (g.block w.heap.size (by simp) (fun e => by have := Option.some.inj e; omega)).trans (heap_alloc_new w _)
  exact ⟨grown_trans (grown_trans (World.grownBy_alloc _ _ _) g) (World.grownBy_alloc _ _ _), s.alloc _, ((one_new _).block w.heap.size h1).trans h2, heap_alloc_new X _, h1, hq⟩
/-- A head's roots, drawn by its phase. -/
theorem drawn_ok {e p v : Nat} {o n : Int} (he : e < 10) (hp : p < 5) (hv : v < 65521) (ho : 0 ≤ o ∧ o ≤ 65520) (hn : 0 ≤ n ∧ n ≤ 65520) (h1 : hasO (1 + (p : Int)) = false → o = 0) (h2 : hasN (1 + (p : Int)) = false → n = 0) : HdOk (1 + (e : Int)) (1 + (p : Int)) o n v := by
  refine ⟨by omega, by omega, by omega, by omega, ho.1, ho.2, hn.1, hn.2, by omega, by omega, ?_⟩
  unfold hdF
  rcases Bool.eq_false_or_eq_true (hasO (1 + (p : Int))) with a | a <;> rcases Bool.eq_false_or_eq_true (hasN (1 + (p : Int))) with b | b
  · simp [a, b]
  · simp [a, b, h2 b]
  · simp [a, b, h1 a]
  · simp [a, b, h1 a, h2 b]
end U
end Go.Proofs.YtpelafkjnmcdgaaGreat

/- Heads, drawn: right ones, and bent ones: walked. -/
namespace Go.Proofs.YtpelafkjnmcdgaaGreat
open Go.RowKit
namespace U
set_option maxRecDepth 100000 in
set_option maxHeartbeats 4000000 in
theorem l10Draw_any (q a : Nat) (cv : Value) (cs : List Int) (w : World) (h : SrcAt q cv cs a w) (ha : a ≤ 90000) :
    Calls Tryz.prog 29 #[.pointer (some ⟨q, 0, none⟩)] w fun x w' => ∃ (e p o n v : Int) (a' : Nat), x = .returned (hdV e p o n v) ∧ HdOk e p o n v ∧ w.grownBy w' (some q) ∧ a' ≤ a + 5 ∧ SrcAt q cv cs a' w' := by
  have hq := h.lt
  obtain ⟨W0, hW0⟩ : ∃ W0, W0 = w.alloc hd0 := ⟨_, rfl⟩
  have HW0 : Hid (w.alloc hd0 = W0) := hW0.symm
  have h0 : SrcAt q cv cs a W0 := by rw [hW0]; exact h.alloc _
  have G0 : (w.alloc hd0).grownBy W0 (some q) := by rw [hW0]; exact ⟨rfl, rfl, rfl, Nat.le_refl _, fun _ _ _ => rfl⟩
  unfold hd0 at HW0
  clear h hW0
  go_enter Tryz.func29, Tryz.ntmps29
  go_wp2_with fail
  rw [HW0.out]
  refine (l1Next_any q a cv cs 10 _ h0 (by omega) (by omega) (by omega)).mono ?_
  rintro x w1 ⟨e, he, rfl, hg1, s1⟩
  have G1 := grown_trans G0 hg1
  clear hg1 G0 h0
  go_wp2_with fail
  refine (l1Next_any q _ cv cs 5 _ s1 (by omega) (by omega) (by omega)).mono ?_
  rintro x w2 ⟨p, hp, rfl, hg2, s2⟩
  have G2 := grown_trans G1 hg2
  clear hg2 G1 s1
  go_wp2_with fail
  refine (l1Next_any q _ cv cs 65521 _ s2 (by omega) (by omega) (by omega)).mono ?_
  rintro x w3 ⟨v, hv, rfl, hg3, s3⟩
  have G3 := grown_trans G2 hg3
  clear hg3 G2 s2
  have we : IntKind.i64.wrap (1 + (e : Int)) = 1 + (e : Int) := by rw [IntKind.wrap_i64]; omega
  have wp : IntKind.i64.wrap (1 + (p : Int)) = 1 + (p : Int) := by rw [IntKind.wrap_i64]; omega
  have D3 := DwH.new (1 + (e : Int)) (1 + (p : Int)) 0 0 (v : Int) G3 s3 hq
  obtain ⟨W3, hW3⟩ : ∃ W3, W3 = w3.alloc (hdO (1 + (e : Int)) (1 + (p : Int)) 0 0 (v : Int)) := ⟨_, rfl⟩
  have HW3 : Hid (w3.alloc (hdO (1 + (e : Int)) (1 + (p : Int)) 0 0 (v : Int)) = W3) := hW3.symm
  rw [← hW3] at D3
  unfold hdO at HW3
  clear hW3 G3 s3
  have hO := fun w => l10HasOld_any (1 + (p : Int)) w
  have hN := fun w => l10HasNew_any (1 + (p : Int)) w
  have HOK : Hid (∀ o n : Int, 0 ≤ o ∧ o ≤ 65520 → 0 ≤ n ∧ n ≤ 65520 → (hasO (1 + (p : Int)) = false → o = 0) → (hasN (1 + (p : Int)) = false → n = 0) → HdOk (1 + (e : Int)) (1 + (p : Int)) o n v) := fun o n ho hn h1 h2 => drawn_ok he hp hv ho hn h1 h2
  generalize (1 + (p : Int)) = P at *
  generalize (1 + (e : Int)) = E at *
  generalize (v : Int) = V at *
  go_wp2_with fail
  rw [HW3.out]
  generalize w3.heap.size = B at *
  clear HW3 HW0 we wp
  have hn1 : ¬ B = w.heap.size := by have := D3.lt; omega
  have hn2 : ¬ w.heap.size = B := by have := D3.lt; omega
  rcases Bool.eq_false_or_eq_true (hasO P) with h1 | h1
  · rcases Bool.eq_false_or_eq_true (hasN P) with h2 | h2
    · rw [h1] at hO
      rw [h2] at hN
      refine (hO _).mono ?_
      rintro x wq ⟨rfl, hwq⟩
      rw [hwq]
      clear hwq wq hO
      obtain ⟨a0, a1, a2, a3, a4, g0, g1, g2, g3, g4, b0, b1, b2, b3, b4, f0, f1, f2, f3⟩ := D3.cells
      go_wp2_with fail
      refine (l1Next_any q _ cv cs 65521 _ D3.s (by omega) (by omega) (by omega)).mono ?_
      rintro x w4 ⟨r4, hr4, rfl, hg4, s4⟩
      clear a0 a1 a2 a3 a4 g0 g1 g2 g3 g4 b0 b1 b2 b3 b4 f0 f1 f2 f3
      have D4 := D3.grown hg4 s4
      obtain ⟨a0, a1, a2, a3, a4, g0, g1, g2, g3, g4, b0, b1, b2, b3, b4, f0, f1, f2, f3⟩ := D4.cells
      have D5 := D4.set2 (r4 : Int)
      obtain ⟨W5, hW5⟩ : ∃ W5, W5 = w4.setCell ⟨B, 2, none⟩ (.int .i64 (r4 : Int)) := ⟨_, rfl⟩
      have HW5 : Hid (w4.setCell ⟨B, 2, none⟩ (.int .i64 (r4 : Int)) = W5) := hW5.symm
      rw [← hW5] at D5
      clear hW5 D4 D3 hg4 s4
      go_wp2_with fail
      rw [HW5.out]
      clear a0 a1 a2 a3 a4 g0 g1 g2 g3 g4 b0 b1 b2 b3 b4 f0 f1 f2 f3
      clear HW5
      refine (hN _).mono ?_
      rintro x wq ⟨rfl, hwq⟩
      rw [hwq]
      clear hwq wq hN
      obtain ⟨a0, a1, a2, a3, a4, g0, g1, g2, g3, g4, b0, b1, b2, b3, b4, f0, f1, f2, f3⟩ := D5.cells
      go_wp2_with fail
      refine (l1Next_any q _ cv cs 65521 _ D5.s (by omega) (by omega) (by omega)).mono ?_
      rintro x w6 ⟨r5, hr5, rfl, hg6, s6⟩
      clear a0 a1 a2 a3 a4 g0 g1 g2 g3 g4 b0 b1 b2 b3 b4 f0 f1 f2 f3
      have D6 := D5.grown hg6 s6
      obtain ⟨a0, a1, a2, a3, a4, g0, g1, g2, g3, g4, b0, b1, b2, b3, b4, f0, f1, f2, f3⟩ := D6.cells
      have D7 := D6.set3 (r5 : Int)
      clear D6 D5 hg6 s6
      skip
      have HD : Hid (DwH w q cv cs B (w6.setCell ⟨B, 3, none⟩ (.int .i64 (r5 : Int))) (a + 1 + 1 + 1 + 1 + 1) E P (r4 : Int) (r5 : Int) V) := D7
      clear D7
      go_wp2
      obtain ⟨zg, zs⟩ := HD.out.done (.int .i64 E) (.int .i64 P) (.int .i64 (r4 : Int)) (.int .i64 (r5 : Int)) (.int .i64 V)
      exact bodyPost_ret (v := hdV E P (r4 : Int) (r5 : Int) V) (by simp [results, Tryz.results29, go_sem, hdV, a0, a1, a2, a3, a4]) rfl ⟨E, P, (r4 : Int), (r5 : Int), V, _, rfl, HOK.out (r4 : Int) (r5 : Int) (by omega) (by omega) (fun h => by rw [h1] at h; cases h) (fun h => by rw [h2] at h; cases h), zg, by omega, zs⟩
    · rw [h1] at hO
      rw [h2] at hN
      refine (hO _).mono ?_
      rintro x wq ⟨rfl, hwq⟩
      rw [hwq]
      clear hwq wq hO
      obtain ⟨a0, a1, a2, a3, a4, g0, g1, g2, g3, g4, b0, b1, b2, b3, b4, f0, f1, f2, f3⟩ := D3.cells
      go_wp2_with fail
      refine (l1Next_any q _ cv cs 65521 _ D3.s (by omega) (by omega) (by omega)).mono ?_
      rintro x w4 ⟨r4, hr4, rfl, hg4, s4⟩
      clear a0 a1 a2 a3 a4 g0 g1 g2 g3 g4 b0 b1 b2 b3 b4 f0 f1 f2 f3
      have D4 := D3.grown hg4 s4
      obtain ⟨a0, a1, a2, a3, a4, g0, g1, g2, g3, g4, b0, b1, b2, b3, b4, f0, f1, f2, f3⟩ := D4.cells
      have D5 := D4.set2 (r4 : Int)
      obtain ⟨W5, hW5⟩ : ∃ W5, W5 = w4.setCell ⟨B, 2, none⟩ (.int .i64 (r4 : Int)) := ⟨_, rfl⟩
      have HW5 : Hid (w4.setCell ⟨B, 2, none⟩ (.int .i64 (r4 : Int)) = W5) := hW5.symm
      rw [← hW5] at D5
      clear hW5 D4 D3 hg4 s4
      go_wp2_with fail
      rw [HW5.out]
      clear a0 a1 a2 a3 a4 g0 g1 g2 g3 g4 b0 b1 b2 b3 b4 f0 f1 f2 f3
      clear HW5
      refine (hN _).mono ?_
      rintro x wq ⟨rfl, hwq⟩
      rw [hwq]
      clear hwq wq hN
      obtain ⟨a0, a1, a2, a3, a4, g0, g1, g2, g3, g4, b0, b1, b2, b3, b4, f0, f1, f2, f3⟩ := D5.cells
      have HD : Hid (DwH w q cv cs B W5 (a + 1 + 1 + 1 + 1) E P (r4 : Int) 0 V) := D5
      clear D5
      go_wp2
      obtain ⟨zg, zs⟩ := HD.out.done (.int .i64 E) (.int .i64 P) (.int .i64 (r4 : Int)) (.int .i64 0) (.int .i64 V)
      exact bodyPost_ret (v := hdV E P (r4 : Int) 0 V) (by simp [results, Tryz.results29, go_sem, hdV, a0, a1, a2, a3, a4]) rfl ⟨E, P, (r4 : Int), 0, V, _, rfl, HOK.out (r4 : Int) 0 (by omega) (by omega) (fun h => by rw [h1] at h; cases h) (fun h => rfl), zg, by omega, zs⟩
  · rcases Bool.eq_false_or_eq_true (hasN P) with h2 | h2
    · rw [h1] at hO
      rw [h2] at hN
      refine (hO _).mono ?_
      rintro x wq ⟨rfl, hwq⟩
      rw [hwq]
      clear hwq wq hO
      obtain ⟨a0, a1, a2, a3, a4, g0, g1, g2, g3, g4, b0, b1, b2, b3, b4, f0, f1, f2, f3⟩ := D3.cells
      go_wp2_with fail
      clear a0 a1 a2 a3 a4 g0 g1 g2 g3 g4 b0 b1 b2 b3 b4 f0 f1 f2 f3
      refine (hN _).mono ?_
      rintro x wq ⟨rfl, hwq⟩
      rw [hwq]
      clear hwq wq hN
      obtain ⟨a0, a1, a2, a3, a4, g0, g1, g2, g3, g4, b0, b1, b2, b3, b4, f0, f1, f2, f3⟩ := D3.cells
      go_wp2_with fail
      refine (l1Next_any q _ cv cs 65521 _ D3.s (by omega) (by omega) (by omega)).mono ?_
      rintro x w6 ⟨r5, hr5, rfl, hg6, s6⟩
      clear a0 a1 a2 a3 a4 g0 g1 g2 g3 g4 b0 b1 b2 b3 b4 f0 f1 f2 f3
      have D6 := D3.grown hg6 s6
      obtain ⟨a0, a1, a2, a3, a4, g0, g1, g2, g3, g4, b0, b1, b2, b3, b4, f0, f1, f2, f3⟩ := D6.cells
      have D7 := D6.set3 (r5 : Int)
      clear D6 D3 hg6 s6
      skip
      have HD : Hid (DwH w q cv cs B (w6.setCell ⟨B, 3, none⟩ (.int .i64 (r5 : Int))) (a + 1 + 1 + 1 + 1) E P 0 (r5 : Int) V) := D7
      clear D7
      go_wp2
      obtain ⟨zg, zs⟩ := HD.out.done (.int .i64 E) (.int .i64 P) (.int .i64 0) (.int .i64 (r5 : Int)) (.int .i64 V)
      exact bodyPost_ret (v := hdV E P 0 (r5 : Int) V) (by simp [results, Tryz.results29, go_sem, hdV, a0, a1, a2, a3, a4]) rfl ⟨E, P, 0, (r5 : Int), V, _, rfl, HOK.out 0 (r5 : Int) (by omega) (by omega) (fun h => rfl) (fun h => by rw [h2] at h; cases h), zg, by omega, zs⟩
    · rw [h1] at hO
      rw [h2] at hN
      refine (hO _).mono ?_
      rintro x wq ⟨rfl, hwq⟩
      rw [hwq]
      clear hwq wq hO
      obtain ⟨a0, a1, a2, a3, a4, g0, g1, g2, g3, g4, b0, b1, b2, b3, b4, f0, f1, f2, f3⟩ := D3.cells
      go_wp2_with fail
      clear a0 a1 a2 a3 a4 g0 g1 g2 g3 g4 b0 b1 b2 b3 b4 f0 f1 f2 f3
      refine (hN _).mono ?_
      rintro x wq ⟨rfl, hwq⟩
      rw [hwq]
      clear hwq wq hN
      obtain ⟨a0, a1, a2, a3, a4, g0, g1, g2, g3, g4, b0, b1, b2, b3, b4, f0, f1, f2, f3⟩ := D3.cells
      have HD : Hid (DwH w q cv cs B W3 (a + 1 + 1 + 1) E P 0 0 V) := D3
      clear D3
      go_wp2
      obtain ⟨zg, zs⟩ := HD.out.done (.int .i64 E) (.int .i64 P) (.int .i64 0) (.int .i64 0) (.int .i64 V)
      exact bodyPost_ret (v := hdV E P 0 0 V) (by simp [results, Tryz.results29, go_sem, hdV, a0, a1, a2, a3, a4]) rfl ⟨E, P, 0, 0, V, _, rfl, HOK.out 0 0 (by omega) (by omega) (fun h => rfl) (fun h => rfl), zg, by omega, zs⟩
def pkE : List Int := [0, 11]
def pkP : List Int := [0, 1, 4, 6]
def pkN : List Int := [5, 65521]
set_option maxRecDepth 100000 in
set_option maxHeartbeats 4000000 in
theorem l10Bent_any (q a : Nat) (cv : Value) (cs : List Int) (w : World) (h : SrcAt q cv cs a w) (ha : a ≤ 80000) :
    Calls Tryz.prog 35 #[.pointer (some ⟨q, 0, none⟩)] w fun x w' => ∃ (e p o n v : Int) (a' : Nat), x = .returned (hdV e p o n v) ∧ w.grownBy w' (some q) ∧ a' ≤ a + 8 ∧ SrcAt q cv cs a' w' := by
  have hq := h.lt
  obtain ⟨W0, hW0⟩ : ∃ W0, W0 = w.alloc hd0 := ⟨_, rfl⟩
  have HW0 : Hid (w.alloc hd0 = W0) := hW0.symm
  have h0 : SrcAt q cv cs a W0 := by rw [hW0]; exact h.alloc _
  have G0 : (w.alloc hd0).grownBy W0 (some q) := by rw [hW0]; exact ⟨rfl, rfl, rfl, Nat.le_refl _, fun _ _ _ => rfl⟩
  unfold hd0 at HW0
  clear h hW0
  go_enter Tryz.func35, Tryz.ntmps35
  go_wp2_with fail
  rw [HW0.out]
  refine (l10Draw_any q a cv cs _ h0 (by omega)).mono ?_
  rintro x w1 ⟨e, p, o, n, v, a1, rfl, hok, hg1, ha1, s1⟩
  have G1 := grown_trans G0 hg1
  clear hg1 G0 h0 HW0 hok
  have D1 := DwH.new e p o n v G1 s1 hq
  unfold hdV
  obtain ⟨W1, hW1⟩ : ∃ W1, W1 = w1.alloc (hdO e p o n v) := ⟨_, rfl⟩
  have HW1 : Hid (w1.alloc (hdO e p o n v) = W1) := hW1.symm
  rw [← hW1] at D1
  unfold hdO at HW1
  clear hW1 G1 s1
  go_wp2_with fail
  rw [HW1.out]
  generalize w1.heap.size = B at *
  clear HW1
  have hn1 : ¬ B = w.heap.size := by have := D1.lt; omega
  have hn2 : ¬ w.heap.size = B := by have := D1.lt; omega
  refine (l1Next_any q _ cv cs 12 _ D1.s (by omega) (by omega) (by omega)).mono ?_
  rintro x w2 ⟨r, hr, rfl, hg2, s2⟩
  have D2 := D1.grown hg2 s2
  clear D1 hg2 s2
  obtain ⟨a0, a1, a2, a3, a4, g0, g1, g2, g3, g4, b0, b1, b2, b3, b4, f0, f1, f2, f3⟩ := D2.cells
  rcases (by omega : r = 0 ∨ r = 1 ∨ r = 2 ∨ 3 ≤ r) with rfl | rfl | rfl | h3
  · go_wp2_with fail
    refine (l1Pick_any q _ cv cs _ pkE _ (D2.s.alloc _) (by omega) (lit_ints .i64 pkE 2 2) (by have := D2.s.lt; simp [Value.ownBlock]; omega) (by decide) (by decide)).mono ?_
    rintro y w3 ⟨x, -, rfl, hg3, s3⟩
    have D3 := D2.grown (grown_trans (World.grownBy_alloc w2 (.cells (pkE.map (Value.int .i64)).toArray 2) (some q)) hg3) s3
    clear a0 a1 a2 a3 a4 g0 g1 g2 g3 g4 b0 b1 b2 b3 b4 f0 f1 f2 f3
    obtain ⟨a0, a1, a2, a3, a4, g0, g1, g2, g3, g4, b0, b1, b2, b3, b4, f0, f1, f2, f3⟩ := D3.cells
    have D4 := D3.set0 x
    clear D3 D2 hg3 s3
    have HD : Hid (DwH w q cv cs B (w3.setCell ⟨B, 0, none⟩ (.int .i64 x)) _ x p o n v) := D4
    clear D4
    go_wp2
    obtain ⟨zg, zs⟩ := HD.out.done (.int .i64 x) (.int .i64 p) (.int .i64 o) (.int .i64 n) (.int .i64 v)
    exact bodyPost_ret (v := hdV x p o n v) (by simp [results, Tryz.results35, go_sem, hdV, a0, a1, a2, a3, a4]) rfl ⟨x, p, o, n, v, _, rfl, zg, by omega, zs⟩
  · go_wp2_with fail
    refine (l1Pick_any q _ cv cs _ pkP _ (D2.s.alloc _) (by omega) (lit_ints .i64 pkP 2 4) (by have := D2.s.lt; simp [Value.ownBlock]; omega) (by decide) (by decide)).mono ?_
    rintro y w3 ⟨x, -, rfl, hg3, s3⟩
    have D3 := D2.grown (grown_trans (World.grownBy_alloc w2 (.cells (pkP.map (Value.int .i64)).toArray 2) (some q)) hg3) s3
    clear a0 a1 a2 a3 a4 g0 g1 g2 g3 g4 b0 b1 b2 b3 b4 f0 f1 f2 f3
    obtain ⟨a0, a1, a2, a3, a4, g0, g1, g2, g3, g4, b0, b1, b2, b3, b4, f0, f1, f2, f3⟩ := D3.cells
    have D4 := D3.set1 x
    clear D3 D2 hg3 s3
    have HD : Hid (DwH w q cv cs B (w3.setCell ⟨B, 1, none⟩ (.int .i64 x)) _ e x o n v) := D4
    clear D4
    go_wp2
    obtain ⟨zg, zs⟩ := HD.out.done (.int .i64 e) (.int .i64 x) (.int .i64 o) (.int .i64 n) (.int .i64 v)
    exact bodyPost_ret (v := hdV e x o n v) (by simp [results, Tryz.results35, go_sem, hdV, a0, a1, a2, a3, a4]) rfl ⟨e, x, o, n, v, _, rfl, zg, by omega, zs⟩
  · go_wp2_with fail
    refine (l1Pick_any q _ cv cs _ pkN _ (D2.s.alloc _) (by omega) (lit_ints .i64 pkN 2 2) (by have := D2.s.lt; simp [Value.ownBlock]; omega) (by decide) (by decide)).mono ?_
    rintro y w3 ⟨x, -, rfl, hg3, s3⟩
    have D3 := D2.grown (grown_trans (World.grownBy_alloc w2 (.cells (pkN.map (Value.int .i64)).toArray 2) (some q)) hg3) s3
    clear a0 a1 a2 a3 a4 g0 g1 g2 g3 g4 b0 b1 b2 b3 b4 f0 f1 f2 f3
    obtain ⟨a0, a1, a2, a3, a4, g0, g1, g2, g3, g4, b0, b1, b2, b3, b4, f0, f1, f2, f3⟩ := D3.cells
    have D4 := D3.set3 x
    clear D3 D2 hg3 s3
    have HD : Hid (DwH w q cv cs B (w3.setCell ⟨B, 3, none⟩ (.int .i64 x)) _ e p o x v) := D4
    clear D4
    go_wp2
    obtain ⟨zg, zs⟩ := HD.out.done (.int .i64 e) (.int .i64 p) (.int .i64 o) (.int .i64 x) (.int .i64 v)
    exact bodyPost_ret (v := hdV e p o x v) (by simp [results, Tryz.results35, go_sem, hdV, a0, a1, a2, a3, a4]) rfl ⟨e, p, o, x, v, _, rfl, zg, by omega, zs⟩
  · have k0 : ((r : Int) == 0) = false := by simp; omega
    have k1 : ((r : Int) == 1) = false := by simp; omega
    have k2 : ((r : Int) == 2) = false := by simp; omega
    have HD : Hid (DwH w q cv cs B w2 _ e p o n v) := D2
    clear D2
    go_wp2
    obtain ⟨zg, zs⟩ := HD.out.done (.int .i64 e) (.int .i64 p) (.int .i64 o) (.int .i64 n) (.int .i64 v)
    exact bodyPost_ret (v := hdV e p o n v) (by simp [results, Tryz.results35, go_sem, hdV, a0, a1, a2, a3, a4]) rfl ⟨e, p, o, n, v, _, rfl, zg, by omega, zs⟩
end U
end Go.Proofs.YtpelafkjnmcdgaaGreat

/- A record out of bytes: two bytes as a number; what is read. -/
namespace Go.Proofs.YtpelafkjnmcdgaaGreat
open Go.RowKit
namespace U
set_option maxRecDepth 100000 in
set_option maxHeartbeats 2000000 in
theorem l3Two_any (b off c n k : Nat) (x y : Int) (w : World) (hk : k + 1 < n) (hn : n ≤ 1099511627776) (hx : w.cell? ⟨b, off + k, none⟩ = some (.int .u8 x)) (hy : w.cell? ⟨b, off + (k + 1), none⟩ = some (.int .u8 y))
    (hx0 : 0 ≤ x ∧ x ≤ 255) (hy0 : 0 ≤ y ∧ y ≤ 255) :
    Calls Tryz.prog 37 #[.slice (some ⟨b, off, none⟩) n c, .int .i64 k] w fun e w' => e = .returned (.int .i64 (256 * x + y)) ∧ ∃ n, w' = w.drewN n := by
  have k0 : (0 : Int) ≤ (k : Int) := by omega
  have k1 : (k : Int) < (n : Int) := by omega
  have k2 : ((k : Int) + 1) < (n : Int) := by omega
  have k3 : IntKind.i64.wrap ((k : Int) + 1) = ((k + 1 : Nat) : Int) := by rw [IntKind.wrap_i64]; omega
  have k4 : IntKind.i64.wrap (256 * x) = 256 * x := by rw [IntKind.wrap_i64]; omega
  have k5 : IntKind.i64.wrap (256 * x + y) = 256 * x + y := by rw [IntKind.wrap_i64]; omega
  go_enter Tryz.func37, Tryz.ntmps37
  go_wp2_with fail
  go_quiet (fail)
  go_wp2
  go_ret
  exact ⟨rfl, _, rfl⟩
theorem or256 (x y : Int) (hx : 0 ≤ x ∧ x ≤ 255) (hy : 0 ≤ y ∧ y ≤ 255) : bits .or .i64 (256 * x) y = 256 * x + y := by
  obtain ⟨X, rfl⟩ := Int.eq_ofNat_of_zero_le hx.1
  obtain ⟨Y, rfl⟩ := Int.eq_ofNat_of_zero_le hy.1
  have h := i64_or_nat (2 ^ 8 * X) Y (by omega) (by omega)
  have e : (2 ^ 8 * X) ||| Y = 2 ^ 8 * X + Y := (Nat.two_pow_add_eq_or_of_lt (by omega) X).symm
  rw [e] at h
  simpa using h
set_option maxRecDepth 100000 in
set_option maxHeartbeats 2000000 in
theorem numberAt_any (b off c n k : Nat) (x y : Int) (w : World) (hk : k + 1 < n) (hn : n ≤ 1099511627776) (hx : w.cell? ⟨b, off + k, none⟩ = some (.int .u8 x)) (hy : w.cell? ⟨b, off + (k + 1), none⟩ = some (.int .u8 y))
    (hx0 : 0 ≤ x ∧ x ≤ 255) (hy0 : 0 ≤ y ∧ y ≤ 255) :
    Calls Tryz.prog 33 #[.slice (some ⟨b, off, none⟩) n c, .int .i64 k] w fun e w' => e = .returned (.int .i64 (256 * x + y)) ∧ ∃ n, w' = w.drewN n := by
  have k0 : (0 : Int) ≤ (k : Int) := by omega
  have k1 : (k : Int) < (n : Int) := by omega
  have k2 : ((k : Int) + 1) < (n : Int) := by omega
  have k3 : IntKind.i64.wrap ((k : Int) + 1) = ((k + 1 : Nat) : Int) := by rw [IntKind.wrap_i64]; omega
  have k4 : IntKind.i64.wrap (256 * x) = 256 * x := by rw [IntKind.wrap_i64]; omega
  have k5 := or256 x y hx0 hy0
  have HK : Hid (bits .or .i64 (x * 256) y = 256 * x + y) := by rw [Int.mul_comm x 256]; exact k5
  clear k5
  go_enter Tryz.func33, Tryz.ntmps33
  go_wp2_with fail
  go_quiet (fail)
  go_wp2
  go_ret
  exact ⟨ret_int HK.out, _, rfl⟩
end U
end Go.Proofs.YtpelafkjnmcdgaaGreat

/- A head out of bytes: as both models tell it. -/
namespace Go.Proofs.YtpelafkjnmcdgaaGreat
open Go.RowKit
namespace U
/-- Two bytes as a number. -/
def rdE (ys : List Int) (k : Nat) : Int := 256 * ys.getD k 0 + ys.getD (k + 1) 0
def rdH (ys : List Int) : Int := hdC (rdE ys 1) (rdE ys 3) (rdE ys 5) (rdE ys 7) (rdE ys 9)
def rdOk (ys : List Int) : Prop := ys.length = 11 ∧ ys.getD 0 0 = 7 ∧ rdH ys = 0
def rdV (ys : List Int) : Value := if ys.length = 11 then (if ys.getD 0 0 = 7 then (if rdH ys = 0 then hrV 0 (rdE ys 1) (rdE ys 3) (rdE ys 5) (rdE ys 7) (rdE ys 9) else hrV 5 0 0 0 0 0) else hrV 5 0 0 0 0 0) else hrV 5 0 0 0 0 0
theorem rdV_ok {ys : List Int} (h : rdOk ys) : rdV ys = hrV 0 (rdE ys 1) (rdE ys 3) (rdE ys 5) (rdE ys 7) (rdE ys 9) := by unfold rdV; rw [if_pos h.1, if_pos h.2.1, if_pos h.2.2]
theorem rdV_no {ys : List Int} (h : ¬ rdOk ys) : rdV ys = hrV 5 0 0 0 0 0 := by
  unfold rdV
  by_cases h1 : ys.length = 11
  · rw [if_pos h1]
    by_cases h2 : ys.getD 0 0 = 7
    · rw [if_pos h2, if_neg (fun h3 => h ⟨h1, h2, h3⟩)]
    · rw [if_neg h2]
  · rw [if_neg h1]
theorem list11 {ys : List Int} (h : ys.length = 11) : ∃ a b c d e f g i j k l, ys = [a, b, c, d, e, f, g, i, j, k, l] := by
  match ys, h with
  | [a, b, c, d, e, f, g, i, j, k, l], _ => exact ⟨a, b, c, d, e, f, g, i, j, k, l, rfl⟩
theorem two_byte {x y : Int} (hy : 0 ≤ y ∧ y ≤ 255) : (256 * x + y) / 256 = x ∧ (256 * x + y) % 256 = y := by omega
/-- What is read is packed to the same bytes, where the tag is that of a head. -/
theorem rd_back {ys : List Int} (hl : ys.length = 11) (hb : Bts ys) : hdB (rdE ys 1) (rdE ys 3) (rdE ys 5) (rdE ys 7) (rdE ys 9) = ys ↔ ys.getD 0 0 = 7 := by
  obtain ⟨a, b, c, d, e, f, g, i, j, k, l, rfl⟩ := list11 hl
  have q := fun m (hm : m < 11) => hb.at (k := m) hm
  have q2 := q 2 (by omega)
  have q4 := q 4 (by omega)
  have q6 := q 6 (by omega)
  have q8 := q 8 (by omega)
  have q10 := q 10 (by omega)
  simp at q2 q4 q6 q8 q10
  have e1 := two_byte (x := b) q2
  have e2 := two_byte (x := d) q4
  have e3 := two_byte (x := f) q6
  have e4 := two_byte (x := i) q8
  have e5 := two_byte (x := k) q10
  simp only [hdB, tagL, numB, rdE, List.flatMap_cons, List.flatMap_nil]
  simp [e1, e2, e3, e4, e5]
  exact eq_comm
theorem rd_same {ys : List Int} (hl : ys.length = 11) (hb : Bts ys) : hdL (rdE ys 1) (rdE ys 3) (rdE ys 5) (rdE ys 7) (rdE ys 9) = ys ↔ rdOk ys := by
  unfold rdOk rdH
  by_cases h : hdC (rdE ys 1) (rdE ys 3) (rdE ys 5) (rdE ys 7) (rdE ys 9) = 0
  · rw [hdL_ok h, rd_back hl hb]
    exact ⟨fun q => ⟨hl, q, h⟩, fun q => q.2.1⟩
  · rw [hdL_no h]
    refine ⟨fun q => ?_, fun q => absurd q.2.2 h⟩
    rw [← q] at hl; simp at hl
theorem six_cellsH {w : World} {b : Nat} {x0 x1 x2 x3 x4 x5 : Value} {t : TypeId} (h : w.heap[b]? = some (.cells #[x0, x1, x2, x3, x4, x5] t (0, 0))) : (w.cell? ⟨b, 0, none⟩ = some x0 ∧ w.cell? ⟨b, 1, none⟩ = some x1 ∧ w.cell? ⟨b, 2, none⟩ = some x2 ∧ w.cell? ⟨b, 3, none⟩ = some x3 ∧ w.cell? ⟨b, 4, none⟩ = some x4 ∧ w.cell? ⟨b, 5, none⟩ = some x5) ∧
    (w.frozen? ⟨b, 0, none⟩ = false ∧ w.frozen? ⟨b, 1, none⟩ = false ∧ w.frozen? ⟨b, 2, none⟩ = false ∧ w.frozen? ⟨b, 3, none⟩ = false ∧ w.frozen? ⟨b, 4, none⟩ = false ∧ w.frozen? ⟨b, 5, none⟩ = false) := by
  simp [World.cell?, World.frozen?, h]
/-- Both ways to read two bytes, from a world on. -/
structure TwoAt (f : Nat) (W : World) (u : Value) (k : Nat) (x : Int) : Prop where
  c : ∀ w', Below W.heap.size W w' → Calls Tryz.prog f #[u, .int .i64 k] w' fun e w'' => e = .returned (.int .i64 x) ∧ Below w'.heap.size w' w''
theorem below_drewN' (w : World) (n : Nat) : Below w.heap.size w (w.drewN n) := below_drewN (Below.refl _ _) n
theorem twoSpec {W : World} {b off c : Nat} {ys : List Int} (hl : ys.length = 11) (hb : Bts ys) (hlt : b < W.heap.size) (hc : ∀ j, j < ys.length → W.cell? ⟨b, off + j, none⟩ = some (.int .u8 (ys.getD j 0))) (k : Nat) (hk : k + 1 < 11) : TwoAt 37 W (.slice (some ⟨b, off, none⟩) 11 c) k (rdE ys k) :=
  ⟨fun w' h => (l3Two_any b off c 11 k _ _ w' hk (by omega) ((h.cell (p := ⟨b, off + k, none⟩) hlt).trans (hc k (by omega))) ((h.cell (p := ⟨b, off + (k + 1), none⟩) hlt).trans (hc (k + 1) (by omega))) (hb.at (by omega)) (hb.at (by omega))).mono fun e w'' ⟨h1, n, h2⟩ => ⟨h1, by rw [h2]; exact below_drewN' _ _⟩⟩
theorem twoImpl {W : World} {b off c : Nat} {ys : List Int} (hl : ys.length = 11) (hb : Bts ys) (hlt : b < W.heap.size) (hc : ∀ j, j < ys.length → W.cell? ⟨b, off + j, none⟩ = some (.int .u8 (ys.getD j 0))) (k : Nat) (hk : k + 1 < 11) : TwoAt 33 W (.slice (some ⟨b, off, none⟩) 11 c) k (rdE ys k) :=
  ⟨fun w' h => (numberAt_any b off c 11 k _ _ w' hk (by omega) ((h.cell (p := ⟨b, off + k, none⟩) hlt).trans (hc k (by omega))) ((h.cell (p := ⟨b, off + (k + 1), none⟩) hlt).trans (hc (k + 1) (by omega))) (hb.at (by omega)) (hb.at (by omega))).mono fun e w'' ⟨h1, n, h2⟩ => ⟨h1, by rw [h2]; exact below_drewN' _ _⟩⟩
def headZ : Obj := .cells #[.int .i64 0, .int .i64 0, .int .i64 0, .int .i64 0, .int .i64 0, .int .i64 0] 28
theorem set6 {w w' : World} (h : Below w.heap.size w w') (x0 x1 x2 x3 x4 x5 : Value) : Below w.heap.size w ((((((w'.setCell ⟨w.heap.size, 0, none⟩ x0).setCell ⟨w.heap.size, 1, none⟩ x1).setCell ⟨w.heap.size, 2, none⟩ x2).setCell ⟨w.heap.size, 3, none⟩ x3).setCell ⟨w.heap.size, 4, none⟩ x4).setCell ⟨w.heap.size, 5, none⟩ x5) :=
  (((((h.setCell (Nat.le_refl _) _).setCell (Nat.le_refl _) _).setCell (Nat.le_refl _) _).setCell (Nat.le_refl _) _).setCell (Nat.le_refl _) _).setCell (Nat.le_refl _) _
set_option maxRecDepth 100000 in
set_option maxHeartbeats 4000000 in
theorem specReadHead_any (u : Value) (ys : List Int) (w : World) (hv : Ints .u8 w u ys) (hb : Bts ys) :
    Calls Tryz.prog 10 #[u] w fun x w' => x = .returned (rdV ys) ∧ Below w.heap.size w w' := by
  by_cases hl : ys.length = 11
  · obtain ⟨a, c, rfl⟩ := hv.shape
    obtain ⟨_, b, off, rfl, hlt, hc⟩ := hv.at (by omega)
    obtain ⟨W, hW⟩ : ∃ W, W = w.alloc headZ := ⟨_, rfl⟩
    have hWB : Below w.heap.size w W := by rw [hW]; exact one_new _
    have hltW : b < W.heap.size := Nat.lt_of_lt_of_le hlt hWB.size
    have hcW : ∀ j, j < ys.length → W.cell? ⟨b, off + j, none⟩ = some (.int .u8 (ys.getD j 0)) := fun j hj => (hWB.cell (p := ⟨b, off + j, none⟩) hlt).trans (hc j hj)
    have t1 := twoSpec (c := c) hl hb hltW hcW 1 (by omega)
    have t3 := twoSpec (c := c) hl hb hltW hcW 3 (by omega)
    have t5 := twoSpec (c := c) hl hb hltW hcW 5 (by omega)
    have t7 := twoSpec (c := c) hl hb hltW hcW 7 (by omega)
    have t9 := twoSpec (c := c) hl hb hltW hcW 9 (by omega)
    have z0 := hcW 0 (by omega)
    have A0 : W.heap[w.heap.size]? = some headZ := by rw [hW]; exact heap_alloc_new w _
    have HOK : Hid (ys.getD 0 0 = 7 → rdH ys = 0 → rdV ys = hrV 0 (rdE ys 1) (rdE ys 3) (rdE ys 5) (rdE ys 7) (rdE ys 9)) := fun h0 h1 => rdV_ok ⟨hl, h0, h1⟩
    have HNO : Hid (¬ ys.getD 0 0 = 7 ∨ ¬ rdH ys = 0 → rdV ys = hrV 5 0 0 0 0 0) := fun h => rdV_no fun q => by rcases h with h | h; exact h q.2.1; exact h q.2.2
    have hF := fun (b : Nat) w h => l10Fault_any b 0 (rdE ys 1) (rdE ys 3) (rdE ys 5) (rdE ys 7) (rdE ys 9) w h
    have e1 : hdC (rdE ys 1) (rdE ys 3) (rdE ys 5) (rdE ys 7) (rdE ys 9) = rdH ys := rfl
    rw [e1] at hF
    simp only [Nat.add_zero] at z0
    rw [hl]
    generalize rdE ys 1 = x1 at *
    generalize rdE ys 3 = x3 at *
    generalize rdE ys 5 = x5 at *
    generalize rdE ys 7 = x7 at *
    generalize rdE ys 9 = x9 at *
    generalize rdH ys = q at *
    generalize rdV ys = r at *
    obtain ⟨y0, hy0⟩ : ∃ y0, y0 = ys.getD 0 0 := ⟨_, rfl⟩
    rw [← hy0] at z0 HOK HNO
    have HW : Hid (w.alloc headZ = W) := hW.symm
    rw [hW] at z0
    unfold headZ at z0 HW
    clear hv hb hl hc hcW e1 hy0 hW hlt
    by_cases h7 : y0 = 7
    · subst h7
      have HB1 : Hid (Below w.heap.size w W) := hWB
      clear hWB
      go_enter Tryz.func10, Tryz.ntmps10
      go_wp2_with fail
      rw [HW.out]
      have hcur := Below.refl W.heap.size W
      refine (t1.c _ hcur).mono ?_
      rintro x w1 ⟨rfl, hb1⟩
      have hcur := below_after_of hcur hb1
      clear hb1 z0 t1
      go_wp2_with fail
      refine (t3.c _ hcur).mono ?_
      rintro x w2 ⟨rfl, hb1⟩
      have hcur := below_after_of hcur hb1
      clear hb1 t3
      go_wp2_with fail
      refine (t5.c _ hcur).mono ?_
      rintro x w3 ⟨rfl, hb1⟩
      have hcur := below_after_of hcur hb1
      clear hb1 t5
      go_wp2_with fail
      refine (t7.c _ hcur).mono ?_
      rintro x w4 ⟨rfl, hb1⟩
      have hcur := below_after_of hcur hb1
      clear hb1 t7
      go_wp2_with fail
      refine (t9.c _ hcur).mono ?_
      rintro x w5 ⟨rfl, hb1⟩
      have hcur := below_after_of hcur hb1
      clear hb1 t9
      go_wp2_with fail
      refine (hF _ _ (HdS.new w5 ⟨x1, x3, x5, x7, x9⟩ 26)).mono ?_
      rintro x w6 ⟨rfl, hb6⟩
      have H6 := (hb6.block w5.heap.size (by simp)).trans (heap_alloc_new w5 _)
      have hB6 := below_after_of hcur (below_after hb6)
      have Z6 := (hB6.block w.heap.size (Array.getElem?_eq_some_iff.1 A0).1).trans A0
      obtain ⟨⟨c0, c1, c2, c3, c4, c5⟩, f0, f1, f2, f3, f4, f5⟩ := six_cellsH Z6
      obtain ⟨g0, g1, g2, g3, g4⟩ := five_cells H6
      have HB6 : Hid (Below w.heap.size w w6) := below_after_of HB1.out hB6
      clear hF hb6 hB6 hcur A0 Z6 H6
      by_cases hq : q = 0
      · subst hq
        have HR : Hid (r = hrV 0 x1 x3 x5 x7 x9) := HOK.out (by first | rfl | trivial) (by first | rfl | trivial)
        clear HOK HNO
        go_wp2
        refine bodyPost_ret (v := hrV 0 x1 x3 x5 x7 x9) (by simp [results, Tryz.results10, go_sem, hrV, c0, c1, c2, c3, c4, c5]) rfl ⟨by rw [HR.out], ?_⟩
        exact set6 HB6.out _ _ _ _ _ _
      · have hq1 : (q != 0) = true := by simpa using hq
        have HR : Hid (r = hrV 5 0 0 0 0 0) := HNO.out (Or.inr hq)
        clear HOK HNO hq
        go_wp2
        refine bodyPost_ret (v := hrV 5 0 0 0 0 0) (by simp [results, Tryz.results10, go_sem, hrV, c0, c1, c2, c3, c4, c5]) rfl ⟨by rw [HR.out], ?_⟩
        exact set6 HB6.out _ _ _ _ _ _
    · have h71 : (y0 != 7) = true := by simpa using h7
      have HR : Hid (r = hrV 5 0 0 0 0 0) := HNO.out (Or.inl h7)
      clear HOK HNO h7 t1 t3 t5 t7 t9 hF A0 HW hWB
      go_enter Tryz.func10, Tryz.ntmps10
      go_wp2
      refine bodyPost_ret (v := hrV 5 0 0 0 0 0) (by simp [results, Tryz.results10, go_sem, hrV]) rfl ⟨by rw [HR.out], ?_⟩
      exact one_new _
  · obtain ⟨a, c, rfl⟩ := hv.shape
    rw [rdV_no (fun q => hl q.1)]
    have hd : ((ys.length : Int) != 11) = true := by simp; omega
    generalize ys.length = n at *
    clear hv hb hl
    go_enter Tryz.func10, Tryz.ntmps10
    go_wp2
    refine bodyPost_ret (v := hrV 5 0 0 0 0 0) (by simp [results, Tryz.results10, go_sem, hrV]) rfl ⟨rfl, ?_⟩
    exact one_new _
theorem fieldB1 (c : Int) (v : Value) (w : World) (h : ∃ a n k, v = .slice a n k) : (Instr.field 32 (.agg #[.int .i64 c, v]) 1).run Tryz.prog w = .ok v w := by
  obtain ⟨a, n, k, rfl⟩ := h
  kernel_rfl
set_option maxRecDepth 100000 in
set_option maxHeartbeats 4000000 in
theorem implReadHead_any (u : Value) (ys : List Int) (w : World) (hv : Ints .u8 w u ys) (hb : Bts ys) :
    Calls Tryz.prog 7 #[u] w fun x w' => x = .returned (rdV ys) ∧ Below w.heap.size w w' := by
  by_cases hl : ys.length = 11
  · obtain ⟨a, c, rfl⟩ := hv.shape
    obtain ⟨_, b, off, rfl, hlt, hc⟩ := hv.at (by omega)
    obtain ⟨W, hW⟩ : ∃ W, W = w.alloc headZ := ⟨_, rfl⟩
    have hWB : Below w.heap.size w W := by rw [hW]; exact one_new _
    have hltW : b < W.heap.size := Nat.lt_of_lt_of_le hlt hWB.size
    have hcW : ∀ j, j < ys.length → W.cell? ⟨b, off + j, none⟩ = some (.int .u8 (ys.getD j 0)) := fun j hj => (hWB.cell (p := ⟨b, off + j, none⟩) hlt).trans (hc j hj)
    have t1 := twoImpl (c := c) hl hb hltW hcW 1 (by omega)
    have t3 := twoImpl (c := c) hl hb hltW hcW 3 (by omega)
    have t5 := twoImpl (c := c) hl hb hltW hcW 5 (by omega)
    have t7 := twoImpl (c := c) hl hb hltW hcW 7 (by omega)
    have t9 := twoImpl (c := c) hl hb hltW hcW 9 (by omega)
    have A0 : W.heap[w.heap.size]? = some headZ := by rw [hW]; exact heap_alloc_new w _
    have HOK : Hid (rdOk ys → rdV ys = hrV 0 (rdE ys 1) (rdE ys 3) (rdE ys 5) (rdE ys 7) (rdE ys 9)) := fun h => rdV_ok h
    have HNO : Hid (¬ rdOk ys → rdV ys = hrV 5 0 0 0 0 0) := fun h => rdV_no h
    have hF := fun w => implPackHead_any (rdE ys 1) (rdE ys 3) (rdE ys 5) (rdE ys 7) (rdE ys 9) w
    have hsame := rd_same hl hb
    have HI : Hid (Ints .u8 W (.slice (some ⟨b, off, none⟩) ys.length c) ys) := hv.below hWB
    have hEq := fun u2 w' hu2 hu => bytesEqual_any u2 (.slice (some ⟨b, off, none⟩) ys.length c) (hdL (rdE ys 1) (rdE ys 3) (rdE ys 5) (rdE ys 7) (rdE ys 9)) ys w' hu2 hu (hdL_bts _ _ _ _ _) hb
    rw [hl] at HI hEq ⊢
    generalize hdL (rdE ys 1) (rdE ys 3) (rdE ys 5) (rdE ys 7) (rdE ys 9) = zs at *
    generalize hdC (rdE ys 1) (rdE ys 3) (rdE ys 5) (rdE ys 7) (rdE ys 9) = q at *
    generalize rdE ys 1 = x1 at *
    generalize rdE ys 3 = x3 at *
    generalize rdE ys 5 = x5 at *
    generalize rdE ys 7 = x7 at *
    generalize rdE ys 9 = x9 at *
    generalize rdV ys = r at *
    have HD : Hid (decide (zs = ys) = true → r = hrV 0 x1 x3 x5 x7 x9) := fun h => HOK.out (hsame.1 (of_decide_eq_true h))
    have HE : Hid (decide (zs = ys) = false → r = hrV 5 0 0 0 0 0) := fun h => HNO.out (fun k => by simp at h; exact h (hsame.2 k))
    have HW : Hid (w.alloc headZ = W) := hW.symm
    unfold headZ at HW
    unfold hdV at *
    have HB1 : Hid (Below w.heap.size w W) := hWB
    clear hv hb hl hc hcW hW hlt hsame HOK HNO hWB
    generalize decide (zs = ys) = B at *
    go_enter Tryz.func7, Tryz.ntmps7
    go_wp2_with fail
    rw [HW.out]
    have hcur := Below.refl W.heap.size W
    refine (t1.c _ hcur).mono ?_
    rintro x w1 ⟨rfl, hb1⟩
    have hcur := below_after_of hcur hb1
    clear hb1 t1
    go_wp2_with fail
    refine (t3.c _ hcur).mono ?_
    rintro x w2 ⟨rfl, hb1⟩
    have hcur := below_after_of hcur hb1
    clear hb1 t3
    go_wp2_with fail
    refine (t5.c _ hcur).mono ?_
    rintro x w3 ⟨rfl, hb1⟩
    have hcur := below_after_of hcur hb1
    clear hb1 t5
    go_wp2_with fail
    refine (t7.c _ hcur).mono ?_
    rintro x w4 ⟨rfl, hb1⟩
    have hcur := below_after_of hcur hb1
    clear hb1 t7
    go_wp2_with fail
    refine (t9.c _ hcur).mono ?_
    rintro x w5 ⟨rfl, hb1⟩
    have hcur := below_after_of hcur hb1
    clear hb1 t9
    go_wp2_with fail
    refine (hF _).mono ?_
    intro x w6 h6
    obtain ⟨a6, k6, rfl, hb6, ho6⟩ := h6.use
    have kf := fun w => fieldB1 q (.slice a6 zs.length k6) w ⟨_, _, _, rfl⟩
    have H6 := (hb6.block w5.heap.size (by simp)).trans (heap_alloc_new w5 _)
    have hB6 := below_after_of hcur (below_after hb6)
    have Z6 := (hB6.block w.heap.size (Array.getElem?_eq_some_iff.1 A0).1).trans A0
    have hE6 := hEq _ _ (own_ints ho6) (HI.out.below hB6)
    obtain ⟨⟨c0, c1, c2, c3, c4, c5⟩, f0, f1, f2, f3, f4, f5⟩ := six_cellsH Z6
    obtain ⟨g0, g1, g2, g3, g4⟩ := five_cells H6
    have HB6 : Hid (Below w.heap.size w w6) := below_after_of HB1.out hB6
    clear hF hb6 hB6 hcur A0 Z6 H6 hEq ho6 h6
    generalize zs.length = zn at *
    go_wp2_with fail
    refine hE6.mono ?_
    rintro x w7 ⟨rfl, h7⟩
    rw [h7]
    clear hE6 h7
    rcases B with _ | _
    · have HR : Hid (r = hrV 5 0 0 0 0 0) := HE.out rfl
      clear HD HE
      go_wp2
      refine bodyPost_ret (v := hrV 5 0 0 0 0 0) (by simp [results, Tryz.results7, go_sem, hrV, c0, c1, c2, c3, c4, c5]) rfl ⟨by rw [HR.out], ?_⟩
      exact set6 HB6.out _ _ _ _ _ _
    · have HR : Hid (r = hrV 0 x1 x3 x5 x7 x9) := HD.out rfl
      clear HD HE
      go_wp2
      refine bodyPost_ret (v := hrV 0 x1 x3 x5 x7 x9) (by simp [results, Tryz.results7, go_sem, hrV, c0, c1, c2, c3, c4, c5]) rfl ⟨by rw [HR.out], ?_⟩
      exact set6 HB6.out _ _ _ _ _ _
  · obtain ⟨a, c, rfl⟩ := hv.shape
    rw [rdV_no (fun q => hl q.1)]
    have hd : ((ys.length : Int) != 11) = true := by simp; omega
    generalize ys.length = n at *
    clear hv hb hl
    go_enter Tryz.func7, Tryz.ntmps7
    go_wp2
    refine bodyPost_ret (v := hrV 5 0 0 0 0 0) (by simp [results, Tryz.results7, go_sem, hrV]) rfl ⟨rfl, ?_⟩
    exact one_new _
end U
end Go.Proofs.YtpelafkjnmcdgaaGreat

/- Heads in a row: how they read; the fault of a chain, as mathematics. -/
namespace Go.Proofs.YtpelafkjnmcdgaaGreat
open Go.RowKit
namespace U
/-- A slice value reads as a list of heads. -/
def Hds (w : World) (v : Value) (l : Hdl) : Prop :=
  (l = [] ∧ ∃ a c, v = .slice a 0 c) ∨ ∃ b off c, v = .slice (some ⟨b, off, none⟩) l.length c ∧ b < w.heap.size ∧ ∀ j, j < l.length → HdS w b (off + j * 5) (hAt l j)
theorem Hds.below {w w' : World} {v : Value} {l : Hdl} (h : Hds w v l) (hb : Below w.heap.size w w') : Hds w' v l := by
  rcases h with h | ⟨b, off, c, rfl, hlt, hc⟩
  · exact Or.inl h
  · exact Or.inr ⟨b, off, c, rfl, Nat.lt_of_lt_of_le hlt hb.size, fun j hj => (hc j hj).below hb hlt⟩
theorem Hds.shape {w : World} {v : Value} {l : Hdl} (h : Hds w v l) : ∃ a c, v = .slice a l.length c := by
  rcases h with ⟨rfl, a, c, rfl⟩ | ⟨b, off, c, rfl, _⟩
  · exact ⟨a, c, rfl⟩
  · exact ⟨_, c, rfl⟩
theorem Hds.at {w : World} {a : Option Addr} {n c : Nat} {l : Hdl} (h : Hds w (.slice a n c) l) (h0 : 0 < l.length) : n = l.length ∧ ∃ b off, a = some ⟨b, off, none⟩ ∧ b < w.heap.size ∧ ∀ j, j < l.length → HdS w b (off + j * 5) (hAt l j) := by
  rcases h with ⟨rfl, _⟩ | ⟨b, off, c', e, h1, h2⟩
  · simp at h0
  · cases e
    exact ⟨rfl, b, off, rfl, h1, h2⟩
theorem Hds.nil (w : World) (a : Option Addr) (c : Nat) : Hds w (.slice a 0 c) [] := Or.inl ⟨rfl, a, c, rfl⟩
/-- The cells of heads. -/
def flH (l : Hdl) : List Value := l.flatMap fun r => [.int .i64 r.e, .int .i64 r.p, .int .i64 r.o, .int .i64 r.n, .int .i64 r.v]
theorem flH_len (l : Hdl) : (flH l).length = l.length * 5 := by
  unfold flH
  induction l with
  | nil => rfl
  | cons p t ih => rw [List.flatMap_cons, List.length_append, ih]; simp; omega
theorem flH_app (l m : Hdl) : flH (l ++ m) = flH l ++ flH m := by unfold flH; rw [List.flatMap_append]
theorem flH_at (l : Hdl) : ∀ (j : Nat), j < l.length → (flH l)[j * 5]? = some (.int .i64 (hAt l j).e) ∧ (flH l)[j * 5 + 1]? = some (.int .i64 (hAt l j).p) ∧ (flH l)[j * 5 + 2]? = some (.int .i64 (hAt l j).o) ∧ (flH l)[j * 5 + 3]? = some (.int .i64 (hAt l j).n) ∧ (flH l)[j * 5 + 4]? = some (.int .i64 (hAt l j).v) := by
  induction l with
  | nil => intro j h; simp at h
  | cons p t ih =>
    intro j h
    unfold flH
    rw [List.flatMap_cons]
    cases j with
    | zero => simp [hAt]
    | succ j =>
      have := ih j (by simpa using h)
      unfold flH at this
      rw [show (j + 1) * 5 = j * 5 + 1 + 1 + 1 + 1 + 1 by omega]
      simpa [hAt] using this
/-- A row of one's own reads as a list of heads. -/
theorem own_hds {w : World} {B : Nat} {e : TypeId} {v : Value} {l : Hdl} (h : w.ownsRow B e 5 v l.length (flH l)) : Hds w v l := by
  rcases h.2 with ⟨rfl, hn⟩ | ⟨g, cap, cur, rfl, hB, hg, hc, hm, _⟩
  · have : l = [] := List.eq_nil_of_length_eq_zero hn
    subst this
    exact Hds.nil _ _ _
  · refine Or.inr ⟨g, 0, cap, rfl, (Array.getElem?_eq_some_iff.1 hg).1, fun j hj => ?_⟩
    have h5 := flH_at l j hj
    have q := fun i (hi : i < l.length * 5) => h.cellAt i (by omega)
    refine ⟨?_, ?_, ?_, ?_, ?_⟩
    · rw [Nat.zero_add, q _ (by omega)]; exact h5.1
    · rw [Nat.zero_add, q _ (by omega)]; exact h5.2.1
    · rw [Nat.zero_add, q _ (by omega)]; exact h5.2.2.1
    · rw [Nat.zero_add, q _ (by omega)]; exact h5.2.2.2.1
    · rw [Nat.zero_add, q _ (by omega)]; exact h5.2.2.2.2
theorem own_hds' {w : World} {B n : Nat} {e : TypeId} {v : Value} {l : Hdl} (hn : n = l.length) (h : w.ownsRow B e 5 v n (flH l)) : Hds w v l := by subst hn; exact own_hds h
/-- Its fault, its sum. -/
def Hd.c (h : Hd) : Int := hdC h.e h.p h.o h.n h.v
def Hd.s (h : Hd) : Int := hdS h.e h.p h.o h.n h.v
/-- The phase and the sum ahead of a place. -/
def phA (l : Hdl) : Nat → Int
  | 0 => 1
  | j + 1 => (hAt l j).p
def smA (l : Hdl) : Nat → Int
  | 0 => 0
  | j + 1 => (hAt l j).s
/-- Whether a head fits behind a phase and a sum, at a place. -/
def lnk (h : Hd) (e ph s : Int) : Int := if h.e = e then (if h.v = s then (if folB ph h.p = true then 0 else 10) else 9) else 1
theorem lnk_e {h : Hd} {e ph s : Int} (h1 : ¬ h.e = e) : lnk h e ph s = 1 := if_neg h1
theorem lnk_v {h : Hd} {e ph s : Int} (h1 : h.e = e) (h2 : ¬ h.v = s) : lnk h e ph s = 9 := by unfold lnk; rw [if_pos h1, if_neg h2]
theorem lnk_p {h : Hd} {e ph s : Int} (h1 : h.e = e) (h2 : h.v = s) (h3 : folB ph h.p = false) : lnk h e ph s = 10 := by unfold lnk; rw [if_pos h1, if_pos h2, h3]; rfl
theorem lnk_ok {h : Hd} {e ph s : Int} (h1 : h.e = e) (h2 : h.v = s) (h3 : folB ph h.p = true) : lnk h e ph s = 0 := by unfold lnk; rw [if_pos h1, if_pos h2, h3]; rfl
def lnkA (l : Hdl) (i : Nat) : Int := lnk (hAt l i) ((i : Int) + 1) (phA l i) (smA l i)
/-- The fault of the heads from a place on. -/
def scanH (l : Hdl) : Nat → Nat → Int
  | 0, _ => 0
  | f + 1, i => if (hAt l i).c = 0 then (if lnkA l i = 0 then scanH l f (i + 1) else lnkA l i) else (hAt l i).c
theorem scanH_fault {l : Hdl} {f i : Nat} (h : ¬ (hAt l i).c = 0) : scanH l (f + 1) i = (hAt l i).c := by rw [scanH, if_neg h]
theorem scanH_link {l : Hdl} {f i : Nat} (h : (hAt l i).c = 0) (h1 : ¬ lnkA l i = 0) : scanH l (f + 1) i = lnkA l i := by rw [scanH, if_pos h, if_neg h1]
theorem scanH_step {l : Hdl} {f i : Nat} (h : (hAt l i).c = 0) (h1 : lnkA l i = 0) : scanH l (f + 1) i = scanH l f (i + 1) := by rw [scanH, if_pos h, if_pos h1]
/-- The fault of a chain. -/
def chF (l : Hdl) : Int := if 10 < l.length then 2 else scanH l l.length 0
theorem chF_many {l : Hdl} (h : 10 < l.length) : chF l = 2 := if_pos h
theorem chF_scan {l : Hdl} (h : ¬ 10 < l.length) : chF l = scanH l l.length 0 := if_neg h
end U
end Go.Proofs.YtpelafkjnmcdgaaGreat

/- The fault of a chain of heads, as both models tell it. -/
namespace Go.Proofs.YtpelafkjnmcdgaaGreat
open Go.RowKit
namespace U
def lnkI (h : Hd) (e ph s : Int) : Int := if h.e = e then (if h.v = s then (if mfB ph h.p = true then 0 else 10) else 9) else 1
theorem lnkI_eq {h : Hd} {e ph s : Int} (hc : h.c = 0) (hp : inB ph 1 5 = true) : lnkI h e ph s = lnk h e ph s := by
  have hok := hdOk hc
  have : mfB ph h.p = folB ph h.p := by unfold mfB; rw [hp, inB_t hok.p0 hok.p1]; simp
  unfold lnkI lnk
  rw [this]
set_option maxRecDepth 100000 in
set_option maxHeartbeats 1000000 in
theorem linkFault_any (e p o n v ep ph s : Int) (w : World) :
    Calls Tryz.prog 63 #[hdV e p o n v, .int .i64 ep, .int .i64 ph, .int .i64 s] w fun x w' => x = .returned (.int .i64 (lnkI ⟨e, p, o, n, v⟩ ep ph s)) ∧ Below w.heap.size w w' := by
  have hM := fun w => implMayFollow_any ph p w
  unfold lnkI hdV
  dsimp only
  by_cases h1 : e = ep
  · rw [if_pos h1]
    have g1 : (e != ep) = false := by simpa using h1
    by_cases h2 : v = s
    · rw [if_pos h2]
      have g2 : (v != s) = false := by simpa using h2
      clear h1 h2
      rcases Bool.eq_false_or_eq_true (mfB ph p) with h3 | h3
      · rw [h3] at hM ⊢
        go_enter Tryz.func63, Tryz.ntmps63
        go_wp2_with fail
        refine (hM _).mono ?_
        rintro x wq ⟨rfl, rfl⟩
        go_wp2
        go_ret
        exact ⟨rfl, one_new _⟩
      · rw [h3] at hM ⊢
        go_enter Tryz.func63, Tryz.ntmps63
        go_wp2_with fail
        refine (hM _).mono ?_
        rintro x wq ⟨rfl, rfl⟩
        go_wp2
        go_ret
        exact ⟨rfl, one_new _⟩
    · rw [if_neg h2]
      have g2 : (v != s) = true := by simpa using h2
      clear h1 h2
      go_enter Tryz.func63, Tryz.ntmps63
      go_wp2
      go_ret
      exact ⟨rfl, one_new _⟩
  · rw [if_neg h1]
    have g1 : (e != ep) = true := by simpa using h1
    clear h1
    go_enter Tryz.func63, Tryz.ntmps63
    go_wp2
    go_ret
    exact ⟨rfl, one_new _⟩
theorem two_intsH {w : World} {g : Nat} {a b : Int} {t : TypeId} (hg : g = w.heap.size) : Ints .i64 (w.alloc (.cells #[.int .i64 a, .int .i64 b] t)) (.slice (some ⟨g, 0, none⟩) 2 2) [a, b] := by
  subst hg
  have hh := heap_alloc_new w (.cells #[.int .i64 a, .int .i64 b] t)
  refine Or.inr ⟨w.heap.size, 0, 2, rfl, by simp, fun j hj => ?_⟩
  have hj2 : j < 2 := hj
  rcases (show j = 0 ∨ j = 1 by omega) with rfl | rfl <;> (unfold World.cell?; rw [hh]; rfl)
theorem fieldI1 (x y : Int) (w : World) : (Instr.field 37 (.agg #[.int .i64 x, .int .i64 y]) 1).run Tryz.prog w = .ok (.int .i64 y) w := by kernel_rfl
set_option maxRecDepth 100000 in
set_option maxHeartbeats 4000000 in
theorem implChain_core (b off c n : Nat) (l : Hdl) (w : World) (hn : n ≤ 10) (hb : b < w.heap.size) (hc : ∀ j, j < n → HdS w b (off + j * 5) (hAt l j)) :
    Calls Tryz.prog 23 #[.slice (some ⟨b, off, none⟩) n c] w fun x w' => x = .returned (.int .i64 (scanH l n 0)) ∧ Below w.heap.size w w' := by
  obtain ⟨q, hq⟩ : ∃ q, q = scanH l n 0 := ⟨_, rfl⟩
  have HQ : Hid (scanH l n 0 = q) := hq.symm
  rw [← hq]
  clear hq
  go_enter Tryz.func23, Tryz.ntmps23
  go_wp2
  go_loopw [3, 4, 13] (fun ph sm i wr => ∃ k : Nat, k ≤ n ∧ i = .int .i64 k ∧ ph = .int .i64 (phA l k) ∧ sm = .int .i64 (smA l k) ∧ Hid (Below w.heap.size w wr) ∧ Hid (scanH l (n - k) k = q) ∧ Hid (inB (phA l k) 1 5 = true)) (fun _ _ i _ => n - (intOf i).toNat)
  case atStart => exact ⟨0, Nat.zero_le _, rfl, rfl, rfl, Below.refl _ _, HQ, (show inB 1 1 5 = true by decide)⟩
  case round =>
    obtain ⟨k, hk, rfl, rfl, rfl, hB, HS, HP⟩ := hrel
    by_cases hkn : k < n
    · have hki : (k : Int) < (n : Int) := by omega
      obtain ⟨d0, d1, d2, d3, d4⟩ := (hc k hkn).below hB.out hb
      have HSN : Hid (n - k = (n - k - 1) + 1) := (by omega : n - k = (n - k - 1) + 1)
      have hw1 : IntKind.i64.wrap ((k : Int) + 1) = (k : Int) + 1 := by rw [IntKind.wrap_i64]; omega
      have hF := fun w => implHeadFault_any (hAt l k).e (hAt l k).p (hAt l k).o (hAt l k).n (hAt l k).v w
      have hL := fun w => linkFault_any (hAt l k).e (hAt l k).p (hAt l k).o (hAt l k).n (hAt l k).v ((k : Int) + 1) (phA l k) (smA l k) w
      have hSm := fun w => implHeadSum_any (hAt l k).e (hAt l k).p (hAt l k).o (hAt l k).n (hAt l k).v w
      have e1 : hdC (hAt l k).e (hAt l k).p (hAt l k).o (hAt l k).n (hAt l k).v = (hAt l k).c := rfl
      have e2 : lnkI ⟨(hAt l k).e, (hAt l k).p, (hAt l k).o, (hAt l k).n, (hAt l k).v⟩ ((k : Int) + 1) (phA l k) (smA l k) = lnkI (hAt l k) ((k : Int) + 1) (phA l k) (smA l k) := rfl
      rw [e1] at hF hSm
      rw [e2] at hL
      have hOr := fun v w hv => cmpOr2 (hAt l k).c (lnkI (hAt l k) ((k : Int) + 1) (phA l k) (smA l k)) v w hv
      obtain ⟨r, hr⟩ : ∃ r, r = (if (hAt l k).c = 0 then lnkI (hAt l k) ((k : Int) + 1) (phA l k) (smA l k) else (hAt l k).c) := ⟨_, rfl⟩
      rw [← hr] at hOr
      have HZ : Hid (r = 0 → (hAt l k).c = 0 ∧ scanH l (n - k - 1) (k + 1) = q ∧ hdSv (hAt l k).e (hAt l k).p (hAt l k).o (hAt l k).n (hAt l k).v = smA l (k + 1) ∧ inB (phA l (k + 1)) 1 5 = true) := by
        intro h0
        by_cases hc0 : (hAt l k).c = 0
        · rw [if_pos hc0] at hr
          have hl0 : lnkA l k = 0 := by unfold lnkA; rw [← lnkI_eq hc0 HP.out, ← hr, h0]
          refine ⟨hc0, by rw [← HS.out, HSN.out]; exact (scanH_step hc0 hl0).symm, ?_, ?_⟩
          · rw [hdSv_ok hc0]; rfl
          · have := hdOk hc0; exact inB_t this.p0 this.p1
        · rw [if_neg hc0] at hr
          exact absurd (hr.symm.trans h0) hc0
      have HNZ : Hid (¬ r = 0 → q = r) := by
        intro h0
        rw [← HS.out, HSN.out]
        by_cases hc0 : (hAt l k).c = 0
        · rw [if_pos hc0] at hr
          have hl1 : lnkA l k = r := by unfold lnkA; rw [← lnkI_eq hc0 HP.out, hr]
          rw [scanH_link hc0 (by rw [hl1]; exact h0), hl1]
        · rw [if_neg hc0] at hr
          rw [scanH_fault hc0, hr]
      have HA : Hid (phA l (k + 1) = (hAt l k).p) := rfl
      generalize lnkI (hAt l k) ((k : Int) + 1) (phA l k) (smA l k) = lk at *
      generalize hdSv (hAt l k).e (hAt l k).p (hAt l k).o (hAt l k).n (hAt l k).v = sv at *
      generalize (hAt l k).c = cz at *
      generalize (hAt l k).e = x0 at *
      generalize (hAt l k).p = x1 at *
      generalize (hAt l k).o = x2 at *
      generalize (hAt l k).n = x3 at *
      generalize (hAt l k).v = x4 at *
      generalize phA l k = ph at *
      generalize smA l k = sm at *
      obtain ⟨W, hW⟩ : ∃ W, W = wr.alloc (.cells #[.int .i64 x0, .int .i64 x1, .int .i64 x2, .int .i64 x3, .int .i64 x4] 26) := ⟨_, rfl⟩
      have HW : Hid (wr.alloc (.cells #[.int .i64 x0, .int .i64 x1, .int .i64 x2, .int .i64 x3, .int .i64 x4] 26) = W) := hW.symm
      have HWB : Hid (Below w.heap.size w W) := (by rw [hW]; exact hB.out.alloc hB.out.size _ : Below w.heap.size w W)
      have hWH : W.heap[wr.heap.size]? = some (.cells #[.int .i64 x0, .int .i64 x1, .int .i64 x2, .int .i64 x3, .int .i64 x4] 26) := by rw [hW]; exact heap_alloc_new wr _
      have hbr : b < wr.heap.size := Nat.lt_of_lt_of_le hb hB.out.size
      have HCC : Hid (∀ w', Below W.heap.size W w' → w'.cell? ⟨wr.heap.size, 0, none⟩ = some (.int .i64 x0) ∧ w'.cell? ⟨wr.heap.size, 1, none⟩ = some (.int .i64 x1) ∧ w'.cell? ⟨wr.heap.size, 2, none⟩ = some (.int .i64 x2) ∧ w'.cell? ⟨wr.heap.size, 3, none⟩ = some (.int .i64 x3) ∧ w'.cell? ⟨wr.heap.size, 4, none⟩ = some (.int .i64 x4)) :=
        fun w' h => five_cells ((h.block _ (Array.getElem?_eq_some_iff.1 hWH).1).trans hWH)
      have hcur := Below.refl W.heap.size W
      obtain ⟨g0, g1, g2, g3, g4⟩ := HCC.out _ hcur
      unfold hdV at *
      clear hc hr e1 e2 hW hWH HS HSN HP
      go_wp2_with fail
      rw [HW.out]
      go_region_held3 (fun w' => w'.cell? ⟨wr.heap.size, 0, none⟩ = some (.int .i64 x0) ∧ w'.cell? ⟨wr.heap.size, 1, none⟩ = some (.int .i64 x1) ∧ w'.cell? ⟨wr.heap.size, 2, none⟩ = some (.int .i64 x2) ∧ w'.cell? ⟨wr.heap.size, 3, none⟩ = some (.int .i64 x3) ∧ w'.cell? ⟨wr.heap.size, 4, none⟩ = some (.int .i64 x4))
        (first | with_reducible exact ⟨g0, g1, g2, g3, g4⟩ | with_reducible exact HCC.out _ hcur | with_reducible exact HCC.out _ hcur.drew | with_reducible exact HCC.out _ (hcur.alloc hcur.size _))
        (first
          | (go_at_call 13; refine (hF _).mono ?_; rintro e w2 ⟨rfl, hb2⟩; have hcur : Below W.heap.size W w2 := (by first | exact below_after_of hcur hb2 | exact below_after_of hcur.drew hb2))
          | (go_at_call 63; refine (hL _).mono ?_; rintro e w3 ⟨rfl, hb3⟩; have hcur : Below W.heap.size W w3 := (by first | exact below_after_of hcur hb3 | exact below_after_of hcur.drew hb3))
          | (go_at_call 47; refine (hOr _ _ (two_intsH rfl)).mono ?_; rintro e w4 ⟨rfl, hw4⟩; have hcur : Below W.heap.size W w4 := (by rw [hw4]; exact hcur.alloc hcur.size _); clear hw4))
      clear g0 g1 g2 g3 g4 hF hL hOr
      obtain ⟨g0, g1, g2, g3, g4⟩ := HCC.out _ hcur
      have HB4 : Hid (Below w.heap.size w w4) := below_after_of HWB.out hcur
      clear HCC hcur HW HWB
      by_cases hr0 : r = 0
      · subst hr0
        obtain ⟨hz1, hz2, hz3, hz4⟩ := HZ.out rfl
        have HZ2 : Hid (scanH l (n - k - 1) (k + 1) = q) := hz2
        have HZ3 : Hid (sv = smA l (k + 1)) := hz3
        have HZ4 : Hid (inB (phA l (k + 1)) 1 5 = true) := hz4
        have q0 := After.cell g0
        have q1 := After.cell g1
        have q2 := After.cell g2
        have q3 := After.cell g3
        have q4 := After.cell g4
        have hne := After.ne w4
        have kf := fun w => fieldI1 cz sv w
        clear HZ HNZ hz1 hz2 hz3 hz4 g0 g1 g2 g3 g4
        go_wp2_with fail
        refine wp_region_after (by kernel_rfl) (by kernel_rfl) ?_
        repeat (first | go_big_quiet_skip | (go_big_quiet_want; go_big_quiet_op; first | go_big_quiet_on | go_big_quiet_call (first | (go_at_call 14; refine (hSm _).mono ?_; rintro e wq ⟨rfl, hbq⟩; exact ⟨rfl, after_mk (below_after_of (After.b _) hbq)⟩))))
        refine wpQuiet_nil ?_
        rintro _ ⟨n6, rfl⟩
        have HB6 : Hid (Below w.heap.size w n6.w) := below_after_of HB4.out n6.b
        generalize n6.w = w6 at *
        clear hne q0 q1 q2 q3 q4 kf hSm
        go_wp2
        go_roundw
        case rel => exact ⟨k + 1, by omega, by go_num, by rw [HA.out], by rw [HZ3.out], HB6, by rw [show n - (k + 1) = n - k - 1 by omega]; exact HZ2, HZ4⟩
        case measure => simp [intOf]; omega
      · have hr1 : (r != 0) = true := by simpa using hr0
        have HX : Hid (q = r) := HNZ.out hr0
        clear HZ HNZ hr0 hSm
        go_wp2
        go_ret
        exact ⟨ret_int HX.out.symm, HB4.out⟩
    · have hkn : k = n := by omega
      subst hkn
      have e0 : Hid (q = 0) := (by rw [← HS.out, Nat.sub_self]; rfl : q = 0)
      clear hc
      go_wp2
      go_ret
      exact ⟨ret_int e0.out.symm, hB.out⟩
set_option maxRecDepth 100000 in
set_option maxHeartbeats 1000000 in
theorem implChainFault_any (v : Value) (l : Hdl) (w : World) (hv : Hds w v l) (hx : l.length ≤ 1099511627776) :
    Calls Tryz.prog 23 #[v] w fun e w' => e = .returned (.int .i64 (chF l)) ∧ Below w.heap.size w w' := by
  obtain ⟨a, c, rfl⟩ := hv.shape
  by_cases h : 10 < l.length
  · rw [chF_many h]
    generalize l.length = n at *
    clear hv
    go_enter Tryz.func23, Tryz.ntmps23
    go_wp2
    go_ret
    exact ⟨rfl, Below.refl _ _⟩
  · rw [chF_scan h]
    by_cases h0 : 0 < l.length
    · obtain ⟨_, b, off, rfl, hb, hc⟩ := hv.at h0
      exact implChain_core b off c l.length l w (by omega) hb hc
    · have e1 : l = [] := List.eq_nil_of_length_eq_zero (by omega)
      subst e1
      simp only [List.length_nil]
      have e2 : scanH [] 0 0 = 0 := rfl
      rw [e2]
      clear hv h0 hx h e2
      go_enter Tryz.func23, Tryz.ntmps23
      go_wp2
      refine wp_loop_rounds 1 ?_; rw [rounds_succ]
      go_wp2
      go_ret
      exact ⟨rfl, Below.refl _ _⟩
/-- What a head's place tells of it. -/
def lkS (l : Hdl) (i : Nat) : Int := if (hAt l i).c = 0 then lnkA l i else (hAt l i).c
theorem lkS_c {l : Hdl} {i : Nat} (h : ¬ (hAt l i).c = 0) : lkS l i = (hAt l i).c := if_neg h
theorem lkS_k {l : Hdl} {i : Nat} (h : (hAt l i).c = 0) : lkS l i = lnkA l i := if_pos h
theorem scanH_lk {l : Hdl} {f i : Nat} : scanH l (f + 1) i = if lkS l i = 0 then scanH l f (i + 1) else lkS l i := by
  by_cases h : (hAt l i).c = 0
  · rw [lkS_k h]
    by_cases h1 : lnkA l i = 0
    · rw [if_pos h1, scanH_step h h1]
    · rw [if_neg h1, scanH_link h h1]
  · rw [lkS_c h, if_neg h, scanH_fault h]
set_option maxRecDepth 100000 in
set_option maxHeartbeats 4000000 in
theorem l10Link_any (b off c n k : Nat) (l : Hdl) (w : World) (hn : n ≤ 10) (hb : b < w.heap.size) (hk : k < n) (hc : ∀ j, j < n → HdS w b (off + j * 5) (hAt l j)) (hp : 0 < k → (hAt l (k - 1)).c = 0) :
    Calls Tryz.prog 91 #[.slice (some ⟨b, off, none⟩) n c, .int .i64 k] w fun x w' => x = .returned (.int .i64 (lkS l k)) ∧ Below w.heap.size w w' := by
  have hki : (k : Int) < (n : Int) := by omega
  have hF := l10Fault_any b (off + k * 5) (hAt l k).e (hAt l k).p (hAt l k).o (hAt l k).n (hAt l k).v w (hc k hk)
  have e1 : hdC (hAt l k).e (hAt l k).p (hAt l k).o (hAt l k).n (hAt l k).v = (hAt l k).c := rfl
  rw [e1] at hF
  have hR := hc k hk
  by_cases h0 : (hAt l k).c = 0
  · rw [lkS_k h0]
    rw [h0] at hF
    have hw1 : IntKind.i64.wrap ((k : Int) + 1) = (k : Int) + 1 := by rw [IntKind.wrap_i64]; omega
    have HE : Hid (¬ (hAt l k).e = (k : Int) + 1 → lnkA l k = 1) := fun h => lnk_e h
    have HV : Hid ((hAt l k).e = (k : Int) + 1 → ¬ (hAt l k).v = smA l k → lnkA l k = 9) := fun h h1 => lnk_v h h1
    have HPh : Hid ((hAt l k).e = (k : Int) + 1 → (hAt l k).v = smA l k → folB (phA l k) (hAt l k).p = false → lnkA l k = 10) := fun h h1 h2 => lnk_p h h1 h2
    have HK : Hid ((hAt l k).e = (k : Int) + 1 → (hAt l k).v = smA l k → folB (phA l k) (hAt l k).p = true → lnkA l k = 0) := fun h h1 h2 => lnk_ok h h1 h2
    have hFo := fun w => l10Follow_any (phA l k) (hAt l k).p w
    generalize lnkA l k = q at *
    have HSM : Hid (0 < k → ∀ w', Below w.heap.size w w' → Calls Tryz.prog 90 #[.pointer (some ⟨b, off + (k - 1) * 5, none⟩)] w' fun x w'' => x = .returned (.int .i64 (smA l k)) ∧ Below w'.heap.size w' w'') := by
      intro h w' hb'
      have e2 : smA l k = (hAt l (k - 1)).s := by rcases k with _ | m; omega; rfl
      rw [e2]
      exact l10Sum_any b (off + (k - 1) * 5) _ _ _ _ _ w' ((hc (k - 1) (by omega)).below hb' hb) (hdOk (hp h))
    have HPP : Hid (0 < k → ∀ w', Below w.heap.size w w' → w'.cell? ⟨b, off + (k - 1) * 5 + 1, none⟩ = some (.int .i64 (phA l k))) := by
      intro h w' hb'
      have e2 : phA l k = (hAt l (k - 1)).p := by rcases k with _ | m; omega; rfl
      rw [e2]
      exact ((hc (k - 1) (by omega)).below hb' hb).c1
    have HZ : Hid (k = 0 → smA l k = 0 ∧ phA l k = 1) := fun h => by subst h; exact ⟨rfl, rfl⟩
    have HRC : Hid (∀ w', Below w.heap.size w w' → w'.cell? ⟨b, off + k * 5, none⟩ = some (.int .i64 (hAt l k).e) ∧ w'.cell? ⟨b, off + k * 5 + 1, none⟩ = some (.int .i64 (hAt l k).p) ∧ w'.cell? ⟨b, off + k * 5 + 4, none⟩ = some (.int .i64 (hAt l k).v)) :=
      fun w' h => ⟨(hR.below h hb).c0, (hR.below h hb).c1, (hR.below h hb).c4⟩
    generalize smA l k = sm at *
    generalize phA l k = ph at *
    generalize (hAt l k).e = x0 at *
    generalize (hAt l k).v = x4 at *
    generalize (hAt l k).p = x1 at *
    clear hc h0 e1 hR hp
    have hcase : ∃ B0 B1 B2 : Bool, (x0 != (k : Int) + 1) = B0 ∧ (x4 != sm) = B1 ∧ folB ph x1 = B2 ∧ Hid (q = if B0 = true then 1 else if B1 = true then 9 else if B2 = true then 0 else 10) := by
      refine ⟨_, _, _, rfl, rfl, rfl, ?_⟩
      by_cases a1 : x0 = (k : Int) + 1
      · have g1 : (x0 != (k : Int) + 1) = false := by simpa using a1
        rw [g1]
        by_cases a2 : x4 = sm
        · have g2 : (x4 != sm) = false := by simpa using a2
          rw [g2]
          rcases Bool.eq_false_or_eq_true (folB ph x1) with a3 | a3
          · rw [a3]; exact HK.out a1 a2 a3
          · rw [a3]; exact HPh.out a1 a2 a3
        · have g2 : (x4 != sm) = true := by simpa using a2
          rw [g2]; exact HV.out a1 a2
      · have g1 : (x0 != (k : Int) + 1) = true := by simpa using a1
        rw [g1]; exact HE.out a1
    obtain ⟨B0, B1, B2, g1, g2, g3, HX⟩ := hcase
    clear HE HV HPh HK
    rw [g3] at hFo
    clear g3
    rcases k with _ | m
    · rcases B0 with _ | _ <;> rcases B1 with _ | _ <;> rcases B2 with _ | _
      all_goals (
        obtain ⟨hz1, hz2⟩ := HZ.out rfl
        subst hz1 hz2
        have hg0 : decide (((0 : Nat) : Int) > 0) = false := by simp
        simp only [Nat.zero_mul, Nat.add_zero] at hF HRC
        clear HSM HPP HZ
        go_enter Tryz.func91, Tryz.ntmps91
        go_wp2_with fail
        refine hF.mono ?_
        rintro x w1 ⟨rfl, hb1⟩
        obtain ⟨k0, k1, k4⟩ := HRC.out _ hb1
        clear hF HRC
        go_wp2_with (go_at_call 66; refine (hFo _).mono ?_; rintro x wq ⟨rfl, rfl⟩)
        go_ret
        exact ⟨ret_int HX.out.symm, hb1⟩)
    · rcases B0 with _ | _ <;> rcases B1 with _ | _ <;> rcases B2 with _ | _
      all_goals (
        have hS1 := HSM.out (by omega)
        have hP1 := HPP.out (by omega)
        simp only [Nat.add_sub_cancel] at hS1 hP1
        have HP1 : Hid (∀ w', Below w.heap.size w w' → w'.cell? ⟨b, off + m * 5 + 1, none⟩ = some (.int .i64 ph)) := hP1
        have hg0 : decide (0 < ((m + 1 : Nat) : Int)) = true := by simp
        have hmi : (m : Int) < (n : Int) := by omega
        clear HSM HPP HZ hP1
        go_enter Tryz.func91, Tryz.ntmps91
        go_wp2_with fail
        refine hF.mono ?_
        rintro x w1 ⟨rfl, hb1⟩
        clear hF
        go_wp2_with fail
        refine (hS1 _ hb1).mono ?_
        rintro x w2 ⟨rfl, hb2⟩
        have hb2' := below_after_of hb1 hb2
        obtain ⟨k0, k1, k4⟩ := HRC.out _ hb2'
        have kp := HP1.out _ hb2'
        clear hS1 hb1 hb2 HRC HP1
        go_wp2_with (go_at_call 66; refine (hFo _).mono ?_; rintro x wq ⟨rfl, rfl⟩)
        go_ret
        exact ⟨ret_int HX.out.symm, hb2'⟩)
  · have h1 := code_ne h0
    rw [lkS_c h0]
    generalize (hAt l k).c = q at *
    clear hc h0 e1 hR hp
    go_enter Tryz.func91, Tryz.ntmps91
    go_wp2_with fail
    refine hF.mono ?_
    rintro x w1 ⟨rfl, hb1⟩
    clear hF
    go_wp2
    go_ret
    exact ⟨rfl, hb1⟩
set_option maxRecDepth 100000 in
set_option maxHeartbeats 2000000 in
theorem l10Chain_core (b off c n : Nat) (l : Hdl) (w : World) (hn : n ≤ 10) (hb : b < w.heap.size) (hc : ∀ j, j < n → HdS w b (off + j * 5) (hAt l j)) :
    Calls Tryz.prog 64 #[.slice (some ⟨b, off, none⟩) n c] w fun x w' => x = .returned (.int .i64 (scanH l n 0)) ∧ Below w.heap.size w w' := by
  obtain ⟨q, hq⟩ : ∃ q, q = scanH l n 0 := ⟨_, rfl⟩
  have HQ : Hid (scanH l n 0 = q) := hq.symm
  rw [← hq]
  clear hq
  have HC : Hid (∀ k, k < n → (0 < k → (hAt l (k - 1)).c = 0) → ∀ w', Below w.heap.size w w' → Calls Tryz.prog 91 #[.slice (some ⟨b, off, none⟩) n c, .int .i64 k] w' fun x w'' => x = .returned (.int .i64 (lkS l k)) ∧ Below w'.heap.size w' w'') :=
    fun k hk hp w' h => l10Link_any b off c n k l w' hn (Nat.lt_of_lt_of_le hb h.size) hk (fun j hj => (hc j hj).below h hb) hp
  clear hc
  go_enter Tryz.func64, Tryz.ntmps64
  go_wp2
  go_loopw [3] (fun i wr => ∃ k : Nat, k ≤ n ∧ i = .int .i64 k ∧ Hid (Below w.heap.size w wr) ∧ Hid (scanH l (n - k) k = q) ∧ Hid (0 < k → (hAt l (k - 1)).c = 0)) (fun i _ => n - (intOf i).toNat)
  case atStart => exact ⟨0, Nat.zero_le _, rfl, Below.refl _ _, HQ, fun h => absurd h (by omega)⟩
  case round =>
    obtain ⟨k, hk, rfl, hB, HS, HP⟩ := hrel
    by_cases hkn : k < n
    · have hki : (k : Int) < (n : Int) := by omega
      have hL := HC.out k hkn HP.out _ hB.out
      have HSN : Hid (n - k = (n - k - 1) + 1) := (by omega : n - k = (n - k - 1) + 1)
      have HL : Hid (q = if lkS l k = 0 then scanH l (n - k - 1) (k + 1) else lkS l k) := (by rw [← HS.out, HSN.out]; exact scanH_lk : q = if lkS l k = 0 then scanH l (n - k - 1) (k + 1) else lkS l k)
      have HN : Hid (lkS l k = 0 → (hAt l k).c = 0) := (fun h => by
        by_cases h1 : (hAt l k).c = 0
        · exact h1
        · rw [lkS_c h1] at h; exact h)
      generalize lkS l k = z at *
      by_cases hz : z = 0
      · subst hz
        have HX : Hid (scanH l (n - k - 1) (k + 1) = q) := (by have := HL.out; rw [if_pos rfl] at this; exact this.symm : scanH l (n - k - 1) (k + 1) = q)
        have HPN : Hid (0 < k + 1 → (hAt l (k + 1 - 1)).c = 0) := fun _ => HN.out rfl
        clear HL HN
        go_wp2_with fail
        refine hL.mono ?_
        rintro x w1 ⟨rfl, hb1⟩
        have HB1 : Hid (Below w.heap.size w w1) := below_after_of hB.out hb1
        clear hL hb1
        go_wp2
        go_roundw
        case rel => exact ⟨k + 1, by omega, by go_num, HB1, by rw [show n - (k + 1) = n - k - 1 by omega]; exact HX, HPN⟩
        case measure => simp [intOf]; omega
      · have hz1 : (z != 0) = true := by simpa using hz
        have HX : Hid (q = z) := (by have := HL.out; rw [if_neg hz] at this; exact this : q = z)
        clear HL HN hz
        go_wp2_with fail
        refine hL.mono ?_
        rintro x w1 ⟨rfl, hb1⟩
        have HB1 : Hid (Below w.heap.size w w1) := below_after_of hB.out hb1
        clear hL hb1
        go_wp2
        go_ret
        exact ⟨ret_int HX.out.symm, HB1.out⟩
    · have hkn : k = n := by omega
      subst hkn
      have e0 : Hid (q = 0) := (by rw [← HS.out, Nat.sub_self]; rfl : q = 0)
      go_wp2
      go_ret
      exact ⟨ret_int e0.out.symm, hB.out⟩
set_option maxRecDepth 100000 in
set_option maxHeartbeats 1000000 in
theorem l10Chain_any (v : Value) (l : Hdl) (w : World) (hv : Hds w v l) (hx : l.length ≤ 1099511627776) :
    Calls Tryz.prog 64 #[v] w fun e w' => e = .returned (.int .i64 (chF l)) ∧ Below w.heap.size w w' := by
  obtain ⟨a, c, rfl⟩ := hv.shape
  by_cases h : 10 < l.length
  · rw [chF_many h]
    generalize l.length = n at *
    clear hv
    go_enter Tryz.func64, Tryz.ntmps64
    go_wp2
    go_ret
    exact ⟨rfl, Below.refl _ _⟩
  · rw [chF_scan h]
    by_cases h0 : 0 < l.length
    · obtain ⟨_, b, off, rfl, hb, hc⟩ := hv.at h0
      exact l10Chain_core b off c l.length l w (by omega) hb hc
    · have e1 : l = [] := List.eq_nil_of_length_eq_zero (by omega)
      subst e1
      simp only [List.length_nil]
      have e2 : scanH [] 0 0 = 0 := rfl
      rw [e2]
      clear hv h0 hx h e2
      go_enter Tryz.func64, Tryz.ntmps64
      go_wp2
      refine wp_loop_rounds 1 ?_; rw [rounds_succ]
      go_wp2
      go_ret
      exact ⟨rfl, Below.refl _ _⟩
set_option maxRecDepth 100000 in
set_option maxHeartbeats 1000000 in
theorem specChainFault_any (v : Value) (l : Hdl) (w : World) (hv : Hds w v l) (hx : l.length ≤ 1099511627776) :
    Calls Tryz.prog 25 #[v] w fun e w' => e = .returned (.int .i64 (chF l)) ∧ Below w.heap.size w w' := by
  have hC := l10Chain_any v l w hv hx
  obtain ⟨a, c, rfl⟩ := hv.shape
  generalize chF l = q at *
  generalize l.length = n at *
  clear hv
  go_enter Tryz.func25, Tryz.ntmps25
  go_wp2_with fail
  refine hC.mono ?_
  rintro x w1 ⟨rfl, hb1⟩
  clear hC
  go_wp2
  go_ret
  exact ⟨rfl, hb1⟩
end U
end Go.Proofs.YtpelafkjnmcdgaaGreat

/- The slots of a right directory are right. -/
namespace Go.Proofs.YtpelafkjnmcdgaaGreat
open Go.RowKit
namespace U
theorem slTo_at (l : Rcl) : ∀ k j, j < k → pAt (slTo l k) j = ((rAt l j).k, (rAt l j).s)
  | 0, j, h => absurd h (by omega)
  | k + 1, j, h => by
    show pAt (slTo l k ++ [((rAt l k).k, (rAt l k).s)]) j = _
    by_cases hj : j < k
    · rw [← slTo_at l k j hj]
      unfold pAt
      rw [List.getD_eq_getElem?_getD, List.getD_eq_getElem?_getD, List.getElem?_append_left (by rw [slTo_len]; exact hj)]
    · have : j = k := by omega
      subst this
      unfold pAt
      rw [List.getD_eq_getElem?_getD, List.getElem?_append_right (by rw [slTo_len]; omega), slTo_len]
      simp
theorem dirSl_ok {l : Rcl} (h : DirOk l) : slF (dirSl l) = 0 := by
  have hlen : (dirSl l).length = l.length := slTo_len l _
  have := h.len
  unfold slF
  rw [if_neg (by omega), hlen]
  apply scan_all
  intro j _ hj
  have hj : j < l.length := by omega
  have e : ∀ i, i < l.length → pAt (dirSl l) i = ((rAt l i).k, (rAt l i).s) := fun i hi => slTo_at l _ i hi
  rw [e j hj]
  refine ⟨?_, fun h0 => ?_⟩
  · unfold fine
    have k1 := (rAt l j).kbd
    have k2 := (rAt l j).sbd
    rw [inB_t k1.1 (by show (rAt l j).k ≤ 255; omega), (sumB_iff _).2 k2]
    rfl
  · rw [e (j - 1) (by omega)]
    have := h.up j hj
    rcases j with _ | m
    · omega
    · exact this
theorem dirSl_len (l : Rcl) : (dirSl l).length = l.length := slTo_len l _
end U
end Go.Proofs.YtpelafkjnmcdgaaGreat

/- The slots of a directory, as the model tells them. -/
namespace Go.Proofs.YtpelafkjnmcdgaaGreat
open Go.RowKit
namespace U
set_option maxRecDepth 100000 in
set_option maxHeartbeats 4000000 in
theorem l9Slots_core (g b off c n : Nat) (l : Rcl) (w : World) (hn : n ≤ 12) (hg : g < w.heap.size) (hb : b < w.heap.size) (hok : ∀ j, j < n → (rAt l j).c = 0) (hD : w.cell? ⟨g, 0, none⟩ = some (.slice (some ⟨b, off, none⟩) n c)) (hc : ∀ j, j < n → RecS w b (off + j * 4) (rAt l j)) :
    Calls Tryz.prog 79 #[.pointer (some ⟨g, 0, none⟩)] w fun e w' => ∃ u, e = .returned u ∧ Below w.heap.size w w' ∧ w'.ownsRow w.heap.size 92 2 u n ((fl (slTo l n)).map (Value.int .i64)) := by
  obtain ⟨i0, hi, hz0, hz1, hz2⟩ := info_parts Tryz.infoSl
  have HD : Hid (∀ w', Below w.heap.size w w' → w'.cell? ⟨g, 0, none⟩ = some (.slice (some ⟨b, off, none⟩) n c)) := fun w' h => (h.cell (p := ⟨g, 0, none⟩) hg).trans hD
  go_enter Tryz.func79, Tryz.ntmps79
  go_wp2
  go_loopw [3, 4] (fun u i wr => ∃ k : Nat, k ≤ n ∧ i = .int .i64 k ∧ Hid (Below w.heap.size w wr) ∧ Hid (wr.ownsRow w.heap.size 92 2 u k ((fl (slTo l k)).map (Value.int .i64)))) (fun _ i _ => n - (intOf i).toNat)
  case atStart => exact ⟨0, Nat.zero_le _, rfl, one_new _, none_own w 92 w.heap.size (Nat.le_refl _)⟩
  case round =>
    obtain ⟨k, hk, rfl, hB, ho⟩ := hrel
    obtain ⟨a', c', rfl⟩ := own_sh ho.out
    have hDk := HD.out _ hB.out
    by_cases hkn : k < n
    · have hki : (k : Int) < (n : Int) := by omega
      have hc0 := hok k hkn
      have hKy := fun w => l2Key_any (rAt l k).l w (Rc.small_of hc0)
      have HRT : Hid (∀ w', Below w.heap.size w w' → RecT w' b (off + k * 4) (rAt l k).l (rAt l k).v (rAt l k).o (rAt l k).p) := fun w' h => ((hc k hkn).below h hb).t
      have hRs := fun w' (h : Below w.heap.size w w') => l3Sum_at b (off + k * 4) (rAt l k).l (rAt l k).v (rAt l k).o (rAt l k).p w' (HRT.out w' h) (recOk hc0) (Nat.lt_of_lt_of_le hb h.size)
      have e2 : keyI (rAt l k).l = (rAt l k).k := rfl
      have e3 : sumL (packL (rAt l k).l (rAt l k).v (rAt l k).o (rAt l k).p) = (rAt l k).s := rfl
      rw [e2] at hKy
      rw [e3] at hRs
      have HG : Hid (slTo l (k + 1) = slTo l k ++ [((rAt l k).k, (rAt l k).s)]) := rfl
      generalize (rAt l k).k = kz at *
      generalize (rAt l k).s = sz at *
      generalize (rAt l k).l = x0 at *
      generalize (rAt l k).v = x1 at *
      generalize (rAt l k).o = x2 at *
      generalize (rAt l k).p = x3 at *
      have HVC : Hid (∀ w', Below wr.heap.size wr w' → w'.cell? ⟨g, 0, none⟩ = some (.slice (some ⟨b, off, none⟩) n c) ∧ w'.cell? ⟨b, off + k * 4, none⟩ = some (.string x0)) := fun w' h => ⟨HD.out _ (below_after_of hB.out h), (HRT.out _ (below_after_of hB.out h)).c0⟩
      have HRS : Hid (∀ w', Below wr.heap.size wr w' → Calls Tryz.prog 101 #[.pointer (some ⟨b, off + k * 4, none⟩)] w' fun e w'' => e = .returned (.int .i64 sz) ∧ Below w'.heap.size w' w'') := fun w' h => hRs w' (below_after_of hB.out h)
      have HOW : Hid (∀ w', Below wr.heap.size wr w' → w'.ownsRow w.heap.size 92 2 (.slice a' k c') k ((fl (slTo l k)).map (Value.int .i64))) := fun w' h => own_below ho.out h
      have hoB : ∀ j, (Value.slice a' k c').ownBlock = some j → w.heap.size ≤ j ∧ j < wr.heap.size := fun j hj => ho.out.lt j hj
      obtain ⟨g0, g1⟩ := HVC.out wr (Below.refl _ _)
      have hbr := Below.refl wr.heap.size wr
      have hgb : some g ≠ (Value.slice a' k c').ownBlock := fun e => by have := hoB _ e.symm; omega
      have hbb : some b ≠ (Value.slice a' k c').ownBlock := fun e => by have := hoB _ e.symm; omega
      have HZS : Hid (w.heap.size ≤ wr.heap.size) := hB.out.size
      clear hc0 e2 e3 hc hRs hok HRT
      go_wp2_with fail
      go_region_held3 (fun w' => w'.cell? ⟨g, 0, none⟩ = some (.slice (some ⟨b, off, none⟩) n c) ∧ w'.cell? ⟨b, off + k * 4, none⟩ = some (.string x0))
        (first | with_reducible exact ⟨g0, g1⟩ | with_reducible exact HVC.out _ hbr | with_reducible exact HVC.out _ hbr.drew | with_reducible exact HVC.out _ (hbr.alloc hbr.size _) | with_reducible exact hlast)
        (first
          | (go_at_call 78; refine (hKy _).mono ?_; rintro e w5 ⟨rfl, hb5⟩; have hbr : Below wr.heap.size wr w5 := (by first | exact below_after_of hbr hb5 | exact below_after_of hbr.drew hb5))
          | (go_at_call 101; refine (HRS.out _ (by first | exact hbr | exact hbr.drew)).mono ?_; rintro e w6 ⟨rfl, hb6⟩; have hbr : Below wr.heap.size wr w6 := (by first | exact below_after_of hbr hb6 | exact below_after_of hbr.drew hb6))
          | (refine step_append_one (by rfl) _ _ _ (by rfl) w.heap.size 92 i0 (.agg #[.int .i64 0, .int .i64 0]) 2 16 Tryz.underlying46 hi hz0 hz1 hz2 rfl (by decide) (.slice a' k c') k _ (by rfl) (HOW.out _ (hbr.alloc hbr.size _)) ⟨w6.heap.size, 0, none⟩ 1 [.int .i64 kz, .int .i64 sz] (by rfl) (by rfl) (World.news_of_block (heap_alloc_new _ _)) (ints_oneCell .i64 [kz, sz]) (by unfold maxLen; omega) (by omega) (by have := HZS.out; have := hbr.size; simp; omega) ?_; intro g7 c7 w7 ho7 hg7; have hlast : w7.cell? ⟨g, 0, none⟩ = some (.slice (some ⟨b, off, none⟩) n c) ∧ w7.cell? ⟨b, off + k * 4, none⟩ = some (.string x0) := (by
              have q := HVC.out _ (hbr.alloc hbr.size (.cells #[.int .i64 kz, .int .i64 sz] 92))
              exact ⟨hg7.cell q.1 hgb, hg7.cell q.2 hbb⟩)))
      have HO7 : Hid (w7.ownsRow w.heap.size 92 2 (.slice (some ⟨g7, 0, none⟩) (k + 1) c7) (k + 1) ((fl (slTo l (k + 1))).map (Value.int .i64))) := (by rw [HG.out]; exact own_snocS ho7 : w7.ownsRow w.heap.size 92 2 (.slice (some ⟨g7, 0, none⟩) (k + 1) c7) (k + 1) ((fl (slTo l (k + 1))).map (Value.int .i64)))
      have hbA : Below w.heap.size w (w6.alloc (.cells #[.int .i64 kz, .int .i64 sz] 92)) := below_after_of hB.out (hbr.alloc hbr.size _)
      have HB7 : Hid (Below w.heap.size w w7) := hbA.grown hg7 hbA.size (fun j hj => (hoB j hj).1)
      clear hbA hg7 ho7 hlast HOW HVC
      go_wp2
      go_roundw
      case rel => exact ⟨k + 1, by omega, by go_num, HB7, HO7⟩
      case measure => simp [intOf]; omega
    · have hkn : k = n := by omega
      subst hkn
      clear hc hok
      go_wp2
      go_ret
      exact ⟨_, rfl, hB.out, ho.out⟩
set_option maxRecDepth 100000 in
set_option maxHeartbeats 1000000 in
theorem l9Slots_any (g : Nat) (v : Value) (l : Rcl) (w : World) (hg : g < w.heap.size) (hD : w.cell? ⟨g, 0, none⟩ = some v) (hv : Rcs w v l) (hok : DirOk l) :
    Calls Tryz.prog 79 #[.pointer (some ⟨g, 0, none⟩)] w fun e w' => ∃ u, e = .returned u ∧ Below w.heap.size w w' ∧ w'.ownsRow w.heap.size 92 2 u (dirSl l).length ((fl (dirSl l)).map (Value.int .i64)) := by
  obtain ⟨a, c, rfl⟩ := hv.shape
  have e1 : (dirSl l).length = l.length := slTo_len l _
  rw [e1]
  by_cases h0 : 0 < l.length
  · obtain ⟨_, b, off, rfl, hb, hc⟩ := hv.at h0
    exact l9Slots_core g b off c l.length l w hok.len hg hb hok.ok hD hc
  · have e2 : l = [] := List.eq_nil_of_length_eq_zero (by omega)
    subst e2
    have e3 : fl (dirSl []) = [] := rfl
    rw [e3]
    simp only [List.length_nil] at *
    clear hv h0 hok e1 e3
    have HN : Hid ((w.alloc (.cells #[] 92)).ownsRow w.heap.size 92 2 (.slice (some ⟨w.heap.size, 0, none⟩) 0 0) 0 []) := none_own w 92 w.heap.size (Nat.le_refl _)
    have hltA : g ≠ w.heap.size := by omega
    go_enter Tryz.func79, Tryz.ntmps79
    go_wp2
    refine wp_loop_rounds 1 ?_; rw [rounds_succ]
    go_wp2
    go_ret
    exact ⟨_, rfl, one_new _, HN.out⟩
end U
end Go.Proofs.YtpelafkjnmcdgaaGreat
