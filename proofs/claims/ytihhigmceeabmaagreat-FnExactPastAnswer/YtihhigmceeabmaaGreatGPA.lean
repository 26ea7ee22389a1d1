/- Joined: what the texts behind it need. -/
import Derived.Test.YtihhigmceeabmaaGreatHdS
import Derived.Test.YtihhigmceeabmaaGreatDrS
import Derived.Test.YtihhigmceeabmaaGreatSl1
import Derived.Test.YtihhigmceeabmaaGreatIntR
import Derived.Test.YtihhigmceeabmaaGreatDrE
import Derived.Test.YtihhigmceeabmaaGreatQuiet
import Derived.Test.YtihhigmceeabmaaGreatHdM
import Derived.Test.YtihhigmceeabmaaGreatRec1
import Derived.Lib.AppendStr
import Derived.Deep.RegionLaw
import Derived.Deep.DrawnRows
import Derived.Test.YtihhigmceeabmaaGreatDrL
import Derived.WalkKit
import Derived.Laws.BitsAllLaws
import Derived.Laws.Bits128
import Derived.Test.YtihhigmceeabmaaGreatStr
import Derived.Test.YtihhigmceeabmaaGreatInts
import Derived.Deep.RegionHeld3
import Derived.Test.YtihhigmceeabmaaGreatDr2
import Derived.Deep.AppendLies
/- A state, as mathematics: what it is, and compared. -/
namespace Go.Proofs.YtihhigmceeabmaaGreat
open Go.RowKit
namespace U
abbrev Pst := List Rcl
def dAt (p : Pst) (j : Nat) : Rcl := p.getD j []
theorem dAt_eq {p : Pst} {j : Nat} (h : j < p.length) : dAt p j = p[j] := by simp [dAt, List.getD_eq_getElem?_getD, List.getElem?_eq_getElem h]
theorem dAt_mem {p : Pst} {j : Nat} (h : j < p.length) : dAt p j ∈ p := by rw [dAt_eq h]; exact List.getElem_mem h
/-- A state. -/
structure St where
  ph : Int
  cu : Int
  d : Rcl
  n : Prl
  h : Hdl
  p : Pst
/-- Slots compared. -/
def eqP (l m : Prl) : Bool := decide (l = m)
theorem eqP_len {l m : Prl} (h : ¬ l.length = m.length) : eqP l m = false := decide_eq_false fun e => h (by rw [e])
theorem eqP_no {l m : Prl} {k : Nat} (h : ¬ pAt l k = pAt m k) : eqP l m = false := decide_eq_false fun e => h (by rw [e])
theorem eqP_yes {l m : Prl} (h : l.length = m.length) (ha : ∀ j, j < l.length → pAt l j = pAt m j) : eqP l m = true := decide_eq_true (by
  apply List.ext_getElem h
  intro j h1 h2
  rw [← pAt_eq h1, ← pAt_eq h2]
  exact ha j h1)
theorem eqP_iff {l m : Prl} : eqP l m = true ↔ l = m := decide_eq_true_iff
/-- Heads compared. -/
def hdQ (a b : Hd) : Bool := (a.e == b.e) && ((a.p == b.p) && ((a.o == b.o) && ((a.n == b.n) && (a.v == b.v))))
theorem hdQ_iff (a b : Hd) : hdQ a b = true ↔ a = b := by
  obtain ⟨e, p, o, n, v⟩ := a
  obtain ⟨e', p', o', n', v'⟩ := b
  unfold hdQ
  simp only [Bool.and_eq_true, beq_iff_eq, Hd.mk.injEq]
theorem hdQ_same (a : Hd) : hdQ a a = true := (hdQ_iff a a).2 rfl
def eqH (l m : Hdl) : Bool := (l.length == m.length) && (List.range l.length).all fun j => hdQ (hAt l j) (hAt m j)
theorem eqH_len {l m : Hdl} (h : ¬ l.length = m.length) : eqH l m = false := by unfold eqH; rw [beq_eq_false_iff_ne.2 h]; rfl
theorem eqH_no {l m : Hdl} {k : Nat} (hk : k < l.length) (h : hdQ (hAt l k) (hAt m k) = false) : eqH l m = false := by
  unfold eqH
  rw [Bool.and_eq_false_iff]
  right
  rw [List.all_eq_false]
  exact ⟨k, List.mem_range.2 hk, by rw [h]; decide⟩
theorem eqH_yes {l m : Hdl} (h : l.length = m.length) (ha : ∀ j, j < l.length → hdQ (hAt l j) (hAt m j) = true) : eqH l m = true := by
  unfold eqH
  rw [h, beq_self_eq_true, Bool.true_and, List.all_eq_true]
  intro j hj
  exact ha j (by rw [h]; exact List.mem_range.1 hj)
/-- The directories of the past compared. -/
def eqD (l m : Pst) : Bool := (l.length == m.length) && (List.range l.length).all fun j => sameL (dAt l j) (dAt m j)
theorem eqD_len {l m : Pst} (h : ¬ l.length = m.length) : eqD l m = false := by unfold eqD; rw [beq_eq_false_iff_ne.2 h]; rfl
theorem eqD_no {l m : Pst} {k : Nat} (hk : k < l.length) (h : sameL (dAt l k) (dAt m k) = false) : eqD l m = false := by
  unfold eqD
  rw [Bool.and_eq_false_iff]
  right
  rw [List.all_eq_false]
  exact ⟨k, List.mem_range.2 hk, by rw [h]; decide⟩
theorem eqD_yes {l m : Pst} (h : l.length = m.length) (ha : ∀ j, j < l.length → sameL (dAt l j) (dAt m j) = true) : eqD l m = true := by
  unfold eqD
  rw [h, beq_self_eq_true, Bool.true_and, List.all_eq_true]
  intro j hj
  exact ha j (by rw [h]; exact List.mem_range.1 hj)
end U
end Go.Proofs.YtihhigmceeabmaaGreat

/- States in memory: how they read. -/
namespace Go.Proofs.YtihhigmceeabmaaGreat
open Go.RowKit
namespace U
/-- A slice value reads as a list of directories. -/
def Dss (w : World) (v : Value) (p : Pst) : Prop :=
  (p = [] ∧ ∃ a c, v = .slice a 0 c) ∨ ∃ b off c, v = .slice (some ⟨b, off, none⟩) p.length c ∧ b < w.heap.size ∧ ∀ j, j < p.length → ∃ u, w.cell? ⟨b, off + j, none⟩ = some u ∧ Rcs w u (dAt p j)
theorem Dss.below {w w' : World} {v : Value} {p : Pst} (h : Dss w v p) (hb : Below w.heap.size w w') : Dss w' v p := by
  rcases h with h | ⟨b, off, c, rfl, hlt, hc⟩
  · exact Or.inl h
  · refine Or.inr ⟨b, off, c, rfl, Nat.lt_of_lt_of_le hlt hb.size, fun j hj => ?_⟩
    obtain ⟨u, h1, h2⟩ := hc j hj
    exact ⟨u, (hb.cell (p := ⟨b, off + j, none⟩) hlt).trans h1, h2.below hb⟩
theorem Dss.shape {w : World} {v : Value} {p : Pst} (h : Dss w v p) : ∃ a c, v = .slice a p.length c := by
  rcases h with ⟨rfl, a, c, rfl⟩ | ⟨b, off, c, rfl, _⟩
  · exact ⟨a, c, rfl⟩
  · exact ⟨_, c, rfl⟩
theorem Dss.at {w : World} {a : Option Addr} {n c : Nat} {p : Pst} (h : Dss w (.slice a n c) p) (h0 : 0 < p.length) : n = p.length ∧ ∃ b off, a = some ⟨b, off, none⟩ ∧ b < w.heap.size ∧ ∀ j, j < p.length → ∃ u, w.cell? ⟨b, off + j, none⟩ = some u ∧ Rcs w u (dAt p j) := by
  rcases h with ⟨rfl, _⟩ | ⟨b, off, c', e, h1, h2⟩
  · simp at h0
  · cases e
    exact ⟨rfl, b, off, rfl, h1, h2⟩
theorem Dss.nil (w : World) (a : Option Addr) (c : Nat) : Dss w (.slice a 0 c) [] := Or.inl ⟨rfl, a, c, rfl⟩
/-- The values of a state's lists. -/
structure Sv where
  d : Value
  n : Value
  h : Value
  p : Value
/-- They read as a state. -/
structure Sts (w : World) (v : Sv) (s : St) : Prop where
  d : Rcs w v.d s.d
  n : Prs w v.n s.n
  h : Hds w v.h s.h
  p : Dss w v.p s.p
theorem Sts.below {w w' : World} {v : Sv} {s : St} (h : Sts w v s) (hb : Below w.heap.size w w') : Sts w' v s := ⟨h.d.below hb, h.n.below hb, h.h.below hb, h.p.below hb⟩
/-- A state's value, its cells. -/
def stV (s : St) (v : Sv) : Value := .agg #[.int .i64 s.ph, .int .i64 s.cu, v.d, v.n, v.h, v.p]
def srV (c : Int) (s : St) (v : Sv) : Value := .agg #[.int .i64 c, .int .i64 s.ph, .int .i64 s.cu, v.d, v.n, v.h, v.p]
def stC (s : St) (v : Sv) (t : TypeId) : Obj := .cells #[.int .i64 s.ph, .int .i64 s.cu, v.d, v.n, v.h, v.p] t
structure StC (w : World) (b : Nat) (s : St) (v : Sv) : Prop where
  lt : b < w.heap.size
  c0 : w.cell? ⟨b, 0, none⟩ = some (.int .i64 s.ph)
  c1 : w.cell? ⟨b, 1, none⟩ = some (.int .i64 s.cu)
  c2 : w.cell? ⟨b, 2, none⟩ = some v.d
  c3 : w.cell? ⟨b, 3, none⟩ = some v.n
  c4 : w.cell? ⟨b, 4, none⟩ = some v.h
  c5 : w.cell? ⟨b, 5, none⟩ = some v.p
theorem StC.below {w w' : World} {b N : Nat} {s : St} {v : Sv} (h : StC w b s v) (hb : Below N w w') (hlt : b < N) : StC w' b s v :=
  ⟨Nat.lt_of_lt_of_le h.lt hb.size, (hb.cell (p := ⟨b, 0, none⟩) hlt).trans h.c0, (hb.cell (p := ⟨b, 1, none⟩) hlt).trans h.c1, (hb.cell (p := ⟨b, 2, none⟩) hlt).trans h.c2, (hb.cell (p := ⟨b, 3, none⟩) hlt).trans h.c3, (hb.cell (p := ⟨b, 4, none⟩) hlt).trans h.c4, (hb.cell (p := ⟨b, 5, none⟩) hlt).trans h.c5⟩
theorem StC.of {w : World} {b : Nat} {s : St} {v : Sv} {t : TypeId} (h : w.heap[b]? = some (stC s v t)) : StC w b s v := by
  refine ⟨(Array.getElem?_eq_some_iff.1 h).1, ?_, ?_, ?_, ?_, ?_, ?_⟩ <;> (unfold World.cell?; rw [h]; rfl)
theorem StC.new (w : World) (s : St) (v : Sv) (t : TypeId) : StC (w.alloc (stC s v t)) w.heap.size s v := StC.of (heap_alloc_new w _)
/-- How many records the first directories have. -/
def tot (p : Pst) : Nat → Nat
  | 0 => 0
  | k + 1 => tot p k + (dAt p k).length
/-- Bounds of a state that a law goes into. -/
structure StB (s : St) : Prop where
  d : s.d.length ≤ 1048576
  dl : Lbs s.d
  n : s.n.length ≤ 1048576
  h : s.h.length ≤ 1048576
  p : s.p.length ≤ 1048576
  pd : ∀ j, j < s.p.length → (dAt s.p j).length ≤ 1048576 ∧ Lbs (dAt s.p j)
  t : ∀ j, j ≤ s.p.length → tot s.p j ≤ 1048576
/-- Bounds of a state that is an argument. -/
structure StA (s : St) : Prop where
  d : s.d.length ≤ maxLen
  dl : LbM s.d
  n : s.n.length ≤ maxLen
  h : s.h.length ≤ maxLen
  p : s.p.length ≤ maxLen
  pd : ∀ j, j < s.p.length → (dAt s.p j).length ≤ maxLen ∧ LbM (dAt s.p j)
end U
end Go.Proofs.YtihhigmceeabmaaGreat

/- Structs of two cells, and lists, carried over what does not touch them. -/
namespace Go.Proofs.YtihhigmceeabmaaGreat
open Go.RowKit
namespace U
/-- What a struct of two cells in a block of its own reads as. -/
def Pair (w : World) (b : Nat) (x y : Value) : Prop := b < w.heap.size ∧ w.cell? ⟨b, 0, none⟩ = some x ∧ w.cell? ⟨b, 1, none⟩ = some y
theorem Pair.below {w w' : World} {b : Nat} {x y : Value} (h : Pair w b x y) (hb : Below w.heap.size w w') : Pair w' b x y :=
  ⟨Nat.lt_of_lt_of_le h.1 hb.size, (hb.cell (p := ⟨b, 0, none⟩) h.1).trans h.2.1, (hb.cell (p := ⟨b, 1, none⟩) h.1).trans h.2.2⟩
theorem Pair.grown {w w' : World} {b : Nat} {x y : Value} {row : Option Nat} (h : Pair w b x y) (hg : w.grownBy w' row) (hne : some b ≠ row) : Pair w' b x y :=
  ⟨Nat.lt_of_lt_of_le h.1 hg.size, hg.cell h.2.1 hne, hg.cell h.2.2 hne⟩
theorem Pair.new (w : World) (x y : Value) (t : TypeId) : Pair (w.alloc (.cells #[x, y] t)) w.heap.size x y :=
  have h := two_cells (heap_alloc_new w (.cells #[x, y] t))
  ⟨by simp, h.1, h.2.1⟩
theorem Ints.grown {k : IntKind} {w w' : World} {v : Value} {xs : List Int} {row : Option Nat} (h : Ints k w v xs) (hg : w.grownBy w' row) (hne : v.ownBlock = none ∨ v.ownBlock ≠ row) : Ints k w' v xs := by
  rcases h with h | ⟨b, off, c, rfl, hlt, hc⟩
  · exact Or.inl h
  · refine Or.inr ⟨b, off, c, rfl, Nat.lt_of_lt_of_le hlt hg.size, fun j hj => hg.cell (hc j hj) ?_⟩
    rcases hne with hne | hne
    · simp [Value.ownBlock] at hne
    · exact hne
end U
end Go.Proofs.YtihhigmceeabmaaGreat

/- Rows of one's own over what grows elsewhere. -/
namespace Go.Proofs.YtihhigmceeabmaaGreat
open Go.RowKit
namespace U
theorem own_ints_n {k : IntKind} {w : World} {B n : Nat} {e : TypeId} {v : Value} {xs : List Int} (HN : n = xs.length) (h : w.ownsRow B e 1 v n (xs.map (Value.int k))) : Ints k w v xs := by
  subst HN; exact own_ints h
theorem own_grown {w w' : World} {B n size : Nat} {e : TypeId} {v : Value} {xs : List Value} {row : Option Nat} (h : w.ownsRow B e size v n xs) (hg : w.grownBy w' row) (hne : v.ownBlock = none ∨ v.ownBlock ≠ row) : w'.ownsRow B e size v n xs := by
  refine ⟨h.1, ?_⟩
  rcases h.2 with h2 | ⟨g, cap, cur, rfl, h3, h4, h5⟩
  · exact Or.inl h2
  · refine Or.inr ⟨g, cap, cur, rfl, h3, (hg.block g (Array.getElem?_eq_some_iff.1 h4).1 ?_).trans h4, h5⟩
    rcases hne with hne | hne
    · simp [Value.ownBlock] at hne
    · exact hne
theorem apart_lt {v u : Value} (h : ∀ k, v.ownBlock = some k → ∀ j, u.ownBlock = some j → k < j) : v.ownBlock = none ∨ v.ownBlock ≠ u.ownBlock := by
  rcases hk : v.ownBlock with _ | k
  · exact Or.inl rfl
  · right
    intro e
    have := h k hk k e.symm
    omega
theorem apart_gt {v u : Value} (h : ∀ k, v.ownBlock = some k → ∀ j, u.ownBlock = some j → j < k) : v.ownBlock = none ∨ v.ownBlock ≠ u.ownBlock := by
  rcases hk : v.ownBlock with _ | k
  · exact Or.inl rfl
  · right
    intro e
    have := h k hk k e.symm
    omega
end U
end Go.Proofs.YtihhigmceeabmaaGreat

/- Rows of one's own, several at once; what is touched between two places alone. -/
namespace Go.Proofs.YtihhigmceeabmaaGreat
open Go.RowKit
namespace U
/-- Nothing but blocks from a to b has turned. -/
structure Tch (a b : Nat) (w w' : World) : Prop where
  os : w'.os = w.os
  tape : w'.tape = w.tape
  output : w'.output = w.output
  size : w.heap.size ≤ w'.heap.size
  block : ∀ k, k < w.heap.size → (k < a ∨ b ≤ k) → w'.heap[k]? = w.heap[k]?
theorem Tch.refl (a b : Nat) (w : World) : Tch a b w w := ⟨rfl, rfl, rfl, Nat.le_refl _, fun _ _ _ => rfl⟩
theorem Tch.trans {a b : Nat} {x y z : World} (h : Tch a b x y) (k : Tch a b y z) : Tch a b x z :=
  ⟨k.os.trans h.os, k.tape.trans h.tape, k.output.trans h.output, Nat.le_trans h.size k.size, fun i hi hn => (k.block i (Nat.lt_of_lt_of_le hi h.size) hn).trans (h.block i hi hn)⟩
theorem Tch.of_grown {a b : Nat} {w w' : World} {row : Option Nat} (h : w.grownBy w' row) (hr : ∀ g, row = some g → a ≤ g ∧ g < b) : Tch a b w w' :=
  ⟨h.os, h.tape, h.output, h.size, fun k hk hn => h.block k hk (fun e => by have := hr k e.symm; omega)⟩
theorem Tch.of_below {a b : Nat} {w w' : World} (h : Below w.heap.size w w') : Tch a b w w' := ⟨h.os, h.tape, h.output, h.size, fun k hk _ => h.block k hk⟩
theorem Tch.below {a b : Nat} {w w' : World} (h : Tch a b w w') (ha : a ≤ w.heap.size) : Below a w w' := ⟨h.os, h.tape, h.output, h.size, fun k hk => h.block k (by omega) (Or.inl hk)⟩
/-- A row: the element's type and size, the value, how many, the cells. -/
structure Rw where
  e : TypeId
  z : Nat
  v : Value
  n : Nat
  xs : List Value
def blks (R : List Rw) : List Nat := R.filterMap fun r => r.v.ownBlock
theorem blks_app (R S : List Rw) : blks (R ++ S) = blks R ++ blks S := List.filterMap_append
theorem blks_mem {R : List Rw} {g : Nat} (h : g ∈ blks R) : ∃ r ∈ R, r.v.ownBlock = some g := by simpa [blks] using h
theorem mem_blks {R : List Rw} {r : Rw} {g : Nat} (h : r ∈ R) (hg : r.v.ownBlock = some g) : g ∈ blks R := by
  unfold blks
  rw [List.mem_filterMap]
  exact ⟨r, h, hg⟩
structure Own (lo hi : Nat) (w : World) (R : List Rw) : Prop where
  own : ∀ r ∈ R, w.ownsRow lo r.e r.z r.v r.n r.xs
  hi : ∀ g ∈ blks R, g < hi
  nd : (blks R).Nodup
theorem own_blk {w : World} {lo n z g : Nat} {e : TypeId} {v : Value} {xs : List Value} (h : w.ownsRow lo e z v n xs) (hg : v.ownBlock = some g) : lo ≤ g ∧ g < w.heap.size := by
  rcases h.2 with ⟨rfl, _⟩ | ⟨g', cap, cur, rfl, h1, h2, _⟩
  · cases hg
  · cases hg
    exact ⟨h1, (Array.getElem?_eq_some_iff.1 h2).1⟩
theorem own_same {w w' : World} {lo n z : Nat} {e : TypeId} {v : Value} {xs : List Value} (h : w.ownsRow lo e z v n xs) (hb : ∀ g, v.ownBlock = some g → w'.heap[g]? = w.heap[g]?) : w'.ownsRow lo e z v n xs := by
  refine ⟨h.1, ?_⟩
  rcases h.2 with h2 | ⟨g, cap, cur, rfl, h3, h4, h5⟩
  · exact Or.inl h2
  · exact Or.inr ⟨g, cap, cur, rfl, h3, (hb g rfl).trans h4, h5⟩
theorem Own.lo {lo hi : Nat} {w : World} {R : List Rw} (h : Own lo hi w R) : ∀ g ∈ blks R, lo ≤ g := fun g hg => by
  obtain ⟨r, hr, e⟩ := blks_mem hg
  exact (own_blk (h.own r hr) e).1
theorem Own.nil (lo hi : Nat) (w : World) : Own lo hi w [] := ⟨fun r hr => by simp at hr, fun g hg => by simp [blks] at hg, by simp [blks]⟩
theorem Own.single {lo hi : Nat} {w : World} {r : Rw} (h : w.ownsRow lo r.e r.z r.v r.n r.xs) (hh : w.heap.size ≤ hi) : Own lo hi w [r] := by
  refine ⟨fun s hs => ?_, fun g hg => ?_, ?_⟩
  · rw [List.mem_singleton] at hs
    subst hs
    exact h
  · obtain ⟨s, hs, e⟩ := blks_mem hg
    rw [List.mem_singleton] at hs
    subst hs
    have := (own_blk h e).2
    omega
  · unfold blks
    cases hb : r.v.ownBlock <;> simp [hb]
theorem Own.wide {lo lo' hi hi' : Nat} {w : World} {R : List Rw} (h : Own lo hi w R) (h1 : lo' ≤ lo) (h2 : hi ≤ hi') : Own lo' hi' w R :=
  ⟨fun r hr => own_mono (h.own r hr) h1, fun g hg => Nat.lt_of_lt_of_le (h.hi g hg) h2, h.nd⟩
theorem Own.app {lo mid hi : Nat} {w : World} {R S : List Rw} (h : Own lo mid w R) (k : Own mid hi w S) (h1 : lo ≤ mid) (h2 : mid ≤ hi) : Own lo hi w (R ++ S) := by
  refine ⟨fun r hr => ?_, fun g hg => ?_, ?_⟩
  · rcases List.mem_append.1 hr with hr | hr
    · exact h.own r hr
    · exact own_mono (k.own r hr) h1
  · rw [blks_app] at hg
    rcases List.mem_append.1 hg with hg | hg
    · have := h.hi g hg; omega
    · exact k.hi g hg
  · rw [blks_app, List.nodup_append]
    refine ⟨h.nd, k.nd, fun a ha b hb e => ?_⟩
    have := h.hi a ha
    have := k.lo b hb
    omega
theorem Own.perm {lo hi : Nat} {w : World} {R S : List Rw} (h : Own lo hi w R) (p : R.Perm S) : Own lo hi w S := by
  have hp : (blks R).Perm (blks S) := p.filterMap _
  exact ⟨fun r hr => h.own r (p.mem_iff.2 hr), fun g hg => h.hi g (hp.mem_iff.2 hg), hp.nodup_iff.1 h.nd⟩
theorem Own.left {lo hi : Nat} {w : World} {R S : List Rw} (h : Own lo hi w (R ++ S)) : Own lo hi w R :=
  ⟨fun r hr => h.own r (List.mem_append_left _ hr), fun g hg => h.hi g (by rw [blks_app]; exact List.mem_append_left _ hg), by
    have := h.nd
    rw [blks_app, List.nodup_append] at this
    exact this.1⟩
theorem Own.right {lo hi : Nat} {w : World} {R S : List Rw} (h : Own lo hi w (R ++ S)) : Own lo hi w S :=
  ⟨fun r hr => h.own r (List.mem_append_right _ hr), fun g hg => h.hi g (by rw [blks_app]; exact List.mem_append_right _ hg), by
    have := h.nd
    rw [blks_app, List.nodup_append] at this
    exact this.2.1⟩
theorem Own.blocks {lo hi : Nat} {w w' : World} {R : List Rw} (h : Own lo hi w R) (hb : ∀ g ∈ blks R, w'.heap[g]? = w.heap[g]?) : Own lo hi w' R :=
  ⟨fun r hr => own_same (h.own r hr) (fun g hg => hb g (mem_blks hr hg)), h.hi, h.nd⟩
theorem Own.lt {lo hi : Nat} {w : World} {R : List Rw} (h : Own lo hi w R) : ∀ g ∈ blks R, g < w.heap.size := fun g hg => by
  obtain ⟨r, hr, e⟩ := blks_mem hg
  exact (own_blk (h.own r hr) e).2
theorem Own.below {lo hi : Nat} {w w' : World} {R : List Rw} (h : Own lo hi w R) (hb : Below w.heap.size w w') : Own lo hi w' R :=
  h.blocks fun g hg => hb.block g (h.lt g hg)
theorem Own.grown {lo hi : Nat} {w w' : World} {R : List Rw} {row : Option Nat} (h : Own lo hi w R) (hg : w.grownBy w' row) (hr : ∀ g ∈ blks R, some g ≠ row) : Own lo hi w' R :=
  h.blocks fun g hm => hg.block g (h.lt g hm) (hr g hm)
theorem Own.tch {lo hi a b : Nat} {w w' : World} {R : List Rw} (h : Own lo hi w R) (ht : Tch a b w w') (hb : b ≤ lo) : Own lo hi w' R :=
  h.blocks fun g hm => ht.block g (h.lt g hm) (Or.inr (by have := h.lo g hm; omega))
/-- One row is written anew. -/
theorem Own.set {lo hi : Nat} {w w' : World} {A B : List Rw} {r r' : Rw} (h : Own lo hi w (A ++ r :: B)) (hv : r'.v = r.v) (hg : w.grownBy w' r.v.ownBlock) (ho : w'.ownsRow lo r'.e r'.z r'.v r'.n r'.xs) : Own lo hi w' (A ++ r' :: B) := by
  have hbl : blks (A ++ r' :: B) = blks (A ++ r :: B) := by
    unfold blks
    rw [List.filterMap_append, List.filterMap_append, List.filterMap_cons, List.filterMap_cons, hv]
  have hn := h.nd
  have key : ∀ s, (s ∈ A ∨ s ∈ B) → ∀ g, s.v.ownBlock = some g → some g ≠ r.v.ownBlock := fun s hs g hsg e => by
    rw [blks_app] at hn
    have e2 : blks (r :: B) = g :: blks B := by unfold blks; rw [List.filterMap_cons, ← e]
    rw [e2] at hn
    rcases hs with hs | hs
    · exact (List.nodup_append.1 hn).2.2 g (mem_blks hs hsg) g (by simp) rfl
    · have := (List.nodup_append.1 hn).2.1
      rw [List.nodup_cons] at this
      exact this.1 (mem_blks hs hsg)
  refine ⟨fun s hs => ?_, by rw [hbl]; exact h.hi, by rw [hbl]; exact h.nd⟩
  rcases List.mem_append.1 hs with hs | hs
  · have ho := h.own s (List.mem_append_left _ hs)
    exact own_same ho fun g e => hg.block g (own_blk ho e).2 (key s (Or.inl hs) g e)
  · rcases List.mem_cons.1 hs with rfl | hs
    · exact ho
    · have ho := h.own s (List.mem_append_right _ (List.mem_cons_of_mem _ hs))
      exact own_same ho fun g e => hg.block g (own_blk ho e).2 (key s (Or.inr hs) g e)
/-- The rows of directories. -/
def nilV : Value := .slice none 0 0
def dRow (v : Value) (l : Rcl) : Rw := ⟨37, 4, v, l.length, flR l⟩
def nRow (v : Value) (l : Prl) : Rw := ⟨45, 2, v, l.length, (fl l).map (Value.int .i64)⟩
def hRow (v : Value) (l : Hdl) : Rw := ⟨43, 5, v, l.length, flH l⟩
def oRow (v : Value) (us : List Value) : Rw := ⟨94, 1, v, us.length, us⟩
def uAt (us : List Value) (j : Nat) : Value := us.getD j nilV
def pRows (us : List Value) (p : Pst) : Nat → List Rw
  | 0 => []
  | k + 1 => pRows us p k ++ [dRow (uAt us k) (dAt p k)]
theorem pRows_mem (us : List Value) (p : Pst) : ∀ k j, j < k → dRow (uAt us j) (dAt p j) ∈ pRows us p k
  | k + 1, j, h => by
    show _ ∈ pRows us p k ++ [dRow (uAt us k) (dAt p k)]
    by_cases e : j = k
    · subst e; simp
    · exact List.mem_append_left _ (pRows_mem us p k j (by omega))
theorem uAt_app {us : List Value} {u : Value} {j : Nat} (h : j < us.length) : uAt (us ++ [u]) j = uAt us j := by
  unfold uAt
  rw [List.getD_eq_getElem?_getD, List.getD_eq_getElem?_getD, List.getElem?_append_left h]
theorem uAt_last (us : List Value) (u : Value) : uAt (us ++ [u]) us.length = u := by
  unfold uAt
  rw [List.getD_eq_getElem?_getD, List.getElem?_append_right (Nat.le_refl _)]
  simp
theorem pRows_us {us us' : List Value} {p p' : Pst} : ∀ k, (∀ j, j < k → uAt us j = uAt us' j ∧ dAt p j = dAt p' j) → pRows us p k = pRows us' p' k
  | 0, _ => rfl
  | k + 1, h => by
    show pRows us p k ++ [dRow (uAt us k) (dAt p k)] = pRows us' p' k ++ [dRow (uAt us' k) (dAt p' k)]
    rw [pRows_us k (fun j hj => h j (by omega)), (h k (by omega)).1, (h k (by omega)).2]
/-- The rows of a state. -/
def sRows (v : Sv) (us : List Value) (s : St) : List Rw := [dRow v.d s.d] ++ ([nRow v.n s.n] ++ ([hRow v.h s.h] ++ ([oRow v.p us] ++ pRows us s.p s.p.length)))
/-- A state that owns its memory. -/
structure StOwn (lo hi : Nat) (w : World) (v : Sv) (us : List Value) (s : St) : Prop where
  own : Own lo hi w (sRows v us s)
  len : us.length = s.p.length
theorem own_dss {lo hi : Nat} {w : World} {v : Value} {us : List Value} {p : Pst} (h : Own lo hi w ([oRow v us] ++ pRows us p p.length)) (hl : us.length = p.length) : Dss w v p := by
  have h0 := h.own (oRow v us) (by simp)
  have h1 : w.ownsRow lo 94 1 v us.length us := h0
  rcases h1.2 with ⟨rfl, hn⟩ | ⟨g, cap, cur, rfl, hB, hg, _⟩
  · left
    exact ⟨List.eq_nil_of_length_eq_zero (by omega), none, 0, rfl⟩
  · right
    refine ⟨g, 0, cap, by rw [hl], (Array.getElem?_eq_some_iff.1 hg).1, fun j hj => ?_⟩
    have hr := h.own _ (List.mem_append_right _ (pRows_mem us p p.length j hj))
    have hr : w.ownsRow lo 37 4 (uAt us j) (dAt p j).length (flR (dAt p j)) := hr
    refine ⟨uAt us j, ?_, own_rcs hr⟩
    rw [Nat.zero_add]
    have := h1.cellAt j (by omega)
    rw [this]
    unfold uAt
    rw [List.getD_eq_getElem?_getD, List.getElem?_eq_getElem (by omega)]
    rfl
theorem StOwn.sts {lo hi : Nat} {w : World} {v : Sv} {us : List Value} {s : St} (h : StOwn lo hi w v us s) : Sts w v s := by
  have h1 := h.own.own (dRow v.d s.d) (by simp [sRows])
  have h2 := h.own.own (nRow v.n s.n) (by simp [sRows])
  have h3 := h.own.own (hRow v.h s.h) (by simp [sRows])
  refine ⟨own_rcs (B := lo) (e := 37) h1, own_prs (B := lo) (e := 45) h2, own_hds (B := lo) (e := 43) h3, own_dss (lo := lo) (hi := hi) (us := us) ?_ h.len⟩
  exact h.own.right.right.right
theorem StOwn.below {lo hi : Nat} {w w' : World} {v : Sv} {us : List Value} {s : St} (h : StOwn lo hi w v us s) (hb : Below w.heap.size w w') : StOwn lo hi w' v us s := ⟨h.own.below hb, h.len⟩
theorem StOwn.tch {lo hi a b : Nat} {w w' : World} {v : Sv} {us : List Value} {s : St} (h : StOwn lo hi w v us s) (ht : Tch a b w w') (hb : b ≤ lo) : StOwn lo hi w' v us s := ⟨h.own.tch ht hb, h.len⟩
theorem StOwn.wide {lo lo' hi hi' : Nat} {w : World} {v : Sv} {us : List Value} {s : St} (h : StOwn lo hi w v us s) (h1 : lo' ≤ lo) (h2 : hi ≤ hi') : StOwn lo' hi' w v us s := ⟨h.own.wide h1 h2, h.len⟩
end U
end Go.Proofs.YtihhigmceeabmaaGreat

/- Slots as the laws look at them: sizes, copies, compared, marked and looked at anew. -/
namespace Go.Proofs.YtihhigmceeabmaaGreat
open Go.RowKit
namespace U
theorem Tryz.infoSl : (Tryz.prog.info? 45).map (fun i => (i.zero, i.size, i.bytes)) = some (some (.agg #[.int .i64 0, .int .i64 0]), 2, 16) := by kernel_rfl
set_option maxHeartbeats 400000 in
theorem szSlotS_any (a : Option Addr) (n c : Nat) (w : World) (hn : n ≤ maxLen) :
    Calls Tryz.prog 66 #[.slice a n c, .int .i64 1048576] w fun e w' => e = .returned (.int .i64 (if n ≤ 1048576 then (1048576 - n : Int) else -1)) ∧ w' = w := by
  unfold maxLen at hn
  by_cases h : n ≤ 1048576
  · rw [if_pos h]
    go_enter Tryz.func66, Tryz.ntmps66
    go_wp2
    go_ret
    exact ⟨rfl, rfl⟩
  · rw [if_neg h]
    go_enter Tryz.func66, Tryz.ntmps66
    go_wp2
    go_ret
    exact ⟨rfl, rfl⟩
set_option maxRecDepth 100000 in
theorem toSlot_any (x y : Int) (w : World) :
    Calls Tryz.prog 126 #[.agg #[.int .i64 x, .int .i64 y]] w fun e w' => e = .returned (.agg #[.int .i64 x, .int .i64 y]) ∧ Below w.heap.size w w' := by
  go_enter Tryz.func126, Tryz.ntmps126
  go_wp2
  refine bodyPost_ret (v := .agg #[.int .i64 x, .int .i64 y]) (by simp [results, Tryz.results126, go_sem]) rfl ⟨rfl, ?_⟩
  exact (two_new _ _).alloc (by simp; omega) _
theorem made_two (n : Nat) : (madeCells #[Value.int .i64 0, Value.int .i64 0] n).toList = List.replicate n (Value.int .i64 0) := by
  apply List.ext_getElem
  · simp [madeCells]
  · intro i h1 h2
    simp only [madeCells, Array.toList_map, List.getElem_map, List.getElem_replicate]
    rcases (by omega : (Array.range n).toList[i]'(by simpa [madeCells] using h1) % 2 = 0 ∨ (Array.range n).toList[i]'(by simpa [madeCells] using h1) % 2 = 1) with h | h <;> (show #[Value.int .i64 0, Value.int .i64 0][_ % 2]! = _; rw [h]; rfl)
theorem made_slots {w1 w : World} {n : Nat} {l : Prl} (HN : n = l.length) (h : w1.ownsRow w.heap.size 45 2 (.slice (some ⟨w.heap.size, 0, none⟩) n n) n (madeCells #[Value.int .i64 0, Value.int .i64 0] (n * 2)).toList) :
    w1.ownsRow w.heap.size 45 2 (.slice (some ⟨w.heap.size, 0, none⟩) n n) n ((copied (fl l) 0).map (Value.int .i64)) := by
  rw [copied_zero, fl_len, ← HN, List.map_replicate, ← made_two]
  exact h
theorem own_some2 {w : World} {B g n cap : Nat} {e : TypeId} {xs : List Value} (h : w.ownsRow B e 2 (.slice (some ⟨g, 0, none⟩) n cap) n xs) {j : Nat} (hj : j < n * 2) : ∃ x, w.cell? ⟨g, j, none⟩ = some x :=
  ⟨_, (h.cellAt j (by omega)).trans (List.getElem?_eq_getElem (by rw [h.1]; omega))⟩
theorem fl_getD (l : Prl) {j : Nat} (h : j < l.length) : (fl l).getD (j * 2) 0 = (pAt l j).1 ∧ (fl l).getD (j * 2 + 1) 0 = (pAt l j).2 := by
  have := fl_at l j h
  rw [List.getD_eq_getElem?_getD, List.getD_eq_getElem?_getD, this.1, this.2]
  exact ⟨rfl, rfl⟩
theorem two_set (l : Prl) {k : Nat} (h : k < l.length) : ((copied (fl l) (k * 2)).set (k * 2) (pAt l k).1).set (k * 2 + 1) (pAt l k).2 = copied (fl l) ((k + 1) * 2) := by
  have hl := fl_len l
  rw [← (fl_getD l h).1, copied_set _ _ (by omega), ← (fl_getD l h).2, copied_set _ _ (by omega)]
  congr 1
  omega
set_option maxRecDepth 100000 in
set_option maxHeartbeats 2000000 in
theorem toSlotS_core (b off c n : Nat) (l : Prl) (w : World) (HN : Hid (n = l.length)) (hx : n ≤ 1048576) (hb : b < w.heap.size)
    (hc : ∀ j, j < n → w.cell? ⟨b, off + j * 2, none⟩ = some (.int .i64 (pAt l j).1) ∧ w.cell? ⟨b, off + j * 2 + 1, none⟩ = some (.int .i64 (pAt l j).2)) :
    Calls Tryz.prog 72 #[.slice (some ⟨b, off, none⟩) n c] w fun e w' => e = .returned (.slice (some ⟨w.heap.size, 0, none⟩) n n) ∧ Below w.heap.size w w' ∧ w'.ownsRow w.heap.size 45 2 (.slice (some ⟨w.heap.size, 0, none⟩) n n) n ((fl l).map (Value.int .i64)) := by
  obtain ⟨i0, hi, hz0, hz1, hz2⟩ := info_parts Tryz.infoSl
  go_enter Tryz.func72, Tryz.ntmps72
  go_wp2_with (at_make; refine wpList_make_full _ rfl _ _ 95 rfl w.heap.size 45 i0 (.agg #[.int .i64 0, .int .i64 0]) 2 Tryz.underlying95 hi hz0 hz1 _ _ _ _ n rfl rfl rfl rfl (by rw [hz2]; omega) (by unfold maxLen; omega) (Nat.le_refl _) ?_)
  intro w1 hown1 hg1
  have own1 := made_slots HN.out hown1
  have hB1 : Below w.heap.size w w1 := (Below.refl _ _).grown hg1 (Nat.le_refl _) (fun k hk => by cases hk)
  clear hown1 hg1
  go_wp2
  go_loopw [4] (fun i wr => ∃ k : Nat, k ≤ n ∧ i = .int .i64 k ∧ Below w.heap.size w wr ∧ w.heap.size < wr.heap.size ∧ wr.ownsRow w.heap.size 45 2 (.slice (some ⟨w.heap.size, 0, none⟩) n n) n ((copied (fl l) (k * 2)).map (Value.int .i64))) (fun i _ => n - (intOf i).toNat)
  case atStart => exact ⟨0, Nat.zero_le _, rfl, hB1, (own1.lt _ rfl).2, own1⟩
  case round =>
    obtain ⟨k, hk, rfl, hB, hsz, ho⟩ := hrel
    by_cases hkn : k < n
    · have hki : (k : Int) < (n : Int) := by omega
      have hc1 := (hB.cell (p := ⟨b, off + k * 2, none⟩) hb).trans (hc k hkn).1
      have hc2 := (hB.cell (p := ⟨b, off + k * 2 + 1, none⟩) hb).trans (hc k hkn).2
      have hlk : k < l.length := by have := HN.out; omega
      have hts := two_set l hlk
      obtain ⟨x, hx⟩ : ∃ x, x = (pAt l k).1 := ⟨_, rfl⟩
      obtain ⟨y, hy⟩ : ∃ y, y = (pAt l k).2 := ⟨_, rfl⟩
      rw [← hx] at hc1 hts
      rw [← hy] at hc2 hts
      have HT : Hid (((copied (fl l) (k * 2)).set (k * 2) x).set (k * 2 + 1) y = copied (fl l) ((k + 1) * 2)) := hts
      have HB : Hid (Below w.heap.size w wr) := hB
      have HO : Hid (wr.ownsRow w.heap.size 45 2 (.slice (some ⟨w.heap.size, 0, none⟩) n n) n ((copied (fl l) (k * 2)).map (Value.int .i64))) := ho
      clear hx hy hc hts own1 hB1 ho hB
      go_wp2_with fail
      refine (toSlot_any x y _).mono ?_
      rintro e w2 ⟨rfl, hb2⟩
      have ho2 := own_below HO.out hb2
      have f0 := ho2.frozenAt (k * 2)
      have f1 := ho2.frozenAt (k * 2 + 1)
      obtain ⟨z0, g0⟩ := own_some2 ho2 (j := k * 2) (by omega)
      obtain ⟨z1, g1⟩ := own_some2 ho2 (j := k * 2 + 1) (by omega)
      have s1 := (ho2.stored (k * 2) (.int .i64 x)).1
      have s2 := (s1.stored (k * 2 + 1) (.int .i64 y)).1
      rw [← List.map_set, ← List.map_set, HT.out] at s2
      have hB2 : Below w.heap.size w ((w2.setCell ⟨w.heap.size, k * 2, none⟩ (.int .i64 x)).setCell ⟨w.heap.size, k * 2 + 1, none⟩ (.int .i64 y)) := ((below_after_of HB.out hb2).setCell (Nat.le_refl _) _).setCell (Nat.le_refl _) _
      have hsz2 : w.heap.size < w2.heap.size := by have := hb2.size; omega
      have HB2 : Hid (Below w.heap.size w ((w2.setCell ⟨w.heap.size, k * 2, none⟩ (.int .i64 x)).setCell ⟨w.heap.size, k * 2 + 1, none⟩ (.int .i64 y))) := hB2
      have HS2 : Hid (((w2.setCell ⟨w.heap.size, k * 2, none⟩ (.int .i64 x)).setCell ⟨w.heap.size, k * 2 + 1, none⟩ (.int .i64 y)).ownsRow w.heap.size 45 2 (.slice (some ⟨w.heap.size, 0, none⟩) n n) n ((copied (fl l) ((k + 1) * 2)).map (Value.int .i64))) := s2
      clear ho2 s1 s2 hB2 hb2
      go_wp2
      go_roundw
      case rel => exact ⟨k + 1, by omega, by go_num, HB2.out, by simp; omega, HS2.out⟩
      case measure => simp [intOf]; omega
    · have hkn : k = n := by omega
      subst hkn
      have e1 : copied (fl l) (k * 2) = fl l := by rw [HN.out, ← fl_len]; exact copied_all _
      rw [e1] at ho
      go_wp2
      go_ret
      exact ⟨rfl, hB, ho⟩
set_option maxRecDepth 100000 in
set_option maxHeartbeats 1000000 in
theorem toSlotS_any (v : Value) (l : Prl) (w : World) (hv : Prs w v l) (hx : l.length ≤ 1048576) :
    Calls Tryz.prog 72 #[v] w fun e w' => ∃ a c, e = .returned (.slice a l.length c) ∧ Below w.heap.size w w' ∧ w'.ownsRow w.heap.size 45 2 (.slice a l.length c) l.length ((fl l).map (Value.int .i64)) := by
  obtain ⟨a, c, rfl⟩ := hv.shape
  by_cases h0 : 0 < l.length
  · obtain ⟨_, b, off, rfl, hb, hc⟩ := hv.at h0
    refine (toSlotS_core b off c l.length l w rfl hx hb hc).mono ?_
    rintro e w' ⟨rfl, hB, ho⟩
    exact ⟨_, _, rfl, hB, ho⟩
  · have e1 : l = [] := List.eq_nil_of_length_eq_zero (by omega)
    subst e1
    obtain ⟨i0, hi, hz0, hz1, hz2⟩ := info_parts Tryz.infoSl
    simp only [List.length_nil]
    clear hv h0 hx
    go_enter Tryz.func72, Tryz.ntmps72
    go_wp2_with (at_make; refine wpList_make_full _ rfl _ _ 95 rfl w.heap.size 45 i0 (.agg #[.int .i64 0, .int .i64 0]) 2 Tryz.underlying95 hi hz0 hz1 _ _ _ _ 0 rfl rfl rfl rfl (by rw [hz2]; omega) (by unfold maxLen; omega) (Nat.le_refl _) ?_)
    intro w1 hown1 hg1
    have hB1 : Below w.heap.size w w1 := (Below.refl _ _).grown hg1 (Nat.le_refl _) (fun k hk => by cases hk)
    have HO : Hid (w1.ownsRow w.heap.size 45 2 (.slice (some ⟨w.heap.size, 0, none⟩) 0 0) 0 []) := by
      have := hown1
      rw [made_two] at this
      exact this
    clear hown1 hg1
    go_wp2
    refine wp_loop_rounds 1 ?_; rw [rounds_succ]
    go_wp2
    go_ret
    exact ⟨_, _, rfl, hB1, HO.out⟩
set_option maxRecDepth 100000 in
theorem eqSlot_any (x y x' y' : Int) (w : World) :
    Calls Tryz.prog 131 #[.agg #[.int .i64 x, .int .i64 y], .agg #[.int .i64 x', .int .i64 y']] w fun e w' => e = .returned (.bool (decide ((x, y) = (x', y')))) ∧ Below w.heap.size w w' := by
  by_cases h1 : x = x'
  · by_cases h2 : y = y'
    · subst h1 h2
      rw [decide_eq_true rfl]
      go_enter Tryz.func131, Tryz.ntmps131
      go_wp2
      go_ret
      exact ⟨rfl, two_new _ _⟩
    · subst h1
      have e1 : (y != y') = true := by simpa using h2
      rw [decide_eq_false (fun h => h2 (by cases h; rfl))]
      clear h2
      go_enter Tryz.func131, Tryz.ntmps131
      go_wp2
      go_ret
      exact ⟨rfl, two_new _ _⟩
  · have e1 : (x != x') = true := by simpa using h1
    rw [decide_eq_false (fun h => h1 (by cases h; rfl))]
    clear h1
    go_enter Tryz.func131, Tryz.ntmps131
    go_wp2
    go_ret
    exact ⟨rfl, two_new _ _⟩
/-- Two lists that agree below a place. -/
def AgreeP (l m : Prl) (k : Nat) : Prop := ∀ j, j < k → pAt l j = pAt m j
theorem AgreeP.all {l m : Prl} (h : AgreeP l m l.length) (hl : l.length = m.length) : l = m := by
  apply List.ext_getElem hl
  intro j h1 h2
  have := h j h1
  rwa [pAt_eq h1, pAt_eq h2] at this
theorem AgreeP.succ {l m : Prl} {k : Nat} (h : AgreeP l m k) (h1 : pAt l k = pAt m k) : AgreeP l m (k + 1) := by
  intro j hj
  by_cases e : j = k
  · subst e; exact h1
  · exact h j (by omega)
set_option maxRecDepth 100000 in
set_option maxHeartbeats 2000000 in
theorem eqSlotS_core (b off c b' off' c' n : Nat) (l m : Prl) (w : World) (HL : Hid (l.length = n)) (HM : Hid (m.length = n)) (hn : n ≤ 1099511627776) (hb : b < w.heap.size) (hb' : b' < w.heap.size)
    (hc : ∀ j, j < n → w.cell? ⟨b, off + j * 2, none⟩ = some (.int .i64 (pAt l j).1) ∧ w.cell? ⟨b, off + j * 2 + 1, none⟩ = some (.int .i64 (pAt l j).2))
    (hc' : ∀ j, j < n → w.cell? ⟨b', off' + j * 2, none⟩ = some (.int .i64 (pAt m j).1) ∧ w.cell? ⟨b', off' + j * 2 + 1, none⟩ = some (.int .i64 (pAt m j).2)) :
    Calls Tryz.prog 77 #[.slice (some ⟨b, off, none⟩) n c, .slice (some ⟨b', off', none⟩) n c'] w fun e w' => e = .returned (.bool (decide (l = m))) ∧ Below w.heap.size w w' := by
  go_enter Tryz.func77, Tryz.ntmps77
  go_wp2
  go_loopw [5] (fun i wr => ∃ k : Nat, k ≤ n ∧ i = .int .i64 k ∧ Hid (AgreeP l m k) ∧ Below w.heap.size w wr) (fun i _ => n - (intOf i).toNat)
  case atStart => exact ⟨0, Nat.zero_le _, rfl, fun j hj => by omega, Below.refl _ _⟩
  case round =>
    obtain ⟨k, hk, rfl, hA, hB⟩ := hrel
    by_cases hkn : k < n
    · have hki : (k : Int) < (n : Int) := by omega
      have c1 := After.cell ((hB.cell (p := ⟨b, off + k * 2, none⟩) hb).trans (hc k hkn).1)
      have c2 := After.cell ((hB.cell (p := ⟨b, off + k * 2 + 1, none⟩) hb).trans (hc k hkn).2)
      have c3 := After.cell ((hB.cell (p := ⟨b', off' + k * 2, none⟩) hb').trans (hc' k hkn).1)
      have c4 := After.cell ((hB.cell (p := ⟨b', off' + k * 2 + 1, none⟩) hb').trans (hc' k hkn).2)
      have hne := After.ne wr
      have hE := fun w => eqSlot_any (pAt l k).1 (pAt l k).2 (pAt m k).1 (pAt m k).2 w
      have HL2 : Hid (l.length = n) := HL
      generalize hx : (pAt l k).1 = x at *
      generalize hy : (pAt l k).2 = y at *
      generalize hx' : (pAt m k).1 = x' at *
      generalize hy' : (pAt m k).2 = y' at *
      have HP : Hid (pAt l k = (x, y) ∧ pAt m k = (x', y')) := ⟨by rw [← hx, ← hy], by rw [← hx', ← hy']⟩
      obtain ⟨d, hd⟩ : ∃ d, d = decide ((x, y) = (x', y')) := ⟨_, rfl⟩
      have HD : Hid (d = decide ((x, y) = (x', y'))) := hd
      rw [← hd] at hE
      have HB : Hid (Below w.heap.size w wr) := hB
      clear hx hy hx' hy' hc hc' hd hB
      go_wp2
      refine wp_region_after (by kernel_rfl) (by kernel_rfl) ?_
      repeat (first | go_big_quiet_skip | (go_big_quiet_want; go_big_quiet_op; first | go_big_quiet_on | go_big_quiet_call (first | (go_at_call 131; refine (hE _).mono ?_; rintro e wq ⟨rfl, hbq⟩; exact ⟨rfl, after_mk (below_after_of (After.b _) hbq)⟩))))
      refine wpQuiet_nil ?_
      rintro _ ⟨n2, rfl⟩
      have hB2 : Below w.heap.size w n2.w := below_after_of HB.out n2.b
      cases d
      · have e1 : Hid (¬ l = m) := fun e => by
          have := HD.out.symm
          rw [decide_eq_false_iff_not] at this
          exact this (by rw [← HP.out.1, ← HP.out.2, e])
        go_wp2
        go_ret
        exact ⟨ret_bool (by symm; rw [decide_eq_false_iff_not]; exact e1.out), hB2⟩
      · go_wp2
        go_roundw
        case rel => exact ⟨k + 1, by omega, by go_num, hA.out.succ (by rw [HP.out.1, HP.out.2]; exact of_decide_eq_true HD.out.symm), hB2⟩
        case measure => simp [intOf]; omega
    · clear hc hc'
      go_wp2
      go_ret
      refine ⟨ret_bool ?_, hB⟩
      symm
      rw [decide_eq_true_iff]
      have hkn : k = n := by omega
      subst hkn
      have hxl := HL.out
      exact AgreeP.all (by rw [hxl]; exact hA.out) (HL.out.trans HM.out.symm)
set_option maxRecDepth 100000 in
set_option maxHeartbeats 1000000 in
theorem eqSlotS_any (v u : Value) (l m : Prl) (w : World) (hv : Prs w v l) (hu : Prs w u m) (hx : l.length ≤ 1099511627776) (hy : m.length ≤ 1099511627776) :
    Calls Tryz.prog 77 #[v, u] w fun e w' => e = .returned (.bool (decide (l = m))) ∧ Below w.heap.size w w' := by
  obtain ⟨a, c, rfl⟩ := hv.shape
  obtain ⟨a', c', rfl⟩ := hu.shape
  by_cases hl : l.length = m.length
  · by_cases h0 : 0 < l.length
    · obtain ⟨_, b, off, rfl, hb, hc⟩ := hv.at h0
      obtain ⟨_, b', off', rfl, hb', hc'⟩ := hu.at (by omega)
      rw [← hl] at hc' ⊢
      exact eqSlotS_core b off c b' off' c' l.length l m w rfl hl.symm hx hb hb' hc hc'
    · have e1 : l = [] := List.eq_nil_of_length_eq_zero (by omega)
      have e2 : m = [] := List.eq_nil_of_length_eq_zero (by omega)
      subst e1 e2
      simp only [List.length_nil]
      clear hv hu hl h0 hx hy
      go_enter Tryz.func77, Tryz.ntmps77
      go_wp2
      refine wp_loop_rounds 1 ?_; rw [rounds_succ]
      go_wp2
      go_ret
      exact ⟨rfl, Below.refl _ _⟩
  · have hne : decide (l = m) = false := by rw [decide_eq_false_iff_not]; intro e; exact hl (by rw [e])
    rw [hne]
    obtain ⟨n, hn⟩ : ∃ n, n = l.length := ⟨_, rfl⟩
    obtain ⟨k, hk⟩ : ∃ n, n = m.length := ⟨_, rfl⟩
    rw [← hn, ← hk] at hl ⊢
    have h1 : ((n : Int) != (k : Int)) = true := by simp; omega
    clear hv hu hl hne hn hk
    go_enter Tryz.func77, Tryz.ntmps77
    go_wp2
    go_ret
    exact ⟨rfl, Below.refl _ _⟩
end U
end Go.Proofs.YtihhigmceeabmaaGreat

/- The fault of a head, as both models tell it. -/
namespace Go.Proofs.YtihhigmceeabmaaGreat
open Go.RowKit
namespace U
set_option maxHeartbeats 400000 in
theorem isEpoch_any (n : Int) (w : World) : Calls Tryz.prog 95 #[.int .i64 n] w fun e w' => e = .returned (.bool (inB n 1 10)) ∧ w' = w := by
  by_cases h1 : 1 ≤ n
  · by_cases h2 : n ≤ 10
    · rw [inB_t h1 h2]
      go_enter Tryz.func95, Tryz.ntmps95
      go_wp2
      go_ret
      exact ⟨ret_bool (by simp), rfl⟩
    · rw [inB_f (Or.inr (by omega))]
      go_enter Tryz.func95, Tryz.ntmps95
      go_wp2
      go_ret
      exact ⟨ret_bool (by simp <;> omega), rfl⟩
  · rw [inB_f (Or.inl (by omega))]
    go_enter Tryz.func95, Tryz.ntmps95
    go_wp2
    go_ret
    exact ⟨ret_bool (by simp <;> omega), rfl⟩
set_option maxHeartbeats 400000 in
theorem isPhase_any (n : Int) (w : World) : Calls Tryz.prog 96 #[.int .i64 n] w fun e w' => e = .returned (.bool (inB n 1 5)) ∧ w' = w := by
  by_cases h1 : 1 ≤ n
  · by_cases h2 : n ≤ 5
    · rw [inB_t h1 h2]
      go_enter Tryz.func96, Tryz.ntmps96
      go_wp2
      go_ret
      exact ⟨ret_bool (by simp), rfl⟩
    · rw [inB_f (Or.inr (by omega))]
      go_enter Tryz.func96, Tryz.ntmps96
      go_wp2
      go_ret
      exact ⟨ret_bool (by simp <;> omega), rfl⟩
  · rw [inB_f (Or.inl (by omega))]
    go_enter Tryz.func96, Tryz.ntmps96
    go_wp2
    go_ret
    exact ⟨ret_bool (by simp <;> omega), rfl⟩
set_option maxHeartbeats 400000 in
theorem hasOld_any (p : Int) (w : World) : Calls Tryz.prog 104 #[.int .i64 p] w fun e w' => e = .returned (.bool (hasO p)) ∧ w' = w := by
  go_enter Tryz.func104, Tryz.ntmps104
  go_wp2
  go_ret
  exact ⟨rfl, rfl⟩
set_option maxHeartbeats 400000 in
theorem hasNew_any (p : Int) (w : World) : Calls Tryz.prog 107 #[.int .i64 p] w fun e w' => e = .returned (.bool (hasN p)) ∧ w' = w := by
  by_cases h : p = 3
  · subst h
    go_enter Tryz.func107, Tryz.ntmps107
    go_wp2
    go_ret
    exact ⟨rfl, rfl⟩
  · have h1 : (p == 3) = false := by simpa using h
    go_enter Tryz.func107, Tryz.ntmps107
    go_wp2
    go_ret
    exact ⟨ret_bool (by simp [hasN, h1]), rfl⟩
set_option maxHeartbeats 400000 in
theorem l10HasOld_any (p : Int) (w : World) : Calls Tryz.prog 83 #[.int .i64 p] w fun e w' => e = .returned (.bool (hasO p)) ∧ w' = w := by
  go_enter Tryz.func83, Tryz.ntmps83
  go_wp2
  go_ret
  exact ⟨rfl, rfl⟩
set_option maxHeartbeats 400000 in
theorem l10HasNew_any (p : Int) (w : World) : Calls Tryz.prog 84 #[.int .i64 p] w fun e w' => e = .returned (.bool (hasN p)) ∧ w' = w := by
  by_cases h : p = 3
  · subst h
    go_enter Tryz.func84, Tryz.ntmps84
    go_wp2
    go_ret
    exact ⟨rfl, rfl⟩
  · have h1 : (p == 3) = false := by simpa using h
    go_enter Tryz.func84, Tryz.ntmps84
    go_wp2
    go_ret
    exact ⟨ret_bool (by simp [hasN, h1]), rfl⟩
/-- What is left of the roots in a phase. -/
def kepO (p o : Int) : Int := if hasO p = true then o else 0
def kepN (p n : Int) : Int := if hasN p = true then n else 0
def trV (o n : Int) : Value := .agg #[.int .i64 o, .int .i64 n]
theorem below_in {w : World} {o o' : Obj} : Below w.heap.size w ((w.alloc o).alloc o') := two_new _ _
set_option maxRecDepth 100000 in
set_option maxHeartbeats 1000000 in
theorem keptIn_any (o n p : Int) (w : World) : Calls Tryz.prog 99 #[trV o n, .int .i64 p] w fun e w' => e = .returned (trV (kepO p o) (kepN p n)) ∧ Below w.heap.size w w' := by
  have hO := fun w => hasOld_any p w
  have hN := fun w => hasNew_any p w
  unfold kepO kepN trV
  rcases Bool.eq_false_or_eq_true (hasO p) with ho | ho <;> rcases Bool.eq_false_or_eq_true (hasN p) with hn | hn
  all_goals (
    rw [ho] at hO ⊢
    rw [hn] at hN ⊢
    simp only [if_true, if_false, Bool.false_eq_true]
    clear ho hn
    go_enter Tryz.func99, Tryz.ntmps99
    go_wp2_with fail
    refine (hO _).mono ?_
    rintro e w1 ⟨rfl, rfl⟩
    go_wp2_with fail
    refine (hN _).mono ?_
    rintro e w1 ⟨rfl, rfl⟩
    go_wp2
    refine bodyPost_ret (v := .agg #[.int .i64 _, .int .i64 _]) (by simp [results, Tryz.results99, go_sem]) rfl ⟨rfl, ?_⟩
    exact two_new _ _)
set_option maxRecDepth 100000 in
set_option maxHeartbeats 1000000 in
theorem areSums_any (o n : Int) (w : World) : Calls Tryz.prog 97 #[trV o n] w fun e w' => e = .returned (.bool (sumB o && sumB n)) ∧ Below w.heap.size w w' := by
  have hO := fun w => isSum_any o w
  have hN := fun w => isSum_any n w
  unfold trV
  rcases Bool.eq_false_or_eq_true (sumB o) with ho | ho
  · rw [ho] at hO ⊢
    go_enter Tryz.func97, Tryz.ntmps97
    go_wp2_with fail
    refine (hO _).mono ?_
    rintro e w1 ⟨rfl, rfl⟩
    go_wp2_with fail
    refine (hN _).mono ?_
    rintro e w1 ⟨rfl, rfl⟩
    go_wp2
    go_ret
    exact ⟨ret_bool (by simp), one_new _⟩
  · rw [ho] at hO ⊢
    go_enter Tryz.func97, Tryz.ntmps97
    go_wp2_with fail
    refine (hO _).mono ?_
    rintro e w1 ⟨rfl, rfl⟩
    go_wp2
    go_ret
    exact ⟨ret_bool (by simp), one_new _⟩
set_option maxRecDepth 100000 in
set_option maxHeartbeats 1000000 in
theorem rootedOf_any (e p o n v : Int) (w : World) : Calls Tryz.prog 94 #[hdV e p o n v] w fun x w' => x = .returned (hdV e p o n v) ∧ Below w.heap.size w w' := by
  unfold hdV
  go_enter Tryz.func94, Tryz.ntmps94
  go_wp2
  refine bodyPost_ret (v := .agg #[.int .i64 e, .int .i64 p, .int .i64 o, .int .i64 n, .int .i64 v]) (by simp [results, Tryz.results94, go_sem]) rfl ⟨rfl, ?_⟩
  exact two_new _ _
set_option maxRecDepth 100000 in
set_option maxHeartbeats 1000000 in
theorem flat_any (e p o n v : Int) (w : World) : Calls Tryz.prog 218 #[hdV e p o n v] w fun x w' => x = .returned (hdV e p o n v) ∧ Below w.heap.size w w' := by
  unfold hdV
  go_enter Tryz.func218, Tryz.ntmps218
  go_wp2
  refine bodyPost_ret (v := .agg #[.int .i64 e, .int .i64 p, .int .i64 o, .int .i64 n, .int .i64 v]) (by simp [results, Tryz.results218, go_sem]) rfl ⟨rfl, ?_⟩
  exact two_new _ _
set_option maxRecDepth 100000 in
set_option maxHeartbeats 1000000 in
theorem l10Numbers_any (e p v : Int) (w : World) : Calls Tryz.prog 81 #[.int .i64 e, .int .i64 p, .int .i64 v] w fun x w' => x = .returned (.bool (hdN e p v)) ∧ w' = w := by
  rcases Bool.eq_false_or_eq_true (inB e 1 10) with he | he <;> rcases Bool.eq_false_or_eq_true (inB p 1 5) with hp | hp
  all_goals (
    go_enter Tryz.func81, Tryz.ntmps81
    go_wp2_with (first | (go_at_call 69; refine (l1In_any _ _ _ _).mono ?_; rintro e wq ⟨rfl, rfl⟩) | (go_at_call 82; refine (l2Is_any _ _).mono ?_; rintro e wq ⟨rfl, rfl⟩))
    go_ret
    exact ⟨ret_bool (by simp [hdN, he, hp]), rfl⟩)
/-- Two pairs of roots held against each other. -/
theorem tr_neq (a b c d : Int) (w : World) : (binOp .neq 172 (trV a b) (trV c d)).run Tryz.prog w = .ok (.bool (!(a == c && b == d))) w := by
  unfold trV
  simp [go_sem]
  by_cases h1 : a = c <;> by_cases h2 : b = d <;> simp [h1, h2]
end U
end Go.Proofs.YtihhigmceeabmaaGreat

/- The fault of a head, as both models tell it. -/
namespace Go.Proofs.YtihhigmceeabmaaGreat
open Go.RowKit
namespace U
set_option maxRecDepth 100000 in
set_option maxHeartbeats 4000000 in
theorem l10Fault_any (b off : Nat) (e p o n v : Int) (w : World) (h : HdS w b off ⟨e, p, o, n, v⟩) :
    Calls Tryz.prog 38 #[.pointer (some ⟨b, off, none⟩)] w fun x w' => x = .returned (.int .i64 (hdC e p o n v)) ∧ Below w.heap.size w w' := by
  obtain ⟨c0, c1, c2, c3, c4⟩ := h
  have hq0 := After.cell c0
  have hq1 := After.cell c1
  have hq2 := After.cell c2
  have hq3 := After.cell c3
  have hq4 := After.cell c4
  dsimp only at c0 c1 c2 c3 c4 hq0 hq1 hq2 hq3 hq4
  have hne := After.ne w
  have hN := fun w => l10Numbers_any e p v w
  have hO := fun w => l2Is_any o w
  have hW := fun w => l2Is_any n w
  have HR : Hid (hdN e p v = false ∨ sumB o = false ∨ sumB n = false → hdC e p o n v = 3) := fun h => hdC_range (by unfold hdR; rcases h with h | h | h <;> simp [h])
  have HF : Hid (hdN e p v = true → sumB o = true → sumB n = true → hdF p o n = false → hdC e p o n v = 1) := fun a b c d => hdC_form (by unfold hdR; simp [a, b, c]) d
  have HK : Hid (hdN e p v = true → sumB o = true → sumB n = true → hdF p o n = true → hdC e p o n v = 0) := fun a b c d => hdC_ok (by unfold hdR; simp [a, b, c]) d
  generalize hdC e p o n v = q at *
  rcases Bool.eq_false_or_eq_true (hdN e p v) with h1 | h1
  · rcases Bool.eq_false_or_eq_true (sumB o) with h2 | h2
    · rcases Bool.eq_false_or_eq_true (sumB n) with h3 | h3
      · have HF2 : Hid (hdF p o n = false → q = 1) := HF.out h1 h2 h3
        have HK2 : Hid (hdF p o n = true → q = 0) := HK.out h1 h2 h3
        rw [h1] at hN
        rw [h2] at hO
        rw [h3] at hW
        have hOo := fun w => l10HasOld_any p w
        have hNn := fun w => l10HasNew_any p w
        clear h1 h2 h3 HR HF HK
        have hzo : (o != 0) = !(o == 0) := rfl
        have hzn : (n != 0) = !(n == 0) := rfl
        have HD : Hid (hdF p o n = ((hasO p || o == 0) && (hasN p || n == 0))) := rfl
        go_enter Tryz.func38, Tryz.ntmps38
        go_wp2_with fail
        refine wp_region_after (by kernel_rfl) (by kernel_rfl) ?_
        repeat (first | go_big_quiet_skip | (go_big_quiet_want; go_big_quiet_op; first | go_big_quiet_on | go_big_quiet_call (first | (go_at_call 81; refine (hN _).mono ?_; rintro e wq ⟨rfl, hbq⟩; exact ⟨rfl, _, hbq⟩) | (go_at_call 82; refine (hO _).mono ?_; rintro e wq ⟨rfl, hbq⟩; exact ⟨rfl, _, hbq⟩) | (go_at_call 82; refine (hW _).mono ?_; rintro e wq ⟨rfl, hbq⟩; exact ⟨rfl, _, hbq⟩))))
        refine wpQuiet_nil ?_
        rintro _ ⟨n6, rfl⟩
        have hb6 := n6.b
        have k1 := hq1 n6
        have k2 := hq2 n6
        have k3 := hq3 n6
        generalize n6.w = w6 at *
        clear hq0 hq1 hq2 hq3 hq4 hne c0 c1 c2 c3 c4 hN hO hW
        rcases Bool.eq_false_or_eq_true (hasO p) with a1 | a1 <;> rcases Bool.eq_false_or_eq_true (o == 0) with a2 | a2 <;> rcases Bool.eq_false_or_eq_true (hasN p) with a3 | a3 <;> rcases Bool.eq_false_or_eq_true (n == 0) with a4 | a4
        all_goals (
          rw [a1] at hOo
          rw [a3] at hNn
          rw [a2] at hzo
          rw [a4] at hzn
          have hd := HD.out
          rw [a1, a2, a3, a4] at hd
          have HQ := HF2.out
          have HQ' := HK2.out
          rw [hd] at HQ HQ'
          have HX : Hid (q = _) := (by first | exact HQ rfl | exact HQ' rfl)
          clear HQ HQ' hd HF2 HK2 HD a1 a2 a3 a4
          go_wp2_with (first | (go_at_call 83; refine (hOo _).mono ?_; rintro e wq ⟨rfl, rfl⟩) | (go_at_call 84; refine (hNn _).mono ?_; rintro e wq ⟨rfl, rfl⟩))
          go_ret
          exact ⟨ret_int HX.out.symm, hb6⟩)
      · have HX : Hid (q = 3) := HR.out (Or.inr (Or.inr h3))
        rw [h1] at hN
        rw [h2] at hO
        rw [h3] at hW
        clear h1 h2 h3
        clear HR HF HK
        go_enter Tryz.func38, Tryz.ntmps38
        go_wp2_with fail
        refine wp_region_after (by kernel_rfl) (by kernel_rfl) ?_
        repeat (first | go_big_quiet_skip | (go_big_quiet_want; go_big_quiet_op; first | go_big_quiet_on | go_big_quiet_call (first | (go_at_call 81; refine (hN _).mono ?_; rintro e wq ⟨rfl, hbq⟩; exact ⟨rfl, _, hbq⟩) | (go_at_call 82; refine (hO _).mono ?_; rintro e wq ⟨rfl, hbq⟩; exact ⟨rfl, _, hbq⟩) | (go_at_call 82; refine (hW _).mono ?_; rintro e wq ⟨rfl, hbq⟩; exact ⟨rfl, _, hbq⟩))))
        refine wpQuiet_nil ?_
        rintro _ ⟨n6, rfl⟩
        have hb6 := n6.b
        clear hq0 hq1 hq2 hq3 hq4 hne c0 c1 c2 c3 c4 hN hO hW
        go_wp2
        go_ret
        exact ⟨ret_int HX.out.symm, hb6⟩
    · have HX : Hid (q = 3) := HR.out (Or.inr (Or.inl h2))
      rw [h1] at hN
      rw [h2] at hO
      clear h1 h2
      clear HR HF HK
      go_enter Tryz.func38, Tryz.ntmps38
      go_wp2_with fail
      refine wp_region_after (by kernel_rfl) (by kernel_rfl) ?_
      repeat (first | go_big_quiet_skip | (go_big_quiet_want; go_big_quiet_op; first | go_big_quiet_on | go_big_quiet_call (first | (go_at_call 81; refine (hN _).mono ?_; rintro e wq ⟨rfl, hbq⟩; exact ⟨rfl, _, hbq⟩) | (go_at_call 82; refine (hO _).mono ?_; rintro e wq ⟨rfl, hbq⟩; exact ⟨rfl, _, hbq⟩) | (go_at_call 82; refine (hW _).mono ?_; rintro e wq ⟨rfl, hbq⟩; exact ⟨rfl, _, hbq⟩))))
      refine wpQuiet_nil ?_
      rintro _ ⟨n6, rfl⟩
      have hb6 := n6.b
      clear hq0 hq1 hq2 hq3 hq4 hne c0 c1 c2 c3 c4 hN hO hW
      go_wp2
      go_ret
      exact ⟨ret_int HX.out.symm, hb6⟩
  · have HX : Hid (q = 3) := HR.out (Or.inl h1)
    rw [h1] at hN
    clear h1
    clear HR HF HK
    go_enter Tryz.func38, Tryz.ntmps38
    go_wp2_with fail
    refine wp_region_after (by kernel_rfl) (by kernel_rfl) ?_
    repeat (first | go_big_quiet_skip | (go_big_quiet_want; go_big_quiet_op; first | go_big_quiet_on | go_big_quiet_call (first | (go_at_call 81; refine (hN _).mono ?_; rintro e wq ⟨rfl, hbq⟩; exact ⟨rfl, _, hbq⟩) | (go_at_call 82; refine (hO _).mono ?_; rintro e wq ⟨rfl, hbq⟩; exact ⟨rfl, _, hbq⟩) | (go_at_call 82; refine (hW _).mono ?_; rintro e wq ⟨rfl, hbq⟩; exact ⟨rfl, _, hbq⟩))))
    refine wpQuiet_nil ?_
    rintro _ ⟨n6, rfl⟩
    have hb6 := n6.b
    clear hq0 hq1 hq2 hq3 hq4 hne c0 c1 c2 c3 c4 hN hO hW
    go_wp2
    go_ret
    exact ⟨ret_int HX.out.symm, hb6⟩
theorem five_cells {w : World} {b : Nat} {x0 x1 x2 x3 x4 : Value} {t : TypeId} (h : w.heap[b]? = some (.cells #[x0, x1, x2, x3, x4] t (0, 0))) : w.cell? ⟨b, 0, none⟩ = some x0 ∧ w.cell? ⟨b, 1, none⟩ = some x1 ∧ w.cell? ⟨b, 2, none⟩ = some x2 ∧ w.cell? ⟨b, 3, none⟩ = some x3 ∧ w.cell? ⟨b, 4, none⟩ = some x4 := by
  simp [World.cell?, h]
theorem kep_same (p o n : Int) : ((kepO p o == o) && (kepN p n == n)) = hdF p o n := by
  unfold kepO kepN hdF
  rcases Bool.eq_false_or_eq_true (hasO p) with h1 | h1 <;> rcases Bool.eq_false_or_eq_true (hasN p) with h2 | h2 <;> simp [h1, h2] <;> (rw [Bool.eq_iff_iff]; simp) <;> omega
set_option maxRecDepth 100000 in
set_option maxHeartbeats 4000000 in
theorem implHeadFault_any (e p o n v : Int) (w : World) :
    Calls Tryz.prog 48 #[hdV e p o n v] w fun x w' => x = .returned (.int .i64 (hdC e p o n v)) ∧ Below w.heap.size w w' := by
  have hRt := fun w => rootedOf_any e p o n v w
  have hE := fun w => isEpoch_any e w
  have hP := fun w => isPhase_any p w
  have hS := fun w => areSums_any o n w
  have hV := fun w => isSum_any v w
  have hK := fun w => keptIn_any o n p w
  have hne2 := tr_neq (kepO p o) (kepN p n) o n
  rw [kep_same] at hne2
  have HR : Hid (inB e 1 10 = false ∨ inB p 1 5 = false ∨ (sumB o && sumB n) = false ∨ sumB v = false → hdC e p o n v = 3) := fun h => hdC_range (by unfold hdR hdN; rcases h with h | h | h | h <;> simp [h])
  have HF : Hid (inB e 1 10 = true → inB p 1 5 = true → (sumB o && sumB n) = true → sumB v = true → hdF p o n = false → hdC e p o n v = 1) := fun a b c d f => hdC_form (by unfold hdR hdN; simp [a, b, c, d]) f
  have HK : Hid (inB e 1 10 = true → inB p 1 5 = true → (sumB o && sumB n) = true → sumB v = true → hdF p o n = true → hdC e p o n v = 0) := fun a b c d f => hdC_ok (by unfold hdR hdN; simp [a, b, c, d]) f
  generalize hdC e p o n v = q at *
  generalize (sumB o && sumB n) = s at *
  generalize kepO p o = ko at *
  generalize kepN p n = kn at *
  have H0 := heap_alloc_new w (.cells #[.int .i64 e, .int .i64 p, .int .i64 o, .int .i64 n, .int .i64 v] 43)
  unfold hdV trV at *
  go_enter Tryz.func48, Tryz.ntmps48
  go_wp2_with fail
  refine (hRt _).mono ?_
  rintro x w1 ⟨rfl, hb1⟩
  have B1 := (hb1.block w.heap.size (by simp)).trans H0
  have hlt : w.heap.size < w1.heap.size := (Array.getElem?_eq_some_iff.1 B1).1
  obtain ⟨W2, hW2⟩ : ∃ W2, W2 = w1.alloc (.cells #[.int .i64 e, .int .i64 p, .int .i64 o, .int .i64 n, .int .i64 v] 174) := ⟨_, rfl⟩
  have HW2 : Hid (w1.alloc (.cells #[.int .i64 e, .int .i64 p, .int .i64 o, .int .i64 n, .int .i64 v] 174) = W2) := hW2.symm
  have B2 : W2.heap[w.heap.size]? = some (.cells #[.int .i64 e, .int .i64 p, .int .i64 o, .int .i64 n, .int .i64 v] 43) := by rw [hW2]; exact ((one_new _).block w.heap.size hlt).trans B1
  have A2 : W2.heap[w1.heap.size]? = some (.cells #[.int .i64 e, .int .i64 p, .int .i64 o, .int .i64 n, .int .i64 v] 174) := by rw [hW2]; exact heap_alloc_new w1 _
  have HB2 : Hid (Below w.heap.size w W2) := by rw [hW2]; exact below_after_of (below_after hb1) (one_new _)
  obtain ⟨j0, j1, j2, j3, j4⟩ := five_cells B1
  clear hb1 H0 hRt hW2
  go_wp2_with fail
  rw [HW2.out]
  clear j0 j1 j2 j3 j4 B1
  obtain ⟨c0, c1, c2, c3, c4⟩ := five_cells B2
  obtain ⟨d0, d1, d2, d3, d4⟩ := five_cells A2
  rcases Bool.eq_false_or_eq_true (inB e 1 10) with h1 | h1
  · rcases Bool.eq_false_or_eq_true (inB p 1 5) with h2 | h2
    · rcases Bool.eq_false_or_eq_true s with h3 | h3
      · subst h3
        rw [h1] at hE
        rw [h2] at hP
        refine (hE _).mono ?_
        rintro x w5 ⟨rfl, rfl⟩
        go_wp2_with fail
        refine (hP _).mono ?_
        rintro x w5 ⟨rfl, rfl⟩
        go_wp2_with fail
        refine (hS _).mono ?_
        rintro x w3 ⟨rfl, hb3⟩
        have HB3 : Hid (Below w.heap.size w w3) := below_after_of HB2.out hb3
        have B3 := (hb3.block w.heap.size (Array.getElem?_eq_some_iff.1 B2).1).trans B2
        have A3 := (hb3.block w1.heap.size (Array.getElem?_eq_some_iff.1 A2).1).trans A2
        clear c0 c1 c2 c3 c4 d0 d1 d2 d3 d4 A2 B2 hb3 hE hP hS
        obtain ⟨c0, c1, c2, c3, c4⟩ := five_cells B3
        obtain ⟨d0, d1, d2, d3, d4⟩ := five_cells A3
        have q1 := After.cell c1
        have r2 := After.cell d2
        have r3 := After.cell d3
        have hne := After.ne w3
        rcases Bool.eq_false_or_eq_true (sumB v) with h4 | h4
        · rw [h4] at hV
          rcases Bool.eq_false_or_eq_true (hdF p o n) with h5 | h5
          · have HX : Hid (q = 0) := HK.out h1 h2 (by first | rfl | trivial) h4 h5
            rw [h5] at hne2
            clear HK HF HR h1 h2 h4 h5
            go_wp2_with fail
            refine (hV _).mono ?_
            rintro x w5 ⟨rfl, rfl⟩
            go_wp2_with fail
            refine wp_region_after (by kernel_rfl) (by kernel_rfl) ?_
            repeat (first | go_big_quiet_skip | (go_big_quiet_want; go_big_quiet_op; first | go_big_quiet_on | go_big_quiet_call (first | (go_at_call 99; refine (hK _).mono ?_; rintro e wq ⟨rfl, hbq⟩; exact ⟨rfl, after_mk (below_after_of (After.b _) hbq)⟩))))
            refine wpQuiet_nil ?_
            rintro _ ⟨n6, rfl⟩
            have hb6 := below_after_of HB3.out n6.b
            clear q1 r2 r3 hne hK hne2
            go_wp2
            go_ret
            exact ⟨ret_int HX.out.symm, hb6⟩
          · have HX : Hid (q = 1) := HF.out h1 h2 (by first | rfl | trivial) h4 h5
            rw [h5] at hne2
            clear HK HF HR h1 h2 h4 h5
            go_wp2_with fail
            refine (hV _).mono ?_
            rintro x w5 ⟨rfl, rfl⟩
            go_wp2_with fail
            refine wp_region_after (by kernel_rfl) (by kernel_rfl) ?_
            repeat (first | go_big_quiet_skip | (go_big_quiet_want; go_big_quiet_op; first | go_big_quiet_on | go_big_quiet_call (first | (go_at_call 99; refine (hK _).mono ?_; rintro e wq ⟨rfl, hbq⟩; exact ⟨rfl, after_mk (below_after_of (After.b _) hbq)⟩))))
            refine wpQuiet_nil ?_
            rintro _ ⟨n6, rfl⟩
            have hb6 := below_after_of HB3.out n6.b
            clear q1 r2 r3 hne hK hne2
            go_wp2
            go_ret
            exact ⟨ret_int HX.out.symm, hb6⟩
        · have HX : Hid (q = 3) := HR.out (Or.inr (Or.inr (Or.inr h4)))
          rw [h4] at hV
          clear HK HF HR h1 h2 h4
          go_wp2_with fail
          refine (hV _).mono ?_
          rintro x w5 ⟨rfl, rfl⟩
          go_wp2
          go_ret
          exact ⟨ret_int HX.out.symm, HB3.out⟩
      · subst h3
        have HX : Hid (q = 3) := HR.out (Or.inr (Or.inr (Or.inl rfl)))
        rw [h1] at hE
        rw [h2] at hP
        clear HK HF HR h1 h2
        refine (hE _).mono ?_
        rintro x w5 ⟨rfl, rfl⟩
        go_wp2_with fail
        refine (hP _).mono ?_
        rintro x w5 ⟨rfl, rfl⟩
        go_wp2_with fail
        refine (hS _).mono ?_
        rintro x w3 ⟨rfl, hb3⟩
        have HB3 : Hid (Below w.heap.size w w3) := below_after_of HB2.out hb3
        clear hb3
        go_wp2
        go_ret
        exact ⟨ret_int HX.out.symm, HB3.out⟩
    · have HX : Hid (q = 3) := HR.out (Or.inr (Or.inl h2))
      rw [h1] at hE
      rw [h2] at hP
      clear HK HF HR h1 h2
      refine (hE _).mono ?_
      rintro x w5 ⟨rfl, rfl⟩
      go_wp2_with fail
      refine (hP _).mono ?_
      rintro x w5 ⟨rfl, rfl⟩
      go_wp2
      go_ret
      exact ⟨ret_int HX.out.symm, HB2.out⟩
  · have HX : Hid (q = 3) := HR.out (Or.inl h1)
    rw [h1] at hE
    clear HK HF HR h1
    refine (hE _).mono ?_
    rintro x w5 ⟨rfl, rfl⟩
    go_wp2
    go_ret
    exact ⟨ret_int HX.out.symm, HB2.out⟩
end U
end Go.Proofs.YtihhigmceeabmaaGreat

/- The bytes of a record: what both models answer. -/
namespace Go.Proofs.YtihhigmceeabmaaGreat
open Go.RowKit
namespace U
theorem RecAt.grown {w w' : World} {g : Nat} {l : ByteArray} {v o p : Int} {row : Option Nat} (h : RecAt w g l v o p) (hg : w.grownBy w' row) (hne : some g ≠ row) : RecAt w' g l v o p :=
  ⟨hg.cell h.c0 hne, hg.cell h.c1 hne, hg.cell h.c2 hne, hg.cell h.c3 hne⟩
theorem lit_own2 (w : World) (x y : Int) : (w.alloc (.cells #[.int .u8 x, .int .u8 y] 5)).ownsRow w.heap.size 5 1 (.slice (some ⟨w.heap.size, 0, none⟩) 2 2) 2 [.int .u8 x, .int .u8 y] := by
  have := World.ownsRow_lit (base := w.heap.size) (e := 5) (size := 1) w #[.int .u8 x, .int .u8 y] 2 (by simp) (by decide) rfl
  simpa using this
theorem row_news {w : World} {g : Nat} {s : ByteArray} (h : ∀ j, j < s.size → w.cell? ⟨g, j, none⟩ = some (.int .u8 (bt s j))) : ∀ j u, ((bl s).map (Value.int .u8))[j]? = some u → w.cell? ((⟨g, 0, none⟩ : Addr).add j) = some u :=
  bts_news (fun j hj => by rw [bl_len] at hj; rw [Nat.zero_add, h j hj, bl_at s hj])
def rowO (s : ByteArray) (cap : Nat) (e : TypeId) : Obj := .cells (bytesRow s cap) e ((bytesRow s cap).size, (bytesRow s cap).size + 1)
theorem row_le (s : ByteArray) (cap : Nat) : s.size ≤ (bytesRow s cap).size := by simp [bytesRow]
theorem rowA (w : World) (o : Obj) (s : ByteArray) (cap : Nat) (e : TypeId) : ∀ j, j < s.size → ((w.alloc o).alloc (rowO s cap e)).drew.drew.cell? ⟨w.heap.size + 1, j, none⟩ = some (.int .u8 (bt s j)) := fun j hj => by
  have := (bytes_row (w.alloc o) e s cap ((bytesRow s cap).size, (bytesRow s cap).size + 1) (row_le s cap) j hj).1
  rw [World.size_alloc] at this
  exact this
theorem rowB (w : World) (o : Obj) (s : ByteArray) (cap : Nat) (e : TypeId) : ∀ j, j < s.size → ((w.alloc (rowO s cap e)).alloc o).drew.drew.cell? ⟨w.heap.size, j, none⟩ = some (.int .u8 (bt s j)) := fun j hj => by
  have h := (bytes_row w e s cap ((bytesRow s cap).size, (bytesRow s cap).size + 1) (row_le s cap) j hj).1
  have h2 := (one_new (w := w.alloc (rowO s cap e)) o).cell (p := ⟨w.heap.size, j, none⟩) (by simp)
  exact h2.trans h
theorem ownB (w : World) (o : Obj) (x y : Int) : ((w.alloc o).alloc (.cells #[.int .u8 x, .int .u8 y] 5)).drew.drew.ownsRow w.heap.size 5 1 (.slice (some ⟨w.heap.size + 1, 0, none⟩) 2 2) 2 [.int .u8 x, .int .u8 y] := by
  have := own_mono (lit_own2 (w.alloc o) x y) (B := w.heap.size) (by simp)
  simpa using this.drew.drew
theorem own_open {w : World} {B n : Nat} {e : TypeId} {v : Value} {xs : List Value} (h : w.ownsRow B e 1 v n xs) (h0 : 0 < n) :
    ∃ g cap, v = .slice (some ⟨g, 0, none⟩) n cap ∧ n ≤ cap ∧ cap ≤ maxLen ∧ B ≤ g ∧ g < w.heap.size ∧ ∀ j, j < n → w.cell? ⟨g, j, none⟩ = xs[j]? := by
  rcases h.2 with ⟨-, hn⟩ | ⟨g, cap, cur, rfl, hB, hg, hc, hm, _⟩
  · omega
  · exact ⟨g, cap, rfl, hc, hm, hB, (Array.getElem?_eq_some_iff.1 hg).1, fun j hj => h.cellAt j (by omega)⟩
theorem lit3_ints (w : World) (x y z : Int) (t : TypeId) : Ints .i64 (w.alloc (.cells #[.int .i64 x, .int .i64 y, .int .i64 z] t)) (.slice (some ⟨w.heap.size, 0, none⟩) 3 3) [x, y, z] := by
  refine Or.inr ⟨w.heap.size, 0, 3, rfl, by simp, fun j hj => ?_⟩
  have hh := heap_alloc_new w (.cells #[.int .i64 x, .int .i64 y, .int .i64 z] t)
  simp only [List.length_cons, List.length_nil] at hj
  rcases (show j = 0 ∨ j = 1 ∨ j = 2 by omega) with rfl | rfl | rfl <;> (unfold World.cell?; rw [hh]; rfl)
/-- Three numbers, two bytes each. -/
def six (v o p : Int) : List Int := [v / 256, v % 256, o / 256, o % 256, p / 256, p % 256]
set_option maxHeartbeats 400000 in
theorem l2Bytes3 (x : Value) (v o p : Int) (w : World) (hv : Ints .i64 w x [v, o, p]) (hs : [v, o, p].all sumB = true) :
    Calls Tryz.prog 165 #[.int .i64 0, x] w fun e w' => ∃ g c, e = .returned (.slice (some ⟨g, 0, none⟩) 7 c) ∧ 7 ≤ c ∧ w.heap.size ≤ g ∧ g < w'.heap.size ∧ (∀ j u, ((six v o p).map (Value.int .u8))[j]? = some u → w'.cell? ((⟨g, 1, none⟩ : Addr).add j) = some u) ∧ Below w.heap.size w w' := by
  refine (l2Bytes_any 0 x [v, o, p] w hv (by simp) (by omega) hs).mono ?_
  rintro e w' ⟨v', rfl, hown, hb⟩
  have hl : (tagL 0 [v, o, p]).length = 7 := by simp [tagL, numB]
  rw [hl] at hown
  obtain ⟨g, c, rfl, hc, -, hB, hg, hcell⟩ := own_open hown (by omega)
  refine ⟨g, c, rfl, hc, hB, hg, fun j u hu => ?_, hb⟩
  have hj : j < 6 := by
    have := (List.getElem?_eq_some_iff.1 hu).1
    simpa [six] using this
  rw [Addr.add_lit, hcell (1 + j) (by omega)]
  have e1 : tagL 0 [v, o, p] = 0 :: six v o p := by simp [tagL, numB, six]
  rw [e1, List.map_cons, Nat.add_comm, List.getElem?_cons_succ]
  exact hu
attribute [local go_sem] Go.wp_at_zero Go.wp_at_succ
set_option maxRecDepth 100000 in
set_option maxHeartbeats 4000000 in
theorem l3Pack_fit (g : Nat) (l : ByteArray) (v o p : Int) (w : World) (h : RecAt w g l v o p) (hsm : l.size ≤ 12) (hl0 : 0 < l.size) (hSS : [v, o, p].all sumB = true) (hg : g < w.heap.size) :
    Calls Tryz.prog 134 #[.pointer (some ⟨g, 0, none⟩)] w fun e w' => ∃ v', e = .returned v' ∧ w'.ownsRow w.heap.size 5 1 v' (packL l v o p).length ((packL l v o p).map (Value.int .u8)) ∧ Below w.heap.size w w' := by
  obtain ⟨i0, hi, hz0, hz1, hz2⟩ := info_parts Tryz.infoB
  have hws : IntKind.u8.wrap (l.size : Int) = (l.size : Int) := wrapU8' _ (by omega) (by omega)
  have kc := fun (w : World) => run_bytes_of_string (P := Tryz.prog) w 9 166 5 l Tryz.underlying9 Tryz.underlying166 Tryz.underlying5
  have hc0 := h.c0
  obtain ⟨n, hn⟩ : ∃ n, n = l.size := ⟨_, rfl⟩
  have hbn := bl_len l
  go_enter Tryz.func134, Tryz.ntmps134
  go_wp2
  go_region_law (first
    | (refine step_append_lies _ (by rfl) _ _ _ (by rfl) w.heap.size 5 i0 _ 1 1 Tryz.underlying166 hi hz0 hz1 hz2 rfl (by omega) (.slice (some ⟨w.heap.size, 0, none⟩) 2 2) 2 [.int .u8 1, .int .u8 (l.size : Int)] (by rfl) ((((lit_own2 w 1 l.size).alloc _).drew).drew) ⟨w.heap.size + 1, 0, none⟩ l.size _ ((bl l).map (Value.int .u8)) (by rfl) (by simp [hbn]) (row_news (rowA w _ l _ _)) (ints_oneCell .u8 (bl l)) (by omega) (by unfold maxLen; omega) (by omega) (by simp; try omega) (w.heap.size + 2) (by simp) ?_; intro g1 cap1 w1 hown1 hgrow hat hlt)
    | (refine step_append_lies _ (by rfl) _ _ _ (by rfl) w.heap.size 5 i0 _ 1 1 Tryz.underlying166 hi hz0 hz1 hz2 rfl (by omega) (.slice (some ⟨w.heap.size + 1, 0, none⟩) 2 2) 2 [.int .u8 1, .int .u8 (l.size : Int)] (by rfl) (ownB w _ 1 l.size) ⟨w.heap.size, 0, none⟩ l.size _ ((bl l).map (Value.int .u8)) (by rfl) (by simp [hbn]) (row_news (rowB w _ l _ _)) (ints_oneCell .u8 (bl l)) (by omega) (by unfold maxLen; omega) (by omega) (by simp; try omega) (w.heap.size + 2) (by simp) ?_; intro g1 cap1 w1 hown1 hgrow hat hlt))
  all_goals (
    have hb1 : Below w.heap.size w w1 := ((two_new _ _).drew.drew).grown hgrow (by simp; try omega) (fun k hk => by simp [Value.ownBlock] at hk; omega)
    have own1 : w1.ownsRow w.heap.size 5 1 (.slice (some ⟨g1, 0, none⟩) (2 + l.size) cap1) (2 + l.size) ((headL l).map (Value.int .u8)) := hown1
    have hge1 : w.heap.size ≤ g1 := (own1.lt g1 rfl).1
    clear hgrow hown1 hat
    have R1 := h.below hb1
    have hg1 : g < w1.heap.size := Nat.lt_of_lt_of_le hg hb1.size
    have ⟨c0, c1, c2, c3⟩ := R1
    have hS := hSS
    have HS : Hid ([v, o, p].all sumB = true) := hS
    clear hS hc0 kc
    have h6 : (six v o p).length = 6 := rfl
    go_wp2
    go_region_held3 (fun w' => w'.cell? ⟨g, 1, none⟩ = some (.int .i64 v) ∧ w'.cell? ⟨g, 2, none⟩ = some (.int .i64 o) ∧ w'.cell? ⟨g, 3, none⟩ = some (.int .i64 p)) (first | go_keep | (have R2 := R1.below hb2'; exact ⟨R2.c1, R2.c2, R2.c3⟩) | (have R3 := (R1.below hb2').grown hgrow3 (by simp [Value.ownBlock]; omega); exact ⟨R3.c1, R3.c2, R3.c3⟩) | exact True.intro) (first
      | (go_at_call 165; refine (l2Bytes3 _ v o p _ ?_ HS.out).mono ?_; (first | exact lit3_ints w1 v o p _ | exact lit3_ints w1.drew v o p _ | (trace_state; fail)); rintro e w2 ⟨g2, cap2, rfl, hcap2, hg2, hg2', hnews2, hb2⟩; have hb2' : Below w1.heap.size w1 w2 := (by first | exact below_after_of (one_new _).drew hb2 | exact below_after_of (one_new _) hb2); have own2 := own_below own1 hb2'; clear hb2)
      | (refine step_append_lies _ (by rfl) _ _ _ (by rfl) w.heap.size 5 i0 _ 1 1 Tryz.underlying166 hi hz0 hz1 hz2 rfl (by omega) (.slice (some ⟨g1, 0, none⟩) (2 + l.size) cap1) (2 + l.size) ((headL l).map (Value.int .u8)) (by rfl) own2 ⟨g2, 1, none⟩ 6 (cap2 - 1) ((six v o p).map (Value.int .u8)) (by simp [Act.eval]; omega) (by simp [h6]) hnews2 (ints_oneCell .u8 (six v o p)) (by omega) (by unfold maxLen; omega) (by omega) (by have q1 := hb1.size; have q2 := hb2'.size; simp; omega) w2.heap.size (by simp) ?_; intro g3 cap3 w3 hown3 hgrow3 hat3 hlt3))
    have hb3 : Below w.heap.size w w3 := (below_after_of hb1 hb2').grown hgrow3 (by have q1 := hb1.size; have q2 := hb2'.size; omega) (fun k hk => by simp [Value.ownBlock] at hk; omega)
    clear hgrow3 hat3 own2 own1 hb2' hnews2 R1 c0 c1 c2 c3
    go_wp2
    go_ret
    refine ⟨_, rfl, ?_, hb3⟩
    have e1 : packL l v o p = headL l ++ six v o p := rfl
    have e2 : (packL l v o p).length = 2 + l.size + 6 := by rw [packL_len]; omega
    rw [e2, e1, List.map_append]
    exact hown3)
theorem l3Pack_any (g : Nat) (l : ByteArray) (v o p : Int) (w : World) (h : RecAt w g l v o p) (hR : RecOk l v o p) (hg : g < w.heap.size) :
    Calls Tryz.prog 134 #[.pointer (some ⟨g, 0, none⟩)] w fun e w' => ∃ v', e = .returned v' ∧ w'.ownsRow w.heap.size 5 1 v' (packL l v o p).length ((packL l v o p).map (Value.int .u8)) ∧ Below w.heap.size w w' := l3Pack_fit g l v o p w h hR.small hR.pos hR.sums hg
/-- Bytes of one's own, with numbers behind them. -/
theorem own_pair2 {w : World} {B : Nat} {e : TypeId} {k : IntKind} {v : Value} {zs : List Int} {b d : Int} (h : w.ownsRow B e 1 v (zs.length + 2) (zs.map (Value.int k) ++ [.int k b, .int k d])) : w.ownsRow B e 1 v (zs ++ [b, d]).length ((zs ++ [b, d]).map (Value.int k)) := by
  rw [List.map_append, List.length_append]; exact h
/-- The numbers that are handed in stay apart from the row that grows. -/
def Stay (w : World) (a : Option Addr) (n c : Nat) (xs : List Int) (u : Value) : Prop := Ints .i64 w (.slice a n c) xs ∧ ∀ b off, a = some ⟨b, off, none⟩ → 0 < n → b < w.heap.size ∧ u.ownBlock ≠ some b
set_option maxRecDepth 100000 in
set_option maxHeartbeats 1000000 in
theorem appendNumbers_gen (B : Nat) (v : Value) (a : Option Addr) (n c : Nat) (zs xs : List Int) (w : World) (HN : Hid (n = xs.length)) (hx : n ≤ 1000) (hzn : Hid (zs.length ≤ 1000)) (hv : Hid (Stay w a n c xs v)) (hs : Hid (xs.all sumB = true))
    (hown : w.ownsRow B 5 1 v zs.length (zs.map (Value.int .u8))) (hB : B ≤ w.heap.size) :
    Calls Tryz.prog 177 #[v, .slice a n c] w fun e w' => ∃ v', e = .returned v' ∧ w'.ownsRow B 5 1 v' (numsL zs xs).length ((numsL zs xs).map (Value.int .u8)) ∧ Below B w w' := by
  obtain ⟨i0, hi, hz0, hz1, hz2⟩ := info_parts Tryz.infoB
  go_enter Tryz.func177, Tryz.ntmps177
  go_wp2
  go_loopw [0, 9] (fun u i wr => ∃ k : Nat, k ≤ n ∧ i = .int .i64 k ∧ Below B w wr ∧ wr.ownsRow B 5 1 u (numsAt zs xs k).length ((numsAt zs xs k).map (Value.int .u8)) ∧ Hid (Stay wr a n c xs u)) (fun _ i _ => n - (intOf i).toNat)
  case atStart => exact ⟨0, Nat.zero_le _, rfl, Below.refl _ _, by rw [numsAt_zero]; exact hown, hv.out⟩
  case round =>
    obtain ⟨k, hk, rfl, hb, ho, hst⟩ := hrel
    by_cases hkn : k < n
    · have hki : (k : Int) < (n : Int) := by omega
      have hkx : k < xs.length := by have := HN.out; omega
      obtain ⟨-, b, off, rfl, hbl, hc⟩ := hst.out.1.at (by omega)
      have hfar := (hst.out.2 b off rfl (by omega)).2
      have HC : Hid (Ints .i64 wr (.slice (some ⟨b, off, none⟩) n c) xs) := hst.out.1
      have hcj := hc k hkx
      have hxr := all_at hs.out hkx
      have hlen := numsAt_len zs (Nat.le_of_lt hkx)
      have hzl := hzn.out
      have hsc := numsAt_succ zs hkx
      obtain ⟨x, hxx⟩ : ∃ x, x = xs.getD k 0 := ⟨_, rfl⟩
      obtain ⟨ys, hys⟩ : ∃ ys, ys = numsAt zs xs k := ⟨_, rfl⟩
      rw [← hxx] at hcj hxr hsc
      rw [← hys] at ho hlen hsc
      have HS : Hid (numsAt zs xs (k + 1) = ys ++ [x / 256, x % 256]) := hsc
      have hyl : ys.length ≤ 3000 := by omega
      have hw1 := wrapU8' (x / 256) (by omega) (by omega)
      have hw2 := IntKind.wrap_u8 x
      have Hfar : Hid (_ ≠ some b) := hfar
      clear hxx hys hsc hc hown hst hfar hlen hzl
      go_wp2_with (at_builtin; refine wpList_append_lies _ rfl _ _ 166 rfl B 5 i0 (.int .u8 0) 1 1 Tryz.underlying166 hi hz0 hz1 hz2 rfl (by decide) _ _ _ rfl (ho.alloc _) ⟨wr.heap.size, 0, none⟩ 2 2 [.int .u8 (x / 256), .int .u8 (x % 256)] rfl rfl (World.news_of_block (heap_alloc_new _ _)) (ints_oneCell .u8 [x / 256, x % 256]) (by omega) (by unfold maxLen; omega) (by omega) (by have := hb.size; simp; omega) (wr.heap.size + 1) (by simp) ?_)
      intro g' cap' w2 hown' hgrow hat hlt
      have hb2 : Below B w w2 := (hb.alloc (by have := hb.size; omega) _).grown hgrow (by have := hb.size; simp; omega) (fun k hk => (ho.lt k hk).1)
      have own2 := own_pair2 hown'
      have hst2 : Stay w2 (some ⟨b, off, none⟩) n c xs (.slice (some ⟨g', 0, none⟩) (ys.length + 2) cap') := by
        refine ⟨(HC.out.below (one_new _)).grown hgrow (Or.inr (fun e => Hfar.out e.symm)), fun b1 off1 e1 _ => ?_⟩
        cases e1
        refine ⟨Nat.lt_of_lt_of_le hbl (Nat.le_trans (by simp) hgrow.size), fun e2 => ?_⟩
        have e3 : g' = b := by simpa [Value.ownBlock] using e2
        rcases hat with h | h
        · exact Hfar.out (by rw [h, e3])
        · omega
      have HST : Hid (Stay w2 (some ⟨b, off, none⟩) n c xs (.slice (some ⟨g', 0, none⟩) (ys.length + 2) cap')) := hst2
      clear hgrow hown' ho hst2 hat hlt
      go_wp2
      go_roundw
      case rel => exact ⟨k + 1, by omega, by go_num, hb2, by rw [HS.out]; exact own2, HST.out⟩
      case measure => simp [intOf]; omega
    · have hkn : k = n := by omega
      subst hkn
      obtain ⟨a', c', rfl⟩ := own_shape ho
      go_wp2
      go_ret
      rw [HN.out, numsAt_all] at ho
      rw [HN.out, numsAt_all]
      exact ⟨_, rfl, ho, hb⟩
end U
end Go.Proofs.YtihhigmceeabmaaGreat

/- PackRecord and RecordSum: what both models answer. -/
namespace Go.Proofs.YtihhigmceeabmaaGreat
open Go.RowKit
namespace U
theorem code_ne {c : Int} (h : ¬ c = 0) : (c != 0) = true := by simpa using h
theorem own_set2 {w w' : World} {v : Value} {n : Nat} {xs : List Value} (h : w'.ownsRow (w.heap.size + 2) 5 1 v n xs) (x y : Value) : ((w'.setCell ⟨w.heap.size + 1, 0, none⟩ x).setCell ⟨w.heap.size + 1, 1, none⟩ y).ownsRow w.heap.size 5 1 v n xs :=
  own_mono (ownsRow_setCell_below (ownsRow_setCell_below h (by simp) _) (by simp) _) (by omega)
set_option maxRecDepth 100000 in
set_option maxHeartbeats 2000000 in
theorem implPackRecord_any (l : ByteArray) (v o p : Int) (w : World) (hs : l.size ≤ 1048576) :
    Calls Tryz.prog 142 #[recV l v o p] w fun e w' => BytesAns w (recC l v o p) (pkL l v o p) e w' := by
  obtain ⟨i0, hi, hz0, hz1, hz2⟩ := info_parts Tryz.infoB
  have R0 := (RecAt.new w l v o p 37).below (one_new (.cells #[.int .i64 0, .slice none 0 0] 222))
  have hF := fun w => implRecordFault_any l v o p w hs
  by_cases h : recC l v o p = 0
  · have hok := recOk h
    have hsm := hok.small
    have hws : IntKind.u8.wrap (l.size : Int) = (l.size : Int) := wrapU8' _ (by omega) (by omega)
    have HS : Hid ([v, o, p].all sumB = true) := hok.sums
    rw [pk_ok h]
    rw [h] at hF ⊢
    have HY : Hid (numsL (headL l) [v, o, p] = packL l v o p) := packL_nums l v o p
    generalize packL l v o p = ys at *
    unfold recV at *
    go_enter Tryz.func142, Tryz.ntmps142
    go_wp2_with fail
    refine (hF _).mono ?_
    rintro e w1 ⟨rfl, hb1⟩
    have R1 := R0.below hb1
    have hsz1 : w.heap.size + 2 ≤ w1.heap.size := by have := hb1.size; simp at this; omega
    have two1 := (hb1.block (w.heap.size + 1) (by simp)).trans (heap_new2 w _ _)
    have hB1 : Below w.heap.size w w1 := below_after (below_after hb1)
    clear hb1 R0 hF
    have ⟨c0, c1, c2, c3⟩ := R1
    have d0 := (R1.below (one_new (.cells #[.int .u8 1, .int .u8 (l.size : Int)] 5))).c0
    go_wp2_with (at_builtin; (refine Lib.wpList_append_own_string _ rfl _ _ 166 9 rfl w1.heap.size 5 i0 Tryz.underlying166 Tryz.underlying9 hi hz0 hz1 hz2 (.slice (some ⟨w1.heap.size, 0, none⟩) 2 2) 2 [.int .u8 1, .int .u8 (l.size : Int)] (by rfl) (lit_own2 w1 1 l.size) l (by rfl) (by unfold maxLen; omega) (by omega) (by simp) ?_))
    intro v2 w2 own2 hgrow2 _
    have hb2 : Below w1.heap.size w1 w2 := (one_new _).grown hgrow2 (by simp) (fun k hk => by cases hk; exact Nat.le_refl _)
    have R2 := R1.below hb2
    have own2' : w2.ownsRow w1.heap.size 5 1 v2 (headL l).length ((headL l).map (Value.int .u8)) := by rw [headL_len]; simpa [headL, bl, Lib.strCells, Function.comp_def] using own2
    clear own2 hgrow2 c0 c1 c2 c3 d0
    have ⟨c0, c1, c2, c3⟩ := R2
    obtain ⟨a2, k2, rfl⟩ := own_shape own2'
    have hlt2 : ∀ k, (Value.slice a2 (headL l).length k2).ownBlock = some k → k < w2.heap.size := fun k hk => (own2'.lt k hk).2
    have hB2 := below_after_of hB1 hb2
    have two2 := (hb2.block (w.heap.size + 1) (by omega)).trans two1
    have hsz2 := hb2.size
    clear hb2 R1 two1
    go_wp2_with fail
    refine (appendNumbers_gen w1.heap.size _ _ 3 3 (headL l) [v, o, p] _ rfl (by omega) (show (headL l).length ≤ 1000 by rw [headL_len]; omega) ⟨lit3_ints w2 v o p _, fun b off e _ => ?_⟩ HS (own_below own2' (one_new _)) (by simp; omega)).mono ?_
    · cases e
      exact ⟨by simp, fun e2 => absurd (hlt2 _ e2) (Nat.lt_irrefl _)⟩
    rintro e w3 ⟨v3, rfl, ho3, hb3⟩
    rw [HY.out] at ho3
    obtain ⟨a3, k3, rfl⟩ := own_shape ho3
    have two3 := (hb3.block (w.heap.size + 1) (by omega)).trans ((Below.heap_alloc w2 _ (w.heap.size + 1) (by omega)).trans two2)
    have hB3 : Below w.heap.size w w3 := hB2.trans ((one_new _).mono (by omega) |>.trans (hb3.mono (by omega)))
    obtain ⟨hc0, hc1, hf0, hf1⟩ := two_cells two3
    have HO : Hid (w3.ownsRow (w.heap.size + 2) 5 1 (.slice a3 ys.length k3) ys.length (ys.map (Value.int .u8))) := own_mono ho3 (by omega)
    clear ho3 hb3 hB2 two2 two3 R2 own2' hlt2
    go_wp2
    exact bodyPost_ret (v := .agg #[.int .i64 0, .slice a3 ys.length k3]) (by simp [results, Tryz.results142, go_sem, hc0, hc1]) rfl ⟨(hB3.setCell (Nat.le_succ _) _).setCell (Nat.le_succ _) _, _, rfl, own_set2 HO.out _ _⟩
  · have h1 := code_ne h
    rw [pk_no h]
    generalize recC l v o p = c at *
    clear h
    unfold recV at *
    go_enter Tryz.func142, Tryz.ntmps142
    go_wp2_with fail
    refine (hF _).mono ?_
    rintro e w1 ⟨rfl, hb1⟩
    obtain ⟨hc0, hc1, hf0, hf1⟩ := two_cells ((hb1.block (w.heap.size + 1) (by simp)).trans (heap_new2 w _ _))
    have hB1 : Below w.heap.size w w1 := below_after (below_after hb1)
    clear hb1 R0 hF
    go_wp2
    exact bodyPost_ret (v := .agg #[.int .i64 c, .slice none 0 0]) (by simp [results, Tryz.results142, go_sem, hc0, hc1]) rfl ⟨(hB1.setCell (Nat.le_succ _) _).setCell (Nat.le_succ _) _, _, rfl, World.ownsRow_nil _ _ _ _⟩
end U
end Go.Proofs.YtihhigmceeabmaaGreat

/- RecordSum: what both models answer. -/
namespace Go.Proofs.YtihhigmceeabmaaGreat
open Go.RowKit
namespace U
def rsV (l : ByteArray) (v o p : Int) : Int := if recC l v o p = 0 then sumL (packL l v o p) else 0
theorem rs_ok {l : ByteArray} {v o p : Int} (h : recC l v o p = 0) : rsV l v o p = sumL (packL l v o p) := by unfold rsV; rw [if_pos h]
theorem rs_no {l : ByteArray} {v o p : Int} (h : ¬ recC l v o p = 0) : rsV l v o p = 0 := by unfold rsV; rw [if_neg h]
set_option maxRecDepth 100000 in
set_option maxHeartbeats 1000000 in
theorem l3Sum_any (g : Nat) (l : ByteArray) (v o p : Int) (w : World) (h : RecAt w g l v o p) (hR : RecOk l v o p) (hg : g < w.heap.size) :
    Calls Tryz.prog 88 #[.pointer (some ⟨g, 0, none⟩)] w fun e w' => e = .returned (.int .i64 (sumL (packL l v o p))) ∧ Below w.heap.size w w' := by
  have hbt := packL_bts hR
  have hln : (packL l v o p).length ≤ 1099511627776 := by rw [packL_len]; have := hR.small; omega
  have hP := l3Pack_any g l v o p w h hR hg
  generalize packL l v o p = ys at *
  go_enter Tryz.func88, Tryz.ntmps88
  go_wp2_with fail
  refine hP.mono ?_
  rintro e w1 ⟨v', rfl, ho1, hb1⟩
  have hI := own_ints ho1
  obtain ⟨a', c', rfl⟩ := own_shape ho1
  clear ho1 hP
  go_wp2_with fail
  refine (l2Sum_any _ ys _ hI hbt hln).mono ?_
  rintro e w2 ⟨rfl, rfl⟩
  go_wp2
  go_ret
  exact ⟨rfl, hb1⟩
set_option maxRecDepth 100000 in
set_option maxHeartbeats 2000000 in
theorem implRecordSum_any (l : ByteArray) (v o p : Int) (w : World) (hs : l.size ≤ 1048576) :
    Calls Tryz.prog 103 #[recV l v o p] w fun e w' => IntAns w (recC l v o p) (rsV l v o p) e w' := by
  have hF := fun w => implPackRecord_any l v o p w hs
  by_cases h : recC l v o p = 0
  · have hok := recOk h
    rw [rs_ok h]
    rw [pk_ok h] at hF
    rw [h] at hF ⊢
    have hbt := packL_bts hok
    have hln : (packL l v o p).length ≤ 200 := by rw [packL_len]; have := hok.small; omega
    have hsm := sm_ok (bs := packL l v o p) (by omega)
    have hSO := fun (u : Value) (w : World) hI => implSumOf_any u (packL l v o p) w hI hbt (by omega)
    rw [hsm.1, hsm.2] at hSO
    generalize sumL (packL l v o p) = x at *
    generalize packL l v o p = ys at *
    clear hsm hbt
    unfold recV at *
    go_enter Tryz.func103, Tryz.ntmps103
    go_wp2_with fail
    refine (hF _).mono ?_
    intro e w1 h9
    obtain ⟨a, c, rfl, hb1, ho1⟩ := h9.use
    have two1 := (hb1.block (w.heap.size + 1) (by simp)).trans (heap_new2 w _ _)
    have hB1 : Below w.heap.size w w1 := below_after (below_after hb1)
    have hsz1 : w.heap.size + 2 ≤ w1.heap.size := by have := hb1.size; simp at this; omega
    have P1 := Pair.new w1 (.int .i64 0) (.slice a ys.length c) 222
    have hI := (own_ints ho1).below (one_new (.cells #[.int .i64 0, .slice a ys.length c] 222))
    clear hF h9 ho1 hb1
    go_wp2_with fail
    refine (hSO _ _ hI).mono ?_
    rintro e w2 ⟨rfl, hb2⟩
    have hB2 : Below w.heap.size w w2 := below_after_of hB1 (below_after hb2)
    obtain ⟨hc0, hc1, hf0, hf1⟩ := two_cells (((below_after hb2).block (w.heap.size + 1) (by omega)).trans two1)
    clear hb2 hI P1 two1 hSO
    go_wp2
    exact bodyPost_ret (v := .agg #[.int .i64 0, .int .i64 x]) (by simp [results, Tryz.results103, go_sem, hc0, hc1]) rfl ⟨rfl, (hB2.setCell (Nat.le_succ _) _).setCell (Nat.le_succ _) _⟩
  · have h1 := code_ne h
    rw [rs_no h]
    rw [pk_no h] at hF
    generalize recC l v o p = c at *
    clear h
    unfold recV at *
    go_enter Tryz.func103, Tryz.ntmps103
    go_wp2_with fail
    refine (hF _).mono ?_
    intro e w1 h9
    obtain ⟨a, cc, rfl, hb1, ho1⟩ := h9.use
    simp only [List.length_nil]
    have two1 := (hb1.block (w.heap.size + 1) (by simp)).trans (heap_new2 w _ _)
    have hB1 : Below w.heap.size w w1 := below_after (below_after hb1)
    have hsz1 : w.heap.size + 2 ≤ w1.heap.size := by have := hb1.size; simp at this; omega
    have hB2 := below_after_of hB1 (one_new (.cells #[.int .i64 c, .slice a 0 cc] 222))
    obtain ⟨hc0, hc1, hf0, hf1⟩ := two_cells (((one_new (.cells #[.int .i64 c, .slice a 0 cc] 222)).block (w.heap.size + 1) (by omega)).trans two1)
    clear hF h9 ho1 hb1
    go_wp2
    exact bodyPost_ret (v := .agg #[.int .i64 c, .int .i64 0]) (by simp [results, Tryz.results103, go_sem, hc0, hc1]) rfl ⟨rfl, (hB2.setCell (Nat.le_succ _) _).setCell (Nat.le_succ _) _⟩
end U
end Go.Proofs.YtihhigmceeabmaaGreat

/- The bytes and the sum of a head, phases that may follow: as both models tell them. -/
namespace Go.Proofs.YtihhigmceeabmaaGreat
open Go.RowKit
namespace U
theorem lit5_ints (w : World) (x0 x1 x2 x3 x4 : Int) (t : TypeId) : Ints .i64 (w.alloc (.cells #[.int .i64 x0, .int .i64 x1, .int .i64 x2, .int .i64 x3, .int .i64 x4] t)) (.slice (some ⟨w.heap.size, 0, none⟩) 5 5) [x0, x1, x2, x3, x4] := by
  refine Or.inr ⟨w.heap.size, 0, 5, rfl, by simp, fun j hj => ?_⟩
  have hh := heap_alloc_new w (.cells #[.int .i64 x0, .int .i64 x1, .int .i64 x2, .int .i64 x3, .int .i64 x4] t)
  simp only [List.length_cons, List.length_nil] at hj
  rcases (show j = 0 ∨ j = 1 ∨ j = 2 ∨ j = 3 ∨ j = 4 by omega) with rfl | rfl | rfl | rfl | rfl <;> (unfold World.cell?; rw [hh]; rfl)
set_option maxRecDepth 100000 in
set_option maxHeartbeats 4000000 in
theorem l10Pack_any (b off : Nat) (e p o n v : Int) (w : World) (h : HdS w b off ⟨e, p, o, n, v⟩) (hok : HdOk e p o n v) :
    Calls Tryz.prog 192 #[.pointer (some ⟨b, off, none⟩)] w fun x w' => ∃ v', x = .returned v' ∧ w'.ownsRow w.heap.size 5 1 v' (hdB e p o n v).length ((hdB e p o n v).map (Value.int .u8)) ∧ Below w.heap.size w w' := by
  obtain ⟨c0, c1, c2, c3, c4⟩ := h
  dsimp only at c0 c1 c2 c3 c4
  have HB : Hid (∀ (u : Value) (w : World), Ints .i64 w u [e, p, o, n, v] → Calls Tryz.prog 165 #[.int .i64 7, u] w fun x w' => ∃ v', x = .returned v' ∧ w'.ownsRow w.heap.size 5 1 v' (hdB e p o n v).length ((hdB e p o n v).map (Value.int .u8)) ∧ Below w.heap.size w w') :=
    fun u w hu => l2Bytes_any 7 u [e, p, o, n, v] w hu (by simp) (by omega) hok.sums
  clear hok
  generalize hdB e p o n v = ys at *
  go_enter Tryz.func192, Tryz.ntmps192
  go_wp2
  go_region_held3 (fun w' => w'.cell? ⟨b, off, none⟩ = some (.int .i64 e) ∧ w'.cell? ⟨b, off + 1, none⟩ = some (.int .i64 p) ∧ w'.cell? ⟨b, off + 2, none⟩ = some (.int .i64 o) ∧ w'.cell? ⟨b, off + 3, none⟩ = some (.int .i64 n) ∧ w'.cell? ⟨b, off + 4, none⟩ = some (.int .i64 v))
    (first | exact ⟨c0, c1, c2, c3, c4⟩ | go_keep | exact ⟨After.cell c0 ⟨_, hb2'⟩, After.cell c1 ⟨_, hb2'⟩, After.cell c2 ⟨_, hb2'⟩, After.cell c3 ⟨_, hb2'⟩, After.cell c4 ⟨_, hb2'⟩⟩)
    (first | (go_at_call 165; refine (HB.out _ _ ?_).mono ?_; (first | exact lit5_ints w e p o n v _ | exact lit5_ints w.drew e p o n v _); rintro x w2 ⟨v2, rfl, ho2, hb2⟩; have hb2' : Below w.heap.size w w2 := (by first | exact below_after_of (one_new _).drew hb2 | exact below_after_of (one_new _) hb2); have own2 : w2.ownsRow w.heap.size 5 1 v2 ys.length (ys.map (Value.int .u8)) := own_mono ho2 (by simp); obtain ⟨a2, k2, rfl⟩ := own_shape own2; clear hb2 ho2))
  go_wp2
  go_ret
  exact ⟨_, rfl, own2, hb2'⟩
theorem heap_at2 {w w' : World} {o o' : Obj} (hb : Below ((w.alloc o).alloc o').heap.size ((w.alloc o).alloc o') w') : w'.heap[w.heap.size]? = some o ∧ w'.heap[w.heap.size + 1]? = some o' :=
  ⟨(hb.block w.heap.size (by simp; omega)).trans (heap_alloc_old' _ _ _ (heap_alloc_new w _)), (hb.block (w.heap.size + 1) (by simp)).trans (heap_new2 w _ _)⟩
theorem HdS.of {w : World} {b : Nat} {e p o n v : Int} {t : TypeId} (h : w.heap[b]? = some (.cells #[.int .i64 e, .int .i64 p, .int .i64 o, .int .i64 n, .int .i64 v] t (0, 0))) : HdS w b 0 ⟨e, p, o, n, v⟩ := by
  obtain ⟨h0, h1, h2, h3, h4⟩ := five_cells h
  exact ⟨h0, h1, h2, h3, h4⟩
theorem own_set1 {w w' : World} {v : Value} {n : Nat} {xs : List Value} (h : w'.ownsRow (w.heap.size + 2) 5 1 v n xs) (x y : Value) : ((w'.setCell ⟨w.heap.size + 1, 0, none⟩ x).setCell ⟨w.heap.size + 1, 1, none⟩ y).ownsRow w.heap.size 5 1 v n xs := own_set2 h x y
set_option maxRecDepth 100000 in
set_option maxHeartbeats 2000000 in
theorem implPackHead_any (e p o n v : Int) (w : World) :
    Calls Tryz.prog 152 #[hdV e p o n v] w fun x w' => BytesAns w (hdC e p o n v) (hdL e p o n v) x w' := by
  have hF := fun w => implHeadFault_any e p o n v w
  by_cases h : hdC e p o n v = 0
  · have hok := hdOk h
    rw [hdL_ok h]
    rw [h] at hF ⊢
    have ht := tg_ok (tag := 7) (xs := [e, p, o, n, v]) (by decide) (by simp) hok.sums
    have hT := fun (u : Value) (w : World) hu => implTagBytes_any 7 u [e, p, o, n, v] w hu (by simp)
    rw [ht.1, ht.2] at hT
    have e1 : tagL 7 [e, p, o, n, v] = hdB e p o n v := rfl
    rw [e1] at hT
    generalize hdB e p o n v = ys at *
    unfold hdV at *
    clear h hok ht e1
    go_enter Tryz.func152, Tryz.ntmps152
    go_wp2_with fail
    refine (hF _).mono ?_
    rintro x w1 ⟨rfl, hb1⟩
    have Q1 := heap_at2 hb1
    have hsz1 : w.heap.size + 2 ≤ w1.heap.size := by have := hb1.size; simp at this; omega
    have hB1 : Below w.heap.size w w1 := below_after (below_after hb1)
    obtain ⟨c0, c1, c2, c3, c4⟩ := five_cells Q1.1
    have Q2 := Q1.2
    clear hb1 hF Q1
    go_wp2_with fail
    refine (hT _ _ (lit5_ints w1 e p o n v _)).mono ?_
    intro x w2 h2
    obtain ⟨a', c', rfl, hb2, ho2⟩ := h2.use
    have hb2' := below_after hb2
    obtain ⟨hc0, hc1, hf0, hf1⟩ := two_cells ((hb2'.block (w.heap.size + 1) (by omega)).trans Q2)
    have hB2 : Below w.heap.size w w2 := below_after_of hB1 hb2'
    have HO : Hid (w2.ownsRow (w.heap.size + 2) 5 1 (.slice a' ys.length c') ys.length (ys.map (Value.int .u8))) := own_mono ho2 (by simp; omega)
    clear ho2 hb2 h2 hb2' hT Q2 hB1 c0 c1 c2 c3 c4
    go_wp2
    exact bodyPost_ret (v := .agg #[.int .i64 0, .slice a' ys.length c']) (by simp [results, Tryz.results152, go_sem, hc0, hc1]) rfl ⟨(hB2.setCell (Nat.le_succ _) _).setCell (Nat.le_succ _) _, _, rfl, own_set2 HO.out _ _⟩
  · have h1 := code_ne h
    rw [hdL_no h]
    generalize hdC e p o n v = c at *
    clear h
    unfold hdV at *
    go_enter Tryz.func152, Tryz.ntmps152
    go_wp2_with fail
    refine (hF _).mono ?_
    rintro x w1 ⟨rfl, hb1⟩
    obtain ⟨hc0, hc1, hf0, hf1⟩ := two_cells (heap_at2 hb1).2
    have hB1 : Below w.heap.size w w1 := below_after (below_after hb1)
    clear hb1 hF
    go_wp2
    exact bodyPost_ret (v := .agg #[.int .i64 c, .slice none 0 0]) (by simp [results, Tryz.results152, go_sem, hc0, hc1]) rfl ⟨(hB1.setCell (Nat.le_succ _) _).setCell (Nat.le_succ _) _, _, rfl, World.ownsRow_nil _ _ _ _⟩
set_option maxRecDepth 100000 in
set_option maxHeartbeats 1000000 in
theorem l10Sum_any (b off : Nat) (e p o n v : Int) (w : World) (h : HdS w b off ⟨e, p, o, n, v⟩) (hok : HdOk e p o n v) :
    Calls Tryz.prog 150 #[.pointer (some ⟨b, off, none⟩)] w fun x w' => x = .returned (.int .i64 (hdS e p o n v)) ∧ Below w.heap.size w w' := by
  have hbt := hok.bts
  have hln : (hdB e p o n v).length ≤ 1099511627776 := by rw [hdB_len]; omega
  have hP := l10Pack_any b off e p o n v w h hok
  unfold hdS
  generalize hdB e p o n v = ys at *
  clear h hok
  go_enter Tryz.func150, Tryz.ntmps150
  go_wp2_with fail
  refine hP.mono ?_
  rintro x w1 ⟨v', rfl, ho1, hb1⟩
  have hI := own_ints ho1
  obtain ⟨a', c', rfl⟩ := own_shape ho1
  clear ho1 hP
  go_wp2_with fail
  refine (l2Sum_any _ ys _ hI hbt hln).mono ?_
  rintro x w2 ⟨rfl, rfl⟩
  go_wp2
  go_ret
  exact ⟨rfl, hb1⟩
set_option maxRecDepth 100000 in
set_option maxHeartbeats 2000000 in
theorem implHeadSum_any (e p o n v : Int) (w : World) :
    Calls Tryz.prog 117 #[hdV e p o n v] w fun x w' => IntAns w (hdC e p o n v) (hdSv e p o n v) x w' := by
  have hF := fun w => implPackHead_any e p o n v w
  by_cases h : hdC e p o n v = 0
  · have hok := hdOk h
    rw [hdSv_ok h]
    rw [hdL_ok h] at hF
    rw [h] at hF ⊢
    have hbt := hok.bts
    have hln : (hdB e p o n v).length ≤ 200 := by rw [hdB_len]; omega
    have hsm := sm_ok (bs := hdB e p o n v) (by omega)
    have hSO := fun (u : Value) (w : World) hI => implSumOf_any u (hdB e p o n v) w hI hbt (by omega)
    rw [hsm.1, hsm.2] at hSO
    unfold hdS
    generalize sumL (hdB e p o n v) = s at *
    generalize hdB e p o n v = ys at *
    clear hsm hbt h hok
    unfold hdV at *
    go_enter Tryz.func117, Tryz.ntmps117
    go_wp2_with fail
    refine (hF _).mono ?_
    intro x w1 h9
    obtain ⟨a, c, rfl, hb1, ho1⟩ := h9.use
    have two1 := (heap_at2 hb1).2
    have hB1 : Below w.heap.size w w1 := below_after (below_after hb1)
    have hsz1 : w.heap.size + 2 ≤ w1.heap.size := by have := hb1.size; simp at this; omega
    have P1 := Pair.new w1 (.int .i64 0) (.slice a ys.length c) 222
    have hI := (own_ints ho1).below (one_new (.cells #[.int .i64 0, .slice a ys.length c] 222))
    clear hF h9 ho1 hb1
    go_wp2_with fail
    refine (hSO _ _ hI).mono ?_
    rintro x w2 ⟨rfl, hb2⟩
    have hB2 : Below w.heap.size w w2 := below_after_of hB1 (below_after hb2)
    obtain ⟨hc0, hc1, hf0, hf1⟩ := two_cells (((below_after hb2).block (w.heap.size + 1) (by omega)).trans two1)
    clear hb2 hI P1 two1 hSO
    go_wp2
    exact bodyPost_ret (v := .agg #[.int .i64 0, .int .i64 s]) (by simp [results, Tryz.results117, go_sem, hc0, hc1]) rfl ⟨rfl, (hB2.setCell (Nat.le_succ _) _).setCell (Nat.le_succ _) _⟩
  · have h1 := code_ne h
    rw [hdSv_no h]
    rw [hdL_no h] at hF
    generalize hdC e p o n v = c at *
    clear h
    unfold hdV at *
    go_enter Tryz.func117, Tryz.ntmps117
    go_wp2_with fail
    refine (hF _).mono ?_
    intro x w1 h9
    obtain ⟨a, cc, rfl, hb1, ho1⟩ := h9.use
    simp only [List.length_nil]
    have two1 := (heap_at2 hb1).2
    have hB1 : Below w.heap.size w w1 := below_after (below_after hb1)
    have hsz1 : w.heap.size + 2 ≤ w1.heap.size := by have := hb1.size; simp at this; omega
    have hB2 := below_after_of hB1 (one_new (.cells #[.int .i64 c, .slice a 0 cc] 222))
    obtain ⟨hc0, hc1, hf0, hf1⟩ := two_cells (((one_new (.cells #[.int .i64 c, .slice a 0 cc] 222)).block (w.heap.size + 1) (by omega)).trans two1)
    clear hF h9 ho1 hb1
    go_wp2
    exact bodyPost_ret (v := .agg #[.int .i64 c, .int .i64 0]) (by simp [results, Tryz.results117, go_sem, hc0, hc1]) rfl ⟨rfl, (hB2.setCell (Nat.le_succ _) _).setCell (Nat.le_succ _) _⟩
set_option maxHeartbeats 1000000 in
theorem l10Follow_any (a b : Int) (w : World) : Calls Tryz.prog 123 #[.int .i64 a, .int .i64 b] w fun x w' => x = .returned (.bool (folB a b)) ∧ w' = w := by
  unfold folB
  by_cases h : a = 4
  · subst h
    go_enter Tryz.func123, Tryz.ntmps123
    go_wp2
    go_ret
    exact ⟨rfl, rfl⟩
  · have h1 : (a == 4) = false := by simpa using h
    rw [if_neg h]
    by_cases h2 : a = 1
    · subst h2
      go_enter Tryz.func123, Tryz.ntmps123
      go_wp2
      go_ret
      exact ⟨rfl, rfl⟩
    · have h3 : (a == 1) = false := by simpa using h2
      rw [h3]
      go_enter Tryz.func123, Tryz.ntmps123
      go_wp2
      go_ret
      exact ⟨ret_bool (by simp), rfl⟩
set_option maxRecDepth 100000 in
set_option maxHeartbeats 1000000 in
theorem implMayFollow_any (a b : Int) (w : World) : Calls Tryz.prog 151 #[.int .i64 a, .int .i64 b] w fun x w' => x = .returned (.bool (mfB a b)) ∧ w' = w := by
  have hA := fun w => isPhase_any a w
  have hB := fun w => isPhase_any b w
  unfold mfB
  rcases Bool.eq_false_or_eq_true (inB a 1 5) with ha | ha
  · rw [ha] at hA ⊢
    rcases Bool.eq_false_or_eq_true (inB b 1 5) with hb | hb
    · rw [hb] at hB ⊢
      unfold folB
      by_cases h : a = 4
      · subst h
        go_enter Tryz.func151, Tryz.ntmps151
        go_wp2_with fail
        refine (hA _).mono ?_
        rintro x wq ⟨rfl, rfl⟩
        go_wp2_with fail
        refine (hB _).mono ?_
        rintro x wq ⟨rfl, rfl⟩
        go_wp2
        go_ret
        exact ⟨rfl, rfl⟩
      · have h1 : (a == 4) = false := by simpa using h
        rw [if_neg h]
        by_cases h2 : a = 1
        · subst h2
          go_enter Tryz.func151, Tryz.ntmps151
          go_wp2_with fail
          refine (hA _).mono ?_
          rintro x wq ⟨rfl, rfl⟩
          go_wp2_with fail
          refine (hB _).mono ?_
          rintro x wq ⟨rfl, rfl⟩
          go_wp2
          go_ret
          exact ⟨rfl, rfl⟩
        · have h3 : (a == 1) = false := by simpa using h2
          rw [h3]
          go_enter Tryz.func151, Tryz.ntmps151
          go_wp2_with fail
          refine (hA _).mono ?_
          rintro x wq ⟨rfl, rfl⟩
          go_wp2_with fail
          refine (hB _).mono ?_
          rintro x wq ⟨rfl, rfl⟩
          go_wp2
          go_ret
          exact ⟨ret_bool (by simp), rfl⟩
    · rw [hb] at hB ⊢
      go_enter Tryz.func151, Tryz.ntmps151
      go_wp2_with fail
      refine (hA _).mono ?_
      rintro x wq ⟨rfl, rfl⟩
      go_wp2_with fail
      refine (hB _).mono ?_
      rintro x wq ⟨rfl, rfl⟩
      go_wp2
      go_ret
      exact ⟨rfl, rfl⟩
  · rw [ha] at hA ⊢
    go_enter Tryz.func151, Tryz.ntmps151
    go_wp2_with fail
    refine (hA _).mono ?_
    rintro x wq ⟨rfl, rfl⟩
    go_wp2
    go_ret
    exact ⟨rfl, rfl⟩
end U
end Go.Proofs.YtihhigmceeabmaaGreat

/- Two answers that are one are found the same. -/
namespace Go.Proofs.YtihhigmceeabmaaGreat
open Go.RowKit
namespace U
set_option maxRecDepth 100000 in
set_option maxHeartbeats 1000000 in
theorem eqIntResult_same (c d : Int) (w : World) :
    Calls Tryz.prog 17 #[.agg #[.int .i64 c, .int .i64 d], .agg #[.int .i64 c, .int .i64 d]] w fun e w' => e = .returned (.bool true) ∧ Below w.heap.size w w' := by
  go_enter Tryz.func17, Tryz.ntmps17
  go_wp2
  go_ret
  exact ⟨rfl, two_new _ _⟩
end U
end Go.Proofs.YtihhigmceeabmaaGreat

/- Heads as the laws look at them: copied, compared. -/
namespace Go.Proofs.YtihhigmceeabmaaGreat
open Go.RowKit
namespace U
set_option maxRecDepth 100000 in
set_option maxHeartbeats 1000000 in
theorem toHead_any (e p o n v : Int) (w : World) :
    Calls Tryz.prog 10 #[hdV e p o n v] w fun x w' => x = .returned (hdV e p o n v) ∧ Below w.heap.size w w' := by
  unfold hdV
  go_enter Tryz.func10, Tryz.ntmps10
  go_wp2
  refine bodyPost_ret (v := hdV e p o n v) (by simp [results, Tryz.results10, go_sem, hdV]) rfl ⟨rfl, ?_⟩
  exact (two_new _ _).alloc (by simp; omega) _
set_option maxRecDepth 100000 in
set_option maxHeartbeats 1000000 in
theorem eqHead_same (e p o n v : Int) (w : World) :
    Calls Tryz.prog 64 #[hdV e p o n v, hdV e p o n v] w fun x w' => x = .returned (.bool true) ∧ Below w.heap.size w w' := by
  have h0 := hne_all e
  have h1 := hne_all p
  have h2 := hne_all o
  have h3 := hne_all n
  have h4 := hne_all v
  unfold hdV
  go_enter Tryz.func64, Tryz.ntmps64
  go_wp2
  go_ret
  exact ⟨rfl, two_new _ _⟩
end U
end Go.Proofs.YtihhigmceeabmaaGreat

/- Rows of heads as the laws look at them: measured, copied, compared. -/
namespace Go.Proofs.YtihhigmceeabmaaGreat
open Go.RowKit
namespace U
theorem Tryz.infoHd : (Tryz.prog.info? 43).map (fun i => (i.zero, i.size, i.bytes)) = some (some (.agg #[.int .i64 0, .int .i64 0, .int .i64 0, .int .i64 0, .int .i64 0]), 5, 40) := by kernel_rfl
theorem flH_set (l : Hdl) (r : Hd) : ∀ (k : Nat), k < l.length → flH (l.set k r) = (((((flH l).set (k * 5) (.int .i64 r.e)).set (k * 5 + 1) (.int .i64 r.p)).set (k * 5 + 2) (.int .i64 r.o)).set (k * 5 + 3) (.int .i64 r.n)).set (k * 5 + 4) (.int .i64 r.v) := by
  induction l with
  | nil => intro k h; simp at h
  | cons x t ih =>
    intro k h
    have e : ∀ t : Hdl, ∀ x : Hd, flH (x :: t) = .int .i64 x.e :: .int .i64 x.p :: .int .i64 x.o :: .int .i64 x.n :: .int .i64 x.v :: flH t := fun t x => rfl
    cases k with
    | zero => simp [e]
    | succ k =>
      have h1 := ih k (by simpa using h)
      rw [List.set_cons_succ, e, e, h1, show (k + 1) * 5 = k * 5 + 1 + 1 + 1 + 1 + 1 by omega]
      simp
/-- The first heads, nothing behind them. -/
def hset (l : Hdl) (k : Nat) : Hdl := l.take k ++ List.replicate (l.length - k) hdZ
theorem hset_len (l : Hdl) {k : Nat} (h : k ≤ l.length) : (hset l k).length = l.length := by unfold hset; rw [List.length_append, List.length_take, List.length_replicate]; omega
theorem hset_all (l : Hdl) : hset l l.length = l := by unfold hset; simp
theorem hset_at (l : Hdl) {k : Nat} (h : k ≤ l.length) (i : Nat) : (hset l k)[i]? = if i < k then l[i]? else if i < l.length then some hdZ else none := by
  unfold hset
  rw [List.getElem?_append, List.length_take, List.getElem?_take, List.getElem?_replicate]
  by_cases h1 : i < k
  · rw [if_pos (by omega), if_pos h1]
    simp [h1]
  · rw [if_neg (by omega), if_neg h1]
    by_cases h2 : i < l.length
    · rw [if_pos h2, if_pos (by omega)]
    · rw [if_neg h2, if_neg (by omega)]
theorem hset_set (l : Hdl) {k : Nat} (h : k < l.length) : (hset l k).set k (hAt l k) = hset l (k + 1) := by
  apply List.ext_getElem?
  intro i
  rw [List.getElem?_set, hset_at l (by omega), hset_at l (by omega), hset_len l (by omega)]
  by_cases e : k = i
  · subst e
    rw [if_pos rfl, if_pos h, if_pos (by omega), hAt_eq h, List.getElem?_eq_getElem h]
  · rw [if_neg e]
    by_cases h1 : i < k
    · rw [if_pos h1, if_pos (by omega)]
    · have h2 : ¬ i < k + 1 := by omega
      rw [if_neg h1, if_neg h2]
theorem made_five (n : Nat) : (madeCells #[Value.int .i64 0, Value.int .i64 0, Value.int .i64 0, Value.int .i64 0, Value.int .i64 0] (n * 5)).toList = flH (List.replicate n hdZ) := by
  apply List.ext_getElem?
  intro i
  by_cases hi : i < n * 5
  · have h4 := flH_at (List.replicate n hdZ) (i / 5) (by rw [List.length_replicate]; omega)
    have hz : hAt (List.replicate n hdZ) (i / 5) = hdZ := by rw [hAt_eq (by rw [List.length_replicate]; omega), List.getElem_replicate]
    rw [hz] at h4
    have hm : (madeCells #[Value.int .i64 0, Value.int .i64 0, Value.int .i64 0, Value.int .i64 0, Value.int .i64 0] (n * 5)).toList[i]? = some (#[Value.int .i64 0, Value.int .i64 0, Value.int .i64 0, Value.int .i64 0, Value.int .i64 0][i % 5]!) := by
      simp only [madeCells, Array.toList_map, List.getElem?_map]
      rw [show (Array.range (n * 5)).toList[i]? = some i by simp [hi]]
      rfl
    rw [hm]
    have hd : i = i / 5 * 5 + i % 5 := by omega
    rcases (by omega : i % 5 = 0 ∨ i % 5 = 1 ∨ i % 5 = 2 ∨ i % 5 = 3 ∨ i % 5 = 4) with h | h | h | h | h
    · rw [h, Nat.add_zero] at hd
      rw [h, hd, h4.1]
      rfl
    · rw [h] at hd
      rw [h, hd, h4.2.1]
      rfl
    · rw [h] at hd
      rw [h, hd, h4.2.2.1]
      rfl
    · rw [h] at hd
      rw [h, hd, h4.2.2.2.1]
      rfl
    · rw [h] at hd
      rw [h, hd, h4.2.2.2.2]
      rfl
  · rw [List.getElem?_eq_none (by simp [madeCells]; omega), List.getElem?_eq_none (by rw [flH_len, List.length_replicate]; omega)]
theorem made_hds {w1 w : World} {n : Nat} {l : Hdl} (HN : n = l.length) (h : w1.ownsRow w.heap.size 43 5 (.slice (some ⟨w.heap.size, 0, none⟩) n n) n (madeCells #[Value.int .i64 0, Value.int .i64 0, Value.int .i64 0, Value.int .i64 0, Value.int .i64 0] (n * 5)).toList) :
    w1.ownsRow w.heap.size 43 5 (.slice (some ⟨w.heap.size, 0, none⟩) n n) n (flH (hset l 0)) := by
  have e : hset l 0 = List.replicate n hdZ := by unfold hset; simp [HN]
  rw [e, ← made_five]
  exact h
theorem own_some5 {w : World} {B g n cap : Nat} {e : TypeId} {xs : List Value} (h : w.ownsRow B e 5 (.slice (some ⟨g, 0, none⟩) n cap) n xs) {j : Nat} (hj : j < n * 5) : ∃ x, w.cell? ⟨g, j, none⟩ = some x :=
  ⟨_, (h.cellAt j (by omega)).trans (List.getElem?_eq_getElem (by rw [h.1]; omega))⟩
set_option maxRecDepth 100000 in
set_option maxHeartbeats 4000000 in
theorem toHeadS_core (b off c n : Nat) (l : Hdl) (w : World) (HN : Hid (n = l.length)) (hx : n ≤ 1048576) (hb : b < w.heap.size) (hc : ∀ j, j < n → HdS w b (off + j * 5) (hAt l j)) :
    Calls Tryz.prog 26 #[.slice (some ⟨b, off, none⟩) n c] w fun e w' => e = .returned (.slice (some ⟨w.heap.size, 0, none⟩) n n) ∧ Below w.heap.size w w' ∧ w'.ownsRow w.heap.size 43 5 (.slice (some ⟨w.heap.size, 0, none⟩) n n) n (flH l) := by
  obtain ⟨i0, hi, hz0, hz1, hz2⟩ := info_parts Tryz.infoHd
  go_enter Tryz.func26, Tryz.ntmps26
  go_wp2_with (at_make; refine wpList_make_full _ rfl _ _ 76 rfl w.heap.size 43 i0 (.agg #[.int .i64 0, .int .i64 0, .int .i64 0, .int .i64 0, .int .i64 0]) 5 Tryz.underlying76 hi hz0 hz1 _ _ _ _ n rfl rfl rfl rfl (by rw [hz2]; omega) (by unfold maxLen; omega) (Nat.le_refl _) ?_)
  intro w1 hown1 hg1
  have own1 := made_hds HN.out hown1
  have hB1 : Below w.heap.size w w1 := (Below.refl _ _).grown hg1 (Nat.le_refl _) (fun k hk => by cases hk)
  clear hown1 hg1
  go_wp2
  go_loopw [4] (fun i wr => ∃ k : Nat, k ≤ n ∧ i = .int .i64 k ∧ Below w.heap.size w wr ∧ w.heap.size < wr.heap.size ∧ wr.ownsRow w.heap.size 43 5 (.slice (some ⟨w.heap.size, 0, none⟩) n n) n (flH (hset l k))) (fun i _ => n - (intOf i).toNat)
  case atStart => exact ⟨0, Nat.zero_le _, rfl, hB1, (own1.lt _ rfl).2, own1⟩
  case round =>
    obtain ⟨k, hk, rfl, hB, hsz, ho⟩ := hrel
    by_cases hkn : k < n
    · have hki : (k : Int) < (n : Int) := by omega
      obtain ⟨d0, d1, d2, d3, d4⟩ := (hc k hkn).below hB hb
      have hbr : b < wr.heap.size := Nat.lt_of_lt_of_le hb hB.size
      have hlk : k < l.length := by have := HN.out; omega
      have hts : (((((flH (hset l k)).set (k * 5) (.int .i64 (hAt l k).e)).set (k * 5 + 1) (.int .i64 (hAt l k).p)).set (k * 5 + 2) (.int .i64 (hAt l k).o)).set (k * 5 + 3) (.int .i64 (hAt l k).n)).set (k * 5 + 4) (.int .i64 (hAt l k).v) = flH (hset l (k + 1)) := by
        rw [← flH_set _ _ k (by rw [hset_len l (by omega)]; exact hlk), hset_set l hlk]
      have hT := fun w => toHead_any (hAt l k).e (hAt l k).p (hAt l k).o (hAt l k).n (hAt l k).v w
      unfold hdV at hT
      generalize (hAt l k).e = x0 at *
      generalize (hAt l k).p = x1 at *
      generalize (hAt l k).o = x2 at *
      generalize (hAt l k).n = x3 at *
      generalize (hAt l k).v = x4 at *
      have HT : Hid ((((((flH (hset l k)).set (k * 5) (.int .i64 x0)).set (k * 5 + 1) (.int .i64 x1)).set (k * 5 + 2) (.int .i64 x2)).set (k * 5 + 3) (.int .i64 x3)).set (k * 5 + 4) (.int .i64 x4) = flH (hset l (k + 1))) := hts
      have HB : Hid (Below w.heap.size w wr) := hB
      have HO : Hid (wr.ownsRow w.heap.size 43 5 (.slice (some ⟨w.heap.size, 0, none⟩) n n) n (flH (hset l k))) := ho
      clear hc hts own1 hB1 ho hB
      go_wp2_with fail
      refine (hT _).mono ?_
      rintro e w2 ⟨rfl, hb2⟩
      have ho2 := own_below HO.out hb2
      have f0 := ho2.frozenAt (k * 5)
      have f1 := ho2.frozenAt (k * 5 + 1)
      have f2 := ho2.frozenAt (k * 5 + 2)
      have f3 := ho2.frozenAt (k * 5 + 3)
      have f4 := ho2.frozenAt (k * 5 + 4)
      obtain ⟨z0, g0⟩ := own_some5 ho2 (j := k * 5) (by omega)
      obtain ⟨z1, g1⟩ := own_some5 ho2 (j := k * 5 + 1) (by omega)
      obtain ⟨z2, g2⟩ := own_some5 ho2 (j := k * 5 + 2) (by omega)
      obtain ⟨z3, g3⟩ := own_some5 ho2 (j := k * 5 + 3) (by omega)
      obtain ⟨z4, g4⟩ := own_some5 ho2 (j := k * 5 + 4) (by omega)
      have s1 := (ho2.stored (k * 5) (.int .i64 x0)).1
      have s2 := (s1.stored (k * 5 + 1) (.int .i64 x1)).1
      have s3 := (s2.stored (k * 5 + 2) (.int .i64 x2)).1
      have s4 := (s3.stored (k * 5 + 3) (.int .i64 x3)).1
      have s5 := (s4.stored (k * 5 + 4) (.int .i64 x4)).1
      rw [HT.out] at s5
      have hsz2 : w.heap.size < w2.heap.size := by have := hb2.size; omega
      have HB2 : Hid (Below w.heap.size w (((((w2.setCell ⟨w.heap.size, k * 5, none⟩ (.int .i64 x0)).setCell ⟨w.heap.size, k * 5 + 1, none⟩ (.int .i64 x1)).setCell ⟨w.heap.size, k * 5 + 2, none⟩ (.int .i64 x2)).setCell ⟨w.heap.size, k * 5 + 3, none⟩ (.int .i64 x3)).setCell ⟨w.heap.size, k * 5 + 4, none⟩ (.int .i64 x4))) := (((((below_after_of HB.out hb2).setCell (Nat.le_refl _) _).setCell (Nat.le_refl _) _).setCell (Nat.le_refl _) _).setCell (Nat.le_refl _) _).setCell (Nat.le_refl _) _
      have HS2 : Hid ((((((w2.setCell ⟨w.heap.size, k * 5, none⟩ (.int .i64 x0)).setCell ⟨w.heap.size, k * 5 + 1, none⟩ (.int .i64 x1)).setCell ⟨w.heap.size, k * 5 + 2, none⟩ (.int .i64 x2)).setCell ⟨w.heap.size, k * 5 + 3, none⟩ (.int .i64 x3)).setCell ⟨w.heap.size, k * 5 + 4, none⟩ (.int .i64 x4)).ownsRow w.heap.size 43 5 (.slice (some ⟨w.heap.size, 0, none⟩) n n) n (flH (hset l (k + 1)))) := s5
      clear ho2 s1 s2 s3 s4 s5 hb2 hT
      go_wp2
      go_roundw
      case rel => exact ⟨k + 1, by omega, by go_num, HB2.out, by simp; omega, HS2.out⟩
      case measure => simp [intOf]; omega
    · have hkn : k = n := by omega
      subst hkn
      have e1 : hset l k = l := by rw [HN.out]; exact hset_all _
      rw [e1] at ho
      go_wp2
      go_ret
      exact ⟨rfl, hB, ho⟩
set_option maxRecDepth 100000 in
set_option maxHeartbeats 1000000 in
theorem toHeadS_any (v : Value) (l : Hdl) (w : World) (hv : Hds w v l) (hx : l.length ≤ 1048576) :
    Calls Tryz.prog 26 #[v] w fun e w' => ∃ a c, e = .returned (.slice a l.length c) ∧ Below w.heap.size w w' ∧ w'.ownsRow w.heap.size 43 5 (.slice a l.length c) l.length (flH l) := by
  obtain ⟨a, c, rfl⟩ := hv.shape
  by_cases h0 : 0 < l.length
  · obtain ⟨_, b, off, rfl, hb, hc⟩ := hv.at h0
    refine (toHeadS_core b off c l.length l w rfl hx hb hc).mono ?_
    rintro e w' ⟨rfl, hB, ho⟩
    exact ⟨_, _, rfl, hB, ho⟩
  · have e1 : l = [] := List.eq_nil_of_length_eq_zero (by omega)
    subst e1
    obtain ⟨i0, hi, hz0, hz1, hz2⟩ := info_parts Tryz.infoHd
    simp only [List.length_nil] at *
    clear hv h0
    go_enter Tryz.func26, Tryz.ntmps26
    go_wp2_with (at_make; refine wpList_make_full _ rfl _ _ 76 rfl w.heap.size 43 i0 (.agg #[.int .i64 0, .int .i64 0, .int .i64 0, .int .i64 0, .int .i64 0]) 5 Tryz.underlying76 hi hz0 hz1 _ _ _ _ 0 rfl rfl rfl rfl (by rw [hz2]; omega) (by unfold maxLen; omega) (Nat.le_refl _) ?_)
    intro w1 hown1 hg1
    have hB1 : Below w.heap.size w w1 := (Below.refl _ _).grown hg1 (Nat.le_refl _) (fun k hk => by cases hk)
    have own1 := made_hds (l := []) rfl hown1
    clear hown1 hg1
    go_wp2
    refine wp_loop_rounds 1 ?_; rw [rounds_succ]
    go_wp2
    go_ret
    exact ⟨_, _, rfl, hB1, own1⟩
set_option maxRecDepth 100000 in
set_option maxHeartbeats 4000000 in
theorem eqHeadS_core (b off c b' off' c' n : Nat) (l : Hdl) (w : World) (hx : n ≤ 1048576) (hb : b < w.heap.size) (hb' : b' < w.heap.size) (hc : ∀ j, j < n → HdS w b (off + j * 5) (hAt l j)) (hc' : ∀ j, j < n → HdS w b' (off' + j * 5) (hAt l j)) :
    Calls Tryz.prog 29 #[.slice (some ⟨b, off, none⟩) n c, .slice (some ⟨b', off', none⟩) n c'] w fun e w' => e = .returned (.bool true) ∧ Below w.heap.size w w' := by
  have hnn := hne_all
  go_enter Tryz.func29, Tryz.ntmps29
  go_wp2
  go_loopw [5] (fun i wr => ∃ k : Nat, k ≤ n ∧ i = .int .i64 k ∧ Hid (Below w.heap.size w wr)) (fun i _ => n - (intOf i).toNat)
  case atStart => exact ⟨0, Nat.zero_le _, rfl, Below.refl _ _⟩
  case round =>
    obtain ⟨k, hk, rfl, hB⟩ := hrel
    by_cases hkn : k < n
    · have hki : (k : Int) < (n : Int) := by omega
      obtain ⟨d0, d1, d2, d3, d4⟩ := (hc k hkn).below hB.out hb
      obtain ⟨d0', d1', d2', d3', d4'⟩ := (hc' k hkn).below hB.out hb'
      have hE := fun w => eqHead_same (hAt l k).e (hAt l k).p (hAt l k).o (hAt l k).n (hAt l k).v w
      unfold hdV at hE
      generalize (hAt l k).e = x0 at *
      generalize (hAt l k).p = x1 at *
      generalize (hAt l k).o = x2 at *
      generalize (hAt l k).n = x3 at *
      generalize (hAt l k).v = x4 at *
      have q0 := After.cell d0
      have q1 := After.cell d1
      have q2 := After.cell d2
      have q3 := After.cell d3
      have q4 := After.cell d4
      have p0 := After.cell d0'
      have p1 := After.cell d1'
      have p2 := After.cell d2'
      have p3 := After.cell d3'
      have p4 := After.cell d4'
      have hne := After.ne wr
      clear hc hc' d0 d1 d2 d3 d4 d0' d1' d2' d3' d4'
      go_wp2_with fail
      refine wp_region_after (by kernel_rfl) (by kernel_rfl) ?_
      repeat (first | go_big_quiet_skip | (go_big_quiet_want; go_big_quiet_op; first | go_big_quiet_on | go_big_quiet_call (first | (go_at_call 64; refine (hE _).mono ?_; rintro e wq ⟨rfl, hbq⟩; exact ⟨rfl, after_mk (below_after_of (After.b _) hbq)⟩))))
      refine wpQuiet_nil ?_
      rintro _ ⟨n6, rfl⟩
      have HB6 : Hid (Below w.heap.size w n6.w) := below_after_of hB.out n6.b
      generalize n6.w = w6 at *
      clear hne q0 q1 q2 q3 q4 p0 p1 p2 p3 p4 n6 hE
      go_wp2
      go_roundw
      case rel => exact ⟨k + 1, by omega, by go_num, HB6⟩
      case measure => simp [intOf]; omega
    · have hkn : k = n := by omega
      subst hkn
      clear hc hc'
      go_wp2
      go_ret
      exact ⟨rfl, hB.out⟩
set_option maxRecDepth 100000 in
set_option maxHeartbeats 1000000 in
theorem eqHeadS_same (v u : Value) (l : Hdl) (w : World) (hv : Hds w v l) (hu : Hds w u l) (hx : l.length ≤ 1048576) :
    Calls Tryz.prog 29 #[v, u] w fun e w' => e = .returned (.bool true) ∧ Below w.heap.size w w' := by
  obtain ⟨a, c, rfl⟩ := hv.shape
  obtain ⟨a', c', rfl⟩ := hu.shape
  by_cases h0 : 0 < l.length
  · obtain ⟨_, b, off, rfl, hb, hc⟩ := hv.at h0
    obtain ⟨_, b', off', rfl, hb', hc'⟩ := hu.at h0
    exact eqHeadS_core b off c b' off' c' l.length l w hx hb hb' hc hc'
  · have e1 : l = [] := List.eq_nil_of_length_eq_zero (by omega)
    subst e1
    simp only [List.length_nil] at *
    clear hv hu h0
    go_enter Tryz.func29, Tryz.ntmps29
    go_wp2
    refine wp_loop_rounds 1 ?_; rw [rounds_succ]
    go_wp2
    go_ret
    exact ⟨rfl, Below.refl _ _⟩
set_option maxRecDepth 100000 in
set_option maxHeartbeats 1000000 in
theorem szHeadS_any (a : Option Addr) (n c : Nat) (w : World) (hn : n ≤ maxLen) :
    Calls Tryz.prog 23 #[.slice a n c, .int .i64 1048576] w fun e w' => e = .returned (.int .i64 (if n ≤ 1048576 then (1048576 - n : Int) else -1)) ∧ w' = w := by
  unfold maxLen at hn
  by_cases h1 : n ≤ 1048576
  · rw [if_pos h1]
    go_enter Tryz.func23, Tryz.ntmps23
    go_wp2
    go_ret
    exact ⟨rfl, rfl⟩
  · rw [if_neg h1]
    go_enter Tryz.func23, Tryz.ntmps23
    go_wp2
    go_ret
    exact ⟨rfl, rfl⟩
end U
end Go.Proofs.YtihhigmceeabmaaGreat

/- States as the laws look at them: sizes. -/
namespace Go.Proofs.YtihhigmceeabmaaGreat
open Go.RowKit
namespace U
set_option maxRecDepth 100000 in
set_option maxHeartbeats 1000000 in
theorem szSlotS_z (a : Option Addr) (n c : Nat) (z : Int) (w : World) (hn : n ≤ maxLen) (hz : 0 ≤ z ∧ z ≤ 1048576) :
    Calls Tryz.prog 66 #[.slice a n c, .int .i64 z] w fun e w' => e = .returned (.int .i64 (if z - n < 0 then -1 else z - n)) ∧ Below w.heap.size w w' := by
  unfold maxLen at hn
  by_cases h : z - n < 0
  · rw [if_pos h]
    go_enter Tryz.func66, Tryz.ntmps66
    go_wp2
    go_ret
    exact ⟨rfl, Below.refl _ _⟩
  · rw [if_neg h]
    go_enter Tryz.func66, Tryz.ntmps66
    go_wp2
    go_ret
    exact ⟨rfl, Below.refl _ _⟩
set_option maxRecDepth 100000 in
set_option maxHeartbeats 1000000 in
theorem szHeadS_z (a : Option Addr) (n c : Nat) (z : Int) (w : World) (hn : n ≤ maxLen) (hz : 0 ≤ z ∧ z ≤ 1048576) :
    Calls Tryz.prog 23 #[.slice a n c, .int .i64 z] w fun e w' => e = .returned (.int .i64 (if z - n < 0 then -1 else z - n)) ∧ Below w.heap.size w w' := by
  unfold maxLen at hn
  by_cases h : z - n < 0
  · rw [if_pos h]
    go_enter Tryz.func23, Tryz.ntmps23
    go_wp2
    go_ret
    exact ⟨rfl, Below.refl _ _⟩
  · rw [if_neg h]
    go_enter Tryz.func23, Tryz.ntmps23
    go_wp2
    go_ret
    exact ⟨rfl, Below.refl _ _⟩
/-- What is left of a size behind some directories; all small if anything is. -/
def szD (p : Pst) (z : Int) : Nat → Int
  | 0 => z - p.length
  | k + 1 => if szD p z k < 0 then -1 else szR (dAt p k) (szD p z k)
theorem szR_neg {l : Rcl} {z : Int} (h : szR l z < 0) : szR l z = -1 := by
  unfold szR at h ⊢
  by_cases h1 : szT l z l.length < 0 <;> simp [h1] at h ⊢
theorem szR_le {l : Rcl} {z : Int} (h0 : 0 ≤ z) : szR l z ≤ z := by
  unfold szR
  split
  · omega
  · exact szT_le
theorem szD_neg {p : Pst} {z : Int} {k : Nat} (h : szD p z k < 0) : ∀ d, szD p z (k + d) < 0
  | 0 => h
  | d + 1 => by
    have := szD_neg h d
    show (if szD p z (k + d) < 0 then -1 else szR (dAt p (k + d)) (szD p z (k + d))) < 0
    rw [if_pos this]
    omega
theorem szD_le {p : Pst} {z : Int} (hz : 0 ≤ z) : ∀ k, szD p z k ≤ z
  | 0 => by show z - p.length ≤ z; omega
  | k + 1 => by
    have := szD_le (p := p) hz k
    show (if szD p z k < 0 then -1 else szR (dAt p k) (szD p z k)) ≤ z
    split
    · omega
    · have := szR_le (l := dAt p k) (z := szD p z k) (by omega)
      omega
def szP (p : Pst) (z : Int) : Int := if szD p z p.length < 0 then -1 else szD p z p.length
theorem szR_cut {l : Rcl} {z : Int} (hz : z ≤ 1048576) (h : ¬ szR l z < 0) : szR l z ≤ z - l.length := by
  have h1 := (szR_ok hz h).2.2.2
  have h2 := szT_mono l z 0 l.length
  rw [Nat.zero_add] at h2
  have h3 : szT l z 0 = z - l.length := rfl
  omega
theorem szD_tot {p : Pst} {z : Int} (hz : z ≤ 1048576) (h0 : 0 ≤ z) : ∀ k, ¬ szD p z k < 0 → szD p z k ≤ z - tot p k
  | 0, _ => by
    show z - p.length ≤ z - ((0 : Nat) : Int)
    omega
  | k + 1, h => by
    have e : szD p z (k + 1) = if szD p z k < 0 then -1 else szR (dAt p k) (szD p z k) := rfl
    by_cases h1 : szD p z k < 0
    · rw [e, if_pos h1] at h; omega
    · have h2 := szD_tot hz h0 k h1
      rw [e, if_neg h1] at h ⊢
      have h3 := szD_le (p := p) h0 k
      have h4 := szR_cut (by omega) h
      have e2 : tot p (k + 1) = tot p k + (dAt p k).length := rfl
      rw [e2]
      omega
theorem szP_ok {p : Pst} {z : Int} (hz : z ≤ 1048576) (h0 : 0 ≤ z) (h : ¬ szP p z < 0) : p.length ≤ 1048576 ∧ (∀ j, j < p.length → (dAt p j).length ≤ 1048576 ∧ Lbs (dAt p j)) ∧ ∀ j, j ≤ p.length → tot p j ≤ 1048576 := by
  unfold szP at h
  by_cases h1 : szD p z p.length < 0
  · rw [if_pos h1] at h; omega
  · have hk : ∀ k, k ≤ p.length → ¬ szD p z k < 0 := fun k hk hn => by
      have := szD_neg hn (p.length - k)
      rw [show k + (p.length - k) = p.length by omega] at this
      exact h1 this
    refine ⟨?_, fun j hj => ?_, fun j hj => ?_⟩
    · have h2 := hk 0 (Nat.zero_le _)
      have e : szD p z 0 = z - p.length := rfl
      rw [e] at h2
      omega
    · have h2 := hk (j + 1) hj
      have h3 := hk j (by omega)
      have e : szD p z (j + 1) = if szD p z j < 0 then -1 else szR (dAt p j) (szD p z j) := rfl
      rw [e, if_neg h3] at h2
      have := szD_le (p := p) h0 j
      have := szR_ok (l := dAt p j) (z := szD p z j) (by omega) h2
      exact ⟨this.1, this.2.1⟩
    · have := szD_tot hz h0 j (hk j hj)
      have := hk j hj
      omega
set_option maxRecDepth 100000 in
set_option maxHeartbeats 2000000 in
theorem szDirectoryS_core (b off c n : Nat) (p : Pst) (z : Int) (w : World) (HN : Hid (n = p.length)) (hn : n ≤ 1048576) (hz : 0 ≤ z ∧ z ≤ 1048576) (hnz : ¬ z - n < 0) (hb : b < w.heap.size) (hM : ∀ j, j < n → (dAt p j).length ≤ maxLen ∧ LbM (dAt p j)) (hc : ∀ j, j < n → ∃ u, w.cell? ⟨b, off + j, none⟩ = some u ∧ Rcs w u (dAt p j)) :
    Calls Tryz.prog 67 #[.slice (some ⟨b, off, none⟩) n c, .int .i64 z] w fun e w' => e = .returned (.int .i64 (szP p z)) ∧ Below w.heap.size w w' := by
  have e0 : szD p z 0 = z - n := by rw [HN.out]; rfl
  have HZ : Hid (szP p z = if szD p z n < 0 then -1 else szD p z n) := (by rw [HN.out]; rfl : szP p z = if szD p z n < 0 then -1 else szD p z n)
  have HM : Hid (∀ k d, szD p z k < 0 → szD p z (k + d) < 0) := fun k d h => szD_neg h d
  have HL : Hid (∀ k, szD p z k ≤ z) := fun k => szD_le hz.1 k
  generalize szP p z = q at *
  go_enter Tryz.func67, Tryz.ntmps67
  go_wp2
  go_loopw [1, 5] (fun u i wr => ∃ k : Nat, k ≤ n ∧ i = .int .i64 k ∧ u = .int .i64 (szD p z k) ∧ 0 ≤ szD p z k ∧ Hid (Below w.heap.size w wr)) (fun _ i _ => n - (intOf i).toNat)
  case atStart => exact ⟨0, Nat.zero_le _, rfl, by rw [e0], by omega, Below.refl _ _⟩
  case round =>
    obtain ⟨k, hk, rfl, rfl, h0, hB⟩ := hrel
    by_cases hkn : k < n
    · have hki : (k : Int) < (n : Int) := by omega
      obtain ⟨u, hu, hr⟩ := hc k hkn
      have d0 := (hB.out.cell (p := ⟨b, off + k, none⟩) hb).trans hu
      have hbr : b < wr.heap.size := Nat.lt_of_lt_of_le hb hB.out.size
      have hS := szDirectory_any u (dAt p k) (szD p z k) wr (hr.below hB.out) (hM k hkn).2 (hM k hkn).1 ⟨h0, by have := HL.out k; omega⟩
      have HX : Hid (szD p z (k + 1) = szR (dAt p k) (szD p z k)) := (by show (if szD p z k < 0 then -1 else szR (dAt p k) (szD p z k)) = _; rw [if_neg (by omega)] : szD p z (k + 1) = szR (dAt p k) (szD p z k))
      have HQ : Hid (szR (dAt p k) (szD p z k) < 0 → q = -1) := (fun h => by
        have := HM.out (k + 1) (n - (k + 1)) (by rw [HX.out]; exact h)
        rw [show k + 1 + (n - (k + 1)) = n by omega] at this
        rw [HZ.out, if_pos this] : szR (dAt p k) (szD p z k) < 0 → q = -1)
      have HNE : Hid (szR (dAt p k) (szD p z k) < 0 → szR (dAt p k) (szD p z k) = -1) := szR_neg
      obtain ⟨a, c', rfl⟩ := hr.shape
      generalize (dAt p k).length = m at *
      generalize szR (dAt p k) (szD p z k) = s1 at *
      have HS1 : Hid (szD p z (k + 1) = s1) := HX
      generalize szD p z k = s0 at *
      clear hc hM HX hr hu
      by_cases hlt : s1 < 0
      · have HQ2 : Hid (q = -1) := HQ.out hlt
        clear HQ
        go_wp2_with fail
        refine hS.mono ?_
        rintro e w1 ⟨rfl, hb1⟩
        have HB1 : Hid (Below w.heap.size w w1) := below_after_of hB.out hb1
        clear hS hb1
        go_wp2
        go_ret
        exact ⟨ret_int HQ2.out.symm, HB1.out⟩
      · clear HQ
        go_wp2_with fail
        refine hS.mono ?_
        rintro e w1 ⟨rfl, hb1⟩
        have HB1 : Hid (Below w.heap.size w w1) := below_after_of hB.out hb1
        clear hS hb1
        go_wp2
        go_roundw
        case rel => exact ⟨k + 1, by omega, by go_num, by rw [HS1.out], by rw [HS1.out]; omega, HB1⟩
        case measure => simp [intOf]; omega
    · have hkn : k = n := by omega
      subst hkn
      have HQ2 : Hid (q = szD p z k) := (by rw [HZ.out, if_neg (by omega)] : q = szD p z k)
      generalize szD p z k = s0 at *
      clear hc
      go_wp2
      go_ret
      exact ⟨ret_int HQ2.out.symm, hB.out⟩
set_option maxRecDepth 100000 in
set_option maxHeartbeats 1000000 in
theorem szDirectoryS_any (v : Value) (p : Pst) (z : Int) (w : World) (hv : Dss w v p) (hM : ∀ j, j < p.length → (dAt p j).length ≤ maxLen ∧ LbM (dAt p j)) (hx : p.length ≤ maxLen) (hz : 0 ≤ z ∧ z ≤ 1048576) :
    Calls Tryz.prog 67 #[v, .int .i64 z] w fun e w' => e = .returned (.int .i64 (szP p z)) ∧ Below w.heap.size w w' := by
  obtain ⟨a, c, rfl⟩ := hv.shape
  by_cases h : z - p.length < 0
  · have HQ : szP p z = -1 := by
      have h2 := szD_neg (p := p) (z := z) (k := 0) h p.length
      rw [Nat.zero_add] at h2
      unfold szP
      rw [if_pos h2]
    rw [HQ]
    generalize p.length = n at *
    unfold maxLen at hx
    clear hv HQ hM
    go_enter Tryz.func67, Tryz.ntmps67
    go_wp2
    go_ret
    exact ⟨rfl, Below.refl _ _⟩
  · by_cases h0 : 0 < p.length
    · obtain ⟨_, b, off, rfl, hb, hc⟩ := hv.at h0
      exact szDirectoryS_core b off c p.length p z w rfl (by omega) hz h hb hM hc
    · have e1 : p = [] := List.eq_nil_of_length_eq_zero (by omega)
      subst e1
      have e2 : szP [] z = z := by
        have e3 : szD [] z 0 = z := by show z - 0 = z; omega
        show (if szD [] z 0 < 0 then -1 else szD [] z 0) = z
        rw [e3, if_neg (by omega)]
      rw [e2]
      simp only [List.length_nil]
      have hzn : ¬ z < 0 := by omega
      clear hv h0 hx h e2 hM
      go_enter Tryz.func67, Tryz.ntmps67
      go_wp2
      refine wp_loop_rounds 1 ?_; rw [rounds_succ]
      go_wp2
      go_ret
      exact ⟨rfl, Below.refl _ _⟩
/-- What is left of a size behind a state. -/
def szN (n : Nat) (z : Int) : Int := if z - n < 0 then -1 else z - n
def szS (s : St) (z : Int) : Int :=
  if szR s.d z < 0 then -1 else if szN s.n.length (szR s.d z) < 0 then -1 else if szN s.h.length (szN s.n.length (szR s.d z)) < 0 then -1 else szP s.p (szN s.h.length (szN s.n.length (szR s.d z)))
theorem szN_ok {n : Nat} {z : Int} (hz : z ≤ 1048576) (h : ¬ szN n z < 0) : n ≤ 1048576 ∧ 0 ≤ szN n z ∧ szN n z ≤ z := by
  unfold szN at h ⊢
  by_cases h1 : z - n < 0
  · rw [if_pos h1] at h; omega
  · rw [if_neg h1]; omega
theorem szP_le {p : Pst} {z : Int} (h0 : 0 ≤ z) : szP p z ≤ z := by
  unfold szP
  split
  · omega
  · exact szD_le h0 _
theorem szS_ok {s : St} {z : Int} (h0 : 0 ≤ z) (hz : z ≤ 1048576) (h : ¬ szS s z < 0) : StB s ∧ 0 ≤ szS s z ∧ szS s z ≤ z := by
  unfold szS at h ⊢
  by_cases h1 : szR s.d z < 0
  · rw [if_pos h1] at h; omega
  · rw [if_neg h1] at h ⊢
    have k1 := szR_ok hz h1
    by_cases h2 : szN s.n.length (szR s.d z) < 0
    · rw [if_pos h2] at h; omega
    · rw [if_neg h2] at h ⊢
      have k2 := szN_ok (by omega) h2
      by_cases h3 : szN s.h.length (szN s.n.length (szR s.d z)) < 0
      · rw [if_pos h3] at h; omega
      · rw [if_neg h3] at h ⊢
        have k3 := szN_ok (by omega) h3
        have k4 := szP_ok (by omega) (by omega) h
        have k5 := szP_le (p := s.p) (z := szN s.h.length (szN s.n.length (szR s.d z))) (by omega)
        exact ⟨⟨k1.1, k1.2.1, k2.1, k3.1, k4.1, k4.2.1, k4.2.2⟩, by omega, by omega⟩
set_option maxRecDepth 100000 in
set_option maxHeartbeats 2000000 in
theorem szState_any (s : St) (v : Sv) (z : Int) (w : World) (hv : Sts w v s) (hA : StA s) (hz : 0 ≤ z ∧ z ≤ 1048576) :
    Calls Tryz.prog 31 #[stV s v, .int .i64 z] w fun e w' => e = .returned (.int .i64 (szS s z)) ∧ Below w.heap.size w w' := by
  obtain ⟨W, hW⟩ : ∃ W, W = w.alloc (stC s v 89) := ⟨_, rfl⟩
  have hBW : Below w.heap.size w W := by rw [hW]; exact one_new _
  have HC : Hid (StC W w.heap.size s v) := (by rw [hW]; exact StC.new w s v _ : StC W w.heap.size s v)
  have hvW := hv.below hBW
  have hD := szDirectory_any v.d s.d z W hvW.d hA.dl hA.d hz
  have HP : Hid (∀ z w', 0 ≤ z ∧ z ≤ 1048576 → Below W.heap.size W w' → Calls Tryz.prog 67 #[v.p, .int .i64 z] w' fun e w'' => e = .returned (.int .i64 (szP s.p z)) ∧ Below w'.heap.size w' w'') := fun z w' hz h => szDirectoryS_any v.p s.p z w' (hvW.p.below h) hA.pd hA.p hz
  have hok1 := fun h => szR_ok (l := s.d) (z := z) hz.2 h
  have HPN : Hid (∀ z, szP s.p z < 0 → szP s.p z = -1) := fun z h => by
    unfold szP at h ⊢
    by_cases h1 : szD s.p z s.p.length < 0 <;> simp [h1] at h ⊢
  have hlN := hA.n
  have hlH := hA.h
  obtain ⟨a1, c1, e1⟩ := hv.d.shape
  obtain ⟨a2, c2, e2⟩ := hv.n.shape
  obtain ⟨a3, c3, e3⟩ := hv.h.shape
  obtain ⟨a4, c4, e4⟩ := hv.p.shape
  obtain ⟨ph, cu, d, n, h, p⟩ := s
  obtain ⟨vd, vn, vh, vp⟩ := v
  dsimp only at *
  subst e1 e2 e3 e4
  unfold stV szS
  dsimp only
  have HW : Hid (w.alloc (.cells #[.int .i64 ph, .int .i64 cu, .slice a1 d.length c1, .slice a2 n.length c2, .slice a3 h.length c3, .slice a4 p.length c4] 89) = W) := hW.symm
  clear hW
  have HC2 : Hid (∀ w', Below W.heap.size W w' → StC w' w.heap.size ⟨ph, cu, d, n, h, p⟩ ⟨.slice a1 d.length c1, .slice a2 n.length c2, .slice a3 h.length c3, .slice a4 p.length c4⟩) := fun w' hb => HC.out.below hb HC.out.lt
  have HNN : Hid (∀ k : Nat, ∀ z, szN k z < 0 → szN k z = -1) := fun k z h => by
    unfold szN at h ⊢
    by_cases h1 : z - k < 0
    · rw [if_pos h1]
    · rw [if_neg h1] at h; omega
  have HD1 : Hid (szR d z < 0 → szR d z = -1) := szR_neg
  generalize szR d z = z1 at *
  clear hv hvW hA HC
  by_cases h1 : z1 < 0
  · rw [if_pos h1]
    have e := HD1.out h1
    subst e
    generalize d.length = dn at *
    generalize n.length = nn at *
    generalize h.length = hn at *
    generalize p.length = pn at *
    clear hok1 HP HPN HC2
    go_enter Tryz.func31, Tryz.ntmps31
    go_wp2_with fail
    rw [HW.out]
    refine hD.mono ?_
    rintro e w1 ⟨rfl, hb1⟩
    have HB : Hid (Below w.heap.size w w1) := below_after_of hBW hb1
    clear hD hb1
    go_wp2
    go_ret
    exact ⟨rfl, HB.out⟩
  · rw [if_neg h1]
    obtain ⟨-, -, k1, -⟩ := hok1 h1
    clear hok1 HD1
    have hN := fun w => szSlotS_z a2 n.length c2 z1 w hlN ⟨by omega, by omega⟩
    have e5 : (if z1 - (n.length : Int) < 0 then -1 else z1 - (n.length : Int)) = szN n.length z1 := rfl
    rw [e5] at hN
    have hok2 := fun h => szN_ok (n := n.length) (z := z1) (by omega) h
    have HN1 := HNN.out n.length z1
    generalize szN n.length z1 = z2 at *
    clear e5
    by_cases h2 : z2 < 0
    · rw [if_pos h2]
      have e := HN1 h2
      subst e
      generalize d.length = dn at *
      generalize n.length = nn at *
      generalize h.length = hn at *
      generalize p.length = pn at *
      clear hok2 HP HPN HNN HN1
      go_enter Tryz.func31, Tryz.ntmps31
      go_wp2_with fail
      rw [HW.out]
      refine hD.mono ?_
      rintro e w1 ⟨rfl, hb1⟩
      have HB : Hid (Below w.heap.size w w1) := below_after_of hBW hb1
      have k3 := (HC2.out _ hb1).c3
      dsimp only at k3
      clear hD hb1
      go_wp2_with fail
      refine (hN _).mono ?_
      rintro e w2 ⟨rfl, hb2⟩
      have HB2 : Hid (Below w.heap.size w w2) := below_after_of HB.out hb2
      clear hN hb2
      go_wp2
      go_ret
      exact ⟨rfl, HB2.out⟩
    · rw [if_neg h2]
      obtain ⟨-, k2, k3⟩ := hok2 h2
      clear hok2 HN1
      have hH := fun w => szHeadS_z a3 h.length c3 z2 w hlH ⟨by omega, by omega⟩
      have e5 : (if z2 - (h.length : Int) < 0 then -1 else z2 - (h.length : Int)) = szN h.length z2 := rfl
      rw [e5] at hH
      have hok3 := fun h' => szN_ok (n := h.length) (z := z2) (by omega) h'
      have HN1 := HNN.out h.length z2
      generalize szN h.length z2 = z3 at *
      clear e5
      by_cases h3 : z3 < 0
      · rw [if_pos h3]
        have e := HN1 h3
        subst e
        generalize d.length = dn at *
        generalize n.length = nn at *
        generalize h.length = hn at *
        generalize p.length = pn at *
        clear hok3 HP HPN HNN HN1
        go_enter Tryz.func31, Tryz.ntmps31
        go_wp2_with fail
        rw [HW.out]
        refine hD.mono ?_
        rintro e w1 ⟨rfl, hb1⟩
        have HB : Hid (Below W.heap.size W w1) := hb1
        have q3 := (HC2.out _ hb1).c3
        dsimp only at q3
        clear hD hb1
        go_wp2_with fail
        refine (hN _).mono ?_
        rintro e w2 ⟨rfl, hb2⟩
        have HB2 : Hid (Below W.heap.size W w2) := below_after_of HB.out hb2
        have q4 := (HC2.out _ HB2.out).c4
        dsimp only at q4
        clear hN hb2
        go_wp2_with fail
        refine (hH _).mono ?_
        rintro e w3 ⟨rfl, hb3⟩
        have HB3 : Hid (Below w.heap.size w w3) := below_after_of hBW (below_after_of HB2.out hb3)
        clear hH hb3
        go_wp2
        go_ret
        exact ⟨rfl, HB3.out⟩
      · rw [if_neg h3]
        obtain ⟨-, k4, k5⟩ := hok3 h3
        clear hok3 HN1
        have HP1 := HP.out z3
        have HPN1 := HPN.out z3
        generalize szP p z3 = z4 at *
        generalize d.length = dn at *
        generalize n.length = nn at *
        generalize h.length = hn at *
        generalize p.length = pn at *
        clear HP HPN HNN
        by_cases h4 : z4 < 0
        · have e := HPN1 h4
          subst e
          clear HPN1
          go_enter Tryz.func31, Tryz.ntmps31
          go_wp2_with fail
          rw [HW.out]
          refine hD.mono ?_
          rintro e w1 ⟨rfl, hb1⟩
          have HB : Hid (Below W.heap.size W w1) := hb1
          have q3 := (HC2.out _ hb1).c3
          dsimp only at q3
          clear hD hb1
          go_wp2_with fail
          refine (hN _).mono ?_
          rintro e w2 ⟨rfl, hb2⟩
          have HB2 : Hid (Below W.heap.size W w2) := below_after_of HB.out hb2
          have q4 := (HC2.out _ HB2.out).c4
          dsimp only at q4
          clear hN hb2
          go_wp2_with fail
          refine (hH _).mono ?_
          rintro e w3 ⟨rfl, hb3⟩
          have HB3 : Hid (Below W.heap.size W w3) := below_after_of HB2.out hb3
          have q5 := (HC2.out _ HB3.out).c5
          dsimp only at q5
          have hP := HP1 w3 ⟨by omega, by omega⟩ HB3.out
          clear hH hb3 HP1
          go_wp2_with fail
          refine hP.mono ?_
          rintro e w4 ⟨rfl, hb4⟩
          have HB4 : Hid (Below w.heap.size w w4) := below_after_of hBW (below_after_of HB3.out hb4)
          clear hP hb4
          go_wp2
          go_ret
          exact ⟨rfl, HB4.out⟩
        · clear HPN1
          go_enter Tryz.func31, Tryz.ntmps31
          go_wp2_with fail
          rw [HW.out]
          refine hD.mono ?_
          rintro e w1 ⟨rfl, hb1⟩
          have HB : Hid (Below W.heap.size W w1) := hb1
          have q3 := (HC2.out _ hb1).c3
          dsimp only at q3
          clear hD hb1
          go_wp2_with fail
          refine (hN _).mono ?_
          rintro e w2 ⟨rfl, hb2⟩
          have HB2 : Hid (Below W.heap.size W w2) := below_after_of HB.out hb2
          have q4 := (HC2.out _ HB2.out).c4
          dsimp only at q4
          clear hN hb2
          go_wp2_with fail
          refine (hH _).mono ?_
          rintro e w3 ⟨rfl, hb3⟩
          have HB3 : Hid (Below W.heap.size W w3) := below_after_of HB2.out hb3
          have q5 := (HC2.out _ HB3.out).c5
          dsimp only at q5
          have hP := HP1 w3 ⟨by omega, by omega⟩ HB3.out
          clear hH hb3 HP1
          go_wp2_with fail
          refine hP.mono ?_
          rintro e w4 ⟨rfl, hb4⟩
          have HB4 : Hid (Below w.heap.size w w4) := below_after_of hBW (below_after_of HB3.out hb4)
          clear hP hb4
          go_wp2
          go_ret
          exact ⟨rfl, HB4.out⟩
end U
end Go.Proofs.YtihhigmceeabmaaGreat

/- States as the laws look at them: copied. -/
namespace Go.Proofs.YtihhigmceeabmaaGreat
open Go.RowKit
namespace U
theorem Tryz.infoDi : (Tryz.prog.info? 94).map (fun i => (i.zero, i.size, i.bytes)) = some (some (.agg #[.slice none 0 0]), 1, 24) := by kernel_rfl
theorem made_oneD (n : Nat) : (madeCells #[Value.slice none 0 0] n).toList = List.replicate n nilV := by
  apply List.ext_getElem?
  intro i
  by_cases hi : i < n
  · have hm : (madeCells #[Value.slice none 0 0] n).toList[i]? = some (#[Value.slice none 0 0][i % 1]!) := by
      simp only [madeCells, Array.toList_map, List.getElem?_map]
      rw [show (Array.range n).toList[i]? = some i by simp [hi]]
      rfl
    rw [hm, List.getElem?_replicate, if_pos hi, Nat.mod_one]
    rfl
  · rw [List.getElem?_eq_none (by simp [madeCells]; omega), List.getElem?_eq_none (by rw [List.length_replicate]; omega)]
theorem own_some1D {w : World} {B g n cap : Nat} {e : TypeId} {xs : List Value} (h : w.ownsRow B e 1 (.slice (some ⟨g, 0, none⟩) n cap) n xs) {j : Nat} (hj : j < n) : ∃ x, w.cell? ⟨g, j, none⟩ = some x :=
  ⟨_, (h.cellAt j (by omega)).trans (List.getElem?_eq_getElem (by rw [h.1]; omega))⟩
theorem set_rep {us : List Value} {n : Nat} (v : Value) (h : us.length < n) : (us ++ List.replicate (n - us.length) nilV).set us.length v = (us ++ [v]) ++ List.replicate (n - (us.length + 1)) nilV := by
  rw [List.set_append_right _ _ (Nat.le_refl _), Nat.sub_self]
  obtain ⟨m, hm⟩ : ∃ m, n - us.length = m + 1 := ⟨n - us.length - 1, by omega⟩
  rw [hm, show n - (us.length + 1) = m by omega, List.replicate_succ, List.set_cons_zero, List.append_assoc]
  rfl
theorem pRows_snoc {us : List Value} {p : Pst} (v : Value) : pRows (us ++ [v]) p (us.length + 1) = pRows us p us.length ++ [dRow v (dAt p us.length)] := by
  show pRows (us ++ [v]) p us.length ++ [dRow (uAt (us ++ [v]) us.length) (dAt p us.length)] = _
  rw [uAt_last, pRows_us (us := us ++ [v]) (us' := us) (p := p) (p' := p) us.length (fun j hj => ⟨uAt_app hj, rfl⟩)]
set_option maxRecDepth 100000 in
set_option maxHeartbeats 4000000 in
theorem toDirectoryS_core (b off c n : Nat) (p : Pst) (w : World) (HN : Hid (n = p.length)) (hx : n ≤ 1048576) (hb : b < w.heap.size) (hc : ∀ j, j < n → ∃ u, w.cell? ⟨b, off + j, none⟩ = some u ∧ Rcs w u (dAt p j)) (hpd : ∀ j, j < n → (dAt p j).length ≤ 1048576) :
    Calls Tryz.prog 73 #[.slice (some ⟨b, off, none⟩) n c] w fun e w' => ∃ us, e = .returned (.slice (some ⟨w.heap.size, 0, none⟩) n n) ∧ us.length = n ∧ Below w.heap.size w w' ∧ Own w.heap.size w'.heap.size w' ([oRow (.slice (some ⟨w.heap.size, 0, none⟩) n n) us] ++ pRows us p n) := by
  obtain ⟨i0, hi, hz0, hz1, hz2⟩ := info_parts Tryz.infoDi
  go_enter Tryz.func73, Tryz.ntmps73
  go_wp2_with (at_make; refine wpList_make_full _ rfl _ _ 96 rfl w.heap.size 94 i0 (.agg #[.slice none 0 0]) 1 Tryz.underlying96 hi hz0 hz1 _ _ _ _ n rfl rfl rfl rfl (by rw [hz2]; omega) (by unfold maxLen; omega) (Nat.le_refl _) ?_)
  intro w1 hown1 hg1
  have own1 : w1.ownsRow w.heap.size 94 1 (.slice (some ⟨w.heap.size, 0, none⟩) n n) n (List.replicate n nilV) := by rw [← made_oneD]; exact hown1
  have hB1 : Below w.heap.size w w1 := (Below.refl _ _).grown hg1 (Nat.le_refl _) (fun k hk => by cases hk)
  clear hown1 hg1
  go_wp2
  go_loopw [4] (fun i wr => ∃ (k : Nat) (us : List Value), k ≤ n ∧ i = .int .i64 k ∧ Hid (us.length = k) ∧ Hid (Below w.heap.size w wr) ∧ w.heap.size < wr.heap.size ∧ Hid (wr.ownsRow w.heap.size 94 1 (.slice (some ⟨w.heap.size, 0, none⟩) n n) n (us ++ List.replicate (n - k) nilV)) ∧ Hid (Own (w.heap.size + 1) wr.heap.size wr (pRows us p k))) (fun i _ => n - (intOf i).toNat)
  case atStart => exact ⟨0, [], Nat.zero_le _, rfl, rfl, hB1, (own1.lt _ rfl).2, own1, Own.nil _ _ _⟩
  case round =>
    obtain ⟨k, us, hk, rfl, HU, hB, hsz, ho, HR⟩ := hrel
    by_cases hkn : k < n
    · have hki : (k : Int) < (n : Int) := by omega
      obtain ⟨u, hu, hr⟩ := hc k hkn
      have d0 := (hB.out.cell (p := ⟨b, off + k, none⟩) hb).trans hu
      have hbr : b < wr.heap.size := Nat.lt_of_lt_of_le hb hB.out.size
      have hT := toDirectory_any u (dAt p k) wr (hr.below hB.out) (hpd k hkn)
      obtain ⟨ua, uc, rfl⟩ := hr.shape
      have HM : Hid (dAt p k = dAt p us.length) := (by rw [HU.out] : dAt p k = dAt p us.length)
      obtain ⟨m, hm⟩ : ∃ m, m = (dAt p k).length := ⟨_, rfl⟩
      have HML : Hid (m = (dAt p k).length) := hm
      rw [← hm] at hT d0
      clear hc hpd own1 hB1 hr hu hm
      go_wp2_with fail
      refine hT.mono ?_
      rintro e w2 ⟨a2, c2, rfl, hb2, o2⟩
      have ho2 := own_below ho.out hb2
      have f0 := ho2.frozenAt k
      obtain ⟨z0, g0⟩ := own_some1D ho2 (j := k) (by omega)
      obtain ⟨s1, r1⟩ := ho2.stored k (.slice a2 m c2)
      have HS1 : Hid ((w2.setCell ⟨w.heap.size, k, none⟩ (.slice a2 m c2)).ownsRow w.heap.size 94 1 (.slice (some ⟨w.heap.size, 0, none⟩) n n) n ((us ++ [.slice a2 m c2]) ++ List.replicate (n - (k + 1)) nilV)) := (by
        have := HU.out
        subst this
        rw [set_rep _ hkn] at s1
        exact s1 : (w2.setCell ⟨w.heap.size, k, none⟩ (.slice a2 m c2)).ownsRow w.heap.size 94 1 (.slice (some ⟨w.heap.size, 0, none⟩) n n) n ((us ++ [.slice a2 m c2]) ++ List.replicate (n - (k + 1)) nilV))
      have hsz2 : w.heap.size < w2.heap.size := by have := hb2.size; omega
      have HR1 : Hid (Own (w.heap.size + 1) w2.heap.size (w2.setCell ⟨w.heap.size, k, none⟩ (.slice a2 m c2)) (pRows (us ++ [.slice a2 m c2]) p (k + 1))) := (by
        have e1 := HU.out
        subst e1
        rw [pRows_snoc]
        have A := HR.out.below hb2
        have B : Own wr.heap.size w2.heap.size w2 [dRow (.slice a2 m c2) (dAt p us.length)] := Own.single (by
          show w2.ownsRow wr.heap.size 37 4 (.slice a2 m c2) (dAt p us.length).length (flR (dAt p us.length))
          rw [← HML.out]
          exact o2) (Nat.le_refl _)
        have C := A.app B (by omega) hb2.size
        exact C.grown r1 (fun g hg e => by
          have := C.lo g hg
          have e3 : some g = some w.heap.size := e
          cases e3
          omega) : Own (w.heap.size + 1) w2.heap.size (w2.setCell ⟨w.heap.size, k, none⟩ (.slice a2 m c2)) (pRows (us ++ [.slice a2 m c2]) p (k + 1)))
      have HB2 : Hid (Below w.heap.size w (w2.setCell ⟨w.heap.size, k, none⟩ (.slice a2 m c2))) := (below_after_of hB.out hb2).setCell (Nat.le_refl _) _
      have HU1 : Hid ((us ++ [Value.slice a2 m c2]).length = k + 1) := (by rw [List.length_append, HU.out]; rfl : (us ++ [Value.slice a2 m c2]).length = k + 1)
      clear ho2 s1 r1 hb2 hT o2 ho HR HU HM HML
      go_wp2
      go_roundw
      case rel => exact ⟨k + 1, us ++ [.slice a2 m c2], by omega, by go_num, HU1, HB2, by simp; omega, HS1, (by show Own _ _ _ _; simpa using HR1.out)⟩
      case measure => simp [intOf]; omega
    · have hkn : k = n := by omega
      subst hkn
      have ho1 := ho.out
      rw [Nat.sub_self, List.replicate_zero, List.append_nil] at ho1
      have HO : Hid (Own w.heap.size wr.heap.size wr ([oRow (.slice (some ⟨w.heap.size, 0, none⟩) k k) us] ++ pRows us p k)) := (by
        have A : Own w.heap.size (w.heap.size + 1) wr [oRow (.slice (some ⟨w.heap.size, 0, none⟩) k k) us] := by
          refine ⟨fun r hr => ?_, fun g hg => ?_, ?_⟩
          · rw [List.mem_singleton] at hr
            subst hr
            show wr.ownsRow w.heap.size 94 1 (.slice (some ⟨w.heap.size, 0, none⟩) k k) us.length us
            rw [HU.out]
            exact ho1
          · have e : blks [oRow (.slice (some ⟨w.heap.size, 0, none⟩) k k) us] = [w.heap.size] := rfl
            rw [e, List.mem_singleton] at hg
            omega
          · have e : blks [oRow (.slice (some ⟨w.heap.size, 0, none⟩) k k) us] = [w.heap.size] := rfl
            rw [e]
            simp
        exact A.app HR.out (by omega) (by omega) : Own w.heap.size wr.heap.size wr ([oRow (.slice (some ⟨w.heap.size, 0, none⟩) k k) us] ++ pRows us p k))
      clear hc hpd ho1 ho own1 hB1
      go_wp2
      go_ret
      exact ⟨us, rfl, HU.out, hB.out, HO.out⟩
/-- What a copy of directories is. -/
structure DsAns (w : World) (p : Pst) (v : Value) (us : List Value) (w' : World) : Prop where
  len : us.length = p.length
  below : Below w.heap.size w w'
  own : Own w.heap.size w'.heap.size w' ([oRow v us] ++ pRows us p p.length)
  sh : ∃ a c, v = .slice a p.length c
set_option maxRecDepth 100000 in
set_option maxHeartbeats 1000000 in
theorem toDirectoryS_any (v : Value) (p : Pst) (w : World) (hv : Dss w v p) (hx : p.length ≤ 1048576) (hpd : ∀ j, j < p.length → (dAt p j).length ≤ 1048576) :
    Calls Tryz.prog 73 #[v] w fun e w' => ∃ u us, e = .returned u ∧ DsAns w p u us w' := by
  obtain ⟨a, c, rfl⟩ := hv.shape
  by_cases h0 : 0 < p.length
  · obtain ⟨_, b, off, rfl, hb, hc⟩ := hv.at h0
    refine (toDirectoryS_core b off c p.length p w rfl hx hb hc hpd).mono ?_
    rintro e w' ⟨us, rfl, h1, h2, h3⟩
    exact ⟨_, us, rfl, h1, h2, h3, _, _, rfl⟩
  · have e1 : p = [] := List.eq_nil_of_length_eq_zero (by omega)
    subst e1
    obtain ⟨i0, hi, hz0, hz1, hz2⟩ := info_parts Tryz.infoDi
    simp only [List.length_nil] at *
    clear hv h0
    go_enter Tryz.func73, Tryz.ntmps73
    go_wp2_with (at_make; refine wpList_make_full _ rfl _ _ 96 rfl w.heap.size 94 i0 (.agg #[.slice none 0 0]) 1 Tryz.underlying96 hi hz0 hz1 _ _ _ _ 0 rfl rfl rfl rfl (by rw [hz2]; omega) (by unfold maxLen; omega) (Nat.le_refl _) ?_)
    intro w1 hown1 hg1
    have hB1 : Below w.heap.size w w1 := (Below.refl _ _).grown hg1 (Nat.le_refl _) (fun k hk => by cases hk)
    have HO : Hid (w1.ownsRow w.heap.size 94 1 (.slice (some ⟨w.heap.size, 0, none⟩) 0 0) 0 []) := (by rw [made_oneD] at hown1; exact hown1 : w1.ownsRow w.heap.size 94 1 (.slice (some ⟨w.heap.size, 0, none⟩) 0 0) 0 [])
    clear hown1 hg1
    go_wp2
    refine wp_loop_rounds 1 ?_; rw [rounds_succ]
    go_wp2
    go_ret
    exact ⟨_, [], rfl, rfl, hB1, Own.single (r := oRow _ []) HO.out (Nat.le_refl _), _, _, rfl⟩
/-- A state copied: it owns its memory. -/
structure SaAns (w : World) (s : St) (v : Sv) (us : List Value) (w' : World) : Prop where
  below : Below w.heap.size w w'
  own : StOwn w.heap.size w'.heap.size w' v us s
theorem SaAns.sts {w : World} {s : St} {v : Sv} {us : List Value} {w' : World} (h : SaAns w s v us w') : Sts w' v s := h.own.sts
theorem Own.setCell {lo hi : Nat} {w : World} {R : List Rw} (h : Own lo hi w R) (a : Addr) (ha : a.block < lo) (x : Value) : Own lo hi (w.setCell a x) R :=
  h.blocks fun g hg => heap_setCell_other w a g x (by have := h.lo g hg; omega)
theorem StOwn.setCell {lo hi : Nat} {w : World} {v : Sv} {us : List Value} {s : St} (h : StOwn lo hi w v us s) (a : Addr) (ha : a.block < lo) (x : Value) : StOwn lo hi (w.setCell a x) v us s := ⟨h.own.setCell a ha x, h.len⟩
/-- A state that is being copied. -/
structure TsI (N : Nat) (s : St) (v : Sv) (x2 x3 x4 x5 : Value) (w : World) : Prop where
  a : w.heap[N]? = some (stC s v 89)
  z : w.heap[N + 1]? = some (.cells #[.int .i64 0, .int .i64 0, .slice none 0 0, .slice none 0 0, .slice none 0 0, .slice none 0 0] 98)
  o : w.heap[N + 1 + 1]? = some (.cells #[.int .i64 s.ph, .int .i64 s.cu, x2, x3, x4, x5] 98)
theorem TsI.lt {N : Nat} {s : St} {v : Sv} {x2 x3 x4 x5 : Value} {w : World} (h : TsI N s v x2 x3 x4 x5 w) : N + 1 + 1 < w.heap.size := (Array.getElem?_eq_some_iff.1 h.o).1
theorem TsI.below {N : Nat} {s : St} {v : Sv} {x2 x3 x4 x5 : Value} {w w' : World} (h : TsI N s v x2 x3 x4 x5 w) (hb : Below w.heap.size w w') : TsI N s v x2 x3 x4 x5 w' :=
  ⟨(hb.block N (by have := h.lt; omega)).trans h.a, (hb.block (N + 1) (by have := h.lt; omega)).trans h.z, (hb.block (N + 1 + 1) h.lt).trans h.o⟩
theorem six_cellsS {w : World} {b : Nat} {x0 x1 x2 x3 x4 x5 : Value} {t : TypeId} (h : w.heap[b]? = some (.cells #[x0, x1, x2, x3, x4, x5] t)) : (w.cell? ⟨b, 0, none⟩ = some x0 ∧ w.cell? ⟨b, 1, none⟩ = some x1 ∧ w.cell? ⟨b, 2, none⟩ = some x2 ∧ w.cell? ⟨b, 3, none⟩ = some x3 ∧ w.cell? ⟨b, 4, none⟩ = some x4 ∧ w.cell? ⟨b, 5, none⟩ = some x5) ∧ w.frozen? ⟨b, 0, none⟩ = false ∧ w.frozen? ⟨b, 1, none⟩ = false ∧ w.frozen? ⟨b, 2, none⟩ = false ∧ w.frozen? ⟨b, 3, none⟩ = false ∧ w.frozen? ⟨b, 4, none⟩ = false ∧ w.frozen? ⟨b, 5, none⟩ = false := by
  simp [World.cell?, World.frozen?, h]
theorem TsI.set2 {N : Nat} {s : St} {v : Sv} {x2 x3 x4 x5 : Value} {w : World} (h : TsI N s v x2 x3 x4 x5 w) (y : Value) : TsI N s v y x3 x4 x5 (w.setCell ⟨N + 1 + 1, 2, none⟩ y) :=
  ⟨(heap_setCell_other w ⟨N + 1 + 1, 2, none⟩ N y (by simp; omega)).trans h.a, (heap_setCell_other w ⟨N + 1 + 1, 2, none⟩ (N + 1) y (by simp)).trans h.z, by simpa using heap_setCell_same w (N + 1 + 1) 2 _ _ y h.o⟩
theorem TsI.set3 {N : Nat} {s : St} {v : Sv} {x2 x3 x4 x5 : Value} {w : World} (h : TsI N s v x2 x3 x4 x5 w) (y : Value) : TsI N s v x2 y x4 x5 (w.setCell ⟨N + 1 + 1, 3, none⟩ y) :=
  ⟨(heap_setCell_other w ⟨N + 1 + 1, 3, none⟩ N y (by simp; omega)).trans h.a, (heap_setCell_other w ⟨N + 1 + 1, 3, none⟩ (N + 1) y (by simp)).trans h.z, by simpa using heap_setCell_same w (N + 1 + 1) 3 _ _ y h.o⟩
theorem TsI.set4 {N : Nat} {s : St} {v : Sv} {x2 x3 x4 x5 : Value} {w : World} (h : TsI N s v x2 x3 x4 x5 w) (y : Value) : TsI N s v x2 x3 y x5 (w.setCell ⟨N + 1 + 1, 4, none⟩ y) :=
  ⟨(heap_setCell_other w ⟨N + 1 + 1, 4, none⟩ N y (by simp; omega)).trans h.a, (heap_setCell_other w ⟨N + 1 + 1, 4, none⟩ (N + 1) y (by simp)).trans h.z, by simpa using heap_setCell_same w (N + 1 + 1) 4 _ _ y h.o⟩
theorem TsI.set5 {N : Nat} {s : St} {v : Sv} {x2 x3 x4 x5 : Value} {w : World} (h : TsI N s v x2 x3 x4 x5 w) (y : Value) : TsI N s v x2 x3 x4 y (w.setCell ⟨N + 1 + 1, 5, none⟩ y) :=
  ⟨(heap_setCell_other w ⟨N + 1 + 1, 5, none⟩ N y (by simp; omega)).trans h.a, (heap_setCell_other w ⟨N + 1 + 1, 5, none⟩ (N + 1) y (by simp)).trans h.z, by simpa using heap_setCell_same w (N + 1 + 1) 5 _ _ y h.o⟩
set_option maxRecDepth 100000 in
set_option maxHeartbeats 4000000 in
theorem toState_any (s : St) (v : Sv) (w : World) (hv : Sts w v s) (hB : StB s) :
    Calls Tryz.prog 33 #[stV s v] w fun e w' => ∃ u us, e = .returned (stV s u) ∧ SaAns w s u us w' := by
  obtain ⟨W, hW⟩ : ∃ W, W = ((w.alloc (stC s v 89)).alloc (.cells #[.int .i64 0, .int .i64 0, .slice none 0 0, .slice none 0 0, .slice none 0 0, .slice none 0 0] 98)).alloc (.cells #[.int .i64 s.ph, .int .i64 s.cu, .slice none 0 0, .slice none 0 0, .slice none 0 0, .slice none 0 0] 98) := ⟨_, rfl⟩
  have hBW : Below w.heap.size w W := by rw [hW]; exact ((one_new _).alloc (one_new _).size _).alloc ((one_new _).alloc (one_new _).size _).size _
  have I0 : TsI w.heap.size s v (.slice none 0 0) (.slice none 0 0) (.slice none 0 0) (.slice none 0 0) W := by
    rw [hW]
    have h1 := heap_alloc_new w (stC s v 89)
    have h2 := heap_alloc_new (w.alloc (stC s v 89)) (.cells #[.int .i64 0, .int .i64 0, .slice none 0 0, .slice none 0 0, .slice none 0 0, .slice none 0 0] 98)
    have h3 := heap_alloc_new ((w.alloc (stC s v 89)).alloc (.cells #[.int .i64 0, .int .i64 0, .slice none 0 0, .slice none 0 0, .slice none 0 0, .slice none 0 0] 98)) (.cells #[.int .i64 s.ph, .int .i64 s.cu, .slice none 0 0, .slice none 0 0, .slice none 0 0, .slice none 0 0] 98)
    simp only [World.size_alloc] at h2 h3
    exact ⟨((one_new _).block w.heap.size (by simp; omega)).trans (((one_new _).block w.heap.size (by simp)).trans h1), ((one_new _).block (w.heap.size + 1) (by simp)).trans h2, h3⟩
  have hvW := hv.below hBW
  have hT1 := toDirectory_any v.d s.d W hvW.d hB.d
  have HT2 : Hid (∀ w', Below w.heap.size w w' → Calls Tryz.prog 72 #[v.n] w' fun e w'' => ∃ a c, e = .returned (.slice a s.n.length c) ∧ Below w'.heap.size w' w'' ∧ w''.ownsRow w'.heap.size 45 2 (.slice a s.n.length c) s.n.length ((fl s.n).map (Value.int .i64))) := fun w' hb => toSlotS_any v.n s.n w' (hv.n.below hb) hB.n
  have HT3 : Hid (∀ w', Below w.heap.size w w' → Calls Tryz.prog 26 #[v.h] w' fun e w'' => ∃ a c, e = .returned (.slice a s.h.length c) ∧ Below w'.heap.size w' w'' ∧ w''.ownsRow w'.heap.size 43 5 (.slice a s.h.length c) s.h.length (flH s.h)) := fun w' hb => toHeadS_any v.h s.h w' (hv.h.below hb) hB.h
  have HT4 : Hid (∀ w', Below w.heap.size w w' → Calls Tryz.prog 73 #[v.p] w' fun e w'' => ∃ u us, e = .returned u ∧ DsAns w' s.p u us w'') := fun w' hb => toDirectoryS_any v.p s.p w' (hv.p.below hb) hB.p (fun j hj => (hB.pd j hj).1)
  obtain ⟨a1, c1, e1⟩ := hv.d.shape
  obtain ⟨a2, c2, e2⟩ := hv.n.shape
  obtain ⟨a3, c3, e3⟩ := hv.h.shape
  obtain ⟨a4, c4, e4⟩ := hv.p.shape
  have HLW : Hid (w.heap.size + 1 + 1 < W.heap.size) := I0.lt
  obtain ⟨ph, cu, d, n, h, p⟩ := s
  obtain ⟨vd, vn, vh, vp⟩ := v
  dsimp only at *
  subst e1 e2 e3 e4
  have HI0 : Hid (TsI w.heap.size ⟨ph, cu, d, n, h, p⟩ ⟨.slice a1 d.length c1, .slice a2 n.length c2, .slice a3 h.length c3, .slice a4 p.length c4⟩ (.slice none 0 0) (.slice none 0 0) (.slice none 0 0) (.slice none 0 0) W) := I0
  unfold stV
  dsimp only
  have HW : Hid (((w.alloc (.cells #[.int .i64 ph, .int .i64 cu, .slice a1 d.length c1, .slice a2 n.length c2, .slice a3 h.length c3, .slice a4 p.length c4] 89)).alloc (.cells #[.int .i64 0, .int .i64 0, .slice none 0 0, .slice none 0 0, .slice none 0 0, .slice none 0 0] 98)).alloc (.cells #[.int .i64 ph, .int .i64 cu, .slice none 0 0, .slice none 0 0, .slice none 0 0, .slice none 0 0] 98) = W) := hW.symm
  have HB0 : Hid (Below w.heap.size w W) := hBW
  clear hW hv hvW hB I0 hBW
  go_enter Tryz.func33, Tryz.ntmps33
  go_wp2_with fail
  rw [HW.out]
  refine hT1.mono ?_
  rintro e w1 ⟨b1, d1, rfl, hb1, o1⟩
  have I1 := HI0.out.below hb1
  obtain ⟨⟨-, -, -, j3, -, -⟩, -⟩ := six_cellsS (I1.set2 (.slice b1 d.length d1)).a
  obtain ⟨⟨-, -, k2, -, -, -⟩, -, -, f2, -⟩ := six_cellsS I1.o
  obtain ⟨W1, hW1⟩ : ∃ W1, W1 = w1.setCell ⟨w.heap.size + 1 + 1, 2, none⟩ (.slice b1 d.length d1) := ⟨_, rfl⟩
  have HI1 : Hid (TsI w.heap.size ⟨ph, cu, d, n, h, p⟩ ⟨.slice a1 d.length c1, .slice a2 n.length c2, .slice a3 h.length c3, .slice a4 p.length c4⟩ (.slice b1 d.length d1) (.slice none 0 0) (.slice none 0 0) (.slice none 0 0) W1) := (by rw [hW1]; exact I1.set2 _ : TsI w.heap.size ⟨ph, cu, d, n, h, p⟩ ⟨.slice a1 d.length c1, .slice a2 n.length c2, .slice a3 h.length c3, .slice a4 p.length c4⟩ (.slice b1 d.length d1) (.slice none 0 0) (.slice none 0 0) (.slice none 0 0) W1)
  have hsz1 : W1.heap.size = w1.heap.size := by rw [hW1]; simp
  have HO1 : Hid (Own W.heap.size W1.heap.size W1 [dRow (.slice b1 d.length d1) d]) := (by
    rw [hsz1, hW1]
    exact (Own.single (r := dRow (.slice b1 d.length d1) d) o1 (Nat.le_refl _)).setCell _ HLW.out _ : Own W.heap.size W1.heap.size W1 [dRow (.slice b1 d.length d1) d])
  have HB1 : Hid (Below w.heap.size w W1) := (by rw [hW1]; exact (below_after_of HB0.out hb1).setCell (by show w.heap.size ≤ w.heap.size + 1 + 1; omega) _ : Below w.heap.size w W1)
  have HS2 : Hid (W.heap.size ≤ W1.heap.size) := (by rw [hsz1]; have := hb1.size; omega : W.heap.size ≤ W1.heap.size)
  have HW1 : Hid (w1.setCell ⟨w.heap.size + 1 + 1, 2, none⟩ (.slice b1 d.length d1) = W1) := hW1.symm
  clear hT1 HW
  have hC := HT2.out _ HB1.out
  clear hW1 hsz1 I1 hb1 o1
  go_wp2_with fail
  rw [HW1.out]
  clear HW1 k2 f2 j3
  refine hC.mono ?_
  rintro e w2 ⟨b2, d2, rfl, hb2, o2⟩
  clear hC
  have I2 := HI1.out.below hb2
  obtain ⟨⟨-, -, -, -, j4, -⟩, -⟩ := six_cellsS (I2.set3 (.slice b2 n.length d2)).a
  obtain ⟨⟨-, -, -, k3, -, -⟩, -, -, -, f3, -⟩ := six_cellsS I2.o
  obtain ⟨W2, hW2⟩ : ∃ W2, W2 = w2.setCell ⟨w.heap.size + 1 + 1, 3, none⟩ (.slice b2 n.length d2) := ⟨_, rfl⟩
  have HI2 : Hid (TsI w.heap.size ⟨ph, cu, d, n, h, p⟩ ⟨.slice a1 d.length c1, .slice a2 n.length c2, .slice a3 h.length c3, .slice a4 p.length c4⟩ (.slice b1 d.length d1) (.slice b2 n.length d2) (.slice none 0 0) (.slice none 0 0) W2) := (by rw [hW2]; exact I2.set3 _ : TsI w.heap.size ⟨ph, cu, d, n, h, p⟩ ⟨.slice a1 d.length c1, .slice a2 n.length c2, .slice a3 h.length c3, .slice a4 p.length c4⟩ (.slice b1 d.length d1) (.slice b2 n.length d2) (.slice none 0 0) (.slice none 0 0) W2)
  have hsz2 : W2.heap.size = w2.heap.size := by rw [hW2]; simp
  have HO2 : Hid (Own W.heap.size W2.heap.size W2 ([dRow (.slice b1 d.length d1) d] ++ [nRow (.slice b2 n.length d2) n])) := (by
    rw [hsz2, hW2]
    exact ((HO1.out.below hb2).app (Own.single (r := nRow (.slice b2 n.length d2) n) o2 (Nat.le_refl _)) (by have := hb2.size; have := HS2.out; omega) hb2.size).setCell _ HLW.out _ : Own W.heap.size W2.heap.size W2 ([dRow (.slice b1 d.length d1) d] ++ [nRow (.slice b2 n.length d2) n]))
  have HB2 : Hid (Below w.heap.size w W2) := (by rw [hW2]; exact (below_after_of HB1.out hb2).setCell (by show w.heap.size ≤ w.heap.size + 1 + 1; omega) _ : Below w.heap.size w W2)
  have HS3 : Hid (W.heap.size ≤ W2.heap.size) := (by rw [hsz2]; have := hb2.size; have := HS2.out; omega : W.heap.size ≤ W2.heap.size)
  have HW2 : Hid (w2.setCell ⟨w.heap.size + 1 + 1, 3, none⟩ (.slice b2 n.length d2) = W2) := hW2.symm
  have hC := HT3.out _ HB2.out
  clear hW2 hsz2 I2 hb2 o2
  go_wp2_with fail
  rw [HW2.out]
  clear HW2 k3 f3 j4
  refine hC.mono ?_
  rintro e w3 ⟨b3, d3, rfl, hb3, o3⟩
  clear hC
  have I3 := HI2.out.below hb3
  obtain ⟨⟨-, -, -, -, -, j5⟩, -⟩ := six_cellsS (I3.set4 (.slice b3 h.length d3)).a
  obtain ⟨⟨-, -, -, -, k4, -⟩, -, -, -, -, f4, -⟩ := six_cellsS I3.o
  obtain ⟨W3, hW3⟩ : ∃ W3, W3 = w3.setCell ⟨w.heap.size + 1 + 1, 4, none⟩ (.slice b3 h.length d3) := ⟨_, rfl⟩
  have HI3 : Hid (TsI w.heap.size ⟨ph, cu, d, n, h, p⟩ ⟨.slice a1 d.length c1, .slice a2 n.length c2, .slice a3 h.length c3, .slice a4 p.length c4⟩ (.slice b1 d.length d1) (.slice b2 n.length d2) (.slice b3 h.length d3) (.slice none 0 0) W3) := (by rw [hW3]; exact I3.set4 _ : TsI w.heap.size ⟨ph, cu, d, n, h, p⟩ ⟨.slice a1 d.length c1, .slice a2 n.length c2, .slice a3 h.length c3, .slice a4 p.length c4⟩ (.slice b1 d.length d1) (.slice b2 n.length d2) (.slice b3 h.length d3) (.slice none 0 0) W3)
  have hsz3 : W3.heap.size = w3.heap.size := by rw [hW3]; simp
  have HO3 : Hid (Own W.heap.size W3.heap.size W3 (([dRow (.slice b1 d.length d1) d] ++ [nRow (.slice b2 n.length d2) n]) ++ [hRow (.slice b3 h.length d3) h])) := (by
    rw [hsz3, hW3]
    exact ((HO2.out.below hb3).app (Own.single (r := hRow (.slice b3 h.length d3) h) o3 (Nat.le_refl _)) (by have := hb3.size; have := HS3.out; omega) hb3.size).setCell _ HLW.out _ : Own W.heap.size W3.heap.size W3 (([dRow (.slice b1 d.length d1) d] ++ [nRow (.slice b2 n.length d2) n]) ++ [hRow (.slice b3 h.length d3) h]))
  have HB3 : Hid (Below w.heap.size w W3) := (by rw [hW3]; exact (below_after_of HB2.out hb3).setCell (by show w.heap.size ≤ w.heap.size + 1 + 1; omega) _ : Below w.heap.size w W3)
  have HS4 : Hid (W.heap.size ≤ W3.heap.size) := (by rw [hsz3]; have := hb3.size; have := HS3.out; omega : W.heap.size ≤ W3.heap.size)
  have HW3 : Hid (w3.setCell ⟨w.heap.size + 1 + 1, 4, none⟩ (.slice b3 h.length d3) = W3) := hW3.symm
  have hC := HT4.out _ HB3.out
  clear hW3 hsz3 I3 hb3 o3
  go_wp2_with fail
  rw [HW3.out]
  clear HW3 k4 f4 j5
  refine hC.mono ?_
  rintro e w4 ⟨u4, us, rfl, o4⟩
  clear hC
  obtain ⟨b4, d4, hu4⟩ := o4.sh
  subst hu4
  have hb4 := o4.below
  have I4 := HI3.out.below hb4
  obtain ⟨⟨-, -, -, -, -, k5⟩, -, -, -, -, -, f5⟩ := six_cellsS I4.o
  obtain ⟨W4, hW4⟩ : ∃ W4, W4 = w4.setCell ⟨w.heap.size + 1 + 1, 5, none⟩ (.slice b4 p.length d4) := ⟨_, rfl⟩
  have HI4 : Hid (TsI w.heap.size ⟨ph, cu, d, n, h, p⟩ ⟨.slice a1 d.length c1, .slice a2 n.length c2, .slice a3 h.length c3, .slice a4 p.length c4⟩ (.slice b1 d.length d1) (.slice b2 n.length d2) (.slice b3 h.length d3) (.slice b4 p.length d4) W4) := (by rw [hW4]; exact I4.set5 _ : TsI w.heap.size ⟨ph, cu, d, n, h, p⟩ ⟨.slice a1 d.length c1, .slice a2 n.length c2, .slice a3 h.length c3, .slice a4 p.length c4⟩ (.slice b1 d.length d1) (.slice b2 n.length d2) (.slice b3 h.length d3) (.slice b4 p.length d4) W4)
  have hsz4 : W4.heap.size = w4.heap.size := by rw [hW4]; simp
  have HO4 : Hid (Own W.heap.size W4.heap.size W4 ((([dRow (.slice b1 d.length d1) d] ++ [nRow (.slice b2 n.length d2) n]) ++ [hRow (.slice b3 h.length d3) h]) ++ ([oRow (.slice b4 p.length d4) us] ++ pRows us p p.length))) := (by
    rw [hsz4, hW4]
    exact ((HO3.out.below hb4).app (o4.own) (by have := hb4.size; have := HS4.out; omega) hb4.size).setCell _ HLW.out _ : Own W.heap.size W4.heap.size W4 ((([dRow (.slice b1 d.length d1) d] ++ [nRow (.slice b2 n.length d2) n]) ++ [hRow (.slice b3 h.length d3) h]) ++ ([oRow (.slice b4 p.length d4) us] ++ pRows us p p.length)))
  have HB4 : Hid (Below w.heap.size w W4) := (by rw [hW4]; exact (below_after_of HB3.out hb4).setCell (by show w.heap.size ≤ w.heap.size + 1 + 1; omega) _ : Below w.heap.size w W4)
  have HS5 : Hid (W.heap.size ≤ W4.heap.size) := (by rw [hsz4]; have := hb4.size; have := HS4.out; omega : W.heap.size ≤ W4.heap.size)
  have HW4 : Hid (w4.setCell ⟨w.heap.size + 1 + 1, 5, none⟩ (.slice b4 p.length d4) = W4) := hW4.symm
  have Z := HI4.out
  obtain ⟨⟨y0, y1, y2, y3, y4, y5⟩, -⟩ := six_cellsS Z.o
  obtain ⟨⟨z0, z1, z2, z3, z4, z5⟩, g0, g1, g2, g3, g4, g5⟩ := six_cellsS Z.z
  have HLN : Hid (us.length = p.length) := o4.len
  have hlt4 : w.heap.size + 1 + 1 < W4.heap.size := Z.lt
  rw [hW4] at y0 y1 y2 y3 y4 y5 z0 z1 z2 z3 z4 z5 g0 g1 g2 g3 g4 g5 hlt4
  clear hW4 hsz4 I4 hb4 o4 Z
  go_wp2_with fail
  refine bodyPost_ret (v := .agg #[.int .i64 ph, .int .i64 cu, .slice b1 d.length d1, .slice b2 n.length d2, .slice b3 h.length d3, .slice b4 p.length d4]) (by simp [results, Tryz.results33, go_sem, z0, z1, z2, z3, z4, z5]) rfl ⟨⟨.slice b1 d.length d1, .slice b2 n.length d2, .slice b3 h.length d3, .slice b4 p.length d4⟩, us, rfl, ?_, ?_⟩
  · rw [HW4.out]
    exact (((((HB4.out.setCell (Nat.le_succ _) _).setCell (Nat.le_succ _) _).setCell (Nat.le_succ _) _).setCell (Nat.le_succ _) _).setCell (Nat.le_succ _) _).setCell (Nat.le_succ _) _
  · rw [HW4.out]
    have hL1 : w.heap.size + 1 < W.heap.size := by have := HLW.out; omega
    have A : StOwn W.heap.size W4.heap.size W4 ⟨.slice b1 d.length d1, .slice b2 n.length d2, .slice b3 h.length d3, .slice b4 p.length d4⟩ us ⟨ph, cu, d, n, h, p⟩ := ⟨by
      have := HO4.out
      rw [List.append_assoc, List.append_assoc] at this
      exact this, HLN.out⟩
    have B := (((((A.setCell ⟨w.heap.size + 1, 0, none⟩ hL1 (.int .i64 ph)).setCell ⟨w.heap.size + 1, 1, none⟩ hL1 (.int .i64 cu)).setCell ⟨w.heap.size + 1, 2, none⟩ hL1 (.slice b1 d.length d1)).setCell ⟨w.heap.size + 1, 3, none⟩ hL1 (.slice b2 n.length d2)).setCell ⟨w.heap.size + 1, 4, none⟩ hL1 (.slice b3 h.length d3)).setCell ⟨w.heap.size + 1, 5, none⟩ hL1 (.slice b4 p.length d4)
    exact B.wide (by omega) (by simp)
end U
end Go.Proofs.YtihhigmceeabmaaGreat

/- States as the laws look at them: compared. -/
namespace Go.Proofs.YtihhigmceeabmaaGreat
open Go.RowKit
namespace U
set_option maxRecDepth 100000 in
set_option maxHeartbeats 4000000 in
theorem eqDirectoryS_core (b off c b' off' c' n : Nat) (p : Pst) (w : World) (hx : n ≤ 1048576) (hb : b < w.heap.size) (hb' : b' < w.heap.size) (hpd : ∀ j, j < n → (dAt p j).length ≤ 1048576) (hc : ∀ j, j < n → ∃ u, w.cell? ⟨b, off + j, none⟩ = some u ∧ Rcs w u (dAt p j)) (hc' : ∀ j, j < n → ∃ u, w.cell? ⟨b', off' + j, none⟩ = some u ∧ Rcs w u (dAt p j)) :
    Calls Tryz.prog 78 #[.slice (some ⟨b, off, none⟩) n c, .slice (some ⟨b', off', none⟩) n c'] w fun e w' => e = .returned (.bool true) ∧ Below w.heap.size w w' := by
  have hnn := hne_all
  go_enter Tryz.func78, Tryz.ntmps78
  go_wp2
  go_loopw [5] (fun i wr => ∃ k : Nat, k ≤ n ∧ i = .int .i64 k ∧ Hid (Below w.heap.size w wr)) (fun i _ => n - (intOf i).toNat)
  case atStart => exact ⟨0, Nat.zero_le _, rfl, Below.refl _ _⟩
  case round =>
    obtain ⟨k, hk, rfl, hB⟩ := hrel
    by_cases hkn : k < n
    · have hki : (k : Int) < (n : Int) := by omega
      obtain ⟨u, hu, hr⟩ := hc k hkn
      obtain ⟨u', hu', hr'⟩ := hc' k hkn
      have d0 := (hB.out.cell (p := ⟨b, off + k, none⟩) hb).trans hu
      have d0' := (hB.out.cell (p := ⟨b', off' + k, none⟩) hb').trans hu'
      have hE := fun w' (h : Below wr.heap.size wr w') => eqDirectory_same u u' (dAt p k) w' (hr.below (below_after_of hB.out h)) (hr'.below (below_after_of hB.out h)) (hpd k hkn)
      obtain ⟨a1, c1, rfl⟩ := hr.shape
      obtain ⟨a2, c2, rfl⟩ := hr'.shape
      generalize (dAt p k).length = m at *
      have q0 := After.cell d0
      have p0 := After.cell d0'
      have hne := After.ne wr
      clear hc hc' d0 d0' hu hu' hr hr' hpd
      go_wp2_with fail
      refine wp_region_after (by kernel_rfl) (by kernel_rfl) ?_
      repeat (first | go_big_quiet_skip | (go_big_quiet_want; go_big_quiet_op; first | go_big_quiet_on | go_big_quiet_call (first | (go_at_call 76; refine (hE _ (After.b _)).mono ?_; rintro e wq ⟨rfl, hbq⟩; exact ⟨rfl, after_mk (below_after_of (After.b _) hbq)⟩))))
      refine wpQuiet_nil ?_
      rintro _ ⟨n6, rfl⟩
      have HB6 : Hid (Below w.heap.size w n6.w) := below_after_of hB.out n6.b
      generalize n6.w = w6 at *
      clear hne q0 p0 n6 hE
      go_wp2
      go_roundw
      case rel => exact ⟨k + 1, by omega, by go_num, HB6⟩
      case measure => simp [intOf]; omega
    · have hkn : k = n := by omega
      subst hkn
      clear hc hc'
      go_wp2
      go_ret
      exact ⟨rfl, hB.out⟩
set_option maxRecDepth 100000 in
set_option maxHeartbeats 1000000 in
theorem eqDirectoryS_same (v u : Value) (p : Pst) (w : World) (hv : Dss w v p) (hu : Dss w u p) (hx : p.length ≤ 1048576) (hpd : ∀ j, j < p.length → (dAt p j).length ≤ 1048576) :
    Calls Tryz.prog 78 #[v, u] w fun e w' => e = .returned (.bool true) ∧ Below w.heap.size w w' := by
  obtain ⟨a, c, rfl⟩ := hv.shape
  obtain ⟨a', c', rfl⟩ := hu.shape
  by_cases h0 : 0 < p.length
  · obtain ⟨-, b, off, rfl, hb, hc⟩ := hv.at h0
    obtain ⟨-, b', off', rfl, hb', hc'⟩ := hu.at h0
    exact eqDirectoryS_core b off c b' off' c' p.length p w hx hb hb' hpd hc hc'
  · have e1 : p = [] := List.eq_nil_of_length_eq_zero (by omega)
    subst e1
    simp only [List.length_nil] at *
    clear hv hu h0
    go_enter Tryz.func78, Tryz.ntmps78
    go_wp2
    refine wp_loop_rounds 1 ?_; rw [rounds_succ]
    go_wp2
    go_ret
    exact ⟨rfl, Below.refl _ _⟩
set_option maxRecDepth 100000 in
set_option maxHeartbeats 2000000 in
theorem eqState_same (s : St) (v u : Sv) (w : World) (hv : Sts w v s) (hu : Sts w u s) (hB : StB s) :
    Calls Tryz.prog 35 #[stV s v, stV s u] w fun e w' => e = .returned (.bool true) ∧ Below w.heap.size w w' := by
  obtain ⟨W, hW⟩ : ∃ W, W = (w.alloc (stC s v 98)).alloc (stC s u 98) := ⟨_, rfl⟩
  have hBW : Below w.heap.size w W := by rw [hW]; exact two_new _ _
  have hC1 : StC W w.heap.size s v := by rw [hW]; exact (StC.new w s v _).below (one_new _) (by simp)
  have hC2 : StC W (w.heap.size + 1) s u := by
    have := StC.new (w.alloc (stC s v 98)) s u 98
    rw [World.size_alloc] at this
    rw [hW]
    exact this
  have hnn := hne_all
  have HC : Hid (∀ w', Below W.heap.size W w' → StC w' w.heap.size s v ∧ StC w' (w.heap.size + 1) s u) := fun w' hb => ⟨hC1.below hb hC1.lt, hC2.below hb hC2.lt⟩
  have HD : Hid (∀ w', Below W.heap.size W w' → Calls Tryz.prog 76 #[.agg #[v.d], .agg #[u.d]] w' fun e w'' => e = .returned (.bool true) ∧ Below w'.heap.size w' w'') := fun w' hb => eqDirectory_same v.d u.d s.d w' ((hv.d.below hBW).below hb) ((hu.d.below hBW).below hb) hB.d
  have HN : Hid (∀ w', Below W.heap.size W w' → Calls Tryz.prog 77 #[v.n, u.n] w' fun e w'' => e = .returned (.bool true) ∧ Below w'.heap.size w' w'') := fun w' hb => by
    have := eqSlotS_any v.n u.n s.n s.n w' ((hv.n.below hBW).below hb) ((hu.n.below hBW).below hb) (by have := hB.n; omega) (by have := hB.n; omega)
    rw [decide_eq_true rfl] at this
    exact this
  have HH : Hid (∀ w', Below W.heap.size W w' → Calls Tryz.prog 29 #[v.h, u.h] w' fun e w'' => e = .returned (.bool true) ∧ Below w'.heap.size w' w'') := fun w' hb => eqHeadS_same v.h u.h s.h w' ((hv.h.below hBW).below hb) ((hu.h.below hBW).below hb) hB.h
  have HP : Hid (∀ w', Below W.heap.size W w' → Calls Tryz.prog 78 #[v.p, u.p] w' fun e w'' => e = .returned (.bool true) ∧ Below w'.heap.size w' w'') := fun w' hb => eqDirectoryS_same v.p u.p s.p w' ((hv.p.below hBW).below hb) ((hu.p.below hBW).below hb) hB.p (fun j hj => (hB.pd j hj).1)
  obtain ⟨a1, c1, e1⟩ := hv.d.shape
  obtain ⟨a2, c2, e2⟩ := hv.n.shape
  obtain ⟨a3, c3, e3⟩ := hv.h.shape
  obtain ⟨a4, c4, e4⟩ := hv.p.shape
  obtain ⟨b1, k1, f1⟩ := hu.d.shape
  obtain ⟨b2, k2, f2⟩ := hu.n.shape
  obtain ⟨b3, k3, f3⟩ := hu.h.shape
  obtain ⟨b4, k4, f4⟩ := hu.p.shape
  obtain ⟨ph, cu, d, n, h, p⟩ := s
  obtain ⟨vd, vn, vh, vp⟩ := v
  obtain ⟨ud, un, uh, up⟩ := u
  dsimp only at *
  subst e1 e2 e3 e4 f1 f2 f3 f4
  unfold stC at hW
  unfold stV
  dsimp only at *
  have HLN : Hid (∀ w', Below W.heap.size W w' → (w'.cell? ⟨w.heap.size, 0, none⟩ = some (.int .i64 ph) ∧ w'.cell? ⟨w.heap.size, 1, none⟩ = some (.int .i64 cu) ∧ w'.cell? ⟨w.heap.size, 2, none⟩ = some (.slice a1 d.length c1) ∧ w'.cell? ⟨w.heap.size, 3, none⟩ = some (.slice a2 n.length c2) ∧ w'.cell? ⟨w.heap.size, 4, none⟩ = some (.slice a3 h.length c3) ∧ w'.cell? ⟨w.heap.size, 5, none⟩ = some (.slice a4 p.length c4)) ∧ w'.cell? ⟨w.heap.size + 1, 0, none⟩ = some (.int .i64 ph) ∧ w'.cell? ⟨w.heap.size + 1, 1, none⟩ = some (.int .i64 cu) ∧ w'.cell? ⟨w.heap.size + 1, 2, none⟩ = some (.slice b1 d.length k1) ∧ w'.cell? ⟨w.heap.size + 1, 3, none⟩ = some (.slice b2 n.length k2) ∧ w'.cell? ⟨w.heap.size + 1, 4, none⟩ = some (.slice b3 h.length k3) ∧ w'.cell? ⟨w.heap.size + 1, 5, none⟩ = some (.slice b4 p.length k4)) := fun w' hb => by
    obtain ⟨x, y⟩ := HC.out w' hb
    exact ⟨⟨x.c0, x.c1, x.c2, x.c3, x.c4, x.c5⟩, y.c0, y.c1, y.c2, y.c3, y.c4, y.c5⟩
  have HW : Hid ((w.alloc (.cells #[.int .i64 ph, .int .i64 cu, .slice a1 d.length c1, .slice a2 n.length c2, .slice a3 h.length c3, .slice a4 p.length c4] 98)).alloc (.cells #[.int .i64 ph, .int .i64 cu, .slice b1 d.length k1, .slice b2 n.length k2, .slice b3 h.length k3, .slice b4 p.length k4] 98) = W) := hW.symm
  have HBW : Hid (Below w.heap.size w W) := hBW
  generalize d.length = dn at *
  generalize n.length = nn at *
  generalize h.length = hn at *
  generalize p.length = pn at *
  clear hv hu hB hC1 hC2 HC hW hBW
  go_enter Tryz.func35, Tryz.ntmps35
  go_wp2_with fail
  rw [HW.out]
  refine (HD.out _ (Below.refl _ _)).mono ?_
  rintro e w1 ⟨rfl, hb1⟩
  obtain ⟨⟨-, -, -, x3, -, -⟩, -, -, -, y3, -, -⟩ := HLN.out _ hb1
  go_wp2_with fail
  refine (HN.out _ hb1).mono ?_
  rintro e w2 ⟨rfl, hb2⟩
  have hb2 := below_after_of hb1 hb2
  clear hb1 x3 y3
  obtain ⟨⟨-, -, -, -, x4, -⟩, -, -, -, -, y4, -⟩ := HLN.out _ hb2
  go_wp2_with fail
  refine (HH.out _ hb2).mono ?_
  rintro e w3 ⟨rfl, hb3⟩
  have hb3 := below_after_of hb2 hb3
  clear hb2 x4 y4
  obtain ⟨⟨-, -, -, -, -, x5⟩, -, -, -, -, -, y5⟩ := HLN.out _ hb3
  go_wp2_with fail
  refine (HP.out _ hb3).mono ?_
  rintro e w4 ⟨rfl, hb4⟩
  have hb4 := below_after_of hb3 hb4
  clear hb3 x5 y5
  go_wp2
  go_ret
  exact ⟨rfl, below_after_of HBW.out hb4⟩
end U
end Go.Proofs.YtihhigmceeabmaaGreat

/- What the laws on states share. -/
namespace Go.Proofs.YtihhigmceeabmaaGreat
open Go.RowKit
namespace U
/-- Four slices. -/
def sv (a1 a2 a3 a4 : Option Addr) (n1 n2 n3 n4 c1 c2 c3 c4 : Nat) : Sv := ⟨.slice a1 n1 c1, .slice a2 n2 c2, .slice a3 n3 c3, .slice a4 n4 c4⟩
theorem Sts.four {w : World} {u : Sv} {s : St} (h : Sts w u s) : ∃ a1 a2 a3 a4 c1 c2 c3 c4, u = sv a1 a2 a3 a4 s.d.length s.n.length s.h.length s.p.length c1 c2 c3 c4 := by
  obtain ⟨a1, c1, e1⟩ := h.d.shape
  obtain ⟨a2, c2, e2⟩ := h.n.shape
  obtain ⟨a3, c3, e3⟩ := h.h.shape
  obtain ⟨a4, c4, e4⟩ := h.p.shape
  obtain ⟨x, y, z, u⟩ := u
  dsimp only at e1 e2 e3 e4
  subst e1 e2 e3 e4
  exact ⟨_, _, _, _, _, _, _, _, rfl⟩
/-- The argument copied, from a world on. -/
structure ToS (w : World) (s : St) (ph cu : Int) (a1 a2 a3 a4 : Option Addr) (n1 n2 n3 n4 c1 c2 c3 c4 : Nat) : Prop where
  c : ∀ w', Below w.heap.size w w' → Calls Tryz.prog 33 #[.agg #[.int .i64 ph, .int .i64 cu, .slice a1 n1 c1, .slice a2 n2 c2, .slice a3 n3 c3, .slice a4 n4 c4]] w' fun e w'' => ∃ b1 b2 b3 b4 d1 d2 d3 d4 us, e = .returned (.agg #[.int .i64 ph, .int .i64 cu, .slice b1 n1 d1, .slice b2 n2 d2, .slice b3 n3 d3, .slice b4 n4 d4]) ∧ SaAns w' s (sv b1 b2 b3 b4 n1 n2 n3 n4 d1 d2 d3 d4) us w''
set_option maxRecDepth 100000 in
theorem ToS.mk' {w : World} {s : St} {a1 a2 a3 a4 : Option Addr} {c1 c2 c3 c4 : Nat} (h : Sts w (sv a1 a2 a3 a4 s.d.length s.n.length s.h.length s.p.length c1 c2 c3 c4) s) (hB : StB s) : ToS w s s.ph s.cu a1 a2 a3 a4 s.d.length s.n.length s.h.length s.p.length c1 c2 c3 c4 := ⟨fun w' hb => by
  refine (toState_any s _ w' (h.below hb) hB).mono ?_
  rintro e w'' ⟨u, us, rfl, h1⟩
  obtain ⟨b1, b2, b3, b4, d1, d2, d3, d4, rfl⟩ := h1.sts.four
  exact ⟨b1, b2, b3, b4, d1, d2, d3, d4, us, rfl, h1⟩⟩
/-- Copies compared. -/
structure EqS (s : St) (ph cu : Int) (n1 n2 n3 n4 : Nat) : Prop where
  c : ∀ (w' : World) (a1 a2 a3 a4 b1 b2 b3 b4 : Option Addr) (c1 c2 c3 c4 d1 d2 d3 d4 : Nat), Sts w' (sv a1 a2 a3 a4 n1 n2 n3 n4 c1 c2 c3 c4) s → Sts w' (sv b1 b2 b3 b4 n1 n2 n3 n4 d1 d2 d3 d4) s → Calls Tryz.prog 35 #[.agg #[.int .i64 ph, .int .i64 cu, .slice a1 n1 c1, .slice a2 n2 c2, .slice a3 n3 c3, .slice a4 n4 c4], .agg #[.int .i64 ph, .int .i64 cu, .slice b1 n1 d1, .slice b2 n2 d2, .slice b3 n3 d3, .slice b4 n4 d4]] w' fun e w'' => e = .returned (.bool true) ∧ Below w'.heap.size w' w''
set_option maxRecDepth 100000 in
theorem EqS.mk' {s : St} (hB : StB s) : EqS s s.ph s.cu s.d.length s.n.length s.h.length s.p.length := ⟨fun w' a1 a2 a3 a4 b1 b2 b3 b4 c1 c2 c3 c4 d1 d2 d3 d4 h1 h2 => by
  have := eqState_same s _ _ w' h1 h2 hB
  unfold stV sv at this
  exact this⟩
/-- Six cells of a state. -/
def C6 (w : World) (b : Nat) (ph cu : Int) (a1 a2 a3 a4 : Option Addr) (n1 n2 n3 n4 c1 c2 c3 c4 : Nat) : Prop :=
  w.cell? ⟨b, 0, none⟩ = some (.int .i64 ph) ∧ w.cell? ⟨b, 1, none⟩ = some (.int .i64 cu) ∧ w.cell? ⟨b, 2, none⟩ = some (.slice a1 n1 c1) ∧ w.cell? ⟨b, 3, none⟩ = some (.slice a2 n2 c2) ∧ w.cell? ⟨b, 4, none⟩ = some (.slice a3 n3 c3) ∧ w.cell? ⟨b, 5, none⟩ = some (.slice a4 n4 c4)
/-- A box of a state: it stays. -/
structure Bx (w : World) (b : Nat) (ph cu : Int) (a1 a2 a3 a4 : Option Addr) (n1 n2 n3 n4 c1 c2 c3 c4 : Nat) : Prop where
  lt : b < w.heap.size
  c : C6 w b ph cu a1 a2 a3 a4 n1 n2 n3 n4 c1 c2 c3 c4
theorem Bx.below {w w' : World} {b : Nat} {ph cu : Int} {a1 a2 a3 a4 : Option Addr} {n1 n2 n3 n4 c1 c2 c3 c4 : Nat} (h : Bx w b ph cu a1 a2 a3 a4 n1 n2 n3 n4 c1 c2 c3 c4) (hb : Below w.heap.size w w') : Bx w' b ph cu a1 a2 a3 a4 n1 n2 n3 n4 c1 c2 c3 c4 :=
  ⟨Nat.lt_of_lt_of_le h.lt hb.size, (hb.cell (p := ⟨b, 0, none⟩) h.lt).trans h.c.1, (hb.cell (p := ⟨b, 1, none⟩) h.lt).trans h.c.2.1, (hb.cell (p := ⟨b, 2, none⟩) h.lt).trans h.c.2.2.1, (hb.cell (p := ⟨b, 3, none⟩) h.lt).trans h.c.2.2.2.1, (hb.cell (p := ⟨b, 4, none⟩) h.lt).trans h.c.2.2.2.2.1, (hb.cell (p := ⟨b, 5, none⟩) h.lt).trans h.c.2.2.2.2.2⟩
theorem Bx.new (w : World) (ph cu : Int) (a1 a2 a3 a4 : Option Addr) (n1 n2 n3 n4 c1 c2 c3 c4 : Nat) (t : TypeId) : Bx (w.alloc (.cells #[.int .i64 ph, .int .i64 cu, .slice a1 n1 c1, .slice a2 n2 c2, .slice a3 n3 c3, .slice a4 n4 c4] t)) w.heap.size ph cu a1 a2 a3 a4 n1 n2 n3 n4 c1 c2 c3 c4 :=
  ⟨by simp, (six_cellsS (heap_alloc_new w _)).1⟩
theorem Bx.tch {w w' : World} {b x y : Nat} {ph cu : Int} {a1 a2 a3 a4 : Option Addr} {n1 n2 n3 n4 c1 c2 c3 c4 : Nat} (h : Bx w b ph cu a1 a2 a3 a4 n1 n2 n3 n4 c1 c2 c3 c4) (ht : Tch x y w w') (hb : b < x ∨ y ≤ b) : Bx w' b ph cu a1 a2 a3 a4 n1 n2 n3 n4 c1 c2 c3 c4 := by
  have e : w'.heap[b]? = w.heap[b]? := ht.block b h.lt hb
  have q := fun j => World.cell?_of_block (a := ⟨b, j, none⟩) e
  exact ⟨Nat.lt_of_lt_of_le h.lt ht.size, (q 0).trans h.c.1, (q 1).trans h.c.2.1, (q 2).trans h.c.2.2.1, (q 3).trans h.c.2.2.2.1, (q 4).trans h.c.2.2.2.2.1, (q 5).trans h.c.2.2.2.2.2⟩
end U
end Go.Proofs.YtihhigmceeabmaaGreat

/- Slots compared. -/
namespace Go.Proofs.YtihhigmceeabmaaGreat
open Go.RowKit
namespace U
def prB (p q : Int × Int) : Bool := (p.1 == q.1) && (p.2 == q.2)
theorem prB_iff (p q : Int × Int) : prB p q = true ↔ p = q := by
  obtain ⟨a, b⟩ := p
  obtain ⟨c, d⟩ := q
  unfold prB
  simp only [Bool.and_eq_true, beq_iff_eq, Prod.mk.injEq]
theorem slot_neq_any (p q : Int × Int) (w : World) : (binOp .neq 45 (.agg #[.int .i64 p.1, .int .i64 p.2]) (.agg #[.int .i64 q.1, .int .i64 q.2])).run Tryz.prog w = .ok (.bool (!prB p q)) w := by
  unfold prB
  simp [go_sem]
  by_cases h : p.1 = q.1 <;> by_cases h1 : p.2 = q.2 <;> simp [h, h1]
def PrC (w : World) (b off n : Nat) (l : Prl) : Prop := ∀ j, j < n → w.cell? ⟨b, off + j * 2, none⟩ = some (.int .i64 (pAt l j).1) ∧ w.cell? ⟨b, off + j * 2 + 1, none⟩ = some (.int .i64 (pAt l j).2)
set_option maxRecDepth 100000 in
set_option maxHeartbeats 4000000 in
theorem slEq_core (b off c b' off' c' n : Nat) (l m : Prl) (w : World) (HN : Hid (n = l.length ∧ n = m.length)) (hx : n ≤ 1048576) (hb : b < w.heap.size) (hb' : b' < w.heap.size) (hc : PrC w b off n l) (hc' : PrC w b' off' n m) :
    Calls Tryz.prog 158 #[.slice (some ⟨b, off, none⟩) n c, .slice (some ⟨b', off', none⟩) n c'] w fun e w' => e = .returned (.bool (eqP l m)) ∧ Below w.heap.size w w' := by
  have hnn := hne_all
  go_enter Tryz.func158, Tryz.ntmps158
  go_wp2
  go_loopw [13] (fun i wr => ∃ k : Nat, k ≤ n ∧ i = .int .i64 k ∧ Hid (Below w.heap.size w wr) ∧ Hid (∀ j, j < k → prB (pAt l j) (pAt m j) = true)) (fun i _ => n - (intOf i).toNat)
  case atStart => exact ⟨0, Nat.zero_le _, rfl, Below.refl _ _, fun j hj => by omega⟩
  case round =>
    obtain ⟨k, hk, rfl, hB, HA⟩ := hrel
    by_cases hkn : k < n
    · have hki : (k : Int) < (n : Int) := by omega
      obtain ⟨e0, e1⟩ := hc k hkn
      obtain ⟨e0', e1'⟩ := hc' k hkn
      have d0 := (hB.out.cell (p := ⟨b, off + k * 2, none⟩) hb).trans e0
      have d1 := (hB.out.cell (p := ⟨b, off + k * 2 + 1, none⟩) hb).trans e1
      have d0' := (hB.out.cell (p := ⟨b', off' + k * 2, none⟩) hb').trans e0'
      have d1' := (hB.out.cell (p := ⟨b', off' + k * 2 + 1, none⟩) hb').trans e1'
      have hE := slot_neq_any (pAt l k) (pAt m k)
      have HNO : Hid (prB (pAt l k) (pAt m k) = false → eqP l m = false) := (fun h => eqP_no (k := k) (fun e => by rw [(prB_iff _ _).2 e] at h; cases h) : prB (pAt l k) (pAt m k) = false → eqP l m = false)
      have HYE : Hid (prB (pAt l k) (pAt m k) = true → ∀ j, j < k + 1 → prB (pAt l j) (pAt m j) = true) := (fun h j hj => by
        by_cases e : j = k
        · subst e; exact h
        · exact HA.out j (by omega) : prB (pAt l k) (pAt m k) = true → ∀ j, j < k + 1 → prB (pAt l j) (pAt m j) = true)
      generalize prB (pAt l k) (pAt m k) = rb at *
      generalize (pAt l k).1 = x0 at *
      generalize (pAt l k).2 = x1 at *
      generalize (pAt m k).1 = y0 at *
      generalize (pAt m k).2 = y1 at *
      clear hc hc' e0 e1 e0' e1'
      cases rb
      · have HQ : Hid (eqP l m = false) := HNO.out rfl
        clear HNO HYE
        go_wp2
        go_quiet (fail)
        go_wp2
        go_ret
        exact ⟨ret_bool HQ.out.symm, below_drewN hB.out _⟩
      · have HQ : Hid (∀ j, j < k + 1 → prB (pAt l j) (pAt m j) = true) := HYE.out rfl
        clear HNO HYE
        go_wp2
        go_quiet (fail)
        go_wp2
        go_roundw
        case rel => exact ⟨k + 1, by omega, by go_num, below_drewN hB.out _, HQ⟩
        case measure => simp [intOf]; omega
    · have hkn : k = n := by omega
      subst hkn
      have HQ : Hid (eqP l m = true) := eqP_yes (by rw [← HN.out.1, ← HN.out.2]) (fun j hj => (prB_iff _ _).1 (HA.out j (by rw [HN.out.1]; exact hj)))
      clear hc hc'
      go_wp2
      go_ret
      exact ⟨ret_bool HQ.out.symm, hB.out⟩
set_option maxRecDepth 100000 in
set_option maxHeartbeats 1000000 in
theorem slEq_any (v u : Value) (l m : Prl) (w : World) (hv : Prs w v l) (hu : Prs w u m) (hx : l.length ≤ 1048576) (hy : m.length ≤ 1048576) :
    Calls Tryz.prog 158 #[v, u] w fun e w' => e = .returned (.bool (eqP l m)) ∧ Below w.heap.size w w' := by
  obtain ⟨a, c, rfl⟩ := hv.shape
  obtain ⟨a', c', rfl⟩ := hu.shape
  by_cases hlm : l.length = m.length
  · rw [← hlm] at hu ⊢
    by_cases h0 : 0 < l.length
    · obtain ⟨_, b, off, rfl, hb, hc⟩ := hv.at h0
      obtain ⟨_, b', off', rfl, hb', hc'⟩ := hu.at (by omega)
      exact slEq_core b off c b' off' c' l.length l m w ⟨rfl, hlm⟩ hx hb hb' hc (fun j hj => hc' j (by omega))
    · have e1 : l = [] := List.eq_nil_of_length_eq_zero (by omega)
      have e2 : m = [] := List.eq_nil_of_length_eq_zero (by omega)
      subst e1 e2
      have e3 : eqP [] [] = true := rfl
      rw [e3]
      simp only [List.length_nil] at *
      clear hv hu h0 hlm
      go_enter Tryz.func158, Tryz.ntmps158
      go_wp2
      refine wp_loop_rounds 1 ?_; rw [rounds_succ]
      go_wp2
      go_ret
      exact ⟨rfl, Below.refl _ _⟩
  · rw [eqP_len hlm]
    have hnb : (((l.length : Nat) : Int) != ((m.length : Nat) : Int)) = true := by simp; omega
    generalize l.length = n at *
    generalize m.length = k at *
    clear hv hu hlm
    go_enter Tryz.func158, Tryz.ntmps158
    go_wp2
    go_ret
    exact ⟨rfl, Below.refl _ _⟩
set_option maxRecDepth 100000 in
set_option maxHeartbeats 4000000 in
theorem l11SameSlots_core (b off c b' off' c' n : Nat) (l m : Prl) (w : World) (HN : Hid (n = l.length ∧ n = m.length)) (hx : n ≤ 1048576) (hb : b < w.heap.size) (hb' : b' < w.heap.size) (hc : PrC w b off n l) (hc' : PrC w b' off' n m) :
    Calls Tryz.prog 153 #[.slice (some ⟨b, off, none⟩) n c, .slice (some ⟨b', off', none⟩) n c'] w fun e w' => e = .returned (.bool (eqP l m)) ∧ Below w.heap.size w w' := by
  have hnn := hne_all
  go_enter Tryz.func153, Tryz.ntmps153
  go_wp2
  go_loopw [5] (fun i wr => ∃ k : Nat, k ≤ n ∧ i = .int .i64 k ∧ Hid (Below w.heap.size w wr) ∧ Hid (∀ j, j < k → prB (pAt l j) (pAt m j) = true)) (fun i _ => n - (intOf i).toNat)
  case atStart => exact ⟨0, Nat.zero_le _, rfl, Below.refl _ _, fun j hj => by omega⟩
  case round =>
    obtain ⟨k, hk, rfl, hB, HA⟩ := hrel
    by_cases hkn : k < n
    · have hki : (k : Int) < (n : Int) := by omega
      obtain ⟨e0, e1⟩ := hc k hkn
      obtain ⟨e0', e1'⟩ := hc' k hkn
      have d0 := (hB.out.cell (p := ⟨b, off + k * 2, none⟩) hb).trans e0
      have d1 := (hB.out.cell (p := ⟨b, off + k * 2 + 1, none⟩) hb).trans e1
      have d0' := (hB.out.cell (p := ⟨b', off' + k * 2, none⟩) hb').trans e0'
      have d1' := (hB.out.cell (p := ⟨b', off' + k * 2 + 1, none⟩) hb').trans e1'
      have hE := slot_neq_any (pAt l k) (pAt m k)
      have HNO : Hid (prB (pAt l k) (pAt m k) = false → eqP l m = false) := (fun h => eqP_no (k := k) (fun e => by rw [(prB_iff _ _).2 e] at h; cases h) : prB (pAt l k) (pAt m k) = false → eqP l m = false)
      have HYE : Hid (prB (pAt l k) (pAt m k) = true → ∀ j, j < k + 1 → prB (pAt l j) (pAt m j) = true) := (fun h j hj => by
        by_cases e : j = k
        · subst e; exact h
        · exact HA.out j (by omega) : prB (pAt l k) (pAt m k) = true → ∀ j, j < k + 1 → prB (pAt l j) (pAt m j) = true)
      generalize prB (pAt l k) (pAt m k) = rb at *
      generalize (pAt l k).1 = x0 at *
      generalize (pAt l k).2 = x1 at *
      generalize (pAt m k).1 = y0 at *
      generalize (pAt m k).2 = y1 at *
      clear hc hc' e0 e1 e0' e1'
      cases rb
      · have HQ : Hid (eqP l m = false) := HNO.out rfl
        clear HNO HYE
        go_wp2
        go_quiet (fail)
        go_wp2
        go_ret
        exact ⟨ret_bool HQ.out.symm, below_drewN hB.out _⟩
      · have HQ : Hid (∀ j, j < k + 1 → prB (pAt l j) (pAt m j) = true) := HYE.out rfl
        clear HNO HYE
        go_wp2
        go_quiet (fail)
        go_wp2
        go_roundw
        case rel => exact ⟨k + 1, by omega, by go_num, below_drewN hB.out _, HQ⟩
        case measure => simp [intOf]; omega
    · have hkn : k = n := by omega
      subst hkn
      have HQ : Hid (eqP l m = true) := eqP_yes (by rw [← HN.out.1, ← HN.out.2]) (fun j hj => (prB_iff _ _).1 (HA.out j (by rw [HN.out.1]; exact hj)))
      clear hc hc'
      go_wp2
      go_ret
      exact ⟨ret_bool HQ.out.symm, hB.out⟩
set_option maxRecDepth 100000 in
set_option maxHeartbeats 1000000 in
theorem l11SameSlots_any (v u : Value) (l m : Prl) (w : World) (hv : Prs w v l) (hu : Prs w u m) (hx : l.length ≤ 1048576) (hy : m.length ≤ 1048576) :
    Calls Tryz.prog 153 #[v, u] w fun e w' => e = .returned (.bool (eqP l m)) ∧ Below w.heap.size w w' := by
  obtain ⟨a, c, rfl⟩ := hv.shape
  obtain ⟨a', c', rfl⟩ := hu.shape
  by_cases hlm : l.length = m.length
  · rw [← hlm] at hu ⊢
    by_cases h0 : 0 < l.length
    · obtain ⟨_, b, off, rfl, hb, hc⟩ := hv.at h0
      obtain ⟨_, b', off', rfl, hb', hc'⟩ := hu.at (by omega)
      exact l11SameSlots_core b off c b' off' c' l.length l m w ⟨rfl, hlm⟩ hx hb hb' hc (fun j hj => hc' j (by omega))
    · have e1 : l = [] := List.eq_nil_of_length_eq_zero (by omega)
      have e2 : m = [] := List.eq_nil_of_length_eq_zero (by omega)
      subst e1 e2
      have e3 : eqP [] [] = true := rfl
      rw [e3]
      simp only [List.length_nil] at *
      clear hv hu h0 hlm
      go_enter Tryz.func153, Tryz.ntmps153
      go_wp2
      refine wp_loop_rounds 1 ?_; rw [rounds_succ]
      go_wp2
      go_ret
      exact ⟨rfl, Below.refl _ _⟩
  · rw [eqP_len hlm]
    have hnb : (((l.length : Nat) : Int) != ((m.length : Nat) : Int)) = true := by simp; omega
    generalize l.length = n at *
    generalize m.length = k at *
    clear hv hu hlm
    go_enter Tryz.func153, Tryz.ntmps153
    go_wp2
    go_ret
    exact ⟨rfl, Below.refl _ _⟩
end U
end Go.Proofs.YtihhigmceeabmaaGreat

/- Bits set and bits kept, as sums and rests. No program is named. -/
namespace Go.Proofs.YtihhigmceeabmaaGreat
namespace U
theorem i64_or_nat (a b : Nat) (ha : a < 2147483648) (hb : b < 2147483648) : bits .or .i64 (a : Int) (b : Int) = ((a ||| b : Nat) : Int) := by
  have hx : a ||| b < 2 ^ 31 := Nat.or_lt_two_pow (by omega) (by omega)
  show IntKind.i64.wrap ((BitVec.ofInt 64 (a : Int) ||| BitVec.ofInt 64 (b : Int)).toNat : Int) = _
  rw [BitVec.toNat_or, ofInt_u64 a (by omega), ofInt_u64 b (by omega), IntKind.wrap_i64]
  omega
theorem i64_and_nat (a b : Nat) (ha : a < 2147483648) (hb : b < 2147483648) : bits .and .i64 (a : Int) (b : Int) = ((a &&& b : Nat) : Int) := by
  have hx : a &&& b < 2 ^ 31 := Nat.and_lt_two_pow _ (by omega)
  show IntKind.i64.wrap ((BitVec.ofInt 64 (a : Int) &&& BitVec.ofInt 64 (b : Int)).toNat : Int) = _
  rw [BitVec.toNat_and, ofInt_u64 a (by omega), ofInt_u64 b (by omega), IntKind.wrap_i64]
  omega
theorem i64_and63 (x : Int) (h0 : 0 ≤ x) (h1 : x < 2147483648) : bits .and .i64 x 63 = x % 64 := by
  obtain ⟨A, rfl⟩ := Int.eq_ofNat_of_zero_le h0
  have h := i64_and_nat A 63 (by omega) (by omega)
  rw [nat_mask6] at h
  exact h
theorem i64_join (k n : Nat) (x : Int) (h0 : 0 ≤ x) (h1 : x < ((2 ^ n : Nat) : Int)) (hk : 2 ^ n * k < 256) (hn : 2 ^ n < 256) : bits .or .i64 ((2 ^ n * k : Nat) : Int) x = ((2 ^ n * k : Nat) : Int) + x := by
  obtain ⟨A, rfl⟩ := Int.eq_ofNat_of_zero_le h0
  have h := i64_or_nat (2 ^ n * k) A (by omega) (by omega)
  have e : (2 ^ n * k) ||| A = 2 ^ n * k + A := (Nat.two_pow_add_eq_or_of_lt (by omega) k).symm
  rw [e] at h
  exact h
theorem or0 (x : Int) (h0 : 0 ≤ x) (h1 : x < 128) : bits .or .i64 0 x = x := by
  have := i64_join 0 7 x h0 (by simpa using h1) (by decide) (by decide)
  simpa using this
theorem or128 (x : Int) (h0 : 0 ≤ x) (h1 : x < 128) : bits .or .i64 128 x = 128 + x := by
  have := i64_join 1 7 x h0 (by simpa using h1) (by decide) (by decide)
  simpa using this
theorem or192 (x : Int) (h0 : 0 ≤ x) (h1 : x < 64) : bits .or .i64 192 x = 192 + x := by
  have := i64_join 3 6 x h0 (by simpa using h1) (by decide) (by decide)
  simpa using this
theorem or224 (x : Int) (h0 : 0 ≤ x) (h1 : x < 32) : bits .or .i64 224 x = 224 + x := by
  have := i64_join 7 5 x h0 (by simpa using h1) (by decide) (by decide)
  simpa using this
theorem or240 (x : Int) (h0 : 0 ≤ x) (h1 : x < 16) : bits .or .i64 240 x = 240 + x := by
  have := i64_join 15 4 x h0 (by simpa using h1) (by decide) (by decide)
  simpa using this
/-- A byte that goes on: the six bits at a place. -/
theorem byteOn (x : Int) (h0 : 0 ≤ x) (h1 : x < 2147483648) : bits .or .i64 128 (bits .and .i64 x 63) = 128 + x % 64 := by
  rw [i64_and63 x h0 h1, or128 _ (by omega) (by omega)]
end U
end Go.Proofs.YtihhigmceeabmaaGreat

/- A record out of bytes: two bytes as a number; what is read. -/
namespace Go.Proofs.YtihhigmceeabmaaGreat
open Go.RowKit
namespace U
theorem or256 (x y : Int) (hx : 0 ≤ x ∧ x ≤ 255) (hy : 0 ≤ y ∧ y ≤ 255) : bits .or .i64 (256 * x) y = 256 * x + y := by
  obtain ⟨X, rfl⟩ := Int.eq_ofNat_of_zero_le hx.1
  obtain ⟨Y, rfl⟩ := Int.eq_ofNat_of_zero_le hy.1
  have h := i64_or_nat (2 ^ 8 * X) Y (by omega) (by omega)
  have e : (2 ^ 8 * X) ||| Y = 2 ^ 8 * X + Y := (Nat.two_pow_add_eq_or_of_lt (by omega) X).symm
  rw [e] at h
  simpa using h
end U
end Go.Proofs.YtihhigmceeabmaaGreat

/- A head out of bytes: as both models tell it. -/
namespace Go.Proofs.YtihhigmceeabmaaGreat
open Go.RowKit
namespace U
/-- Two bytes as a number. -/
def rdE (ys : List Int) (k : Nat) : Int := 256 * ys.getD k 0 + ys.getD (k + 1) 0
def rdH (ys : List Int) : Int := hdC (rdE ys 1) (rdE ys 3) (rdE ys 5) (rdE ys 7) (rdE ys 9)
def rdOk (ys : List Int) : Prop := ys.length = 11 ∧ ys.getD 0 0 = 7 ∧ rdH ys = 0
def rdV (ys : List Int) : Value := if ys.length = 11 then (if ys.getD 0 0 = 7 then (if rdH ys = 0 then hrV 0 (rdE ys 1) (rdE ys 3) (rdE ys 5) (rdE ys 7) (rdE ys 9) else hrV 5 0 0 0 0 0) else hrV 5 0 0 0 0 0) else hrV 5 0 0 0 0 0
theorem rdV_ok {ys : List Int} (h : rdOk ys) : rdV ys = hrV 0 (rdE ys 1) (rdE ys 3) (rdE ys 5) (rdE ys 7) (rdE ys 9) := by unfold rdV; rw [if_pos h.1, if_pos h.2.1, if_pos h.2.2]
theorem rdV_no {ys : List Int} (h : ¬ rdOk ys) : rdV ys = hrV 5 0 0 0 0 0 := by
  unfold rdV
  by_cases h1 : ys.length = 11
  · rw [if_pos h1]
    by_cases h2 : ys.getD 0 0 = 7
    · rw [if_pos h2, if_neg (fun h3 => h ⟨h1, h2, h3⟩)]
    · rw [if_neg h2]
  · rw [if_neg h1]
theorem list11 {ys : List Int} (h : ys.length = 11) : ∃ a b c d e f g i j k l, ys = [a, b, c, d, e, f, g, i, j, k, l] := by
  match ys, h with
  | [a, b, c, d, e, f, g, i, j, k, l], _ => exact ⟨a, b, c, d, e, f, g, i, j, k, l, rfl⟩
theorem two_byte {x y : Int} (hy : 0 ≤ y ∧ y ≤ 255) : (256 * x + y) / 256 = x ∧ (256 * x + y) % 256 = y := by omega
/-- What is read is packed to the same bytes, where the tag is that of a head. -/
theorem rd_back {ys : List Int} (hl : ys.length = 11) (hb : Bts ys) : hdB (rdE ys 1) (rdE ys 3) (rdE ys 5) (rdE ys 7) (rdE ys 9) = ys ↔ ys.getD 0 0 = 7 := by
  obtain ⟨a, b, c, d, e, f, g, i, j, k, l, rfl⟩ := list11 hl
  have q := fun m (hm : m < 11) => hb.at (k := m) hm
  have q2 := q 2 (by omega)
  have q4 := q 4 (by omega)
  have q6 := q 6 (by omega)
  have q8 := q 8 (by omega)
  have q10 := q 10 (by omega)
  simp at q2 q4 q6 q8 q10
  have e1 := two_byte (x := b) q2
  have e2 := two_byte (x := d) q4
  have e3 := two_byte (x := f) q6
  have e4 := two_byte (x := i) q8
  have e5 := two_byte (x := k) q10
  simp only [hdB, tagL, numB, rdE, List.flatMap_cons, List.flatMap_nil]
  simp [e1, e2, e3, e4, e5]
  exact eq_comm
theorem rd_same {ys : List Int} (hl : ys.length = 11) (hb : Bts ys) : hdL (rdE ys 1) (rdE ys 3) (rdE ys 5) (rdE ys 7) (rdE ys 9) = ys ↔ rdOk ys := by
  unfold rdOk rdH
  by_cases h : hdC (rdE ys 1) (rdE ys 3) (rdE ys 5) (rdE ys 7) (rdE ys 9) = 0
  · rw [hdL_ok h, rd_back hl hb]
    exact ⟨fun q => ⟨hl, q, h⟩, fun q => q.2.1⟩
  · rw [hdL_no h]
    refine ⟨fun q => ?_, fun q => absurd q.2.2 h⟩
    rw [← q] at hl; simp at hl
theorem six_cellsH {w : World} {b : Nat} {x0 x1 x2 x3 x4 x5 : Value} {t : TypeId} (h : w.heap[b]? = some (.cells #[x0, x1, x2, x3, x4, x5] t (0, 0))) : (w.cell? ⟨b, 0, none⟩ = some x0 ∧ w.cell? ⟨b, 1, none⟩ = some x1 ∧ w.cell? ⟨b, 2, none⟩ = some x2 ∧ w.cell? ⟨b, 3, none⟩ = some x3 ∧ w.cell? ⟨b, 4, none⟩ = some x4 ∧ w.cell? ⟨b, 5, none⟩ = some x5) ∧
    (w.frozen? ⟨b, 0, none⟩ = false ∧ w.frozen? ⟨b, 1, none⟩ = false ∧ w.frozen? ⟨b, 2, none⟩ = false ∧ w.frozen? ⟨b, 3, none⟩ = false ∧ w.frozen? ⟨b, 4, none⟩ = false ∧ w.frozen? ⟨b, 5, none⟩ = false) := by
  simp [World.cell?, World.frozen?, h]
/-- Both ways to read two bytes, from a world on. -/
structure TwoAt (f : Nat) (W : World) (u : Value) (k : Nat) (x : Int) : Prop where
  c : ∀ w', Below W.heap.size W w' → Calls Tryz.prog f #[u, .int .i64 k] w' fun e w'' => e = .returned (.int .i64 x) ∧ Below w'.heap.size w' w''
theorem below_drewN' (w : World) (n : Nat) : Below w.heap.size w (w.drewN n) := below_drewN (Below.refl _ _) n
def headZ : Obj := .cells #[.int .i64 0, .int .i64 0, .int .i64 0, .int .i64 0, .int .i64 0, .int .i64 0] 286
theorem set6 {w w' : World} (h : Below w.heap.size w w') (x0 x1 x2 x3 x4 x5 : Value) : Below w.heap.size w ((((((w'.setCell ⟨w.heap.size, 0, none⟩ x0).setCell ⟨w.heap.size, 1, none⟩ x1).setCell ⟨w.heap.size, 2, none⟩ x2).setCell ⟨w.heap.size, 3, none⟩ x3).setCell ⟨w.heap.size, 4, none⟩ x4).setCell ⟨w.heap.size, 5, none⟩ x5) :=
  (((((h.setCell (Nat.le_refl _) _).setCell (Nat.le_refl _) _).setCell (Nat.le_refl _) _).setCell (Nat.le_refl _) _).setCell (Nat.le_refl _) _).setCell (Nat.le_refl _) _
theorem fieldB1 (c : Int) (v : Value) (w : World) (h : ∃ a n k, v = .slice a n k) : (Instr.field 222 (.agg #[.int .i64 c, v]) 1).run Tryz.prog w = .ok v w := by
  obtain ⟨a, n, k, rfl⟩ := h
  kernel_rfl
end U
end Go.Proofs.YtihhigmceeabmaaGreat

/- The first of some numbers that is not 0, as the library tells it. -/
namespace Go.Proofs.YtihhigmceeabmaaGreat
open Go.RowKit
namespace U
theorem ints2_at {v : Value} {a b : Int} {w : World} (hv : Ints .i64 w v [a, b]) : ∃ g off c, v = .slice (some ⟨g, off, none⟩) 2 c ∧ w.cell? ⟨g, off, none⟩ = some (.int .i64 a) ∧ w.cell? ⟨g, off + 1, none⟩ = some (.int .i64 b) := by
  rcases hv with ⟨h, -⟩ | ⟨g, off, c, rfl, -, h⟩
  · cases h
  · exact ⟨g, off, c, rfl, h 0 (by simp), h 1 (by simp)⟩
theorem ints3_at {v : Value} {a b d : Int} {w : World} (hv : Ints .i64 w v [a, b, d]) : ∃ g off c, v = .slice (some ⟨g, off, none⟩) 3 c ∧ w.cell? ⟨g, off, none⟩ = some (.int .i64 a) ∧ w.cell? ⟨g, off + 1, none⟩ = some (.int .i64 b) ∧ w.cell? ⟨g, off + 2, none⟩ = some (.int .i64 d) := by
  rcases hv with ⟨h, -⟩ | ⟨g, off, c, rfl, -, h⟩
  · cases h
  · exact ⟨g, off, c, rfl, h 0 (by simp), h 1 (by simp), h 2 (by simp)⟩
set_option maxRecDepth 100000 in
set_option maxHeartbeats 1000000 in
theorem cmpOr2 (a b : Int) (v : Value) (w : World) (hv : Ints .i64 w v [a, b]) :
    Calls Tryz.prog 47 #[v] w fun e w' => e = .returned (.int .i64 (if a = 0 then b else a)) ∧ w' = w := by
  obtain ⟨g, off, c, rfl, c0, c1⟩ := ints2_at hv
  clear hv
  by_cases h : a = 0
  · subst h
    rw [if_pos rfl]
    by_cases hb : b = 0
    · subst hb
      go_enter Tryz.func47, Tryz.ntmps47
      go_wp2
      refine wp_loop_rounds 4 ?_
      rw [rounds_succ]
      go_wp2
      rw [rounds_succ]
      go_wp2
      rw [rounds_succ]
      go_wp2
      go_ret
      exact ⟨rfl, rfl⟩
    · have hbn : (b != 0) = true := by simpa using hb
      go_enter Tryz.func47, Tryz.ntmps47
      go_wp2
      refine wp_loop_rounds 4 ?_
      rw [rounds_succ]
      go_wp2
      rw [rounds_succ]
      go_wp2
      go_ret
      exact ⟨rfl, rfl⟩
  · have hbn : (a != 0) = true := by simpa using h
    rw [if_neg h]
    go_enter Tryz.func47, Tryz.ntmps47
    go_wp2
    refine wp_loop_rounds 4 ?_
    rw [rounds_succ]
    go_wp2
    go_ret
    exact ⟨rfl, rfl⟩
set_option maxRecDepth 100000 in
set_option maxHeartbeats 1000000 in
theorem cmpOr3 (a b d : Int) (v : Value) (w : World) (hv : Ints .i64 w v [a, b, d]) :
    Calls Tryz.prog 47 #[v] w fun e w' => e = .returned (.int .i64 (if a = 0 then (if b = 0 then d else b) else a)) ∧ w' = w := by
  obtain ⟨g, off, c, rfl, c0, c1, c2⟩ := ints3_at hv
  clear hv
  by_cases h : a = 0
  · subst h
    rw [if_pos rfl]
    by_cases hb : b = 0
    · subst hb
      rw [if_pos rfl]
      by_cases hd : d = 0
      · subst hd
        go_enter Tryz.func47, Tryz.ntmps47
        go_wp2
        refine wp_loop_rounds 5 ?_
        rw [rounds_succ]
        go_wp2
        rw [rounds_succ]
        go_wp2
        rw [rounds_succ]
        go_wp2
        rw [rounds_succ]
        go_wp2
        go_ret
        exact ⟨rfl, rfl⟩
      · have hbn : (d != 0) = true := by simpa using hd
        go_enter Tryz.func47, Tryz.ntmps47
        go_wp2
        refine wp_loop_rounds 5 ?_
        rw [rounds_succ]
        go_wp2
        rw [rounds_succ]
        go_wp2
        rw [rounds_succ]
        go_wp2
        go_ret
        exact ⟨rfl, rfl⟩
    · have hbn : (b != 0) = true := by simpa using hb
      rw [if_neg hb]
      go_enter Tryz.func47, Tryz.ntmps47
      go_wp2
      refine wp_loop_rounds 5 ?_
      rw [rounds_succ]
      go_wp2
      rw [rounds_succ]
      go_wp2
      go_ret
      exact ⟨rfl, rfl⟩
  · have hbn : (a != 0) = true := by simpa using h
    rw [if_neg h]
    go_enter Tryz.func47, Tryz.ntmps47
    go_wp2
    refine wp_loop_rounds 5 ?_
    rw [rounds_succ]
    go_wp2
    go_ret
    exact ⟨rfl, rfl⟩
end U
end Go.Proofs.YtihhigmceeabmaaGreat

/- The fault of a chain of heads, as both models tell it. -/
namespace Go.Proofs.YtihhigmceeabmaaGreat
open Go.RowKit
namespace U
def lnkI (h : Hd) (e ph s : Int) : Int := if h.e = e then (if h.v = s then (if mfB ph h.p = true then 0 else 10) else 9) else 1
theorem lnkI_eq {h : Hd} {e ph s : Int} (hc : h.c = 0) (hp : inB ph 1 5 = true) : lnkI h e ph s = lnk h e ph s := by
  have hok := hdOk hc
  have : mfB ph h.p = folB ph h.p := by unfold mfB; rw [hp, inB_t hok.p0 hok.p1]; simp
  unfold lnkI lnk
  rw [this]
set_option maxRecDepth 100000 in
set_option maxHeartbeats 1000000 in
theorem linkFault_any (e p o n v ep ph s : Int) (w : World) :
    Calls Tryz.prog 116 #[hdV e p o n v, .int .i64 ep, .int .i64 ph, .int .i64 s] w fun x w' => x = .returned (.int .i64 (lnkI ⟨e, p, o, n, v⟩ ep ph s)) ∧ Below w.heap.size w w' := by
  have hM := fun w => implMayFollow_any ph p w
  unfold lnkI hdV
  dsimp only
  by_cases h1 : e = ep
  · rw [if_pos h1]
    have g1 : (e != ep) = false := by simpa using h1
    by_cases h2 : v = s
    · rw [if_pos h2]
      have g2 : (v != s) = false := by simpa using h2
      clear h1 h2
      rcases Bool.eq_false_or_eq_true (mfB ph p) with h3 | h3
      · rw [h3] at hM ⊢
        go_enter Tryz.func116, Tryz.ntmps116
        go_wp2_with fail
        refine (hM _).mono ?_
        rintro x wq ⟨rfl, rfl⟩
        go_wp2
        go_ret
        exact ⟨rfl, one_new _⟩
      · rw [h3] at hM ⊢
        go_enter Tryz.func116, Tryz.ntmps116
        go_wp2_with fail
        refine (hM _).mono ?_
        rintro x wq ⟨rfl, rfl⟩
        go_wp2
        go_ret
        exact ⟨rfl, one_new _⟩
    · rw [if_neg h2]
      have g2 : (v != s) = true := by simpa using h2
      clear h1 h2
      go_enter Tryz.func116, Tryz.ntmps116
      go_wp2
      go_ret
      exact ⟨rfl, one_new _⟩
  · rw [if_neg h1]
    have g1 : (e != ep) = true := by simpa using h1
    clear h1
    go_enter Tryz.func116, Tryz.ntmps116
    go_wp2
    go_ret
    exact ⟨rfl, one_new _⟩
theorem two_intsH {w : World} {g : Nat} {a b : Int} {t : TypeId} (hg : g = w.heap.size) : Ints .i64 (w.alloc (.cells #[.int .i64 a, .int .i64 b] t)) (.slice (some ⟨g, 0, none⟩) 2 2) [a, b] := by
  subst hg
  have hh := heap_alloc_new w (.cells #[.int .i64 a, .int .i64 b] t)
  refine Or.inr ⟨w.heap.size, 0, 2, rfl, by simp, fun j hj => ?_⟩
  have hj2 : j < 2 := hj
  rcases (show j = 0 ∨ j = 1 by omega) with rfl | rfl <;> (unfold World.cell?; rw [hh]; rfl)
theorem fieldI1 (x y : Int) (w : World) : (Instr.field 58 (.agg #[.int .i64 x, .int .i64 y]) 1).run Tryz.prog w = .ok (.int .i64 y) w := by kernel_rfl
set_option maxRecDepth 100000 in
set_option maxHeartbeats 4000000 in
theorem implChain_core (b off c n : Nat) (l : Hdl) (w : World) (hn : n ≤ 10) (hb : b < w.heap.size) (hc : ∀ j, j < n → HdS w b (off + j * 5) (hAt l j)) :
    Calls Tryz.prog 62 #[.slice (some ⟨b, off, none⟩) n c] w fun x w' => x = .returned (.int .i64 (scanH l n 0)) ∧ Below w.heap.size w w' := by
  obtain ⟨q, hq⟩ : ∃ q, q = scanH l n 0 := ⟨_, rfl⟩
  have HQ : Hid (scanH l n 0 = q) := hq.symm
  rw [← hq]
  clear hq
  go_enter Tryz.func62, Tryz.ntmps62
  go_wp2
  go_loopw [3, 4, 13] (fun ph sm i wr => ∃ k : Nat, k ≤ n ∧ i = .int .i64 k ∧ ph = .int .i64 (phA l k) ∧ sm = .int .i64 (smA l k) ∧ Hid (Below w.heap.size w wr) ∧ Hid (scanH l (n - k) k = q) ∧ Hid (inB (phA l k) 1 5 = true)) (fun _ _ i _ => n - (intOf i).toNat)
  case atStart => exact ⟨0, Nat.zero_le _, rfl, rfl, rfl, Below.refl _ _, HQ, (show inB 1 1 5 = true by decide)⟩
  case round =>
    obtain ⟨k, hk, rfl, rfl, rfl, hB, HS, HP⟩ := hrel
    by_cases hkn : k < n
    · have hki : (k : Int) < (n : Int) := by omega
      obtain ⟨d0, d1, d2, d3, d4⟩ := (hc k hkn).below hB.out hb
      have HSN : Hid (n - k = (n - k - 1) + 1) := (by omega : n - k = (n - k - 1) + 1)
      have hw1 : IntKind.i64.wrap ((k : Int) + 1) = (k : Int) + 1 := by rw [IntKind.wrap_i64]; omega
      have hF := fun w => implHeadFault_any (hAt l k).e (hAt l k).p (hAt l k).o (hAt l k).n (hAt l k).v w
      have hL := fun w => linkFault_any (hAt l k).e (hAt l k).p (hAt l k).o (hAt l k).n (hAt l k).v ((k : Int) + 1) (phA l k) (smA l k) w
      have hSm := fun w => implHeadSum_any (hAt l k).e (hAt l k).p (hAt l k).o (hAt l k).n (hAt l k).v w
      have e1 : hdC (hAt l k).e (hAt l k).p (hAt l k).o (hAt l k).n (hAt l k).v = (hAt l k).c := rfl
      have e2 : lnkI ⟨(hAt l k).e, (hAt l k).p, (hAt l k).o, (hAt l k).n, (hAt l k).v⟩ ((k : Int) + 1) (phA l k) (smA l k) = lnkI (hAt l k) ((k : Int) + 1) (phA l k) (smA l k) := rfl
      rw [e1] at hF hSm
      rw [e2] at hL
      have hOr := fun v w hv => cmpOr2 (hAt l k).c (lnkI (hAt l k) ((k : Int) + 1) (phA l k) (smA l k)) v w hv
      obtain ⟨r, hr⟩ : ∃ r, r = (if (hAt l k).c = 0 then lnkI (hAt l k) ((k : Int) + 1) (phA l k) (smA l k) else (hAt l k).c) := ⟨_, rfl⟩
      rw [← hr] at hOr
      have HZ : Hid (r = 0 → (hAt l k).c = 0 ∧ scanH l (n - k - 1) (k + 1) = q ∧ hdSv (hAt l k).e (hAt l k).p (hAt l k).o (hAt l k).n (hAt l k).v = smA l (k + 1) ∧ inB (phA l (k + 1)) 1 5 = true) := by
        intro h0
        by_cases hc0 : (hAt l k).c = 0
        · rw [if_pos hc0] at hr
          have hl0 : lnkA l k = 0 := by unfold lnkA; rw [← lnkI_eq hc0 HP.out, ← hr, h0]
          refine ⟨hc0, by rw [← HS.out, HSN.out]; exact (scanH_step hc0 hl0).symm, ?_, ?_⟩
          · rw [hdSv_ok hc0]; rfl
          · have := hdOk hc0; exact inB_t this.p0 this.p1
        · rw [if_neg hc0] at hr
          exact absurd (hr.symm.trans h0) hc0
      have HNZ : Hid (¬ r = 0 → q = r) := by
        intro h0
        rw [← HS.out, HSN.out]
        by_cases hc0 : (hAt l k).c = 0
        · rw [if_pos hc0] at hr
          have hl1 : lnkA l k = r := by unfold lnkA; rw [← lnkI_eq hc0 HP.out, hr]
          rw [scanH_link hc0 (by rw [hl1]; exact h0), hl1]
        · rw [if_neg hc0] at hr
          rw [scanH_fault hc0, hr]
      have HA : Hid (phA l (k + 1) = (hAt l k).p) := rfl
      generalize lnkI (hAt l k) ((k : Int) + 1) (phA l k) (smA l k) = lk at *
      generalize hdSv (hAt l k).e (hAt l k).p (hAt l k).o (hAt l k).n (hAt l k).v = sv at *
      generalize (hAt l k).c = cz at *
      generalize (hAt l k).e = x0 at *
      generalize (hAt l k).p = x1 at *
      generalize (hAt l k).o = x2 at *
      generalize (hAt l k).n = x3 at *
      generalize (hAt l k).v = x4 at *
      generalize phA l k = ph at *
      generalize smA l k = sm at *
      obtain ⟨W, hW⟩ : ∃ W, W = wr.alloc (.cells #[.int .i64 x0, .int .i64 x1, .int .i64 x2, .int .i64 x3, .int .i64 x4] 43) := ⟨_, rfl⟩
      have HW : Hid (wr.alloc (.cells #[.int .i64 x0, .int .i64 x1, .int .i64 x2, .int .i64 x3, .int .i64 x4] 43) = W) := hW.symm
      have HWB : Hid (Below w.heap.size w W) := (by rw [hW]; exact hB.out.alloc hB.out.size _ : Below w.heap.size w W)
      have hWH : W.heap[wr.heap.size]? = some (.cells #[.int .i64 x0, .int .i64 x1, .int .i64 x2, .int .i64 x3, .int .i64 x4] 43) := by rw [hW]; exact heap_alloc_new wr _
      have hbr : b < wr.heap.size := Nat.lt_of_lt_of_le hb hB.out.size
      have HCC : Hid (∀ w', Below W.heap.size W w' → w'.cell? ⟨wr.heap.size, 0, none⟩ = some (.int .i64 x0) ∧ w'.cell? ⟨wr.heap.size, 1, none⟩ = some (.int .i64 x1) ∧ w'.cell? ⟨wr.heap.size, 2, none⟩ = some (.int .i64 x2) ∧ w'.cell? ⟨wr.heap.size, 3, none⟩ = some (.int .i64 x3) ∧ w'.cell? ⟨wr.heap.size, 4, none⟩ = some (.int .i64 x4)) :=
        fun w' h => five_cells ((h.block _ (Array.getElem?_eq_some_iff.1 hWH).1).trans hWH)
      have hcur := Below.refl W.heap.size W
      obtain ⟨g0, g1, g2, g3, g4⟩ := HCC.out _ hcur
      unfold hdV at *
      clear hc hr e1 e2 hW hWH HS HSN HP
      go_wp2_with fail
      rw [HW.out]
      go_region_held3 (fun w' => w'.cell? ⟨wr.heap.size, 0, none⟩ = some (.int .i64 x0) ∧ w'.cell? ⟨wr.heap.size, 1, none⟩ = some (.int .i64 x1) ∧ w'.cell? ⟨wr.heap.size, 2, none⟩ = some (.int .i64 x2) ∧ w'.cell? ⟨wr.heap.size, 3, none⟩ = some (.int .i64 x3) ∧ w'.cell? ⟨wr.heap.size, 4, none⟩ = some (.int .i64 x4))
        (first | with_reducible exact ⟨g0, g1, g2, g3, g4⟩ | with_reducible exact HCC.out _ hcur | with_reducible exact HCC.out _ hcur.drew | with_reducible exact HCC.out _ (hcur.alloc hcur.size _))
        (first
          | (go_at_call 48; refine (hF _).mono ?_; rintro e w2 ⟨rfl, hb2⟩; have hcur : Below W.heap.size W w2 := (by first | exact below_after_of hcur hb2 | exact below_after_of hcur.drew hb2))
          | (go_at_call 116; refine (hL _).mono ?_; rintro e w3 ⟨rfl, hb3⟩; have hcur : Below W.heap.size W w3 := (by first | exact below_after_of hcur hb3 | exact below_after_of hcur.drew hb3))
          | (go_at_call 47; refine (hOr _ _ (two_intsH rfl)).mono ?_; rintro e w4 ⟨rfl, hw4⟩; have hcur : Below W.heap.size W w4 := (by rw [hw4]; exact hcur.alloc hcur.size _); clear hw4))
      clear g0 g1 g2 g3 g4 hF hL hOr
      obtain ⟨g0, g1, g2, g3, g4⟩ := HCC.out _ hcur
      have HB4 : Hid (Below w.heap.size w w4) := below_after_of HWB.out hcur
      clear HCC hcur HW HWB
      by_cases hr0 : r = 0
      · subst hr0
        obtain ⟨hz1, hz2, hz3, hz4⟩ := HZ.out rfl
        have HZ2 : Hid (scanH l (n - k - 1) (k + 1) = q) := hz2
        have HZ3 : Hid (sv = smA l (k + 1)) := hz3
        have HZ4 : Hid (inB (phA l (k + 1)) 1 5 = true) := hz4
        have q0 := After.cell g0
        have q1 := After.cell g1
        have q2 := After.cell g2
        have q3 := After.cell g3
        have q4 := After.cell g4
        have hne := After.ne w4
        have kf := fun w => fieldI1 cz sv w
        clear HZ HNZ hz1 hz2 hz3 hz4 g0 g1 g2 g3 g4
        go_wp2_with fail
        refine wp_region_after (by kernel_rfl) (by kernel_rfl) ?_
        repeat (first | go_big_quiet_skip | (go_big_quiet_want; go_big_quiet_op; first | go_big_quiet_on | go_big_quiet_call (first | (go_at_call 117; refine (hSm _).mono ?_; rintro e wq ⟨rfl, hbq⟩; exact ⟨rfl, after_mk (below_after_of (After.b _) hbq)⟩))))
        refine wpQuiet_nil ?_
        rintro _ ⟨n6, rfl⟩
        have HB6 : Hid (Below w.heap.size w n6.w) := below_after_of HB4.out n6.b
        generalize n6.w = w6 at *
        clear hne q0 q1 q2 q3 q4 kf hSm
        go_wp2
        go_roundw
        case rel => exact ⟨k + 1, by omega, by go_num, by rw [HA.out], by rw [HZ3.out], HB6, by rw [show n - (k + 1) = n - k - 1 by omega]; exact HZ2, HZ4⟩
        case measure => simp [intOf]; omega
      · have hr1 : (r != 0) = true := by simpa using hr0
        have HX : Hid (q = r) := HNZ.out hr0
        clear HZ HNZ hr0 hSm
        go_wp2
        go_ret
        exact ⟨ret_int HX.out.symm, HB4.out⟩
    · have hkn : k = n := by omega
      subst hkn
      have e0 : Hid (q = 0) := (by rw [← HS.out, Nat.sub_self]; rfl : q = 0)
      clear hc
      go_wp2
      go_ret
      exact ⟨ret_int e0.out.symm, hB.out⟩
set_option maxRecDepth 100000 in
set_option maxHeartbeats 1000000 in
theorem implChainFault_any (v : Value) (l : Hdl) (w : World) (hv : Hds w v l) (hx : l.length ≤ 1099511627776) :
    Calls Tryz.prog 62 #[v] w fun e w' => e = .returned (.int .i64 (chF l)) ∧ Below w.heap.size w w' := by
  obtain ⟨a, c, rfl⟩ := hv.shape
  by_cases h : 10 < l.length
  · rw [chF_many h]
    generalize l.length = n at *
    clear hv
    go_enter Tryz.func62, Tryz.ntmps62
    go_wp2
    go_ret
    exact ⟨rfl, Below.refl _ _⟩
  · rw [chF_scan h]
    by_cases h0 : 0 < l.length
    · obtain ⟨_, b, off, rfl, hb, hc⟩ := hv.at h0
      exact implChain_core b off c l.length l w (by omega) hb hc
    · have e1 : l = [] := List.eq_nil_of_length_eq_zero (by omega)
      subst e1
      simp only [List.length_nil]
      have e2 : scanH [] 0 0 = 0 := rfl
      rw [e2]
      clear hv h0 hx h e2
      go_enter Tryz.func62, Tryz.ntmps62
      go_wp2
      refine wp_loop_rounds 1 ?_; rw [rounds_succ]
      go_wp2
      go_ret
      exact ⟨rfl, Below.refl _ _⟩
/-- What a head's place tells of it. -/
def lkS (l : Hdl) (i : Nat) : Int := if (hAt l i).c = 0 then lnkA l i else (hAt l i).c
theorem lkS_c {l : Hdl} {i : Nat} (h : ¬ (hAt l i).c = 0) : lkS l i = (hAt l i).c := if_neg h
theorem lkS_k {l : Hdl} {i : Nat} (h : (hAt l i).c = 0) : lkS l i = lnkA l i := if_pos h
theorem scanH_lk {l : Hdl} {f i : Nat} : scanH l (f + 1) i = if lkS l i = 0 then scanH l f (i + 1) else lkS l i := by
  by_cases h : (hAt l i).c = 0
  · rw [lkS_k h]
    by_cases h1 : lnkA l i = 0
    · rw [if_pos h1, scanH_step h h1]
    · rw [if_neg h1, scanH_link h h1]
  · rw [lkS_c h, if_neg h, scanH_fault h]
set_option maxRecDepth 100000 in
set_option maxHeartbeats 4000000 in
theorem l10Link_any (b off c n k : Nat) (l : Hdl) (w : World) (hn : n ≤ 10) (hb : b < w.heap.size) (hk : k < n) (hc : ∀ j, j < n → HdS w b (off + j * 5) (hAt l j)) (hp : 0 < k → (hAt l (k - 1)).c = 0) :
    Calls Tryz.prog 115 #[.slice (some ⟨b, off, none⟩) n c, .int .i64 k] w fun x w' => x = .returned (.int .i64 (lkS l k)) ∧ Below w.heap.size w w' := by
  have hki : (k : Int) < (n : Int) := by omega
  have hF := l10Fault_any b (off + k * 5) (hAt l k).e (hAt l k).p (hAt l k).o (hAt l k).n (hAt l k).v w (hc k hk)
  have e1 : hdC (hAt l k).e (hAt l k).p (hAt l k).o (hAt l k).n (hAt l k).v = (hAt l k).c := rfl
  rw [e1] at hF
  have hR := hc k hk
  by_cases h0 : (hAt l k).c = 0
  · rw [lkS_k h0]
    rw [h0] at hF
    have hw1 : IntKind.i64.wrap ((k : Int) + 1) = (k : Int) + 1 := by rw [IntKind.wrap_i64]; omega
    have HE : Hid (¬ (hAt l k).e = (k : Int) + 1 → lnkA l k = 1) := fun h => lnk_e h
    have HV : Hid ((hAt l k).e = (k : Int) + 1 → ¬ (hAt l k).v = smA l k → lnkA l k = 9) := fun h h1 => lnk_v h h1
    have HPh : Hid ((hAt l k).e = (k : Int) + 1 → (hAt l k).v = smA l k → folB (phA l k) (hAt l k).p = false → lnkA l k = 10) := fun h h1 h2 => lnk_p h h1 h2
    have HK : Hid ((hAt l k).e = (k : Int) + 1 → (hAt l k).v = smA l k → folB (phA l k) (hAt l k).p = true → lnkA l k = 0) := fun h h1 h2 => lnk_ok h h1 h2
    have hFo := fun w => l10Follow_any (phA l k) (hAt l k).p w
    generalize lnkA l k = q at *
    have HSM : Hid (0 < k → ∀ w', Below w.heap.size w w' → Calls Tryz.prog 150 #[.pointer (some ⟨b, off + (k - 1) * 5, none⟩)] w' fun x w'' => x = .returned (.int .i64 (smA l k)) ∧ Below w'.heap.size w' w'') := by
      intro h w' hb'
      have e2 : smA l k = (hAt l (k - 1)).s := by rcases k with _ | m; omega; rfl
      rw [e2]
      exact l10Sum_any b (off + (k - 1) * 5) _ _ _ _ _ w' ((hc (k - 1) (by omega)).below hb' hb) (hdOk (hp h))
    have HPP : Hid (0 < k → ∀ w', Below w.heap.size w w' → w'.cell? ⟨b, off + (k - 1) * 5 + 1, none⟩ = some (.int .i64 (phA l k))) := by
      intro h w' hb'
      have e2 : phA l k = (hAt l (k - 1)).p := by rcases k with _ | m; omega; rfl
      rw [e2]
      exact ((hc (k - 1) (by omega)).below hb' hb).c1
    have HZ : Hid (k = 0 → smA l k = 0 ∧ phA l k = 1) := fun h => by subst h; exact ⟨rfl, rfl⟩
    have HRC : Hid (∀ w', Below w.heap.size w w' → w'.cell? ⟨b, off + k * 5, none⟩ = some (.int .i64 (hAt l k).e) ∧ w'.cell? ⟨b, off + k * 5 + 1, none⟩ = some (.int .i64 (hAt l k).p) ∧ w'.cell? ⟨b, off + k * 5 + 4, none⟩ = some (.int .i64 (hAt l k).v)) :=
      fun w' h => ⟨(hR.below h hb).c0, (hR.below h hb).c1, (hR.below h hb).c4⟩
    generalize smA l k = sm at *
    generalize phA l k = ph at *
    generalize (hAt l k).e = x0 at *
    generalize (hAt l k).v = x4 at *
    generalize (hAt l k).p = x1 at *
    clear hc h0 e1 hR hp
    have hcase : ∃ B0 B1 B2 : Bool, (x0 != (k : Int) + 1) = B0 ∧ (x4 != sm) = B1 ∧ folB ph x1 = B2 ∧ Hid (q = if B0 = true then 1 else if B1 = true then 9 else if B2 = true then 0 else 10) := by
      refine ⟨_, _, _, rfl, rfl, rfl, ?_⟩
      by_cases a1 : x0 = (k : Int) + 1
      · have g1 : (x0 != (k : Int) + 1) = false := by simpa using a1
        rw [g1]
        by_cases a2 : x4 = sm
        · have g2 : (x4 != sm) = false := by simpa using a2
          rw [g2]
          rcases Bool.eq_false_or_eq_true (folB ph x1) with a3 | a3
          · rw [a3]; exact HK.out a1 a2 a3
          · rw [a3]; exact HPh.out a1 a2 a3
        · have g2 : (x4 != sm) = true := by simpa using a2
          rw [g2]; exact HV.out a1 a2
      · have g1 : (x0 != (k : Int) + 1) = true := by simpa using a1
        rw [g1]; exact HE.out a1
    obtain ⟨B0, B1, B2, g1, g2, g3, HX⟩ := hcase
    clear HE HV HPh HK
    rw [g3] at hFo
    clear g3
    rcases k with _ | m
    · rcases B0 with _ | _ <;> rcases B1 with _ | _ <;> rcases B2 with _ | _
      all_goals (
        obtain ⟨hz1, hz2⟩ := HZ.out rfl
        subst hz1 hz2
        have hg0 : decide (((0 : Nat) : Int) > 0) = false := by simp
        simp only [Nat.zero_mul, Nat.add_zero] at hF HRC
        clear HSM HPP HZ
        go_enter Tryz.func115, Tryz.ntmps115
        go_wp2_with fail
        refine hF.mono ?_
        rintro x w1 ⟨rfl, hb1⟩
        obtain ⟨k0, k1, k4⟩ := HRC.out _ hb1
        clear hF HRC
        go_wp2_with (go_at_call 123; refine (hFo _).mono ?_; rintro x wq ⟨rfl, rfl⟩)
        go_ret
        exact ⟨ret_int HX.out.symm, hb1⟩)
    · rcases B0 with _ | _ <;> rcases B1 with _ | _ <;> rcases B2 with _ | _
      all_goals (
        have hS1 := HSM.out (by omega)
        have hP1 := HPP.out (by omega)
        simp only [Nat.add_sub_cancel] at hS1 hP1
        have HP1 : Hid (∀ w', Below w.heap.size w w' → w'.cell? ⟨b, off + m * 5 + 1, none⟩ = some (.int .i64 ph)) := hP1
        have hg0 : decide (0 < ((m + 1 : Nat) : Int)) = true := by simp
        have hmi : (m : Int) < (n : Int) := by omega
        clear HSM HPP HZ hP1
        go_enter Tryz.func115, Tryz.ntmps115
        go_wp2_with fail
        refine hF.mono ?_
        rintro x w1 ⟨rfl, hb1⟩
        clear hF
        go_wp2_with fail
        refine (hS1 _ hb1).mono ?_
        rintro x w2 ⟨rfl, hb2⟩
        have hb2' := below_after_of hb1 hb2
        obtain ⟨k0, k1, k4⟩ := HRC.out _ hb2'
        have kp := HP1.out _ hb2'
        clear hS1 hb1 hb2 HRC HP1
        go_wp2_with (go_at_call 123; refine (hFo _).mono ?_; rintro x wq ⟨rfl, rfl⟩)
        go_ret
        exact ⟨ret_int HX.out.symm, hb2'⟩)
  · have h1 := code_ne h0
    rw [lkS_c h0]
    generalize (hAt l k).c = q at *
    clear hc h0 e1 hR hp
    go_enter Tryz.func115, Tryz.ntmps115
    go_wp2_with fail
    refine hF.mono ?_
    rintro x w1 ⟨rfl, hb1⟩
    clear hF
    go_wp2
    go_ret
    exact ⟨rfl, hb1⟩
set_option maxRecDepth 100000 in
set_option maxHeartbeats 2000000 in
theorem l10Chain_core (b off c n : Nat) (l : Hdl) (w : World) (hn : n ≤ 10) (hb : b < w.heap.size) (hc : ∀ j, j < n → HdS w b (off + j * 5) (hAt l j)) :
    Calls Tryz.prog 60 #[.slice (some ⟨b, off, none⟩) n c] w fun x w' => x = .returned (.int .i64 (scanH l n 0)) ∧ Below w.heap.size w w' := by
  obtain ⟨q, hq⟩ : ∃ q, q = scanH l n 0 := ⟨_, rfl⟩
  have HQ : Hid (scanH l n 0 = q) := hq.symm
  rw [← hq]
  clear hq
  have HC : Hid (∀ k, k < n → (0 < k → (hAt l (k - 1)).c = 0) → ∀ w', Below w.heap.size w w' → Calls Tryz.prog 115 #[.slice (some ⟨b, off, none⟩) n c, .int .i64 k] w' fun x w'' => x = .returned (.int .i64 (lkS l k)) ∧ Below w'.heap.size w' w'') :=
    fun k hk hp w' h => l10Link_any b off c n k l w' hn (Nat.lt_of_lt_of_le hb h.size) hk (fun j hj => (hc j hj).below h hb) hp
  clear hc
  go_enter Tryz.func60, Tryz.ntmps60
  go_wp2
  go_loopw [3] (fun i wr => ∃ k : Nat, k ≤ n ∧ i = .int .i64 k ∧ Hid (Below w.heap.size w wr) ∧ Hid (scanH l (n - k) k = q) ∧ Hid (0 < k → (hAt l (k - 1)).c = 0)) (fun i _ => n - (intOf i).toNat)
  case atStart => exact ⟨0, Nat.zero_le _, rfl, Below.refl _ _, HQ, fun h => absurd h (by omega)⟩
  case round =>
    obtain ⟨k, hk, rfl, hB, HS, HP⟩ := hrel
    by_cases hkn : k < n
    · have hki : (k : Int) < (n : Int) := by omega
      have hL := HC.out k hkn HP.out _ hB.out
      have HSN : Hid (n - k = (n - k - 1) + 1) := (by omega : n - k = (n - k - 1) + 1)
      have HL : Hid (q = if lkS l k = 0 then scanH l (n - k - 1) (k + 1) else lkS l k) := (by rw [← HS.out, HSN.out]; exact scanH_lk : q = if lkS l k = 0 then scanH l (n - k - 1) (k + 1) else lkS l k)
      have HN : Hid (lkS l k = 0 → (hAt l k).c = 0) := (fun h => by
        by_cases h1 : (hAt l k).c = 0
        · exact h1
        · rw [lkS_c h1] at h; exact h)
      generalize lkS l k = z at *
      by_cases hz : z = 0
      · subst hz
        have HX : Hid (scanH l (n - k - 1) (k + 1) = q) := (by have := HL.out; rw [if_pos rfl] at this; exact this.symm : scanH l (n - k - 1) (k + 1) = q)
        have HPN : Hid (0 < k + 1 → (hAt l (k + 1 - 1)).c = 0) := fun _ => HN.out rfl
        clear HL HN
        go_wp2_with fail
        refine hL.mono ?_
        rintro x w1 ⟨rfl, hb1⟩
        have HB1 : Hid (Below w.heap.size w w1) := below_after_of hB.out hb1
        clear hL hb1
        go_wp2
        go_roundw
        case rel => exact ⟨k + 1, by omega, by go_num, HB1, by rw [show n - (k + 1) = n - k - 1 by omega]; exact HX, HPN⟩
        case measure => simp [intOf]; omega
      · have hz1 : (z != 0) = true := by simpa using hz
        have HX : Hid (q = z) := (by have := HL.out; rw [if_neg hz] at this; exact this : q = z)
        clear HL HN hz
        go_wp2_with fail
        refine hL.mono ?_
        rintro x w1 ⟨rfl, hb1⟩
        have HB1 : Hid (Below w.heap.size w w1) := below_after_of hB.out hb1
        clear hL hb1
        go_wp2
        go_ret
        exact ⟨ret_int HX.out.symm, HB1.out⟩
    · have hkn : k = n := by omega
      subst hkn
      have e0 : Hid (q = 0) := (by rw [← HS.out, Nat.sub_self]; rfl : q = 0)
      go_wp2
      go_ret
      exact ⟨ret_int e0.out.symm, hB.out⟩
set_option maxRecDepth 100000 in
set_option maxHeartbeats 1000000 in
theorem l10Chain_any (v : Value) (l : Hdl) (w : World) (hv : Hds w v l) (hx : l.length ≤ 1099511627776) :
    Calls Tryz.prog 60 #[v] w fun e w' => e = .returned (.int .i64 (chF l)) ∧ Below w.heap.size w w' := by
  obtain ⟨a, c, rfl⟩ := hv.shape
  by_cases h : 10 < l.length
  · rw [chF_many h]
    generalize l.length = n at *
    clear hv
    go_enter Tryz.func60, Tryz.ntmps60
    go_wp2
    go_ret
    exact ⟨rfl, Below.refl _ _⟩
  · rw [chF_scan h]
    by_cases h0 : 0 < l.length
    · obtain ⟨_, b, off, rfl, hb, hc⟩ := hv.at h0
      exact l10Chain_core b off c l.length l w (by omega) hb hc
    · have e1 : l = [] := List.eq_nil_of_length_eq_zero (by omega)
      subst e1
      simp only [List.length_nil]
      have e2 : scanH [] 0 0 = 0 := rfl
      rw [e2]
      clear hv h0 hx h e2
      go_enter Tryz.func60, Tryz.ntmps60
      go_wp2
      refine wp_loop_rounds 1 ?_; rw [rounds_succ]
      go_wp2
      go_ret
      exact ⟨rfl, Below.refl _ _⟩
end U
end Go.Proofs.YtihhigmceeabmaaGreat

/- The bytes and the sum of a record that lies in a row, as the model tells them. -/
namespace Go.Proofs.YtihhigmceeabmaaGreat
open Go.RowKit
namespace U
/-- A record in four cells, cell by cell. -/
structure RecT (w : World) (g off : Nat) (l : ByteArray) (v o p : Int) : Prop where
  c0 : w.cell? ⟨g, off, none⟩ = some (.string l)
  c1 : w.cell? ⟨g, off + 1, none⟩ = some (.int .i64 v)
  c2 : w.cell? ⟨g, off + 2, none⟩ = some (.int .i64 o)
  c3 : w.cell? ⟨g, off + 3, none⟩ = some (.int .i64 p)
theorem RecT.below {w w' : World} {g off : Nat} {l : ByteArray} {v o p : Int} (h : RecT w g off l v o p) (hb : Below w.heap.size w w') : RecT w' g off l v o p :=
  ⟨After.cell h.c0 ⟨w', hb⟩, After.cell h.c1 ⟨w', hb⟩, After.cell h.c2 ⟨w', hb⟩, After.cell h.c3 ⟨w', hb⟩⟩
theorem RecS.t {w : World} {b off : Nat} {r : Rc} (h : RecS w b off r) : RecT w b off r.l r.v r.o r.p := ⟨h.c0, h.c1, h.c2, h.c3⟩
theorem RecT.grown {w w' : World} {g off : Nat} {l : ByteArray} {v o p : Int} {row : Option Nat} (h : RecT w g off l v o p) (hg : w.grownBy w' row) (hne : some g ≠ row) : RecT w' g off l v o p :=
  ⟨hg.cell h.c0 hne, hg.cell h.c1 hne, hg.cell h.c2 hne, hg.cell h.c3 hne⟩
set_option maxRecDepth 100000 in
set_option maxHeartbeats 4000000 in
theorem l3Pack_at (g off : Nat) (l : ByteArray) (v o p : Int) (w : World) (h : RecT w g off l v o p) (hsm : l.size ≤ 12) (hl0 : 0 < l.size) (hSS : [v, o, p].all sumB = true) (hg : g < w.heap.size) :
    Calls Tryz.prog 134 #[.pointer (some ⟨g, off, none⟩)] w fun e w' => ∃ v', e = .returned v' ∧ w'.ownsRow w.heap.size 5 1 v' (packL l v o p).length ((packL l v o p).map (Value.int .u8)) ∧ Below w.heap.size w w' := by
  obtain ⟨i0, hi, hz0, hz1, hz2⟩ := info_parts Tryz.infoB
  have hws : IntKind.u8.wrap (l.size : Int) = (l.size : Int) := wrapU8' _ (by omega) (by omega)
  have kc := fun (w : World) => run_bytes_of_string (P := Tryz.prog) w 9 166 5 l Tryz.underlying9 Tryz.underlying166 Tryz.underlying5
  have hc0 := h.c0
  obtain ⟨n, hn⟩ : ∃ n, n = l.size := ⟨_, rfl⟩
  have hbn := bl_len l
  go_enter Tryz.func134, Tryz.ntmps134
  go_wp2
  go_region_law (first
    | (refine step_append_lies _ (by rfl) _ _ _ (by rfl) w.heap.size 5 i0 _ 1 1 Tryz.underlying166 hi hz0 hz1 hz2 rfl (by omega) (.slice (some ⟨w.heap.size, 0, none⟩) 2 2) 2 [.int .u8 1, .int .u8 (l.size : Int)] (by rfl) ((((lit_own2 w 1 l.size).alloc _).drew).drew) ⟨w.heap.size + 1, 0, none⟩ l.size _ ((bl l).map (Value.int .u8)) (by rfl) (by simp [hbn]) (row_news (rowA w _ l _ _)) (ints_oneCell .u8 (bl l)) (by omega) (by unfold maxLen; omega) (by omega) (by simp; try omega) (w.heap.size + 2) (by simp) ?_; intro g1 cap1 w1 hown1 hgrow hat hlt)
    | (refine step_append_lies _ (by rfl) _ _ _ (by rfl) w.heap.size 5 i0 _ 1 1 Tryz.underlying166 hi hz0 hz1 hz2 rfl (by omega) (.slice (some ⟨w.heap.size + 1, 0, none⟩) 2 2) 2 [.int .u8 1, .int .u8 (l.size : Int)] (by rfl) (ownB w _ 1 l.size) ⟨w.heap.size, 0, none⟩ l.size _ ((bl l).map (Value.int .u8)) (by rfl) (by simp [hbn]) (row_news (rowB w _ l _ _)) (ints_oneCell .u8 (bl l)) (by omega) (by unfold maxLen; omega) (by omega) (by simp; try omega) (w.heap.size + 2) (by simp) ?_; intro g1 cap1 w1 hown1 hgrow hat hlt))
  all_goals (
    have hb1 : Below w.heap.size w w1 := ((two_new _ _).drew.drew).grown hgrow (by simp; try omega) (fun k hk => by simp [Value.ownBlock] at hk; omega)
    have own1 : w1.ownsRow w.heap.size 5 1 (.slice (some ⟨g1, 0, none⟩) (2 + l.size) cap1) (2 + l.size) ((headL l).map (Value.int .u8)) := hown1
    have hge1 : w.heap.size ≤ g1 := (own1.lt g1 rfl).1
    clear hgrow hown1 hat
    have R1 := h.below hb1
    have hg1 : g < w1.heap.size := Nat.lt_of_lt_of_le hg hb1.size
    have ⟨c0, c1, c2, c3⟩ := R1
    have hS := hSS
    have HS : Hid ([v, o, p].all sumB = true) := hS
    clear hS hc0 kc
    have h6 : (six v o p).length = 6 := rfl
    go_wp2
    go_region_held3 (fun w' => w'.cell? ⟨g, off + 1, none⟩ = some (.int .i64 v) ∧ w'.cell? ⟨g, off + 2, none⟩ = some (.int .i64 o) ∧ w'.cell? ⟨g, off + 3, none⟩ = some (.int .i64 p)) (first | go_keep | (have R2 := R1.below hb2'; exact ⟨R2.c1, R2.c2, R2.c3⟩) | (have R3 := (R1.below hb2').grown hgrow3 (by simp [Value.ownBlock]; omega); exact ⟨R3.c1, R3.c2, R3.c3⟩) | exact True.intro) (first
      | (go_at_call 165; refine (l2Bytes3 _ v o p _ ?_ HS.out).mono ?_; (first | exact lit3_ints w1 v o p _ | exact lit3_ints w1.drew v o p _ | (trace_state; fail)); rintro e w2 ⟨g2, cap2, rfl, hcap2, hg2, hg2', hnews2, hb2⟩; have hb2' : Below w1.heap.size w1 w2 := (by first | exact below_after_of (one_new _).drew hb2 | exact below_after_of (one_new _) hb2); have own2 := own_below own1 hb2'; clear hb2)
      | (refine step_append_lies _ (by rfl) _ _ _ (by rfl) w.heap.size 5 i0 _ 1 1 Tryz.underlying166 hi hz0 hz1 hz2 rfl (by omega) (.slice (some ⟨g1, 0, none⟩) (2 + l.size) cap1) (2 + l.size) ((headL l).map (Value.int .u8)) (by rfl) own2 ⟨g2, 1, none⟩ 6 (cap2 - 1) ((six v o p).map (Value.int .u8)) (by simp [Act.eval]; omega) (by simp [h6]) hnews2 (ints_oneCell .u8 (six v o p)) (by omega) (by unfold maxLen; omega) (by omega) (by have q1 := hb1.size; have q2 := hb2'.size; simp; omega) w2.heap.size (by simp) ?_; intro g3 cap3 w3 hown3 hgrow3 hat3 hlt3))
    have hb3 : Below w.heap.size w w3 := (below_after_of hb1 hb2').grown hgrow3 (by have q1 := hb1.size; have q2 := hb2'.size; omega) (fun k hk => by simp [Value.ownBlock] at hk; omega)
    clear hgrow3 hat3 own2 own1 hb2' hnews2 R1 c0 c1 c2 c3
    go_wp2
    go_ret
    refine ⟨_, rfl, ?_, hb3⟩
    have e1 : packL l v o p = headL l ++ six v o p := rfl
    have e2 : (packL l v o p).length = 2 + l.size + 6 := by rw [packL_len]; omega
    rw [e2, e1, List.map_append]
    exact hown3)
theorem l3Pack_atR (g off : Nat) (l : ByteArray) (v o p : Int) (w : World) (h : RecT w g off l v o p) (hR : RecOk l v o p) (hg : g < w.heap.size) :
    Calls Tryz.prog 134 #[.pointer (some ⟨g, off, none⟩)] w fun e w' => ∃ v', e = .returned v' ∧ w'.ownsRow w.heap.size 5 1 v' (packL l v o p).length ((packL l v o p).map (Value.int .u8)) ∧ Below w.heap.size w w' := l3Pack_at g off l v o p w h hR.small hR.pos hR.sums hg
set_option maxRecDepth 100000 in
set_option maxHeartbeats 1000000 in
theorem l3Sum_at (g off : Nat) (l : ByteArray) (v o p : Int) (w : World) (h : RecT w g off l v o p) (hR : RecOk l v o p) (hg : g < w.heap.size) :
    Calls Tryz.prog 88 #[.pointer (some ⟨g, off, none⟩)] w fun e w' => e = .returned (.int .i64 (sumL (packL l v o p))) ∧ Below w.heap.size w w' := by
  have hbt := packL_bts hR
  have hln : (packL l v o p).length ≤ 1099511627776 := by rw [packL_len]; have := hR.small; omega
  have hP := l3Pack_atR g off l v o p w h hR hg
  generalize packL l v o p = ys at *
  go_enter Tryz.func88, Tryz.ntmps88
  go_wp2_with fail
  refine hP.mono ?_
  rintro e w1 ⟨v', rfl, ho1, hb1⟩
  have hI := own_ints ho1
  obtain ⟨a', c', rfl⟩ := own_shape ho1
  clear ho1 hP
  go_wp2_with fail
  refine (l2Sum_any _ ys _ hI hbt hln).mono ?_
  rintro e w2 ⟨rfl, rfl⟩
  go_wp2
  go_ret
  exact ⟨rfl, hb1⟩
end U
end Go.Proofs.YtihhigmceeabmaaGreat

/- Where a key stands: a binary search over slots. -/
namespace Go.Proofs.YtihhigmceeabmaaGreat
open Go.RowKit
namespace U
def cmpI (x k : Int) : Int := if x < k then -1 else if k < x then 1 else 0
set_option maxRecDepth 100000 in
theorem isNaN_any (x : Int) (w : World) : Calls Tryz.prog 239 #[.int .i64 x] w fun e w' => e = .returned (.bool false) ∧ ∃ n, w' = w.drewN n := by
  go_enter Tryz.func239, Tryz.ntmps239
  go_wp2
  go_ret
  exact ⟨ret_bool (by simp), 0, rfl⟩
set_option maxRecDepth 100000 in
theorem compare_any (x k : Int) (w : World) : Calls Tryz.prog 224 #[.int .i64 x, .int .i64 k] w fun e w' => e = .returned (.int .i64 (cmpI x k)) ∧ ∃ n, w' = w.drewN n := by
  have hN := fun x w => isNaN_any x w
  unfold cmpI
  by_cases h1 : x < k
  · rw [if_pos h1]
    go_enter Tryz.func224, Tryz.ntmps224
    go_wp2_with (go_at_call 239; refine (hN _ _).mono ?_; rintro e w1 ⟨rfl, n1, rfl⟩)
    go_ret
    exact ⟨rfl, _, rfl⟩
  · rw [if_neg h1]
    by_cases h2 : k < x
    · rw [if_pos h2]
      go_enter Tryz.func224, Tryz.ntmps224
      go_wp2_with (go_at_call 239; refine (hN _ _).mono ?_; rintro e w1 ⟨rfl, n1, rfl⟩)
      go_ret
      exact ⟨rfl, _, rfl⟩
    · rw [if_neg h2]
      go_enter Tryz.func224, Tryz.ntmps224
      go_wp2_with (go_at_call 239; refine (hN _ _).mono ?_; rintro e w1 ⟨rfl, n1, rfl⟩)
      go_ret
      exact ⟨rfl, _, rfl⟩
set_option maxRecDepth 100000 in
theorem placeOf1_any (x y k : Int) (w : World) : Calls Tryz.prog 223 #[.agg #[.int .i64 x, .int .i64 y], .int .i64 k] w fun e w' => e = .returned (.int .i64 (cmpI x k)) ∧ Below w.heap.size w w' := by
  have hC := fun w => compare_any x k w
  generalize cmpI x k = c at *
  go_enter Tryz.func223, Tryz.ntmps223
  go_wp2_with fail
  refine (hC _).mono ?_
  rintro e w1 ⟨rfl, n1, rfl⟩
  clear hC
  go_wp2
  go_ret
  exact ⟨rfl, below_drewN (one_new _) _⟩
set_option maxRecDepth 100000 in
set_option maxHeartbeats 2000000 in
theorem binarySearch_core (b off c n : Nat) (l : Prl) (k : Int) (w : World) (HN : Hid (n = l.length)) (hn : n ≤ 12) (hb : b < w.heap.size) (HR : Hid (Ris l))
    (hc : ∀ j, j < n → w.cell? ⟨b, off + j * 2, none⟩ = some (.int .i64 (pAt l j).1) ∧ w.cell? ⟨b, off + j * 2 + 1, none⟩ = some (.int .i64 (pAt l j).2)) :
    Calls Tryz.prog 222 #[.slice (some ⟨b, off, none⟩) n c, .int .i64 k, .func (.func 223) #[] #[]] w fun e w' => e = .returned (.tuple #[.int .i64 (low l k : Nat), .bool (thr l k)]) ∧ Below w.heap.size w w' := by
  have hll : low l k ≤ n := by have := low_le l k; have := HN.out; omega
  have HI : Hid (∀ i, i < n → ((pAt l i).1 < k ↔ i < low l k)) := fun i hi => low_iff HR.out k (by have := HN.out; omega)
  have HC : Hid (∀ j, j < n → w.cell? ⟨b, off + j * 2, none⟩ = some (.int .i64 (pAt l j).1) ∧ w.cell? ⟨b, off + j * 2 + 1, none⟩ = some (.int .i64 (pAt l j).2)) := hc
  have HT : Hid (thr l k = (decide (low l k < n) && decide ((pAt l (low l k)).1 = k))) := by show _ = _; rw [HN.out]; rfl
  have HCM := fun x y w => placeOf1_any x y k w
  generalize thr l k = th at *
  generalize low l k = lo at *
  clear hc
  go_enter Tryz.func222, Tryz.ntmps222
  go_wp2
  go_loopw [9, 10] (fun a z wr => ∃ i j : Nat, a = .int .i64 i ∧ z = .int .i64 j ∧ i ≤ lo ∧ lo ≤ j ∧ j ≤ n ∧ Below w.heap.size w wr) (fun a z _ => (intOf z).toNat - (intOf a).toNat)
  case atStart => exact ⟨0, n, rfl, rfl, by omega, hll, by omega, Below.refl _ _⟩
  case round =>
    obtain ⟨i, j, rfl, rfl, hi, hj, hjn, hB⟩ := hrel
    by_cases hij : i < j
    · have hiji : (i : Int) < (j : Int) := by omega
      obtain ⟨h, hh⟩ : ∃ h, h = (i + j) / 2 := ⟨_, rfl⟩
      have h1 : i ≤ h := by omega
      have h2 : h < j := by omega
      have h3 : h < n := by omega
      obtain ⟨c0, c1⟩ := HC.out h h3
      have c0 := (hB.cell (p := ⟨b, off + h * 2, none⟩) hb).trans c0
      have c1 := (hB.cell (p := ⟨b, off + h * 2 + 1, none⟩) hb).trans c1
      have hM := fun w => HCM (pAt l h).1 (pAt l h).2 w
      have HX := HI.out h h3
      generalize (pAt l h).1 = x at *
      generalize (pAt l h).2 = y at *
      have e1 : IntKind.u64.wrap ((i : Int) + (j : Int)) = (i : Int) + (j : Int) := by rw [IntKind.wrap_u64]; omega
      have e2 : ((i : Int) + (j : Int)) / 2 = (h : Int) := by omega
      have hhn : (h : Int) < (n : Int) := by omega
      have HH : Hid (h = (i + j) / 2) := hh
      clear hh
      go_wp2_with fail
      refine (hM _).mono ?_
      rintro e w1 ⟨rfl, hb1⟩
      have hB1 := below_after_of hB hb1
      clear hM hb1 HCM
      by_cases hx : x < k
      · have hlt := HX.1 hx
        have ec : cmpI x k = -1 := by unfold cmpI; rw [if_pos hx]
        rw [ec]
        clear HX ec
        go_wp2
        go_roundw
        case rel => exact ⟨h + 1, j, by go_num, rfl, by omega, hj, hjn, hB1⟩
        case measure => simp [intOf]; omega
      · have hge : lo ≤ h := Nat.le_of_not_lt fun hh => hx (HX.2 hh)
        have ec : 0 ≤ cmpI x k ∧ cmpI x k ≤ 1 := by unfold cmpI; rw [if_neg hx]; split <;> omega
        generalize cmpI x k = cc at *
        clear HX
        go_wp2
        go_roundw
        case rel => exact ⟨i, h, rfl, rfl, hi, hge, by omega, hB1⟩
        case measure => simp [intOf]; omega
    · have e0 : i = lo := by omega
      subst e0
      have hiji : ¬ (i : Int) < (j : Int) := by omega
      by_cases hin : i < n
      · have hini : (i : Int) < (n : Int) := by omega
        obtain ⟨c0, c1⟩ := HC.out i hin
        have c0 := (hB.cell (p := ⟨b, off + i * 2, none⟩) hb).trans c0
        have c1 := (hB.cell (p := ⟨b, off + i * 2 + 1, none⟩) hb).trans c1
        have hM := fun w => HCM (pAt l i).1 (pAt l i).2 w
        have HX := HI.out i hin
        have ht := HT.out
        rw [decide_eq_true hin, Bool.true_and] at ht
        generalize (pAt l i).1 = x at *
        generalize (pAt l i).2 = y at *
        have hxk : ¬ x < k := fun hh => by have := HX.1 hh; omega
        have ec : (cmpI x k == 0) = decide (x = k) := by
          unfold cmpI
          rw [if_neg hxk]
          by_cases e : x = k
          · subst e; simp
          · rw [if_pos (by omega), decide_eq_false e]; rfl
        rw [← ht] at ec
        have ET : Hid ((cmpI x k == 0) = th) := ec
        generalize cmpI x k = cc at *
        clear HCM HX HT HI ht ec
        go_wp2_with fail
        refine (hM _).mono ?_
        rintro e w1 ⟨rfl, hb1⟩
        have hB1 := below_after_of hB hb1
        clear hM hb1
        go_wp2
        go_ret2
        exact ⟨by have := ET.out; subst this; rfl, hB1⟩
      · have hini : ¬ (i : Int) < (n : Int) := by omega
        have ht := HT.out
        rw [decide_eq_false hin, Bool.false_and] at ht
        subst ht
        clear HCM HI HT
        go_wp2
        go_ret2
        exact ⟨rfl, hB⟩
theorem thr_nil (k : Int) : thr [] k = false := rfl
theorem low_nil (k : Int) : low [] k = 0 := rfl
set_option maxRecDepth 100000 in
set_option maxHeartbeats 1000000 in
theorem binarySearch_any (v : Value) (l : Prl) (k : Int) (w : World) (hv : Prs w v l) (hl : l.length ≤ 12) (hr : Ris l) :
    Calls Tryz.prog 222 #[v, .int .i64 k, .func (.func 223) #[] #[]] w fun e w' => e = .returned (.tuple #[.int .i64 (low l k : Nat), .bool (thr l k)]) ∧ Below w.heap.size w w' := by
  obtain ⟨a, c, rfl⟩ := hv.shape
  by_cases h0 : 0 < l.length
  · obtain ⟨_, b, off, rfl, hb, hc⟩ := hv.at h0
    exact binarySearch_core b off c l.length l k w rfl hl hb hr hc
  · have e1 : l = [] := List.eq_nil_of_length_eq_zero (by omega)
    subst e1
    rw [thr_nil, low_nil]
    simp only [List.length_nil]
    clear hv h0 hl hr
    go_enter Tryz.func222, Tryz.ntmps222
    go_wp2
    refine wp_loop_rounds 1 ?_; rw [rounds_succ]
    go_wp2
    go_ret2
    exact ⟨rfl, Below.refl _ _⟩
set_option maxRecDepth 100000 in
set_option maxHeartbeats 1000000 in
theorem placeOf_any (v : Value) (l : Prl) (k : Int) (w : World) (hv : Prs w v l) (hl : l.length ≤ 12) (hr : Ris l) :
    Calls Tryz.prog 207 #[v, .int .i64 k] w fun e w' => e = .returned (.tuple #[.int .i64 (low l k : Nat), .bool (thr l k)]) ∧ Below w.heap.size w w' := by
  have hB := binarySearch_any v l k w hv hl hr
  obtain ⟨a, c, rfl⟩ := hv.shape
  generalize thr l k = th at *
  generalize low l k = lo at *
  generalize l.length = n at *
  clear hv hr
  go_enter Tryz.func207, Tryz.ntmps207
  go_wp2_with fail
  refine hB.mono ?_
  rintro e w1 ⟨rfl, hb1⟩
  clear hB
  go_wp2
  go_ret2
  exact ⟨rfl, hb1⟩
end U
end Go.Proofs.YtihhigmceeabmaaGreat

/- The sums of what is empty, by the program and by the model. -/
namespace Go.Proofs.YtihhigmceeabmaaGreat
open Go.RowKit
namespace U
theorem pair_tag {tag a b : Int} (ht : 1 ≤ tag ∧ tag ≤ 9) (ha : 0 ≤ a ∧ a ≤ 65520) (hb : 0 ≤ b ∧ b ≤ 65520) : tgC tag [a, b] = 0 ∧ tsV tag [a, b] = sumL (tagL tag [a, b]) := by
  have h1 : inB tag 1 9 = true := inB_t ht.1 ht.2
  have h3 : [a, b].all sumB = true := by simp [sumB_iff, ha, hb]
  have h2 : ¬ 20 < [a, b].length := by simp
  have := tg_ok h1 h2 h3
  exact ⟨this.1, by rw [ts_ok this.1, this.2]⟩
theorem two_ints (w : World) (a b : Int) (t : TypeId) : Ints .i64 (w.alloc (.cells #[.int .i64 a, .int .i64 b] t)) (.slice (some ⟨w.heap.size, 0, none⟩) 2 2) [a, b] := by
  refine Or.inr ⟨w.heap.size, 0, 2, rfl, by simp, fun j hj => ?_⟩
  have hh := heap_alloc_new w (.cells #[.int .i64 a, .int .i64 b] t)
  have hj2 : j < 2 := hj
  rcases (by omega : j = 0 ∨ j = 1) with rfl | rfl <;> (unfold World.cell?; rw [hh]; rfl)
theorem two_ints_at {w : World} {g : Nat} {a b : Int} {t : TypeId} (hg : g = w.heap.size) : Ints .i64 (w.alloc (.cells #[.int .i64 a, .int .i64 b] t)) (.slice (some ⟨g, 0, none⟩) 2 2) [a, b] := by subst hg; exact two_ints w a b t
theorem field_IR1 (x y : Int) (w : World) : (Instr.field 58 (.agg #[.int .i64 x, .int .i64 y]) 1).run Tryz.prog w = .ok (.int .i64 y) w := by kernel_rfl
set_option maxRecDepth 100000 in
theorem pairSum_any (a b : Int) (w : World) (ha : 0 ≤ a ∧ a ≤ 65520) (hb : 0 ≤ b ∧ b ≤ 65520) :
    Calls Tryz.prog 206 #[.int .i64 a, .int .i64 b] w fun e w' => e = .returned (.int .i64 (t2 a b)) ∧ Below w.heap.size w w' := by
  have hT := fun (w : World) hv => implTagSum_any 2 (.slice (some ⟨w.heap.size, 0, none⟩) 2 2) [a, b] (w.alloc (.cells #[.int .i64 a, .int .i64 b] 2)) hv (by simp)
  have hp := pair_tag (tag := 2) (by omega) ha hb
  rw [hp.1, hp.2] at hT
  have e0 : sumL (tagL 2 [a, b]) = t2 a b := rfl
  rw [e0] at hT
  generalize t2 a b = s at *
  clear hp e0
  have kf := fun w => field_IR1 0 s w
  go_enter Tryz.func206, Tryz.ntmps206
  go_wp2_with fail
  refine (hT _ (two_ints _ _ _ _)).mono ?_
  rintro e w1 ⟨rfl, hb1⟩
  clear hT
  go_wp2
  go_ret
  exact ⟨rfl, below_after hb1⟩
set_option maxRecDepth 100000 in
set_option maxHeartbeats 1000000 in
theorem l2Tag2_any (tag a b : Int) (u : Value) (w : World) (ht : 0 ≤ tag ∧ tag ≤ 255) (hu : Ints .i64 w u [a, b]) (ha : 0 ≤ a ∧ a ≤ 65520) (hb : 0 ≤ b ∧ b ≤ 65520) :
    Calls Tryz.prog 202 #[.int .i64 tag, u] w fun e w' => e = .returned (.int .i64 (sumL (tagL tag [a, b]))) ∧ Below w.heap.size w w' := by
  have h3 : [a, b].all sumB = true := by simp [sumB_iff, ha, hb]
  have hB := fun w h => l2Bytes_any tag u [a, b] w h (by simp) ht h3
  have hS := fun v w h => l2Sum_any v (tagL tag [a, b]) w h (tagL_bts ht h3) (by rw [tagL_len]; simp)
  have hl : (tagL tag [a, b]).length = 5 := by rw [tagL_len]; rfl
  have HU : Hid (Ints .i64 w u [a, b]) := hu
  obtain ⟨a', c', hu2⟩ := hu.shape
  have hu3 : u = .slice a' 2 c' := hu2
  subst hu3
  clear hu2
  rw [hl] at hB
  have HL : Hid ((tagL tag [a, b]).length = 5) := hl
  generalize sumL (tagL tag [a, b]) = s at *
  generalize tagL tag [a, b] = ys at *
  clear hu hl h3 ha hb ht
  go_enter Tryz.func202, Tryz.ntmps202
  go_wp2_with fail
  refine (hB _ HU.out).mono ?_
  rintro e w1 ⟨v', rfl, own1, hb1⟩
  rw [← HL.out] at own1
  have HI : Hid (Ints .u8 w1 v' ys) := own_ints own1
  obtain ⟨a1, c1, rfl⟩ := own_shape own1
  rw [HL.out] at HI ⊢
  clear hB own1
  go_wp2_with fail
  refine (hS _ _ HI.out).mono ?_
  rintro e w2 ⟨rfl, rfl⟩
  clear hS
  go_wp2
  go_ret
  exact ⟨rfl, hb1⟩
set_option maxRecDepth 100000 in
set_option maxHeartbeats 1000000 in
theorem l4Empty_any (n : Nat) (w : World) (hn : n ≤ 1000) :
    Calls Tryz.prog 234 #[.int .i64 (n : Int)] w fun e w' => e = .returned (.int .i64 (emp n)) ∧ Below w.heap.size w w' := by
  have hS := fun w => l2Sum_any (.slice none 0 0) [] w (Or.inl ⟨rfl, _, _, rfl⟩) (fun b hb => by cases hb) (by simp)
  have e0 : sumL [] = 13 := rfl
  rw [e0] at hS
  go_enter Tryz.func234, Tryz.ntmps234
  go_wp2_with fail
  refine (hS _).mono ?_
  rintro e w1 ⟨rfl, rfl⟩
  clear hS e0
  go_wp2
  go_loopw [0, 3] (fun i s wr => ∃ k : Nat, k ≤ n ∧ i = .int .i64 k ∧ s = .int .i64 (emp (n - k)) ∧ Below w1.heap.size w1 wr) (fun i _ _ => (intOf i).toNat)
  case atStart => exact ⟨n, Nat.le_refl _, rfl, by rw [Nat.sub_self]; rfl, Below.refl _ _⟩
  case round =>
    obtain ⟨k, hk, rfl, rfl, hB⟩ := hrel
    by_cases h0 : 0 < k
    · have hi0 : (0 : Int) < (k : Int) := by omega
      have hbd := emp_bd (n - k)
      have he : Hid (emp (n - (k - 1)) = sumL (tagL 2 [emp (n - k), emp (n - k)])) := by
        show _ = _
        rw [show n - (k - 1) = (n - k) + 1 by omega]
        rfl
      generalize emp (n - k) = x at *
      have hT := fun w u hu => l2Tag2_any 2 x x u w (by omega) hu hbd hbd
      generalize sumL (tagL 2 [x, x]) = y at *
      go_wp2_with fail
      refine (hT _ _ (two_ints _ _ _ _)).mono ?_
      rintro e w2 ⟨rfl, hb2⟩
      have hB2 := below_after_of hB (below_after hb2)
      clear hT hb2 hB
      go_wp2
      go_roundw
      case rel => exact ⟨k - 1, by omega, by go_num, by rw [he.out], hB2⟩
      case measure => simp [intOf]; omega
    · have : k = 0 := by omega
      subst this
      go_wp2
      go_ret
      exact ⟨rfl, hB⟩
/-- The code and the value of the sum of what is empty. -/
def eC (n : Int) : Int := if inB n 0 8 = true then 0 else 3
def eV (n : Int) : Int := if inB n 0 8 = true then emp n.toNat else 0
end U
end Go.Proofs.YtihhigmceeabmaaGreat

/- What is cut out of slots, and the sum of a part, by the model. -/
namespace Go.Proofs.YtihhigmceeabmaaGreat
open Go.RowKit
namespace U
def cutAt (l : Prl) (a b : Int) (k : Nat) : Prl := cut (l.take k) a b
theorem cutAt_zero (l : Prl) (a b : Int) : cutAt l a b 0 = [] := rfl
theorem cutAt_all (l : Prl) (a b : Int) : cutAt l a b l.length = cut l a b := by unfold cutAt; rw [List.take_length]
theorem takeP {l : Prl} {k : Nat} (h : k < l.length) : l.take (k + 1) = l.take k ++ [pAt l k] := by
  rw [List.take_succ_eq_append_getElem h, pAt_eq h]
theorem cutAt_in {l : Prl} {a b : Int} {k : Nat} (h : k < l.length) (h1 : a ≤ (pAt l k).1) (h2 : (pAt l k).1 < b) : cutAt l a b (k + 1) = cutAt l a b k ++ [pAt l k] := by
  unfold cutAt cut
  rw [takeP h, List.filter_append, List.filter_cons_of_pos (by simp [h1, h2])]
  rfl
theorem cutAt_out {l : Prl} {a b : Int} {k : Nat} (h : k < l.length) (h1 : ¬ (a ≤ (pAt l k).1 ∧ (pAt l k).1 < b)) : cutAt l a b (k + 1) = cutAt l a b k := by
  unfold cutAt cut
  rw [takeP h, List.filter_append, List.filter_cons_of_neg (by simp; omega)]
  simp
theorem cutAt_len (l : Prl) (a b : Int) (k : Nat) : (cutAt l a b k).length ≤ l.length := by
  have h1 := cut_len (l.take k) a b
  rw [List.length_take] at h1
  unfold cutAt
  omega
theorem own_snoc {w : World} {B : Nat} {e : TypeId} {v : Value} {l : Prl} {x y : Int} (h : w.ownsRow B e 2 v (l.length + 1) ((fl l).map (Value.int .i64) ++ [.int .i64 x, .int .i64 y])) : w.ownsRow B e 2 v (l ++ [(x, y)]).length ((fl (l ++ [(x, y)])).map (Value.int .i64)) := by
  rw [fl_app, List.map_append, List.length_append]
  exact h
theorem own_shape2 {w : World} {B n : Nat} {e : TypeId} {v : Value} {xs : List Value} (h : w.ownsRow B e 2 v n xs) : ∃ a c, v = .slice a n c := by
  rcases h.2 with ⟨rfl, hn⟩ | ⟨g, cap, cur, rfl, _⟩
  · exact ⟨none, 0, by rw [hn]⟩
  · exact ⟨_, _, rfl⟩
theorem none_own (w : World) (e : TypeId) (B : Nat) (hB : B ≤ w.heap.size) : (w.alloc (.cells #[] e)).ownsRow B e 2 (.slice (some ⟨w.heap.size, 0, none⟩) 0 0) 0 [] :=
  World.ownsRow_made w #[] 0 hB (by decide) rfl
set_option maxRecDepth 100000 in
set_option maxHeartbeats 2000000 in
theorem l4Cut_core (ad : Option Addr) (n c : Nat) (l : Prl) (a b : Int) (w : World) (HN : Hid (n = l.length)) (hn : n ≤ 1048576) (HV : Hid (Prs w (.slice ad n c) l)) :
    Calls Tryz.prog 194 #[.slice ad n c, .int .i64 a, .int .i64 b] w fun e w' => ∃ v', e = .returned v' ∧ w'.ownsRow w.heap.size 45 2 v' (cut l a b).length ((fl (cut l a b)).map (Value.int .i64)) ∧ Below w.heap.size w w' := by
  obtain ⟨i0, hi, hz0, hz1, hz2⟩ := info_parts Tryz.infoSl
  go_enter Tryz.func194, Tryz.ntmps194
  go_wp2
  go_loopw [7, 8] (fun u i wr => ∃ k : Nat, k ≤ n ∧ i = .int .i64 k ∧ Hid (Below w.heap.size w wr) ∧ Hid (wr.ownsRow w.heap.size 45 2 u (cutAt l a b k).length ((fl (cutAt l a b k)).map (Value.int .i64)))) (fun _ i _ => n - (intOf i).toNat)
  case atStart => exact ⟨0, Nat.zero_le _, rfl, one_new _, none_own w _ _ (Nat.le_refl _)⟩
  case round =>
    obtain ⟨k, hk, rfl, hB, ho⟩ := hrel
    obtain ⟨a', c', rfl⟩ := own_shape2 ho.out
    by_cases hkn : k < n
    · have hki : (k : Int) < (n : Int) := by omega
      have hkl : k < l.length := by have := HN.out; omega
      obtain ⟨-, bk, off, rfl, hbk, hc⟩ := HV.out.at (by omega)
      have hc1 := (hB.out.cell (p := ⟨bk, off + k * 2, none⟩) hbk).trans (hc k hkl).1
      have hc2 := (hB.out.cell (p := ⟨bk, off + k * 2 + 1, none⟩) hbk).trans (hc k hkl).2
      have HI : Hid (a ≤ (pAt l k).1 → (pAt l k).1 < b → cutAt l a b (k + 1) = cutAt l a b k ++ [((pAt l k).1, (pAt l k).2)]) := cutAt_in hkl
      have HO : Hid (¬ (a ≤ (pAt l k).1 ∧ (pAt l k).1 < b) → cutAt l a b (k + 1) = cutAt l a b k) := cutAt_out hkl
      have hlen := cutAt_len l a b k
      rw [← HN.out] at hlen
      generalize (pAt l k).1 = x at *
      generalize (pAt l k).2 = y at *
      generalize cutAt l a b k = m at *
      clear hc
      by_cases h1 : a ≤ x
      · by_cases h2 : x < b
        · have HI2 := HI.out h1 h2
          have HS : Hid (cutAt l a b (k + 1) = m ++ [(x, y)]) := HI2
          have ho2 := ho.out
          have hsz := hB.out.size
          clear HI HO HI2
          go_wp2_with (at_builtin; refine wpList_append_own _ rfl _ _ 95 rfl w.heap.size 45 i0 (.agg #[.int .i64 0, .int .i64 0]) 2 16 Tryz.underlying95 hi hz0 hz1 hz2 rfl (by decide) _ _ _ rfl (ho2.alloc _) ⟨wr.heap.size, 0, none⟩ 1 1 [.int .i64 x, .int .i64 y] rfl rfl (World.news_of_block (heap_alloc_new _ _)) (ints_oneCell .i64 [x, y]) (by unfold maxLen; omega) (by omega) (by simp; omega) ?_)
          intro v' w2 hown' hgrow _
          have hb2 : Below w.heap.size w w2 := (hB.out.alloc (by omega) _).grown hgrow (by simp; omega) (fun k hk => (ho.out.lt k hk).1)
          have own2 := own_snoc hown'
          clear hgrow hown' ho2 ho
          go_wp2
          go_roundw
          case rel => exact ⟨k + 1, by omega, by go_num, hb2, by rw [HS.out]; exact own2⟩
          case measure => simp [intOf]; omega
        · have HS : Hid (cutAt l a b (k + 1) = m) := HO.out (fun h => h2 h.2)
          clear HI HO
          go_wp2
          go_roundw
          case rel => exact ⟨k + 1, by omega, by go_num, hB, by rw [HS.out]; exact ho⟩
          case measure => simp [intOf]; omega
      · have HS : Hid (cutAt l a b (k + 1) = m) := HO.out (fun h => h1 h.1)
        clear HI HO
        go_wp2
        go_roundw
        case rel => exact ⟨k + 1, by omega, by go_num, hB, by rw [HS.out]; exact ho⟩
        case measure => simp [intOf]; omega
    · have hkn : k = n := by omega
      subst hkn
      have e1 : cutAt l a b k = cut l a b := by rw [HN.out]; exact cutAt_all _ _ _
      rw [e1] at ho ⊢
      go_wp2
      go_ret
      exact ⟨_, rfl, ho.out, hB.out⟩
theorem l4Cut_any (v : Value) (l : Prl) (a b : Int) (w : World) (hv : Prs w v l) (hn : l.length ≤ 1048576) :
    Calls Tryz.prog 194 #[v, .int .i64 a, .int .i64 b] w fun e w' => ∃ a' c', e = .returned (.slice a' (cut l a b).length c') ∧ w'.ownsRow w.heap.size 45 2 (.slice a' (cut l a b).length c') (cut l a b).length ((fl (cut l a b)).map (Value.int .i64)) ∧ Below w.heap.size w w' := by
  obtain ⟨ad, c, rfl⟩ := hv.shape
  refine (l4Cut_core ad l.length c l a b w rfl hn hv).mono ?_
  rintro e w' ⟨v', rfl, ho, hb⟩
  obtain ⟨a', c', rfl⟩ := own_shape2 ho
  exact ⟨a', c', rfl, ho, hb⟩
end U
end Go.Proofs.YtihhigmceeabmaaGreat

/- Answers of a code and slots: compared, marked and looked at anew. -/
namespace Go.Proofs.YtihhigmceeabmaaGreat
open Go.RowKit
namespace U
def mkP (k n : Nat) : Prl := (List.range n).map fun j => (((k + j * 2 : Nat) : Int), ((k + (j * 2 + 1) : Nat) : Int))
theorem mkP_len (k n : Nat) : (mkP k n).length = n := by simp [mkP]
theorem mkP_at (k n j : Nat) (h : j < n) : pAt (mkP k n) j = (((k + j * 2 : Nat) : Int), ((k + (j * 2 + 1) : Nat) : Int)) := by
  rw [pAt_eq (by rw [mkP_len]; exact h)]
  simp [mkP]
theorem fl_mkP (k n : Nat) : fl (mkP k n) = marks k (n * 2) := by
  apply List.ext_getElem?
  intro i
  by_cases h : i < n * 2
  · have h1 := fl_at (mkP k n) (i / 2) (by rw [mkP_len]; omega)
    rw [mkP_at k n (i / 2) (by omega)] at h1
    have e : (marks k (n * 2))[i]? = some ((k + i : Nat) : Int) := by simp [marks, h]
    rw [e]
    rcases (by omega : i = i / 2 * 2 ∨ i = i / 2 * 2 + 1) with hh | hh
    · rw [hh, h1.1]
    · rw [hh, h1.2]
  · rw [List.getElem?_eq_none (by rw [fl_len, mkP_len]; omega), List.getElem?_eq_none (by rw [marks_len]; omega)]
theorem Prs.grown {w w' : World} {v : Value} {l : Prl} {row : Option Nat} (h : Prs w v l) (hg : w.grownBy w' row) (hne : v.ownBlock = none ∨ v.ownBlock ≠ row) : Prs w' v l := by
  rcases h with h | ⟨b, off, c, rfl, hlt, hc⟩
  · exact Or.inl h
  · have hnb : some b ≠ row := by
      rcases hne with hh | hh
      · simp [Value.ownBlock] at hh
      · exact hh
    exact Or.inr ⟨b, off, c, rfl, Nat.lt_of_lt_of_le hlt hg.size, fun j hj => ⟨hg.cell (hc j hj).1 hnb, hg.cell (hc j hj).2 hnb⟩⟩
theorem own_prs_n {w : World} {B n : Nat} {e : TypeId} {v : Value} {l : Prl} (HN : n = l.length) (h : w.ownsRow B e 2 v n ((fl l).map (Value.int .i64))) : Prs w v l := by
  subst HN; exact own_prs h
end U
end Go.Proofs.YtihhigmceeabmaaGreat

/- What is cut out of slots, by the program; CutSlots. -/
namespace Go.Proofs.YtihhigmceeabmaaGreat
open Go.RowKit
namespace U
/-- The answer of a function that hands back a code and slots of its own. -/
def SlotsAns (w : World) (code : Int) (l : Prl) (e : Ending) (w' : World) : Prop :=
  Below w.heap.size w w' ∧ ∃ v, e = .returned (.agg #[.int .i64 code, v]) ∧ w'.ownsRow w.heap.size 45 2 v l.length ((fl l).map (Value.int .i64))
theorem SlotsAns.use {w w' : World} {code : Int} {l : Prl} {e : Ending} (h : SlotsAns w code l e w') : ∃ a c, e = .returned (.agg #[.int .i64 code, .slice a l.length c]) ∧ Below w.heap.size w w' ∧ w'.ownsRow w.heap.size 45 2 (.slice a l.length c) l.length ((fl l).map (Value.int .i64)) := by
  obtain ⟨hb, v, rfl, ho⟩ := h
  obtain ⟨a, c, rfl⟩ := own_shape2 ho
  exact ⟨a, c, rfl, hb, ho⟩
/-- A slice value as it may be: no more in it than it has room for; without an address there is no room. -/
def Okv (v : Value) : Prop := ∀ a n c, v = .slice a n c → n ≤ c ∧ (a = none → c = 0)
theorem own_okv {w : World} {B : Nat} {e : TypeId} {v : Value} {m : Nat} {xs : List Value} (h : w.ownsRow B e 2 v m xs) : Okv v := by
  intro a n c hv
  subst hv
  rcases h.2 with ⟨h1, _⟩ | ⟨g, cap, cur, h1, _, _, hc, _⟩
  · cases h1; exact ⟨by omega, fun _ => rfl⟩
  · cases h1; exact ⟨hc, fun h => by cases h⟩
/-- Slots between two keys: it shares memory with the list. -/
theorem prs_part {w : World} {b off n c i j : Nat} {l : Prl} (hn : n = l.length) (hb : b < w.heap.size) (hij : i ≤ j) (hj : j ≤ n)
    (hc : ∀ j, j < n → w.cell? ⟨b, off + j * 2, none⟩ = some (.int .i64 (pAt l j).1) ∧ w.cell? ⟨b, off + j * 2 + 1, none⟩ = some (.int .i64 (pAt l j).2)) :
    Prs w (.slice (some ⟨b, off + i * 2, none⟩) (j - i) c) ((l.take j).drop i) := by
  right
  have hl : ((l.take j).drop i).length = j - i := by rw [List.length_drop, List.length_take]; omega
  refine ⟨b, off + i * 2, c, by rw [hl], hb, fun k hk => ?_⟩
  rw [hl] at hk
  have h1 := hc (i + k) (by omega)
  have e : pAt ((l.take j).drop i) k = pAt l (i + k) := by
    unfold pAt
    rw [List.getD_eq_getElem?_getD, List.getD_eq_getElem?_getD, List.getElem?_drop, List.getElem?_take, if_pos (by omega)]
  rw [e, show off + i * 2 + k * 2 = off + (i + k) * 2 by omega]
  exact h1
set_option maxRecDepth 100000 in
set_option maxHeartbeats 2000000 in
theorem slotsBetween_any (v : Value) (l : Prl) (a b : Int) (w : World) (hv : Prs w v l) (hcap : Okv v) (hl : l.length ≤ 12) (hr : Ris l) (hab : a ≤ b) :
    Calls Tryz.prog 181 #[v, .int .i64 a, .int .i64 b] w fun e w' => (∃ ad c, e = .returned (.slice ad (cut l a b).length c) ∧ Prs w (.slice ad (cut l a b).length c) (cut l a b) ∧ Okv (.slice ad (cut l a b).length c)) ∧ Below w.heap.size w w' := by
  have hP1 := fun w' h => placeOf_any v l a w' (hv.below h) hl hr
  have hP2 := fun w' h => placeOf_any v l b w' (hv.below h) hl hr
  have hm := low_mono l hab
  have hle := low_le l b
  have hce := cut_eq hr a b
  have hlen : (cut l a b).length = low l b - low l a := by rw [hce, List.length_drop, List.length_take]; omega
  obtain ⟨ad, c, rfl⟩ := hv.shape
  have hcp := (hcap _ _ _ rfl).1
  have HNC : Hid (ad = none → c = 0) := (hcap _ _ _ rfl).2
  have HV : Hid (Prs w (.slice ad l.length c) l) := hv
  have HPT : Hid (∀ bk off cc, ad = some ⟨bk, off, none⟩ → 0 < l.length → Prs w (.slice (some ⟨bk, off + low l a * 2, none⟩) (low l b - low l a) cc) (cut l a b)) := fun bk off cc e h0 => by
    subst e
    obtain ⟨_, b', off', e', hb', hc'⟩ := hv.at h0
    cases e'
    rw [hce]
    exact prs_part rfl hb' hm hle hc'
  have HL : Hid ((cut l a b).length = low l b - low l a) := hlen
  have HN : Hid (low l b - low l a = 0 → cut l a b = []) := fun h => List.eq_nil_of_length_eq_zero (by rw [hlen]; exact h)
  have hadr : 0 < l.length → ∃ bk off, ad = some ⟨bk, off, none⟩ := fun h0 => by
    obtain ⟨_, b', off', e', _⟩ := hv.at h0
    exact ⟨b', off', e'⟩
  rw [hlen]
  generalize cut l a b = m at *
  generalize low l b = j at *
  generalize low l a = i at *
  generalize thr l a = t1 at *
  generalize thr l b = t2 at *
  generalize l.length = n at *
  clear hv hr hcap hce hlen hab
  have hij : (i : Int) ≤ (j : Int) := by omega
  have hjc : (j : Int) ≤ (c : Int) := by omega
  have hjn : (j : Int) ≤ (n : Int) := by omega
  by_cases h0 : 0 < n
  · obtain ⟨bk, off, rfl⟩ := hadr h0
    clear hadr
    by_cases hci : c = i
    · have hji : j - i = 0 := by omega
      have HM : Hid (m = []) := HN.out hji
      have hij2 : j = i := by omega
      subst hij2 hci
      go_enter Tryz.func181, Tryz.ntmps181
      go_wp2_with fail
      refine (hP1 _ (Below.refl _ _)).mono ?_
      rintro e w1 ⟨rfl, hb1⟩
      clear hP1
      go_wp2_with fail
      refine (hP2 _ hb1).mono ?_
      rintro e w2 ⟨rfl, hb2⟩
      have hB2 := below_after_of hb1 hb2
      clear hP2 hb1 hb2
      go_wp2
      go_ret
      exact ⟨⟨_, _, by rw [Nat.sub_self]; rfl, Or.inl ⟨HM.out, _, _, by rw [Nat.sub_self]⟩, fun _ _ _ h => by cases h; exact ⟨by omega, fun h => by cases h⟩⟩, hB2⟩
    · have HPX := HPT.out bk off (c - i) rfl h0
      have HPX : Hid (Prs w (.slice (some ⟨bk, off + i * 2, none⟩) (j - i) (c - i)) m) := HPX
      clear HPT
      go_enter Tryz.func181, Tryz.ntmps181
      go_wp2_with fail
      refine (hP1 _ (Below.refl _ _)).mono ?_
      rintro e w1 ⟨rfl, hb1⟩
      clear hP1
      go_wp2_with fail
      refine (hP2 _ hb1).mono ?_
      rintro e w2 ⟨rfl, hb2⟩
      have hB2 := below_after_of hb1 hb2
      clear hP2 hb1 hb2
      go_wp2
      go_ret
      exact ⟨⟨_, _, rfl, HPX.out, fun _ _ _ h => by cases h; exact ⟨by omega, fun h => by cases h⟩⟩, hB2⟩
  · have hj0 : j = 0 := by omega
    have hi0 : i = 0 := by omega
    have hn0 : n = 0 := by omega
    subst hj0 hi0 hn0
    have HM : Hid (m = []) := HN.out rfl
    clear hadr HPT HN HV
    rcases ad with _ | ad
    · have hc0 := HNC.out rfl
      subst hc0
      clear HNC
      go_enter Tryz.func181, Tryz.ntmps181
      go_wp2_with fail
      refine (hP1 _ (Below.refl _ _)).mono ?_
      rintro e w1 ⟨rfl, hb1⟩
      clear hP1
      go_wp2_with fail
      refine (hP2 _ hb1).mono ?_
      rintro e w2 ⟨rfl, hb2⟩
      have hB2 := below_after_of hb1 hb2
      clear hP2 hb1 hb2
      go_wp2
      go_ret
      exact ⟨⟨_, _, rfl, Or.inl ⟨HM.out, _, _, rfl⟩, fun _ _ _ h => by cases h; exact ⟨by omega, fun _ => rfl⟩⟩, hB2⟩
    · go_enter Tryz.func181, Tryz.ntmps181
      go_wp2_with fail
      refine (hP1 _ (Below.refl _ _)).mono ?_
      rintro e w1 ⟨rfl, hb1⟩
      clear hP1
      go_wp2_with fail
      refine (hP2 _ hb1).mono ?_
      rintro e w2 ⟨rfl, hb2⟩
      have hB2 := below_after_of hb1 hb2
      clear hP2 hb1 hb2
      go_wp2
      go_ret
      exact ⟨⟨_, _, rfl, Or.inl ⟨HM.out, _, _, rfl⟩, fun _ _ _ h => by cases h; exact ⟨by omega, fun h => by cases h⟩⟩, hB2⟩
/-- The code and the slots that are cut out. -/
def cutB (a b : Int) : Bool := inB a 0 256 && inB b a 256
def csC (l : Prl) (a b : Int) : Int := if slF l = 0 then (if cutB a b = true then 0 else 3) else slF l
def csL (l : Prl) (a b : Int) : Prl := if slF l = 0 ∧ cutB a b = true then cut l a b else []
theorem csL_len (l : Prl) (a b : Int) : (csL l a b).length ≤ l.length := by
  unfold csL
  split
  · exact cut_len _ _ _
  · simp
theorem pair_cells {w : World} {g : Nat} {x y : Value} {t : TypeId} : w.heap[g]? = some (.cells #[x, y] t) → w.cell? ⟨g, 0, none⟩ = some x ∧ w.cell? ⟨g, 1, none⟩ = some y ∧ w.frozen? ⟨g, 0, none⟩ = false ∧ w.frozen? ⟨g, 1, none⟩ = false := two_cellsV
theorem prs_news {w : World} {ad : Addr} {m c : Nat} {l : Prl} (h : Prs w (.slice (some ad) m c) l) : ∀ j u, ((fl l).map (Value.int .i64))[j]? = some u → w.cell? (ad.add j) = some u := by
  intro j u hu
  have hj : j < l.length * 2 := by
    have := (List.getElem?_eq_some_iff.1 hu).1
    rwa [List.length_map, fl_len] at this
  obtain ⟨_, b, off, e, hb, hc⟩ := h.at (by omega)
  cases e
  have h1 := hc (j / 2) (by omega)
  have h2 := fl_at l (j / 2) (by omega)
  rw [List.getElem?_map] at hu
  rw [Go.WideShapes.add_plain]
  rcases (by omega : j = j / 2 * 2 ∨ j = j / 2 * 2 + 1) with e | e
  · rw [e, h2.1] at hu
    rw [show off + j = off + j / 2 * 2 by omega, h1.1]
    exact hu
  · rw [e, h2.2] at hu
    rw [show off + j = off + j / 2 * 2 + 1 by omega, h1.2]
    exact hu
set_option maxRecDepth 100000 in
set_option maxHeartbeats 2000000 in
theorem implCutSlots_any (v : Value) (l : Prl) (a b : Int) (w : World) (hv : Prs w v l) (hcap : Okv v) (hx : l.length ≤ 1099511627776) :
    Calls Tryz.prog 199 #[v, .int .i64 a, .int .i64 b] w fun e w' => SlotsAns w (csC l a b) (csL l a b) e w' := by
  have hF := fun w' h => implSlotsFault_any v l w' (hv.below h) hx
  unfold csC csL
  by_cases h0 : slF l = 0
  · have hs := slF_ok h0
    rw [if_pos h0]
    rw [h0] at hF
    by_cases hc : cutB a b = true
    · rw [if_pos hc, if_pos ⟨h0, hc⟩]
      have hcb := hc
      unfold cutB at hcb
      rw [Bool.and_eq_true] at hcb
      have ha := inB_bd hcb.1
      have hb := inB_bd hcb.2
      have hP := fun w' h => slotsBetween_any v l a b w' (hv.below h) hcap hs.len hs.ris hb.1
      have hcl := cut_len l a b
      have hln := hs.len
      have hlm : (cut l a b).length ≤ 12 := by omega
      obtain ⟨i0, hi, hz0, hz1, hz2⟩ := info_parts Tryz.infoSl
      obtain ⟨ad, c, rfl⟩ := hv.shape
      have i1 : ¬ a < 0 := by omega
      have i2 : ¬ 256 < a := by omega
      have i3 : ¬ b < a := by omega
      have i4 : ¬ 256 < b := by omega
      generalize cut l a b = m at *
      generalize l.length = n at *
      clear hv h0 hs hc hcb hcap
      go_enter Tryz.func199, Tryz.ntmps199
      go_wp2_with fail
      refine (hF _ (one_new _)).mono ?_
      rintro e w1 ⟨rfl, hb1⟩
      clear hF
      go_wp2_with fail
      refine (hP _ (below_after hb1)).mono ?_
      rintro e w2 ⟨⟨ad2, c2, rfl, hp2, hc2⟩, hb2⟩
      have hp2 := hp2.below hb2
      have hb2' := below_after_of hb1 hb2
      have hB2 := below_after hb2'
      obtain ⟨g0, g1, f0, f1⟩ := two_cellsV ((hb2'.block w.heap.size (by simp)).trans (heap_alloc_new w _))
      have hz2 : w.heap.size < w2.heap.size := by have := hb2'.size; simp at this; omega
      have hok := hc2 _ _ _ rfl
      clear hP hb1 hb2 hc2
      rcases ad2 with _ | ad2
      · have hc0 : c2 = 0 := hok.2 rfl
        subst hc0
        have hm0 : m.length = 0 := by have := hok.1; omega
        rw [hm0]
        have HM : Hid (m = []) := List.eq_nil_of_length_eq_zero hm0
        clear hok hp2 hm0 hb2'
        go_wp2_with (at_builtin; refine wpList_append_own_none rfl _ _ 95 rfl w2.heap.size 45 i0 2 Tryz.underlying95 hi (.slice none 0 0) 0 [] rfl (World.ownsRow_nil _ _ _ _) rfl ?_)
        go_wp2
        refine bodyPost_ret (v := .agg #[.int .i64 0, .slice none 0 0]) (by simp [results, Tryz.results199, go_sem, *]) rfl ⟨(hB2.setCell (by simp) _).setCell (by simp) _, _, rfl, ?_⟩
        rw [HM.out]
        exact World.ownsRow_nil _ _ _ _
      · have hnw := prs_news hp2
        go_wp2_with (at_builtin; refine wpList_append_own _ rfl _ _ 95 rfl w2.heap.size 45 i0 (.agg #[.int .i64 0, .int .i64 0]) 2 16 Tryz.underlying95 hi hz0 hz1 (by assumption) rfl (by decide) (.slice none 0 0) 0 [] rfl (World.ownsRow_nil _ _ _ _) ad2 m.length c2 ((fl m).map (Value.int .i64)) rfl (by rw [List.length_map, fl_len]) hnw (ints_oneCell .i64 (fl m)) (by unfold maxLen; omega) (by omega) (Nat.le_refl _) ?_)
        intro v3 w3 hown hgrow _
        have hown : w3.ownsRow w2.heap.size 45 2 v3 m.length ((fl m).map (Value.int .i64)) := by simpa using hown
        obtain ⟨a3, c3, rfl⟩ := own_shape2 hown
        have hb3 : Below w2.heap.size w2 w3 := (Below.refl _ _).grown hgrow (Nat.le_refl _) (fun k hk => by cases hk)
        have hB3 := below_after_of hB2 hb3
        obtain ⟨g0, g1, f0, f1⟩ := two_cellsV (((hb3.block w.heap.size (by omega)).trans (hb2'.block w.heap.size (by simp))).trans (heap_alloc_new w _))
        have HO : Hid (w3.ownsRow w2.heap.size 45 2 (.slice a3 m.length c3) m.length ((fl m).map (Value.int .i64))) := hown
        clear hgrow hown hb3 hb2' hp2 hnw hok
        go_wp2
        refine bodyPost_ret (v := .agg #[.int .i64 0, .slice a3 m.length c3]) (by simp [results, Tryz.results199, go_sem, *]) rfl ⟨(hB3.setCell (by simp) _).setCell (by simp) _, _, rfl, ?_⟩
        exact own_mono (ownsRow_setCell_below (ownsRow_setCell_below HO.out (by simpa using hz2) _) (by simpa using hz2) _) (Nat.le_of_lt hz2)
    · rw [if_neg hc, if_neg (fun h => hc h.2)]
      obtain ⟨ad, c, rfl⟩ := hv.shape
      have hcb : a < 0 ∨ 256 < a ∨ b < a ∨ 256 < b := by
        have h1 : cutB a b = false := by simpa using hc
        unfold cutB at h1
        rw [Bool.and_eq_false_iff] at h1
        rcases h1 with h1 | h1
        · rcases inB_nb h1 with h | h
          · exact Or.inl h
          · exact Or.inr (Or.inl h)
        · rcases inB_nb h1 with h | h
          · exact Or.inr (Or.inr (Or.inl h))
          · exact Or.inr (Or.inr (Or.inr h))
      have hg : decide (a < 0) = true ∨ decide (a < 0) = false ∧ (decide (256 < a) = true ∨ decide (256 < a) = false ∧ (decide (b < a) = true ∨ decide (b < a) = false ∧ decide (256 < b) = true)) := by
        simp only [decide_eq_true_eq, decide_eq_false_iff_not]
        omega
      generalize l.length = n at *
      clear hv h0 hs hc hcap hcb
      go_enter Tryz.func199, Tryz.ntmps199
      go_wp2_with fail
      refine (hF _ (one_new _)).mono ?_
      rintro e w1 ⟨rfl, hb1⟩
      have hB1 := below_after hb1
      obtain ⟨g0, g1, f0, f1⟩ := two_cellsV ((hb1.block w.heap.size (by simp)).trans (heap_alloc_new w _))
      clear hF hb1
      rcases hg with hg | ⟨hg, hg2 | ⟨hg2, hg3 | ⟨hg3, hg4⟩⟩⟩
      all_goals (
        try have i1 := of_decide_eq_true hg
        try have i1 := of_decide_eq_false hg
        try have i2 := of_decide_eq_true hg2
        try have i2 := of_decide_eq_false hg2
        try have i3 := of_decide_eq_true hg3
        try have i3 := of_decide_eq_false hg3
        try have i4 := of_decide_eq_true hg4
        go_wp2
        exact bodyPost_ret (v := .agg #[.int .i64 3, .slice none 0 0]) (by simp [results, Tryz.results199, go_sem, *]) rfl ⟨(hB1.setCell (by simp) _).setCell (by simp) _, _, rfl, World.ownsRow_nil _ _ _ _⟩)
  · rw [if_neg h0, if_neg (fun h => h0 h.1)]
    obtain ⟨ad, c, rfl⟩ := hv.shape
    generalize slF l = f at *
    generalize l.length = n at *
    have hfn : (f != 0) = true := by simpa using h0
    clear hv h0 hcap
    go_enter Tryz.func199, Tryz.ntmps199
    go_wp2_with fail
    refine (hF _ (one_new _)).mono ?_
    rintro e w1 ⟨rfl, hb1⟩
    obtain ⟨g0, g1, f0, f1⟩ := two_cellsV ((hb1.block w.heap.size (by simp)).trans (heap_alloc_new w _))
    have hB1 := below_after hb1
    clear hF hb1
    go_wp2
    exact bodyPost_ret (v := .agg #[.int .i64 f, .slice none 0 0]) (by simp [results, Tryz.results199, go_sem, *]) rfl ⟨(hB1.setCell (by simp) _).setCell (by simp) _, _, rfl, World.ownsRow_nil _ _ _ _⟩
end U
end Go.Proofs.YtihhigmceeabmaaGreat
