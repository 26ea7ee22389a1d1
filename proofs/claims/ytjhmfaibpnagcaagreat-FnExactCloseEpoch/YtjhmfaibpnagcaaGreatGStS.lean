/- States in memory: how they read. -/
import Derived.Test.YtjhmfaibpnagcaaGreatGStM0
namespace Go.Proofs.YtjhmfaibpnagcaaGreat
open Go.RowKit
namespace U
/-- A slice value reads as a list of directories. -/
def Dss (w : World) (v : Value) (p : Pst) : Prop :=
  (p = [] ∧ ∃ a c, v = .slice a 0 c) ∨ ∃ b off c, v = .slice (some ⟨b, off, none⟩) p.length c ∧ b < w.heap.size ∧ ∀ j, j < p.length → ∃ u, w.cell? ⟨b, off + j, none⟩ = some u ∧ Rcs w u (dAt p j)
theorem Dss.below {w w' : World} {v : Value} {p : Pst} (h : Dss w v p) (hb : Below w.heap.size w w') : Dss w' v p := by
  rcases h with h | ⟨b, off, c, rfl, hlt, hc⟩
  · exact Or.inl h
  · refine Or.inr ⟨b, off, c, rfl, Nat.lt_of_lt_of_le hlt hb.size, fun j hj => ?_⟩
    obtain ⟨u, h1, h2⟩ := hc j hj
    exact ⟨u, (hb.cell (p := ⟨b, off + j, none⟩) hlt).trans h1, h2.below hb⟩
theorem Dss.shape {w : World} {v : Value} {p : Pst} (h : Dss w v p) : ∃ a c, v = .slice a p.length c := by
  rcases h with ⟨rfl, a, c, rfl⟩ | ⟨b, off, c, rfl, _⟩
  · exact ⟨a, c, rfl⟩
  · exact ⟨_, c, rfl⟩
theorem Dss.at {w : World} {a : Option Addr} {n c : Nat} {p : Pst} (h : Dss w (.slice a n c) p) (h0 : 0 < p.length) : n = p.length ∧ ∃ b off, a = some ⟨b, off, none⟩ ∧ b < w.heap.size ∧ ∀ j, j < p.length → ∃ u, w.cell? ⟨b, off + j, none⟩ = some u ∧ Rcs w u (dAt p j) := by
  rcases h with ⟨rfl, _⟩ | ⟨b, off, c', e, h1, h2⟩
  · simp at h0
  · cases e
    exact ⟨rfl, b, off, rfl, h1, h2⟩
theorem Dss.nil (w : World) (a : Option Addr) (c : Nat) : Dss w (.slice a 0 c) [] := Or.inl ⟨rfl, a, c, rfl⟩
/-- The values of a state's lists. -/
structure Sv where
  d : Value
  n : Value
  h : Value
  p : Value
/-- They read as a state. -/
structure Sts (w : World) (v : Sv) (s : St) : Prop where
  d : Rcs w v.d s.d
  n : Prs w v.n s.n
  h : Hds w v.h s.h
  p : Dss w v.p s.p
theorem Sts.below {w w' : World} {v : Sv} {s : St} (h : Sts w v s) (hb : Below w.heap.size w w') : Sts w' v s := ⟨h.d.below hb, h.n.below hb, h.h.below hb, h.p.below hb⟩
/-- A state's value, its cells. -/
def stV (s : St) (v : Sv) : Value := .agg #[.int .i64 s.ph, .int .i64 s.cu, v.d, v.n, v.h, v.p]
def srV (c : Int) (s : St) (v : Sv) : Value := .agg #[.int .i64 c, .int .i64 s.ph, .int .i64 s.cu, v.d, v.n, v.h, v.p]
def stC (s : St) (v : Sv) (t : TypeId) : Obj := .cells #[.int .i64 s.ph, .int .i64 s.cu, v.d, v.n, v.h, v.p] t
structure StC (w : World) (b : Nat) (s : St) (v : Sv) : Prop where
  lt : b < w.heap.size
  c0 : w.cell? ⟨b, 0, none⟩ = some (.int .i64 s.ph)
  c1 : w.cell? ⟨b, 1, none⟩ = some (.int .i64 s.cu)
  c2 : w.cell? ⟨b, 2, none⟩ = some v.d
  c3 : w.cell? ⟨b, 3, none⟩ = some v.n
  c4 : w.cell? ⟨b, 4, none⟩ = some v.h
  c5 : w.cell? ⟨b, 5, none⟩ = some v.p
theorem StC.below {w w' : World} {b N : Nat} {s : St} {v : Sv} (h : StC w b s v) (hb : Below N w w') (hlt : b < N) : StC w' b s v :=
  ⟨Nat.lt_of_lt_of_le h.lt hb.size, (hb.cell (p := ⟨b, 0, none⟩) hlt).trans h.c0, (hb.cell (p := ⟨b, 1, none⟩) hlt).trans h.c1, (hb.cell (p := ⟨b, 2, none⟩) hlt).trans h.c2, (hb.cell (p := ⟨b, 3, none⟩) hlt).trans h.c3, (hb.cell (p := ⟨b, 4, none⟩) hlt).trans h.c4, (hb.cell (p := ⟨b, 5, none⟩) hlt).trans h.c5⟩
theorem StC.of {w : World} {b : Nat} {s : St} {v : Sv} {t : TypeId} (h : w.heap[b]? = some (stC s v t)) : StC w b s v := by
  refine ⟨(Array.getElem?_eq_some_iff.1 h).1, ?_, ?_, ?_, ?_, ?_, ?_⟩ <;> (unfold World.cell?; rw [h]; rfl)
theorem StC.new (w : World) (s : St) (v : Sv) (t : TypeId) : StC (w.alloc (stC s v t)) w.heap.size s v := StC.of (heap_alloc_new w _)
/-- How many records the first directories have. -/
def tot (p : Pst) : Nat → Nat
  | 0 => 0
  | k + 1 => tot p k + (dAt p k).length
/-- Bounds of a state that a law goes into. -/
structure StB (s : St) : Prop where
  d : s.d.length ≤ 1048576
  dl : Lbs s.d
  n : s.n.length ≤ 1048576
  h : s.h.length ≤ 1048576
  p : s.p.length ≤ 1048576
  pd : ∀ j, j < s.p.length → (dAt s.p j).length ≤ 1048576 ∧ Lbs (dAt s.p j)
  t : ∀ j, j ≤ s.p.length → tot s.p j ≤ 1048576
/-- Bounds of a state that is an argument. -/
structure StA (s : St) : Prop where
  d : s.d.length ≤ maxLen
  dl : LbM s.d
  n : s.n.length ≤ maxLen
  h : s.h.length ≤ maxLen
  p : s.p.length ≤ maxLen
  pd : ∀ j, j < s.p.length → (dAt s.p j).length ≤ maxLen ∧ LbM (dAt s.p j)
end U
end Go.Proofs.YtjhmfaibpnagcaaGreat
