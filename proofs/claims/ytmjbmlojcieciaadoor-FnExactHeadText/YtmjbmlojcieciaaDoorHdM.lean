/- Heads: what both models answer, as mathematics. -/
import Derived.Test.YtmjbmlojcieciaaDoorTag2
namespace Go.Proofs.YtmjbmlojcieciaaDoor
open Go.RowKit
namespace U
/-- A head: epoch, phase, old root, new root, what is ahead. -/
structure Hd where
  e : Int
  p : Int
  o : Int
  n : Int
  v : Int
abbrev Hdl := List Hd
def hdZ : Hd := ⟨0, 0, 0, 0, 0⟩
def hAt (l : Hdl) (j : Nat) : Hd := l.getD j hdZ
theorem hAt_eq {l : Hdl} {j : Nat} (h : j < l.length) : hAt l j = l[j] := by simp [hAt, List.getD_eq_getElem?_getD, List.getElem?_eq_getElem h]
/-- Epoch, phase and what is ahead are right. -/
def hdN (e p v : Int) : Bool := inB e 1 10 && (inB p 1 5 && sumB v)
/-- A phase has an old root, has a new root. -/
def hasO (p : Int) : Bool := p != 4
def hasN (p : Int) : Bool := p == 3 || p == 4
def hdR (e p o n v : Int) : Bool := hdN e p v && (sumB o && sumB n)
def hdF (p o n : Int) : Bool := (hasO p || o == 0) && (hasN p || n == 0)
/-- The fault of a head. -/
def hdC (e p o n v : Int) : Int := if hdR e p o n v = true then (if hdF p o n = true then 0 else 1) else 3
theorem hdC_range {e p o n v : Int} (h : hdR e p o n v = false) : hdC e p o n v = 3 := by unfold hdC; rw [h]; rfl
theorem hdC_form {e p o n v : Int} (h : hdR e p o n v = true) (h1 : hdF p o n = false) : hdC e p o n v = 1 := by unfold hdC; rw [h, h1]; rfl
theorem hdC_ok {e p o n v : Int} (h : hdR e p o n v = true) (h1 : hdF p o n = true) : hdC e p o n v = 0 := by unfold hdC; rw [h, h1]; rfl
theorem hdC_codes (e p o n v : Int) : hdC e p o n v = 0 ∨ hdC e p o n v = 1 ∨ hdC e p o n v = 3 := by
  unfold hdC
  split
  · split <;> simp
  · simp
/-- What a head without fault is. -/
structure HdOk (e p o n v : Int) : Prop where
  e0 : 1 ≤ e
  e1 : e ≤ 10
  p0 : 1 ≤ p
  p1 : p ≤ 5
  o0 : 0 ≤ o
  o1 : o ≤ 65520
  n0 : 0 ≤ n
  n1 : n ≤ 65520
  v0 : 0 ≤ v
  v1 : v ≤ 65520
  f : hdF p o n = true
theorem hdOk {e p o n v : Int} (h : hdC e p o n v = 0) : HdOk e p o n v := by
  unfold hdC at h
  by_cases h1 : hdR e p o n v = true
  · rw [if_pos h1] at h
    by_cases h2 : hdF p o n = true
    · unfold hdR hdN at h1
      simp only [Bool.and_eq_true] at h1
      obtain ⟨⟨a, b, c⟩, d, f⟩ := h1
      have a := inB_bd a
      have b := inB_bd b
      have c := (sumB_iff v).1 c
      have d := (sumB_iff o).1 d
      have f := (sumB_iff n).1 f
      exact ⟨a.1, a.2, b.1, b.2, d.1, d.2, f.1, f.2, c.1, c.2, h2⟩
    · rw [if_neg h2] at h; omega
  · rw [if_neg h1] at h; omega
theorem HdOk.c {e p o n v : Int} (h : HdOk e p o n v) : hdC e p o n v = 0 := by
  refine hdC_ok ?_ h.f
  unfold hdR hdN
  rw [inB_t h.e0 h.e1, inB_t h.p0 h.p1, (sumB_iff v).2 ⟨h.v0, h.v1⟩, (sumB_iff o).2 ⟨h.o0, h.o1⟩, (sumB_iff n).2 ⟨h.n0, h.n1⟩]
  rfl
theorem HdOk.sums {e p o n v : Int} (h : HdOk e p o n v) : [e, p, o, n, v].all sumB = true := by
  have := h.e0; have := h.e1; have := h.p0; have := h.p1
  have h0 : sumB e = true := (sumB_iff e).2 ⟨by omega, by omega⟩
  have h1 : sumB p = true := (sumB_iff p).2 ⟨by omega, by omega⟩
  have h2 : sumB o = true := (sumB_iff o).2 ⟨h.o0, h.o1⟩
  have h3 : sumB n = true := (sumB_iff n).2 ⟨h.n0, h.n1⟩
  have h4 : sumB v = true := (sumB_iff v).2 ⟨h.v0, h.v1⟩
  simp [h0, h1, h2, h3, h4]
/-- The bytes of a head. -/
def hdB (e p o n v : Int) : List Int := tagL 7 [e, p, o, n, v]
theorem hdB_len (e p o n v : Int) : (hdB e p o n v).length = 11 := by unfold hdB; rw [tagL_len]; rfl
theorem HdOk.bts {e p o n v : Int} (h : HdOk e p o n v) : Bts (hdB e p o n v) := tagL_bts (by omega) h.sums
def hdL (e p o n v : Int) : List Int := if hdC e p o n v = 0 then hdB e p o n v else []
theorem hdL_ok {e p o n v : Int} (h : hdC e p o n v = 0) : hdL e p o n v = hdB e p o n v := if_pos h
theorem hdL_no {e p o n v : Int} (h : ¬ hdC e p o n v = 0) : hdL e p o n v = [] := if_neg h
theorem hdL_len (e p o n v : Int) : (hdL e p o n v).length ≤ 11 := by
  unfold hdL; split
  · rw [hdB_len]; omega
  · simp
theorem hdL_bts (e p o n v : Int) : Bts (hdL e p o n v) := by
  by_cases h : hdC e p o n v = 0
  · rw [hdL_ok h]; exact (hdOk h).bts
  · rw [hdL_no h]; intro b hb; simp at hb
/-- The sum of a head. -/
def hdS (e p o n v : Int) : Int := sumL (hdB e p o n v)
def hdSv (e p o n v : Int) : Int := if hdC e p o n v = 0 then hdS e p o n v else 0
theorem hdSv_ok {e p o n v : Int} (h : hdC e p o n v = 0) : hdSv e p o n v = hdS e p o n v := if_pos h
theorem hdSv_no {e p o n v : Int} (h : ¬ hdC e p o n v = 0) : hdSv e p o n v = 0 := if_neg h
/-- Phases that may follow. -/
def folB (a b : Int) : Bool := if a = 4 then b == 4 else (a == 1 || b != 1)
def mfB (a b : Int) : Bool := inB a 1 5 && (inB b 1 5 && folB a b)
def hdV (e p o n v : Int) : Value := .agg #[.int .i64 e, .int .i64 p, .int .i64 o, .int .i64 n, .int .i64 v]
def hrV (c e p o n v : Int) : Value := .agg #[.int .i64 c, .int .i64 e, .int .i64 p, .int .i64 o, .int .i64 n, .int .i64 v]
/-- A head in five cells. -/
structure HdS (w : World) (b off : Nat) (h : Hd) : Prop where
  c0 : w.cell? ⟨b, off, none⟩ = some (.int .i64 h.e)
  c1 : w.cell? ⟨b, off + 1, none⟩ = some (.int .i64 h.p)
  c2 : w.cell? ⟨b, off + 2, none⟩ = some (.int .i64 h.o)
  c3 : w.cell? ⟨b, off + 3, none⟩ = some (.int .i64 h.n)
  c4 : w.cell? ⟨b, off + 4, none⟩ = some (.int .i64 h.v)
theorem HdS.below {w w' : World} {b off N : Nat} {r : Hd} (h : HdS w b off r) (hb : Below N w w') (hlt : b < N) : HdS w' b off r :=
  ⟨(hb.cell (p := ⟨b, off, none⟩) hlt).trans h.c0, (hb.cell (p := ⟨b, off + 1, none⟩) hlt).trans h.c1, (hb.cell (p := ⟨b, off + 2, none⟩) hlt).trans h.c2, (hb.cell (p := ⟨b, off + 3, none⟩) hlt).trans h.c3, (hb.cell (p := ⟨b, off + 4, none⟩) hlt).trans h.c4⟩
theorem HdS.grown {w w' : World} {b off : Nat} {r : Hd} {row : Option Nat} (h : HdS w b off r) (hg : w.grownBy w' row) (hne : some b ≠ row) : HdS w' b off r :=
  ⟨hg.cell h.c0 hne, hg.cell h.c1 hne, hg.cell h.c2 hne, hg.cell h.c3 hne, hg.cell h.c4 hne⟩
theorem HdS.lt {w : World} {b off : Nat} {r : Hd} (h : HdS w b off r) : b < w.heap.size := by
  rcases hh : w.heap[b]? with _ | o
  · have := h.c0; simp [World.cell?, hh] at this
  · exact (Array.getElem?_eq_some_iff.1 hh).1
theorem HdS.new (w : World) (r : Hd) (t : TypeId) : HdS (w.alloc (.cells #[.int .i64 r.e, .int .i64 r.p, .int .i64 r.o, .int .i64 r.n, .int .i64 r.v] t)) w.heap.size 0 r := by
  have hh := heap_alloc_new w (.cells #[.int .i64 r.e, .int .i64 r.p, .int .i64 r.o, .int .i64 r.n, .int .i64 r.v] t)
  constructor <;> (unfold World.cell?; rw [hh]; rfl)
end U
end Go.Proofs.YtmjbmlojcieciaaDoor
