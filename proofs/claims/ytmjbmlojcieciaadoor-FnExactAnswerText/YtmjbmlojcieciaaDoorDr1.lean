/- Records in a row: how they read; the fault of a directory, by the program and by the model. -/
import Derived.Test.YtmjbmlojcieciaaDoorDrM
import Derived.Test.YtmjbmlojcieciaaDoorRec1
namespace Go.Proofs.YtmjbmlojcieciaaDoor
open Go.RowKit
namespace U
/-- A record in four cells. -/
structure RecS (w : World) (b off : Nat) (r : Rc) : Prop where
  c0 : w.cell? ⟨b, off, none⟩ = some (.string r.l)
  c1 : w.cell? ⟨b, off + 1, none⟩ = some (.int .i64 r.v)
  c2 : w.cell? ⟨b, off + 2, none⟩ = some (.int .i64 r.o)
  c3 : w.cell? ⟨b, off + 3, none⟩ = some (.int .i64 r.p)
theorem RecS.below {w w' : World} {b off N : Nat} {r : Rc} (h : RecS w b off r) (hb : Below N w w') (hlt : b < N) : RecS w' b off r :=
  ⟨(hb.cell (p := ⟨b, off, none⟩) hlt).trans h.c0, (hb.cell (p := ⟨b, off + 1, none⟩) hlt).trans h.c1, (hb.cell (p := ⟨b, off + 2, none⟩) hlt).trans h.c2, (hb.cell (p := ⟨b, off + 3, none⟩) hlt).trans h.c3⟩
theorem RecS.lt {w : World} {b off : Nat} {r : Rc} (h : RecS w b off r) : b < w.heap.size := by
  rcases hh : w.heap[b]? with _ | o
  · have := h.c0; simp [World.cell?, hh] at this
  · exact (Array.getElem?_eq_some_iff.1 hh).1
theorem RecS.new (w : World) (r : Rc) (t : TypeId) : RecS (w.alloc (.cells #[.string r.l, .int .i64 r.v, .int .i64 r.o, .int .i64 r.p] t)) w.heap.size 0 r := by
  have hh := heap_alloc_new w (.cells #[.string r.l, .int .i64 r.v, .int .i64 r.o, .int .i64 r.p] t)
  constructor <;> (unfold World.cell?; rw [hh]; rfl)
/-- A slice value reads as a list of records. -/
def Rcs (w : World) (v : Value) (l : Rcl) : Prop :=
  (l = [] ∧ ∃ a c, v = .slice a 0 c) ∨ ∃ b off c, v = .slice (some ⟨b, off, none⟩) l.length c ∧ b < w.heap.size ∧ ∀ j, j < l.length → RecS w b (off + j * 4) (rAt l j)
theorem Rcs.below {w w' : World} {v : Value} {l : Rcl} (h : Rcs w v l) (hb : Below w.heap.size w w') : Rcs w' v l := by
  rcases h with h | ⟨b, off, c, rfl, hlt, hc⟩
  · exact Or.inl h
  · exact Or.inr ⟨b, off, c, rfl, Nat.lt_of_lt_of_le hlt hb.size, fun j hj => (hc j hj).below hb hlt⟩
theorem Rcs.shape {w : World} {v : Value} {l : Rcl} (h : Rcs w v l) : ∃ a c, v = .slice a l.length c := by
  rcases h with ⟨rfl, a, c, rfl⟩ | ⟨b, off, c, rfl, _⟩
  · exact ⟨a, c, rfl⟩
  · exact ⟨_, c, rfl⟩
theorem Rcs.at {w : World} {a : Option Addr} {n c : Nat} {l : Rcl} (h : Rcs w (.slice a n c) l) (h0 : 0 < l.length) : n = l.length ∧ ∃ b off, a = some ⟨b, off, none⟩ ∧ b < w.heap.size ∧ ∀ j, j < l.length → RecS w b (off + j * 4) (rAt l j) := by
  rcases h with ⟨rfl, _⟩ | ⟨b, off, c', e, h1, h2⟩
  · simp at h0
  · cases e
    exact ⟨rfl, b, off, rfl, h1, h2⟩
theorem Rcs.nil (w : World) (a : Option Addr) (c : Nat) : Rcs w (.slice a 0 c) [] := Or.inl ⟨rfl, a, c, rfl⟩
/-- The cells of records. -/
def flR (l : Rcl) : List Value := l.flatMap fun r => [.string r.l, .int .i64 r.v, .int .i64 r.o, .int .i64 r.p]
theorem flR_len (l : Rcl) : (flR l).length = l.length * 4 := by
  unfold flR
  induction l with
  | nil => rfl
  | cons p t ih => rw [List.flatMap_cons, List.length_append, ih]; simp; omega
theorem flR_app (l m : Rcl) : flR (l ++ m) = flR l ++ flR m := by unfold flR; rw [List.flatMap_append]
theorem flR_at (l : Rcl) : ∀ (j : Nat), j < l.length → (flR l)[j * 4]? = some (.string (rAt l j).l) ∧ (flR l)[j * 4 + 1]? = some (.int .i64 (rAt l j).v) ∧ (flR l)[j * 4 + 2]? = some (.int .i64 (rAt l j).o) ∧ (flR l)[j * 4 + 3]? = some (.int .i64 (rAt l j).p) := by
  induction l with
  | nil => intro j h; simp at h
  | cons p t ih =>
    intro j h
    unfold flR
    rw [List.flatMap_cons]
    cases j with
    | zero => simp [rAt]
    | succ j =>
      have := ih j (by simpa using h)
      unfold flR at this
      rw [show (j + 1) * 4 = j * 4 + 1 + 1 + 1 + 1 by omega]
      simpa [rAt] using this
theorem own_rcs {w : World} {B : Nat} {e : TypeId} {v : Value} {l : Rcl} (h : w.ownsRow B e 4 v l.length (flR l)) : Rcs w v l := by
  have h0 := h
  rcases h.2 with ⟨rfl, hn⟩ | ⟨g, cap, cur, rfl, hB, hg, _⟩
  · left; exact ⟨List.eq_nil_of_length_eq_zero hn, none, 0, rfl⟩
  · right
    refine ⟨g, 0, cap, rfl, (Array.getElem?_eq_some_iff.1 hg).1, fun j hj => ?_⟩
    have := flR_at l j hj
    rw [Nat.zero_add]
    exact ⟨(h0.cellAt (j * 4) (by omega)).trans this.1, (h0.cellAt (j * 4 + 1) (by omega)).trans this.2.1, (h0.cellAt (j * 4 + 2) (by omega)).trans this.2.2.1, (h0.cellAt (j * 4 + 3) (by omega)).trans this.2.2.2⟩
theorem own_rcs' {w : World} {B n : Nat} {e : TypeId} {a : Option Addr} {c : Nat} {l : Rcl} (h : w.ownsRow B e 4 (.slice a n c) n (flR l)) : Rcs w (.slice a n c) l := by
  have h1 := h.1
  rw [flR_len] at h1
  have : n = l.length := by omega
  subst this
  exact own_rcs h
theorem four_cellsV {w : World} {g : Nat} {x y z u : Value} {t : TypeId} (h : w.heap[g]? = some (.cells #[x, y, z, u] t)) : w.cell? ⟨g, 0, none⟩ = some x ∧ w.cell? ⟨g, 1, none⟩ = some y ∧ w.cell? ⟨g, 2, none⟩ = some z ∧ w.cell? ⟨g, 3, none⟩ = some u := by
  refine ⟨?_, ?_, ?_, ?_⟩ <;> (unfold World.cell?; rw [h]; rfl)
/-- All labels are of a size. -/
def Lbs (l : Rcl) : Prop := ∀ r ∈ l, r.l.size ≤ 1048576
theorem Lbs.at {l : Rcl} (h : Lbs l) {j : Nat} (hj : j < l.length) : (rAt l j).l.size ≤ 1048576 := h _ (rAt_mem hj)
theorem DirOk.lbs {l : Rcl} (h : DirOk l) : Lbs l := fun r hr => by
  obtain ⟨j, hj, rfl⟩ := List.mem_iff_getElem.1 hr
  have := (h.recA hj).small
  rw [rAt_eq hj] at this
  omega
set_option maxRecDepth 100000 in
set_option maxHeartbeats 1000000 in
theorem recordKey_any (l : ByteArray) (v o p : Int) (w : World) (h : labelP l = 0) :
    Calls Tryd.prog 61 #[recV l v o p] w fun e w' => e = .returned (.int .i64 (keyI l)) ∧ Below w.heap.size w w' := by
  have hs := labelP_small h
  have hK := fun w => implKeyOf_any l w (by omega)
  rw [keyV_ok h, h] at hK
  have hf := field_IR1k
  unfold recV
  generalize keyI l = z at *
  clear h hs
  go_enter Tryd.func61, Tryd.ntmps61
  go_wp2_with fail
  refine (hK _).mono ?_
  rintro e w1 ⟨rfl, hb1⟩
  clear hK
  go_wp2
  go_ret
  exact ⟨rfl, below_after hb1⟩
end U
end Go.Proofs.YtmjbmlojcieciaaDoor
