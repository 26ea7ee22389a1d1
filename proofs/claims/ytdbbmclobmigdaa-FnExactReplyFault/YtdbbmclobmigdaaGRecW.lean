/- Records in blocks that may be written: where they come from, and how they stay. -/
import Derived.Test.YtdbbmclobmigdaaGRB
namespace Go.Proofs.Ytdbbmclobmigdaa
open Go.RowKit
namespace U
/-- A record that lies in a block that may be written. -/
structure RecOwn (w : World) (g : Nat) (l : ByteArray) (v o p : Int) : Prop extends RecAt w g l v o p where
  f0 : w.frozen? ⟨g, 0, none⟩ = false
  f1 : w.frozen? ⟨g, 1, none⟩ = false
  f2 : w.frozen? ⟨g, 2, none⟩ = false
  f3 : w.frozen? ⟨g, 3, none⟩ = false
/-- A region ends as it should, in this frame and a world that is such. -/
def EndsAt (A : Act) (F : World → Prop) (e : Exit) (a : Act) (w : World) : Prop := e = .normal ∧ a = A ∧ F w
theorem ro_of_heap {W : World} {g : Nat} {l : ByteArray} {v o p : Int} {t : TypeId} (h : W.heap[g]? = some (.cells #[.string l, .int .i64 v, .int .i64 o, .int .i64 p] t (0, 0))) : RecOwn W g l v o p := by
  obtain ⟨a, b, c, d, e, f, g', i⟩ := blk4 h
  exact ⟨⟨a, b, c, d⟩, e, f, g', i⟩
theorem RecOwn.belowB {B : Nat} {W W' : World} {g : Nat} {l : ByteArray} {v o p : Int} (h : RecOwn W g l v o p) (hb : Below B W W') (hg : g < B) : RecOwn W' g l v o p :=
  ⟨⟨(hb.cell (p := ⟨g, 0, none⟩) hg).trans h.c0, (hb.cell (p := ⟨g, 1, none⟩) hg).trans h.c1, (hb.cell (p := ⟨g, 2, none⟩) hg).trans h.c2, (hb.cell (p := ⟨g, 3, none⟩) hg).trans h.c3⟩,
   (hb.frozen (p := ⟨g, 0, none⟩) hg).trans h.f0, (hb.frozen (p := ⟨g, 1, none⟩) hg).trans h.f1, (hb.frozen (p := ⟨g, 2, none⟩) hg).trans h.f2, (hb.frozen (p := ⟨g, 3, none⟩) hg).trans h.f3⟩
theorem ro_set {W : World} {g : Nat} {l l' : ByteArray} {v o p v' o' p' : Int} (h : RecOwn W g l' v' o' p') :
    RecOwn ((((W.setCell ⟨g, 0, none⟩ (.string l)).setCell ⟨g, 1, none⟩ (.int .i64 v)).setCell ⟨g, 2, none⟩ (.int .i64 o)).setCell ⟨g, 3, none⟩ (.int .i64 p)) g l v o p := by
  obtain ⟨⟨a, b, c, d⟩, e, f, g', i⟩ := h
  have n01 : (⟨g, 0, none⟩ : Addr) ≠ ⟨g, 1, none⟩ := by simp
  have n02 : (⟨g, 0, none⟩ : Addr) ≠ ⟨g, 2, none⟩ := by simp
  have n03 : (⟨g, 0, none⟩ : Addr) ≠ ⟨g, 3, none⟩ := by simp
  have n12 : (⟨g, 1, none⟩ : Addr) ≠ ⟨g, 2, none⟩ := by simp
  have n13 : (⟨g, 1, none⟩ : Addr) ≠ ⟨g, 3, none⟩ := by simp
  have n23 : (⟨g, 2, none⟩ : Addr) ≠ ⟨g, 3, none⟩ := by simp
  refine ⟨⟨?_, ?_, ?_, ?_⟩, ?_, ?_, ?_, ?_⟩
  · rw [World.cell?_setCell_other _ _ _ _ n03.symm, World.cell?_setCell_other _ _ _ _ n02.symm, World.cell?_setCell_other _ _ _ _ n01.symm]; exact World.cell?_setCell_same _ _ _ a
  · rw [World.cell?_setCell_other _ _ _ _ n13.symm, World.cell?_setCell_other _ _ _ _ n12.symm]; exact World.cell?_setCell_same _ _ _ (by rw [World.cell?_setCell_other _ _ _ _ n01]; exact b)
  · rw [World.cell?_setCell_other _ _ _ _ n23.symm]; exact World.cell?_setCell_same _ _ _ (by rw [World.cell?_setCell_other _ _ _ _ n12, World.cell?_setCell_other _ _ _ _ n02]; exact c)
  · exact World.cell?_setCell_same _ _ _ (by rw [World.cell?_setCell_other _ _ _ _ n23, World.cell?_setCell_other _ _ _ _ n13, World.cell?_setCell_other _ _ _ _ n03]; exact d)
  · simp [e]
  · simp [f]
  · simp [g']
  · simp [i]
/-- A result that lies in five cells that may be written. -/
structure ResOwn (w : World) (g : Nat) (c : Int) (l : ByteArray) (v o p : Int) : Prop where
  c0 : w.cell? ⟨g, 0, none⟩ = some (.int .i64 c)
  c1 : w.cell? ⟨g, 1, none⟩ = some (.string l)
  c2 : w.cell? ⟨g, 2, none⟩ = some (.int .i64 v)
  c3 : w.cell? ⟨g, 3, none⟩ = some (.int .i64 o)
  c4 : w.cell? ⟨g, 4, none⟩ = some (.int .i64 p)
  f0 : w.frozen? ⟨g, 0, none⟩ = false
  f1 : w.frozen? ⟨g, 1, none⟩ = false
  f2 : w.frozen? ⟨g, 2, none⟩ = false
  f3 : w.frozen? ⟨g, 3, none⟩ = false
  f4 : w.frozen? ⟨g, 4, none⟩ = false
theorem res_of_heap {W : World} {g : Nat} {c : Int} {l : ByteArray} {v o p : Int} {t : TypeId} (h : W.heap[g]? = some (.cells #[.int .i64 c, .string l, .int .i64 v, .int .i64 o, .int .i64 p] t (0, 0))) : ResOwn W g c l v o p := by
  constructor <;> simp [World.cell?, World.frozen?, h]
theorem ResOwn.belowB {B : Nat} {W W' : World} {g : Nat} {c : Int} {l : ByteArray} {v o p : Int} (h : ResOwn W g c l v o p) (hb : Below B W W') (hg : g < B) : ResOwn W' g c l v o p :=
  ⟨(hb.cell (p := ⟨g, 0, none⟩) hg).trans h.c0, (hb.cell (p := ⟨g, 1, none⟩) hg).trans h.c1, (hb.cell (p := ⟨g, 2, none⟩) hg).trans h.c2, (hb.cell (p := ⟨g, 3, none⟩) hg).trans h.c3, (hb.cell (p := ⟨g, 4, none⟩) hg).trans h.c4,
   (hb.frozen (p := ⟨g, 0, none⟩) hg).trans h.f0, (hb.frozen (p := ⟨g, 1, none⟩) hg).trans h.f1, (hb.frozen (p := ⟨g, 2, none⟩) hg).trans h.f2, (hb.frozen (p := ⟨g, 3, none⟩) hg).trans h.f3, (hb.frozen (p := ⟨g, 4, none⟩) hg).trans h.f4⟩
/-- A record beside its code, as the model holds it. -/
def resV (c : Int) (l : ByteArray) (v o p : Int) : Value := .agg #[.int .i64 c, .string l, .int .i64 v, .int .i64 o, .int .i64 p]
end U
end Go.Proofs.Ytdbbmclobmigdaa
