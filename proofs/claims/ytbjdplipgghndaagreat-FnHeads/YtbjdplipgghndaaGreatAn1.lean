/- What is answered of a label, by the program. -/
import Derived.Test.YtbjdplipgghndaaGreatMp1
import Derived.Test.YtbjdplipgghndaaGreatCmpO
import Derived.Test.YtbjdplipgghndaaGreatQuiet
namespace Go.Proofs.YtbjdplipgghndaaGreat
open Go.RowKit Go.Maps
namespace U
/-- The record of a key. -/
def lkO (l : Rcl) (key : Int) : Option Rc := if atI l key = -1 then none else some (rAt l (atI l key).toNat)
theorem lkO_map {l : Rcl} (h : DirOk l) (x : Int) : mapTo l l.length x = lkO l x := by
  rcases mapTo_all h x with ⟨h1, h2⟩ | ⟨j, -, h1, h2, -⟩
  · rw [h2, lkO, if_pos h1]
  · rw [h2, lkO, h1, if_neg (by omega), Int.toNat_natCast]
theorem lkO_key {l : Rcl} {x : Int} {r : Rc} (h : lkO l x = some r) : r.k = x ∧ r ∈ l := by
  unfold lkO at h
  rcases atI_cases l x with ⟨h1, -⟩ | ⟨j, h1, h2, h3⟩
  · rw [if_pos h1] at h; cases h
  · rw [h3, if_neg (by omega), Int.toNat_natCast] at h
    cases h
    exact ⟨h2, rAt_mem h1⟩
/-- .. where it has the label. -/
def fO (o : Option Rc) (t : ByteArray) : Option Rc := o.bind fun r => if (r.l.toList == t.toList) = true then some r else none
theorem fO_yes {r : Rc} {t : ByteArray} (h : (r.l.toList == t.toList) = true) : fO (some r) t = some r := by
  show (if (r.l.toList == t.toList) = true then some r else none) = some r
  rw [if_pos h]
theorem fO_no {r : Rc} {t : ByteArray} (h : (r.l.toList == t.toList) = false) : fO (some r) t = none := by
  show (if (r.l.toList == t.toList) = true then some r else none) = none
  rw [if_neg (by rw [h]; decide)]
def anC (l : Rcl) (s : ByteArray) : Int := if dirF l = 0 then labelP s else dirF l
def anO (l : Rcl) (s : ByteArray) : Option Rc := if anC l s = 0 then fO (lkO l (keyI s)) (foldS s) else none
def anK (l : Rcl) (s : ByteArray) : Int := if anC l s = 0 then keyI s else 0
/-- An answer as a value. -/
def ansV (c k : Int) (o : Option Rc) : Value := .agg #[.int .i64 c, .int .i64 k, .bool o.isSome, .string (o.getD rcZ).l, .int .i64 (o.getD rcZ).v, .int .i64 (o.getD rcZ).o, .int .i64 (o.getD rcZ).p]
theorem seven_cells {w : World} {g : Nat} {x0 x1 x2 x3 x4 x5 x6 : Value} {t : TypeId} (h : w.heap[g]? = some (.cells #[x0, x1, x2, x3, x4, x5, x6] t)) :
    w.cell? ⟨g, 0, none⟩ = some x0 ∧ w.cell? ⟨g, 1, none⟩ = some x1 ∧ w.cell? ⟨g, 2, none⟩ = some x2 ∧ w.cell? ⟨g, 3, none⟩ = some x3 ∧ w.cell? ⟨g, 4, none⟩ = some x4 ∧ w.cell? ⟨g, 5, none⟩ = some x5 ∧ w.cell? ⟨g, 6, none⟩ = some x6 ∧
    w.frozen? ⟨g, 0, none⟩ = false ∧ w.frozen? ⟨g, 1, none⟩ = false ∧ w.frozen? ⟨g, 2, none⟩ = false ∧ w.frozen? ⟨g, 3, none⟩ = false ∧ w.frozen? ⟨g, 4, none⟩ = false ∧ w.frozen? ⟨g, 5, none⟩ = false ∧ w.frozen? ⟨g, 6, none⟩ = false := by
  simp [World.cell?, World.frozen?, h]
theorem set7 {B : Nat} {w w' : World} {g : Nat} (h : Below B w w') (hg : B ≤ g) (a b c d e f k : Value) : Below B w (((((((w'.setCell ⟨g, 0, none⟩ a).setCell ⟨g, 1, none⟩ b).setCell ⟨g, 2, none⟩ c).setCell ⟨g, 3, none⟩ d).setCell ⟨g, 4, none⟩ e).setCell ⟨g, 5, none⟩ f).setCell ⟨g, 6, none⟩ k) :=
  (((((((h.setCell hg _).setCell hg _).setCell hg _).setCell hg _).setCell hg _).setCell hg _).setCell hg _)
theorem two_ints_at2 {w : World} {g : Nat} {a b : Int} {t : TypeId} (hg : g = w.heap.size) : Ints .i64 (w.alloc (.cells #[.int .i64 a, .int .i64 b] t)) (.slice (some ⟨g, 0, none⟩) 2 2) [a, b] := by
  subst hg
  have hh := heap_alloc_new w (.cells #[.int .i64 a, .int .i64 b] t)
  refine Or.inr ⟨w.heap.size, 0, 2, rfl, by simp, fun j hj => ?_⟩
  have hj2 : j < 2 := hj
  rcases (by omega : j = 0 ∨ j = 1) with rfl | rfl <;> (unfold World.cell?; rw [hh]; rfl)
theorem fldTX (x : Int) (s : ByteArray) (w : World) : (Instr.field 208 (.agg #[.int .i64 x, .string s]) 1).run Tryz.prog w = .ok (.string s) w := by kernel_rfl
theorem box1_cellA {w : World} {b : Nat} {v : Value} {t : TypeId} (h : w.heap[b]? = some (.cells #[v] t (0, 0))) : w.cell? ⟨b, 0, none⟩ = some v := by unfold World.cell?; rw [h]; rfl
end U
end Go.Proofs.YtbjdplipgghndaaGreat
