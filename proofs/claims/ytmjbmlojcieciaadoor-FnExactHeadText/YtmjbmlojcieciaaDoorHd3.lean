/- The bytes and the sum of a head, phases that may follow: as both models tell them. -/
import Derived.Test.YtmjbmlojcieciaaDoorHd2
import Derived.Test.YtmjbmlojcieciaaDoorRec4
namespace Go.Proofs.YtmjbmlojcieciaaDoor
open Go.RowKit
namespace U
theorem lit5_ints (w : World) (x0 x1 x2 x3 x4 : Int) (t : TypeId) : Ints .i64 (w.alloc (.cells #[.int .i64 x0, .int .i64 x1, .int .i64 x2, .int .i64 x3, .int .i64 x4] t)) (.slice (some ⟨w.heap.size, 0, none⟩) 5 5) [x0, x1, x2, x3, x4] := by
  refine Or.inr ⟨w.heap.size, 0, 5, rfl, by simp, fun j hj => ?_⟩
  have hh := heap_alloc_new w (.cells #[.int .i64 x0, .int .i64 x1, .int .i64 x2, .int .i64 x3, .int .i64 x4] t)
  simp only [List.length_cons, List.length_nil] at hj
  rcases (show j = 0 ∨ j = 1 ∨ j = 2 ∨ j = 3 ∨ j = 4 by omega) with rfl | rfl | rfl | rfl | rfl <;> (unfold World.cell?; rw [hh]; rfl)
theorem heap_at2 {w w' : World} {o o' : Obj} (hb : Below ((w.alloc o).alloc o').heap.size ((w.alloc o).alloc o') w') : w'.heap[w.heap.size]? = some o ∧ w'.heap[w.heap.size + 1]? = some o' :=
  ⟨(hb.block w.heap.size (by simp; omega)).trans (heap_alloc_old' _ _ _ (heap_alloc_new w _)), (hb.block (w.heap.size + 1) (by simp)).trans (heap_new2 w _ _)⟩
theorem HdS.of {w : World} {b : Nat} {e p o n v : Int} {t : TypeId} (h : w.heap[b]? = some (.cells #[.int .i64 e, .int .i64 p, .int .i64 o, .int .i64 n, .int .i64 v] t (0, 0))) : HdS w b 0 ⟨e, p, o, n, v⟩ := by
  obtain ⟨h0, h1, h2, h3, h4⟩ := five_cells h
  exact ⟨h0, h1, h2, h3, h4⟩
theorem own_set1 {w w' : World} {v : Value} {n : Nat} {xs : List Value} (h : w'.ownsRow (w.heap.size + 2) 5 1 v n xs) (x y : Value) : ((w'.setCell ⟨w.heap.size + 1, 0, none⟩ x).setCell ⟨w.heap.size + 1, 1, none⟩ y).ownsRow w.heap.size 5 1 v n xs := own_set2 h x y
end U
end Go.Proofs.YtmjbmlojcieciaaDoor
