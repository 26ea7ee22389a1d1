/- Answers as the laws hold them: their size, turned into the program's. -/
import Derived.Test.YtmjbmlojcieciaaDoorAx1
import Derived.Test.YtmjbmlojcieciaaDoorRecL
namespace Go.Proofs.YtmjbmlojcieciaaDoor
open Go.RowKit
namespace U
set_option maxRecDepth 100000 in
set_option maxHeartbeats 1000000 in
theorem szAnswer_any (k : Int) (t : Bool) (l : ByteArray) (v o p : Int) (w : World) (hs : l.size ≤ maxLen) :
    Calls Tryd.prog 15 #[axV k t l v o p, .int .i64 1048576] w fun e w' => e = .returned (.int .i64 (if l.size ≤ 1048576 then (1048576 - l.size : Int) else -1)) ∧ Below w.heap.size w w' := by
  have hZ := fun w => szRecord_any l v o p w hs
  have ⟨c0, c1, c2, c3, c4, c5⟩ := AxB.new w k t l v o p 41
  unfold axV recV at *
  by_cases h1 : l.size ≤ 1048576
  · rw [if_pos h1] at hZ ⊢
    have h2 : ¬ ((1048576 - l.size : Int) < 0) := by omega
    generalize (1048576 - l.size : Int) = z at *
    go_enter Tryd.func15, Tryd.ntmps15
    go_wp2_with fail
    refine (hZ _).mono ?_
    rintro e w1 ⟨rfl, hb1⟩
    clear c0 c1 c2 c3 c4 c5 hZ
    go_wp2
    go_ret
    exact ⟨rfl, below_after hb1⟩
  · rw [if_neg h1] at hZ ⊢
    go_enter Tryd.func15, Tryd.ntmps15
    go_wp2_with fail
    refine (hZ _).mono ?_
    rintro e w1 ⟨rfl, hb1⟩
    clear c0 c1 c2 c3 c4 c5 hZ
    go_wp2
    go_ret
    exact ⟨rfl, below_after hb1⟩
theorem six_cellsA {w : World} {g : Nat} {v0 v1 v2 v3 v4 v5 : Value} {t : TypeId} (h : w.heap[g]? = some (.cells #[v0, v1, v2, v3, v4, v5] t (0, 0))) :
    (w.cell? ⟨g, 0, none⟩ = some v0 ∧ w.cell? ⟨g, 1, none⟩ = some v1 ∧ w.cell? ⟨g, 2, none⟩ = some v2 ∧ w.cell? ⟨g, 3, none⟩ = some v3 ∧ w.cell? ⟨g, 4, none⟩ = some v4 ∧ w.cell? ⟨g, 5, none⟩ = some v5) ∧
    (w.frozen? ⟨g, 0, none⟩ = false ∧ w.frozen? ⟨g, 1, none⟩ = false ∧ w.frozen? ⟨g, 2, none⟩ = false ∧ w.frozen? ⟨g, 3, none⟩ = false ∧ w.frozen? ⟨g, 4, none⟩ = false ∧ w.frozen? ⟨g, 5, none⟩ = false) := by
  simp [World.cell?, World.frozen?, h]
set_option maxRecDepth 100000 in
set_option maxHeartbeats 4000000 in
theorem toAnswer_any (k : Int) (t : Bool) (l : ByteArray) (v o p : Int) (w : World) :
    Calls Tryd.prog 17 #[axV k t l v o p] w fun e w' => e = .returned (axV k t l v o p) ∧ Below w.heap.size w w' := by
  have hT := fun w => toRecord_any l v o p w
  have ⟨c0, c1, c2, c3, c4, c5⟩ := AxB.new w k t l v o p 41
  unfold axV recV at *
  go_enter Tryd.func17, Tryd.ntmps17
  go_wp2_with fail
  refine (hT _).mono ?_
  rintro e w1 ⟨rfl, hb1⟩
  have hR : w1.heap[w.heap.size + 1]? = some (.cells #[.int .i64 0, .bool false, .string ⟨#[]⟩, .int .i64 0, .int .i64 0, .int .i64 0] 46 (0, 0)) := (hb1.block (w.heap.size + 1) (by simp)).trans (by
    have h1 := heap_alloc_new (w.alloc (.cells #[.int .i64 k, .bool t, .string l, .int .i64 v, .int .i64 o, .int .i64 p] 41)) (.cells #[.int .i64 0, .bool false, .string ⟨#[]⟩, .int .i64 0, .int .i64 0, .int .i64 0] 46)
    rw [World.size_alloc] at h1
    exact ((one_new _).block (w.heap.size + 1) (by simp)).trans h1)
  have hX : w1.heap[w.heap.size + 1 + 1]? = some (.cells #[.int .i64 k, .bool t, .string ⟨#[]⟩, .int .i64 0, .int .i64 0, .int .i64 0] 46 (0, 0)) := (hb1.block (w.heap.size + 1 + 1) (by simp)).trans (by
    have h1 := heap_alloc_new ((w.alloc (.cells #[.int .i64 k, .bool t, .string l, .int .i64 v, .int .i64 o, .int .i64 p] 41)).alloc (.cells #[.int .i64 0, .bool false, .string ⟨#[]⟩, .int .i64 0, .int .i64 0, .int .i64 0] 46)) (.cells #[.int .i64 k, .bool t, .string ⟨#[]⟩, .int .i64 0, .int .i64 0, .int .i64 0] 46)
    rw [World.size_alloc, World.size_alloc] at h1
    exact h1)
  obtain ⟨⟨g0, g1, g2, g3, g4, g5⟩, ⟨y0, y1, y2, y3, y4, y5⟩⟩ := six_cellsA hR
  obtain ⟨⟨x0, x1, x2, x3, x4, x5⟩, ⟨z0, z1, z2, z3, z4, z5⟩⟩ := six_cellsA hX
  have hB1 : Below w.heap.size w w1 := below_after (below_after (below_after hb1))
  have hne : w.heap.size + 1 ≠ w.heap.size + 1 + 1 := by omega
  clear c0 c1 c2 c3 c4 c5 hT hb1 hR hX
  have f1 : ∀ {W : World} {j : Nat} {u : Value}, Below w.heap.size w W → Below w.heap.size w (W.setCell ⟨w.heap.size + 1, j, none⟩ u) := fun h => h.setCell (Nat.le_succ _) _
  have f2 : ∀ {W : World} {j : Nat} {u : Value}, Below w.heap.size w W → Below w.heap.size w (W.setCell ⟨w.heap.size + 1 + 1, j, none⟩ u) := fun h => h.setCell (by show w.heap.size ≤ w.heap.size + 1 + 1; omega) _
  go_wp2
  exact bodyPost_ret (v := .agg #[.int .i64 k, .bool t, .string l, .int .i64 v, .int .i64 o, .int .i64 p]) (by simp [results, Tryd.results17, go_sem, *]) rfl ⟨rfl, f1 (f1 (f1 (f1 (f1 (f1 (f2 (f2 (f2 (f2 hB1)))))))))⟩
end U
end Go.Proofs.YtmjbmlojcieciaaDoor
