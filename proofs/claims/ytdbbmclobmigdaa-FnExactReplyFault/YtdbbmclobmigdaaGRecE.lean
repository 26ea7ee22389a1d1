/- Results that hold a record, held against one another. -/
import Derived.Test.YtdbbmclobmigdaaGRecW
import Derived.Test.YtdbbmclobmigdaaGRA
namespace Go.Proofs.Ytdbbmclobmigdaa
open Go.RowKit
namespace U
set_option maxRecDepth 100000 in
set_option maxHeartbeats 1000000 in
theorem eqRecord_same (l : ByteArray) (v o p : Int) (w : World) :
    Calls Try.prog 19 #[recV l v o p, recV l v o p] w fun e w' => e = .returned (.bool true) ∧ Below w.heap.size w w' := by
  have h1 : (l.toList == l.toList) = true := by simp
  unfold recV
  go_enter Try.func19, Try.ntmps19
  go_wp2
  go_ret
  exact ⟨rfl, two_new _ _⟩
/-- A result that lies in five cells of a block. -/
structure ResAt (w : World) (g : Nat) (c : Int) (l : ByteArray) (v o p : Int) : Prop where
  lt : g < w.heap.size
  c0 : w.cell? ⟨g, 0, none⟩ = some (.int .i64 c)
  c1 : w.cell? ⟨g, 1, none⟩ = some (.string l)
  c2 : w.cell? ⟨g, 2, none⟩ = some (.int .i64 v)
  c3 : w.cell? ⟨g, 3, none⟩ = some (.int .i64 o)
  c4 : w.cell? ⟨g, 4, none⟩ = some (.int .i64 p)
theorem ResAt.new (w : World) (c : Int) (l : ByteArray) (v o p : Int) (t : TypeId) : ResAt (w.alloc (.cells #[.int .i64 c, .string l, .int .i64 v, .int .i64 o, .int .i64 p] t)) w.heap.size c l v o p := by
  have h := res_of_heap (heap_alloc_new w (.cells #[.int .i64 c, .string l, .int .i64 v, .int .i64 o, .int .i64 p] t))
  exact ⟨by simp, h.c0, h.c1, h.c2, h.c3, h.c4⟩
theorem ResAt.below {w w' : World} {g : Nat} {c : Int} {l : ByteArray} {v o p : Int} (h : ResAt w g c l v o p) (hb : Below w.heap.size w w') : ResAt w' g c l v o p :=
  ⟨Nat.lt_of_lt_of_le h.lt hb.size, (hb.cell (p := ⟨g, 0, none⟩) h.lt).trans h.c0, (hb.cell (p := ⟨g, 1, none⟩) h.lt).trans h.c1, (hb.cell (p := ⟨g, 2, none⟩) h.lt).trans h.c2, (hb.cell (p := ⟨g, 3, none⟩) h.lt).trans h.c3, (hb.cell (p := ⟨g, 4, none⟩) h.lt).trans h.c4⟩
end U
end Go.Proofs.Ytdbbmclobmigdaa
