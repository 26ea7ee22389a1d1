/- The fault of a trail, as the model finds it. -/
import Derived.Test.YtcdodpcdennemaaNpA
import Derived.Test.YtcdodpcdennemaaSl1
import Derived.Test.YtcdodpcdennemaaQuiet
namespace Go.Proofs.Ytcdodpcdennemaa
open Go.RowKit
namespace U
/-- The value of a trail. -/
def tlV (x : Bool) (k y : Int) (sv : Value) : Value := .agg #[.bool x, .int .i64 k, .int .i64 y, sv]
/-- A block that holds a trail. -/
def TlBlk (w : World) (p : Nat) (x : Bool) (k y : Int) (sv : Value) : Prop := w.heap[p]? = some (.cells #[.bool x, .int .i64 k, .int .i64 y, sv] 91)
theorem TlBlk.cells {w : World} {p : Nat} {x : Bool} {k y : Int} {sv : Value} (h : TlBlk w p x k y sv) : w.cell? ⟨p, 0, none⟩ = some (.bool x) ∧ w.cell? ⟨p, 1, none⟩ = some (.int .i64 k) ∧ w.cell? ⟨p, 2, none⟩ = some (.int .i64 y) ∧ w.cell? ⟨p, 3, none⟩ = some sv := by
  unfold TlBlk at h
  refine ⟨?_, ?_, ?_, ?_⟩
  · unfold World.cell?; rw [h]; rfl
  · unfold World.cell?; rw [h]; rfl
  · unfold World.cell?; rw [h]; rfl
  · unfold World.cell?; rw [h]; rfl
theorem TlBlk.lt {w : World} {p : Nat} {x : Bool} {k y : Int} {sv : Value} (h : TlBlk w p x k y sv) : p < w.heap.size := (Array.getElem?_eq_some_iff.1 h).1
theorem TlBlk.below {w w' : World} {p : Nat} {x : Bool} {k y : Int} {sv : Value} (h : TlBlk w p x k y sv) (hb : Below w.heap.size w w') : TlBlk w' p x k y sv := (hb.block p h.lt).trans h
theorem tl_box (w : World) (x : Bool) (k y : Int) (sv : Value) : TlBlk (w.alloc (.cells #[.bool x, .int .i64 k, .int .i64 y, sv] 91)) w.heap.size x k y sv := heap_alloc_new w _
end U
end Go.Proofs.Ytcdodpcdennemaa
