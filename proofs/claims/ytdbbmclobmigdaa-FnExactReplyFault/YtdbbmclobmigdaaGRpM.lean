/- Replies: their cells, their fault, as mathematics. -/
import Derived.Test.YtdbbmclobmigdaaGRB
import Derived.Test.YtdbbmclobmigdaaGHd1
import Derived.Test.YtdbbmclobmigdaaGRA
import Derived.Test.YtdbbmclobmigdaaGHeM
namespace Go.Proofs.Ytdbbmclobmigdaa
open Go.RowKit
namespace U
/-- A reply as the model holds it; in a box. -/
def rpV (e : Int) (hl : Bool) (l : ByteArray) (v o p : Int) (so st : Bool) (sv : Int) (sp : Value) (sx : Bool) (sk sy : Int) (sf : Value) : Value := .agg #[.int .i64 e, .bool hl, .string l, .int .i64 v, .int .i64 o, .int .i64 p, .bool so, .bool st, .int .i64 sv, sp, .bool sx, .int .i64 sk, .int .i64 sy, sf]
structure RpB (w : World) (g : Nat) (e : Int) (hl : Bool) (l : ByteArray) (v o p : Int) (so st : Bool) (sv : Int) (sp : Value) (sx : Bool) (sk sy : Int) (sf : Value) : Prop where
  h : w.heap[g]? = some (.cells #[.int .i64 e, .bool hl, .string l, .int .i64 v, .int .i64 o, .int .i64 p, .bool so, .bool st, .int .i64 sv, sp, .bool sx, .int .i64 sk, .int .i64 sy, sf] 44)
theorem RpB.below {w w' : World} {g : Nat} {e : Int} {hl : Bool} {l : ByteArray} {v o p : Int} {so st : Bool} {sv : Int} {sp : Value} {sx : Bool} {sk sy : Int} {sf : Value} (h : RpB w g e hl l v o p so st sv sp sx sk sy sf) (hb : Below w.heap.size w w') : RpB w' g e hl l v o p so st sv sp sx sk sy sf := ⟨(hb.block g (Array.getElem?_eq_some_iff.1 h.h).1).trans h.h⟩
theorem RpB.lt {w : World} {g : Nat} {e : Int} {hl : Bool} {l : ByteArray} {v o p : Int} {so st : Bool} {sv : Int} {sp : Value} {sx : Bool} {sk sy : Int} {sf : Value} (h : RpB w g e hl l v o p so st sv sp sx sk sy sf) : g < w.heap.size := (Array.getElem?_eq_some_iff.1 h.h).1
theorem RpB.cells {w : World} {g : Nat} {e : Int} {hl : Bool} {l : ByteArray} {v o p : Int} {so st : Bool} {sv : Int} {sp : Value} {sx : Bool} {sk sy : Int} {sf : Value} (h : RpB w g e hl l v o p so st sv sp sx sk sy sf) : w.cell? ⟨g, 0, none⟩ = some (.int .i64 e) ∧ w.cell? ⟨g, 1, none⟩ = some (.bool hl) ∧ w.cell? ⟨g, 2, none⟩ = some (.string l) ∧ w.cell? ⟨g, 3, none⟩ = some (.int .i64 v) ∧ w.cell? ⟨g, 4, none⟩ = some (.int .i64 o) ∧ w.cell? ⟨g, 5, none⟩ = some (.int .i64 p) ∧ w.cell? ⟨g, 6, none⟩ = some (.bool so) ∧ w.cell? ⟨g, 7, none⟩ = some (.bool st) ∧ w.cell? ⟨g, 8, none⟩ = some (.int .i64 sv) ∧ w.cell? ⟨g, 9, none⟩ = some (sp) ∧ w.cell? ⟨g, 10, none⟩ = some (.bool sx) ∧ w.cell? ⟨g, 11, none⟩ = some (.int .i64 sk) ∧ w.cell? ⟨g, 12, none⟩ = some (.int .i64 sy) ∧ w.cell? ⟨g, 13, none⟩ = some (sf) := by
  have hh := h.h
  simp [World.cell?, hh]
theorem RpB.new (w : World) (e : Int) (hl : Bool) (l : ByteArray) (v o p : Int) (so st : Bool) (sv : Int) (sp : Value) (sx : Bool) (sk sy : Int) (sf : Value) : RpB (w.alloc (.cells #[.int .i64 e, .bool hl, .string l, .int .i64 v, .int .i64 o, .int .i64 p, .bool so, .bool st, .int .i64 sv, sp, .bool sx, .int .i64 sk, .int .i64 sy, sf] 44)) w.heap.size e hl l v o p so st sv sp sx sk sy sf := ⟨heap_alloc_new w _⟩
theorem RpB.rc {w : World} {g : Nat} {e : Int} {hl : Bool} {l : ByteArray} {v o p : Int} {so st : Bool} {sv : Int} {sp : Value} {sx : Bool} {sk sy : Int} {sf : Value} (h : RpB w g e hl l v o p so st sv sp sx sk sy sf) : RecS w g 2 ⟨l, v, o, p⟩ := by
  obtain ⟨-, -, c2, c3, c4, c5, -⟩ := h.cells
  exact ⟨c2, c3, c4, c5⟩
theorem RpB.rt {w : World} {g : Nat} {e : Int} {hl : Bool} {l : ByteArray} {v o p : Int} {so st : Bool} {sv : Int} {sp : Value} {sx : Bool} {sk sy : Int} {sf : Value} (h : RpB w g e hl l v o p so st sv sp sx sk sy sf) : RecT w g 2 l v o p := by
  obtain ⟨-, -, c2, c3, c4, c5, -⟩ := h.cells
  exact ⟨c2, c3, c4, c5⟩
theorem RpB.sd {w : World} {g : Nat} {e : Int} {hl : Bool} {l : ByteArray} {v o p : Int} {so st : Bool} {sv : Int} {sp : Value} {sx : Bool} {sk sy : Int} {sf : Value} (h : RpB w g e hl l v o p so st sv sp sx sk sy sf) : SdO w g 6 so st sv sp sx sk sy sf := by
  obtain ⟨-, -, -, -, -, -, c6, c7, c8, c9, c10, c11, c12, c13⟩ := h.cells
  exact ⟨c6, c7, c8, c9, c10, c11, c12, c13⟩
/-- The fault of what is held; of that and of what is said; of a reply. -/
def rpQ (hl : Bool) (l : ByteArray) (v o p : Int) (sc : Int) : Int := if heC hl l v o p = 0 then sc else heC hl l v o p
def fiC (hl st : Bool) (sv rs : Int) : Int := if hl = true then (if st = true then (if sv = rs then 0 else 1) else 1) else (if st = true then 1 else 0)
def rpC (e : Int) (hl : Bool) (l : ByteArray) (v o p : Int) (st : Bool) (sv : Int) (sc : Int) : Int := if inB e 1 10 = true then (if rpQ hl l v o p sc = 0 then fiC hl st sv (sumL (packL l v o p)) else rpQ hl l v o p sc) else 3
theorem rpC_out {e : Int} {hl : Bool} {l : ByteArray} {v o p : Int} {st : Bool} {sv sc : Int} (h : inB e 1 10 = false) : rpC e hl l v o p st sv sc = 3 := by unfold rpC; rw [h]; rfl
theorem rpC_bad {e : Int} {hl : Bool} {l : ByteArray} {v o p : Int} {st : Bool} {sv sc : Int} (h : inB e 1 10 = true) (h1 : ¬ rpQ hl l v o p sc = 0) : rpC e hl l v o p st sv sc = rpQ hl l v o p sc := by unfold rpC; rw [if_pos h, if_neg h1]
theorem rpC_fin {e : Int} {hl : Bool} {l : ByteArray} {v o p : Int} {st : Bool} {sv sc : Int} (h : inB e 1 10 = true) (h1 : rpQ hl l v o p sc = 0) : rpC e hl l v o p st sv sc = fiC hl st sv (sumL (packL l v o p)) := by unfold rpC; rw [if_pos h, if_pos h1]
end U
end Go.Proofs.Ytdbbmclobmigdaa
