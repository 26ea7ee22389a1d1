/- PackRecord and RecordSum: what both models answer. -/
import Derived.Test.YtmjbmlojcieciaaDoorRec2
namespace Go.Proofs.YtmjbmlojcieciaaDoor
open Go.RowKit
namespace U
theorem code_ne {c : Int} (h : ¬ c = 0) : (c != 0) = true := by simpa using h
theorem own_set2 {w w' : World} {v : Value} {n : Nat} {xs : List Value} (h : w'.ownsRow (w.heap.size + 2) 5 1 v n xs) (x y : Value) : ((w'.setCell ⟨w.heap.size + 1, 0, none⟩ x).setCell ⟨w.heap.size + 1, 1, none⟩ y).ownsRow w.heap.size 5 1 v n xs :=
  own_mono (ownsRow_setCell_below (ownsRow_setCell_below h (by simp) _) (by simp) _) (by omega)
end U
end Go.Proofs.YtmjbmlojcieciaaDoor
