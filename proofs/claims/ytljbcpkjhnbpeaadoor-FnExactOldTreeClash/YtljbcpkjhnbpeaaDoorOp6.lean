/- ClimbOld, by the program. -/
import Derived.Test.YtljbcpkjhnbpeaaDoorOp5
namespace Go.Proofs.YtljbcpkjhnbpeaaDoor
open Go.RowKit
namespace U
theorem arr_cx (x s : Int) (p : List Int) : ∃ r0 i0 r1 i1 r2 i2 r3 i3 r4 i4 r5 i5 r6 i6 r7 i7, arrV (nds x s p 8) = #[.complex .f64 r0 i0, .complex .f64 r1 i1, .complex .f64 r2 i2, .complex .f64 r3 i3, .complex .f64 r4 i4, .complex .f64 r5 i5, .complex .f64 r6 i6, .complex .f64 r7 i7] := by
  exact ⟨_, _, _, _, _, _, _, _, _, _, _, _, _, _, _, _, rfl⟩
theorem cells8 {w : World} {b : Nat} {f : Nat → Value} {t : TypeId} (h : w.heap[b]? = some (.cells (arrV f) t)) : ArrV w b f := ArrV.of h
def acB (x : Int) (b : Bool) (v : Int) (p : List Int) (r : Int) : Bool := coC x b v p == 0 && coV x b v p == r
end U
end Go.Proofs.YtljbcpkjhnbpeaaDoor
