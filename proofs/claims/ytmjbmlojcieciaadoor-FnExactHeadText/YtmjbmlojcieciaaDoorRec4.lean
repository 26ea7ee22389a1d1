/- RecordSum: what both models answer. -/
import Derived.Test.YtmjbmlojcieciaaDoorRec3
namespace Go.Proofs.YtmjbmlojcieciaaDoor
open Go.RowKit
namespace U
def rsV (l : ByteArray) (v o p : Int) : Int := if recC l v o p = 0 then sumL (packL l v o p) else 0
theorem rs_ok {l : ByteArray} {v o p : Int} (h : recC l v o p = 0) : rsV l v o p = sumL (packL l v o p) := by unfold rsV; rw [if_pos h]
theorem rs_no {l : ByteArray} {v o p : Int} (h : ¬ recC l v o p = 0) : rsV l v o p = 0 := by unfold rsV; rw [if_neg h]
end U
end Go.Proofs.YtmjbmlojcieciaaDoor
