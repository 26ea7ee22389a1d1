/- Two answers that are one are found the same. -/
import Derived.Test.YtmjbmlojcieciaaDoorIntR
namespace Go.Proofs.YtmjbmlojcieciaaDoor
open Go.RowKit
namespace U
set_option maxRecDepth 100000 in
set_option maxHeartbeats 1000000 in
theorem eqTextResult_same (c : Int) (t : ByteArray) (w : World) :
    Calls Tryd.prog 14 #[.agg #[.int .i64 c, .string t], .agg #[.int .i64 c, .string t]] w fun e w' => e = .returned (.bool true) ∧ Below w.heap.size w w' := by
  go_enter Tryd.func14, Tryd.ntmps14
  go_wp2
  go_ret
  exact ⟨rfl, two_new _ _⟩
end U
end Go.Proofs.YtmjbmlojcieciaaDoor
