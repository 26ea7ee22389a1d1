/- Two answers that are one are found the same. -/
import Derived.Test.YtblmafpckkggnaaDoorIntR
namespace Go.Proofs.YtblmafpckkggnaaDoor
open Go.RowKit
namespace U
set_option maxHeartbeats 1000000 in
theorem eqIntResult_same (c d : Int) (w : World) :
    Calls Tryd.prog 25 #[.agg #[.int .i64 c, .int .i64 d], .agg #[.int .i64 c, .int .i64 d]] w fun e w' => e = .returned (.bool true) ∧ Below w.heap.size w w' := by
  go_enter Tryd.func25, Tryd.ntmps25
  go_wp2
  go_ret
  exact ⟨rfl, two_new _ _⟩
set_option maxHeartbeats 1000000 in
theorem eqTextResult_same (c : Int) (t : ByteArray) (w : World) :
    Calls Tryd.prog 22 #[.agg #[.int .i64 c, .string t], .agg #[.int .i64 c, .string t]] w fun e w' => e = .returned (.bool true) ∧ Below w.heap.size w w' := by
  go_enter Tryd.func22, Tryd.ntmps22
  go_wp2
  go_ret
  exact ⟨rfl, two_new _ _⟩
set_option maxHeartbeats 1000000 in
theorem eqRuneResult_same (c d f : Int) (w : World) :
    Calls Tryd.prog 20 #[.agg #[.int .i64 c, .int .i64 d, .int .i64 f], .agg #[.int .i64 c, .int .i64 d, .int .i64 f]] w fun e w' => e = .returned (.bool true) ∧ Below w.heap.size w w' := by
  go_enter Tryd.func20, Tryd.ntmps20
  go_wp2
  go_ret
  exact ⟨rfl, two_new _ _⟩
end U
end Go.Proofs.YtblmafpckkggnaaDoor
