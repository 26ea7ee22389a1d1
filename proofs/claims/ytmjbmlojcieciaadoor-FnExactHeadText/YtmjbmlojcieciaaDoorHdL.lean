/- Heads as the laws look at them: copied, compared. -/
import Derived.Test.YtmjbmlojcieciaaDoorHd3
import Derived.Test.YtmjbmlojcieciaaDoorEqR
namespace Go.Proofs.YtmjbmlojcieciaaDoor
open Go.RowKit
namespace U
set_option maxRecDepth 100000 in
set_option maxHeartbeats 1000000 in
theorem toHead_any (e p o n v : Int) (w : World) :
    Calls Tryd.prog 12 #[hdV e p o n v] w fun x w' => x = .returned (hdV e p o n v) ∧ Below w.heap.size w w' := by
  unfold hdV
  go_enter Tryd.func12, Tryd.ntmps12
  go_wp2
  refine bodyPost_ret (v := hdV e p o n v) (by simp [results, Tryd.results12, go_sem, hdV]) rfl ⟨rfl, ?_⟩
  exact (two_new _ _).alloc (by simp; omega) _
end U
end Go.Proofs.YtmjbmlojcieciaaDoor
