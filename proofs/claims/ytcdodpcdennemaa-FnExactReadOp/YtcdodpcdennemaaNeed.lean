/- What is no record is a panic. -/
import Derived.Test.YtcdodpcdennemaaLow
import Derived.WalkLawsBesides
namespace Go.Proofs.Ytcdodpcdennemaa
open Go.RowKit
namespace U
/-- The panic of what is no record. -/
def noRec : List PanicEntry := [{ v := .iface 9 (.string ⟨#[110, 111, 32, 114, 101, 99, 111, 114, 100]⟩), recovered := false }]
set_option maxHeartbeats 400000 in
theorem needRecord_t (w : World) : Calls Try.prog 173 #[.bool true] w fun e w' => e = .returned (.tuple #[]) ∧ w' = w := by
  go_enter Try.func173, Try.ntmps173
  go_wp2
  first | (go_end0; exact ⟨rfl, rfl⟩) | (refine bodyPost_ret (results_none rfl _ _ _) rfl ?_; exact ⟨rfl, rfl⟩) | trace_state
set_option maxHeartbeats 400000 in
theorem needRecord_f (w : World) : Calls Try.prog 173 #[.bool false] w fun e w' => e = .panicked noRec ∧ w' = w := by
  go_enter Try.func173, Try.ntmps173
  go_wp2
  first | exact ⟨rfl, rfl⟩ | exact ⟨rfl, rfl, rfl⟩ | trace_state
end U
end Go.Proofs.Ytcdodpcdennemaa
