/- What is no record is a panic. -/
import Derived.Test.YtffoogkojncooaaGreatDoorLow
import Derived.WalkLawsBesides
namespace Go.Proofs.YtffoogkojncooaaGreatDoor
open Go.RowKit
namespace U
/-- The panic of what is no record. -/
def noRec : List PanicEntry := [{ v := .iface 9 (.string ⟨#[110, 111, 32, 114, 101, 99, 111, 114, 100]⟩), recovered := false }]
set_option maxHeartbeats 400000 in
theorem needRecord_t (w : World) : Calls Tryz.prog 45 #[.bool true] w fun e w' => e = .returned (.tuple #[]) ∧ w' = w := by
  go_enter Tryz.func45, Tryz.ntmps45
  go_wp2
  first | (go_end0; exact ⟨rfl, rfl⟩) | (refine bodyPost_ret (results_none rfl _ _ _) rfl ?_; exact ⟨rfl, rfl⟩) | trace_state
set_option maxHeartbeats 400000 in
theorem needRecord_f (w : World) : Calls Tryz.prog 45 #[.bool false] w fun e w' => e = .panicked noRec ∧ w' = w := by
  go_enter Tryz.func45, Tryz.ntmps45
  go_wp2
  first | exact ⟨rfl, rfl⟩ | exact ⟨rfl, rfl, rfl⟩ | trace_state
end U
end Go.Proofs.YtffoogkojncooaaGreatDoor
