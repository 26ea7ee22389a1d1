/- The law on MayFollow, walked: true, and nothing that was there has turned. -/
import Derived.Test.YtpelafkjnmcdgaaHdL
namespace Go.Proofs.Ytpelafkjnmcdgaa
open Go.RowKit
namespace U
set_option maxRecDepth 100000 in
set_option maxHeartbeats 1000000 in
theorem fnExactMayFollow_walk (a b : Int) (w : World) :
    Calls Try.prog 9 #[.int .i64 a, .int .i64 b] w fun e w' => e = .returned (.bool true) ∧ Below w.heap.size w w' := by
  have hS := fun w => specMayFollow_any a b w
  have hI := fun w => implMayFollow_any a b w
  generalize mfB a b = q at *
  have hq : (q != q) = false := by simp
  go_enter Try.func9, Try.ntmps9
  go_wp2_with fail
  refine (hS _).mono ?_
  rintro x w1 ⟨rfl, rfl⟩
  go_wp2_with fail
  refine (hI _).mono ?_
  rintro x w1 ⟨rfl, rfl⟩
  go_wp2
  go_ret
  exact ⟨rfl, Below.refl _ _⟩
end U
end Go.Proofs.Ytpelafkjnmcdgaa
