/- Two lists of slots, compared as structs. -/
import Derived.Test.YtdcfoggcepkelaaSlL
namespace Go.Proofs.Ytdcfoggcepkelaa
open Go.RowKit
namespace U
theorem lwBig4 (a : Option Addr) (n c : Nat) (w : World) (hn : n ≤ maxLen) :
    Calls Try.prog 10 #[.slice a n c] w fun e w' => e = .returned (.bool (decide (1048576 < n))) ∧ w' = w := by
  unfold maxLen at hn
  go_enter Try.func10, Try.ntmps10
  go_wp2
  go_ret
  exact ⟨ret_bool (by simp; omega), rfl⟩
end U
end Go.Proofs.Ytdcfoggcepkelaa
