/- Two lists of slots, compared as structs. -/
import Derived.Test.YtonadfpblgmohaaSlL
namespace Go.Proofs.Ytonadfpblgmohaa
open Go.RowKit
namespace U
theorem lwBig4 (a : Option Addr) (n c : Nat) (w : World) (hn : n ≤ maxLen) :
    Calls Try.prog 11 #[.slice a n c] w fun e w' => e = .returned (.bool (decide (1048576 < n))) ∧ w' = w := by
  unfold maxLen at hn
  go_enter Try.func11, Try.ntmps11
  go_wp2
  go_ret
  exact ⟨ret_bool (by simp; omega), rfl⟩
end U
end Go.Proofs.Ytonadfpblgmohaa
