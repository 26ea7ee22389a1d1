/- The law on LabelFault, walked: true, and nothing that was there has turned. -/
import Derived.Test.YtblmafpckkggnaaLab
namespace Go.Proofs.Ytblmafpckkggnaa
open Go.RowKit
namespace U
set_option maxHeartbeats 1000000 in
theorem fnExactLabelFault_walk (s : ByteArray) (hs : s.size ≤ maxLen) (w : World) :
    Calls Try.prog 4 #[.string s] w fun e w' => e = .returned (.bool true) ∧ Below w.heap.size w w' := by
  by_cases h : s.size ≤ 1048576
  · have hS := fun w => specLabelFault_any s w h
    have hI := fun w => implLabelFault_any s w h
    generalize labelP s = code at *
    go_enter Try.func4, Try.ntmps4
    go_wp2_with (first | (go_at_call 12; refine (hS _).mono ?_; rintro e w1 ⟨rfl, hb1⟩) | (go_at_call 13; refine (hI _).mono ?_; rintro e w2 ⟨rfl, hb2⟩))
    go_ret
    exact ⟨rfl, hb1.trans (hb2.mono hb1.size)⟩
  · unfold maxLen at hs
    go_enter Try.func4, Try.ntmps4
    go_wp2
    go_ret
    exact ⟨rfl, Below.refl _ _⟩
end U
end Go.Proofs.Ytblmafpckkggnaa
