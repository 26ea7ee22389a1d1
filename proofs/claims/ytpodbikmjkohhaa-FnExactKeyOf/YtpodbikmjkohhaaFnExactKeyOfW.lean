/- The law on KeyOf, walked: true, and nothing that was there has turned. -/
import Derived.Test.YtpodbikmjkohhaaKey
import Derived.Test.YtpodbikmjkohhaaEqR
namespace Go.Proofs.Ytpodbikmjkohhaa
open Go.RowKit
namespace U
set_option maxHeartbeats 1000000 in
theorem fnExactKeyOf_walk (s : ByteArray) (hs : s.size ≤ maxLen) (w : World) :
    Calls Try.prog 9 #[.string s] w fun e w' => e = .returned (.bool true) ∧ Below w.heap.size w w' := by
  by_cases h : s.size ≤ 1048576
  · have hS := fun w => specKeyOf_any s w h
    have hI := fun w => implKeyOf_any s w h
    generalize labelP s = code at *
    generalize keyV s = t at *
    go_enter Try.func9, Try.ntmps9
    go_wp2_with fail
    refine (hS _).mono ?_
    rintro e w1 ⟨rfl, hb1⟩
    go_wp2_with fail
    refine (hI _).mono ?_
    rintro e w2 ⟨rfl, hb2⟩
    obtain ⟨hc, hf⟩ := bcell hb2
    have hsz : w1.heap.size < w2.heap.size := by have := hb2.size; simp at this; omega
    have hB : Below w.heap.size w w2 := below_after_of hb1 (below_after hb2)
    clear hb2
    go_wp2_with fail
    refine (eqIntResult_same code t _).mono ?_
    rintro e w3 ⟨rfl, hb3⟩
    go_wp2
    go_ret
    exact ⟨rfl, below_after_of hB (below_after hb3)⟩
  · unfold maxLen at hs
    go_enter Try.func9, Try.ntmps9
    go_wp2
    go_ret
    exact ⟨rfl, Below.refl _ _⟩
end U
end Go.Proofs.Ytpodbikmjkohhaa
