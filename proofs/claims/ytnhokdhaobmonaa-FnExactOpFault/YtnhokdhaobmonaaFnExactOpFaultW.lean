/- The law on OpFault, walked: true, and nothing that was there has turned. -/
import Derived.Test.YtnhokdhaobmonaaJr4
import Derived.Test.YtnhokdhaobmonaaJrL
namespace Go.Proofs.Ytnhokdhaobmonaa
open Go.RowKit
namespace U
set_option maxRecDepth 100000 in
set_option maxHeartbeats 1000000 in
theorem fnExactOpFault_walk (k : Int) (s : ByteArray) (v o p c n : Int) (hs : s.size ≤ maxLen) (w : World) :
    Calls Try.prog 3 #[.agg #[.int .i64 k, .string s, .int .i64 v, .int .i64 o, .int .i64 p, .int .i64 c, .int .i64 n]] w fun e w' => e = .returned (.bool true) ∧ Below w.heap.size w w' := by
  have hZ := fun w => szOp_any k s v o p c n w hs
  have R0 := OpAt.new w k s v o p c n 25
  by_cases h : s.size ≤ 1048576
  · rw [if_pos h] at hZ
    have hS := fun w => specOpFault_any k s v o p c n w h
    have hI := fun w => implOpFault_any k s v o p c n w h
    have hT := fun w => toOp_any k s v o p c n w
    have h2 : ¬ ((1048576 - s.size : Int) < 0) := by omega
    generalize (1048576 - s.size : Int) = z at *
    generalize opC k s v o p c n = code at *
    unfold opV at *
    go_enter Try.func3, Try.ntmps3
    go_wp2_with fail
    refine (hZ _).mono ?_
    rintro e w1 ⟨rfl, hb1⟩
    have R1 := R0.below hb1
    have hB1 := below_after hb1
    have ⟨c0, c1, c2, c3, c4, c5, c6⟩ := R1
    clear hb1 R0
    go_wp2_with fail
    refine (hT _).mono ?_
    rintro e w2 ⟨rfl, hb2⟩
    go_wp2_with fail
    refine (hS _).mono ?_
    rintro e w3 ⟨rfl, hb3⟩
    have hb3 := below_after_of hb2 hb3
    have R3 := R1.below hb3
    have hB3 := below_after_of hB1 hb3
    clear c0 c1 c2 c3 c4 c5 c6 R1 hb2 hb3 hB1
    have ⟨c0, c1, c2, c3, c4, c5, c6⟩ := R3
    go_wp2_with fail
    refine (hT _).mono ?_
    rintro e w4 ⟨rfl, hb4⟩
    go_wp2_with fail
    refine (hI _).mono ?_
    rintro e w5 ⟨rfl, hb5⟩
    go_wp2
    go_ret
    exact ⟨rfl, below_after_of (below_after_of hB3 hb4) hb5⟩
  · rw [if_neg h] at hZ
    unfold opV at *
    go_enter Try.func3, Try.ntmps3
    go_wp2_with fail
    refine (hZ _).mono ?_
    rintro e w1 ⟨rfl, hb1⟩
    go_wp2
    go_ret
    exact ⟨rfl, below_after hb1⟩
end U
end Go.Proofs.Ytnhokdhaobmonaa
