/- The law on AnswerText, walked: true, and nothing that was there has turned. -/
import Derived.Test.YtmjbmlojcieciaaDoorAxL
import Derived.Test.YtmjbmlojcieciaaDoorPairs
import Derived.Test.YtmjbmlojcieciaaDoorAx2
import Derived.Test.YtmjbmlojcieciaaDoorEqR
namespace Go.Proofs.YtmjbmlojcieciaaDoor
open Go.RowKit
namespace U
set_option maxRecDepth 100000 in
set_option maxHeartbeats 1000000 in
theorem fnExactAnswerText_walk (k : Int) (t : Bool) (s : ByteArray) (v o p : Int) (hs : s.size ≤ maxLen) (w : World) (ht : Lib.TabIs Tryd.prog w "internal/strconv.uint64pow10" .u64 Lib.pow10Tab) :
    Calls Tryd.prog 5 #[.agg #[.int .i64 k, .bool t, .string s, .int .i64 v, .int .i64 o, .int .i64 p]] w fun e w' => e = .returned (.bool true) ∧ Below w.heap.size w w' := by
  have hZ := fun w => szAnswer_any k t s v o p w hs
  have R0 := AxB.new w k t s v o p 41
  by_cases h : s.size ≤ 1048576
  · rw [if_pos h] at hZ
    have hS := fun w => specAnswerText_any k t s v o p w h
    have hI := fun w' hb => implAnswerText_any k t s v o p w' h (Lib.tabBelow_of_tabIs ht w' hb)
    have hT := fun w => toAnswer_any k t s v o p w
    have h2 : ¬ ((1048576 - s.size : Int) < 0) := by omega
    generalize (1048576 - s.size : Int) = z at *
    generalize axC k t s v o p = code at *
    generalize axT k t s v o p = x at *
    unfold axV at *
    go_enter Tryd.func5, Tryd.ntmps5
    go_wp2_with fail
    refine (hZ _).mono ?_
    rintro e w1 ⟨rfl, hb1⟩
    have R1 := R0.below hb1 (by simp)
    have hB1 := below_after hb1
    have ⟨c0, c1, c2, c3, c4, c5⟩ := R1
    have hlt : w.heap.size < w1.heap.size := by have := hb1.size; simp at this; omega
    clear hb1 R0
    go_wp2_with fail
    refine (hT _).mono ?_
    rintro e w2 ⟨rfl, hb2⟩
    go_wp2_with fail
    refine (hS _).mono ?_
    rintro e w3 ⟨rfl, hb3⟩
    have hb3' := below_after_of (below_after_of hb2 hb3) (one_new (.cells #[.int .i64 code, .string x] 32))
    have R3 := R1.below hb3' hlt
    have P3 := Pair.new w3 (.int .i64 code) (.string x) 32
    have hB3 := below_after_of hB1 hb3'
    clear c0 c1 c2 c3 c4 c5 R1 hb2 hb3 hB1 hb3'
    have ⟨c0, c1, c2, c3, c4, c5⟩ := R3
    go_wp2_with fail
    refine (hT _).mono ?_
    rintro e w4 ⟨rfl, hb4⟩
    go_wp2_with fail
    refine (hI _ (below_after_of hB3 hb4)).mono ?_
    rintro e w5 ⟨rfl, hb5⟩
    have hb5' := below_after_of (below_after_of hb4 hb5) (one_new (.cells #[.int .i64 code, .string x] 32))
    obtain ⟨-, d0, d1⟩ := P3.below hb5'
    have hB5 := below_after_of hB3 hb5'
    clear c0 c1 c2 c3 c4 c5 R3 hb4 hb5 hB3 hb5' P3
    go_wp2_with fail
    refine (eqTextResult_same code x _).mono ?_
    rintro e w6 ⟨rfl, hb6⟩
    go_wp2
    go_ret
    exact ⟨rfl, below_after_of hB5 hb6⟩
  · rw [if_neg h] at hZ
    unfold axV at *
    go_enter Tryd.func5, Tryd.ntmps5
    go_wp2_with fail
    refine (hZ _).mono ?_
    rintro e w1 ⟨rfl, hb1⟩
    go_wp2
    go_ret
    exact ⟨rfl, below_after hb1⟩
end U
end Go.Proofs.YtmjbmlojcieciaaDoor
