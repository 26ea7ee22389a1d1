/- The law on FormsOf, walked: true, and nothing that was there has turned. -/
import Derived.Test.YtnhokdhaobmonaaFo1
namespace Go.Proofs.Ytnhokdhaobmonaa
open Go.RowKit
namespace U
set_option maxRecDepth 100000 in
set_option maxHeartbeats 1000000 in
theorem fnExactFormsOf_walk (e p o n v : Int) (w : World) :
    Calls Try.prog 9 #[.agg #[.int .i64 e, .int .i64 p, .int .i64 o, .int .i64 n, .int .i64 v]] w fun x w' => x = .returned (.bool true) ∧ Below w.heap.size w w' := by
  have R0 := HdS.new w ⟨e, p, o, n, v⟩ 101
  have hS := fun w => specFormsOf_any e p o n v w
  have hI := fun w => implFormsOf_any e p o n v w
  have hT := fun w => toHead_any e p o n v w
  generalize hdC e p o n v = code at *
  generalize foR e p o n v = z at *
  unfold hdV at *
  dsimp only at R0
  have ⟨c0, c1, c2, c3, c4⟩ := R0
  go_enter Try.func9, Try.ntmps9
  go_wp2_with fail
  refine (hT _).mono ?_
  rintro x w1 ⟨rfl, hb1⟩
  go_wp2_with fail
  refine (hS _).mono ?_
  rintro x w2 ⟨rfl, hb2⟩
  have hb2' := below_after_of (below_after_of hb1 hb2) (one_new (.cells #[.int .i64 code, .int .i64 z] 103))
  have R2 := R0.below hb2' (by simp)
  have P2 := Pair.new w2 (.int .i64 code) (.int .i64 z) 103
  have hB2 := below_after hb2'
  clear c0 c1 c2 c3 c4 R0 hb1 hb2 hb2'
  have ⟨c0, c1, c2, c3, c4⟩ := R2
  go_wp2_with fail
  refine (hT _).mono ?_
  rintro x w4 ⟨rfl, hb4⟩
  go_wp2_with fail
  refine (hI _).mono ?_
  rintro x w5 ⟨rfl, hb5⟩
  have hb5' := below_after_of (below_after_of hb4 hb5) (one_new (.cells #[.int .i64 code, .int .i64 z] 103))
  obtain ⟨-, d0, d1⟩ := P2.below hb5'
  have hB5 := below_after_of hB2 hb5'
  clear c0 c1 c2 c3 c4 R2 hb4 hb5 hB2 hb5' P2
  go_wp2_with fail
  refine (eqIntResult_same code z _).mono ?_
  rintro x w6 ⟨rfl, hb6⟩
  go_wp2
  go_ret
  exact ⟨rfl, below_after_of hB5 hb6⟩
end U
end Go.Proofs.Ytnhokdhaobmonaa
