/- The law on HeadText, walked: true, and nothing that was there has turned. -/
import Derived.Test.YtmjbmlojcieciaaDoorHdL
import Derived.Test.YtmjbmlojcieciaaDoorPairs
import Derived.Test.YtmjbmlojcieciaaDoorHx2
import Derived.Test.YtmjbmlojcieciaaDoorEqR
namespace Go.Proofs.YtmjbmlojcieciaaDoor
open Go.RowKit
namespace U
set_option maxRecDepth 100000 in
set_option maxHeartbeats 1000000 in
theorem fnExactHeadText_walk (e p o n v : Int) (w : World) (ht : Lib.TabIs Tryd.prog w "internal/strconv.uint64pow10" .u64 Lib.pow10Tab) :
    Calls Tryd.prog 4 #[.agg #[.int .i64 e, .int .i64 p, .int .i64 o, .int .i64 n, .int .i64 v]] w fun x w' => x = .returned (.bool true) ∧ Below w.heap.size w w' := by
  have R1 := HdS.new w ⟨e, p, o, n, v⟩ 30
  have hB1 : Below w.heap.size w (w.alloc (.cells #[.int .i64 e, .int .i64 p, .int .i64 o, .int .i64 n, .int .i64 v] 30)) := one_new _
  have hS := fun w => specHeadText_any e p o n v w
  have hI := fun w' hb => implHeadText_any e p o n v w' (Lib.tabBelow_of_tabIs ht w' hb)
  have hT := fun w => toHead_any e p o n v w
  generalize hdC e p o n v = code at *
  generalize htV e p o n v = x at *
  unfold hdV at *
  have ⟨c0, c1, c2, c3, c4⟩ := R1
  dsimp only at c0 c1 c2 c3 c4
  go_enter Tryd.func4, Tryd.ntmps4
  go_wp2_with fail
  refine (hT _).mono ?_
  rintro y w2 ⟨rfl, hb2⟩
  go_wp2_with fail
  refine (hS _).mono ?_
  rintro y w3 ⟨rfl, hb3⟩
  have hb3' := below_after_of (below_after_of hb2 hb3) (one_new (.cells #[.int .i64 code, .string x] 32))
  have R3 := R1.below hb3' (by simp)
  have P3 := Pair.new w3 (.int .i64 code) (.string x) 32
  have hB3 := below_after_of hB1 hb3'
  clear c0 c1 c2 c3 c4 R1 hb2 hb3 hB1 hb3'
  have ⟨c0, c1, c2, c3, c4⟩ := R3
  dsimp only at c0 c1 c2 c3 c4
  go_wp2_with fail
  refine (hT _).mono ?_
  rintro y w4 ⟨rfl, hb4⟩
  go_wp2_with fail
  refine (hI _ (below_after_of hB3 hb4)).mono ?_
  rintro y w5 ⟨rfl, hb5⟩
  have hb5' := below_after_of (below_after_of hb4 hb5) (one_new (.cells #[.int .i64 code, .string x] 32))
  obtain ⟨-, d0, d1⟩ := P3.below hb5'
  have hB5 := below_after_of hB3 hb5'
  clear c0 c1 c2 c3 c4 R3 hb4 hb5 hB3 hb5' P3
  go_wp2_with fail
  refine (eqTextResult_same code x _).mono ?_
  rintro y w6 ⟨rfl, hb6⟩
  go_wp2
  go_ret
  exact ⟨rfl, below_after_of hB5 hb6⟩
end U
end Go.Proofs.YtmjbmlojcieciaaDoor
