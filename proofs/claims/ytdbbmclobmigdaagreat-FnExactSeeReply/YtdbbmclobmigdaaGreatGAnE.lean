/- Answers held against one another. -/
import Derived.Test.YtdbbmclobmigdaaGreatGSD
namespace Go.Proofs.YtdbbmclobmigdaaGreat
open Go.RowKit
namespace U
set_option maxRecDepth 100000 in
set_option maxHeartbeats 1000000 in
theorem eqAnswer_same (k : Int) (f : Bool) (l : ByteArray) (v o p : Int) (w : World) :
    Calls Tryz.prog 49 #[.agg #[.int .i64 k, .bool f, .string l, .int .i64 v, .int .i64 o, .int .i64 p], .agg #[.int .i64 k, .bool f, .string l, .int .i64 v, .int .i64 o, .int .i64 p]] w fun e w' => e = .returned (.bool true) ∧ Below w.heap.size w w' := by
  have hE := fun w => eqRecord_same l v o p w
  unfold recV at hE
  have hbn : (f != f) = false := by cases f <;> rfl
  have hnn := hne_all
  go_enter Tryz.func49, Tryz.ntmps49
  go_wp2_with fail
  refine (hE _).mono ?_
  rintro e w1 ⟨rfl, hb1⟩
  go_wp2
  go_ret
  exact ⟨rfl, below_after (below_after hb1)⟩
set_option maxRecDepth 100000 in
set_option maxHeartbeats 1000000 in
theorem eqAnswerResult_same (c k : Int) (f : Bool) (l : ByteArray) (v o p : Int) (w : World) :
    Calls Tryz.prog 12 #[.agg #[.int .i64 c, .int .i64 k, .bool f, .string l, .int .i64 v, .int .i64 o, .int .i64 p], .agg #[.int .i64 c, .int .i64 k, .bool f, .string l, .int .i64 v, .int .i64 o, .int .i64 p]] w fun e w' => e = .returned (.bool true) ∧ Below w.heap.size w w' := by
  have hE := fun w => eqAnswer_same k f l v o p w
  have hnn := hne_all
  go_enter Tryz.func12, Tryz.ntmps12
  go_wp2_with fail
  refine (hE _).mono ?_
  rintro e w1 ⟨rfl, hb1⟩
  go_wp2
  go_ret
  exact ⟨rfl, below_after (below_after hb1)⟩
end U
end Go.Proofs.YtdbbmclobmigdaaGreat
