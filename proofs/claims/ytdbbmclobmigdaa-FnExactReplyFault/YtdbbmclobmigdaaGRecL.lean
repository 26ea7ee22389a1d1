/- A record that a law is handed: how great it is, and the record that the functions are handed. -/
import Derived.Test.YtdbbmclobmigdaaGRB
namespace Go.Proofs.Ytdbbmclobmigdaa
open Go.RowKit
namespace U
set_option maxRecDepth 100000 in
set_option maxHeartbeats 1000000 in
theorem szRecord_any (l : ByteArray) (v o p : Int) (w : World) (hs : l.size ≤ maxLen) :
    Calls Try.prog 9 #[recV l v o p, .int .i64 1048576] w fun e w' => e = .returned (.int .i64 (if l.size ≤ 1048576 then (1048576 - l.size : Int) else -1)) ∧ Below w.heap.size w w' := by
  unfold recV
  unfold maxLen at hs
  have h := RecAt.new w l v o p 23
  by_cases h1 : l.size ≤ 1048576
  · rw [if_pos h1]
    go_enter Try.func9, Try.ntmps9
    go_wp2
    go_ret
    exact ⟨rfl, one_new _⟩
  · rw [if_neg h1]
    go_enter Try.func9, Try.ntmps9
    go_wp2
    go_ret
    exact ⟨rfl, one_new _⟩
set_option maxRecDepth 100000 in
set_option maxHeartbeats 1000000 in
theorem toRecord_any (l : ByteArray) (v o p : Int) (w : World) :
    Calls Try.prog 12 #[recV l v o p] w fun e w' => e = .returned (recV l v o p) ∧ Below w.heap.size w w' := by
  unfold recV
  go_enter Try.func12, Try.ntmps12
  go_wp2
  refine bodyPost_ret (v := recV l v o p) (by simp [results, Try.results12, go_sem, recV]) rfl ⟨rfl, ?_⟩
  exact (two_new _ _).alloc (by simp; omega) _
end U
end Go.Proofs.Ytdbbmclobmigdaa
