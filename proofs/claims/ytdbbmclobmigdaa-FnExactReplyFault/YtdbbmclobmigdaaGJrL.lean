/- An operation that a law is handed, as the functions are handed it. -/
import Derived.Test.YtdbbmclobmigdaaGJr1
import Derived.Test.YtdbbmclobmigdaaGRecL
namespace Go.Proofs.Ytdbbmclobmigdaa
open Go.RowKit
namespace U
theorem sevenJ {w : World} {g : Nat} {x0 x1 x2 x3 x4 x5 x6 : Value} {t : TypeId} (h : w.heap[g]? = some (.cells #[x0, x1, x2, x3, x4, x5, x6] t)) :
    w.cell? ⟨g, 0, none⟩ = some x0 ∧ w.cell? ⟨g, 1, none⟩ = some x1 ∧ w.cell? ⟨g, 2, none⟩ = some x2 ∧ w.cell? ⟨g, 3, none⟩ = some x3 ∧ w.cell? ⟨g, 4, none⟩ = some x4 ∧ w.cell? ⟨g, 5, none⟩ = some x5 ∧ w.cell? ⟨g, 6, none⟩ = some x6 ∧
    w.frozen? ⟨g, 0, none⟩ = false ∧ w.frozen? ⟨g, 1, none⟩ = false ∧ w.frozen? ⟨g, 2, none⟩ = false ∧ w.frozen? ⟨g, 3, none⟩ = false ∧ w.frozen? ⟨g, 4, none⟩ = false ∧ w.frozen? ⟨g, 5, none⟩ = false ∧ w.frozen? ⟨g, 6, none⟩ = false := by
  simp [World.cell?, World.frozen?, h]
set_option maxRecDepth 100000 in
set_option maxHeartbeats 1000000 in
theorem toRecord_is (l : ByteArray) (v o p : Int) (w : World) :
    Calls Try.prog 12 #[recV l v o p] w fun e w' => e = .returned (recV l v o p) ∧ w' = ((w.alloc (.cells #[.string l, .int .i64 v, .int .i64 o, .int .i64 p] 23)).alloc (.cells #[.string l, .int .i64 v, .int .i64 o, .int .i64 p] 36)).alloc (.cells #[.string l, .int .i64 v, .int .i64 o, .int .i64 p] 36) := by
  unfold recV
  go_enter Try.func12, Try.ntmps12
  go_wp2
  exact bodyPost_ret (v := recV l v o p) (by simp [results, Try.results12, go_sem, recV]) rfl ⟨rfl, rfl⟩
end U
end Go.Proofs.Ytdbbmclobmigdaa
