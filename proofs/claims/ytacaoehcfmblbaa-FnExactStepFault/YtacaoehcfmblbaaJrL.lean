/- An operation that a law is handed, as the functions are handed it. -/
import Derived.Test.YtacaoehcfmblbaaJr1
import Derived.Test.YtacaoehcfmblbaaRecL
namespace Go.Proofs.Ytacaoehcfmblbaa
open Go.RowKit
namespace U
theorem sevenJ {w : World} {g : Nat} {x0 x1 x2 x3 x4 x5 x6 : Value} {t : TypeId} (h : w.heap[g]? = some (.cells #[x0, x1, x2, x3, x4, x5, x6] t)) :
    w.cell? ⟨g, 0, none⟩ = some x0 ∧ w.cell? ⟨g, 1, none⟩ = some x1 ∧ w.cell? ⟨g, 2, none⟩ = some x2 ∧ w.cell? ⟨g, 3, none⟩ = some x3 ∧ w.cell? ⟨g, 4, none⟩ = some x4 ∧ w.cell? ⟨g, 5, none⟩ = some x5 ∧ w.cell? ⟨g, 6, none⟩ = some x6 ∧
    w.frozen? ⟨g, 0, none⟩ = false ∧ w.frozen? ⟨g, 1, none⟩ = false ∧ w.frozen? ⟨g, 2, none⟩ = false ∧ w.frozen? ⟨g, 3, none⟩ = false ∧ w.frozen? ⟨g, 4, none⟩ = false ∧ w.frozen? ⟨g, 5, none⟩ = false ∧ w.frozen? ⟨g, 6, none⟩ = false := by
  simp [World.cell?, World.frozen?, h]
set_option maxRecDepth 100000 in
set_option maxHeartbeats 1000000 in
theorem toRecord_is (l : ByteArray) (v o p : Int) (w : World) :
    Calls Try.prog 17 #[recV l v o p] w fun e w' => e = .returned (recV l v o p) ∧ w' = ((w.alloc (.cells #[.string l, .int .i64 v, .int .i64 o, .int .i64 p] 23)).alloc (.cells #[.string l, .int .i64 v, .int .i64 o, .int .i64 p] 30)).alloc (.cells #[.string l, .int .i64 v, .int .i64 o, .int .i64 p] 30) := by
  unfold recV
  go_enter Try.func17, Try.ntmps17
  go_wp2
  exact bodyPost_ret (v := recV l v o p) (by simp [results, Try.results17, go_sem, recV]) rfl ⟨rfl, rfl⟩
set_option maxRecDepth 100000 in
set_option maxHeartbeats 4000000 in
theorem toOp_any (k : Int) (l : ByteArray) (v o p s n : Int) (w : World) :
    Calls Try.prog 10 #[opV k l v o p s n] w fun e w' => e = .returned (opV k l v o p s n) ∧ Below w.heap.size w w' := by
  have hR := fun w => toRecord_is l v o p w
  unfold recV at hR
  unfold opV
  go_enter Try.func10, Try.ntmps10
  go_wp2_with fail
  refine (hR _).mono ?_
  rintro e w1 ⟨rfl, rfl⟩
  clear hR
  go_wp2
  refine bodyPost_ret (v := .agg #[.int .i64 k, .string l, .int .i64 v, .int .i64 o, .int .i64 p, .int .i64 s, .int .i64 n]) (by simp [results, Try.results10, go_sem]) rfl ⟨rfl, ?_⟩
  repeat (first | exact two_new _ _ | refine Below.alloc ?_ (by simp; omega) _)
end U
end Go.Proofs.Ytacaoehcfmblbaa
