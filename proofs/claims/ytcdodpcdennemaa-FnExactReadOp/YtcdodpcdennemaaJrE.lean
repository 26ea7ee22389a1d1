/- Operations told, held against each other. -/
import Derived.Test.YtcdodpcdennemaaJr1
import Derived.Test.YtcdodpcdennemaaRecE
namespace Go.Proofs.Ytcdodpcdennemaa
open Go.RowKit
namespace U
/-- What is told of an operation with a code. -/
def oprV (c k : Int) (l : ByteArray) (v o p s n : Int) : Value := .agg #[.int .i64 c, .int .i64 k, .string l, .int .i64 v, .int .i64 o, .int .i64 p, .int .i64 s, .int .i64 n]
theorem eight_cellsO {w : World} {b : Nat} {x0 x1 x2 x3 x4 x5 x6 x7 : Value} {t : TypeId} (h : w.heap[b]? = some (.cells #[x0, x1, x2, x3, x4, x5, x6, x7] t)) : (w.cell? ⟨b, 0, none⟩ = some x0 ∧ w.cell? ⟨b, 1, none⟩ = some x1 ∧ w.cell? ⟨b, 2, none⟩ = some x2 ∧ w.cell? ⟨b, 3, none⟩ = some x3 ∧ w.cell? ⟨b, 4, none⟩ = some x4 ∧ w.cell? ⟨b, 5, none⟩ = some x5 ∧ w.cell? ⟨b, 6, none⟩ = some x6 ∧ w.cell? ⟨b, 7, none⟩ = some x7) ∧ w.frozen? ⟨b, 0, none⟩ = false ∧ w.frozen? ⟨b, 1, none⟩ = false ∧ w.frozen? ⟨b, 2, none⟩ = false ∧ w.frozen? ⟨b, 3, none⟩ = false ∧ w.frozen? ⟨b, 4, none⟩ = false ∧ w.frozen? ⟨b, 5, none⟩ = false ∧ w.frozen? ⟨b, 6, none⟩ = false ∧ w.frozen? ⟨b, 7, none⟩ = false := by
  simp [World.cell?, World.frozen?, h]
theorem below_set8 {w w' : World} (h : Below w.heap.size w w') (b : Nat) (hb : w.heap.size ≤ b) (x0 x1 x2 x3 x4 x5 x6 x7 : Value) : Below w.heap.size w ((((((((w'.setCell ⟨b, 0, none⟩ x0).setCell ⟨b, 1, none⟩ x1).setCell ⟨b, 2, none⟩ x2).setCell ⟨b, 3, none⟩ x3).setCell ⟨b, 4, none⟩ x4).setCell ⟨b, 5, none⟩ x5).setCell ⟨b, 6, none⟩ x6).setCell ⟨b, 7, none⟩ x7) :=
  (((((((h.setCell hb _).setCell hb _).setCell hb _).setCell hb _).setCell hb _).setCell hb _).setCell hb _).setCell hb _
set_option maxRecDepth 100000 in
set_option maxHeartbeats 1000000 in
theorem eqOp_same (k : Int) (l : ByteArray) (v o p s n : Int) (w : World) :
    Calls Try.prog 56 #[opV k l v o p s n, opV k l v o p s n] w fun e w' => e = .returned (.bool true) ∧ Below w.heap.size w w' := by
  have hE := fun w => eqRecord_same l v o p w
  have RB := OpAt.new (w.alloc (.cells #[.int .i64 k, .string l, .int .i64 v, .int .i64 o, .int .i64 p, .int .i64 s, .int .i64 n] 33)) k l v o p s n 33
  have RA := (OpAt.new w k l v o p s n 33).below (one_new (.cells #[.int .i64 k, .string l, .int .i64 v, .int .i64 o, .int .i64 p, .int .i64 s, .int .i64 n] 33))
  rw [World.size_alloc] at RB
  unfold recV at hE
  unfold opV
  go_enter Try.func56, Try.ntmps56
  go_wp2_with fail
  refine (hE _).mono ?_
  rintro e w1 ⟨rfl, hb1⟩
  have ⟨a0, a1, a2, a3, a4, a5, a6⟩ := RA.below hb1
  have ⟨b0, b1, b2, b3, b4, b5, b6⟩ := RB.below hb1
  have hB1 := below_after (below_after hb1)
  clear hb1 RA RB hE
  go_wp2
  go_ret
  exact ⟨rfl, hB1⟩
set_option maxRecDepth 100000 in
set_option maxHeartbeats 1000000 in
theorem eqOpResult_same (c k : Int) (l : ByteArray) (v o p s n : Int) (w : World) :
    Calls Try.prog 20 #[oprV c k l v o p s n, oprV c k l v o p s n] w fun e w' => e = .returned (.bool true) ∧ Below w.heap.size w w' := by
  have hE := fun w => eqOp_same k l v o p s n w
  unfold opV at hE
  unfold oprV
  go_enter Try.func20, Try.ntmps20
  go_wp2_with fail
  refine (hE _).mono ?_
  rintro e w1 ⟨rfl, hb1⟩
  go_wp2
  go_ret
  exact ⟨rfl, below_after (below_after hb1)⟩
end U
end Go.Proofs.Ytcdodpcdennemaa
