/- The fault of a step: what the program answers. -/
import Derived.Test.YtacaoehcfmblbaaSp1
import Derived.Test.YtacaoehcfmblbaaJr4
namespace Go.Proofs.Ytacaoehcfmblbaa
open Go.RowKit
namespace U
/-- An operation held against nothing. -/
theorem op_zero (k : Int) (l : ByteArray) (v o p s n : Int) (w : World) : (binOp .neq 32 (.agg #[.int .i64 k, .string l, .int .i64 v, .int .i64 o, .int .i64 p, .int .i64 s, .int .i64 n]) (.agg #[.int .i64 0, .string ⟨#[]⟩, .int .i64 0, .int .i64 0, .int .i64 0, .int .i64 0, .int .i64 0])).run Try.prog w = .ok (.bool (!zO k l v o p s n)) w := by
  have e : (⟨#[]⟩ : ByteArray).toList = [] := by unfold ByteArray.toList; unfold ByteArray.toList.loop; rfl
  unfold zO zB
  simp [go_sem, e]
  by_cases h : l.toList = [] <;> by_cases h1 : v = 0 <;> by_cases h2 : o = 0 <;> by_cases h3 : p = 0 <;> by_cases h4 : k = 0 <;> by_cases h5 : s = 0 <;> by_cases h6 : n = 0 <;> simp [h, h1, h2, h3, h4, h5, h6]
set_option maxRecDepth 100000 in
set_option maxHeartbeats 2000000 in
theorem crashFault_any (b : Bool) (kp : Int) (k : Int) (l : ByteArray) (v o p s n : Int) (w : World) :
    Calls Try.prog 11 #[spV b kp k l v o p s n] w fun e w' => e = .returned (.int .i64 (spC true kp k l v o p s n)) ∧ Below w.heap.size w w' := by
  have hz := fun w => op_zero k l v o p s n w
  unfold spC spV
  rw [if_pos rfl]
  generalize zO k l v o p s n = z at *
  rcases z with _ | _
  · rw [if_neg (by decide)]
    go_enter Try.func11, Try.ntmps11
    go_wp2
    go_ret
    exact ⟨rfl, one_new _⟩
  · rw [if_pos rfl]
    by_cases h1 : kp < 0
    · rw [inB_f (by omega)]
      go_enter Try.func11, Try.ntmps11
      go_wp2
      go_ret
      exact ⟨rfl, one_new _⟩
    · by_cases h2 : 99 < kp
      · rw [inB_f (by omega)]
        go_enter Try.func11, Try.ntmps11
        go_wp2
        go_ret
        exact ⟨rfl, one_new _⟩
      · rw [show inB kp 0 99 = true by unfold inB; simp; omega]
        go_enter Try.func11, Try.ntmps11
        go_wp2
        go_ret
        exact ⟨rfl, one_new _⟩
set_option maxRecDepth 100000 in
set_option maxHeartbeats 2000000 in
theorem implStepFault_any (b : Bool) (kp : Int) (k : Int) (l : ByteArray) (v o p s n : Int) (w : World) (hl : l.size ≤ 1048576) :
    Calls Try.prog 7 #[spV b kp k l v o p s n] w fun e w' => e = .returned (.int .i64 (spC b kp k l v o p s n)) ∧ Below w.heap.size w w' := by
  have hC := fun w => crashFault_any b kp k l v o p s n w
  have hO := fun w => implOpFault_any k l v o p s n w hl
  unfold spC at *
  rw [if_pos rfl] at hC
  unfold spV opV at *
  generalize zO k l v o p s n = z at *
  generalize opC k l v o p s n = code at *
  rcases b with _ | _
  · rw [if_neg (by decide)]
    by_cases hk : kp = 0
    · subst hk
      rw [if_pos rfl]
      go_enter Try.func7, Try.ntmps7
      go_wp2_with fail
      refine (hO _).mono ?_
      rintro e w1 ⟨rfl, hb1⟩
      go_wp2
      go_ret
      exact ⟨rfl, below_after hb1⟩
    · rw [if_neg hk]
      go_enter Try.func7, Try.ntmps7
      go_wp2
      go_ret
      exact ⟨rfl, one_new _⟩
  · rw [if_pos rfl]
    generalize (if z = true then (if inB kp 0 99 = true then (0 : Int) else 3) else 1) = q at *
    go_enter Try.func7, Try.ntmps7
    go_wp2_with fail
    refine (hC _).mono ?_
    rintro e w1 ⟨rfl, hb1⟩
    go_wp2
    go_ret
    exact ⟨rfl, below_after hb1⟩
end U
end Go.Proofs.Ytacaoehcfmblbaa
