/- A step that a law is handed: its size, and as the functions are handed it. -/
import Derived.Test.YtacaoehcfmblbaaSp2
import Derived.Test.YtacaoehcfmblbaaJrL
namespace Go.Proofs.Ytacaoehcfmblbaa
open Go.RowKit
namespace U
set_option maxRecDepth 100000 in
set_option maxHeartbeats 4000000 in
theorem toOp_is (k : Int) (l : ByteArray) (v o p s n : Int) (w : World) :
    Calls Try.prog 10 #[opV k l v o p s n] w fun e w' => e = .returned (opV k l v o p s n) ∧ w' = ((((((w.alloc (.cells #[.int .i64 k, .string l, .int .i64 v, .int .i64 o, .int .i64 p, .int .i64 s, .int .i64 n] 25)).alloc (.cells #[.int .i64 k, .string l, .int .i64 v, .int .i64 o, .int .i64 p, .int .i64 s, .int .i64 n] 32)).alloc (.cells #[.int .i64 k, .string l, .int .i64 v, .int .i64 o, .int .i64 p, .int .i64 s, .int .i64 n] 32)).alloc (.cells #[.string l, .int .i64 v, .int .i64 o, .int .i64 p] 23)).alloc (.cells #[.string l, .int .i64 v, .int .i64 o, .int .i64 p] 30)).alloc (.cells #[.string l, .int .i64 v, .int .i64 o, .int .i64 p] 30)) := by
  have hR := fun w => toRecord_is l v o p w
  unfold recV at hR
  unfold opV
  go_enter Try.func10, Try.ntmps10
  go_wp2_with fail
  refine (hR _).mono ?_
  rintro e w1 ⟨rfl, rfl⟩
  clear hR
  go_wp2
  exact bodyPost_ret (v := .agg #[.int .i64 k, .string l, .int .i64 v, .int .i64 o, .int .i64 p, .int .i64 s, .int .i64 n]) (by simp [results, Try.results10, go_sem]) rfl ⟨rfl, rfl⟩
set_option maxRecDepth 100000 in
set_option maxHeartbeats 2000000 in
theorem szStep_any (b : Bool) (kp : Int) (k : Int) (l : ByteArray) (v o p s n : Int) (w : World) (hs : l.size ≤ maxLen) :
    Calls Try.prog 4 #[spV b kp k l v o p s n, .int .i64 1048576] w fun e w' => e = .returned (.int .i64 (if l.size ≤ 1048576 then (1048576 - l.size : Int) else -1)) ∧ Below w.heap.size w w' := by
  have hR := fun w => szOp_any k l v o p s n w hs
  unfold opV at hR
  unfold spV
  by_cases h1 : l.size ≤ 1048576
  · rw [if_pos h1] at hR ⊢
    have h2 : ¬ ((1048576 - l.size : Int) < 0) := by omega
    generalize (1048576 - l.size : Int) = z at *
    go_enter Try.func4, Try.ntmps4
    go_wp2_with fail
    refine (hR _).mono ?_
    rintro e w1 ⟨rfl, hb1⟩
    go_wp2
    go_ret
    exact ⟨rfl, below_after hb1⟩
  · rw [if_neg h1] at hR ⊢
    go_enter Try.func4, Try.ntmps4
    go_wp2_with fail
    refine (hR _).mono ?_
    rintro e w1 ⟨rfl, hb1⟩
    go_wp2
    go_ret
    exact ⟨rfl, below_after hb1⟩
set_option maxRecDepth 100000 in
set_option maxHeartbeats 4000000 in
theorem toStep_any (b : Bool) (kp : Int) (k : Int) (l : ByteArray) (v o p s n : Int) (w : World) :
    Calls Try.prog 6 #[spV b kp k l v o p s n] w fun e w' => e = .returned (spV b kp k l v o p s n) ∧ Below w.heap.size w w' := by
  have hR := fun w => toOp_is k l v o p s n w
  unfold opV at hR
  unfold spV
  go_enter Try.func6, Try.ntmps6
  go_wp2_with fail
  refine (hR _).mono ?_
  rintro e w1 ⟨rfl, rfl⟩
  clear hR
  go_wp2
  refine bodyPost_ret (v := .agg #[.bool b, .int .i64 kp, .int .i64 k, .string l, .int .i64 v, .int .i64 o, .int .i64 p, .int .i64 s, .int .i64 n]) (by simp [results, Try.results6, go_sem]) rfl ⟨rfl, ?_⟩
  repeat (first | exact two_new _ _ | refine Below.alloc ?_ (by simp; omega) _)
end U
end Go.Proofs.Ytacaoehcfmblbaa
