/- The size of a trail taken from whatever is left. -/
import Derived.Test.YtdbbmclobmigdaaGRA
namespace Go.Proofs.Ytdbbmclobmigdaa
open Go.RowKit
namespace U
set_option maxHeartbeats 400000 in
theorem szForkS_gen (z : Nat) (hz : z ≤ 1048576) (a : Option Addr) (n c : Nat) (w : World) (hn : n ≤ maxLen) :
    Calls Try.prog 36 #[.slice a n c, .int .i64 (z : Int)] w fun e w' => e = .returned (.int .i64 (if n ≤ z then ((z : Int) - (n : Int)) else -1)) ∧ w' = w := by
  unfold maxLen at hn
  by_cases h : n ≤ z
  · rw [if_pos h]
    have h1 : wrap64 ((z : Int) - (n : Int)) = (z : Int) - (n : Int) := by simp only [wrap64]; omega
    have h2 : ¬ ((z : Int) - (n : Int) < 0) := by omega
    go_enter Try.func36, Try.ntmps36
    go_wp2
    go_ret
    exact ⟨rfl, rfl⟩
  · rw [if_neg h]
    have h1 : wrap64 ((z : Int) - (n : Int)) = (z : Int) - (n : Int) := by simp only [wrap64]; omega
    have h2 : (z : Int) - (n : Int) < 0 := by omega
    go_enter Try.func36, Try.ntmps36
    go_wp2
    go_ret
    exact ⟨rfl, rfl⟩
set_option maxRecDepth 100000 in
theorem szTrail_gen (z : Nat) (hz : z ≤ 1048576) (x : Bool) (k y : Int) (a : Option Addr) (n c : Nat) (w : World) (hn : n ≤ maxLen) :
    Calls Try.prog 22 #[.agg #[.bool x, .int .i64 k, .int .i64 y, .slice a n c], .int .i64 (z : Int)] w fun e w' => e = .returned (.int .i64 (if n ≤ z then ((z : Int) - (n : Int)) else -1)) ∧ Below w.heap.size w w' := by
  have hZ := fun w => szForkS_gen z hz a n c w hn
  by_cases h : n ≤ z
  · rw [if_pos h] at hZ ⊢
    have h2 : ¬ ((z : Int) - (n : Int) < 0) := by omega
    generalize (z : Int) - (n : Int) = q at *
    generalize (z : Int) = zi at *
    go_enter Try.func22, Try.ntmps22
    go_wp2_with fail
    refine (hZ _).mono ?_
    rintro e w1 ⟨rfl, rfl⟩
    clear hZ
    go_wp2
    go_ret
    exact ⟨rfl, one_new _⟩
  · rw [if_neg h] at hZ ⊢
    generalize (z : Int) = zi at *
    go_enter Try.func22, Try.ntmps22
    go_wp2_with fail
    refine (hZ _).mono ?_
    rintro e w1 ⟨rfl, rfl⟩
    clear hZ
    go_wp2
    go_ret
    exact ⟨rfl, one_new _⟩
end U
end Go.Proofs.Ytdbbmclobmigdaa
