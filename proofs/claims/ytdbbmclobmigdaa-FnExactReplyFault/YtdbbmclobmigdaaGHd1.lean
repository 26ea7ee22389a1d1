/- The fault of a head, as both models tell it. -/
import Derived.Test.YtdbbmclobmigdaaGRB
namespace Go.Proofs.Ytdbbmclobmigdaa
open Go.RowKit
namespace U
set_option maxHeartbeats 400000 in
theorem isEpoch_any (n : Int) (w : World) : Calls Try.prog 14 #[.int .i64 n] w fun e w' => e = .returned (.bool (inB n 1 10)) ∧ w' = w := by
  by_cases h1 : 1 ≤ n
  · by_cases h2 : n ≤ 10
    · rw [inB_t h1 h2]
      go_enter Try.func14, Try.ntmps14
      go_wp2
      go_ret
      exact ⟨ret_bool (by simp), rfl⟩
    · rw [inB_f (Or.inr (by omega))]
      go_enter Try.func14, Try.ntmps14
      go_wp2
      go_ret
      exact ⟨ret_bool (by simp <;> omega), rfl⟩
  · rw [inB_f (Or.inl (by omega))]
    go_enter Try.func14, Try.ntmps14
    go_wp2
    go_ret
    exact ⟨ret_bool (by simp <;> omega), rfl⟩
/-- What is left of the roots in a phase. -/
def kepO (p o : Int) : Int := if hasO p = true then o else 0
def kepN (p n : Int) : Int := if hasN p = true then n else 0
def trV (o n : Int) : Value := .agg #[.int .i64 o, .int .i64 n]
theorem below_in {w : World} {o o' : Obj} : Below w.heap.size w ((w.alloc o).alloc o') := two_new _ _
end U
end Go.Proofs.Ytdbbmclobmigdaa
