/- Keys of labels: what both models answer. -/
import Derived.Test.YtacaoehcfmblbaaFoldI
import Derived.Test.YtacaoehcfmblbaaStr
namespace Go.Proofs.Ytacaoehcfmblbaa
open Go.RowKit
namespace U
/-- The key of a label, 0 where it is none. -/
def keyI (s : ByteArray) : Int := sumL (bl (foldS s)) % 256
def keyV (s : ByteArray) : Int := if labelP s = 0 then keyI s else 0
theorem keyV_ok {s : ByteArray} (h : labelP s = 0) : keyV s = keyI s := by simp [keyV, h]
theorem keyV_no {s : ByteArray} (h : ¬ labelP s = 0) : keyV s = 0 := by simp [keyV, h]
theorem keyI_bd (s : ByteArray) : 0 ≤ keyI s ∧ keyI s < 256 := by unfold keyI; omega
theorem field_IR1k (x y : Int) (w : World) : (Instr.field 66 (.agg #[.int .i64 x, .int .i64 y]) 1).run Try.prog w = .ok (.int .i64 y) w := by kernel_rfl
theorem labelP_codes (s : ByteArray) : labelP s = 0 ∨ labelP s = 1 ∨ labelP s = 2 ∨ labelP s = 5 := by
  unfold labelP
  split
  · simp
  · split
    · simp
    · split
      · simp
      · split <;> simp
end U
end Go.Proofs.Ytacaoehcfmblbaa
