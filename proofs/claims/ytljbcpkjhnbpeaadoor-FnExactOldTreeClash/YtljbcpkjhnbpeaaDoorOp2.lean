/- Two sums as one complex number, by the program. -/
import Derived.Test.YtljbcpkjhnbpeaaDoorOp1
import Derived.Test.YtljbcpkjhnbpeaaDoorFlt
namespace Go.Proofs.YtljbcpkjhnbpeaaDoor
open Go.RowKit
namespace U
/-- Two sums, as one number. -/
def cx (a b : Int) : Value := .complex .f64 (floatOfInt .f64 a) (floatOfInt .f64 b)
theorem fl_int {a : Int} (h : 0 ≤ a ∧ a ≤ 65520) : floatToIntVal .f64 (floatOfInt .f64 a) .i64 = some a := by
  obtain ⟨n, rfl⟩ : ∃ n : Nat, a = n := ⟨a.toNat, by omega⟩
  exact fl_back n (by omega)
theorem field_BR1 (c : Int) (a : Option Addr) (n k : Nat) (w : World) : (Instr.field 131 (.agg #[.int .i64 c, .slice a n k]) 1).run Tryd.prog w = .ok (.slice a n k) w := by kernel_rfl
end U
end Go.Proofs.YtljbcpkjhnbpeaaDoor
