/- A record out of bytes: two bytes as a number; what is read. -/
import Derived.Test.YtcdodpcdennemaaRec1
import Derived.Test.YtcdodpcdennemaaBits
namespace Go.Proofs.Ytcdodpcdennemaa
open Go.RowKit
namespace U
set_option maxRecDepth 100000 in
set_option maxHeartbeats 2000000 in
theorem l3Two_any (b off c n k : Nat) (x y : Int) (w : World) (hk : k + 1 < n) (hn : n ≤ 1099511627776) (hx : w.cell? ⟨b, off + k, none⟩ = some (.int .u8 x)) (hy : w.cell? ⟨b, off + (k + 1), none⟩ = some (.int .u8 y))
    (hx0 : 0 ≤ x ∧ x ≤ 255) (hy0 : 0 ≤ y ∧ y ≤ 255) :
    Calls Try.prog 92 #[.slice (some ⟨b, off, none⟩) n c, .int .i64 k] w fun e w' => e = .returned (.int .i64 (256 * x + y)) ∧ ∃ n, w' = w.drewN n := by
  have k0 : (0 : Int) ≤ (k : Int) := by omega
  have k1 : (k : Int) < (n : Int) := by omega
  have k2 : ((k : Int) + 1) < (n : Int) := by omega
  have k3 : IntKind.i64.wrap ((k : Int) + 1) = ((k + 1 : Nat) : Int) := by rw [IntKind.wrap_i64]; omega
  have k4 : IntKind.i64.wrap (256 * x) = 256 * x := by rw [IntKind.wrap_i64]; omega
  have k5 : IntKind.i64.wrap (256 * x + y) = 256 * x + y := by rw [IntKind.wrap_i64]; omega
  go_enter Try.func92, Try.ntmps92
  go_wp2_with fail
  go_quiet (fail)
  go_wp2
  go_ret
  exact ⟨rfl, _, rfl⟩
theorem or256 (x y : Int) (hx : 0 ≤ x ∧ x ≤ 255) (hy : 0 ≤ y ∧ y ≤ 255) : bits .or .i64 (256 * x) y = 256 * x + y := by
  obtain ⟨X, rfl⟩ := Int.eq_ofNat_of_zero_le hx.1
  obtain ⟨Y, rfl⟩ := Int.eq_ofNat_of_zero_le hy.1
  have h := i64_or_nat (2 ^ 8 * X) Y (by omega) (by omega)
  have e : (2 ^ 8 * X) ||| Y = 2 ^ 8 * X + Y := (Nat.two_pow_add_eq_or_of_lt (by omega) X).symm
  rw [e] at h
  simpa using h
set_option maxRecDepth 100000 in
set_option maxHeartbeats 2000000 in
theorem numberAt_any (b off c n k : Nat) (x y : Int) (w : World) (hk : k + 1 < n) (hn : n ≤ 1099511627776) (hx : w.cell? ⟨b, off + k, none⟩ = some (.int .u8 x)) (hy : w.cell? ⟨b, off + (k + 1), none⟩ = some (.int .u8 y))
    (hx0 : 0 ≤ x ∧ x ≤ 255) (hy0 : 0 ≤ y ∧ y ≤ 255) :
    Calls Try.prog 94 #[.slice (some ⟨b, off, none⟩) n c, .int .i64 k] w fun e w' => e = .returned (.int .i64 (256 * x + y)) ∧ ∃ n, w' = w.drewN n := by
  have k0 : (0 : Int) ≤ (k : Int) := by omega
  have k1 : (k : Int) < (n : Int) := by omega
  have k2 : ((k : Int) + 1) < (n : Int) := by omega
  have k3 : IntKind.i64.wrap ((k : Int) + 1) = ((k + 1 : Nat) : Int) := by rw [IntKind.wrap_i64]; omega
  have k4 : IntKind.i64.wrap (256 * x) = 256 * x := by rw [IntKind.wrap_i64]; omega
  have k5 := or256 x y hx0 hy0
  have HK : Hid (bits .or .i64 (x * 256) y = 256 * x + y) := by rw [Int.mul_comm x 256]; exact k5
  clear k5
  go_enter Try.func94, Try.ntmps94
  go_wp2_with fail
  go_quiet (fail)
  go_wp2
  go_ret
  exact ⟨ret_int HK.out, _, rfl⟩
end U
end Go.Proofs.Ytcdodpcdennemaa
