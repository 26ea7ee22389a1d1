/- Bits set and bits kept, as sums and rests. No program is named. -/
import Derived.WalkKit
import Derived.Laws.BitsAllLaws
import Derived.Laws.Bits128
namespace Go.Proofs.Ytcdodpcdennemaa
namespace U
theorem i64_or_nat (a b : Nat) (ha : a < 2147483648) (hb : b < 2147483648) : bits .or .i64 (a : Int) (b : Int) = ((a ||| b : Nat) : Int) := by
  have hx : a ||| b < 2 ^ 31 := Nat.or_lt_two_pow (by omega) (by omega)
  show IntKind.i64.wrap ((BitVec.ofInt 64 (a : Int) ||| BitVec.ofInt 64 (b : Int)).toNat : Int) = _
  rw [BitVec.toNat_or, ofInt_u64 a (by omega), ofInt_u64 b (by omega), IntKind.wrap_i64]
  omega
theorem i64_and_nat (a b : Nat) (ha : a < 2147483648) (hb : b < 2147483648) : bits .and .i64 (a : Int) (b : Int) = ((a &&& b : Nat) : Int) := by
  have hx : a &&& b < 2 ^ 31 := Nat.and_lt_two_pow _ (by omega)
  show IntKind.i64.wrap ((BitVec.ofInt 64 (a : Int) &&& BitVec.ofInt 64 (b : Int)).toNat : Int) = _
  rw [BitVec.toNat_and, ofInt_u64 a (by omega), ofInt_u64 b (by omega), IntKind.wrap_i64]
  omega
theorem i64_and63 (x : Int) (h0 : 0 ≤ x) (h1 : x < 2147483648) : bits .and .i64 x 63 = x % 64 := by
  obtain ⟨A, rfl⟩ := Int.eq_ofNat_of_zero_le h0
  have h := i64_and_nat A 63 (by omega) (by omega)
  rw [nat_mask6] at h
  exact h
theorem i64_join (k n : Nat) (x : Int) (h0 : 0 ≤ x) (h1 : x < ((2 ^ n : Nat) : Int)) (hk : 2 ^ n * k < 256) (hn : 2 ^ n < 256) : bits .or .i64 ((2 ^ n * k : Nat) : Int) x = ((2 ^ n * k : Nat) : Int) + x := by
  obtain ⟨A, rfl⟩ := Int.eq_ofNat_of_zero_le h0
  have h := i64_or_nat (2 ^ n * k) A (by omega) (by omega)
  have e : (2 ^ n * k) ||| A = 2 ^ n * k + A := (Nat.two_pow_add_eq_or_of_lt (by omega) k).symm
  rw [e] at h
  exact h
theorem or0 (x : Int) (h0 : 0 ≤ x) (h1 : x < 128) : bits .or .i64 0 x = x := by
  have := i64_join 0 7 x h0 (by simpa using h1) (by decide) (by decide)
  simpa using this
theorem or128 (x : Int) (h0 : 0 ≤ x) (h1 : x < 128) : bits .or .i64 128 x = 128 + x := by
  have := i64_join 1 7 x h0 (by simpa using h1) (by decide) (by decide)
  simpa using this
theorem or192 (x : Int) (h0 : 0 ≤ x) (h1 : x < 64) : bits .or .i64 192 x = 192 + x := by
  have := i64_join 3 6 x h0 (by simpa using h1) (by decide) (by decide)
  simpa using this
theorem or224 (x : Int) (h0 : 0 ≤ x) (h1 : x < 32) : bits .or .i64 224 x = 224 + x := by
  have := i64_join 7 5 x h0 (by simpa using h1) (by decide) (by decide)
  simpa using this
theorem or240 (x : Int) (h0 : 0 ≤ x) (h1 : x < 16) : bits .or .i64 240 x = 240 + x := by
  have := i64_join 15 4 x h0 (by simpa using h1) (by decide) (by decide)
  simpa using this
/-- A byte that goes on: the six bits at a place. -/
theorem byteOn (x : Int) (h0 : 0 ≤ x) (h1 : x < 2147483648) : bits .or .i64 128 (bits .and .i64 x 63) = 128 + x % 64 := by
  rw [i64_and63 x h0 h1, or128 _ (by omega) (by omega)]
end U
end Go.Proofs.Ytcdodpcdennemaa
