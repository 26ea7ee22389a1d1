/- Lists of bytes that are read, compared, marked and looked at anew. -/
import Derived.Test.YtdbbmclobmigdaaGreatIntR
namespace Go.Proofs.YtdbbmclobmigdaaGreat
open Go.RowKit
namespace U
/-- The marksB: as many numbers in a row. -/
def marksB (k n : Nat) : List Int := (List.range n).map fun j => (((k + j) % 256 : Nat) : Int)
theorem marksB_len (k n : Nat) : (marksB k n).length = n := by simp [marksB]
theorem marksB_at (k n j : Nat) (h : j < n) : (marksB k n).getD j 0 = (((k + j) % 256 : Nat) : Int) := by simp [marksB, h]
/-- Marked below a place, as it was from there on. -/
def halfB (xs : List Int) (k i : Nat) : List Int := marksB k i ++ xs.drop i
theorem halfB_zero (xs : List Int) (k : Nat) : halfB xs k 0 = xs := by simp [halfB, marksB]
theorem halfB_len (xs : List Int) (k i : Nat) (h : i ≤ xs.length) : (halfB xs k i).length = xs.length := by simp [halfB, marksB]; omega
theorem halfB_all (xs : List Int) (k : Nat) : halfB xs k xs.length = marksB k xs.length := by simp [halfB]
theorem halfB_set (xs : List Int) (k i : Nat) (h : i < xs.length) : (halfB xs k i).set i (((k + i) % 256 : Nat) : Int) = halfB xs k (i + 1) := by
  unfold halfB
  rw [List.set_append_right _ _ (by simp [marksB])]
  simp only [marksB_len, Nat.sub_self]
  rw [List.drop_eq_getElem_cons h, List.set_cons_zero]
  simp only [marksB, List.range_succ, List.map_append, List.map_cons, List.map_nil, List.append_assoc, List.singleton_append]
theorem wrapB (n : Nat) : IntKind.u8.wrap ((n : Nat) : Int) = ((n % 256 : Nat) : Int) := by
  rw [IntKind.wrap_u8]; omega
end U
end Go.Proofs.YtdbbmclobmigdaaGreat
