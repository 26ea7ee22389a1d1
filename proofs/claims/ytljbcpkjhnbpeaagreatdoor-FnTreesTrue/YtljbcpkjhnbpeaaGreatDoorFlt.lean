/- A number below 65536, kept as a float, comes back. -/
import Derived.WalkLawsBesides
namespace Go.Proofs.YtljbcpkjhnbpeaaGreatDoor
namespace U
theorem fl_word (n : Nat) (L : Nat) (hL : n.log2 = L) (h0 : n ≠ 0) (h15 : L ≤ 15) (hhi : n < 2 ^ (L + 1)) :
    floatOfInt .f64 (n : Int) = (L + 1022) * 2 ^ 52 + n * 2 ^ (52 - L) := by
  have hneg : ((n : Int) < 0) = False := by simp
  simp only [floatOfInt, FloatKind.nearest, FloatKind.encode, FloatKind.format, Ieee.Format.write, Ieee.Format.nearest, hneg, Int.natAbs_natCast, decide_false, if_neg h0, hL, Ieee.double, Ieee.Format.leastPlace, Ieee.Format.word, Ieee.Format.binade, Ieee.Format.infRung, Ieee.Toward.cut]
  have e1 : max (0 + (L : Int) - ((52 : Nat) : Int)) (2 - 2 ^ (11 - 1) - ((52 : Nat) : Int)) = (L : Int) - 52 := by
    have : (2 : Int) ^ (11 - 1) = 1024 := by decide
    omega
  have e2 : (0 - ((L : Int) - 52)).toNat = 52 - L := by omega
  have e3 : ((L : Int) - 52 - 0).toNat = 0 := by omega
  have e4 : ((L : Int) - 52 - (2 - 2 ^ (11 - 1) - ((52 : Nat) : Int))).toNat = L + 1022 := by
    have : (2 : Int) ^ (11 - 1) = 1024 := by decide
    omega
  rw [e1, e2, e3, e4]
  have hb : n * 2 ^ (52 - L) < 2 ^ 53 := by
    have : n * 2 ^ (52 - L) < 2 ^ (L + 1) * 2 ^ (52 - L) := Nat.mul_lt_mul_of_pos_right hhi (Nat.two_pow_pos _)
    rw [← Nat.pow_add] at this
    rwa [show L + 1 + (52 - L) = 53 by omega] at this
  clear e1 e2 e3 e4
  simp [Nat.shiftLeft_eq, Nat.mod_one]
  omega

theorem fl_toVal {src : FloatKind} {bits : Nat} {dst : IntKind} {n : Int} (h : (src.decode bits).toInt .zero = some n) (hr : dst.min ≤ n ∧ n ≤ dst.max) : floatToIntVal src bits dst = some n := by
  unfold floatToIntVal
  rw [h]
  simp [hr]

theorem fl_back (n : Nat) (h : n < 65536) : floatToIntVal .f64 (floatOfInt .f64 (n : Int)) .i64 = some (n : Int) := by
  by_cases h0 : n = 0
  · subst h0; decide +kernel
  · obtain ⟨L, hL⟩ : ∃ L, n.log2 = L := ⟨_, rfl⟩
    have hlo : 2 ^ L ≤ n := by rw [← hL]; exact Nat.log2_self_le h0
    have hhi : n < 2 ^ (L + 1) := by rw [← hL]; exact Nat.lt_log2_self
    have h15 : L ≤ 15 := by
      apply Nat.le_of_not_lt
      intro hc
      have : 2 ^ 16 ≤ 2 ^ L := Nat.pow_le_pow_right (by omega) hc
      omega
    rw [fl_word n L hL h0 h15 hhi]
    have hb1 : n * 2 ^ (52 - L) < 2 ^ 53 := by
      have : n * 2 ^ (52 - L) < 2 ^ (L + 1) * 2 ^ (52 - L) := Nat.mul_lt_mul_of_pos_right hhi (Nat.two_pow_pos _)
      rw [← Nat.pow_add] at this
      rwa [show L + 1 + (52 - L) = 53 by omega] at this
    have hb2 : 2 ^ 52 ≤ n * 2 ^ (52 - L) := by
      have : 2 ^ L * 2 ^ (52 - L) ≤ n * 2 ^ (52 - L) := Nat.mul_le_mul_right _ hlo
      rw [← Nat.pow_add] at this
      rwa [show L + (52 - L) = 52 by omega] at this
    obtain ⟨m, hm⟩ : ∃ m, n * 2 ^ (52 - L) = m := ⟨_, rfl⟩
    have hrd : (FloatKind.f64.decode ((L + 1022) * 2 ^ 52 + n * 2 ^ (52 - L))) = .number false (n * 2 ^ (52 - L)) ((L : Int) - 52) := by
      rw [hm] at hb1 hb2 ⊢
      have q1 : ((L + 1022) * 2 ^ 52 + m) / 2 ^ 63 = 0 := by omega
      have q2 : ((L + 1022) * 2 ^ 52 + m) % 2 ^ 63 = (L + 1022) * 2 ^ 52 + m := by omega
      have q3 : ((L + 1022) * 2 ^ 52 + m) / 2 ^ 52 = L + 1023 := by omega
      have q4 : ((L + 1022) * 2 ^ 52 + m) % 2 ^ 52 = m - 2 ^ 52 := by omega
      simp only [FloatKind.decode, FloatKind.format, Ieee.Format.read, Ieee.double, Ieee.Format.signWeight, Ieee.Format.binade, Ieee.Format.infRung, Ieee.Format.leastPlace, Nat.reduceAdd, q1, q2, q3, q4]
      rw [if_neg (by omega), if_pos (by omega)]
      have z1 : 2 ^ 52 + (m - 2 ^ 52) = m := by omega
      have z2 : (2 : Int) - 2 ^ (11 - 1) - ((52 : Nat) : Int) + ((L + 1023 - 1 : Nat) : Int) = (L : Int) - 52 := by
        have : (2 : Int) ^ (11 - 1) = 1024 := by decide
        omega
      rw [z1, z2]
      rfl
    have hti : (Ieee.Datum.number false (n * 2 ^ (52 - L)) ((L : Int) - 52)).toInt .zero = some (n : Int) := by
      have hlog : 52 - L ≤ (n * 2 ^ (52 - L)).log2 := by
        have : (52 : Nat) ≤ (n * 2 ^ (52 - L)).log2 := (Nat.le_log2 (by omega)).2 hb2
        omega
      have e1 : ((L : Int) - 52).toNat = 0 := by omega
      have e2 : (-((L : Int) - 52)).toNat = 52 - L := by omega
      have hc : Ieee.Toward.cut .zero false ((n * 2 ^ (52 - L)) <<< 0) (52 - L) = n := by
        unfold Ieee.Toward.cut
        simp only [Nat.shiftLeft_zero, Bool.toNat_false, Nat.add_zero]
        rw [Nat.min_eq_left (Nat.le_trans hlog (Nat.le_add_right _ _)), Nat.one_shiftLeft, Nat.mul_div_cancel _ (Nat.two_pow_pos _)]
      unfold Ieee.Datum.toInt Ieee.Datum.integral
      simp only [e1, e2, hc]
      simp [Ieee.signed]
    have hr : (IntKind.i64.min : Int) ≤ n ∧ (n : Int) ≤ IntKind.i64.max := by
      have a : IntKind.i64.min = -9223372036854775808 := by decide +kernel
      have b : IntKind.i64.max = 9223372036854775807 := by decide +kernel
      rw [a, b]; omega
    refine fl_toVal ?_ hr
    rw [hrd, hti]
end U
end Go.Proofs.YtljbcpkjhnbpeaaGreatDoor
