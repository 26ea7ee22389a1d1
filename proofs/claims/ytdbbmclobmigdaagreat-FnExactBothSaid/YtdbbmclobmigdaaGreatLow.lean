/- What the small functions of the model of chapter 1 answer: a range, a code point, its size, a first byte, the code point at a place. -/
import Derived.Test.YtdbbmclobmigdaaGreatRows
import Derived.Test.YtdbbmclobmigdaaGreatMath
import Derived.WalkKit
import Derived.WalkSpells
import Derived.WalkLawsBesides
namespace Go.Proofs.YtdbbmclobmigdaaGreat
open Go.RowKit
namespace U
theorem inB_t {v lo hi : Int} (h1 : lo ≤ v) (h2 : v ≤ hi) : inB v lo hi = true := by unfold inB; simp; omega
theorem inB_f {v lo hi : Int} (h : v < lo ∨ hi < v) : inB v lo hi = false := by unfold inB; simp; omega
theorem ret_bool {a b : Bool} (h : a = b) : Ending.returned (.bool a) = .returned (.bool b) := by rw [h]
theorem ret_int {k : IntKind} {a b : Int} (h : a = b) : Ending.returned (.int k a) = .returned (.int k b) := by rw [h]

set_option maxHeartbeats 400000 in
theorem l1In_any (v lo hi : Int) (w : World) :
    Calls Tryz.prog 66 #[.int .i64 v, .int .i64 lo, .int .i64 hi] w fun e w' => e = .returned (.bool (inB v lo hi)) ∧ w' = w := by
  by_cases h1 : lo ≤ v
  · by_cases h2 : v ≤ hi
    · go_enter Tryz.func66, Tryz.ntmps66
      go_wp2
      go_ret
      exact ⟨ret_bool (inB_t h1 h2).symm, rfl⟩
    · have h2 : hi < v := by omega
      go_enter Tryz.func66, Tryz.ntmps66
      go_wp2
      go_ret
      exact ⟨ret_bool (inB_f (Or.inr h2)).symm, rfl⟩
  · have h1 : v < lo := by omega
    go_enter Tryz.func66, Tryz.ntmps66
    go_wp2
    go_ret
    exact ⟨ret_bool (inB_f (Or.inl h1)).symm, rfl⟩

set_option maxHeartbeats 400000 in
theorem l1Size_any (r : Int) (w : World) :
    Calls Tryz.prog 125 #[.int .i64 r] w fun e w' => e = .returned (.int .i64 (sizeI r)) ∧ w' = w := by
  rcases sizeI_cases r with ⟨h, e⟩ | ⟨h1, h, e⟩ | ⟨h1, h, e⟩ | ⟨h, e⟩
  all_goals
    rw [e]; clear e
    go_enter Tryz.func125, Tryz.ntmps125
    go_wp2
    go_ret
    exact ⟨rfl, rfl⟩

theorem runeB_t {r : Int} (h : inB r 0 1114111 = true) (h2 : inB r 55296 57343 = false) : runeB r = true := by unfold runeB inB at *; simp at *; omega
theorem runeB_f {r : Int} (h : inB r 0 1114111 = false ∨ inB r 55296 57343 = true) : runeB r = false := by unfold runeB inB at *; simp at *; omega
set_option maxHeartbeats 400000 in
theorem l1Rune_any (r : Int) (w : World) :
    Calls Tryz.prog 124 #[.int .i64 r] w fun e w' => e = .returned (.bool (runeB r)) ∧ w' = w := by
  rcases Bool.eq_false_or_eq_true (inB r 0 1114111) with h1 | h1
  · rcases Bool.eq_false_or_eq_true (inB r 55296 57343) with h2 | h2
    · rw [runeB_f (Or.inr h2)]
      go_enter Tryz.func124, Tryz.ntmps124
      go_wp2_with (go_at_call 66; refine (l1In_any _ _ _ _).mono ?_; rintro e w' ⟨rfl, rfl⟩)
      go_ret
      exact ⟨rfl, rfl⟩
    · rw [runeB_t h1 h2]
      go_enter Tryz.func124, Tryz.ntmps124
      go_wp2_with (go_at_call 66; refine (l1In_any _ _ _ _).mono ?_; rintro e w' ⟨rfl, rfl⟩)
      go_ret
      exact ⟨rfl, rfl⟩
  · rw [runeB_f (Or.inl h1)]
    go_enter Tryz.func124, Tryz.ntmps124
    go_wp2_with (go_at_call 66; refine (l1In_any _ _ _ _).mono ?_; rintro e w' ⟨rfl, rfl⟩)
    go_ret
    exact ⟨rfl, rfl⟩

theorem lead_cases' (b : Int) : (b < 128 ∧ leadN b = 1 ∧ leadR b = b) ∨ (192 ≤ b ∧ b < 224 ∧ leadN b = 2 ∧ leadR b = b - 192) ∨ (224 ≤ b ∧ b < 240 ∧ leadN b = 3 ∧ leadR b = b - 224) ∨ (240 ≤ b ∧ b < 248 ∧ leadN b = 4 ∧ leadR b = b - 240) ∨ (128 ≤ b ∧ b < 192 ∧ leadN b = 0 ∧ leadR b = 0) ∨ (248 ≤ b ∧ leadN b = 0 ∧ leadR b = 0) := by
  unfold leadN leadR
  by_cases a : b < 128
  · left; simp [a]
  by_cases c : 192 ≤ b ∧ b < 224
  · right; left; simp [a, c]
  by_cases d : 224 ≤ b ∧ b < 240
  · right; right; left; simp [a, c, d]
  by_cases e : 240 ≤ b ∧ b < 248
  · right; right; right; left; simp [a, c, d, e]
  · right; right; right; right; simp [a, c, d, e]; omega
set_option maxHeartbeats 1000000 in
theorem l1Lead_any (b : Int) (w : World) (h0 : 0 ≤ b) (h1 : b ≤ 255) :
    Calls Tryz.prog 123 #[.int .i64 b] w fun e w' => e = .returned (.tuple #[.int .i64 (leadN b), .int .i64 (leadR b)]) ∧ w' = w := by
  rcases lead_cases' b with ⟨h, e, f⟩ | ⟨h, h', e, f⟩ | ⟨h, h', e, f⟩ | ⟨h, h', e, f⟩ | ⟨h, h', e, f⟩ | ⟨h, e, f⟩
  all_goals
    rw [e, f]; clear e f
    go_enter Tryz.func123, Tryz.ntmps123
    go_wp2
    go_ret2
    exact ⟨rfl, rfl⟩
end U
end Go.Proofs.YtdbbmclobmigdaaGreat
