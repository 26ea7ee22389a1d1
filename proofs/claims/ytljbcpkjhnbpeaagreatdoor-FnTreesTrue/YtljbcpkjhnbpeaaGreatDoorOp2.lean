/- Two sums as one complex number, by the program. -/
import Derived.Test.YtljbcpkjhnbpeaaGreatDoorOp1
import Derived.Test.YtljbcpkjhnbpeaaGreatDoorFlt
namespace Go.Proofs.YtljbcpkjhnbpeaaGreatDoor
open Go.RowKit
namespace U
/-- Two sums, as one number. -/
def cx (a b : Int) : Value := .complex .f64 (floatOfInt .f64 a) (floatOfInt .f64 b)
theorem fl_int {a : Int} (h : 0 ≤ a ∧ a ≤ 65520) : floatToIntVal .f64 (floatOfInt .f64 a) .i64 = some a := by
  obtain ⟨n, rfl⟩ : ∃ n : Nat, a = n := ⟨a.toNat, by omega⟩
  exact fl_back n (by omega)
set_option maxRecDepth 100000 in
theorem bothSides_even (q s o : Int) (w : World) (hq : 0 ≤ q) (h : q % 2 = 0) :
    Calls Tryz.prog 184 #[.int .i64 q, .int .i64 s, .int .i64 o] w fun e w' => e = .returned (cx s o) ∧ w' = w := by
  have ht : Int.tmod q 2 = 0 := by rw [Int.tmod_eq_emod_of_nonneg hq]; exact h
  go_enter Tryz.func184, Tryz.ntmps184
  go_wp2
  go_ret
  exact ⟨rfl, rfl⟩
set_option maxRecDepth 100000 in
theorem bothSides_odd (q s o : Int) (w : World) (hq : 0 ≤ q) (h : ¬ q % 2 = 0) :
    Calls Tryz.prog 184 #[.int .i64 q, .int .i64 s, .int .i64 o] w fun e w' => e = .returned (cx o s) ∧ w' = w := by
  have ht : ¬ Int.tmod q 2 = 0 := by rw [Int.tmod_eq_emod_of_nonneg hq]; exact h
  go_enter Tryz.func184, Tryz.ntmps184
  go_wp2
  go_ret
  exact ⟨rfl, rfl⟩
/-- The number, taken apart again. -/
theorem conv_fl {a : Int} (h : 0 ≤ a ∧ a ≤ 65520) (w : World) : (convert 261 2 (.float .f64 (floatOfInt .f64 a))).run Tryz.prog w = .ok (.int .i64 a) w :=
  run_convert_float_int w 261 2 .f64 .i64 _ a (by rw [Tryz.underlying261]; rfl) Tryz.underlying2 (fl_int h)
set_option maxRecDepth 100000 in
theorem nodeSum_any (a b : Int) (w : World) (ha : 0 ≤ a ∧ a ≤ 65520) (hb : 0 ≤ b ∧ b ≤ 65520) :
    Calls Tryz.prog 185 #[cx a b] w fun e w' => e = .returned (.int .i64 (t2 a b)) ∧ Below w.heap.size w w' := by
  have hP := fun w => pairSum_any a b w ha hb
  have c1 := fun w => conv_fl ha w
  have c2 := fun w => conv_fl hb w
  unfold cx
  generalize floatOfInt .f64 a = fa at *
  generalize floatOfInt .f64 b = fb at *
  generalize t2 a b = s at *
  go_enter Tryz.func185, Tryz.ntmps185
  go_wp2_with fail
  refine (hP _).mono ?_
  rintro e w1 ⟨rfl, hb1⟩
  clear hP c1 c2
  go_wp2
  go_ret
  exact ⟨rfl, hb1⟩
theorem field_BR1 (c : Int) (a : Option Addr) (n k : Nat) (w : World) : (Instr.field 218 (.agg #[.int .i64 c, .slice a n k]) 1).run Tryz.prog w = .ok (.slice a n k) w := by kernel_rfl
set_option maxRecDepth 100000 in
theorem nodeBytes_any (a b : Int) (w : World) (ha : 0 ≤ a ∧ a ≤ 65520) (hb : 0 ≤ b ∧ b ≤ 65520) :
    Calls Tryz.prog 166 #[cx a b] w fun e w' => ∃ v', e = .returned v' ∧ w'.ownsRow w.heap.size 5 1 v' (tagL 2 [a, b]).length ((tagL 2 [a, b]).map (Value.int .u8)) ∧ Below w.heap.size w w' := by
  have hT := fun (w : World) u hv => implTagBytes_any 2 u [a, b] w hv (by simp)
  have c1 := fun w => conv_fl ha w
  have c2 := fun w => conv_fl hb w
  have e2 : tgC 2 [a, b] = 0 ∧ tgL 2 [a, b] = tagL 2 [a, b] := tg_ok (by decide) (by simp) (by simp [sumB_iff, ha, hb])
  rw [e2.1, e2.2] at hT
  clear e2
  unfold cx
  generalize floatOfInt .f64 a = fa at *
  generalize floatOfInt .f64 b = fb at *
  generalize tagL 2 [a, b] = ys at *
  go_enter Tryz.func166, Tryz.ntmps166
  go_wp2_with fail
  refine (hT _ _ (two_ints_at (by simp))).mono ?_
  intro e w1 h1
  obtain ⟨a', c', rfl, hb1, ho1⟩ := h1.use
  have HO : w1.ownsRow w.heap.size 5 1 (.slice a' ys.length c') ys.length (ys.map (Value.int .u8)) := own_mono ho1 (by simp)
  have hB1 := below_after hb1
  have kf := fun w => field_BR1 0 a' ys.length c' w
  clear h1 hT c1 c2 ho1 hb1
  go_wp2
  go_ret
  exact ⟨_, rfl, HO, hB1⟩
end U
end Go.Proofs.YtljbcpkjhnbpeaaGreatDoor
