/- The sums of what is empty, by the program and by the model. -/
import Derived.Test.YtpelafkjnmcdgaaSl1
import Derived.Test.YtpelafkjnmcdgaaQuiet
import Derived.Deep.RegionHeld3
namespace Go.Proofs.Ytpelafkjnmcdgaa
open Go.RowKit
namespace U
theorem pair_tag {tag a b : Int} (ht : 1 ≤ tag ∧ tag ≤ 9) (ha : 0 ≤ a ∧ a ≤ 65520) (hb : 0 ≤ b ∧ b ≤ 65520) : tgC tag [a, b] = 0 ∧ tsV tag [a, b] = sumL (tagL tag [a, b]) := by
  have h1 : inB tag 1 9 = true := inB_t ht.1 ht.2
  have h3 : [a, b].all sumB = true := by simp [sumB_iff, ha, hb]
  have h2 : ¬ 20 < [a, b].length := by simp
  have := tg_ok h1 h2 h3
  exact ⟨this.1, by rw [ts_ok this.1, this.2]⟩
theorem two_ints (w : World) (a b : Int) (t : TypeId) : Ints .i64 (w.alloc (.cells #[.int .i64 a, .int .i64 b] t)) (.slice (some ⟨w.heap.size, 0, none⟩) 2 2) [a, b] := by
  refine Or.inr ⟨w.heap.size, 0, 2, rfl, by simp, fun j hj => ?_⟩
  have hh := heap_alloc_new w (.cells #[.int .i64 a, .int .i64 b] t)
  have hj2 : j < 2 := hj
  rcases (by omega : j = 0 ∨ j = 1) with rfl | rfl <;> (unfold World.cell?; rw [hh]; rfl)
theorem two_ints_at {w : World} {g : Nat} {a b : Int} {t : TypeId} (hg : g = w.heap.size) : Ints .i64 (w.alloc (.cells #[.int .i64 a, .int .i64 b] t)) (.slice (some ⟨g, 0, none⟩) 2 2) [a, b] := by subst hg; exact two_ints w a b t
theorem field_IR1 (x y : Int) (w : World) : (Instr.field 39 (.agg #[.int .i64 x, .int .i64 y]) 1).run Try.prog w = .ok (.int .i64 y) w := by kernel_rfl
set_option maxRecDepth 100000 in
theorem pairSum_any (a b : Int) (w : World) (ha : 0 ≤ a ∧ a ≤ 65520) (hb : 0 ≤ b ∧ b ≤ 65520) :
    Calls Try.prog 189 #[.int .i64 a, .int .i64 b] w fun e w' => e = .returned (.int .i64 (t2 a b)) ∧ Below w.heap.size w w' := by
  have hT := fun (w : World) hv => implTagSum_any 2 (.slice (some ⟨w.heap.size, 0, none⟩) 2 2) [a, b] (w.alloc (.cells #[.int .i64 a, .int .i64 b] 2)) hv (by simp)
  have hp := pair_tag (tag := 2) (by omega) ha hb
  rw [hp.1, hp.2] at hT
  have e0 : sumL (tagL 2 [a, b]) = t2 a b := rfl
  rw [e0] at hT
  generalize t2 a b = s at *
  clear hp e0
  have kf := fun w => field_IR1 0 s w
  go_enter Try.func189, Try.ntmps189
  go_wp2_with fail
  refine (hT _ (two_ints _ _ _ _)).mono ?_
  rintro e w1 ⟨rfl, hb1⟩
  clear hT
  go_wp2
  go_ret
  exact ⟨rfl, below_after hb1⟩
set_option maxRecDepth 100000 in
set_option maxHeartbeats 1000000 in
theorem l2Tag2_any (tag a b : Int) (u : Value) (w : World) (ht : 0 ≤ tag ∧ tag ≤ 255) (hu : Ints .i64 w u [a, b]) (ha : 0 ≤ a ∧ a ≤ 65520) (hb : 0 ≤ b ∧ b ≤ 65520) :
    Calls Try.prog 133 #[.int .i64 tag, u] w fun e w' => e = .returned (.int .i64 (sumL (tagL tag [a, b]))) ∧ Below w.heap.size w w' := by
  have h3 : [a, b].all sumB = true := by simp [sumB_iff, ha, hb]
  have hB := fun w h => l2Bytes_any tag u [a, b] w h (by simp) ht h3
  have hS := fun v w h => l2Sum_any v (tagL tag [a, b]) w h (tagL_bts ht h3) (by rw [tagL_len]; simp)
  have hl : (tagL tag [a, b]).length = 5 := by rw [tagL_len]; rfl
  have HU : Hid (Ints .i64 w u [a, b]) := hu
  obtain ⟨a', c', hu2⟩ := hu.shape
  have hu3 : u = .slice a' 2 c' := hu2
  subst hu3
  clear hu2
  rw [hl] at hB
  have HL : Hid ((tagL tag [a, b]).length = 5) := hl
  generalize sumL (tagL tag [a, b]) = s at *
  generalize tagL tag [a, b] = ys at *
  clear hu hl h3 ha hb ht
  go_enter Try.func133, Try.ntmps133
  go_wp2_with fail
  refine (hB _ HU.out).mono ?_
  rintro e w1 ⟨v', rfl, own1, hb1⟩
  rw [← HL.out] at own1
  have HI : Hid (Ints .u8 w1 v' ys) := own_ints own1
  obtain ⟨a1, c1, rfl⟩ := own_shape own1
  rw [HL.out] at HI ⊢
  clear hB own1
  go_wp2_with fail
  refine (hS _ _ HI.out).mono ?_
  rintro e w2 ⟨rfl, rfl⟩
  clear hS
  go_wp2
  go_ret
  exact ⟨rfl, hb1⟩
set_option maxRecDepth 100000 in
set_option maxHeartbeats 1000000 in
theorem l4Empty_any (n : Nat) (w : World) (hn : n ≤ 1000) :
    Calls Try.prog 184 #[.int .i64 (n : Int)] w fun e w' => e = .returned (.int .i64 (emp n)) ∧ Below w.heap.size w w' := by
  have hS := fun w => l2Sum_any (.slice none 0 0) [] w (Or.inl ⟨rfl, _, _, rfl⟩) (fun b hb => by cases hb) (by simp)
  have e0 : sumL [] = 13 := rfl
  rw [e0] at hS
  go_enter Try.func184, Try.ntmps184
  go_wp2_with fail
  refine (hS _).mono ?_
  rintro e w1 ⟨rfl, rfl⟩
  clear hS e0
  go_wp2
  go_loopw [0, 3] (fun i s wr => ∃ k : Nat, k ≤ n ∧ i = .int .i64 k ∧ s = .int .i64 (emp (n - k)) ∧ Below w1.heap.size w1 wr) (fun i _ _ => (intOf i).toNat)
  case atStart => exact ⟨n, Nat.le_refl _, rfl, by rw [Nat.sub_self]; rfl, Below.refl _ _⟩
  case round =>
    obtain ⟨k, hk, rfl, rfl, hB⟩ := hrel
    by_cases h0 : 0 < k
    · have hi0 : (0 : Int) < (k : Int) := by omega
      have hbd := emp_bd (n - k)
      have he : Hid (emp (n - (k - 1)) = sumL (tagL 2 [emp (n - k), emp (n - k)])) := by
        show _ = _
        rw [show n - (k - 1) = (n - k) + 1 by omega]
        rfl
      generalize emp (n - k) = x at *
      have hT := fun w u hu => l2Tag2_any 2 x x u w (by omega) hu hbd hbd
      generalize sumL (tagL 2 [x, x]) = y at *
      go_wp2_with fail
      refine (hT _ _ (two_ints _ _ _ _)).mono ?_
      rintro e w2 ⟨rfl, hb2⟩
      have hB2 := below_after_of hB (below_after hb2)
      clear hT hb2 hB
      go_wp2
      go_roundw
      case rel => exact ⟨k - 1, by omega, by go_num, by rw [he.out], hB2⟩
      case measure => simp [intOf]; omega
    · have : k = 0 := by omega
      subst this
      go_wp2
      go_ret
      exact ⟨rfl, hB⟩
/-- The code and the value of the sum of what is empty. -/
def eC (n : Int) : Int := if inB n 0 8 = true then 0 else 3
def eV (n : Int) : Int := if inB n 0 8 = true then emp n.toNat else 0
end U
end Go.Proofs.Ytpelafkjnmcdgaa
