/- The fault of a head, as both models tell it. -/
import Derived.Test.YtmjbmlojcieciaaDoorHdM
import Derived.Test.YtmjbmlojcieciaaDoorRec1
namespace Go.Proofs.YtmjbmlojcieciaaDoor
open Go.RowKit
namespace U
set_option maxHeartbeats 400000 in
theorem isEpoch_any (n : Int) (w : World) : Calls Tryd.prog 47 #[.int .i64 n] w fun e w' => e = .returned (.bool (inB n 1 10)) ∧ w' = w := by
  by_cases h1 : 1 ≤ n
  · by_cases h2 : n ≤ 10
    · rw [inB_t h1 h2]
      go_enter Tryd.func47, Tryd.ntmps47
      go_wp2
      go_ret
      exact ⟨ret_bool (by simp), rfl⟩
    · rw [inB_f (Or.inr (by omega))]
      go_enter Tryd.func47, Tryd.ntmps47
      go_wp2
      go_ret
      exact ⟨ret_bool (by simp <;> omega), rfl⟩
  · rw [inB_f (Or.inl (by omega))]
    go_enter Tryd.func47, Tryd.ntmps47
    go_wp2
    go_ret
    exact ⟨ret_bool (by simp <;> omega), rfl⟩
set_option maxHeartbeats 400000 in
theorem isPhase_any (n : Int) (w : World) : Calls Tryd.prog 48 #[.int .i64 n] w fun e w' => e = .returned (.bool (inB n 1 5)) ∧ w' = w := by
  by_cases h1 : 1 ≤ n
  · by_cases h2 : n ≤ 5
    · rw [inB_t h1 h2]
      go_enter Tryd.func48, Tryd.ntmps48
      go_wp2
      go_ret
      exact ⟨ret_bool (by simp), rfl⟩
    · rw [inB_f (Or.inr (by omega))]
      go_enter Tryd.func48, Tryd.ntmps48
      go_wp2
      go_ret
      exact ⟨ret_bool (by simp <;> omega), rfl⟩
  · rw [inB_f (Or.inl (by omega))]
    go_enter Tryd.func48, Tryd.ntmps48
    go_wp2
    go_ret
    exact ⟨ret_bool (by simp <;> omega), rfl⟩
set_option maxHeartbeats 400000 in
theorem hasOld_any (p : Int) (w : World) : Calls Tryd.prog 66 #[.int .i64 p] w fun e w' => e = .returned (.bool (hasO p)) ∧ w' = w := by
  go_enter Tryd.func66, Tryd.ntmps66
  go_wp2
  go_ret
  exact ⟨rfl, rfl⟩
set_option maxHeartbeats 400000 in
theorem hasNew_any (p : Int) (w : World) : Calls Tryd.prog 67 #[.int .i64 p] w fun e w' => e = .returned (.bool (hasN p)) ∧ w' = w := by
  by_cases h : p = 3
  · subst h
    go_enter Tryd.func67, Tryd.ntmps67
    go_wp2
    go_ret
    exact ⟨rfl, rfl⟩
  · have h1 : (p == 3) = false := by simpa using h
    go_enter Tryd.func67, Tryd.ntmps67
    go_wp2
    go_ret
    exact ⟨ret_bool (by simp [hasN, h1]), rfl⟩
set_option maxHeartbeats 400000 in
theorem l10HasOld_any (p : Int) (w : World) : Calls Tryd.prog 43 #[.int .i64 p] w fun e w' => e = .returned (.bool (hasO p)) ∧ w' = w := by
  go_enter Tryd.func43, Tryd.ntmps43
  go_wp2
  go_ret
  exact ⟨rfl, rfl⟩
set_option maxHeartbeats 400000 in
theorem l10HasNew_any (p : Int) (w : World) : Calls Tryd.prog 44 #[.int .i64 p] w fun e w' => e = .returned (.bool (hasN p)) ∧ w' = w := by
  by_cases h : p = 3
  · subst h
    go_enter Tryd.func44, Tryd.ntmps44
    go_wp2
    go_ret
    exact ⟨rfl, rfl⟩
  · have h1 : (p == 3) = false := by simpa using h
    go_enter Tryd.func44, Tryd.ntmps44
    go_wp2
    go_ret
    exact ⟨ret_bool (by simp [hasN, h1]), rfl⟩
/-- What is left of the roots in a phase. -/
def kepO (p o : Int) : Int := if hasO p = true then o else 0
def kepN (p n : Int) : Int := if hasN p = true then n else 0
def trV (o n : Int) : Value := .agg #[.int .i64 o, .int .i64 n]
theorem below_in {w : World} {o o' : Obj} : Below w.heap.size w ((w.alloc o).alloc o') := two_new _ _
set_option maxRecDepth 100000 in
set_option maxHeartbeats 1000000 in
theorem keptIn_any (o n p : Int) (w : World) : Calls Tryd.prog 51 #[trV o n, .int .i64 p] w fun e w' => e = .returned (trV (kepO p o) (kepN p n)) ∧ Below w.heap.size w w' := by
  have hO := fun w => hasOld_any p w
  have hN := fun w => hasNew_any p w
  unfold kepO kepN trV
  rcases Bool.eq_false_or_eq_true (hasO p) with ho | ho <;> rcases Bool.eq_false_or_eq_true (hasN p) with hn | hn
  all_goals (
    rw [ho] at hO ⊢
    rw [hn] at hN ⊢
    simp only [if_true, if_false, Bool.false_eq_true]
    clear ho hn
    go_enter Tryd.func51, Tryd.ntmps51
    go_wp2_with fail
    refine (hO _).mono ?_
    rintro e w1 ⟨rfl, rfl⟩
    go_wp2_with fail
    refine (hN _).mono ?_
    rintro e w1 ⟨rfl, rfl⟩
    go_wp2
    refine bodyPost_ret (v := .agg #[.int .i64 _, .int .i64 _]) (by simp [results, Tryd.results51, go_sem]) rfl ⟨rfl, ?_⟩
    exact two_new _ _)
set_option maxRecDepth 100000 in
set_option maxHeartbeats 1000000 in
theorem areSums_any (o n : Int) (w : World) : Calls Tryd.prog 49 #[trV o n] w fun e w' => e = .returned (.bool (sumB o && sumB n)) ∧ Below w.heap.size w w' := by
  have hO := fun w => isSum_any o w
  have hN := fun w => isSum_any n w
  unfold trV
  rcases Bool.eq_false_or_eq_true (sumB o) with ho | ho
  · rw [ho] at hO ⊢
    go_enter Tryd.func49, Tryd.ntmps49
    go_wp2_with fail
    refine (hO _).mono ?_
    rintro e w1 ⟨rfl, rfl⟩
    go_wp2_with fail
    refine (hN _).mono ?_
    rintro e w1 ⟨rfl, rfl⟩
    go_wp2
    go_ret
    exact ⟨ret_bool (by simp), one_new _⟩
  · rw [ho] at hO ⊢
    go_enter Tryd.func49, Tryd.ntmps49
    go_wp2_with fail
    refine (hO _).mono ?_
    rintro e w1 ⟨rfl, rfl⟩
    go_wp2
    go_ret
    exact ⟨ret_bool (by simp), one_new _⟩
set_option maxRecDepth 100000 in
set_option maxHeartbeats 1000000 in
theorem rootedOf_any (e p o n v : Int) (w : World) : Calls Tryd.prog 46 #[hdV e p o n v] w fun x w' => x = .returned (hdV e p o n v) ∧ Below w.heap.size w w' := by
  unfold hdV
  go_enter Tryd.func46, Tryd.ntmps46
  go_wp2
  refine bodyPost_ret (v := .agg #[.int .i64 e, .int .i64 p, .int .i64 o, .int .i64 n, .int .i64 v]) (by simp [results, Tryd.results46, go_sem]) rfl ⟨rfl, ?_⟩
  exact two_new _ _
set_option maxRecDepth 100000 in
set_option maxHeartbeats 1000000 in
theorem l10Numbers_any (e p v : Int) (w : World) : Calls Tryd.prog 41 #[.int .i64 e, .int .i64 p, .int .i64 v] w fun x w' => x = .returned (.bool (hdN e p v)) ∧ w' = w := by
  rcases Bool.eq_false_or_eq_true (inB e 1 10) with he | he <;> rcases Bool.eq_false_or_eq_true (inB p 1 5) with hp | hp
  all_goals (
    go_enter Tryd.func41, Tryd.ntmps41
    go_wp2_with (first | (go_at_call 54; refine (l1In_any _ _ _ _).mono ?_; rintro e wq ⟨rfl, rfl⟩) | (go_at_call 42; refine (l2Is_any _ _).mono ?_; rintro e wq ⟨rfl, rfl⟩))
    go_ret
    exact ⟨ret_bool (by simp [hdN, he, hp]), rfl⟩)
/-- Two pairs of roots held against each other. -/
theorem tr_neq (a b c d : Int) (w : World) : (binOp .neq 77 (trV a b) (trV c d)).run Tryd.prog w = .ok (.bool (!(a == c && b == d))) w := by
  unfold trV
  simp [go_sem]
  by_cases h1 : a = c <;> by_cases h2 : b = d <;> simp [h1, h2]
end U
end Go.Proofs.YtmjbmlojcieciaaDoor
