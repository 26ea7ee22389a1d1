/- Two lists of numbers that a law compares. -/
import Derived.Test.YtjkhhcpiladidaaDoorInts
namespace Go.Proofs.YtjkhhcpiladidaaDoor
open Go.RowKit
namespace U
set_option maxHeartbeats 1000000 in
theorem lwNums_core (b off c b' off' c' n : Nat) (xs ys : List Int) (w : World) (hX : Hid (xs.length = n)) (hY : Hid (ys.length = n)) (hn : n ≤ 1099511627776)
    (hc : ∀ j, j < n → w.cell? ⟨b, off + j, none⟩ = some (.int .i64 (xs.getD j 0))) (hc' : ∀ j, j < n → w.cell? ⟨b', off' + j, none⟩ = some (.int .i64 (ys.getD j 0))) :
    Calls Tryd.prog 17 #[.slice (some ⟨b, off, none⟩) n c, .slice (some ⟨b', off', none⟩) n c'] w fun e w' => e = .returned (.bool (decide (xs = ys))) ∧ ∃ n, w' = w.drewN n := by
  go_enter Tryd.func17, Tryd.ntmps17
  go_wp2
  go_loopw [5] (fun i wr => ∃ k : Nat, k ≤ n ∧ i = .int .i64 k ∧ Hid (Agree xs ys k) ∧ ∃ m, wr = w.drewN m) (fun i _ => n - (intOf i).toNat)
  case atStart => exact ⟨0, Nat.zero_le _, rfl, fun j hj => by omega, 0, rfl⟩
  case round =>
    obtain ⟨k, hk, rfl, hA, m, rfl⟩ := hrel
    by_cases hkn : k < n
    · have hx1 := hc k hkn
      have hy1 := hc' k hkn
      have hki : (k : Int) < (n : Int) := by omega
      clear hc hc'
      obtain ⟨x, hx⟩ : ∃ x, x = xs.getD k 0 := ⟨_, rfl⟩
      obtain ⟨y, hy⟩ : ∃ y, y = ys.getD k 0 := ⟨_, rfl⟩
      rw [← hx] at hx1
      rw [← hy] at hy1
      have HX : Hid (x = xs.getD k 0) := hx
      have HY : Hid (y = ys.getD k 0) := hy
      clear hx hy
      by_cases e : x = y
      · have e1 : (x != y) = false := by simpa using e
        have E : Hid (x = y) := e
        clear e
        go_wp2
        go_quiet (fail)
        go_wp2
        go_roundw
        case rel => exact ⟨k + 1, by omega, by go_num, hA.out.succ (by rw [← HX.out, ← HY.out]; exact E.out), _, rfl⟩
        case measure => simp [intOf]; omega
      · have e1 : (x != y) = true := by simpa using e
        have E : Hid (¬ x = y) := e
        clear e
        go_wp2
        go_quiet (fail)
        go_wp2
        go_ret
        refine ⟨ret_bool ?_, m + nq, by simp⟩
        symm
        rw [decide_eq_false_iff_not]
        intro e2
        exact E.out (by rw [HX.out, HY.out, e2])
    · go_wp2
      go_ret
      refine ⟨ret_bool ?_, m, rfl⟩
      symm
      rw [decide_eq_true_iff]
      have hkn : k = n := by omega
      subst hkn
      have hxl := hX.out
      exact Agree.all (by rw [hxl]; exact hA.out) (hX.out.trans hY.out.symm)

set_option maxHeartbeats 1000000 in
theorem lwNums_any (v u : Value) (xs ys : List Int) (w : World) (hv : Ints .i64 w v xs) (hu : Ints .i64 w u ys) (hx : xs.length ≤ 1099511627776) (hy : ys.length ≤ 1099511627776) :
    Calls Tryd.prog 17 #[v, u] w fun e w' => e = .returned (.bool (decide (xs = ys))) ∧ ∃ n, w' = w.drewN n := by
  obtain ⟨a, c, rfl⟩ := hv.shape
  obtain ⟨a', c', rfl⟩ := hu.shape
  by_cases hl : xs.length = ys.length
  · by_cases h0 : 0 < xs.length
    · obtain ⟨_, b, off, rfl, hb, hc⟩ := hv.at h0
      obtain ⟨_, b', off', rfl, hb', hc'⟩ := hu.at (by omega)
      rw [← hl] at hc' ⊢
      exact lwNums_core b off c b' off' c' xs.length xs ys w rfl hl.symm hx hc hc'
    · have e1 : xs = [] := List.eq_nil_of_length_eq_zero (by omega)
      have e2 : ys = [] := List.eq_nil_of_length_eq_zero (by omega)
      subst e1 e2
      simp only [List.length_nil]
      clear hv hu hl h0 hx hy
      go_enter Tryd.func17, Tryd.ntmps17
      go_wp2
      refine wp_loop_rounds 1 ?_; rw [rounds_succ]
      go_wp2
      go_ret
      exact ⟨rfl, 0, rfl⟩
  · have hne : decide (xs = ys) = false := by rw [decide_eq_false_iff_not]; intro e; exact hl (by rw [e])
    rw [hne]
    obtain ⟨n, hn⟩ : ∃ n, n = xs.length := ⟨_, rfl⟩
    obtain ⟨m, hm⟩ : ∃ m, m = ys.length := ⟨_, rfl⟩
    rw [← hn, ← hm] at hl ⊢
    have h1 : ((n : Int) != (m : Int)) = true := by simp; omega
    clear hv hu hl hne hn hm
    go_enter Tryd.func17, Tryd.ntmps17
    go_wp2
    go_ret
    exact ⟨rfl, 0, rfl⟩

end U
end Go.Proofs.YtjkhhcpiladidaaDoor
