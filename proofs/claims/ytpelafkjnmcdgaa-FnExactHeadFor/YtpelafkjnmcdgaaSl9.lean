/- Where a key stands: a binary search over slots. -/
import Derived.Test.YtpelafkjnmcdgaaSl1
namespace Go.Proofs.Ytpelafkjnmcdgaa
open Go.RowKit
namespace U
def cmpI (x k : Int) : Int := if x < k then -1 else if k < x then 1 else 0
set_option maxRecDepth 100000 in
theorem isNaN_any (x : Int) (w : World) : Calls Try.prog 167 #[.int .i64 x] w fun e w' => e = .returned (.bool false) ∧ ∃ n, w' = w.drewN n := by
  go_enter Try.func167, Try.ntmps167
  go_wp2
  go_ret
  exact ⟨ret_bool (by simp), 0, rfl⟩
set_option maxRecDepth 100000 in
theorem compare_any (x k : Int) (w : World) : Calls Try.prog 140 #[.int .i64 x, .int .i64 k] w fun e w' => e = .returned (.int .i64 (cmpI x k)) ∧ ∃ n, w' = w.drewN n := by
  have hN := fun x w => isNaN_any x w
  unfold cmpI
  by_cases h1 : x < k
  · rw [if_pos h1]
    go_enter Try.func140, Try.ntmps140
    go_wp2_with (go_at_call 167; refine (hN _ _).mono ?_; rintro e w1 ⟨rfl, n1, rfl⟩)
    go_ret
    exact ⟨rfl, _, rfl⟩
  · rw [if_neg h1]
    by_cases h2 : k < x
    · rw [if_pos h2]
      go_enter Try.func140, Try.ntmps140
      go_wp2_with (go_at_call 167; refine (hN _ _).mono ?_; rintro e w1 ⟨rfl, n1, rfl⟩)
      go_ret
      exact ⟨rfl, _, rfl⟩
    · rw [if_neg h2]
      go_enter Try.func140, Try.ntmps140
      go_wp2_with (go_at_call 167; refine (hN _ _).mono ?_; rintro e w1 ⟨rfl, n1, rfl⟩)
      go_ret
      exact ⟨rfl, _, rfl⟩
set_option maxRecDepth 100000 in
theorem placeOf1_any (x y k : Int) (w : World) : Calls Try.prog 139 #[.agg #[.int .i64 x, .int .i64 y], .int .i64 k] w fun e w' => e = .returned (.int .i64 (cmpI x k)) ∧ Below w.heap.size w w' := by
  have hC := fun w => compare_any x k w
  generalize cmpI x k = c at *
  go_enter Try.func139, Try.ntmps139
  go_wp2_with fail
  refine (hC _).mono ?_
  rintro e w1 ⟨rfl, n1, rfl⟩
  clear hC
  go_wp2
  go_ret
  exact ⟨rfl, below_drewN (one_new _) _⟩
set_option maxRecDepth 100000 in
set_option maxHeartbeats 2000000 in
theorem binarySearch_core (b off c n : Nat) (l : Prl) (k : Int) (w : World) (HN : Hid (n = l.length)) (hn : n ≤ 12) (hb : b < w.heap.size) (HR : Hid (Ris l))
    (hc : ∀ j, j < n → w.cell? ⟨b, off + j * 2, none⟩ = some (.int .i64 (pAt l j).1) ∧ w.cell? ⟨b, off + j * 2 + 1, none⟩ = some (.int .i64 (pAt l j).2)) :
    Calls Try.prog 138 #[.slice (some ⟨b, off, none⟩) n c, .int .i64 k, .func (.func 139) #[] #[]] w fun e w' => e = .returned (.tuple #[.int .i64 (low l k : Nat), .bool (thr l k)]) ∧ Below w.heap.size w w' := by
  have hll : low l k ≤ n := by have := low_le l k; have := HN.out; omega
  have HI : Hid (∀ i, i < n → ((pAt l i).1 < k ↔ i < low l k)) := fun i hi => low_iff HR.out k (by have := HN.out; omega)
  have HC : Hid (∀ j, j < n → w.cell? ⟨b, off + j * 2, none⟩ = some (.int .i64 (pAt l j).1) ∧ w.cell? ⟨b, off + j * 2 + 1, none⟩ = some (.int .i64 (pAt l j).2)) := hc
  have HT : Hid (thr l k = (decide (low l k < n) && decide ((pAt l (low l k)).1 = k))) := by show _ = _; rw [HN.out]; rfl
  have HCM := fun x y w => placeOf1_any x y k w
  generalize thr l k = th at *
  generalize low l k = lo at *
  clear hc
  go_enter Try.func138, Try.ntmps138
  go_wp2
  go_loopw [9, 10] (fun a z wr => ∃ i j : Nat, a = .int .i64 i ∧ z = .int .i64 j ∧ i ≤ lo ∧ lo ≤ j ∧ j ≤ n ∧ Below w.heap.size w wr) (fun a z _ => (intOf z).toNat - (intOf a).toNat)
  case atStart => exact ⟨0, n, rfl, rfl, by omega, hll, by omega, Below.refl _ _⟩
  case round =>
    obtain ⟨i, j, rfl, rfl, hi, hj, hjn, hB⟩ := hrel
    by_cases hij : i < j
    · have hiji : (i : Int) < (j : Int) := by omega
      obtain ⟨h, hh⟩ : ∃ h, h = (i + j) / 2 := ⟨_, rfl⟩
      have h1 : i ≤ h := by omega
      have h2 : h < j := by omega
      have h3 : h < n := by omega
      obtain ⟨c0, c1⟩ := HC.out h h3
      have c0 := (hB.cell (p := ⟨b, off + h * 2, none⟩) hb).trans c0
      have c1 := (hB.cell (p := ⟨b, off + h * 2 + 1, none⟩) hb).trans c1
      have hM := fun w => HCM (pAt l h).1 (pAt l h).2 w
      have HX := HI.out h h3
      generalize (pAt l h).1 = x at *
      generalize (pAt l h).2 = y at *
      have e1 : IntKind.u64.wrap ((i : Int) + (j : Int)) = (i : Int) + (j : Int) := by rw [IntKind.wrap_u64]; omega
      have e2 : ((i : Int) + (j : Int)) / 2 = (h : Int) := by omega
      have hhn : (h : Int) < (n : Int) := by omega
      have HH : Hid (h = (i + j) / 2) := hh
      clear hh
      go_wp2_with fail
      refine (hM _).mono ?_
      rintro e w1 ⟨rfl, hb1⟩
      have hB1 := below_after_of hB hb1
      clear hM hb1 HCM
      by_cases hx : x < k
      · have hlt := HX.1 hx
        have ec : cmpI x k = -1 := by unfold cmpI; rw [if_pos hx]
        rw [ec]
        clear HX ec
        go_wp2
        go_roundw
        case rel => exact ⟨h + 1, j, by go_num, rfl, by omega, hj, hjn, hB1⟩
        case measure => simp [intOf]; omega
      · have hge : lo ≤ h := Nat.le_of_not_lt fun hh => hx (HX.2 hh)
        have ec : 0 ≤ cmpI x k ∧ cmpI x k ≤ 1 := by unfold cmpI; rw [if_neg hx]; split <;> omega
        generalize cmpI x k = cc at *
        clear HX
        go_wp2
        go_roundw
        case rel => exact ⟨i, h, rfl, rfl, hi, hge, by omega, hB1⟩
        case measure => simp [intOf]; omega
    · have e0 : i = lo := by omega
      subst e0
      have hiji : ¬ (i : Int) < (j : Int) := by omega
      by_cases hin : i < n
      · have hini : (i : Int) < (n : Int) := by omega
        obtain ⟨c0, c1⟩ := HC.out i hin
        have c0 := (hB.cell (p := ⟨b, off + i * 2, none⟩) hb).trans c0
        have c1 := (hB.cell (p := ⟨b, off + i * 2 + 1, none⟩) hb).trans c1
        have hM := fun w => HCM (pAt l i).1 (pAt l i).2 w
        have HX := HI.out i hin
        have ht := HT.out
        rw [decide_eq_true hin, Bool.true_and] at ht
        generalize (pAt l i).1 = x at *
        generalize (pAt l i).2 = y at *
        have hxk : ¬ x < k := fun hh => by have := HX.1 hh; omega
        have ec : (cmpI x k == 0) = decide (x = k) := by
          unfold cmpI
          rw [if_neg hxk]
          by_cases e : x = k
          · subst e; simp
          · rw [if_pos (by omega), decide_eq_false e]; rfl
        rw [← ht] at ec
        have ET : Hid ((cmpI x k == 0) = th) := ec
        generalize cmpI x k = cc at *
        clear HCM HX HT HI ht ec
        go_wp2_with fail
        refine (hM _).mono ?_
        rintro e w1 ⟨rfl, hb1⟩
        have hB1 := below_after_of hB hb1
        clear hM hb1
        go_wp2
        go_ret2
        exact ⟨by have := ET.out; subst this; rfl, hB1⟩
      · have hini : ¬ (i : Int) < (n : Int) := by omega
        have ht := HT.out
        rw [decide_eq_false hin, Bool.false_and] at ht
        subst ht
        clear HCM HI HT
        go_wp2
        go_ret2
        exact ⟨rfl, hB⟩
theorem thr_nil (k : Int) : thr [] k = false := rfl
theorem low_nil (k : Int) : low [] k = 0 := rfl
set_option maxRecDepth 100000 in
set_option maxHeartbeats 1000000 in
theorem binarySearch_any (v : Value) (l : Prl) (k : Int) (w : World) (hv : Prs w v l) (hl : l.length ≤ 12) (hr : Ris l) :
    Calls Try.prog 138 #[v, .int .i64 k, .func (.func 139) #[] #[]] w fun e w' => e = .returned (.tuple #[.int .i64 (low l k : Nat), .bool (thr l k)]) ∧ Below w.heap.size w w' := by
  obtain ⟨a, c, rfl⟩ := hv.shape
  by_cases h0 : 0 < l.length
  · obtain ⟨_, b, off, rfl, hb, hc⟩ := hv.at h0
    exact binarySearch_core b off c l.length l k w rfl hl hb hr hc
  · have e1 : l = [] := List.eq_nil_of_length_eq_zero (by omega)
    subst e1
    rw [thr_nil, low_nil]
    simp only [List.length_nil]
    clear hv h0 hl hr
    go_enter Try.func138, Try.ntmps138
    go_wp2
    refine wp_loop_rounds 1 ?_; rw [rounds_succ]
    go_wp2
    go_ret2
    exact ⟨rfl, Below.refl _ _⟩
set_option maxRecDepth 100000 in
set_option maxHeartbeats 1000000 in
theorem placeOf_any (v : Value) (l : Prl) (k : Int) (w : World) (hv : Prs w v l) (hl : l.length ≤ 12) (hr : Ris l) :
    Calls Try.prog 90 #[v, .int .i64 k] w fun e w' => e = .returned (.tuple #[.int .i64 (low l k : Nat), .bool (thr l k)]) ∧ Below w.heap.size w w' := by
  have hB := binarySearch_any v l k w hv hl hr
  obtain ⟨a, c, rfl⟩ := hv.shape
  generalize thr l k = th at *
  generalize low l k = lo at *
  generalize l.length = n at *
  clear hv hr
  go_enter Try.func90, Try.ntmps90
  go_wp2_with fail
  refine hB.mono ?_
  rintro e w1 ⟨rfl, hb1⟩
  clear hB
  go_wp2
  go_ret2
  exact ⟨rfl, hb1⟩
end U
end Go.Proofs.Ytpelafkjnmcdgaa
