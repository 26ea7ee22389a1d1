/- Clashes: what both models answer. -/
import Derived.Test.YtljbcpkjhnbpeaaGreatDoorStr
namespace Go.Proofs.YtljbcpkjhnbpeaaGreatDoor
open Go.RowKit
namespace U
/-- Two pieces are a clash. -/
def arB (ls bs : List Int) : Bool := decide (ls.length ≤ 200 ∧ bs.length ≤ 200 ∧ sumL ls = sumL bs ∧ ¬ ls = bs)
theorem ar_iff (ls bs : List Int) : arB ls bs = true ↔ (ls.length ≤ 200 ∧ bs.length ≤ 200 ∧ sumL ls = sumL bs ∧ ¬ ls = bs) := by unfold arB; exact decide_eq_true_iff
theorem ar_not {ls bs : List Int} (h : ¬ (ls.length ≤ 200 ∧ bs.length ≤ 200 ∧ sumL ls = sumL bs ∧ ¬ ls = bs)) : arB ls bs = false := by unfold arB; exact decide_eq_false_iff_not.2 h
theorem ar_eq {ls bs : List Int} (h1 : ls.length ≤ 200) (h2 : bs.length ≤ 200) (h3 : sumL ls = sumL bs) : arB ls bs = !(decide (ls = bs)) := by
  unfold arB
  by_cases h : ls = bs
  · rw [decide_eq_true h]; exact decide_eq_false (fun e => e.2.2.2 h)
  · rw [decide_eq_false h]; exact decide_eq_true ⟨h1, h2, h3, h⟩
set_option maxRecDepth 100000 in
set_option maxHeartbeats 2000000 in
theorem areClash_any (v u : Value) (ls bs : List Int) (w : World) (hv : Ints .u8 w v ls) (hu : Ints .u8 w u bs) (ha : Bts ls) (hb : Bts bs) (hxa : ls.length ≤ 1099511627776) (hxb : bs.length ≤ 1099511627776) :
    Calls Tryz.prog 58 #[v, u] w fun e w' => e = .returned (.bool (arB ls bs)) ∧ Below w.heap.size w w' := by
  have hS1 := implSumOf_any v ls w hv ha hxa
  have hS2 := fun w' h => implSumOf_any u bs w' (hu.below h) hb hxb
  have hEq := fun w' h => bytesEqual_any v u ls bs w' (hv.below h) (hu.below h) ha hb
  obtain ⟨a, c, rfl⟩ := hv.shape
  obtain ⟨a', c', rfl⟩ := hu.shape
  by_cases h1 : 200 < ls.length
  · rw [(sm_many h1).1, (sm_many h1).2] at hS1
    rw [ar_not (fun e => by omega)]
    generalize smC bs = cb at *
    generalize smV bs = sb at *
    generalize ls.length = n at *
    generalize bs.length = m at *
    clear hv hu ha hb hEq
    go_enter Tryz.func58, Tryz.ntmps58
    go_wp2_with fail
    refine hS1.mono ?_
    rintro e w1 ⟨rfl, hb1⟩
    go_wp2_with fail
    refine (hS2 _ hb1).mono ?_
    rintro e w2 ⟨rfl, hb2⟩
    have hB2 := below_after_of hb1 hb2
    clear hS1 hS2
    go_wp2
    go_ret
    exact ⟨rfl, below_after_of hB2 (two_new _ _)⟩
  · rw [(sm_ok h1).1, (sm_ok h1).2] at hS1
    by_cases h2 : 200 < bs.length
    · rw [ar_not (fun e => by omega)]
      have hS2' := fun w' h => (hS2 w' h)
      rw [(sm_many h2).1, (sm_many h2).2] at hS2'
      generalize sumL ls = s at *
      generalize ls.length = n at *
      generalize bs.length = m at *
      clear hv hu ha hb hEq hS2
      go_enter Tryz.func58, Tryz.ntmps58
      go_wp2_with fail
      refine hS1.mono ?_
      rintro e w1 ⟨rfl, hb1⟩
      go_wp2_with fail
      refine (hS2' _ hb1).mono ?_
      rintro e w2 ⟨rfl, hb2⟩
      have hB2 := below_after_of hb1 hb2
      clear hS1 hS2'
      go_wp2
      go_ret
      exact ⟨rfl, below_after_of hB2 (two_new _ _)⟩
    · rw [(sm_ok h2).1, (sm_ok h2).2] at hS2
      by_cases h3 : sumL ls = sumL bs
      · rw [ar_eq (by omega) (by omega) h3]
        rw [← h3] at hS2
        generalize decide (ls = bs) = q at *
        generalize sumL ls = s at *
        generalize ls.length = n at *
        generalize bs.length = m at *
        clear hv hu ha hb h3
        go_enter Tryz.func58, Tryz.ntmps58
        go_wp2_with fail
        refine hS1.mono ?_
        rintro e w1 ⟨rfl, hb1⟩
        go_wp2_with fail
        refine (hS2 _ hb1).mono ?_
        rintro e w2 ⟨rfl, hb2⟩
        have hB2 := fun o o' => below_after_of (below_after_of hb1 hb2) (two_new (w := w2) o o')
        clear hS1 hS2
        go_wp2_with fail
        refine (hEq _ (hB2 _ _)).mono ?_
        rintro e w3 ⟨rfl, rfl⟩
        clear hEq
        go_wp2
        go_ret
        exact ⟨rfl, hB2 _ _⟩
      · rw [ar_not (fun e => h3 e.2.2.1)]
        generalize sumL ls = s at *
        generalize sumL bs = t at *
        generalize ls.length = n at *
        generalize bs.length = m at *
        clear hv hu ha hb hEq
        go_enter Tryz.func58, Tryz.ntmps58
        go_wp2_with fail
        refine hS1.mono ?_
        rintro e w1 ⟨rfl, hb1⟩
        go_wp2_with fail
        refine (hS2 _ hb1).mono ?_
        rintro e w2 ⟨rfl, hb2⟩
        have hB2 := below_after_of hb1 hb2
        clear hS1 hS2
        go_wp2
        go_ret
        exact ⟨rfl, below_after_of hB2 (two_new _ _)⟩
set_option maxRecDepth 100000 in
set_option maxHeartbeats 1000000 in
theorem implIsClash_any (f : Bool) (v u : Value) (ls bs : List Int) (w : World) (hv : Ints .u8 w v ls) (hu : Ints .u8 w u bs) (ha : Bts ls) (hb : Bts bs) (hxa : ls.length ≤ 1099511627776) (hxb : bs.length ≤ 1099511627776) :
    Calls Tryz.prog 13 #[.agg #[.bool f, v, u]] w fun e w' => e = .returned (.bool (f && arB ls bs)) ∧ Below w.heap.size w w' := by
  have hA := fun o => areClash_any v u ls bs _ (hv.below (one_new o)) (hu.below (one_new o)) ha hb hxa hxb
  obtain ⟨a, c, rfl⟩ := hv.shape
  obtain ⟨a', c', rfl⟩ := hu.shape
  generalize arB ls bs = q at *
  generalize ls.length = n at *
  generalize bs.length = m at *
  clear hv hu ha hb
  cases f
  · go_enter Tryz.func13, Tryz.ntmps13
    go_wp2
    go_ret
    exact ⟨rfl, one_new _⟩
  · go_enter Tryz.func13, Tryz.ntmps13
    go_wp2_with fail
    refine (hA _).mono ?_
    rintro e w1 ⟨rfl, hb1⟩
    clear hA
    go_wp2
    go_ret
    exact ⟨by simp, below_after hb1⟩
end U
end Go.Proofs.YtljbcpkjhnbpeaaGreatDoor
