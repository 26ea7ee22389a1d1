/- FormsOf: what both models answer of a head. -/
import Derived.Test.YtnhokdhaobmonaaHdL
import Derived.Test.YtnhokdhaobmonaaHd3
import Derived.Test.YtnhokdhaobmonaaQuiet
namespace Go.Proofs.Ytnhokdhaobmonaa
open Go.RowKit
namespace U
/-- The tree one asks by, as the program holds it. -/
def trO : Value := .agg #[.func (.func 138) #[] #[], .func (.func 139) #[] #[], .func (.func 140) #[] #[]]
def trN : Value := .agg #[.func (.func 141) #[] #[], .func (.func 142) #[] #[], .func (.func 143) #[] #[]]
theorem field_trO (w : World) : (Instr.field 153 trO 0).run Try.prog w = .ok (.func (.func 138) #[] #[]) w := by kernel_rfl
theorem field_trN (w : World) : (Instr.field 153 trN 0).run Try.prog w = .ok (.func (.func 141) #[] #[]) w := by kernel_rfl
/-- A function value is stored as it is. -/
theorem run_store_fn (P : Program) (w : World) (a : Addr) (m : Mode) (f : Fn) (x y : Array Value) : (store a (.func f x y) m).run P w = stored P w a (.func f x y) m := run_store P w a _ m rfl
attribute [local go_sem] run_store_fn
set_option maxRecDepth 100000 in
set_option maxHeartbeats 1000000 in
theorem treeFor_old (w : World) : Calls Try.prog 83 #[.bool true] w fun e w' => e = .returned trO ∧ Below w.heap.size w w' := by
  unfold trO
  go_enter Try.func83, Try.ntmps83
  go_wp2
  exact bodyPost_ret (v := .agg #[.func (.func 138) #[] #[], .func (.func 139) #[] #[], .func (.func 140) #[] #[]]) (by simp [results, Try.results83, go_sem]) rfl ⟨rfl, one_new _⟩
set_option maxRecDepth 100000 in
set_option maxHeartbeats 1000000 in
theorem treeFor_new (w : World) : Calls Try.prog 83 #[.bool false] w fun e w' => e = .returned trN ∧ Below w.heap.size w w' := by
  unfold trN
  go_enter Try.func83, Try.ntmps83
  go_wp2
  exact bodyPost_ret (v := .agg #[.func (.func 141) #[] #[], .func (.func 142) #[] #[], .func (.func 143) #[] #[]]) (by simp [results, Try.results83, go_sem]) rfl ⟨rfl, one_new _⟩
/-- How many forms a head has. -/
def foV (p : Int) : Int := if hasN p = false then 1 else if hasO p = false then 2 else 3
theorem foV_any (p : Int) : hasN p = false → hasO p = true := by
  intro h; unfold hasN at h; unfold hasO; simp at h ⊢; omega
def foR (e p o n v : Int) : Int := if hdC e p o n v = 0 then foV p else 0
theorem foV_nn {p : Int} (h : hasN p = false) : foV p = 1 := by unfold foV; rw [if_pos h]
theorem foV_no {p : Int} (h : hasN p = true) (h' : hasO p = false) : foV p = 2 := by unfold foV; rw [if_neg (by simp [h]), if_pos h']
theorem foV_on {p : Int} (h : hasN p = true) (h' : hasO p = true) : foV p = 3 := by unfold foV; rw [if_neg (by simp [h]), if_neg (by simp [h'])]
theorem head_two (w : World) (e p o n v : Int) (o2 : Obj) (t : TypeId) : HdS ((w.alloc (.cells #[.int .i64 e, .int .i64 p, .int .i64 o, .int .i64 n, .int .i64 v] t)).alloc o2) w.heap.size 0 ⟨e, p, o, n, v⟩ :=
  (HdS.new w ⟨e, p, o, n, v⟩ t).below (one_new o2) (by simp)
set_option maxRecDepth 100000 in
set_option maxHeartbeats 2000000 in
theorem specFormsOf_any (e p o n v : Int) (w : World) :
    Calls Try.prog 39 #[hdV e p o n v] w fun x w' => IntAns w (hdC e p o n v) (foR e p o n v) x w' := by
  have h0 := head_two w e p o n v (.cells #[.int .i64 0, .int .i64 0] 103) 105
  have hF := l10Fault_any w.heap.size 0 e p o n v _ h0
  unfold foR
  have hO := fun w => l10HasOld_any p w
  have hN := fun w => l10HasNew_any p w
  by_cases hc : hdC e p o n v = 0
  · rw [if_pos hc]
    rw [hc] at hF ⊢
    rcases Bool.eq_false_or_eq_true (hasN p) with hn | hn <;> rcases Bool.eq_false_or_eq_true (hasO p) with ho | ho
    · rw [foV_on hn ho]; rw [hn] at hN; rw [ho] at hO; clear hn ho hc
      unfold hdV
      go_enter Try.func39, Try.ntmps39
      go_wp2_with fail
      refine hF.mono ?_
      rintro x w1 ⟨rfl, hb1⟩
      obtain ⟨c0, c1, c2, c3, c4⟩ := HdS.of (heap_at2 hb1).1
      obtain ⟨hc0, hc1, hf0, hf1⟩ := two_cells (heap_at2 hb1).2
      have hB1 : Below w.heap.size w w1 := below_after (below_after hb1)
      clear hb1 hF h0
      go_wp2_with (first | (go_at_call 80; refine (hO _).mono ?_; rintro x wq ⟨rfl, hwq⟩; rw [hwq]; clear hwq) | (go_at_call 81; refine (hN _).mono ?_; rintro x wq ⟨rfl, hwq⟩; rw [hwq]; clear hwq))
      exact bodyPost_ret (v := .agg #[.int .i64 0, .int .i64 3]) (by simp [results, Try.results39, go_sem, hc0, hc1]) rfl ⟨rfl, (hB1.setCell (Nat.le_succ _) _).setCell (Nat.le_succ _) _⟩
    · rw [foV_no hn ho]; rw [hn] at hN; rw [ho] at hO; clear hn ho hc
      unfold hdV
      go_enter Try.func39, Try.ntmps39
      go_wp2_with fail
      refine hF.mono ?_
      rintro x w1 ⟨rfl, hb1⟩
      obtain ⟨c0, c1, c2, c3, c4⟩ := HdS.of (heap_at2 hb1).1
      obtain ⟨hc0, hc1, hf0, hf1⟩ := two_cells (heap_at2 hb1).2
      have hB1 : Below w.heap.size w w1 := below_after (below_after hb1)
      clear hb1 hF h0
      go_wp2_with (first | (go_at_call 80; refine (hO _).mono ?_; rintro x wq ⟨rfl, hwq⟩; rw [hwq]; clear hwq) | (go_at_call 81; refine (hN _).mono ?_; rintro x wq ⟨rfl, hwq⟩; rw [hwq]; clear hwq))
      exact bodyPost_ret (v := .agg #[.int .i64 0, .int .i64 2]) (by simp [results, Try.results39, go_sem, hc0, hc1]) rfl ⟨rfl, (hB1.setCell (Nat.le_succ _) _).setCell (Nat.le_succ _) _⟩
    · rw [foV_nn hn]; rw [hn] at hN; rw [ho] at hO; clear hn ho hc
      unfold hdV
      go_enter Try.func39, Try.ntmps39
      go_wp2_with fail
      refine hF.mono ?_
      rintro x w1 ⟨rfl, hb1⟩
      obtain ⟨c0, c1, c2, c3, c4⟩ := HdS.of (heap_at2 hb1).1
      obtain ⟨hc0, hc1, hf0, hf1⟩ := two_cells (heap_at2 hb1).2
      have hB1 : Below w.heap.size w w1 := below_after (below_after hb1)
      clear hb1 hF h0
      go_wp2_with (first | (go_at_call 80; refine (hO _).mono ?_; rintro x wq ⟨rfl, hwq⟩; rw [hwq]; clear hwq) | (go_at_call 81; refine (hN _).mono ?_; rintro x wq ⟨rfl, hwq⟩; rw [hwq]; clear hwq))
      exact bodyPost_ret (v := .agg #[.int .i64 0, .int .i64 1]) (by simp [results, Try.results39, go_sem, hc0, hc1]) rfl ⟨rfl, (hB1.setCell (Nat.le_succ _) _).setCell (Nat.le_succ _) _⟩
    · exact absurd (foV_any p hn) (by simp [ho])
  · rw [if_neg hc]
    have h1 := code_ne hc
    generalize hdC e p o n v = c at *
    unfold hdV
    clear hc
    go_enter Try.func39, Try.ntmps39
    go_wp2_with fail
    refine hF.mono ?_
    rintro x w1 ⟨rfl, hb1⟩
    obtain ⟨hc0, hc1, hf0, hf1⟩ := two_cells (heap_at2 hb1).2
    have hB1 : Below w.heap.size w w1 := below_after (below_after hb1)
    clear hb1 hF h0 hO hN
    go_wp2
    exact bodyPost_ret (v := .agg #[.int .i64 c, .int .i64 0]) (by simp [results, Try.results39, go_sem, hc0, hc1]) rfl ⟨rfl, (hB1.setCell (Nat.le_succ _) _).setCell (Nat.le_succ _) _⟩
set_option maxRecDepth 100000 in
set_option maxHeartbeats 2000000 in
theorem implFormsOf_any (e p o n v : Int) (w : World) :
    Calls Try.prog 41 #[hdV e p o n v] w fun x w' => IntAns w (hdC e p o n v) (foR e p o n v) x w' := by
  have hF := fun w => implHeadFault_any e p o n v w
  unfold foR
  have hO := fun w => hasOld_any p w
  have hN := fun w => hasNew_any p w
  have fO := field_trO
  have fN := field_trN
  by_cases hc : hdC e p o n v = 0
  · rw [if_pos hc]
    rw [hc] at hF ⊢
    rcases Bool.eq_false_or_eq_true (hasN p) with hn | hn <;> rcases Bool.eq_false_or_eq_true (hasO p) with ho | ho
    · rw [foV_on hn ho]; rw [hn] at hN; rw [ho] at hO; clear hn ho hc
      unfold hdV
      go_enter Try.func41, Try.ntmps41
      go_wp2_with fail
      refine (hF _).mono ?_
      rintro x w1 ⟨rfl, hb1⟩
      have hq0 := fun n : After w1 => After.cell (HdS.of (heap_at2 hb1).1).c1 n
      have hne := After.ne w1
      have hP := (heap_at2 hb1).2
      have hB1 : Below w.heap.size w w1 := below_after (below_after hb1)
      have hs : w.heap.size + 1 < w1.heap.size := (Array.getElem?_eq_some_iff.1 hP).1
      clear hF
      go_wp2_with fail
      refine wp_region_after (by kernel_rfl) (by kernel_rfl) ?_
      repeat (first | go_big_quiet_skip | (go_big_quiet_want; go_big_quiet_op; first | go_big_quiet_on | go_big_quiet_call (first | (go_at_call 83; first | (refine (treeFor_new _).mono ?_; rintro x wq ⟨rfl, hbq⟩; exact ⟨rfl, after_mk (below_after_of (After.b _) hbq)⟩) | (refine (treeFor_old _).mono ?_; rintro x wq ⟨rfl, hbq⟩; exact ⟨rfl, after_mk (below_after_of (After.b _) hbq)⟩)) | (go_at_call 138; refine (hO _).mono ?_; rintro x wq ⟨rfl, hwq⟩; rw [hwq]; exact ⟨rfl, _, rfl⟩) | (go_at_call 141; refine (hN _).mono ?_; rintro x wq ⟨rfl, hwq⟩; rw [hwq]; exact ⟨rfl, _, rfl⟩))))
      refine wpQuiet_nil ?_
      rintro _ ⟨n2, rfl⟩
      have hq1 := fun n : After n2.w => After.cell (hq0 n2) n
      have hne1 := After.ne n2.w
      clear hq0 hne
      go_wp2_with fail
      refine wp_region_after (by kernel_rfl) (by kernel_rfl) ?_
      repeat (first | go_big_quiet_skip | (go_big_quiet_want; go_big_quiet_op; first | go_big_quiet_on | go_big_quiet_call (first | (go_at_call 83; first | (refine (treeFor_new _).mono ?_; rintro x wq ⟨rfl, hbq⟩; exact ⟨rfl, after_mk (below_after_of (After.b _) hbq)⟩) | (refine (treeFor_old _).mono ?_; rintro x wq ⟨rfl, hbq⟩; exact ⟨rfl, after_mk (below_after_of (After.b _) hbq)⟩)) | (go_at_call 138; refine (hO _).mono ?_; rintro x wq ⟨rfl, hwq⟩; rw [hwq]; exact ⟨rfl, _, rfl⟩) | (go_at_call 141; refine (hN _).mono ?_; rintro x wq ⟨rfl, hwq⟩; rw [hwq]; exact ⟨rfl, _, rfl⟩))))
      refine wpQuiet_nil ?_
      rintro _ ⟨n3, rfl⟩
      obtain ⟨hc0, hc1, hf0, hf1⟩ := two_cells ((n3.b.block (w.heap.size + 1) (Nat.lt_of_lt_of_le hs n2.b.size)).trans ((n2.b.block (w.heap.size + 1) hs).trans hP))
      have hB2 := below_after_of (below_after_of hB1 n2.b) n3.b
      clear hq1 hne1 fO fN hO hN
      go_wp2
      exact bodyPost_ret (v := .agg #[.int .i64 0, .int .i64 3]) (by simp [results, Try.results41, go_sem, hc0, hc1]) rfl ⟨rfl, (hB2.setCell (Nat.le_succ _) _).setCell (Nat.le_succ _) _⟩
    · rw [foV_no hn ho]; rw [hn] at hN; rw [ho] at hO; clear hn ho hc
      unfold hdV
      go_enter Try.func41, Try.ntmps41
      go_wp2_with fail
      refine (hF _).mono ?_
      rintro x w1 ⟨rfl, hb1⟩
      have hq0 := fun n : After w1 => After.cell (HdS.of (heap_at2 hb1).1).c1 n
      have hne := After.ne w1
      have hP := (heap_at2 hb1).2
      have hB1 : Below w.heap.size w w1 := below_after (below_after hb1)
      have hs : w.heap.size + 1 < w1.heap.size := (Array.getElem?_eq_some_iff.1 hP).1
      clear hF
      go_wp2_with fail
      refine wp_region_after (by kernel_rfl) (by kernel_rfl) ?_
      repeat (first | go_big_quiet_skip | (go_big_quiet_want; go_big_quiet_op; first | go_big_quiet_on | go_big_quiet_call (first | (go_at_call 83; first | (refine (treeFor_new _).mono ?_; rintro x wq ⟨rfl, hbq⟩; exact ⟨rfl, after_mk (below_after_of (After.b _) hbq)⟩) | (refine (treeFor_old _).mono ?_; rintro x wq ⟨rfl, hbq⟩; exact ⟨rfl, after_mk (below_after_of (After.b _) hbq)⟩)) | (go_at_call 138; refine (hO _).mono ?_; rintro x wq ⟨rfl, hwq⟩; rw [hwq]; exact ⟨rfl, _, rfl⟩) | (go_at_call 141; refine (hN _).mono ?_; rintro x wq ⟨rfl, hwq⟩; rw [hwq]; exact ⟨rfl, _, rfl⟩))))
      refine wpQuiet_nil ?_
      rintro _ ⟨n2, rfl⟩
      have hq1 := fun n : After n2.w => After.cell (hq0 n2) n
      have hne1 := After.ne n2.w
      clear hq0 hne
      go_wp2_with fail
      refine wp_region_after (by kernel_rfl) (by kernel_rfl) ?_
      repeat (first | go_big_quiet_skip | (go_big_quiet_want; go_big_quiet_op; first | go_big_quiet_on | go_big_quiet_call (first | (go_at_call 83; first | (refine (treeFor_new _).mono ?_; rintro x wq ⟨rfl, hbq⟩; exact ⟨rfl, after_mk (below_after_of (After.b _) hbq)⟩) | (refine (treeFor_old _).mono ?_; rintro x wq ⟨rfl, hbq⟩; exact ⟨rfl, after_mk (below_after_of (After.b _) hbq)⟩)) | (go_at_call 138; refine (hO _).mono ?_; rintro x wq ⟨rfl, hwq⟩; rw [hwq]; exact ⟨rfl, _, rfl⟩) | (go_at_call 141; refine (hN _).mono ?_; rintro x wq ⟨rfl, hwq⟩; rw [hwq]; exact ⟨rfl, _, rfl⟩))))
      refine wpQuiet_nil ?_
      rintro _ ⟨n3, rfl⟩
      obtain ⟨hc0, hc1, hf0, hf1⟩ := two_cells ((n3.b.block (w.heap.size + 1) (Nat.lt_of_lt_of_le hs n2.b.size)).trans ((n2.b.block (w.heap.size + 1) hs).trans hP))
      have hB2 := below_after_of (below_after_of hB1 n2.b) n3.b
      clear hq1 hne1 fO fN hO hN
      go_wp2
      exact bodyPost_ret (v := .agg #[.int .i64 0, .int .i64 2]) (by simp [results, Try.results41, go_sem, hc0, hc1]) rfl ⟨rfl, (hB2.setCell (Nat.le_succ _) _).setCell (Nat.le_succ _) _⟩
    · rw [foV_nn hn]; rw [hn] at hN; rw [ho] at hO; clear hn ho hc
      unfold hdV
      go_enter Try.func41, Try.ntmps41
      go_wp2_with fail
      refine (hF _).mono ?_
      rintro x w1 ⟨rfl, hb1⟩
      have hq0 := fun n : After w1 => After.cell (HdS.of (heap_at2 hb1).1).c1 n
      have hne := After.ne w1
      have hP := (heap_at2 hb1).2
      have hB1 : Below w.heap.size w w1 := below_after (below_after hb1)
      have hs : w.heap.size + 1 < w1.heap.size := (Array.getElem?_eq_some_iff.1 hP).1
      clear hF
      go_wp2_with fail
      refine wp_region_after (by kernel_rfl) (by kernel_rfl) ?_
      repeat (first | go_big_quiet_skip | (go_big_quiet_want; go_big_quiet_op; first | go_big_quiet_on | go_big_quiet_call (first | (go_at_call 83; first | (refine (treeFor_new _).mono ?_; rintro x wq ⟨rfl, hbq⟩; exact ⟨rfl, after_mk (below_after_of (After.b _) hbq)⟩) | (refine (treeFor_old _).mono ?_; rintro x wq ⟨rfl, hbq⟩; exact ⟨rfl, after_mk (below_after_of (After.b _) hbq)⟩)) | (go_at_call 138; refine (hO _).mono ?_; rintro x wq ⟨rfl, hwq⟩; rw [hwq]; exact ⟨rfl, _, rfl⟩) | (go_at_call 141; refine (hN _).mono ?_; rintro x wq ⟨rfl, hwq⟩; rw [hwq]; exact ⟨rfl, _, rfl⟩))))
      refine wpQuiet_nil ?_
      rintro _ ⟨n2, rfl⟩
      obtain ⟨hc0, hc1, hf0, hf1⟩ := two_cells ((n2.b.block (w.heap.size + 1) hs).trans hP)
      have hB2 := below_after_of hB1 n2.b
      clear hq0 hne fO fN hO hN
      go_wp2
      exact bodyPost_ret (v := .agg #[.int .i64 0, .int .i64 1]) (by simp [results, Try.results41, go_sem, hc0, hc1]) rfl ⟨rfl, (hB2.setCell (Nat.le_succ _) _).setCell (Nat.le_succ _) _⟩
    · exact absurd (foV_any p hn) (by simp [ho])
  · rw [if_neg hc]
    have h1 := code_ne hc
    generalize hdC e p o n v = c at *
    unfold hdV
    clear hc
    go_enter Try.func41, Try.ntmps41
    go_wp2_with fail
    refine (hF _).mono ?_
    rintro x w1 ⟨rfl, hb1⟩
    obtain ⟨hc0, hc1, hf0, hf1⟩ := two_cells (heap_at2 hb1).2
    have hB1 : Below w.heap.size w w1 := below_after (below_after hb1)
    clear hb1 hF hO hN fO fN
    go_wp2
    exact bodyPost_ret (v := .agg #[.int .i64 c, .int .i64 0]) (by simp [results, Try.results41, go_sem, hc0, hc1]) rfl ⟨rfl, (hB1.setCell (Nat.le_succ _) _).setCell (Nat.le_succ _) _⟩
end U
end Go.Proofs.Ytnhokdhaobmonaa
