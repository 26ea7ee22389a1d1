/- The fault and the size of a trail, as the program and as the model tell them. -/
import Derived.Test.YtljbcpkjhnbpeaaNp5
import Derived.Test.YtljbcpkjhnbpeaaSl2
namespace Go.Proofs.Ytljbcpkjhnbpeaa
open Go.RowKit
namespace U
set_option maxRecDepth 100000 in
set_option maxHeartbeats 2000000 in
theorem implTrailFault_any (x : Bool) (k y : Int) (sv : Value) (f : Prl) (w : World) (hv : Prs w sv f) :
    Calls Try.prog 20 #[.agg #[.bool x, .int .i64 k, .int .i64 y, sv]] w fun e w' => e = .returned (.int .i64 (tlF x k y f)) ∧ Below w.heap.size w w' := by
  have hW := tlF_ways x k y f
  generalize tlF x k y f = q at *
  have hS := fun w => isSlot_any (k, y) w
  dsimp only at hS
  have HV : Hid (Prs w sv f) := hv
  obtain ⟨a, c, rfl⟩ := hv.shape
  obtain ⟨W, hWW⟩ : ∃ W, W = w.alloc (.cells #[.bool x, .int .i64 k, .int .i64 y, .slice a f.length c] 31) := ⟨_, rfl⟩
  have HW : Hid (w.alloc (.cells #[.bool x, .int .i64 k, .int .i64 y, .slice a f.length c] 31) = W) := hWW.symm
  have H : TlBlk W w.heap.size x k y (.slice a f.length c) := by rw [hWW]; exact tl_box w x k y _
  have hB : Below w.heap.size w W := by rw [hWW]; exact one_new _
  have HH : Hid (TlBlk W w.heap.size x k y (.slice a f.length c)) := H
  obtain ⟨c0, c1, c2, c3⟩ := H.cells
  have hp := H.lt
  clear H hv hWW
  rcases hW with (⟨rfl, rfl, hh⟩ | ⟨rfl, hf, rfl | ⟨rfl, rfl, _⟩⟩ | ⟨rfl, hf, hn, rfl⟩) | ⟨rfl, hf, hn, hx⟩
  · generalize f.length = n at *
    clear hS HV
    by_cases hk : k = 0
    · subst hk
      by_cases hy : y = 0
      · subst hy
        have hn : 0 < n := by rcases hh with h | h; exact absurd rfl h; exact h
        have hni : (0 : Int) < (n : Int) := by omega
        clear hh hn
        go_enter Try.func20, Try.ntmps20
        go_wp2
        go_ret
        exact ⟨rfl, one_new _⟩
      · have hy1 : (y == 0) = false := by simpa using hy
        have hy2 : (y != 0) = true := by simpa using hy
        clear hh
        go_enter Try.func20, Try.ntmps20
        go_wp2
        go_ret
        exact ⟨rfl, one_new _⟩
    · have hk1 : (k == 0) = false := by simpa using hk
      have hk2 : (k != 0) = true := by simpa using hk
      clear hh
      go_enter Try.func20, Try.ntmps20
      go_wp2
      go_ret
      exact ⟨rfl, one_new _⟩
  · rw [hf] at hS
    generalize f.length = n at *
    clear HV
    go_enter Try.func20, Try.ntmps20
    go_wp2_with fail
    refine (hS _).mono ?_
    rintro e w1 ⟨rfl, hb1⟩
    have hB1 := below_after hb1
    clear hS hb1
    go_wp2
    go_ret
    exact ⟨rfl, hB1⟩
  · exact absurd hf (by decide)
  · rw [hf] at hS
    have hn8 : (8 : Int) < (f.length : Int) := by omega
    generalize f.length = n at *
    clear HV
    go_enter Try.func20, Try.ntmps20
    go_wp2_with fail
    rw [HW.out]
    refine (hS _).mono ?_
    rintro e w1 ⟨rfl, hb1⟩
    have hB1 := below_after_of hB hb1
    have d3 := (hb1.cell (p := ⟨w.heap.size, 3, none⟩) hp).trans c3
    clear hS hb1
    go_wp2
    go_ret
    exact ⟨rfl, hB1⟩
  · rw [hf] at hS
    have hFF := fun w' h => forksFault_any (.slice a f.length c) f w' (HV.out.below (w' := w') h) (by omega)
    have hn8 : ¬ (8 : Int) < (f.length : Int) := by omega
    have hpc : x = true ∨ (x = false ∧ k = 0 ∧ y = 0 ∧ f.length = 0) := hx
    generalize fkF f = q at *
    generalize f.length = n at *
    clear HV hx
    rcases hpc with rfl | ⟨rfl, rfl, rfl, rfl⟩
    · go_enter Try.func20, Try.ntmps20
      go_wp2_with fail
      rw [HW.out]
      refine (hS _).mono ?_
      rintro e w1 ⟨rfl, hb1⟩
      have hB1 := below_after_of hB hb1
      have d3 := (hb1.cell (p := ⟨w.heap.size, 3, none⟩) hp).trans c3
      clear hS hb1
      go_wp2_with fail
      refine (hFF _ hB1).mono ?_
      rintro e w2 ⟨rfl, hb2⟩
      have hB2 := below_after_of hB1 hb2
      clear hFF hb2
      go_wp2
      go_ret
      exact ⟨rfl, hB2⟩
    · go_enter Try.func20, Try.ntmps20
      go_wp2_with fail
      rw [HW.out]
      refine (hS _).mono ?_
      rintro e w1 ⟨rfl, hb1⟩
      have hB1 := below_after_of hB hb1
      have d3 := (hb1.cell (p := ⟨w.heap.size, 3, none⟩) hp).trans c3
      clear hS hb1
      go_wp2_with fail
      refine (hFF _ hB1).mono ?_
      rintro e w2 ⟨rfl, hb2⟩
      have hB2 := below_after_of hB1 hb2
      clear hFF hb2
      go_wp2
      go_ret
      exact ⟨rfl, hB2⟩
/-- The size of a trail. -/
def tzV (x : Bool) (k y : Int) (f : Prl) : Int := if tlF x k y f = 0 then (if x then 5 + 3 * (f.length : Int) else 1) else 0
theorem tzV_no {x : Bool} {k y : Int} {f : Prl} (h : tlF x k y f ≠ 0) : tzV x k y f = 0 := if_neg h
theorem tzV_true {k y : Int} {f : Prl} (h : tlF true k y f = 0) : tzV true k y f = 5 + 3 * (f.length : Int) := if_pos h
theorem tzV_false {k y : Int} {f : Prl} (h : tlF false k y f = 0) : tzV false k y f = 1 := if_pos h
set_option maxRecDepth 100000 in
set_option maxHeartbeats 2000000 in
theorem implTrailSize_any (x : Bool) (k y : Int) (sv : Value) (f : Prl) (w : World) (hv : Prs w sv f) :
    Calls Try.prog 23 #[.agg #[.bool x, .int .i64 k, .int .i64 y, sv]] w fun e w' => IntAns w (tlF x k y f) (tzV x k y f) e w' := by
  obtain ⟨W, hWW⟩ : ∃ W, W = (w.alloc (.cells #[.bool x, .int .i64 k, .int .i64 y, sv] 31)).alloc (.cells #[.int .i64 0, .int .i64 0] 38) := ⟨_, rfl⟩
  have HW : Hid ((w.alloc (.cells #[.bool x, .int .i64 k, .int .i64 y, sv] 31)).alloc (.cells #[.int .i64 0, .int .i64 0] 38) = W) := hWW.symm
  have H : TlBlk W w.heap.size x k y sv := by rw [hWW]; exact (tl_box w x k y _).below (one_new _)
  have hB : Below w.heap.size w W := by rw [hWW]; exact two_new _ _
  have HR : W.heap[w.heap.size + 1]? = some (.cells #[.int .i64 0, .int .i64 0] 38) := by
    have h := heap_alloc_new (w.alloc (.cells #[.bool x, .int .i64 k, .int .i64 y, sv] 31)) (.cells #[.int .i64 0, .int .i64 0] 38)
    rw [World.size_alloc] at h
    rw [hWW]
    exact h
  have hr := (Array.getElem?_eq_some_iff.1 HR).1
  have hF := implTrailFault_any x k y sv f W (hv.below hB)
  have HC : Hid (∀ w', Below W.heap.size W w' → TlBlk w' w.heap.size x k y sv) := fun w' h => H.below h
  have hL : Hid (f.length ≤ 8 ∨ tlF x k y f ≠ 0) := (by
    by_cases h : tlF x k y f = 0
    · exact Or.inl (tlF_ok h).len
    · exact Or.inr h : f.length ≤ 8 ∨ tlF x k y f ≠ 0)
  obtain ⟨a, c, rfl⟩ := hv.shape
  obtain ⟨d0, d1, d2, d3⟩ := H.cells
  have hT1 : x = true → tlF x k y f = 0 → tzV x k y f = 5 + 3 * (f.length : Int) := fun e h => by subst e; exact tzV_true h
  have hT2 : x = false → tlF x k y f = 0 → tzV x k y f = 1 := fun e h => by subst e; exact tzV_false h
  have hT3 : tlF x k y f ≠ 0 → tzV x k y f = 0 := fun h => tzV_no h
  generalize tlF x k y f = q at *
  generalize tzV x k y f = r at *
  generalize f.length = n at *
  clear hWW H hv
  by_cases hq : q = 0
  · subst hq
    have hn : n ≤ 8 := by rcases hL.out with h | h; exact h; exact absurd rfl h
    have hw1 : wrap64 (3 * (n : Int)) = 3 * (n : Int) := by simp only [wrap64]; omega
    have hw2 : wrap64 (5 + 3 * (n : Int)) = 5 + 3 * (n : Int) := by simp only [wrap64]; omega
    clear hL hT3
    cases x
    · have hr1 := hT2 rfl rfl
      subst hr1
      clear hT1 hT2
      go_enter Try.func23, Try.ntmps23
      go_wp2_with fail
      rw [HW.out]
      refine (hF).mono ?_
      rintro e w1 ⟨rfl, hb1⟩
      have hB1 := below_after_of hB hb1
      obtain ⟨e0, e1, e2, e3⟩ := (HC.out _ hb1).cells
      obtain ⟨g0, g1, f0, f1⟩ := two_cellsV ((hb1.block (w.heap.size + 1) hr).trans HR)
      clear hF hb1
      go_wp2
      exact bodyPost_ret (v := .agg #[.int .i64 0, .int .i64 1]) (by simp [results, Try.results23, go_sem, *]) rfl ⟨rfl, (hB1.setCell (Nat.le_succ _) _).setCell (Nat.le_succ _) _⟩
    · have hr1 := hT1 rfl rfl
      clear hT1 hT2
      subst hr1
      go_enter Try.func23, Try.ntmps23
      go_wp2_with fail
      rw [HW.out]
      refine (hF).mono ?_
      rintro e w1 ⟨rfl, hb1⟩
      have hB1 := below_after_of hB hb1
      obtain ⟨e0, e1, e2, e3⟩ := (HC.out _ hb1).cells
      obtain ⟨g0, g1, f0, f1⟩ := two_cellsV ((hb1.block (w.heap.size + 1) hr).trans HR)
      clear hF hb1
      go_wp2
      exact bodyPost_ret (v := .agg #[.int .i64 0, .int .i64 (5 + 3 * (n : Int))]) (by simp [results, Try.results23, go_sem, *]) rfl ⟨rfl, (hB1.setCell (Nat.le_succ _) _).setCell (Nat.le_succ _) _⟩
  · have hr1 := hT3 hq
    subst hr1
    have hq1 : (q != 0) = true := by simpa using hq
    clear hT1 hT2 hT3 hL hq
    go_enter Try.func23, Try.ntmps23
    go_wp2_with fail
    rw [HW.out]
    refine (hF).mono ?_
    rintro e w1 ⟨rfl, hb1⟩
    have hB1 := below_after_of hB hb1
    obtain ⟨g0, g1, f0, f1⟩ := two_cellsV ((hb1.block (w.heap.size + 1) hr).trans HR)
    clear hF hb1
    go_wp2
    exact bodyPost_ret (v := .agg #[.int .i64 q, .int .i64 0]) (by simp [results, Try.results23, go_sem, *]) rfl ⟨rfl, (hB1.setCell (Nat.le_succ _) _).setCell (Nat.le_succ _) _⟩
set_option maxRecDepth 100000 in
set_option maxHeartbeats 2000000 in
theorem specTrailSize_any (x : Bool) (k y : Int) (sv : Value) (f : Prl) (w : World) (hv : Prs w sv f) :
    Calls Try.prog 25 #[.agg #[.bool x, .int .i64 k, .int .i64 y, sv]] w fun e w' => IntAns w (tlF x k y f) (tzV x k y f) e w' := by
  obtain ⟨W, hWW⟩ : ∃ W, W = (w.alloc (.cells #[.bool x, .int .i64 k, .int .i64 y, sv] 31)).alloc (.cells #[.int .i64 0, .int .i64 0] 38) := ⟨_, rfl⟩
  have HW : Hid ((w.alloc (.cells #[.bool x, .int .i64 k, .int .i64 y, sv] 31)).alloc (.cells #[.int .i64 0, .int .i64 0] 38) = W) := hWW.symm
  have H : TlBlk W w.heap.size x k y sv := by rw [hWW]; exact (tl_box w x k y _).below (one_new _)
  have hB : Below w.heap.size w W := by rw [hWW]; exact two_new _ _
  have HR : W.heap[w.heap.size + 1]? = some (.cells #[.int .i64 0, .int .i64 0] 38) := by
    have h := heap_alloc_new (w.alloc (.cells #[.bool x, .int .i64 k, .int .i64 y, sv] 31)) (.cells #[.int .i64 0, .int .i64 0] 38)
    rw [World.size_alloc] at h
    rw [hWW]
    exact h
  have hr := (Array.getElem?_eq_some_iff.1 HR).1
  have hF := l7Fault_any w.heap.size x k y sv f W H (hv.below hB)
  have HC : Hid (∀ w', Below W.heap.size W w' → TlBlk w' w.heap.size x k y sv) := fun w' h => H.below h
  have hL : Hid (f.length ≤ 8 ∨ tlF x k y f ≠ 0) := (by
    by_cases h : tlF x k y f = 0
    · exact Or.inl (tlF_ok h).len
    · exact Or.inr h : f.length ≤ 8 ∨ tlF x k y f ≠ 0)
  obtain ⟨a, c, rfl⟩ := hv.shape
  obtain ⟨d0, d1, d2, d3⟩ := H.cells
  have hT1 : x = true → tlF x k y f = 0 → tzV x k y f = 5 + 3 * (f.length : Int) := fun e h => by subst e; exact tzV_true h
  have hT2 : x = false → tlF x k y f = 0 → tzV x k y f = 1 := fun e h => by subst e; exact tzV_false h
  have hT3 : tlF x k y f ≠ 0 → tzV x k y f = 0 := fun h => tzV_no h
  generalize tlF x k y f = q at *
  generalize tzV x k y f = r at *
  generalize f.length = n at *
  clear hWW H hv
  by_cases hq : q = 0
  · subst hq
    have hn : n ≤ 8 := by rcases hL.out with h | h; exact h; exact absurd rfl h
    have hw1 : wrap64 (3 * (n : Int)) = 3 * (n : Int) := by simp only [wrap64]; omega
    have hw2 : wrap64 (5 + 3 * (n : Int)) = 5 + 3 * (n : Int) := by simp only [wrap64]; omega
    clear hL hT3
    cases x
    · have hr1 := hT2 rfl rfl
      subst hr1
      clear hT1 hT2
      go_enter Try.func25, Try.ntmps25
      go_wp2_with fail
      rw [HW.out]
      refine (hF).mono ?_
      rintro e w1 ⟨rfl, hb1⟩
      have hB1 := below_after_of hB hb1
      obtain ⟨e0, e1, e2, e3⟩ := (HC.out _ hb1).cells
      obtain ⟨g0, g1, f0, f1⟩ := two_cellsV ((hb1.block (w.heap.size + 1) hr).trans HR)
      clear hF hb1
      go_wp2
      exact bodyPost_ret (v := .agg #[.int .i64 0, .int .i64 1]) (by simp [results, Try.results25, go_sem, *]) rfl ⟨rfl, (hB1.setCell (Nat.le_succ _) _).setCell (Nat.le_succ _) _⟩
    · have hr1 := hT1 rfl rfl
      clear hT1 hT2
      subst hr1
      go_enter Try.func25, Try.ntmps25
      go_wp2_with fail
      rw [HW.out]
      refine (hF).mono ?_
      rintro e w1 ⟨rfl, hb1⟩
      have hB1 := below_after_of hB hb1
      obtain ⟨e0, e1, e2, e3⟩ := (HC.out _ hb1).cells
      obtain ⟨g0, g1, f0, f1⟩ := two_cellsV ((hb1.block (w.heap.size + 1) hr).trans HR)
      clear hF hb1
      go_wp2
      exact bodyPost_ret (v := .agg #[.int .i64 0, .int .i64 (5 + 3 * (n : Int))]) (by simp [results, Try.results25, go_sem, *]) rfl ⟨rfl, (hB1.setCell (Nat.le_succ _) _).setCell (Nat.le_succ _) _⟩
  · have hr1 := hT3 hq
    subst hr1
    have hq1 : (q != 0) = true := by simpa using hq
    clear hT1 hT2 hT3 hL hq
    go_enter Try.func25, Try.ntmps25
    go_wp2_with fail
    rw [HW.out]
    refine (hF).mono ?_
    rintro e w1 ⟨rfl, hb1⟩
    have hB1 := below_after_of hB hb1
    obtain ⟨g0, g1, f0, f1⟩ := two_cellsV ((hb1.block (w.heap.size + 1) hr).trans HR)
    clear hF hb1
    go_wp2
    exact bodyPost_ret (v := .agg #[.int .i64 q, .int .i64 0]) (by simp [results, Try.results25, go_sem, *]) rfl ⟨rfl, (hB1.setCell (Nat.le_succ _) _).setCell (Nat.le_succ _) _⟩
end U
end Go.Proofs.Ytljbcpkjhnbpeaa
