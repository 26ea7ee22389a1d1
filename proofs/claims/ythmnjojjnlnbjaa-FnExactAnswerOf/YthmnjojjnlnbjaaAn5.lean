/- Records looked up, by the model; answers held against one another. -/
import Derived.Test.YthmnjojjnlnbjaaAn4
import Derived.Test.YthmnjojjnlnbjaaRecE
namespace Go.Proofs.Ythmnjojjnlnbjaa
open Go.RowKit Go.Maps
namespace U
set_option maxRecDepth 100000 in
set_option maxHeartbeats 4000000 in
theorem specLookRecord_any (v : Value) (l : Rcl) (s : ByteArray) (w : World) (hv : Rcs w v l) (hl : Lbs l) (hx : l.length ≤ 1048576) (hs : s.size ≤ 1048576) :
    Calls Try.prog 39 #[.agg #[v], .string s] w fun e w' => e = .returned (lrV (lrC l s) (anO l s)) ∧ Below w.heap.size w w' := by
  obtain ⟨W, hW⟩ : ∃ W, W = (w.alloc (.cells #[v] 26)).alloc (.cells #[.int .i64 0, .string ⟨#[]⟩, .int .i64 0, .int .i64 0, .int .i64 0] 36) := ⟨_, rfl⟩
  have HW : Hid ((w.alloc (.cells #[v] 26)).alloc (.cells #[.int .i64 0, .string ⟨#[]⟩, .int .i64 0, .int .i64 0, .int .i64 0] 36) = W) := hW.symm
  have hB : Below w.heap.size w W := by rw [hW]; exact two_new _ _
  have h1 : W.heap[w.heap.size + 1]? = some (.cells #[.int .i64 0, .string ⟨#[]⟩, .int .i64 0, .int .i64 0, .int .i64 0] 36) := by rw [hW]; exact heap_new2 w _ _
  have h2 : W.heap[w.heap.size]? = some (.cells #[v] 26) := by rw [hW]; exact heap_alloc_old' _ _ _ (heap_alloc_new w _)
  have hlt2 := (Array.getElem?_eq_some_iff.1 h2).1
  have HF : Hid (∀ w', Below W.heap.size W w' → Calls Try.prog 66 #[.pointer (some ⟨w.heap.size, 0, none⟩)] w' fun e w'' => e = .returned (.int .i64 (dirF l)) ∧ Below w'.heap.size w' w'') := fun w' h => l9Fault_any w.heap.size v l w' (Nat.lt_of_lt_of_le hlt2 h.size) (box1_cellA ((h.block _ hlt2).trans h2)) ((hv.below hB).below h) hl (by omega)
  have hL := fun w => l1Label_any s w hs
  have HA : Hid (dirF l = 0 → labelP s = 0 → ∀ w', Below W.heap.size W w' → Calls Try.prog 84 #[.pointer (some ⟨w.heap.size, 0, none⟩), .string s] w' fun e w'' => e = .returned (lkV (fO (lkO l (keyI s)) (foldS s))) ∧ Below w'.heap.size w' w'') := fun h0 hs0 w' h => l9Look_any w.heap.size v l s w' (Nat.lt_of_lt_of_le hlt2 h.size) (box1_cellA ((h.block _ hlt2).trans h2)) ((hv.below hB).below h) (dirOk h0) (labelP_small hs0)
  obtain ⟨a, c, rfl⟩ := hv.shape
  generalize l.length = n at *
  have HH : Hid (∀ w', Below W.heap.size W w' → w'.heap[w.heap.size + 1]? = some (.cells #[.int .i64 0, .string ⟨#[]⟩, .int .i64 0, .int .i64 0, .int .i64 0] 36)) := fun w' h => (h.block _ (Array.getElem?_eq_some_iff.1 h1).1).trans h1
  clear hW hv h1 h2 hlt2
  rcases anC_cases l s with ⟨h0, hs0, hc0⟩ | ⟨hn, (⟨h0, hc⟩ | ⟨h0, hs0, hc⟩)⟩
  · rw [lrC, anO, if_pos hc0, if_pos hc0]
    have hA := HA.out h0 hs0
    have hF := HF.out W (Below.refl _ _)
    rw [h0] at hF
    rw [hs0] at hL
    generalize fO (lkO l (keyI s)) (foldS s) = o at *
    unfold lkV Rc.val at hA
    unfold lrV
    clear HA HF h0 hs0 hc0
    rcases o with _ | ⟨x0, x1, x2, x3⟩
    · dsimp only [Option.isSome, Option.getD, rcZ] at hA ⊢
      go_enter Try.func39, Try.ntmps39
      go_wp2_with fail
      rw [HW.out]
      refine hF.mono ?_
      rintro e w1 ⟨rfl, hb1⟩
      clear hF
      go_wp2_with fail
      refine (hL _).mono ?_
      rintro e w2 ⟨rfl, hb2⟩
      have hb2 := below_after_of hb1 hb2
      clear hL hb1
      go_wp2_with fail
      refine (hA _ hb2).mono ?_
      rintro e w3 ⟨rfl, hb3⟩
      have hb3 := below_after_of hb2 hb3
      have hb4 := hb3.alloc hb3.size (.cells #[.string ⟨#[]⟩, .int .i64 0, .int .i64 0, .int .i64 0] 28)
      obtain ⟨c0, c1, c2, c3, c4, f0, f1, f2, f3, f4⟩ := five_cells (HH.out _ hb4)
      have hB3 := below_after_of hB hb4
      clear hA hb2 hb3 HH hb4
      go_wp2
      exact bodyPost_ret (v := .agg #[.int .i64 4, .string ⟨#[]⟩, .int .i64 0, .int .i64 0, .int .i64 0]) (by simp [results, Try.results39, go_sem, *]) rfl ⟨rfl, set5 hB3 (Nat.le_succ _) _ _ _ _ _⟩
    · dsimp only [Option.isSome, Option.getD] at hA ⊢
      go_enter Try.func39, Try.ntmps39
      go_wp2_with fail
      rw [HW.out]
      refine hF.mono ?_
      rintro e w1 ⟨rfl, hb1⟩
      clear hF
      go_wp2_with fail
      refine (hL _).mono ?_
      rintro e w2 ⟨rfl, hb2⟩
      have hb2 := below_after_of hb1 hb2
      clear hL hb1
      go_wp2_with fail
      refine (hA _ hb2).mono ?_
      rintro e w3 ⟨rfl, hb3⟩
      have hb3 := below_after_of hb2 hb3
      have hb4 := hb3.alloc hb3.size (.cells #[.string x0, .int .i64 x1, .int .i64 x2, .int .i64 x3] 28)
      have A3 := heap_alloc_new w3 (.cells #[.string x0, .int .i64 x1, .int .i64 x2, .int .i64 x3] 28)
      obtain ⟨c0, c1, c2, c3, c4, f0, f1, f2, f3, f4⟩ := five_cells (HH.out _ hb4)
      obtain ⟨d0, d1, d2, d3⟩ := four_cellsV A3
      have hB3 := below_after_of hB hb4
      clear hA hb2 hb3 HH hb4 A3
      go_wp2
      exact bodyPost_ret (v := .agg #[.int .i64 0, .string x0, .int .i64 x1, .int .i64 x2, .int .i64 x3]) (by simp [results, Try.results39, go_sem, *]) rfl ⟨rfl, set5 hB3 (Nat.le_succ _) _ _ _ _ _⟩
  · rw [lrC, anO, if_neg hn, if_neg hn, hc]
    have hF := HF.out W (Below.refl _ _)
    have hqn : (dirF l != 0) = true := by simpa using h0
    unfold lrV
    generalize dirF l = q at *
    dsimp only [Option.getD, rcZ]
    clear HA HF h0 hn hc
    go_enter Try.func39, Try.ntmps39
    go_wp2_with fail
    rw [HW.out]
    refine hF.mono ?_
    rintro e w1 ⟨rfl, hb1⟩
    obtain ⟨c0, c1, c2, c3, c4, f0, f1, f2, f3, f4⟩ := five_cells (HH.out _ hb1)
    have hB3 := below_after_of hB hb1
    clear hF hb1 HH hL
    go_wp2
    exact bodyPost_ret (v := .agg #[.int .i64 q, .string ⟨#[]⟩, .int .i64 0, .int .i64 0, .int .i64 0]) (by simp [results, Try.results39, go_sem, *]) rfl ⟨rfl, set5 hB3 (Nat.le_succ _) _ _ _ _ _⟩
  · rw [lrC, anO, if_neg hn, if_neg hn, hc]
    have hF := HF.out W (Below.refl _ _)
    rw [h0] at hF
    have hqn : (labelP s != 0) = true := by simpa using hs0
    unfold lrV
    generalize labelP s = q at *
    dsimp only [Option.getD, rcZ]
    clear HA HF h0 hn hc hs0
    go_enter Try.func39, Try.ntmps39
    go_wp2_with fail
    rw [HW.out]
    refine hF.mono ?_
    rintro e w1 ⟨rfl, hb1⟩
    clear hF
    go_wp2_with fail
    refine (hL _).mono ?_
    rintro e w2 ⟨rfl, hb2⟩
    have hb2 := below_after_of hb1 hb2
    obtain ⟨c0, c1, c2, c3, c4, f0, f1, f2, f3, f4⟩ := five_cells (HH.out _ hb2)
    have hB3 := below_after_of hB hb2
    clear hL hb1 hb2 HH
    go_wp2
    exact bodyPost_ret (v := .agg #[.int .i64 q, .string ⟨#[]⟩, .int .i64 0, .int .i64 0, .int .i64 0]) (by simp [results, Try.results39, go_sem, *]) rfl ⟨rfl, set5 hB3 (Nat.le_succ _) _ _ _ _ _⟩
set_option maxRecDepth 100000 in
set_option maxHeartbeats 1000000 in
theorem eqAnswer_same (k : Int) (f : Bool) (l : ByteArray) (v o p : Int) (w : World) :
    Calls Try.prog 92 #[.agg #[.int .i64 k, .bool f, .string l, .int .i64 v, .int .i64 o, .int .i64 p], .agg #[.int .i64 k, .bool f, .string l, .int .i64 v, .int .i64 o, .int .i64 p]] w fun e w' => e = .returned (.bool true) ∧ Below w.heap.size w w' := by
  have hE := fun w => eqRecord_same l v o p w
  unfold recV at hE
  have hbn : (f != f) = false := by cases f <;> rfl
  have hnn := hne_all
  go_enter Try.func92, Try.ntmps92
  go_wp2_with fail
  refine (hE _).mono ?_
  rintro e w1 ⟨rfl, hb1⟩
  go_wp2
  go_ret
  exact ⟨rfl, below_after (below_after hb1)⟩
set_option maxRecDepth 100000 in
set_option maxHeartbeats 1000000 in
theorem eqAnswerResult_same (c k : Int) (f : Bool) (l : ByteArray) (v o p : Int) (w : World) :
    Calls Try.prog 51 #[.agg #[.int .i64 c, .int .i64 k, .bool f, .string l, .int .i64 v, .int .i64 o, .int .i64 p], .agg #[.int .i64 c, .int .i64 k, .bool f, .string l, .int .i64 v, .int .i64 o, .int .i64 p]] w fun e w' => e = .returned (.bool true) ∧ Below w.heap.size w w' := by
  have hE := fun w => eqAnswer_same k f l v o p w
  have hnn := hne_all
  go_enter Try.func51, Try.ntmps51
  go_wp2_with fail
  refine (hE _).mono ?_
  rintro e w1 ⟨rfl, hb1⟩
  go_wp2
  go_ret
  exact ⟨rfl, below_after (below_after hb1)⟩
theorem eqRecordResult_sameV (c : Int) (l : ByteArray) (v o p : Int) (w : World) :
    Calls Try.prog 40 #[.agg #[.int .i64 c, .string l, .int .i64 v, .int .i64 o, .int .i64 p], .agg #[.int .i64 c, .string l, .int .i64 v, .int .i64 o, .int .i64 p]] w fun e w' => e = .returned (.bool true) ∧ Below w.heap.size w w' := eqRecordResult_same c l v o p w
end U
end Go.Proofs.Ythmnjojjnlnbjaa
