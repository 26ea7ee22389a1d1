/- Answers and records looked up, by the model and by the program. -/
import Derived.Test.YthmnjojjnlnbjaaAn2
import Derived.Test.YthmnjojjnlnbjaaDr2
import Derived.Test.YthmnjojjnlnbjaaRecW
namespace Go.Proofs.Ythmnjojjnlnbjaa
open Go.RowKit Go.Maps
namespace U
theorem six_cells {w : World} {g : Nat} {x0 x1 x2 x3 x4 x5 : Value} {t : TypeId} (h : w.heap[g]? = some (.cells #[x0, x1, x2, x3, x4, x5] t)) :
    w.cell? ⟨g, 0, none⟩ = some x0 ∧ w.cell? ⟨g, 1, none⟩ = some x1 ∧ w.cell? ⟨g, 2, none⟩ = some x2 ∧ w.cell? ⟨g, 3, none⟩ = some x3 ∧ w.cell? ⟨g, 4, none⟩ = some x4 ∧ w.cell? ⟨g, 5, none⟩ = some x5 ∧
    w.frozen? ⟨g, 0, none⟩ = false ∧ w.frozen? ⟨g, 1, none⟩ = false ∧ w.frozen? ⟨g, 2, none⟩ = false ∧ w.frozen? ⟨g, 3, none⟩ = false ∧ w.frozen? ⟨g, 4, none⟩ = false ∧ w.frozen? ⟨g, 5, none⟩ = false := by
  simp [World.cell?, World.frozen?, h]
theorem five_cells {w : World} {g : Nat} {x0 x1 x2 x3 x4 : Value} {t : TypeId} (h : w.heap[g]? = some (.cells #[x0, x1, x2, x3, x4] t)) :
    w.cell? ⟨g, 0, none⟩ = some x0 ∧ w.cell? ⟨g, 1, none⟩ = some x1 ∧ w.cell? ⟨g, 2, none⟩ = some x2 ∧ w.cell? ⟨g, 3, none⟩ = some x3 ∧ w.cell? ⟨g, 4, none⟩ = some x4 ∧
    w.frozen? ⟨g, 0, none⟩ = false ∧ w.frozen? ⟨g, 1, none⟩ = false ∧ w.frozen? ⟨g, 2, none⟩ = false ∧ w.frozen? ⟨g, 3, none⟩ = false ∧ w.frozen? ⟨g, 4, none⟩ = false := by
  simp [World.cell?, World.frozen?, h]
theorem set6_other {w : World} {b g i : Nat} (h : b ≠ g) (x0 x1 x2 x3 x4 x5 : Value) (_ : True) : ((((((w.setCell ⟨g, 0, none⟩ x0).setCell ⟨g, 1, none⟩ x1).setCell ⟨g, 2, none⟩ x2).setCell ⟨g, 3, none⟩ x3).setCell ⟨g, 4, none⟩ x4).setCell ⟨g, 5, none⟩ x5).cell? ⟨b, i, none⟩ = w.cell? ⟨b, i, none⟩ := by
  have h' : ∀ j, (⟨g, j, none⟩ : Addr) ≠ ⟨b, i, none⟩ := fun j e => h (by cases e; rfl)
  rw [World.cell?_setCell_other _ _ _ _ (h' _), World.cell?_setCell_other _ _ _ _ (h' _), World.cell?_setCell_other _ _ _ _ (h' _), World.cell?_setCell_other _ _ _ _ (h' _), World.cell?_setCell_other _ _ _ _ (h' _), World.cell?_setCell_other _ _ _ _ (h' _)]
set_option maxRecDepth 100000 in
set_option maxHeartbeats 4000000 in
theorem l9Answer_any (g : Nat) (v : Value) (l : Rcl) (s : ByteArray) (w : World) (hg : g < w.heap.size) (hD : w.cell? ⟨g, 0, none⟩ = some v) (hv : Rcs w v l) (hok : DirOk l) (hs : s.size ≤ 12) (f : Bool) (x0 : ByteArray) (x1 x2 x3 : Int) (ho : lkV (fO (lkO l (keyI s)) (foldS s)) = .tuple #[.agg #[.string x0, .int .i64 x1, .int .i64 x2, .int .i64 x3], .bool f]) :
    Calls Try.prog 77 #[.pointer (some ⟨g, 0, none⟩), .string s] w fun e w' => e = .returned (.agg #[.int .i64 (keyI s), .bool f, .string x0, .int .i64 x1, .int .i64 x2, .int .i64 x3]) ∧ Below w.heap.size w w' := by
  have hK := fun w => l2Key_any s w hs
  have hL := fun w' (h : Below w.heap.size w w') => l9Look_any g v l s w' (Nat.lt_of_lt_of_le hg h.size) ((h.cell (p := ⟨g, 0, none⟩) hg).trans hD) (hv.below h) hok hs
  rw [ho] at hL
  generalize keyI s = kz at *
  clear hv ho
  obtain ⟨W, hW⟩ : ∃ W, W = w.alloc (.cells #[.int .i64 0, .bool false, .string ⟨#[]⟩, .int .i64 0, .int .i64 0, .int .i64 0] 45) := ⟨_, rfl⟩
  have HW : Hid (w.alloc (.cells #[.int .i64 0, .bool false, .string ⟨#[]⟩, .int .i64 0, .int .i64 0, .int .i64 0] 45) = W) := hW.symm
  have hB : Below w.heap.size w W := by rw [hW]; exact one_new _
  have h1 : W.heap[w.heap.size]? = some (.cells #[.int .i64 0, .bool false, .string ⟨#[]⟩, .int .i64 0, .int .i64 0, .int .i64 0] 45) := by rw [hW]; exact heap_alloc_new w _
  clear hW
  go_enter Try.func77, Try.ntmps77
  go_wp2_with fail
  rw [HW.out]
  refine (hL _ hB).mono ?_
  rintro e w1 ⟨rfl, hb1⟩
  have hB1 := below_after_of hB hb1
  have h1 := (hb1.block _ (Array.getElem?_eq_some_iff.1 h1).1).trans h1
  obtain ⟨W1, hW1⟩ : ∃ W1, W1 = w1.alloc (.cells #[.string x0, .int .i64 x1, .int .i64 x2, .int .i64 x3] 28) := ⟨_, rfl⟩
  have HW1 : Hid (w1.alloc (.cells #[.string x0, .int .i64 x1, .int .i64 x2, .int .i64 x3] 28) = W1) := hW1.symm
  have hB2 : Below w.heap.size w W1 := by rw [hW1]; exact hB1.alloc hB1.size _
  have h2 : W1.heap[w.heap.size]? = some (.cells #[.int .i64 0, .bool false, .string ⟨#[]⟩, .int .i64 0, .int .i64 0, .int .i64 0] 45) := by rw [hW1]; exact ((one_new _).block _ (Array.getElem?_eq_some_iff.1 h1).1).trans h1
  have A1 : W1.heap[w1.heap.size]? = some (.cells #[.string x0, .int .i64 x1, .int .i64 x2, .int .i64 x3] 28) := by rw [hW1]; exact heap_alloc_new w1 _
  have hlt1 := (Array.getElem?_eq_some_iff.1 A1).1
  have hltg := (Array.getElem?_eq_some_iff.1 h2).1
  have hlw : w.heap.size < w1.heap.size := (Array.getElem?_eq_some_iff.1 h1).1
  have HC : Hid (∀ w', Below W1.heap.size W1 w' → w'.cell? ⟨w1.heap.size, 0, none⟩ = some (.string x0) ∧ w'.cell? ⟨w1.heap.size, 1, none⟩ = some (.int .i64 x1) ∧ w'.cell? ⟨w1.heap.size, 2, none⟩ = some (.int .i64 x2) ∧ w'.cell? ⟨w1.heap.size, 3, none⟩ = some (.int .i64 x3)) := fun w' h => four_cellsV ((h.block _ hlt1).trans A1)
  have HD2 : Hid (∀ w', Below W1.heap.size W1 w' → w'.heap[w.heap.size]? = some (.cells #[.int .i64 0, .bool false, .string ⟨#[]⟩, .int .i64 0, .int .i64 0, .int .i64 0] 45)) := fun w' h => (h.block _ hltg).trans h2
  obtain ⟨g0, g1, g2, g3⟩ := four_cellsV A1
  have hbr := Below.refl W1.heap.size W1
  have hnb : w1.heap.size ≠ w.heap.size := by omega
  clear hL hb1 hW1 h1 hB hB1 h2 A1
  go_wp2_with fail
  rw [HW1.out]
  go_region_held3 (fun w' => w'.cell? ⟨w1.heap.size, 0, none⟩ = some (.string x0) ∧ w'.cell? ⟨w1.heap.size, 1, none⟩ = some (.int .i64 x1) ∧ w'.cell? ⟨w1.heap.size, 2, none⟩ = some (.int .i64 x2) ∧ w'.cell? ⟨w1.heap.size, 3, none⟩ = some (.int .i64 x3))
    (first | with_reducible exact ⟨g0, g1, g2, g3⟩ | with_reducible exact HC.out _ hbr | with_reducible exact HC.out _ hbr.drew | with_reducible exact ⟨(set6_other hnb _ _ _ _ _ _ trivial).trans (HC.out _ hbr).1, (set6_other hnb _ _ _ _ _ _ trivial).trans (HC.out _ hbr).2.1, (set6_other hnb _ _ _ _ _ _ trivial).trans (HC.out _ hbr).2.2.1, (set6_other hnb _ _ _ _ _ _ trivial).trans (HC.out _ hbr).2.2.2⟩)
    (first
      | (go_at_call 104; refine (hK _).mono ?_; rintro e w5 ⟨rfl, hb5⟩; have hbr : Below W1.heap.size W1 w5 := (by first | exact below_after_of hbr hb5 | exact below_after_of hbr.drew hb5); have hh := HD2.out _ hbr; obtain ⟨c0, c1, c2, c3, c4, c5, f0, f1, f2, f3, f4, f5⟩ := six_cells hh))
  have hB5 := below_after_of hB2 hbr
  clear HC HD2 hh hb5
  go_wp2
  refine bodyPost_ret (v := .agg #[.int .i64 kz, .bool f, .string x0, .int .i64 x1, .int .i64 x2, .int .i64 x3]) (by simp [results, Try.results77, go_sem, *]) rfl ⟨rfl, ?_⟩
  exact ((((((hB5.setCell (Nat.le_refl _) _).setCell (Nat.le_refl _) _).setCell (Nat.le_refl _) _).setCell (Nat.le_refl _) _).setCell (Nat.le_refl _) _).setCell (Nat.le_refl _) _)
theorem anC_cases (l : Rcl) (s : ByteArray) : (dirF l = 0 ∧ labelP s = 0 ∧ anC l s = 0) ∨ (¬ anC l s = 0 ∧ ((¬ dirF l = 0 ∧ anC l s = dirF l) ∨ (dirF l = 0 ∧ ¬ labelP s = 0 ∧ anC l s = labelP s))) := by
  unfold anC
  by_cases h : dirF l = 0
  · rw [if_pos h]
    by_cases h1 : labelP s = 0
    · exact Or.inl ⟨h, h1, h1⟩
    · exact Or.inr ⟨h1, Or.inr ⟨h, h1, rfl⟩⟩
  · rw [if_neg h]
    exact Or.inr ⟨h, Or.inl ⟨h, rfl⟩⟩
set_option maxRecDepth 100000 in
set_option maxHeartbeats 4000000 in
theorem specAnswerOf_any (v : Value) (l : Rcl) (s : ByteArray) (w : World) (hv : Rcs w v l) (hl : Lbs l) (hx : l.length ≤ 1048576) (hs : s.size ≤ 1048576) :
    Calls Try.prog 30 #[.agg #[v], .string s] w fun e w' => e = .returned (ansV (anC l s) (anK l s) (anO l s)) ∧ Below w.heap.size w w' := by
  obtain ⟨W, hW⟩ : ∃ W, W = (w.alloc (.cells #[v] 26)).alloc (.cells #[.int .i64 0, .int .i64 0, .bool false, .string ⟨#[]⟩, .int .i64 0, .int .i64 0, .int .i64 0] 47) := ⟨_, rfl⟩
  have HW : Hid ((w.alloc (.cells #[v] 26)).alloc (.cells #[.int .i64 0, .int .i64 0, .bool false, .string ⟨#[]⟩, .int .i64 0, .int .i64 0, .int .i64 0] 47) = W) := hW.symm
  have hB : Below w.heap.size w W := by rw [hW]; exact two_new _ _
  have h1 : W.heap[w.heap.size + 1]? = some (.cells #[.int .i64 0, .int .i64 0, .bool false, .string ⟨#[]⟩, .int .i64 0, .int .i64 0, .int .i64 0] 47) := by rw [hW]; exact heap_new2 w _ _
  have h2 : W.heap[w.heap.size]? = some (.cells #[v] 26) := by rw [hW]; exact heap_alloc_old' _ _ _ (heap_alloc_new w _)
  have hlt2 := (Array.getElem?_eq_some_iff.1 h2).1
  have HF : Hid (∀ w', Below W.heap.size W w' → Calls Try.prog 66 #[.pointer (some ⟨w.heap.size, 0, none⟩)] w' fun e w'' => e = .returned (.int .i64 (dirF l)) ∧ Below w'.heap.size w' w'') := fun w' h => l9Fault_any w.heap.size v l w' (Nat.lt_of_lt_of_le hlt2 h.size) (box1_cellA ((h.block _ hlt2).trans h2)) ((hv.below hB).below h) hl (by omega)
  have hL := fun w => l1Label_any s w hs
  have HA : Hid (∀ f x0 x1 x2 x3, dirF l = 0 → labelP s = 0 → lkV (fO (lkO l (keyI s)) (foldS s)) = .tuple #[.agg #[.string x0, .int .i64 x1, .int .i64 x2, .int .i64 x3], .bool f] → ∀ w', Below W.heap.size W w' → Calls Try.prog 77 #[.pointer (some ⟨w.heap.size, 0, none⟩), .string s] w' fun e w'' => e = .returned (.agg #[.int .i64 (keyI s), .bool f, .string x0, .int .i64 x1, .int .i64 x2, .int .i64 x3]) ∧ Below w'.heap.size w' w'') := fun f x0 x1 x2 x3 h0 hs0 ho w' h => l9Answer_any w.heap.size v l s w' (Nat.lt_of_lt_of_le hlt2 h.size) (box1_cellA ((h.block _ hlt2).trans h2)) ((hv.below hB).below h) (dirOk h0) (labelP_small hs0) f x0 x1 x2 x3 ho
  obtain ⟨a, c, rfl⟩ := hv.shape
  generalize l.length = n at *
  have HH : Hid (∀ w', Below W.heap.size W w' → w'.heap[w.heap.size + 1]? = some (.cells #[.int .i64 0, .int .i64 0, .bool false, .string ⟨#[]⟩, .int .i64 0, .int .i64 0, .int .i64 0] 47)) := fun w' h => (h.block _ (Array.getElem?_eq_some_iff.1 h1).1).trans h1
  clear hW hv h1 h2 hlt2
  rcases anC_cases l s with ⟨h0, hs0, hc0⟩ | ⟨hn, (⟨h0, hc⟩ | ⟨h0, hs0, hc⟩)⟩
  · rw [hc0, anK, anO, if_pos hc0, if_pos hc0]
    have hA := fun f x0 x1 x2 x3 => HA.out f x0 x1 x2 x3 h0 hs0
    have hF := HF.out W (Below.refl _ _)
    rw [h0] at hF
    rw [hs0] at hL
    obtain ⟨f, x0, x1, x2, x3, hv1, hv2⟩ : ∃ f x0 x1 x2 x3, lkV (fO (lkO l (keyI s)) (foldS s)) = .tuple #[.agg #[.string x0, .int .i64 x1, .int .i64 x2, .int .i64 x3], .bool f] ∧ ansV 0 (keyI s) (fO (lkO l (keyI s)) (foldS s)) = .agg #[.int .i64 0, .int .i64 (keyI s), .bool f, .string x0, .int .i64 x1, .int .i64 x2, .int .i64 x3] := ⟨_, _, _, _, _, rfl, rfl⟩
    rw [hv2]
    have hA := hA f x0 x1 x2 x3 hv1
    generalize keyI s = kz at *
    clear HA HF hv1 hv2 h0 hs0 hc0
    go_enter Try.func30, Try.ntmps30
    go_wp2_with fail
    rw [HW.out]
    refine hF.mono ?_
    rintro e w1 ⟨rfl, hb1⟩
    clear hF
    go_wp2_with fail
    refine (hL _).mono ?_
    rintro e w2 ⟨rfl, hb2⟩
    have hb2 := below_after_of hb1 hb2
    clear hL hb1
    go_wp2_with fail
    refine (hA _ hb2).mono ?_
    rintro e w3 ⟨rfl, hb3⟩
    have hb3 := below_after_of hb2 hb3
    obtain ⟨c0, c1, c2, c3, c4, c5, c6, f0, f1, f2, f3, f4, f5, f6⟩ := seven_cells (HH.out _ hb3)
    have hB3 := below_after_of hB hb3
    clear hA hb2 hb3 HH
    go_wp2
    exact bodyPost_ret (v := .agg #[.int .i64 0, .int .i64 kz, .bool f, .string x0, .int .i64 x1, .int .i64 x2, .int .i64 x3]) (by simp [results, Try.results30, go_sem, *]) rfl ⟨rfl, set7 hB3 (Nat.le_succ _) _ _ _ _ _ _ _⟩
  · rw [anK, anO, if_neg hn, if_neg hn, hc]
    have hF := HF.out W (Below.refl _ _)
    have hqn : (dirF l != 0) = true := by simpa using h0
    generalize dirF l = q at *
    clear HA HF h0 hn hc
    go_enter Try.func30, Try.ntmps30
    go_wp2_with fail
    rw [HW.out]
    refine hF.mono ?_
    rintro e w1 ⟨rfl, hb1⟩
    obtain ⟨c0, c1, c2, c3, c4, c5, c6, f0, f1, f2, f3, f4, f5, f6⟩ := seven_cells (HH.out _ hb1)
    have hB3 := below_after_of hB hb1
    clear hF hb1 HH hL
    go_wp2
    exact bodyPost_ret (v := .agg #[.int .i64 q, .int .i64 0, .bool false, .string ⟨#[]⟩, .int .i64 0, .int .i64 0, .int .i64 0]) (by simp [results, Try.results30, go_sem, *]) rfl ⟨rfl, set7 hB3 (Nat.le_succ _) _ _ _ _ _ _ _⟩
  · rw [anK, anO, if_neg hn, if_neg hn, hc]
    have hF := HF.out W (Below.refl _ _)
    rw [h0] at hF
    have hqn : (labelP s != 0) = true := by simpa using hs0
    generalize labelP s = q at *
    clear HA HF h0 hn hc hs0
    go_enter Try.func30, Try.ntmps30
    go_wp2_with fail
    rw [HW.out]
    refine hF.mono ?_
    rintro e w1 ⟨rfl, hb1⟩
    clear hF
    go_wp2_with fail
    refine (hL _).mono ?_
    rintro e w2 ⟨rfl, hb2⟩
    have hb2 := below_after_of hb1 hb2
    obtain ⟨c0, c1, c2, c3, c4, c5, c6, f0, f1, f2, f3, f4, f5, f6⟩ := seven_cells (HH.out _ hb2)
    have hB3 := below_after_of hB hb2
    clear hL hb1 hb2 HH
    go_wp2
    exact bodyPost_ret (v := .agg #[.int .i64 q, .int .i64 0, .bool false, .string ⟨#[]⟩, .int .i64 0, .int .i64 0, .int .i64 0]) (by simp [results, Try.results30, go_sem, *]) rfl ⟨rfl, set7 hB3 (Nat.le_succ _) _ _ _ _ _ _ _⟩
end U
end Go.Proofs.Ythmnjojjnlnbjaa
