/- Clashes that are made: what both models answer. -/
import Derived.Test.YtljbcpkjhnbpeaaGreatDoorClash
namespace Go.Proofs.YtljbcpkjhnbpeaaGreatDoor
open Go.RowKit
namespace U
theorem three_cellsV {w : World} {b : Nat} {x y z : Value} {t : TypeId} (h : w.heap[b]? = some (.cells #[x, y, z] t (0, 0))) : w.cell? ⟨b, 0, none⟩ = some x ∧ w.cell? ⟨b, 1, none⟩ = some y ∧ w.cell? ⟨b, 2, none⟩ = some z ∧ w.frozen? ⟨b, 0, none⟩ = false ∧ w.frozen? ⟨b, 1, none⟩ = false ∧ w.frozen? ⟨b, 2, none⟩ = false := by
  simp [World.cell?, World.frozen?, h]
theorem four_cells {w : World} {b : Nat} {x y z u : Value} {t : TypeId} (h : w.heap[b]? = some (.cells #[x, y, z, u] t (0, 0))) : w.cell? ⟨b, 0, none⟩ = some x ∧ w.cell? ⟨b, 1, none⟩ = some y ∧ w.cell? ⟨b, 2, none⟩ = some z ∧ w.cell? ⟨b, 3, none⟩ = some u ∧ w.frozen? ⟨b, 0, none⟩ = false ∧ w.frozen? ⟨b, 1, none⟩ = false ∧ w.frozen? ⟨b, 2, none⟩ = false ∧ w.frozen? ⟨b, 3, none⟩ = false := by
  simp [World.cell?, World.frozen?, h]
def l2B (ls bs : List Int) : Bool := decide (sumL ls = sumL bs ∧ ¬ ls = bs)
theorem l2B_ar {ls bs : List Int} (h1 : ls.length ≤ 200) (h2 : bs.length ≤ 200) : arB ls bs = l2B ls bs := by
  unfold arB l2B
  rw [Bool.eq_iff_iff, decide_eq_true_iff, decide_eq_true_iff]
  exact ⟨fun h => h.2.2, fun h => ⟨h1, h2, h⟩⟩
def pick (f : Bool) (ls : List Int) : List Int := if f = true then ls else []
/-- What is handed back where two pieces may be a clash. -/
def Rows2 (w w' : World) (v1 v2 : Value) (f : Bool) (ls bs : List Int) : Prop :=
  w'.ownsRow w.heap.size 5 1 v1 (pick f ls).length ((pick f ls).map (Value.int .u8)) ∧ w'.ownsRow w.heap.size 5 1 v2 (pick f bs).length ((pick f bs).map (Value.int .u8)) ∧ ∀ k, v1.ownBlock = some k → ∀ j, v2.ownBlock = some j → k < j
theorem Rows2.nil (w w' : World) (ls bs : List Int) : Rows2 w w' (.slice none 0 0) (.slice none 0 0) false ls bs := ⟨World.ownsRow_nil _ _ _ _, World.ownsRow_nil _ _ _ _, fun k hk => by cases hk⟩
theorem Rows2.shape {w w' : World} {v1 v2 : Value} {f : Bool} {ls bs : List Int} (h : Rows2 w w' v1 v2 f ls bs) : (∃ a c, v1 = .slice a (pick f ls).length c) ∧ ∃ a c, v2 = .slice a (pick f bs).length c := ⟨own_shape h.1, own_shape h.2.1⟩
def Rows3 (w w' : World) (v1 v2 : Value) (xs ys : List Int) : Prop := w'.ownsRow (w.heap.size + 1) 5 1 v1 xs.length (xs.map (Value.int .u8)) ∧ w'.ownsRow (w.heap.size + 1) 5 1 v2 ys.length (ys.map (Value.int .u8)) ∧ ∀ k, v1.ownBlock = some k → ∀ j, v2.ownBlock = some j → k < j
theorem Rows3.set {w w' : World} {v1 v2 : Value} {xs ys : List Int} (h : Rows3 w w' v1 v2 xs ys) (i : Nat) (x : Value) : Rows3 w (w'.setCell ⟨w.heap.size, i, none⟩ x) v1 v2 xs ys :=
  ⟨ownsRow_setCell_below h.1 (by simp) _, ownsRow_setCell_below h.2.1 (by simp) _, h.2.2⟩
theorem Rows3.rows {w w' : World} {v1 v2 : Value} {f : Bool} {ls bs : List Int} (h : Rows3 w w' v1 v2 (pick f ls) (pick f bs)) : Rows2 w w' v1 v2 f ls bs := ⟨own_mono h.1 (by omega), own_mono h.2.1 (by omega), h.2.2⟩
set_option maxRecDepth 100000 in
set_option maxHeartbeats 2000000 in
theorem l2Clash_any (A B : Nat) (v u : Value) (ls bs : List Int) (w : World) (hv : w.ownsRow A 5 1 v ls.length (ls.map (Value.int .u8))) (hu : w.ownsRow B 5 1 u bs.length (bs.map (Value.int .u8))) (ha : Bts ls) (hb : Bts bs) (hxa : ls.length ≤ 1048576) (hxb : bs.length ≤ 1048576) :
    Calls Tryz.prog 111 #[v, u] w fun e w' => Below w.heap.size w w' ∧ ∃ v1 v2, e = .returned (.agg #[.bool (l2B ls bs), v1, v2]) ∧ Rows2 w w' v1 v2 (l2B ls bs) ls bs := by
  have c1 := fun o => conv_str (P := Tryz.prog) 22 9 Tryz.underlying22 Tryz.underlying5 Tryz.underlying9 ((own_ints hv).below (one_new o)) ha
  have c2 := fun o => conv_str (P := Tryz.prog) 22 9 Tryz.underlying22 Tryz.underlying5 Tryz.underlying9 ((own_ints hu).below (one_new o)) hb
  have hI := (sOf_inj ha hb)
  have hS1 := fun o => l2Sum_any v ls _ ((own_ints hv).below (one_new o)) ha (by omega)
  have hS2 := fun o => l2Sum_any u bs _ ((own_ints hu).below (one_new o)) hb (by omega)
  have hC1 := fun o => l1Copy_any A v ls (w.alloc o) (own_below hv (one_new o)) hxa
  have hC2 := fun w' h => l1Copy_any B u bs w' (own_below hu h) hxb
  obtain ⟨a, c, rfl⟩ := own_shape hv
  obtain ⟨a', c', rfl⟩ := own_shape hu
  have HP : Hid (ls.length ≤ 1048576) := hxa
  by_cases h1 : ls = bs
  · have hf : l2B ls bs = false := by unfold l2B; exact decide_eq_false (fun e => e.2 h1)
    rw [hf]
    have h2 : ((sOf ls).toList == (sOf bs).toList) = true := by rw [beq_iff_eq, (hI.2 h1)]
    clear h1
    generalize sOf ls = s at *
    generalize sOf bs = t at *
    generalize ls.length = n at *
    generalize bs.length = m at *
    clear hv hu ha hb hI hS1 hS2 hC1 hC2 hf
    go_enter Tryz.func111, Tryz.ntmps111
    go_wp2
    exact bodyPost_ret (v := .agg #[.bool false, .slice none 0 0, .slice none 0 0]) (by simp [results, Tryz.results111, go_sem]) rfl ⟨one_new _, _, _, rfl, Rows2.nil _ _ _ _⟩
  · have h2 : ((sOf ls).toList == (sOf bs).toList) = false := by rw [Bool.eq_false_iff]; intro e; rw [beq_iff_eq, toList_iff, hI] at e; exact h1 e
    by_cases h3 : sumL ls = sumL bs
    · have hf : l2B ls bs = true := by unfold l2B; exact decide_eq_true ⟨h3, h1⟩
      rw [hf]
      rw [← h3] at hS2
      have hc : Rows2 w = Rows2 w := rfl
      generalize sOf ls = s at *
      generalize sOf bs = t at *
      generalize sumL ls = x at *
      clear hv hu ha hb hI h1 h3 hc
      go_enter Tryz.func111, Tryz.ntmps111
      go_wp2_with fail
      refine (hS1 _).mono ?_
      rintro e w1 ⟨rfl, rfl⟩
      go_wp2_with fail
      refine (hS2 _).mono ?_
      rintro e w1 ⟨rfl, rfl⟩
      go_wp2_with fail
      refine (hC1 _).mono ?_
      rintro e w1 ⟨v1, rfl, own1, hb1⟩
      have hB1 := below_after hb1
      obtain ⟨a1, c1', rfl⟩ := own_shape own1
      clear hS1 hS2 hC1 c1 c2
      go_wp2_with fail
      refine (hC2 _ hB1).mono ?_
      rintro e w2 ⟨v2, rfl, own2, hb2⟩
      obtain ⟨a2, c2', rfl⟩ := own_shape own2
      have hB2 := below_after_of hB1 hb2
      obtain ⟨q0, q1, q2, f0, f1, f2⟩ := three_cellsV (((below_after_of hb1 hb2).block w.heap.size (by simp)).trans (heap_alloc_new w _))
      have hz1 : w.heap.size < w1.heap.size := by have := hb1.size; simp at this; omega
      have HR : Hid (Rows3 w w2 (.slice a1 ls.length c1') (.slice a2 bs.length c2') ls bs) := by
        refine ⟨own_below (by simpa using own1) hb2, own_mono own2 (by omega), fun k hk j hj => ?_⟩
        have := (own1.lt k hk).2
        have := (own2.lt j hj).1
        omega
      clear hC2 own1 own2 hb1 hb2 hB1
      go_wp2
      exact bodyPost_ret (v := .agg #[.bool true, .slice a1 ls.length c1', .slice a2 bs.length c2']) (by simp [results, Tryz.results111, go_sem, q0, q1, q2]) rfl ⟨((hB2.setCell (Nat.le_refl _) _).setCell (Nat.le_refl _) _).setCell (Nat.le_refl _) _, _, _, rfl, Rows3.rows (f := true) (((HR.out.set 0 _).set 1 _).set 2 _)⟩
    · have hf : l2B ls bs = false := by unfold l2B; exact decide_eq_false (fun e => h3 e.1)
      rw [hf]
      generalize sOf ls = s at *
      generalize sOf bs = t at *
      generalize sumL ls = x at *
      generalize sumL bs = y at *
      have h4 : (x != y) = true := by simpa using h3
      generalize ls.length = n at *
      generalize bs.length = m at *
      clear hv hu ha hb hI hC1 hC2 hf h1 h3
      go_enter Tryz.func111, Tryz.ntmps111
      go_wp2_with fail
      refine (hS1 _).mono ?_
      rintro e w1 ⟨rfl, rfl⟩
      go_wp2_with fail
      refine (hS2 _).mono ?_
      rintro e w1 ⟨rfl, rfl⟩
      clear hS1 hS2
      go_wp2
      exact bodyPost_ret (v := .agg #[.bool false, .slice none 0 0, .slice none 0 0]) (by simp [results, Tryz.results111, go_sem]) rfl ⟨one_new _, _, _, rfl, Rows2.nil _ _ _ _⟩
def lkC (ls bs : List Int) : Int := if 200 < ls.length ∨ 200 < bs.length then 2 else 0
theorem lk_many {ls bs : List Int} (h : 200 < ls.length ∨ 200 < bs.length) : lkC ls bs = 2 ∧ arB ls bs = false := by
  refine ⟨by unfold lkC; rw [if_pos h], ar_not (fun e => by omega)⟩
theorem lk_ok {ls bs : List Int} (h : ¬ (200 < ls.length ∨ 200 < bs.length)) : lkC ls bs = 0 ∧ arB ls bs = l2B ls bs := by
  refine ⟨by unfold lkC; rw [if_neg h], l2B_ar (by omega) (by omega)⟩
def ClashAns (w : World) (code : Int) (f : Bool) (ls bs : List Int) (e : Ending) (w' : World) : Prop := Below w.heap.size w w' ∧ ∃ v1 v2, e = .returned (.agg #[.int .i64 code, .bool f, v1, v2]) ∧ Rows2 w w' v1 v2 f ls bs
set_option maxRecDepth 100000 in
set_option maxHeartbeats 2000000 in
theorem implLookClash_any (A B : Nat) (v u : Value) (ls bs : List Int) (w : World) (hv : w.ownsRow A 5 1 v ls.length (ls.map (Value.int .u8))) (hu : w.ownsRow B 5 1 u bs.length (bs.map (Value.int .u8))) (ha : Bts ls) (hb : Bts bs) (hxa : ls.length ≤ 1048576) (hxb : bs.length ≤ 1048576) :
    Calls Tryz.prog 154 #[v, u] w fun e w' => ClashAns w (lkC ls bs) (arB ls bs) ls bs e w' := by
  have hA := fun o => areClash_any v u ls bs (w.alloc o) ((own_ints hv).below (one_new o)) ((own_ints hu).below (one_new o)) ha hb (by omega) (by omega)
  have hC1 := fun w' h => clone_any A v ls w' (own_below hv h) hxa
  have hC2 := fun w' h => clone_any B u bs w' (own_below hu h) hxb
  obtain ⟨a, c, rfl⟩ := own_shape hv
  obtain ⟨a', c', rfl⟩ := own_shape hu
  by_cases h1 : 200 < ls.length ∨ 200 < bs.length
  · rw [(lk_many h1).1, (lk_many h1).2]
    have h2 := h1
    generalize ls.length = n at *
    generalize bs.length = m at *
    clear hv hu ha hb hA hC1 hC2 h2
    rcases Nat.lt_or_ge 200 n with h | h
    · clear h1
      go_enter Tryz.func154, Tryz.ntmps154
      go_wp2
      exact bodyPost_ret (v := .agg #[.int .i64 2, .bool false, .slice none 0 0, .slice none 0 0]) (by simp [results, Tryz.results154, go_sem]) rfl ⟨one_new _, _, _, rfl, Rows2.nil _ _ _ _⟩
    · have h3 : 200 < m := by omega
      clear h1
      go_enter Tryz.func154, Tryz.ntmps154
      go_wp2
      exact bodyPost_ret (v := .agg #[.int .i64 2, .bool false, .slice none 0 0, .slice none 0 0]) (by simp [results, Tryz.results154, go_sem]) rfl ⟨one_new _, _, _, rfl, Rows2.nil _ _ _ _⟩
  · rw [(lk_ok h1).1]
    have h2 : ls.length ≤ 200 := by omega
    have h3 : bs.length ≤ 200 := by omega
    rcases Bool.eq_false_or_eq_true (arB ls bs) with hf | hf
    · rw [hf] at hA ⊢
      clear hv hu ha hb h1 hxa hxb hf
      go_enter Tryz.func154, Tryz.ntmps154
      go_wp2_with fail
      refine (hA _).mono ?_
      rintro e w0 ⟨rfl, hb0⟩
      have hB0 := below_after hb0
      clear hA
      go_wp2_with fail
      refine (hC1 _ hB0).mono ?_
      rintro e w1 ⟨v1, rfl, own1, hb1⟩
      have hB1 := below_after_of hB0 hb1
      obtain ⟨a1, c1', rfl⟩ := own_shape own1
      clear hC1
      go_wp2_with fail
      refine (hC2 _ hB1).mono ?_
      rintro e w2 ⟨v2, rfl, own2, hb2⟩
      obtain ⟨a2, c2', rfl⟩ := own_shape own2
      have hB2 := below_after_of hB1 hb2
      obtain ⟨q0, q1, q2, q3, f0, f1, f2, f3⟩ := four_cells (((below_after_of (below_after_of hb0 hb1) hb2).block w.heap.size (by simp)).trans (heap_alloc_new w _))
      have hz0 : w.heap.size < w0.heap.size := by have := hb0.size; simp at this; omega
      have HR : Hid (Rows3 w w2 (.slice a1 ls.length c1') (.slice a2 bs.length c2') (pick true ls) (pick true bs)) := by
        refine ⟨own_mono (own_below own1 hb2) (by omega), own_mono own2 (by have := hb1.size; omega), fun k hk j hj => ?_⟩
        have := (own1.lt k hk).2
        have := (own2.lt j hj).1
        omega
      clear hC2 own1 own2 hb1 hb2 hB1 hb0 hB0
      go_wp2
      exact bodyPost_ret (v := .agg #[.int .i64 0, .bool true, .slice a1 ls.length c1', .slice a2 bs.length c2']) (by simp [results, Tryz.results154, go_sem, q0, q1, q2, q3]) rfl ⟨(((hB2.setCell (Nat.le_refl _) _).setCell (Nat.le_refl _) _).setCell (Nat.le_refl _) _).setCell (Nat.le_refl _) _, _, _, rfl, Rows3.rows ((((HR.out.set 0 _).set 1 _).set 2 _).set 3 _)⟩
    · rw [hf] at hA ⊢
      generalize ls.length = n at *
      generalize bs.length = m at *
      clear hv hu ha hb h1 hf hC1 hC2
      go_enter Tryz.func154, Tryz.ntmps154
      go_wp2_with fail
      refine (hA _).mono ?_
      rintro e w0 ⟨rfl, hb0⟩
      have hB0 := below_after hb0
      obtain ⟨q0, q1, q2, q3, f0, f1, f2, f3⟩ := four_cells ((hb0.block w.heap.size (by simp)).trans (heap_alloc_new w _))
      clear hA hb0
      go_wp2
      exact bodyPost_ret (v := .agg #[.int .i64 0, .bool false, .slice none 0 0, .slice none 0 0]) (by simp [results, Tryz.results154, go_sem, q0, q1, q2, q3]) rfl ⟨(((hB0.setCell (Nat.le_refl _) _).setCell (Nat.le_refl _) _).setCell (Nat.le_refl _) _).setCell (Nat.le_refl _) _, _, _, rfl, Rows2.nil _ _ _ _⟩
theorem field_C0 (f : Bool) (a a' : Option Addr) (n c n' c' : Nat) (w : World) : (Instr.field 33 (.agg #[.bool f, .slice a n c, .slice a' n' c']) 0).run Tryz.prog w = .ok (.bool f) w := by kernel_rfl
end U
end Go.Proofs.YtljbcpkjhnbpeaaGreatDoor
