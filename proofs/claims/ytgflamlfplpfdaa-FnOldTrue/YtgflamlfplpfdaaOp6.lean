/- ClimbOld, by the program. -/
import Derived.Test.YtgflamlfplpfdaaOp5
namespace Go.Proofs.Ytgflamlfplpfdaa
open Go.RowKit
namespace U
theorem arr_cx (x s : Int) (p : List Int) : ∃ r0 i0 r1 i1 r2 i2 r3 i3 r4 i4 r5 i5 r6 i6 r7 i7, arrV (nds x s p 8) = #[.complex .f64 r0 i0, .complex .f64 r1 i1, .complex .f64 r2 i2, .complex .f64 r3 i3, .complex .f64 r4 i4, .complex .f64 r5 i5, .complex .f64 r6 i6, .complex .f64 r7 i7] := by
  exact ⟨_, _, _, _, _, _, _, _, _, _, _, _, _, _, _, _, rfl⟩
theorem cells8 {w : World} {b : Nat} {f : Nat → Value} {t : TypeId} (h : w.heap[b]? = some (.cells (arrV f) t)) : ArrV w b f := ArrV.of h
set_option maxRecDepth 100000 in
set_option maxHeartbeats 4000000 in
theorem implClimbOld_any (x : Int) (b : Bool) (v : Int) (u : Value) (p : List Int) (w : World) (hu : Ints .i64 w u p) :
    Calls Try.prog 25 #[.int .i64 x, .bool b, .int .i64 v, u] w fun e w' => IntAns w (coC x b v p) (coV x b v p) e w' := by
  have HL := fun w => implLeafBytes_any x b v w
  have HV : Hid (∀ w', Below w.heap.size w w' → Ints .i64 w' u p) := fun w' h => hu.below h
  obtain ⟨ua, uc, rfl⟩ := hu.shape
  rcases Bool.eq_false_or_eq_true (askd x b v) with ha | ha
  · rw [(lb_ok ha).1, (lb_ok ha).2] at HL
    by_cases h8 : p.length = 8
    · have HNO : Hid (p.all sumB = false → coC x b v p = 3 ∧ coV x b v p = 0) := fun h => co_sum ha h8 h
      have HYES : Hid (p.all sumB = true → coC x b v p = 0 ∧ coV x b v p = clm x (sumL (leafL x b v)) p 8) := fun h => co_ok ha h8 h
      have HM : Hid (∀ v' u' w' (_ : Ints .u8 w' v' (leafL x b v)) (_ : Ints .i64 w' u' p) (_ : p.all sumB = true), Calls Try.prog 76 #[.int .i64 x, v', u'] w' fun e w'' => e = .returned (.tuple #[.agg (arrV (nds x (sumL (leafL x b v)) p 8)), .int .i64 (clm x (sumL (leafL x b v)) p 8)]) ∧ Below w'.heap.size w' w'') :=
        fun v' u' w' h1 h2 h3 => climb_any x v' u' (leafL x b v) p w' (askd_key ha) h1 (leafL_bts ha) (by have := leafL_len x b v; omega) h2 h8 h3
      have HX8 := arr_cx x (sumL (leafL x b v)) p
      generalize clm x (sumL (leafL x b v)) p 8 = y at *
      generalize sumL (leafL x b v) = s at *
      generalize leafL x b v = ls at *
      generalize arrV (nds x s p 8) = ar at *
      have HN : Hid (p.length = 8) := h8
      rw [h8] at HV ⊢
      generalize coC x b v p = cC at *
      generalize coV x b v p = cV at *
      clear hu ha h8
      go_enter Try.func25, Try.ntmps25
      go_wp2_with fail
      refine (HL _).mono ?_
      intro e w1 h1
      obtain ⟨a1, c1, rfl, hb1, own1⟩ := h1.use
      obtain ⟨W2, hW2⟩ : ∃ W2, W2 = w1.alloc (.cells #[.int .i64 0, .slice a1 ls.length c1] 65) := ⟨_, rfl⟩
      have hb2 := below_after_of hb1 (one_new (.cells #[.int .i64 0, .slice a1 ls.length c1] 65))
      have P2 := Pair.new w1 (.int .i64 0) (.slice a1 ls.length c1) 65
      rw [← hW2] at hb2 P2
      have i2 : Ints .u8 W2 (.slice a1 ls.length c1) ls := by rw [hW2]; exact (own_ints own1).below (one_new _)
      have HI2 : Hid (Ints .u8 W2 (.slice a1 ls.length c1) ls) := i2
      obtain ⟨hc0, hc1, hf0, hf1⟩ := two_cells ((hb2.block w.heap.size (by simp)).trans (heap_alloc_new w _))
      have hB2 : Hid (Below w.heap.size w W2) := below_after hb2
      have hsz2 : w.heap.size < W2.heap.size := by have := hb2.size; simp at this; omega
      have HW2 : Hid (W2 = w1.alloc (.cells #[.int .i64 0, .slice a1 ls.length c1] 65)) := hW2
      have p0 := P2.2.1
      have p1 := P2.2.2
      have p2 := P2.1
      have hi2 := HV.out _ hB2.out
      obtain ⟨-, bb, off, rfl, hbl, hcl⟩ := hi2.at (by rw [HN.out]; omega)
      have HC : Hid (∀ j, j < 8 → W2.cell? ⟨bb, off + j, none⟩ = some (.int .i64 (p.getD j 0))) := fun j hj => hcl j (by rw [HN.out]; exact hj)
      clear h1 HL own1 hb1 hb2 i2 hW2 hi2 hcl
      go_wp2_with fail
      rw [← HW2.out]
      go_loop [30] (fun i => ∃ k : Nat, k ≤ 8 ∧ i = .int .i64 k ∧ Hid (AllS p k)) (fun i => 8 - (intOf i).toNat)
      case atStart => exact ⟨0, Nat.zero_le _, rfl, fun j hj => by omega⟩
      case round =>
        obtain ⟨k, hk, rfl, hA⟩ := hrel
        by_cases hkn : k < 8
        · have hki : (k : Int) < 8 := by omega
          have hcj := HC.out k hkn
          have hkx : Hid (k < p.length) := by show _ < _; rw [HN.out]; exact hkn
          obtain ⟨z, hxx⟩ : ∃ z, z = p.getD k 0 := ⟨_, rfl⟩
          have HX : Hid (z = p.getD k 0) := hxx
          rw [← hxx] at hcj
          clear hxx
          rcases Bool.eq_false_or_eq_true (sumB z) with hr | hr
          · go_wp2_with fail
            refine (isSum_any z _).mono ?_
            rintro e w3 ⟨rfl, rfl⟩
            go_wp2
            go_round
            case rel => exact ⟨k + 1, by omega, by go_num, hA.out.succ (by rw [← HX.out]; exact hr)⟩
            case measure => simp [intOf]; omega
          · have e := HNO.out (sums_no hkx.out (by rw [← HX.out]; exact hr))
            have HE : Hid (cC = 3 ∧ cV = 0) := e
            clear e
            go_wp2_with fail
            refine (isSum_any z _).mono ?_
            rintro e w3 ⟨rfl, rfl⟩
            go_wp2
            exact bodyPost_ret (v := .agg #[.int .i64 3, .int .i64 0]) (by simp [results, Try.results25, go_sem, hc0, hc1]) rfl (by rw [HE.out.1, HE.out.2]; exact ⟨rfl, (hB2.out.setCell (Nat.le_refl _) _).setCell (Nat.le_refl _) _⟩)
        · have hkn : k = 8 := by omega
          subst hkn
          have hall : p.all sumB = true := AllS.all (by rw [HN.out]; exact hA.out)
          have HE : Hid (cC = 0 ∧ cV = y) := HYES.out hall
          have hM := fun v' u' w' h1 h2 => HM.out v' u' w' h1 h2 hall
          obtain ⟨r0, i0, r1, i1, r2, i2, r3, i3, r4, i4, r5, i5, r6, i6, r7, i7, rfl⟩ := HX8
          clear hall HYES HNO HM HC
          go_wp2_with fail
          refine (hM _ _ _ HI2.out (HV.out _ hB2.out)).mono ?_
          rintro e w3 ⟨rfl, hb3⟩
          have hc0 := (hb3.cell (p := ⟨w.heap.size, 0, none⟩) hsz2).trans hc0
          have hc1 := (hb3.cell (p := ⟨w.heap.size, 1, none⟩) hsz2).trans hc1
          have hf0 := (hb3.frozen (p := ⟨w.heap.size, 0, none⟩) hsz2).trans hf0
          have hf1 := (hb3.frozen (p := ⟨w.heap.size, 1, none⟩) hsz2).trans hf1
          have hB3 := below_after_of hB2.out hb3
          have hsz3 : w.heap.size < w3.heap.size := Nat.lt_of_lt_of_le hsz2 hb3.size
          have kst := fun (w : World) (a : Addr) (m : Mode) (r i : Nat) => run_store Try.prog w a (.complex .f64 r i) m rfl
          clear hM hb3 p0 p1 p2
          go_wp2
          have hq0 : ∀ o, (((w3.setCell ⟨w.heap.size, 0, none⟩ (.int .i64 0)).setCell ⟨w.heap.size, 1, none⟩ (.int .i64 y)).alloc o).cell? ⟨w.heap.size, 0, none⟩ = some (.int .i64 0) := fun o =>
            ((one_new o).cell (p := ⟨w.heap.size, 0, none⟩) (by simpa using hsz3)).trans ((World.cell?_setCell_other _ _ _ _ (by simp)).trans (World.cell?_setCell_same _ _ _ hc0))
          have hq1 : ∀ o, (((w3.setCell ⟨w.heap.size, 0, none⟩ (.int .i64 0)).setCell ⟨w.heap.size, 1, none⟩ (.int .i64 y)).alloc o).cell? ⟨w.heap.size, 1, none⟩ = some (.int .i64 y) := fun o =>
            ((one_new o).cell (p := ⟨w.heap.size, 1, none⟩) (by simpa using hsz3)).trans (World.cell?_setCell_same _ _ _ ((World.cell?_setCell_other _ _ _ _ (by simp)).trans hc1))
          exact bodyPost_ret (v := .agg #[.int .i64 0, .int .i64 y]) (by simp [results, Try.results25, go_sem, hq0, hq1]) rfl (by rw [HE.out.1, HE.out.2]; exact ⟨rfl, ((hB3.setCell (Nat.le_refl _) _).setCell (Nat.le_refl _) _).alloc (by simpa using Nat.le_of_lt hsz3) _⟩)
    · rw [(co_len ha h8).1, (co_len ha h8).2]
      generalize leafL x b v = ls at *
      generalize p.length = n at *
      have hni : ¬ (n : Int) = 8 := by omega
      clear hu ha
      go_enter Try.func25, Try.ntmps25
      go_wp2_with fail
      refine (HL _).mono ?_
      intro e w1 h1
      obtain ⟨a1, c1, rfl, hb1, own1⟩ := h1.use
      have hb2 := below_after_of hb1 (one_new (.cells #[.int .i64 0, .slice a1 ls.length c1] 65))
      have P2 := Pair.new w1 (.int .i64 0) (.slice a1 ls.length c1) 65
      obtain ⟨hc0, hc1, hf0, hf1⟩ := two_cells ((hb2.block w.heap.size (by simp)).trans (heap_alloc_new w _))
      have hB2 : Hid (Below w.heap.size w (w1.alloc (.cells #[.int .i64 0, .slice a1 ls.length c1] 65))) := below_after hb2
      have p0 := P2.2.1
      have p1 := P2.2.2
      clear h1 HL own1 hb1 hb2
      go_wp2
      exact bodyPost_ret (v := .agg #[.int .i64 9, .int .i64 0]) (by simp [results, Try.results25, go_sem, hc0, hc1]) rfl ⟨rfl, (hB2.out.setCell (Nat.le_refl _) _).setCell (Nat.le_refl _) _⟩
  · rw [(lb_no ha).1, (lb_no ha).2] at HL
    rw [(co_no ha).1, (co_no ha).2]
    generalize p.length = n at *
    clear hu ha
    go_enter Try.func25, Try.ntmps25
    go_wp2_with fail
    refine (HL _).mono ?_
    intro e w1 h1
    obtain ⟨a1, c1, rfl, hb1, own1⟩ := h1.use
    have hb2 := below_after_of hb1 (one_new (.cells #[.int .i64 3, .slice a1 0 c1] 65))
    have P2 := Pair.new w1 (.int .i64 3) (.slice a1 0 c1) 65
    obtain ⟨hc0, hc1, hf0, hf1⟩ := two_cells ((hb2.block w.heap.size (by simp)).trans (heap_alloc_new w _))
    have hB2 : Hid (Below w.heap.size w (w1.alloc (.cells #[.int .i64 3, .slice a1 0 c1] 65))) := below_after hb2
    have p0 := P2.2.1
    have p1 := P2.2.2
    clear h1 HL own1 hb1 hb2
    go_wp2
    exact bodyPost_ret (v := .agg #[.int .i64 3, .int .i64 0]) (by simp [results, Try.results25, go_sem, hc0, hc1]) rfl ⟨rfl, (hB2.out.setCell (Nat.le_refl _) _).setCell (Nat.le_refl _) _⟩
def acB (x : Int) (b : Bool) (v : Int) (p : List Int) (r : Int) : Bool := coC x b v p == 0 && coV x b v p == r
set_option maxRecDepth 100000 in
set_option maxHeartbeats 1000000 in
theorem implAcceptOld_any (x : Int) (b : Bool) (v : Int) (u : Value) (p : List Int) (r : Int) (w : World) (hu : Ints .i64 w u p) :
    Calls Try.prog 29 #[.int .i64 x, .bool b, .int .i64 v, u, .int .i64 r] w fun e w' => e = .returned (.bool (acB x b v p r)) ∧ Below w.heap.size w w' := by
  have HC := implClimbOld_any x b v u p w hu
  obtain ⟨ua, uc, rfl⟩ := hu.shape
  unfold acB
  generalize coC x b v p = c at *
  generalize coV x b v p = y at *
  generalize p.length = n at *
  clear hu
  go_enter Try.func29, Try.ntmps29
  go_wp2_with fail
  refine HC.mono ?_
  rintro e w1 ⟨rfl, hb1⟩
  clear HC
  go_wp2
  all_goals (go_ret; exact ⟨ret_bool (by simp_all), hb1⟩)
set_option maxRecDepth 100000 in
set_option maxHeartbeats 1000000 in
theorem specAcceptOld_any (x : Int) (b : Bool) (v : Int) (u : Value) (p : List Int) (r : Int) (w : World) (hu : Ints .i64 w u p) (hx : p.length ≤ 1099511627776) :
    Calls Try.prog 30 #[.int .i64 x, .bool b, .int .i64 v, u, .int .i64 r] w fun e w' => e = .returned (.bool (acB x b v p r)) ∧ Below w.heap.size w w' := by
  have HC := specClimbOld_any x b v u p w hu hx
  obtain ⟨ua, uc, rfl⟩ := hu.shape
  unfold acB
  generalize coC x b v p = c at *
  generalize coV x b v p = y at *
  generalize p.length = n at *
  clear hu
  go_enter Try.func30, Try.ntmps30
  go_wp2_with fail
  refine HC.mono ?_
  rintro e w1 ⟨rfl, hb1⟩
  have hB1 := below_after_of hb1 (one_new (.cells #[.int .i64 c, .int .i64 y] 38))
  clear HC hb1
  by_cases h0 : c = 0
  · subst h0
    go_wp2
    go_ret
    exact ⟨ret_bool (by simp), hB1⟩
  · go_wp2
    go_ret
    exact ⟨ret_bool (by simp [h0]), hB1⟩
end U
end Go.Proofs.Ytgflamlfplpfdaa
