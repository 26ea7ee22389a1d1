/- Joined: what the texts behind it need. -/
import Derived.Test.YtljbcpkjhnbpeaaGreatDoorGY
import Derived.Test.YtljbcpkjhnbpeaaGreatDoorGU
import Derived.Test.YtljbcpkjhnbpeaaGreatDoorGV
/- A clash in the parts of two old trees, by the model. -/
namespace Go.Proofs.YtljbcpkjhnbpeaaGreatDoor
open Go.RowKit
namespace U
structure O8At (l m : Prl) (n : Nat) (f : Int) (o : Ck) : Prop where
  c : ∀ v u w, Prs w v l → Prs w u m → Calls Tryz.prog 77 #[v, u, .int .i64 f, .int .i64 (n : Int)] w fun e w' => OkAns w o e w'
set_option maxRecDepth 100000 in
set_option maxHeartbeats 2000000 in
theorem o8_0 {l m : Prl} {q : Int} (h0 : slF l = 0) (h1 : slF m = 0) (hq : 0 ≤ q ∧ q ≤ 255) : O8At l m 0 q (ckO (ptL l 0 q) (ptL m 0 q)) := by
  refine ⟨fun v u w hv hu => ?_⟩
  have oA := ptL_ok (l := l) h0 0 (q := q) (fun _ => hq)
  have oB := ptL_ok (l := m) h1 0 (q := q) (fun _ => hq)
  have hA := fun w' h => l5There_any v l q w' (hv.below (w' := w') h) h0 hq
  have hB := fun w' h => l5There_any u m q w' (hu.below (w' := w') h) h1 hq
  have hL := fun A B v u w hv hu => l2Clash_any A B v u (ptL l 0 q) (ptL m 0 q) w hv hu oA.1 oB.1 (by omega) (by omega)
  rw [show lfT l q = ptL l 0 q from rfl] at hA
  rw [show lfT m q = ptL m 0 q from rfl] at hB
  have HO : Hid (∀ f, l2B (ptL l 0 q) (ptL m 0 q) = f → opF (ckO (ptL l 0 q) (ptL m 0 q)) = f ∧ pick f (op1 (ckO (ptL l 0 q) (ptL m 0 q))) = pick f (ptL l 0 q) ∧ pick f (op2 (ckO (ptL l 0 q) (ptL m 0 q))) = pick f (ptL m 0 q)) := (fun f hf => by
    cases f
    · rw [ckO_no hf]; exact ⟨rfl, rfl, rfl⟩
    · rw [ckO_yes hf]; exact ⟨rfl, rfl, rfl⟩ : ∀ f, l2B (ptL l 0 q) (ptL m 0 q) = f → _)
  obtain ⟨f, hf⟩ : ∃ f, l2B (ptL l 0 q) (ptL m 0 q) = f := ⟨_, rfl⟩
  have HF : Hid (opF (ckO (ptL l 0 q) (ptL m 0 q)) = f ∧ pick f (op1 (ckO (ptL l 0 q) (ptL m 0 q))) = pick f (ptL l 0 q) ∧ pick f (op2 (ckO (ptL l 0 q) (ptL m 0 q))) = pick f (ptL m 0 q)) := HO.out f hf
  rw [hf] at hL
  generalize ckO (ptL l 0 q) (ptL m 0 q) = o at *
  generalize ptL l 0 q = xs at *
  generalize ptL m 0 q = ys at *
  obtain ⟨a, c, rfl⟩ := hv.shape
  obtain ⟨a', c', rfl⟩ := hu.shape
  generalize l.length = n at *
  generalize m.length = n' at *
  clear hv hu hf HO oA oB
  have hr0 := R0.new w
  go_enter Tryz.func77, Tryz.ntmps77
  go_wp2_with fail
  refine (hA _ (one_new _)).mono ?_
  rintro e w1 ⟨v1, rfl, own1, hb1⟩
  have hB1 := below_after_of (one_new _) hb1
  have hr1 := hr0.below hb1
  obtain ⟨a1, c1, rfl⟩ := own_shape own1
  clear hA hb1 hr0
  go_wp2_with fail
  refine (hB _ hB1).mono ?_
  rintro e w2 ⟨v2, rfl, own2, hb2⟩
  have hB2 := below_after_of hB1 hb2
  have hr2 := hr1.below hb2
  have own1 := own_below own1 hb2
  obtain ⟨a2, c2, rfl⟩ := own_shape own2
  clear hB hb2 hr1 hB1
  go_wp2_with fail
  refine (hL _ _ _ _ _ own1 own2).mono ?_
  rintro e w3 ⟨hb3, v3, v3', rfl, hr3⟩
  have hB3 := below_after_of hB2 hb3
  have hR3 := hr2.below hb3
  obtain ⟨⟨a3, c3, rfl⟩, a4, c4, rfl⟩ := hr3.shape
  have HR3 : Hid (Rows2 w2 w3 (.slice a3 (pick f xs).length c3) (.slice a4 (pick f ys).length c4) f xs ys) := hr3
  generalize (pick f xs).length = p at *
  generalize (pick f ys).length = q at *
  have hz := hr2.lt
  obtain ⟨k0, k1, k2, f0, f1, f2⟩ := three_cellsV hR3.h
  clear hL hb3 hr2 own1 own2 hr3
  go_wp2
  refine bodyPost_ret (v := .agg #[.bool f, .slice a3 p c3, .slice a4 q c4]) (by simp [results, Tryz.results77, go_sem, *]) rfl ?_
  show ClAns w (opF o) (op1 o) (op2 o) _ _
  rw [HF.out.1]
  refine ⟨((hB3.setCell (Nat.le_refl _) _).setCell (Nat.le_refl _) _).setCell (Nat.le_refl _) _, _, _, _, _, _, _, rfl, ?_⟩
  have hh := (((HR3.out.set hz 0 (.bool f)).set hz 1 (.slice a3 p c3)).set hz 2 (.slice a4 q c4)).under (w := w) hB2.size
  unfold Rows2 at hh ⊢
  rw [HF.out.2.1, HF.out.2.2]
  exact hh
set_option maxRecDepth 100000 in
set_option maxHeartbeats 2000000 in
theorem o8_hit_1 {l m : Prl} {f q : Int} (h0 : slF l = 0) (h1 : slF m = 0) (HF : Hid (f = q * 2)) (hq : 0 ≤ f ∧ f ≤ 255) (hf : l2B (ptL l 1 q) (ptL m 1 q) = true) : O8At l m 1 f (some (ptL l 1 q, ptL m 1 q)) := by
  refine ⟨fun v u w hv hu => ?_⟩
  have hs := slF_ok h0
  have ht := slF_ok h1
  have hN1 := fun w' h => l4Node_0 v l f (2 * q) w' (hv.below (w' := w') h) (by have := hs.len; omega) hs.fin (by have := HF.out; show f = 2 * q * 1; omega) (by omega)
  have hN2 := fun w' h => l4Node_0 v l (f + 1) (2 * q + 1) w' (hv.below (w' := w') h) (by have := hs.len; omega) hs.fin (by have := HF.out; show f + 1 = (2 * q + 1) * 1; omega) (by omega)
  have hN3 := fun w' h => l4Node_0 u m f (2 * q) w' (hu.below (w' := w') h) (by have := ht.len; omega) ht.fin (by have := HF.out; show f = 2 * q * 1; omega) (by omega)
  have hN4 := fun w' h => l4Node_0 u m (f + 1) (2 * q + 1) w' (hu.below (w' := w') h) (by have := ht.len; omega) ht.fin (by have := HF.out; show f + 1 = (2 * q + 1) * 1; omega) (by omega)
  have hL := fun w => l5Nodes_any (nd l 0 (2 * q)) (nd l 0 (2 * q + 1)) (nd m 0 (2 * q)) (nd m 0 (2 * q + 1)) w (nd_bd _ _ _) (nd_bd _ _ _) (nd_bd _ _ _) (nd_bd _ _ _)
  rw [show tagL 2 [nd l 0 (2 * q), nd l 0 (2 * q + 1)] = ptL l 1 q from rfl, show tagL 2 [nd m 0 (2 * q), nd m 0 (2 * q + 1)] = ptL m 1 q from rfl, hf] at hL
  generalize ptL l 1 q = xs at *
  generalize ptL m 1 q = ys at *
  generalize nd l 0 (2 * q) = x1 at *
  generalize nd l 0 (2 * q + 1) = x2 at *
  generalize nd m 0 (2 * q) = x3 at *
  generalize nd m 0 (2 * q + 1) = x4 at *
  obtain ⟨a, c, rfl⟩ := hv.shape
  obtain ⟨a', c', rfl⟩ := hu.shape
  generalize l.length = ln at *
  generalize m.length = mn at *
  have hr0 := R0.new w
  clear hv hu hs ht h0 h1
  go_enter Tryz.func77, Tryz.ntmps77
  go_wp2_with fail
  refine (hN1 _ (one_new _)).mono ?_
  rintro e w1 ⟨rfl, hb1⟩
  have hB1 := below_after_of (one_new _) hb1
  have hr1 := hr0.below hb1
  clear hN1 hb1 hr0
  go_wp2_with fail
  refine (hN2 _ hB1).mono ?_
  rintro e w2 ⟨rfl, hb2⟩
  have hB2 := below_after_of hB1 hb2
  have hr2 := hr1.below hb2
  clear hN2 hb2 hr1 hB1
  go_wp2_with fail
  refine (hN3 _ hB2).mono ?_
  rintro e w3 ⟨rfl, hb3⟩
  have hB3 := below_after_of hB2 hb3
  have hr3 := hr2.below hb3
  clear hN3 hb3 hr2 hB2
  go_wp2_with fail
  refine (hN4 _ hB3).mono ?_
  rintro e w4 ⟨rfl, hb4⟩
  have hB4 := below_after_of hB3 hb4
  have hr4 := hr3.below hb4
  clear hN4 hb4 hr3 hB3
  go_wp2_with fail
  refine (hL _).mono ?_
  rintro e w5 ⟨hb5, a5, n5, c5, a6, n6, c6, rfl, hr5⟩
  have hB5 := below_after_of hB4 hb5
  have hR5 := hr4.below hb5
  have hlt4 := hr4.lt
  have HR5 : Hid (Rows2 w4 w5 (.slice a5 n5 c5) (.slice a6 n6 c6) true xs ys) := hr5
  have hlt5 := hR5.lt
  have hNW := one_new (w := w5) (.cells #[.bool true, .slice a5 n5 c5, .slice a6 n6 c6] 33)
  have hRW := hR5.below hNW
  have hCW : (w5.alloc (.cells #[.bool true, .slice a5 n5 c5, .slice a6 n6 c6] 33)).heap[w5.heap.size]? = some (.cells #[.bool true, .slice a5 n5 c5, .slice a6 n6 c6] 33) := heap_alloc_new w5 _
  obtain ⟨k0, k1, k2, f0, f1, f2⟩ := three_cellsV hR5.h
  obtain ⟨k0', k1', k2', f0', f1', f2'⟩ := three_cellsV hRW.h
  have hBW := below_after_of hB5 hNW
  clear hL hb5 hr4 hr5
  go_wp2
  exact bodyPost_ret (v := .agg #[.bool true, .slice a5 n5 c5, .slice a6 n6 c6]) (by simp [results, Tryz.results77, go_sem, *]) rfl ⟨(((hB5.setCell (Nat.le_refl _) _).setCell (Nat.le_refl _) _).setCell (Nat.le_refl _) _).alloc (((hB5.setCell (Nat.le_refl _) _).setCell (Nat.le_refl _) _).setCell (Nat.le_refl _) _).size _, _, _, _, _, _, _, rfl, ((((HR5.out.set hlt4 _ _).set hlt4 _ _).set hlt4 _ _).below (one_new _)).under hB4.size⟩
set_option maxRecDepth 100000 in
set_option maxHeartbeats 2000000 in
theorem o8_miss_1 {l m : Prl} {f q : Int} (h0 : slF l = 0) (h1 : slF m = 0) (HF : Hid (f = q * 2)) (hq : 0 ≤ f ∧ f ≤ 255) (hf : l2B (ptL l 1 q) (ptL m 1 q) = false) (o0 o1 : Ck) (r0 : O8At l m 0 f o0) (r1 : O8At l m 0 (f + 1) o1) : O8At l m 1 f (ckOr o0 o1) := by
  refine ⟨fun v u w hv hu => ?_⟩
  have hs := slF_ok h0
  have ht := slF_ok h1
  have hN1 := fun w' h => l4Node_0 v l f (2 * q) w' (hv.below (w' := w') h) (by have := hs.len; omega) hs.fin (by have := HF.out; show f = 2 * q * 1; omega) (by omega)
  have hN2 := fun w' h => l4Node_0 v l (f + 1) (2 * q + 1) w' (hv.below (w' := w') h) (by have := hs.len; omega) hs.fin (by have := HF.out; show f + 1 = (2 * q + 1) * 1; omega) (by omega)
  have hN3 := fun w' h => l4Node_0 u m f (2 * q) w' (hu.below (w' := w') h) (by have := ht.len; omega) ht.fin (by have := HF.out; show f = 2 * q * 1; omega) (by omega)
  have hN4 := fun w' h => l4Node_0 u m (f + 1) (2 * q + 1) w' (hu.below (w' := w') h) (by have := ht.len; omega) ht.fin (by have := HF.out; show f + 1 = (2 * q + 1) * 1; omega) (by omega)
  have hL := fun w => l5Nodes_any (nd l 0 (2 * q)) (nd l 0 (2 * q + 1)) (nd m 0 (2 * q)) (nd m 0 (2 * q + 1)) w (nd_bd _ _ _) (nd_bd _ _ _) (nd_bd _ _ _) (nd_bd _ _ _)
  rw [show tagL 2 [nd l 0 (2 * q), nd l 0 (2 * q + 1)] = ptL l 1 q from rfl, show tagL 2 [nd m 0 (2 * q), nd m 0 (2 * q + 1)] = ptL m 1 q from rfl, hf] at hL
  generalize ptL l 1 q = xs at *
  generalize ptL m 1 q = ys at *
  generalize nd l 0 (2 * q) = x1 at *
  generalize nd l 0 (2 * q + 1) = x2 at *
  generalize nd m 0 (2 * q) = x3 at *
  generalize nd m 0 (2 * q + 1) = x4 at *
  have hR0 : ∀ w', Below w.heap.size w w' → Calls Tryz.prog 77 #[v, u, .int .i64 f, .int .i64 0] w' fun e w'' => OkAns w' o0 e w'' := fun w' h => r0.c v u w' (hv.below (w' := w') h) (hu.below h)
  have hR1 : ∀ w', Below w.heap.size w w' → Calls Tryz.prog 77 #[v, u, .int .i64 (f + 1), .int .i64 0] w' fun e w'' => OkAns w' o1 e w'' := fun w' h => r1.c v u w' (hv.below (w' := w') h) (hu.below h)
  obtain ⟨a, c, rfl⟩ := hv.shape
  obtain ⟨a', c', rfl⟩ := hu.shape
  generalize l.length = ln at *
  generalize m.length = mn at *
  have hr0 := R0.new w
  clear hv hu hs ht h0 h1
  go_enter Tryz.func77, Tryz.ntmps77
  go_wp2_with fail
  refine (hN1 _ (one_new _)).mono ?_
  rintro e w1 ⟨rfl, hb1⟩
  have hB1 := below_after_of (one_new _) hb1
  have hr1 := hr0.below hb1
  clear hN1 hb1 hr0
  go_wp2_with fail
  refine (hN2 _ hB1).mono ?_
  rintro e w2 ⟨rfl, hb2⟩
  have hB2 := below_after_of hB1 hb2
  have hr2 := hr1.below hb2
  clear hN2 hb2 hr1 hB1
  go_wp2_with fail
  refine (hN3 _ hB2).mono ?_
  rintro e w3 ⟨rfl, hb3⟩
  have hB3 := below_after_of hB2 hb3
  have hr3 := hr2.below hb3
  clear hN3 hb3 hr2 hB2
  go_wp2_with fail
  refine (hN4 _ hB3).mono ?_
  rintro e w4 ⟨rfl, hb4⟩
  have hB4 := below_after_of hB3 hb4
  have hr4 := hr3.below hb4
  clear hN4 hb4 hr3 hB3
  go_wp2_with fail
  refine (hL _).mono ?_
  rintro e w5 ⟨hb5, a5, n5, c5, a6, n6, c6, rfl, hr5⟩
  have hB5 := below_after_of hB4 hb5
  have hR5 := hr4.below hb5
  have hlt4 := hr4.lt
  have HR5 : Hid (Rows2 w4 w5 (.slice a5 n5 c5) (.slice a6 n6 c6) false xs ys) := hr5
  have hlt5 := hR5.lt
  have hNW := one_new (w := w5) (.cells #[.bool false, .slice a5 n5 c5, .slice a6 n6 c6] 33)
  have hRW := hR5.below hNW
  have hCW : (w5.alloc (.cells #[.bool false, .slice a5 n5 c5, .slice a6 n6 c6] 33)).heap[w5.heap.size]? = some (.cells #[.bool false, .slice a5 n5 c5, .slice a6 n6 c6] 33) := heap_alloc_new w5 _
  obtain ⟨k0, k1, k2, f0, f1, f2⟩ := three_cellsV hR5.h
  obtain ⟨k0', k1', k2', f0', f1', f2'⟩ := three_cellsV hRW.h
  have hBW := below_after_of hB5 hNW
  clear hL hb5 hr4 hr5
  go_wp2_with fail
  refine (hR0 _ hBW).mono ?_
  rintro e w7 ⟨hb7, a7, n7, c7, a8, n8, c8, rfl, hr7⟩
  have hB7 := below_after_of hBW hb7
  have hR7 := hRW.below hb7
  have hltW := hRW.lt
  have hC7 := (hb7.block w5.heap.size (by simp)).trans hCW
  have hz5 : w5.heap.size < (w5.alloc (.cells #[.bool false, .slice a5 n5 c5, .slice a6 n6 c6] 33)).heap.size := by simp
  have hlw : w.heap.size < w5.heap.size := hlt5
  obtain ⟨W, hW⟩ : ∃ W, W = w5.alloc (.cells #[.bool false, .slice a5 n5 c5, .slice a6 n6 c6] 33) := ⟨_, rfl⟩
  rw [← hW] at hb7 hr7 hltW hz5
  have hBW' : Below w.heap.size w W := by rw [hW]; exact hBW
  have HR7 : Hid (Rows2 W w7 (.slice a7 n7 c7) (.slice a8 n8 c8) (opF o0) (op1 o0) (op2 o0)) := hr7
  obtain ⟨j0, j1, j2, g0, g1, g2⟩ := three_cellsV hR7.h
  obtain ⟨t0, t1, t2, s0, s1, s2⟩ := three_cellsV hC7
  have hlt7 : w5.heap.size < w7.heap.size := Nat.lt_of_lt_of_le hz5 hb7.size
  clear hR0 hr7 hb7 hW k0 k1 k2 f0 f1 f2 k0' k1' k2' f0' f1' f2' hCW hNW
  rcases o0 with _ | ⟨ls, bs⟩
  · have eo : opF (none : Ck) = false := rfl
    rw [eo]
    have hB8 : Below w.heap.size w (((w7.setCell ⟨w5.heap.size, 0, none⟩ (.bool false)).setCell ⟨w5.heap.size, 1, none⟩ (.slice a7 n7 c7)).setCell ⟨w5.heap.size, 2, none⟩ (.slice a8 n8 c8)) := ((hB7.setCell (by show w.heap.size ≤ w5.heap.size; omega) _).setCell (by show w.heap.size ≤ w5.heap.size; omega) _).setCell (by show w.heap.size ≤ w5.heap.size; omega) _
    have hR8 : R0 (((w7.setCell ⟨w5.heap.size, 0, none⟩ (.bool false)).setCell ⟨w5.heap.size, 1, none⟩ (.slice a7 n7 c7)).setCell ⟨w5.heap.size, 2, none⟩ (.slice a8 n8 c8)) w.heap.size := by
      refine ⟨?_⟩
      rw [heap_setCell_other _ _ _ _ (by show w.heap.size ≠ w5.heap.size; omega), heap_setCell_other _ _ _ _ (by show w.heap.size ≠ w5.heap.size; omega), heap_setCell_other _ _ _ _ (by show w.heap.size ≠ w5.heap.size; omega)]
      exact hR7.h
    go_wp2_with fail
    refine (hR1 _ hB8).mono ?_
    rintro e x7 ⟨hb11, a11, n11, c11, a12, n12, c12, rfl, hr11⟩
    have hB11 := below_after_of hB8 hb11
    have hR11 := hR8.below hb11
    have hlt8 := hR8.lt
    have HR11 : Hid (Rows2 _ x7 (.slice a11 n11 c11) (.slice a12 n12 c12) (opF o1) (op1 o1) (op2 o1)) := hr11
    have HZ8 := hB8.size
    obtain ⟨i0, i1, i2, y0, y1, y2⟩ := three_cellsV hR11.h
    generalize hof : opF o1 = fo at *
    clear hr11 hb11 hR1 j0 j1 j2 g0 g1 g2 t0 t1 t2 s0 s1 s2
    go_wp2
    refine bodyPost_ret (v := .agg #[.bool fo, .slice a11 n11 c11, .slice a12 n12 c12]) (by simp [results, Tryz.results77, go_sem, *]) rfl ?_
    show ClAns w (opF o1) (op1 o1) (op2 o1) _ _
    rw [hof]
    exact ⟨((hB11.setCell (Nat.le_refl _) _).setCell (Nat.le_refl _) _).setCell (Nat.le_refl _) _, _, _, _, _, _, _, rfl, (((HR11.out.set hlt8 _ _).set hlt8 _ _).set hlt8 _ _).under HZ8⟩
  · have eo : opF (some (ls, bs) : Ck) = true := rfl
    rw [eo]
    clear hR1
    have hle : w.heap.size ≤ w5.heap.size := by omega
    go_wp2
    exact bodyPost_ret (v := .agg #[.bool true, .slice a7 n7 c7, .slice a8 n8 c8]) (by simp [results, Tryz.results77, go_sem, *]) rfl ⟨(((((hB7.setCell hle _).setCell hle _).setCell hle _).setCell (Nat.le_refl _) _).setCell (Nat.le_refl _) _).setCell (Nat.le_refl _) _, _, _, _, _, _, _, rfl, ((((((HR7.out.set hz5 _ _).set hz5 _ _).set hz5 _ _).set hltW _ _).set hltW _ _).set hltW _ _).under hBW'.size⟩
set_option maxRecDepth 100000 in
set_option maxHeartbeats 2000000 in
theorem o8_hit_2 {l m : Prl} {f q : Int} (h0 : slF l = 0) (h1 : slF m = 0) (HF : Hid (f = q * 4)) (hq : 0 ≤ f ∧ f ≤ 255) (hf : l2B (ptL l 2 q) (ptL m 2 q) = true) : O8At l m 2 f (some (ptL l 2 q, ptL m 2 q)) := by
  refine ⟨fun v u w hv hu => ?_⟩
  have hs := slF_ok h0
  have ht := slF_ok h1
  have hN1 := fun w' h => l4Node_1 v l f (2 * q) w' (hv.below (w' := w') h) (by have := hs.len; omega) hs.fin (by have := HF.out; show f = 2 * q * 2; omega) (by omega)
  have hN2 := fun w' h => l4Node_1 v l (f + 2) (2 * q + 1) w' (hv.below (w' := w') h) (by have := hs.len; omega) hs.fin (by have := HF.out; show f + 2 = (2 * q + 1) * 2; omega) (by omega)
  have hN3 := fun w' h => l4Node_1 u m f (2 * q) w' (hu.below (w' := w') h) (by have := ht.len; omega) ht.fin (by have := HF.out; show f = 2 * q * 2; omega) (by omega)
  have hN4 := fun w' h => l4Node_1 u m (f + 2) (2 * q + 1) w' (hu.below (w' := w') h) (by have := ht.len; omega) ht.fin (by have := HF.out; show f + 2 = (2 * q + 1) * 2; omega) (by omega)
  have hL := fun w => l5Nodes_any (nd l 1 (2 * q)) (nd l 1 (2 * q + 1)) (nd m 1 (2 * q)) (nd m 1 (2 * q + 1)) w (nd_bd _ _ _) (nd_bd _ _ _) (nd_bd _ _ _) (nd_bd _ _ _)
  rw [show tagL 2 [nd l 1 (2 * q), nd l 1 (2 * q + 1)] = ptL l 2 q from rfl, show tagL 2 [nd m 1 (2 * q), nd m 1 (2 * q + 1)] = ptL m 2 q from rfl, hf] at hL
  generalize ptL l 2 q = xs at *
  generalize ptL m 2 q = ys at *
  generalize nd l 1 (2 * q) = x1 at *
  generalize nd l 1 (2 * q + 1) = x2 at *
  generalize nd m 1 (2 * q) = x3 at *
  generalize nd m 1 (2 * q + 1) = x4 at *
  obtain ⟨a, c, rfl⟩ := hv.shape
  obtain ⟨a', c', rfl⟩ := hu.shape
  generalize l.length = ln at *
  generalize m.length = mn at *
  have hr0 := R0.new w
  clear hv hu hs ht h0 h1
  go_enter Tryz.func77, Tryz.ntmps77
  go_wp2_with fail
  refine (hN1 _ (one_new _)).mono ?_
  rintro e w1 ⟨rfl, hb1⟩
  have hB1 := below_after_of (one_new _) hb1
  have hr1 := hr0.below hb1
  clear hN1 hb1 hr0
  go_wp2_with fail
  refine (hN2 _ hB1).mono ?_
  rintro e w2 ⟨rfl, hb2⟩
  have hB2 := below_after_of hB1 hb2
  have hr2 := hr1.below hb2
  clear hN2 hb2 hr1 hB1
  go_wp2_with fail
  refine (hN3 _ hB2).mono ?_
  rintro e w3 ⟨rfl, hb3⟩
  have hB3 := below_after_of hB2 hb3
  have hr3 := hr2.below hb3
  clear hN3 hb3 hr2 hB2
  go_wp2_with fail
  refine (hN4 _ hB3).mono ?_
  rintro e w4 ⟨rfl, hb4⟩
  have hB4 := below_after_of hB3 hb4
  have hr4 := hr3.below hb4
  clear hN4 hb4 hr3 hB3
  go_wp2_with fail
  refine (hL _).mono ?_
  rintro e w5 ⟨hb5, a5, n5, c5, a6, n6, c6, rfl, hr5⟩
  have hB5 := below_after_of hB4 hb5
  have hR5 := hr4.below hb5
  have hlt4 := hr4.lt
  have HR5 : Hid (Rows2 w4 w5 (.slice a5 n5 c5) (.slice a6 n6 c6) true xs ys) := hr5
  have hlt5 := hR5.lt
  have hNW := one_new (w := w5) (.cells #[.bool true, .slice a5 n5 c5, .slice a6 n6 c6] 33)
  have hRW := hR5.below hNW
  have hCW : (w5.alloc (.cells #[.bool true, .slice a5 n5 c5, .slice a6 n6 c6] 33)).heap[w5.heap.size]? = some (.cells #[.bool true, .slice a5 n5 c5, .slice a6 n6 c6] 33) := heap_alloc_new w5 _
  obtain ⟨k0, k1, k2, f0, f1, f2⟩ := three_cellsV hR5.h
  obtain ⟨k0', k1', k2', f0', f1', f2'⟩ := three_cellsV hRW.h
  have hBW := below_after_of hB5 hNW
  clear hL hb5 hr4 hr5
  go_wp2
  exact bodyPost_ret (v := .agg #[.bool true, .slice a5 n5 c5, .slice a6 n6 c6]) (by simp [results, Tryz.results77, go_sem, *]) rfl ⟨(((hB5.setCell (Nat.le_refl _) _).setCell (Nat.le_refl _) _).setCell (Nat.le_refl _) _).alloc (((hB5.setCell (Nat.le_refl _) _).setCell (Nat.le_refl _) _).setCell (Nat.le_refl _) _).size _, _, _, _, _, _, _, rfl, ((((HR5.out.set hlt4 _ _).set hlt4 _ _).set hlt4 _ _).below (one_new _)).under hB4.size⟩
set_option maxRecDepth 100000 in
set_option maxHeartbeats 2000000 in
theorem o8_miss_2 {l m : Prl} {f q : Int} (h0 : slF l = 0) (h1 : slF m = 0) (HF : Hid (f = q * 4)) (hq : 0 ≤ f ∧ f ≤ 255) (hf : l2B (ptL l 2 q) (ptL m 2 q) = false) (o0 o1 : Ck) (r0 : O8At l m 1 f o0) (r1 : O8At l m 1 (f + 2) o1) : O8At l m 2 f (ckOr o0 o1) := by
  refine ⟨fun v u w hv hu => ?_⟩
  have hs := slF_ok h0
  have ht := slF_ok h1
  have hN1 := fun w' h => l4Node_1 v l f (2 * q) w' (hv.below (w' := w') h) (by have := hs.len; omega) hs.fin (by have := HF.out; show f = 2 * q * 2; omega) (by omega)
  have hN2 := fun w' h => l4Node_1 v l (f + 2) (2 * q + 1) w' (hv.below (w' := w') h) (by have := hs.len; omega) hs.fin (by have := HF.out; show f + 2 = (2 * q + 1) * 2; omega) (by omega)
  have hN3 := fun w' h => l4Node_1 u m f (2 * q) w' (hu.below (w' := w') h) (by have := ht.len; omega) ht.fin (by have := HF.out; show f = 2 * q * 2; omega) (by omega)
  have hN4 := fun w' h => l4Node_1 u m (f + 2) (2 * q + 1) w' (hu.below (w' := w') h) (by have := ht.len; omega) ht.fin (by have := HF.out; show f + 2 = (2 * q + 1) * 2; omega) (by omega)
  have hL := fun w => l5Nodes_any (nd l 1 (2 * q)) (nd l 1 (2 * q + 1)) (nd m 1 (2 * q)) (nd m 1 (2 * q + 1)) w (nd_bd _ _ _) (nd_bd _ _ _) (nd_bd _ _ _) (nd_bd _ _ _)
  rw [show tagL 2 [nd l 1 (2 * q), nd l 1 (2 * q + 1)] = ptL l 2 q from rfl, show tagL 2 [nd m 1 (2 * q), nd m 1 (2 * q + 1)] = ptL m 2 q from rfl, hf] at hL
  generalize ptL l 2 q = xs at *
  generalize ptL m 2 q = ys at *
  generalize nd l 1 (2 * q) = x1 at *
  generalize nd l 1 (2 * q + 1) = x2 at *
  generalize nd m 1 (2 * q) = x3 at *
  generalize nd m 1 (2 * q + 1) = x4 at *
  have hR0 : ∀ w', Below w.heap.size w w' → Calls Tryz.prog 77 #[v, u, .int .i64 f, .int .i64 1] w' fun e w'' => OkAns w' o0 e w'' := fun w' h => r0.c v u w' (hv.below (w' := w') h) (hu.below h)
  have hR1 : ∀ w', Below w.heap.size w w' → Calls Tryz.prog 77 #[v, u, .int .i64 (f + 2), .int .i64 1] w' fun e w'' => OkAns w' o1 e w'' := fun w' h => r1.c v u w' (hv.below (w' := w') h) (hu.below h)
  obtain ⟨a, c, rfl⟩ := hv.shape
  obtain ⟨a', c', rfl⟩ := hu.shape
  generalize l.length = ln at *
  generalize m.length = mn at *
  have hr0 := R0.new w
  clear hv hu hs ht h0 h1
  go_enter Tryz.func77, Tryz.ntmps77
  go_wp2_with fail
  refine (hN1 _ (one_new _)).mono ?_
  rintro e w1 ⟨rfl, hb1⟩
  have hB1 := below_after_of (one_new _) hb1
  have hr1 := hr0.below hb1
  clear hN1 hb1 hr0
  go_wp2_with fail
  refine (hN2 _ hB1).mono ?_
  rintro e w2 ⟨rfl, hb2⟩
  have hB2 := below_after_of hB1 hb2
  have hr2 := hr1.below hb2
  clear hN2 hb2 hr1 hB1
  go_wp2_with fail
  refine (hN3 _ hB2).mono ?_
  rintro e w3 ⟨rfl, hb3⟩
  have hB3 := below_after_of hB2 hb3
  have hr3 := hr2.below hb3
  clear hN3 hb3 hr2 hB2
  go_wp2_with fail
  refine (hN4 _ hB3).mono ?_
  rintro e w4 ⟨rfl, hb4⟩
  have hB4 := below_after_of hB3 hb4
  have hr4 := hr3.below hb4
  clear hN4 hb4 hr3 hB3
  go_wp2_with fail
  refine (hL _).mono ?_
  rintro e w5 ⟨hb5, a5, n5, c5, a6, n6, c6, rfl, hr5⟩
  have hB5 := below_after_of hB4 hb5
  have hR5 := hr4.below hb5
  have hlt4 := hr4.lt
  have HR5 : Hid (Rows2 w4 w5 (.slice a5 n5 c5) (.slice a6 n6 c6) false xs ys) := hr5
  have hlt5 := hR5.lt
  have hNW := one_new (w := w5) (.cells #[.bool false, .slice a5 n5 c5, .slice a6 n6 c6] 33)
  have hRW := hR5.below hNW
  have hCW : (w5.alloc (.cells #[.bool false, .slice a5 n5 c5, .slice a6 n6 c6] 33)).heap[w5.heap.size]? = some (.cells #[.bool false, .slice a5 n5 c5, .slice a6 n6 c6] 33) := heap_alloc_new w5 _
  obtain ⟨k0, k1, k2, f0, f1, f2⟩ := three_cellsV hR5.h
  obtain ⟨k0', k1', k2', f0', f1', f2'⟩ := three_cellsV hRW.h
  have hBW := below_after_of hB5 hNW
  clear hL hb5 hr4 hr5
  go_wp2_with fail
  refine (hR0 _ hBW).mono ?_
  rintro e w7 ⟨hb7, a7, n7, c7, a8, n8, c8, rfl, hr7⟩
  have hB7 := below_after_of hBW hb7
  have hR7 := hRW.below hb7
  have hltW := hRW.lt
  have hC7 := (hb7.block w5.heap.size (by simp)).trans hCW
  have hz5 : w5.heap.size < (w5.alloc (.cells #[.bool false, .slice a5 n5 c5, .slice a6 n6 c6] 33)).heap.size := by simp
  have hlw : w.heap.size < w5.heap.size := hlt5
  obtain ⟨W, hW⟩ : ∃ W, W = w5.alloc (.cells #[.bool false, .slice a5 n5 c5, .slice a6 n6 c6] 33) := ⟨_, rfl⟩
  rw [← hW] at hb7 hr7 hltW hz5
  have hBW' : Below w.heap.size w W := by rw [hW]; exact hBW
  have HR7 : Hid (Rows2 W w7 (.slice a7 n7 c7) (.slice a8 n8 c8) (opF o0) (op1 o0) (op2 o0)) := hr7
  obtain ⟨j0, j1, j2, g0, g1, g2⟩ := three_cellsV hR7.h
  obtain ⟨t0, t1, t2, s0, s1, s2⟩ := three_cellsV hC7
  have hlt7 : w5.heap.size < w7.heap.size := Nat.lt_of_lt_of_le hz5 hb7.size
  clear hR0 hr7 hb7 hW k0 k1 k2 f0 f1 f2 k0' k1' k2' f0' f1' f2' hCW hNW
  rcases o0 with _ | ⟨ls, bs⟩
  · have eo : opF (none : Ck) = false := rfl
    rw [eo]
    have hB8 : Below w.heap.size w (((w7.setCell ⟨w5.heap.size, 0, none⟩ (.bool false)).setCell ⟨w5.heap.size, 1, none⟩ (.slice a7 n7 c7)).setCell ⟨w5.heap.size, 2, none⟩ (.slice a8 n8 c8)) := ((hB7.setCell (by show w.heap.size ≤ w5.heap.size; omega) _).setCell (by show w.heap.size ≤ w5.heap.size; omega) _).setCell (by show w.heap.size ≤ w5.heap.size; omega) _
    have hR8 : R0 (((w7.setCell ⟨w5.heap.size, 0, none⟩ (.bool false)).setCell ⟨w5.heap.size, 1, none⟩ (.slice a7 n7 c7)).setCell ⟨w5.heap.size, 2, none⟩ (.slice a8 n8 c8)) w.heap.size := by
      refine ⟨?_⟩
      rw [heap_setCell_other _ _ _ _ (by show w.heap.size ≠ w5.heap.size; omega), heap_setCell_other _ _ _ _ (by show w.heap.size ≠ w5.heap.size; omega), heap_setCell_other _ _ _ _ (by show w.heap.size ≠ w5.heap.size; omega)]
      exact hR7.h
    go_wp2_with fail
    refine (hR1 _ hB8).mono ?_
    rintro e x7 ⟨hb11, a11, n11, c11, a12, n12, c12, rfl, hr11⟩
    have hB11 := below_after_of hB8 hb11
    have hR11 := hR8.below hb11
    have hlt8 := hR8.lt
    have HR11 : Hid (Rows2 _ x7 (.slice a11 n11 c11) (.slice a12 n12 c12) (opF o1) (op1 o1) (op2 o1)) := hr11
    have HZ8 := hB8.size
    obtain ⟨i0, i1, i2, y0, y1, y2⟩ := three_cellsV hR11.h
    generalize hof : opF o1 = fo at *
    clear hr11 hb11 hR1 j0 j1 j2 g0 g1 g2 t0 t1 t2 s0 s1 s2
    go_wp2
    refine bodyPost_ret (v := .agg #[.bool fo, .slice a11 n11 c11, .slice a12 n12 c12]) (by simp [results, Tryz.results77, go_sem, *]) rfl ?_
    show ClAns w (opF o1) (op1 o1) (op2 o1) _ _
    rw [hof]
    exact ⟨((hB11.setCell (Nat.le_refl _) _).setCell (Nat.le_refl _) _).setCell (Nat.le_refl _) _, _, _, _, _, _, _, rfl, (((HR11.out.set hlt8 _ _).set hlt8 _ _).set hlt8 _ _).under HZ8⟩
  · have eo : opF (some (ls, bs) : Ck) = true := rfl
    rw [eo]
    clear hR1
    have hle : w.heap.size ≤ w5.heap.size := by omega
    go_wp2
    exact bodyPost_ret (v := .agg #[.bool true, .slice a7 n7 c7, .slice a8 n8 c8]) (by simp [results, Tryz.results77, go_sem, *]) rfl ⟨(((((hB7.setCell hle _).setCell hle _).setCell hle _).setCell (Nat.le_refl _) _).setCell (Nat.le_refl _) _).setCell (Nat.le_refl _) _, _, _, _, _, _, _, rfl, ((((((HR7.out.set hz5 _ _).set hz5 _ _).set hz5 _ _).set hltW _ _).set hltW _ _).set hltW _ _).under hBW'.size⟩
set_option maxRecDepth 100000 in
set_option maxHeartbeats 2000000 in
theorem o8_hit_3 {l m : Prl} {f q : Int} (h0 : slF l = 0) (h1 : slF m = 0) (HF : Hid (f = q * 8)) (hq : 0 ≤ f ∧ f ≤ 255) (hf : l2B (ptL l 3 q) (ptL m 3 q) = true) : O8At l m 3 f (some (ptL l 3 q, ptL m 3 q)) := by
  refine ⟨fun v u w hv hu => ?_⟩
  have hs := slF_ok h0
  have ht := slF_ok h1
  have hN1 := fun w' h => l4Node_2 v l f (2 * q) w' (hv.below (w' := w') h) (by have := hs.len; omega) hs.fin (by have := HF.out; show f = 2 * q * 4; omega) (by omega)
  have hN2 := fun w' h => l4Node_2 v l (f + 4) (2 * q + 1) w' (hv.below (w' := w') h) (by have := hs.len; omega) hs.fin (by have := HF.out; show f + 4 = (2 * q + 1) * 4; omega) (by omega)
  have hN3 := fun w' h => l4Node_2 u m f (2 * q) w' (hu.below (w' := w') h) (by have := ht.len; omega) ht.fin (by have := HF.out; show f = 2 * q * 4; omega) (by omega)
  have hN4 := fun w' h => l4Node_2 u m (f + 4) (2 * q + 1) w' (hu.below (w' := w') h) (by have := ht.len; omega) ht.fin (by have := HF.out; show f + 4 = (2 * q + 1) * 4; omega) (by omega)
  have hL := fun w => l5Nodes_any (nd l 2 (2 * q)) (nd l 2 (2 * q + 1)) (nd m 2 (2 * q)) (nd m 2 (2 * q + 1)) w (nd_bd _ _ _) (nd_bd _ _ _) (nd_bd _ _ _) (nd_bd _ _ _)
  rw [show tagL 2 [nd l 2 (2 * q), nd l 2 (2 * q + 1)] = ptL l 3 q from rfl, show tagL 2 [nd m 2 (2 * q), nd m 2 (2 * q + 1)] = ptL m 3 q from rfl, hf] at hL
  generalize ptL l 3 q = xs at *
  generalize ptL m 3 q = ys at *
  generalize nd l 2 (2 * q) = x1 at *
  generalize nd l 2 (2 * q + 1) = x2 at *
  generalize nd m 2 (2 * q) = x3 at *
  generalize nd m 2 (2 * q + 1) = x4 at *
  obtain ⟨a, c, rfl⟩ := hv.shape
  obtain ⟨a', c', rfl⟩ := hu.shape
  generalize l.length = ln at *
  generalize m.length = mn at *
  have hr0 := R0.new w
  clear hv hu hs ht h0 h1
  go_enter Tryz.func77, Tryz.ntmps77
  go_wp2_with fail
  refine (hN1 _ (one_new _)).mono ?_
  rintro e w1 ⟨rfl, hb1⟩
  have hB1 := below_after_of (one_new _) hb1
  have hr1 := hr0.below hb1
  clear hN1 hb1 hr0
  go_wp2_with fail
  refine (hN2 _ hB1).mono ?_
  rintro e w2 ⟨rfl, hb2⟩
  have hB2 := below_after_of hB1 hb2
  have hr2 := hr1.below hb2
  clear hN2 hb2 hr1 hB1
  go_wp2_with fail
  refine (hN3 _ hB2).mono ?_
  rintro e w3 ⟨rfl, hb3⟩
  have hB3 := below_after_of hB2 hb3
  have hr3 := hr2.below hb3
  clear hN3 hb3 hr2 hB2
  go_wp2_with fail
  refine (hN4 _ hB3).mono ?_
  rintro e w4 ⟨rfl, hb4⟩
  have hB4 := below_after_of hB3 hb4
  have hr4 := hr3.below hb4
  clear hN4 hb4 hr3 hB3
  go_wp2_with fail
  refine (hL _).mono ?_
  rintro e w5 ⟨hb5, a5, n5, c5, a6, n6, c6, rfl, hr5⟩
  have hB5 := below_after_of hB4 hb5
  have hR5 := hr4.below hb5
  have hlt4 := hr4.lt
  have HR5 : Hid (Rows2 w4 w5 (.slice a5 n5 c5) (.slice a6 n6 c6) true xs ys) := hr5
  have hlt5 := hR5.lt
  have hNW := one_new (w := w5) (.cells #[.bool true, .slice a5 n5 c5, .slice a6 n6 c6] 33)
  have hRW := hR5.below hNW
  have hCW : (w5.alloc (.cells #[.bool true, .slice a5 n5 c5, .slice a6 n6 c6] 33)).heap[w5.heap.size]? = some (.cells #[.bool true, .slice a5 n5 c5, .slice a6 n6 c6] 33) := heap_alloc_new w5 _
  obtain ⟨k0, k1, k2, f0, f1, f2⟩ := three_cellsV hR5.h
  obtain ⟨k0', k1', k2', f0', f1', f2'⟩ := three_cellsV hRW.h
  have hBW := below_after_of hB5 hNW
  clear hL hb5 hr4 hr5
  go_wp2
  exact bodyPost_ret (v := .agg #[.bool true, .slice a5 n5 c5, .slice a6 n6 c6]) (by simp [results, Tryz.results77, go_sem, *]) rfl ⟨(((hB5.setCell (Nat.le_refl _) _).setCell (Nat.le_refl _) _).setCell (Nat.le_refl _) _).alloc (((hB5.setCell (Nat.le_refl _) _).setCell (Nat.le_refl _) _).setCell (Nat.le_refl _) _).size _, _, _, _, _, _, _, rfl, ((((HR5.out.set hlt4 _ _).set hlt4 _ _).set hlt4 _ _).below (one_new _)).under hB4.size⟩
set_option maxRecDepth 100000 in
set_option maxHeartbeats 2000000 in
theorem o8_miss_3 {l m : Prl} {f q : Int} (h0 : slF l = 0) (h1 : slF m = 0) (HF : Hid (f = q * 8)) (hq : 0 ≤ f ∧ f ≤ 255) (hf : l2B (ptL l 3 q) (ptL m 3 q) = false) (o0 o1 : Ck) (r0 : O8At l m 2 f o0) (r1 : O8At l m 2 (f + 4) o1) : O8At l m 3 f (ckOr o0 o1) := by
  refine ⟨fun v u w hv hu => ?_⟩
  have hs := slF_ok h0
  have ht := slF_ok h1
  have hN1 := fun w' h => l4Node_2 v l f (2 * q) w' (hv.below (w' := w') h) (by have := hs.len; omega) hs.fin (by have := HF.out; show f = 2 * q * 4; omega) (by omega)
  have hN2 := fun w' h => l4Node_2 v l (f + 4) (2 * q + 1) w' (hv.below (w' := w') h) (by have := hs.len; omega) hs.fin (by have := HF.out; show f + 4 = (2 * q + 1) * 4; omega) (by omega)
  have hN3 := fun w' h => l4Node_2 u m f (2 * q) w' (hu.below (w' := w') h) (by have := ht.len; omega) ht.fin (by have := HF.out; show f = 2 * q * 4; omega) (by omega)
  have hN4 := fun w' h => l4Node_2 u m (f + 4) (2 * q + 1) w' (hu.below (w' := w') h) (by have := ht.len; omega) ht.fin (by have := HF.out; show f + 4 = (2 * q + 1) * 4; omega) (by omega)
  have hL := fun w => l5Nodes_any (nd l 2 (2 * q)) (nd l 2 (2 * q + 1)) (nd m 2 (2 * q)) (nd m 2 (2 * q + 1)) w (nd_bd _ _ _) (nd_bd _ _ _) (nd_bd _ _ _) (nd_bd _ _ _)
  rw [show tagL 2 [nd l 2 (2 * q), nd l 2 (2 * q + 1)] = ptL l 3 q from rfl, show tagL 2 [nd m 2 (2 * q), nd m 2 (2 * q + 1)] = ptL m 3 q from rfl, hf] at hL
  generalize ptL l 3 q = xs at *
  generalize ptL m 3 q = ys at *
  generalize nd l 2 (2 * q) = x1 at *
  generalize nd l 2 (2 * q + 1) = x2 at *
  generalize nd m 2 (2 * q) = x3 at *
  generalize nd m 2 (2 * q + 1) = x4 at *
  have hR0 : ∀ w', Below w.heap.size w w' → Calls Tryz.prog 77 #[v, u, .int .i64 f, .int .i64 2] w' fun e w'' => OkAns w' o0 e w'' := fun w' h => r0.c v u w' (hv.below (w' := w') h) (hu.below h)
  have hR1 : ∀ w', Below w.heap.size w w' → Calls Tryz.prog 77 #[v, u, .int .i64 (f + 4), .int .i64 2] w' fun e w'' => OkAns w' o1 e w'' := fun w' h => r1.c v u w' (hv.below (w' := w') h) (hu.below h)
  obtain ⟨a, c, rfl⟩ := hv.shape
  obtain ⟨a', c', rfl⟩ := hu.shape
  generalize l.length = ln at *
  generalize m.length = mn at *
  have hr0 := R0.new w
  clear hv hu hs ht h0 h1
  go_enter Tryz.func77, Tryz.ntmps77
  go_wp2_with fail
  refine (hN1 _ (one_new _)).mono ?_
  rintro e w1 ⟨rfl, hb1⟩
  have hB1 := below_after_of (one_new _) hb1
  have hr1 := hr0.below hb1
  clear hN1 hb1 hr0
  go_wp2_with fail
  refine (hN2 _ hB1).mono ?_
  rintro e w2 ⟨rfl, hb2⟩
  have hB2 := below_after_of hB1 hb2
  have hr2 := hr1.below hb2
  clear hN2 hb2 hr1 hB1
  go_wp2_with fail
  refine (hN3 _ hB2).mono ?_
  rintro e w3 ⟨rfl, hb3⟩
  have hB3 := below_after_of hB2 hb3
  have hr3 := hr2.below hb3
  clear hN3 hb3 hr2 hB2
  go_wp2_with fail
  refine (hN4 _ hB3).mono ?_
  rintro e w4 ⟨rfl, hb4⟩
  have hB4 := below_after_of hB3 hb4
  have hr4 := hr3.below hb4
  clear hN4 hb4 hr3 hB3
  go_wp2_with fail
  refine (hL _).mono ?_
  rintro e w5 ⟨hb5, a5, n5, c5, a6, n6, c6, rfl, hr5⟩
  have hB5 := below_after_of hB4 hb5
  have hR5 := hr4.below hb5
  have hlt4 := hr4.lt
  have HR5 : Hid (Rows2 w4 w5 (.slice a5 n5 c5) (.slice a6 n6 c6) false xs ys) := hr5
  have hlt5 := hR5.lt
  have hNW := one_new (w := w5) (.cells #[.bool false, .slice a5 n5 c5, .slice a6 n6 c6] 33)
  have hRW := hR5.below hNW
  have hCW : (w5.alloc (.cells #[.bool false, .slice a5 n5 c5, .slice a6 n6 c6] 33)).heap[w5.heap.size]? = some (.cells #[.bool false, .slice a5 n5 c5, .slice a6 n6 c6] 33) := heap_alloc_new w5 _
  obtain ⟨k0, k1, k2, f0, f1, f2⟩ := three_cellsV hR5.h
  obtain ⟨k0', k1', k2', f0', f1', f2'⟩ := three_cellsV hRW.h
  have hBW := below_after_of hB5 hNW
  clear hL hb5 hr4 hr5
  go_wp2_with fail
  refine (hR0 _ hBW).mono ?_
  rintro e w7 ⟨hb7, a7, n7, c7, a8, n8, c8, rfl, hr7⟩
  have hB7 := below_after_of hBW hb7
  have hR7 := hRW.below hb7
  have hltW := hRW.lt
  have hC7 := (hb7.block w5.heap.size (by simp)).trans hCW
  have hz5 : w5.heap.size < (w5.alloc (.cells #[.bool false, .slice a5 n5 c5, .slice a6 n6 c6] 33)).heap.size := by simp
  have hlw : w.heap.size < w5.heap.size := hlt5
  obtain ⟨W, hW⟩ : ∃ W, W = w5.alloc (.cells #[.bool false, .slice a5 n5 c5, .slice a6 n6 c6] 33) := ⟨_, rfl⟩
  rw [← hW] at hb7 hr7 hltW hz5
  have hBW' : Below w.heap.size w W := by rw [hW]; exact hBW
  have HR7 : Hid (Rows2 W w7 (.slice a7 n7 c7) (.slice a8 n8 c8) (opF o0) (op1 o0) (op2 o0)) := hr7
  obtain ⟨j0, j1, j2, g0, g1, g2⟩ := three_cellsV hR7.h
  obtain ⟨t0, t1, t2, s0, s1, s2⟩ := three_cellsV hC7
  have hlt7 : w5.heap.size < w7.heap.size := Nat.lt_of_lt_of_le hz5 hb7.size
  clear hR0 hr7 hb7 hW k0 k1 k2 f0 f1 f2 k0' k1' k2' f0' f1' f2' hCW hNW
  rcases o0 with _ | ⟨ls, bs⟩
  · have eo : opF (none : Ck) = false := rfl
    rw [eo]
    have hB8 : Below w.heap.size w (((w7.setCell ⟨w5.heap.size, 0, none⟩ (.bool false)).setCell ⟨w5.heap.size, 1, none⟩ (.slice a7 n7 c7)).setCell ⟨w5.heap.size, 2, none⟩ (.slice a8 n8 c8)) := ((hB7.setCell (by show w.heap.size ≤ w5.heap.size; omega) _).setCell (by show w.heap.size ≤ w5.heap.size; omega) _).setCell (by show w.heap.size ≤ w5.heap.size; omega) _
    have hR8 : R0 (((w7.setCell ⟨w5.heap.size, 0, none⟩ (.bool false)).setCell ⟨w5.heap.size, 1, none⟩ (.slice a7 n7 c7)).setCell ⟨w5.heap.size, 2, none⟩ (.slice a8 n8 c8)) w.heap.size := by
      refine ⟨?_⟩
      rw [heap_setCell_other _ _ _ _ (by show w.heap.size ≠ w5.heap.size; omega), heap_setCell_other _ _ _ _ (by show w.heap.size ≠ w5.heap.size; omega), heap_setCell_other _ _ _ _ (by show w.heap.size ≠ w5.heap.size; omega)]
      exact hR7.h
    go_wp2_with fail
    refine (hR1 _ hB8).mono ?_
    rintro e x7 ⟨hb11, a11, n11, c11, a12, n12, c12, rfl, hr11⟩
    have hB11 := below_after_of hB8 hb11
    have hR11 := hR8.below hb11
    have hlt8 := hR8.lt
    have HR11 : Hid (Rows2 _ x7 (.slice a11 n11 c11) (.slice a12 n12 c12) (opF o1) (op1 o1) (op2 o1)) := hr11
    have HZ8 := hB8.size
    obtain ⟨i0, i1, i2, y0, y1, y2⟩ := three_cellsV hR11.h
    generalize hof : opF o1 = fo at *
    clear hr11 hb11 hR1 j0 j1 j2 g0 g1 g2 t0 t1 t2 s0 s1 s2
    go_wp2
    refine bodyPost_ret (v := .agg #[.bool fo, .slice a11 n11 c11, .slice a12 n12 c12]) (by simp [results, Tryz.results77, go_sem, *]) rfl ?_
    show ClAns w (opF o1) (op1 o1) (op2 o1) _ _
    rw [hof]
    exact ⟨((hB11.setCell (Nat.le_refl _) _).setCell (Nat.le_refl _) _).setCell (Nat.le_refl _) _, _, _, _, _, _, _, rfl, (((HR11.out.set hlt8 _ _).set hlt8 _ _).set hlt8 _ _).under HZ8⟩
  · have eo : opF (some (ls, bs) : Ck) = true := rfl
    rw [eo]
    clear hR1
    have hle : w.heap.size ≤ w5.heap.size := by omega
    go_wp2
    exact bodyPost_ret (v := .agg #[.bool true, .slice a7 n7 c7, .slice a8 n8 c8]) (by simp [results, Tryz.results77, go_sem, *]) rfl ⟨(((((hB7.setCell hle _).setCell hle _).setCell hle _).setCell (Nat.le_refl _) _).setCell (Nat.le_refl _) _).setCell (Nat.le_refl _) _, _, _, _, _, _, _, rfl, ((((((HR7.out.set hz5 _ _).set hz5 _ _).set hz5 _ _).set hltW _ _).set hltW _ _).set hltW _ _).under hBW'.size⟩
set_option maxRecDepth 100000 in
set_option maxHeartbeats 2000000 in
theorem o8_hit_4 {l m : Prl} {f q : Int} (h0 : slF l = 0) (h1 : slF m = 0) (HF : Hid (f = q * 16)) (hq : 0 ≤ f ∧ f ≤ 255) (hf : l2B (ptL l 4 q) (ptL m 4 q) = true) : O8At l m 4 f (some (ptL l 4 q, ptL m 4 q)) := by
  refine ⟨fun v u w hv hu => ?_⟩
  have hs := slF_ok h0
  have ht := slF_ok h1
  have hN1 := fun w' h => l4Node_3 v l f (2 * q) w' (hv.below (w' := w') h) (by have := hs.len; omega) hs.fin (by have := HF.out; show f = 2 * q * 8; omega) (by omega)
  have hN2 := fun w' h => l4Node_3 v l (f + 8) (2 * q + 1) w' (hv.below (w' := w') h) (by have := hs.len; omega) hs.fin (by have := HF.out; show f + 8 = (2 * q + 1) * 8; omega) (by omega)
  have hN3 := fun w' h => l4Node_3 u m f (2 * q) w' (hu.below (w' := w') h) (by have := ht.len; omega) ht.fin (by have := HF.out; show f = 2 * q * 8; omega) (by omega)
  have hN4 := fun w' h => l4Node_3 u m (f + 8) (2 * q + 1) w' (hu.below (w' := w') h) (by have := ht.len; omega) ht.fin (by have := HF.out; show f + 8 = (2 * q + 1) * 8; omega) (by omega)
  have hL := fun w => l5Nodes_any (nd l 3 (2 * q)) (nd l 3 (2 * q + 1)) (nd m 3 (2 * q)) (nd m 3 (2 * q + 1)) w (nd_bd _ _ _) (nd_bd _ _ _) (nd_bd _ _ _) (nd_bd _ _ _)
  rw [show tagL 2 [nd l 3 (2 * q), nd l 3 (2 * q + 1)] = ptL l 4 q from rfl, show tagL 2 [nd m 3 (2 * q), nd m 3 (2 * q + 1)] = ptL m 4 q from rfl, hf] at hL
  generalize ptL l 4 q = xs at *
  generalize ptL m 4 q = ys at *
  generalize nd l 3 (2 * q) = x1 at *
  generalize nd l 3 (2 * q + 1) = x2 at *
  generalize nd m 3 (2 * q) = x3 at *
  generalize nd m 3 (2 * q + 1) = x4 at *
  obtain ⟨a, c, rfl⟩ := hv.shape
  obtain ⟨a', c', rfl⟩ := hu.shape
  generalize l.length = ln at *
  generalize m.length = mn at *
  have hr0 := R0.new w
  clear hv hu hs ht h0 h1
  go_enter Tryz.func77, Tryz.ntmps77
  go_wp2_with fail
  refine (hN1 _ (one_new _)).mono ?_
  rintro e w1 ⟨rfl, hb1⟩
  have hB1 := below_after_of (one_new _) hb1
  have hr1 := hr0.below hb1
  clear hN1 hb1 hr0
  go_wp2_with fail
  refine (hN2 _ hB1).mono ?_
  rintro e w2 ⟨rfl, hb2⟩
  have hB2 := below_after_of hB1 hb2
  have hr2 := hr1.below hb2
  clear hN2 hb2 hr1 hB1
  go_wp2_with fail
  refine (hN3 _ hB2).mono ?_
  rintro e w3 ⟨rfl, hb3⟩
  have hB3 := below_after_of hB2 hb3
  have hr3 := hr2.below hb3
  clear hN3 hb3 hr2 hB2
  go_wp2_with fail
  refine (hN4 _ hB3).mono ?_
  rintro e w4 ⟨rfl, hb4⟩
  have hB4 := below_after_of hB3 hb4
  have hr4 := hr3.below hb4
  clear hN4 hb4 hr3 hB3
  go_wp2_with fail
  refine (hL _).mono ?_
  rintro e w5 ⟨hb5, a5, n5, c5, a6, n6, c6, rfl, hr5⟩
  have hB5 := below_after_of hB4 hb5
  have hR5 := hr4.below hb5
  have hlt4 := hr4.lt
  have HR5 : Hid (Rows2 w4 w5 (.slice a5 n5 c5) (.slice a6 n6 c6) true xs ys) := hr5
  have hlt5 := hR5.lt
  have hNW := one_new (w := w5) (.cells #[.bool true, .slice a5 n5 c5, .slice a6 n6 c6] 33)
  have hRW := hR5.below hNW
  have hCW : (w5.alloc (.cells #[.bool true, .slice a5 n5 c5, .slice a6 n6 c6] 33)).heap[w5.heap.size]? = some (.cells #[.bool true, .slice a5 n5 c5, .slice a6 n6 c6] 33) := heap_alloc_new w5 _
  obtain ⟨k0, k1, k2, f0, f1, f2⟩ := three_cellsV hR5.h
  obtain ⟨k0', k1', k2', f0', f1', f2'⟩ := three_cellsV hRW.h
  have hBW := below_after_of hB5 hNW
  clear hL hb5 hr4 hr5
  go_wp2
  exact bodyPost_ret (v := .agg #[.bool true, .slice a5 n5 c5, .slice a6 n6 c6]) (by simp [results, Tryz.results77, go_sem, *]) rfl ⟨(((hB5.setCell (Nat.le_refl _) _).setCell (Nat.le_refl _) _).setCell (Nat.le_refl _) _).alloc (((hB5.setCell (Nat.le_refl _) _).setCell (Nat.le_refl _) _).setCell (Nat.le_refl _) _).size _, _, _, _, _, _, _, rfl, ((((HR5.out.set hlt4 _ _).set hlt4 _ _).set hlt4 _ _).below (one_new _)).under hB4.size⟩
set_option maxRecDepth 100000 in
set_option maxHeartbeats 2000000 in
theorem o8_miss_4 {l m : Prl} {f q : Int} (h0 : slF l = 0) (h1 : slF m = 0) (HF : Hid (f = q * 16)) (hq : 0 ≤ f ∧ f ≤ 255) (hf : l2B (ptL l 4 q) (ptL m 4 q) = false) (o0 o1 : Ck) (r0 : O8At l m 3 f o0) (r1 : O8At l m 3 (f + 8) o1) : O8At l m 4 f (ckOr o0 o1) := by
  refine ⟨fun v u w hv hu => ?_⟩
  have hs := slF_ok h0
  have ht := slF_ok h1
  have hN1 := fun w' h => l4Node_3 v l f (2 * q) w' (hv.below (w' := w') h) (by have := hs.len; omega) hs.fin (by have := HF.out; show f = 2 * q * 8; omega) (by omega)
  have hN2 := fun w' h => l4Node_3 v l (f + 8) (2 * q + 1) w' (hv.below (w' := w') h) (by have := hs.len; omega) hs.fin (by have := HF.out; show f + 8 = (2 * q + 1) * 8; omega) (by omega)
  have hN3 := fun w' h => l4Node_3 u m f (2 * q) w' (hu.below (w' := w') h) (by have := ht.len; omega) ht.fin (by have := HF.out; show f = 2 * q * 8; omega) (by omega)
  have hN4 := fun w' h => l4Node_3 u m (f + 8) (2 * q + 1) w' (hu.below (w' := w') h) (by have := ht.len; omega) ht.fin (by have := HF.out; show f + 8 = (2 * q + 1) * 8; omega) (by omega)
  have hL := fun w => l5Nodes_any (nd l 3 (2 * q)) (nd l 3 (2 * q + 1)) (nd m 3 (2 * q)) (nd m 3 (2 * q + 1)) w (nd_bd _ _ _) (nd_bd _ _ _) (nd_bd _ _ _) (nd_bd _ _ _)
  rw [show tagL 2 [nd l 3 (2 * q), nd l 3 (2 * q + 1)] = ptL l 4 q from rfl, show tagL 2 [nd m 3 (2 * q), nd m 3 (2 * q + 1)] = ptL m 4 q from rfl, hf] at hL
  generalize ptL l 4 q = xs at *
  generalize ptL m 4 q = ys at *
  generalize nd l 3 (2 * q) = x1 at *
  generalize nd l 3 (2 * q + 1) = x2 at *
  generalize nd m 3 (2 * q) = x3 at *
  generalize nd m 3 (2 * q + 1) = x4 at *
  have hR0 : ∀ w', Below w.heap.size w w' → Calls Tryz.prog 77 #[v, u, .int .i64 f, .int .i64 3] w' fun e w'' => OkAns w' o0 e w'' := fun w' h => r0.c v u w' (hv.below (w' := w') h) (hu.below h)
  have hR1 : ∀ w', Below w.heap.size w w' → Calls Tryz.prog 77 #[v, u, .int .i64 (f + 8), .int .i64 3] w' fun e w'' => OkAns w' o1 e w'' := fun w' h => r1.c v u w' (hv.below (w' := w') h) (hu.below h)
  obtain ⟨a, c, rfl⟩ := hv.shape
  obtain ⟨a', c', rfl⟩ := hu.shape
  generalize l.length = ln at *
  generalize m.length = mn at *
  have hr0 := R0.new w
  clear hv hu hs ht h0 h1
  go_enter Tryz.func77, Tryz.ntmps77
  go_wp2_with fail
  refine (hN1 _ (one_new _)).mono ?_
  rintro e w1 ⟨rfl, hb1⟩
  have hB1 := below_after_of (one_new _) hb1
  have hr1 := hr0.below hb1
  clear hN1 hb1 hr0
  go_wp2_with fail
  refine (hN2 _ hB1).mono ?_
  rintro e w2 ⟨rfl, hb2⟩
  have hB2 := below_after_of hB1 hb2
  have hr2 := hr1.below hb2
  clear hN2 hb2 hr1 hB1
  go_wp2_with fail
  refine (hN3 _ hB2).mono ?_
  rintro e w3 ⟨rfl, hb3⟩
  have hB3 := below_after_of hB2 hb3
  have hr3 := hr2.below hb3
  clear hN3 hb3 hr2 hB2
  go_wp2_with fail
  refine (hN4 _ hB3).mono ?_
  rintro e w4 ⟨rfl, hb4⟩
  have hB4 := below_after_of hB3 hb4
  have hr4 := hr3.below hb4
  clear hN4 hb4 hr3 hB3
  go_wp2_with fail
  refine (hL _).mono ?_
  rintro e w5 ⟨hb5, a5, n5, c5, a6, n6, c6, rfl, hr5⟩
  have hB5 := below_after_of hB4 hb5
  have hR5 := hr4.below hb5
  have hlt4 := hr4.lt
  have HR5 : Hid (Rows2 w4 w5 (.slice a5 n5 c5) (.slice a6 n6 c6) false xs ys) := hr5
  have hlt5 := hR5.lt
  have hNW := one_new (w := w5) (.cells #[.bool false, .slice a5 n5 c5, .slice a6 n6 c6] 33)
  have hRW := hR5.below hNW
  have hCW : (w5.alloc (.cells #[.bool false, .slice a5 n5 c5, .slice a6 n6 c6] 33)).heap[w5.heap.size]? = some (.cells #[.bool false, .slice a5 n5 c5, .slice a6 n6 c6] 33) := heap_alloc_new w5 _
  obtain ⟨k0, k1, k2, f0, f1, f2⟩ := three_cellsV hR5.h
  obtain ⟨k0', k1', k2', f0', f1', f2'⟩ := three_cellsV hRW.h
  have hBW := below_after_of hB5 hNW
  clear hL hb5 hr4 hr5
  go_wp2_with fail
  refine (hR0 _ hBW).mono ?_
  rintro e w7 ⟨hb7, a7, n7, c7, a8, n8, c8, rfl, hr7⟩
  have hB7 := below_after_of hBW hb7
  have hR7 := hRW.below hb7
  have hltW := hRW.lt
  have hC7 := (hb7.block w5.heap.size (by simp)).trans hCW
  have hz5 : w5.heap.size < (w5.alloc (.cells #[.bool false, .slice a5 n5 c5, .slice a6 n6 c6] 33)).heap.size := by simp
  have hlw : w.heap.size < w5.heap.size := hlt5
  obtain ⟨W, hW⟩ : ∃ W, W = w5.alloc (.cells #[.bool false, .slice a5 n5 c5, .slice a6 n6 c6] 33) := ⟨_, rfl⟩
  rw [← hW] at hb7 hr7 hltW hz5
  have hBW' : Below w.heap.size w W := by rw [hW]; exact hBW
  have HR7 : Hid (Rows2 W w7 (.slice a7 n7 c7) (.slice a8 n8 c8) (opF o0) (op1 o0) (op2 o0)) := hr7
  obtain ⟨j0, j1, j2, g0, g1, g2⟩ := three_cellsV hR7.h
  obtain ⟨t0, t1, t2, s0, s1, s2⟩ := three_cellsV hC7
  have hlt7 : w5.heap.size < w7.heap.size := Nat.lt_of_lt_of_le hz5 hb7.size
  clear hR0 hr7 hb7 hW k0 k1 k2 f0 f1 f2 k0' k1' k2' f0' f1' f2' hCW hNW
  rcases o0 with _ | ⟨ls, bs⟩
  · have eo : opF (none : Ck) = false := rfl
    rw [eo]
    have hB8 : Below w.heap.size w (((w7.setCell ⟨w5.heap.size, 0, none⟩ (.bool false)).setCell ⟨w5.heap.size, 1, none⟩ (.slice a7 n7 c7)).setCell ⟨w5.heap.size, 2, none⟩ (.slice a8 n8 c8)) := ((hB7.setCell (by show w.heap.size ≤ w5.heap.size; omega) _).setCell (by show w.heap.size ≤ w5.heap.size; omega) _).setCell (by show w.heap.size ≤ w5.heap.size; omega) _
    have hR8 : R0 (((w7.setCell ⟨w5.heap.size, 0, none⟩ (.bool false)).setCell ⟨w5.heap.size, 1, none⟩ (.slice a7 n7 c7)).setCell ⟨w5.heap.size, 2, none⟩ (.slice a8 n8 c8)) w.heap.size := by
      refine ⟨?_⟩
      rw [heap_setCell_other _ _ _ _ (by show w.heap.size ≠ w5.heap.size; omega), heap_setCell_other _ _ _ _ (by show w.heap.size ≠ w5.heap.size; omega), heap_setCell_other _ _ _ _ (by show w.heap.size ≠ w5.heap.size; omega)]
      exact hR7.h
    go_wp2_with fail
    refine (hR1 _ hB8).mono ?_
    rintro e x7 ⟨hb11, a11, n11, c11, a12, n12, c12, rfl, hr11⟩
    have hB11 := below_after_of hB8 hb11
    have hR11 := hR8.below hb11
    have hlt8 := hR8.lt
    have HR11 : Hid (Rows2 _ x7 (.slice a11 n11 c11) (.slice a12 n12 c12) (opF o1) (op1 o1) (op2 o1)) := hr11
    have HZ8 := hB8.size
    obtain ⟨i0, i1, i2, y0, y1, y2⟩ := three_cellsV hR11.h
    generalize hof : opF o1 = fo at *
    clear hr11 hb11 hR1 j0 j1 j2 g0 g1 g2 t0 t1 t2 s0 s1 s2
    go_wp2
    refine bodyPost_ret (v := .agg #[.bool fo, .slice a11 n11 c11, .slice a12 n12 c12]) (by simp [results, Tryz.results77, go_sem, *]) rfl ?_
    show ClAns w (opF o1) (op1 o1) (op2 o1) _ _
    rw [hof]
    exact ⟨((hB11.setCell (Nat.le_refl _) _).setCell (Nat.le_refl _) _).setCell (Nat.le_refl _) _, _, _, _, _, _, _, rfl, (((HR11.out.set hlt8 _ _).set hlt8 _ _).set hlt8 _ _).under HZ8⟩
  · have eo : opF (some (ls, bs) : Ck) = true := rfl
    rw [eo]
    clear hR1
    have hle : w.heap.size ≤ w5.heap.size := by omega
    go_wp2
    exact bodyPost_ret (v := .agg #[.bool true, .slice a7 n7 c7, .slice a8 n8 c8]) (by simp [results, Tryz.results77, go_sem, *]) rfl ⟨(((((hB7.setCell hle _).setCell hle _).setCell hle _).setCell (Nat.le_refl _) _).setCell (Nat.le_refl _) _).setCell (Nat.le_refl _) _, _, _, _, _, _, _, rfl, ((((((HR7.out.set hz5 _ _).set hz5 _ _).set hz5 _ _).set hltW _ _).set hltW _ _).set hltW _ _).under hBW'.size⟩
end U
end Go.Proofs.YtljbcpkjhnbpeaaGreatDoor

/- A clash in the parts of two old trees, by the model: more levels. -/
namespace Go.Proofs.YtljbcpkjhnbpeaaGreatDoor
open Go.RowKit
namespace U
set_option maxRecDepth 100000 in
set_option maxHeartbeats 2000000 in
theorem o8_hit_5 {l m : Prl} {f q : Int} (h0 : slF l = 0) (h1 : slF m = 0) (HF : Hid (f = q * 32)) (hq : 0 ≤ f ∧ f ≤ 255) (hf : l2B (ptL l 5 q) (ptL m 5 q) = true) : O8At l m 5 f (some (ptL l 5 q, ptL m 5 q)) := by
  refine ⟨fun v u w hv hu => ?_⟩
  have hs := slF_ok h0
  have ht := slF_ok h1
  have hN1 := fun w' h => l4Node_4 v l f (2 * q) w' (hv.below (w' := w') h) (by have := hs.len; omega) hs.fin (by have := HF.out; show f = 2 * q * 16; omega) (by omega)
  have hN2 := fun w' h => l4Node_4 v l (f + 16) (2 * q + 1) w' (hv.below (w' := w') h) (by have := hs.len; omega) hs.fin (by have := HF.out; show f + 16 = (2 * q + 1) * 16; omega) (by omega)
  have hN3 := fun w' h => l4Node_4 u m f (2 * q) w' (hu.below (w' := w') h) (by have := ht.len; omega) ht.fin (by have := HF.out; show f = 2 * q * 16; omega) (by omega)
  have hN4 := fun w' h => l4Node_4 u m (f + 16) (2 * q + 1) w' (hu.below (w' := w') h) (by have := ht.len; omega) ht.fin (by have := HF.out; show f + 16 = (2 * q + 1) * 16; omega) (by omega)
  have hL := fun w => l5Nodes_any (nd l 4 (2 * q)) (nd l 4 (2 * q + 1)) (nd m 4 (2 * q)) (nd m 4 (2 * q + 1)) w (nd_bd _ _ _) (nd_bd _ _ _) (nd_bd _ _ _) (nd_bd _ _ _)
  rw [show tagL 2 [nd l 4 (2 * q), nd l 4 (2 * q + 1)] = ptL l 5 q from rfl, show tagL 2 [nd m 4 (2 * q), nd m 4 (2 * q + 1)] = ptL m 5 q from rfl, hf] at hL
  generalize ptL l 5 q = xs at *
  generalize ptL m 5 q = ys at *
  generalize nd l 4 (2 * q) = x1 at *
  generalize nd l 4 (2 * q + 1) = x2 at *
  generalize nd m 4 (2 * q) = x3 at *
  generalize nd m 4 (2 * q + 1) = x4 at *
  obtain ⟨a, c, rfl⟩ := hv.shape
  obtain ⟨a', c', rfl⟩ := hu.shape
  generalize l.length = ln at *
  generalize m.length = mn at *
  have hr0 := R0.new w
  clear hv hu hs ht h0 h1
  go_enter Tryz.func77, Tryz.ntmps77
  go_wp2_with fail
  refine (hN1 _ (one_new _)).mono ?_
  rintro e w1 ⟨rfl, hb1⟩
  have hB1 := below_after_of (one_new _) hb1
  have hr1 := hr0.below hb1
  clear hN1 hb1 hr0
  go_wp2_with fail
  refine (hN2 _ hB1).mono ?_
  rintro e w2 ⟨rfl, hb2⟩
  have hB2 := below_after_of hB1 hb2
  have hr2 := hr1.below hb2
  clear hN2 hb2 hr1 hB1
  go_wp2_with fail
  refine (hN3 _ hB2).mono ?_
  rintro e w3 ⟨rfl, hb3⟩
  have hB3 := below_after_of hB2 hb3
  have hr3 := hr2.below hb3
  clear hN3 hb3 hr2 hB2
  go_wp2_with fail
  refine (hN4 _ hB3).mono ?_
  rintro e w4 ⟨rfl, hb4⟩
  have hB4 := below_after_of hB3 hb4
  have hr4 := hr3.below hb4
  clear hN4 hb4 hr3 hB3
  go_wp2_with fail
  refine (hL _).mono ?_
  rintro e w5 ⟨hb5, a5, n5, c5, a6, n6, c6, rfl, hr5⟩
  have hB5 := below_after_of hB4 hb5
  have hR5 := hr4.below hb5
  have hlt4 := hr4.lt
  have HR5 : Hid (Rows2 w4 w5 (.slice a5 n5 c5) (.slice a6 n6 c6) true xs ys) := hr5
  have hlt5 := hR5.lt
  have hNW := one_new (w := w5) (.cells #[.bool true, .slice a5 n5 c5, .slice a6 n6 c6] 33)
  have hRW := hR5.below hNW
  have hCW : (w5.alloc (.cells #[.bool true, .slice a5 n5 c5, .slice a6 n6 c6] 33)).heap[w5.heap.size]? = some (.cells #[.bool true, .slice a5 n5 c5, .slice a6 n6 c6] 33) := heap_alloc_new w5 _
  obtain ⟨k0, k1, k2, f0, f1, f2⟩ := three_cellsV hR5.h
  obtain ⟨k0', k1', k2', f0', f1', f2'⟩ := three_cellsV hRW.h
  have hBW := below_after_of hB5 hNW
  clear hL hb5 hr4 hr5
  go_wp2
  exact bodyPost_ret (v := .agg #[.bool true, .slice a5 n5 c5, .slice a6 n6 c6]) (by simp [results, Tryz.results77, go_sem, *]) rfl ⟨(((hB5.setCell (Nat.le_refl _) _).setCell (Nat.le_refl _) _).setCell (Nat.le_refl _) _).alloc (((hB5.setCell (Nat.le_refl _) _).setCell (Nat.le_refl _) _).setCell (Nat.le_refl _) _).size _, _, _, _, _, _, _, rfl, ((((HR5.out.set hlt4 _ _).set hlt4 _ _).set hlt4 _ _).below (one_new _)).under hB4.size⟩
set_option maxRecDepth 100000 in
set_option maxHeartbeats 2000000 in
theorem o8_miss_5 {l m : Prl} {f q : Int} (h0 : slF l = 0) (h1 : slF m = 0) (HF : Hid (f = q * 32)) (hq : 0 ≤ f ∧ f ≤ 255) (hf : l2B (ptL l 5 q) (ptL m 5 q) = false) (o0 o1 : Ck) (r0 : O8At l m 4 f o0) (r1 : O8At l m 4 (f + 16) o1) : O8At l m 5 f (ckOr o0 o1) := by
  refine ⟨fun v u w hv hu => ?_⟩
  have hs := slF_ok h0
  have ht := slF_ok h1
  have hN1 := fun w' h => l4Node_4 v l f (2 * q) w' (hv.below (w' := w') h) (by have := hs.len; omega) hs.fin (by have := HF.out; show f = 2 * q * 16; omega) (by omega)
  have hN2 := fun w' h => l4Node_4 v l (f + 16) (2 * q + 1) w' (hv.below (w' := w') h) (by have := hs.len; omega) hs.fin (by have := HF.out; show f + 16 = (2 * q + 1) * 16; omega) (by omega)
  have hN3 := fun w' h => l4Node_4 u m f (2 * q) w' (hu.below (w' := w') h) (by have := ht.len; omega) ht.fin (by have := HF.out; show f = 2 * q * 16; omega) (by omega)
  have hN4 := fun w' h => l4Node_4 u m (f + 16) (2 * q + 1) w' (hu.below (w' := w') h) (by have := ht.len; omega) ht.fin (by have := HF.out; show f + 16 = (2 * q + 1) * 16; omega) (by omega)
  have hL := fun w => l5Nodes_any (nd l 4 (2 * q)) (nd l 4 (2 * q + 1)) (nd m 4 (2 * q)) (nd m 4 (2 * q + 1)) w (nd_bd _ _ _) (nd_bd _ _ _) (nd_bd _ _ _) (nd_bd _ _ _)
  rw [show tagL 2 [nd l 4 (2 * q), nd l 4 (2 * q + 1)] = ptL l 5 q from rfl, show tagL 2 [nd m 4 (2 * q), nd m 4 (2 * q + 1)] = ptL m 5 q from rfl, hf] at hL
  generalize ptL l 5 q = xs at *
  generalize ptL m 5 q = ys at *
  generalize nd l 4 (2 * q) = x1 at *
  generalize nd l 4 (2 * q + 1) = x2 at *
  generalize nd m 4 (2 * q) = x3 at *
  generalize nd m 4 (2 * q + 1) = x4 at *
  have hR0 : ∀ w', Below w.heap.size w w' → Calls Tryz.prog 77 #[v, u, .int .i64 f, .int .i64 4] w' fun e w'' => OkAns w' o0 e w'' := fun w' h => r0.c v u w' (hv.below (w' := w') h) (hu.below h)
  have hR1 : ∀ w', Below w.heap.size w w' → Calls Tryz.prog 77 #[v, u, .int .i64 (f + 16), .int .i64 4] w' fun e w'' => OkAns w' o1 e w'' := fun w' h => r1.c v u w' (hv.below (w' := w') h) (hu.below h)
  obtain ⟨a, c, rfl⟩ := hv.shape
  obtain ⟨a', c', rfl⟩ := hu.shape
  generalize l.length = ln at *
  generalize m.length = mn at *
  have hr0 := R0.new w
  clear hv hu hs ht h0 h1
  go_enter Tryz.func77, Tryz.ntmps77
  go_wp2_with fail
  refine (hN1 _ (one_new _)).mono ?_
  rintro e w1 ⟨rfl, hb1⟩
  have hB1 := below_after_of (one_new _) hb1
  have hr1 := hr0.below hb1
  clear hN1 hb1 hr0
  go_wp2_with fail
  refine (hN2 _ hB1).mono ?_
  rintro e w2 ⟨rfl, hb2⟩
  have hB2 := below_after_of hB1 hb2
  have hr2 := hr1.below hb2
  clear hN2 hb2 hr1 hB1
  go_wp2_with fail
  refine (hN3 _ hB2).mono ?_
  rintro e w3 ⟨rfl, hb3⟩
  have hB3 := below_after_of hB2 hb3
  have hr3 := hr2.below hb3
  clear hN3 hb3 hr2 hB2
  go_wp2_with fail
  refine (hN4 _ hB3).mono ?_
  rintro e w4 ⟨rfl, hb4⟩
  have hB4 := below_after_of hB3 hb4
  have hr4 := hr3.below hb4
  clear hN4 hb4 hr3 hB3
  go_wp2_with fail
  refine (hL _).mono ?_
  rintro e w5 ⟨hb5, a5, n5, c5, a6, n6, c6, rfl, hr5⟩
  have hB5 := below_after_of hB4 hb5
  have hR5 := hr4.below hb5
  have hlt4 := hr4.lt
  have HR5 : Hid (Rows2 w4 w5 (.slice a5 n5 c5) (.slice a6 n6 c6) false xs ys) := hr5
  have hlt5 := hR5.lt
  have hNW := one_new (w := w5) (.cells #[.bool false, .slice a5 n5 c5, .slice a6 n6 c6] 33)
  have hRW := hR5.below hNW
  have hCW : (w5.alloc (.cells #[.bool false, .slice a5 n5 c5, .slice a6 n6 c6] 33)).heap[w5.heap.size]? = some (.cells #[.bool false, .slice a5 n5 c5, .slice a6 n6 c6] 33) := heap_alloc_new w5 _
  obtain ⟨k0, k1, k2, f0, f1, f2⟩ := three_cellsV hR5.h
  obtain ⟨k0', k1', k2', f0', f1', f2'⟩ := three_cellsV hRW.h
  have hBW := below_after_of hB5 hNW
  clear hL hb5 hr4 hr5
  go_wp2_with fail
  refine (hR0 _ hBW).mono ?_
  rintro e w7 ⟨hb7, a7, n7, c7, a8, n8, c8, rfl, hr7⟩
  have hB7 := below_after_of hBW hb7
  have hR7 := hRW.below hb7
  have hltW := hRW.lt
  have hC7 := (hb7.block w5.heap.size (by simp)).trans hCW
  have hz5 : w5.heap.size < (w5.alloc (.cells #[.bool false, .slice a5 n5 c5, .slice a6 n6 c6] 33)).heap.size := by simp
  have hlw : w.heap.size < w5.heap.size := hlt5
  obtain ⟨W, hW⟩ : ∃ W, W = w5.alloc (.cells #[.bool false, .slice a5 n5 c5, .slice a6 n6 c6] 33) := ⟨_, rfl⟩
  rw [← hW] at hb7 hr7 hltW hz5
  have hBW' : Below w.heap.size w W := by rw [hW]; exact hBW
  have HR7 : Hid (Rows2 W w7 (.slice a7 n7 c7) (.slice a8 n8 c8) (opF o0) (op1 o0) (op2 o0)) := hr7
  obtain ⟨j0, j1, j2, g0, g1, g2⟩ := three_cellsV hR7.h
  obtain ⟨t0, t1, t2, s0, s1, s2⟩ := three_cellsV hC7
  have hlt7 : w5.heap.size < w7.heap.size := Nat.lt_of_lt_of_le hz5 hb7.size
  clear hR0 hr7 hb7 hW k0 k1 k2 f0 f1 f2 k0' k1' k2' f0' f1' f2' hCW hNW
  rcases o0 with _ | ⟨ls, bs⟩
  · have eo : opF (none : Ck) = false := rfl
    rw [eo]
    have hB8 : Below w.heap.size w (((w7.setCell ⟨w5.heap.size, 0, none⟩ (.bool false)).setCell ⟨w5.heap.size, 1, none⟩ (.slice a7 n7 c7)).setCell ⟨w5.heap.size, 2, none⟩ (.slice a8 n8 c8)) := ((hB7.setCell (by show w.heap.size ≤ w5.heap.size; omega) _).setCell (by show w.heap.size ≤ w5.heap.size; omega) _).setCell (by show w.heap.size ≤ w5.heap.size; omega) _
    have hR8 : R0 (((w7.setCell ⟨w5.heap.size, 0, none⟩ (.bool false)).setCell ⟨w5.heap.size, 1, none⟩ (.slice a7 n7 c7)).setCell ⟨w5.heap.size, 2, none⟩ (.slice a8 n8 c8)) w.heap.size := by
      refine ⟨?_⟩
      rw [heap_setCell_other _ _ _ _ (by show w.heap.size ≠ w5.heap.size; omega), heap_setCell_other _ _ _ _ (by show w.heap.size ≠ w5.heap.size; omega), heap_setCell_other _ _ _ _ (by show w.heap.size ≠ w5.heap.size; omega)]
      exact hR7.h
    go_wp2_with fail
    refine (hR1 _ hB8).mono ?_
    rintro e x7 ⟨hb11, a11, n11, c11, a12, n12, c12, rfl, hr11⟩
    have hB11 := below_after_of hB8 hb11
    have hR11 := hR8.below hb11
    have hlt8 := hR8.lt
    have HR11 : Hid (Rows2 _ x7 (.slice a11 n11 c11) (.slice a12 n12 c12) (opF o1) (op1 o1) (op2 o1)) := hr11
    have HZ8 := hB8.size
    obtain ⟨i0, i1, i2, y0, y1, y2⟩ := three_cellsV hR11.h
    generalize hof : opF o1 = fo at *
    clear hr11 hb11 hR1 j0 j1 j2 g0 g1 g2 t0 t1 t2 s0 s1 s2
    go_wp2
    refine bodyPost_ret (v := .agg #[.bool fo, .slice a11 n11 c11, .slice a12 n12 c12]) (by simp [results, Tryz.results77, go_sem, *]) rfl ?_
    show ClAns w (opF o1) (op1 o1) (op2 o1) _ _
    rw [hof]
    exact ⟨((hB11.setCell (Nat.le_refl _) _).setCell (Nat.le_refl _) _).setCell (Nat.le_refl _) _, _, _, _, _, _, _, rfl, (((HR11.out.set hlt8 _ _).set hlt8 _ _).set hlt8 _ _).under HZ8⟩
  · have eo : opF (some (ls, bs) : Ck) = true := rfl
    rw [eo]
    clear hR1
    have hle : w.heap.size ≤ w5.heap.size := by omega
    go_wp2
    exact bodyPost_ret (v := .agg #[.bool true, .slice a7 n7 c7, .slice a8 n8 c8]) (by simp [results, Tryz.results77, go_sem, *]) rfl ⟨(((((hB7.setCell hle _).setCell hle _).setCell hle _).setCell (Nat.le_refl _) _).setCell (Nat.le_refl _) _).setCell (Nat.le_refl _) _, _, _, _, _, _, _, rfl, ((((((HR7.out.set hz5 _ _).set hz5 _ _).set hz5 _ _).set hltW _ _).set hltW _ _).set hltW _ _).under hBW'.size⟩
set_option maxRecDepth 100000 in
set_option maxHeartbeats 2000000 in
theorem o8_hit_6 {l m : Prl} {f q : Int} (h0 : slF l = 0) (h1 : slF m = 0) (HF : Hid (f = q * 64)) (hq : 0 ≤ f ∧ f ≤ 255) (hf : l2B (ptL l 6 q) (ptL m 6 q) = true) : O8At l m 6 f (some (ptL l 6 q, ptL m 6 q)) := by
  refine ⟨fun v u w hv hu => ?_⟩
  have hs := slF_ok h0
  have ht := slF_ok h1
  have hN1 := fun w' h => l4Node_5 v l f (2 * q) w' (hv.below (w' := w') h) (by have := hs.len; omega) hs.fin (by have := HF.out; show f = 2 * q * 32; omega) (by omega)
  have hN2 := fun w' h => l4Node_5 v l (f + 32) (2 * q + 1) w' (hv.below (w' := w') h) (by have := hs.len; omega) hs.fin (by have := HF.out; show f + 32 = (2 * q + 1) * 32; omega) (by omega)
  have hN3 := fun w' h => l4Node_5 u m f (2 * q) w' (hu.below (w' := w') h) (by have := ht.len; omega) ht.fin (by have := HF.out; show f = 2 * q * 32; omega) (by omega)
  have hN4 := fun w' h => l4Node_5 u m (f + 32) (2 * q + 1) w' (hu.below (w' := w') h) (by have := ht.len; omega) ht.fin (by have := HF.out; show f + 32 = (2 * q + 1) * 32; omega) (by omega)
  have hL := fun w => l5Nodes_any (nd l 5 (2 * q)) (nd l 5 (2 * q + 1)) (nd m 5 (2 * q)) (nd m 5 (2 * q + 1)) w (nd_bd _ _ _) (nd_bd _ _ _) (nd_bd _ _ _) (nd_bd _ _ _)
  rw [show tagL 2 [nd l 5 (2 * q), nd l 5 (2 * q + 1)] = ptL l 6 q from rfl, show tagL 2 [nd m 5 (2 * q), nd m 5 (2 * q + 1)] = ptL m 6 q from rfl, hf] at hL
  generalize ptL l 6 q = xs at *
  generalize ptL m 6 q = ys at *
  generalize nd l 5 (2 * q) = x1 at *
  generalize nd l 5 (2 * q + 1) = x2 at *
  generalize nd m 5 (2 * q) = x3 at *
  generalize nd m 5 (2 * q + 1) = x4 at *
  obtain ⟨a, c, rfl⟩ := hv.shape
  obtain ⟨a', c', rfl⟩ := hu.shape
  generalize l.length = ln at *
  generalize m.length = mn at *
  have hr0 := R0.new w
  clear hv hu hs ht h0 h1
  go_enter Tryz.func77, Tryz.ntmps77
  go_wp2_with fail
  refine (hN1 _ (one_new _)).mono ?_
  rintro e w1 ⟨rfl, hb1⟩
  have hB1 := below_after_of (one_new _) hb1
  have hr1 := hr0.below hb1
  clear hN1 hb1 hr0
  go_wp2_with fail
  refine (hN2 _ hB1).mono ?_
  rintro e w2 ⟨rfl, hb2⟩
  have hB2 := below_after_of hB1 hb2
  have hr2 := hr1.below hb2
  clear hN2 hb2 hr1 hB1
  go_wp2_with fail
  refine (hN3 _ hB2).mono ?_
  rintro e w3 ⟨rfl, hb3⟩
  have hB3 := below_after_of hB2 hb3
  have hr3 := hr2.below hb3
  clear hN3 hb3 hr2 hB2
  go_wp2_with fail
  refine (hN4 _ hB3).mono ?_
  rintro e w4 ⟨rfl, hb4⟩
  have hB4 := below_after_of hB3 hb4
  have hr4 := hr3.below hb4
  clear hN4 hb4 hr3 hB3
  go_wp2_with fail
  refine (hL _).mono ?_
  rintro e w5 ⟨hb5, a5, n5, c5, a6, n6, c6, rfl, hr5⟩
  have hB5 := below_after_of hB4 hb5
  have hR5 := hr4.below hb5
  have hlt4 := hr4.lt
  have HR5 : Hid (Rows2 w4 w5 (.slice a5 n5 c5) (.slice a6 n6 c6) true xs ys) := hr5
  have hlt5 := hR5.lt
  have hNW := one_new (w := w5) (.cells #[.bool true, .slice a5 n5 c5, .slice a6 n6 c6] 33)
  have hRW := hR5.below hNW
  have hCW : (w5.alloc (.cells #[.bool true, .slice a5 n5 c5, .slice a6 n6 c6] 33)).heap[w5.heap.size]? = some (.cells #[.bool true, .slice a5 n5 c5, .slice a6 n6 c6] 33) := heap_alloc_new w5 _
  obtain ⟨k0, k1, k2, f0, f1, f2⟩ := three_cellsV hR5.h
  obtain ⟨k0', k1', k2', f0', f1', f2'⟩ := three_cellsV hRW.h
  have hBW := below_after_of hB5 hNW
  clear hL hb5 hr4 hr5
  go_wp2
  exact bodyPost_ret (v := .agg #[.bool true, .slice a5 n5 c5, .slice a6 n6 c6]) (by simp [results, Tryz.results77, go_sem, *]) rfl ⟨(((hB5.setCell (Nat.le_refl _) _).setCell (Nat.le_refl _) _).setCell (Nat.le_refl _) _).alloc (((hB5.setCell (Nat.le_refl _) _).setCell (Nat.le_refl _) _).setCell (Nat.le_refl _) _).size _, _, _, _, _, _, _, rfl, ((((HR5.out.set hlt4 _ _).set hlt4 _ _).set hlt4 _ _).below (one_new _)).under hB4.size⟩
set_option maxRecDepth 100000 in
set_option maxHeartbeats 2000000 in
theorem o8_miss_6 {l m : Prl} {f q : Int} (h0 : slF l = 0) (h1 : slF m = 0) (HF : Hid (f = q * 64)) (hq : 0 ≤ f ∧ f ≤ 255) (hf : l2B (ptL l 6 q) (ptL m 6 q) = false) (o0 o1 : Ck) (r0 : O8At l m 5 f o0) (r1 : O8At l m 5 (f + 32) o1) : O8At l m 6 f (ckOr o0 o1) := by
  refine ⟨fun v u w hv hu => ?_⟩
  have hs := slF_ok h0
  have ht := slF_ok h1
  have hN1 := fun w' h => l4Node_5 v l f (2 * q) w' (hv.below (w' := w') h) (by have := hs.len; omega) hs.fin (by have := HF.out; show f = 2 * q * 32; omega) (by omega)
  have hN2 := fun w' h => l4Node_5 v l (f + 32) (2 * q + 1) w' (hv.below (w' := w') h) (by have := hs.len; omega) hs.fin (by have := HF.out; show f + 32 = (2 * q + 1) * 32; omega) (by omega)
  have hN3 := fun w' h => l4Node_5 u m f (2 * q) w' (hu.below (w' := w') h) (by have := ht.len; omega) ht.fin (by have := HF.out; show f = 2 * q * 32; omega) (by omega)
  have hN4 := fun w' h => l4Node_5 u m (f + 32) (2 * q + 1) w' (hu.below (w' := w') h) (by have := ht.len; omega) ht.fin (by have := HF.out; show f + 32 = (2 * q + 1) * 32; omega) (by omega)
  have hL := fun w => l5Nodes_any (nd l 5 (2 * q)) (nd l 5 (2 * q + 1)) (nd m 5 (2 * q)) (nd m 5 (2 * q + 1)) w (nd_bd _ _ _) (nd_bd _ _ _) (nd_bd _ _ _) (nd_bd _ _ _)
  rw [show tagL 2 [nd l 5 (2 * q), nd l 5 (2 * q + 1)] = ptL l 6 q from rfl, show tagL 2 [nd m 5 (2 * q), nd m 5 (2 * q + 1)] = ptL m 6 q from rfl, hf] at hL
  generalize ptL l 6 q = xs at *
  generalize ptL m 6 q = ys at *
  generalize nd l 5 (2 * q) = x1 at *
  generalize nd l 5 (2 * q + 1) = x2 at *
  generalize nd m 5 (2 * q) = x3 at *
  generalize nd m 5 (2 * q + 1) = x4 at *
  have hR0 : ∀ w', Below w.heap.size w w' → Calls Tryz.prog 77 #[v, u, .int .i64 f, .int .i64 5] w' fun e w'' => OkAns w' o0 e w'' := fun w' h => r0.c v u w' (hv.below (w' := w') h) (hu.below h)
  have hR1 : ∀ w', Below w.heap.size w w' → Calls Tryz.prog 77 #[v, u, .int .i64 (f + 32), .int .i64 5] w' fun e w'' => OkAns w' o1 e w'' := fun w' h => r1.c v u w' (hv.below (w' := w') h) (hu.below h)
  obtain ⟨a, c, rfl⟩ := hv.shape
  obtain ⟨a', c', rfl⟩ := hu.shape
  generalize l.length = ln at *
  generalize m.length = mn at *
  have hr0 := R0.new w
  clear hv hu hs ht h0 h1
  go_enter Tryz.func77, Tryz.ntmps77
  go_wp2_with fail
  refine (hN1 _ (one_new _)).mono ?_
  rintro e w1 ⟨rfl, hb1⟩
  have hB1 := below_after_of (one_new _) hb1
  have hr1 := hr0.below hb1
  clear hN1 hb1 hr0
  go_wp2_with fail
  refine (hN2 _ hB1).mono ?_
  rintro e w2 ⟨rfl, hb2⟩
  have hB2 := below_after_of hB1 hb2
  have hr2 := hr1.below hb2
  clear hN2 hb2 hr1 hB1
  go_wp2_with fail
  refine (hN3 _ hB2).mono ?_
  rintro e w3 ⟨rfl, hb3⟩
  have hB3 := below_after_of hB2 hb3
  have hr3 := hr2.below hb3
  clear hN3 hb3 hr2 hB2
  go_wp2_with fail
  refine (hN4 _ hB3).mono ?_
  rintro e w4 ⟨rfl, hb4⟩
  have hB4 := below_after_of hB3 hb4
  have hr4 := hr3.below hb4
  clear hN4 hb4 hr3 hB3
  go_wp2_with fail
  refine (hL _).mono ?_
  rintro e w5 ⟨hb5, a5, n5, c5, a6, n6, c6, rfl, hr5⟩
  have hB5 := below_after_of hB4 hb5
  have hR5 := hr4.below hb5
  have hlt4 := hr4.lt
  have HR5 : Hid (Rows2 w4 w5 (.slice a5 n5 c5) (.slice a6 n6 c6) false xs ys) := hr5
  have hlt5 := hR5.lt
  have hNW := one_new (w := w5) (.cells #[.bool false, .slice a5 n5 c5, .slice a6 n6 c6] 33)
  have hRW := hR5.below hNW
  have hCW : (w5.alloc (.cells #[.bool false, .slice a5 n5 c5, .slice a6 n6 c6] 33)).heap[w5.heap.size]? = some (.cells #[.bool false, .slice a5 n5 c5, .slice a6 n6 c6] 33) := heap_alloc_new w5 _
  obtain ⟨k0, k1, k2, f0, f1, f2⟩ := three_cellsV hR5.h
  obtain ⟨k0', k1', k2', f0', f1', f2'⟩ := three_cellsV hRW.h
  have hBW := below_after_of hB5 hNW
  clear hL hb5 hr4 hr5
  go_wp2_with fail
  refine (hR0 _ hBW).mono ?_
  rintro e w7 ⟨hb7, a7, n7, c7, a8, n8, c8, rfl, hr7⟩
  have hB7 := below_after_of hBW hb7
  have hR7 := hRW.below hb7
  have hltW := hRW.lt
  have hC7 := (hb7.block w5.heap.size (by simp)).trans hCW
  have hz5 : w5.heap.size < (w5.alloc (.cells #[.bool false, .slice a5 n5 c5, .slice a6 n6 c6] 33)).heap.size := by simp
  have hlw : w.heap.size < w5.heap.size := hlt5
  obtain ⟨W, hW⟩ : ∃ W, W = w5.alloc (.cells #[.bool false, .slice a5 n5 c5, .slice a6 n6 c6] 33) := ⟨_, rfl⟩
  rw [← hW] at hb7 hr7 hltW hz5
  have hBW' : Below w.heap.size w W := by rw [hW]; exact hBW
  have HR7 : Hid (Rows2 W w7 (.slice a7 n7 c7) (.slice a8 n8 c8) (opF o0) (op1 o0) (op2 o0)) := hr7
  obtain ⟨j0, j1, j2, g0, g1, g2⟩ := three_cellsV hR7.h
  obtain ⟨t0, t1, t2, s0, s1, s2⟩ := three_cellsV hC7
  have hlt7 : w5.heap.size < w7.heap.size := Nat.lt_of_lt_of_le hz5 hb7.size
  clear hR0 hr7 hb7 hW k0 k1 k2 f0 f1 f2 k0' k1' k2' f0' f1' f2' hCW hNW
  rcases o0 with _ | ⟨ls, bs⟩
  · have eo : opF (none : Ck) = false := rfl
    rw [eo]
    have hB8 : Below w.heap.size w (((w7.setCell ⟨w5.heap.size, 0, none⟩ (.bool false)).setCell ⟨w5.heap.size, 1, none⟩ (.slice a7 n7 c7)).setCell ⟨w5.heap.size, 2, none⟩ (.slice a8 n8 c8)) := ((hB7.setCell (by show w.heap.size ≤ w5.heap.size; omega) _).setCell (by show w.heap.size ≤ w5.heap.size; omega) _).setCell (by show w.heap.size ≤ w5.heap.size; omega) _
    have hR8 : R0 (((w7.setCell ⟨w5.heap.size, 0, none⟩ (.bool false)).setCell ⟨w5.heap.size, 1, none⟩ (.slice a7 n7 c7)).setCell ⟨w5.heap.size, 2, none⟩ (.slice a8 n8 c8)) w.heap.size := by
      refine ⟨?_⟩
      rw [heap_setCell_other _ _ _ _ (by show w.heap.size ≠ w5.heap.size; omega), heap_setCell_other _ _ _ _ (by show w.heap.size ≠ w5.heap.size; omega), heap_setCell_other _ _ _ _ (by show w.heap.size ≠ w5.heap.size; omega)]
      exact hR7.h
    go_wp2_with fail
    refine (hR1 _ hB8).mono ?_
    rintro e x7 ⟨hb11, a11, n11, c11, a12, n12, c12, rfl, hr11⟩
    have hB11 := below_after_of hB8 hb11
    have hR11 := hR8.below hb11
    have hlt8 := hR8.lt
    have HR11 : Hid (Rows2 _ x7 (.slice a11 n11 c11) (.slice a12 n12 c12) (opF o1) (op1 o1) (op2 o1)) := hr11
    have HZ8 := hB8.size
    obtain ⟨i0, i1, i2, y0, y1, y2⟩ := three_cellsV hR11.h
    generalize hof : opF o1 = fo at *
    clear hr11 hb11 hR1 j0 j1 j2 g0 g1 g2 t0 t1 t2 s0 s1 s2
    go_wp2
    refine bodyPost_ret (v := .agg #[.bool fo, .slice a11 n11 c11, .slice a12 n12 c12]) (by simp [results, Tryz.results77, go_sem, *]) rfl ?_
    show ClAns w (opF o1) (op1 o1) (op2 o1) _ _
    rw [hof]
    exact ⟨((hB11.setCell (Nat.le_refl _) _).setCell (Nat.le_refl _) _).setCell (Nat.le_refl _) _, _, _, _, _, _, _, rfl, (((HR11.out.set hlt8 _ _).set hlt8 _ _).set hlt8 _ _).under HZ8⟩
  · have eo : opF (some (ls, bs) : Ck) = true := rfl
    rw [eo]
    clear hR1
    have hle : w.heap.size ≤ w5.heap.size := by omega
    go_wp2
    exact bodyPost_ret (v := .agg #[.bool true, .slice a7 n7 c7, .slice a8 n8 c8]) (by simp [results, Tryz.results77, go_sem, *]) rfl ⟨(((((hB7.setCell hle _).setCell hle _).setCell hle _).setCell (Nat.le_refl _) _).setCell (Nat.le_refl _) _).setCell (Nat.le_refl _) _, _, _, _, _, _, _, rfl, ((((((HR7.out.set hz5 _ _).set hz5 _ _).set hz5 _ _).set hltW _ _).set hltW _ _).set hltW _ _).under hBW'.size⟩
set_option maxRecDepth 100000 in
set_option maxHeartbeats 2000000 in
theorem o8_hit_7 {l m : Prl} {f q : Int} (h0 : slF l = 0) (h1 : slF m = 0) (HF : Hid (f = q * 128)) (hq : 0 ≤ f ∧ f ≤ 255) (hf : l2B (ptL l 7 q) (ptL m 7 q) = true) : O8At l m 7 f (some (ptL l 7 q, ptL m 7 q)) := by
  refine ⟨fun v u w hv hu => ?_⟩
  have hs := slF_ok h0
  have ht := slF_ok h1
  have hN1 := fun w' h => l4Node_6 v l f (2 * q) w' (hv.below (w' := w') h) (by have := hs.len; omega) hs.fin (by have := HF.out; show f = 2 * q * 64; omega) (by omega)
  have hN2 := fun w' h => l4Node_6 v l (f + 64) (2 * q + 1) w' (hv.below (w' := w') h) (by have := hs.len; omega) hs.fin (by have := HF.out; show f + 64 = (2 * q + 1) * 64; omega) (by omega)
  have hN3 := fun w' h => l4Node_6 u m f (2 * q) w' (hu.below (w' := w') h) (by have := ht.len; omega) ht.fin (by have := HF.out; show f = 2 * q * 64; omega) (by omega)
  have hN4 := fun w' h => l4Node_6 u m (f + 64) (2 * q + 1) w' (hu.below (w' := w') h) (by have := ht.len; omega) ht.fin (by have := HF.out; show f + 64 = (2 * q + 1) * 64; omega) (by omega)
  have hL := fun w => l5Nodes_any (nd l 6 (2 * q)) (nd l 6 (2 * q + 1)) (nd m 6 (2 * q)) (nd m 6 (2 * q + 1)) w (nd_bd _ _ _) (nd_bd _ _ _) (nd_bd _ _ _) (nd_bd _ _ _)
  rw [show tagL 2 [nd l 6 (2 * q), nd l 6 (2 * q + 1)] = ptL l 7 q from rfl, show tagL 2 [nd m 6 (2 * q), nd m 6 (2 * q + 1)] = ptL m 7 q from rfl, hf] at hL
  generalize ptL l 7 q = xs at *
  generalize ptL m 7 q = ys at *
  generalize nd l 6 (2 * q) = x1 at *
  generalize nd l 6 (2 * q + 1) = x2 at *
  generalize nd m 6 (2 * q) = x3 at *
  generalize nd m 6 (2 * q + 1) = x4 at *
  obtain ⟨a, c, rfl⟩ := hv.shape
  obtain ⟨a', c', rfl⟩ := hu.shape
  generalize l.length = ln at *
  generalize m.length = mn at *
  have hr0 := R0.new w
  clear hv hu hs ht h0 h1
  go_enter Tryz.func77, Tryz.ntmps77
  go_wp2_with fail
  refine (hN1 _ (one_new _)).mono ?_
  rintro e w1 ⟨rfl, hb1⟩
  have hB1 := below_after_of (one_new _) hb1
  have hr1 := hr0.below hb1
  clear hN1 hb1 hr0
  go_wp2_with fail
  refine (hN2 _ hB1).mono ?_
  rintro e w2 ⟨rfl, hb2⟩
  have hB2 := below_after_of hB1 hb2
  have hr2 := hr1.below hb2
  clear hN2 hb2 hr1 hB1
  go_wp2_with fail
  refine (hN3 _ hB2).mono ?_
  rintro e w3 ⟨rfl, hb3⟩
  have hB3 := below_after_of hB2 hb3
  have hr3 := hr2.below hb3
  clear hN3 hb3 hr2 hB2
  go_wp2_with fail
  refine (hN4 _ hB3).mono ?_
  rintro e w4 ⟨rfl, hb4⟩
  have hB4 := below_after_of hB3 hb4
  have hr4 := hr3.below hb4
  clear hN4 hb4 hr3 hB3
  go_wp2_with fail
  refine (hL _).mono ?_
  rintro e w5 ⟨hb5, a5, n5, c5, a6, n6, c6, rfl, hr5⟩
  have hB5 := below_after_of hB4 hb5
  have hR5 := hr4.below hb5
  have hlt4 := hr4.lt
  have HR5 : Hid (Rows2 w4 w5 (.slice a5 n5 c5) (.slice a6 n6 c6) true xs ys) := hr5
  have hlt5 := hR5.lt
  have hNW := one_new (w := w5) (.cells #[.bool true, .slice a5 n5 c5, .slice a6 n6 c6] 33)
  have hRW := hR5.below hNW
  have hCW : (w5.alloc (.cells #[.bool true, .slice a5 n5 c5, .slice a6 n6 c6] 33)).heap[w5.heap.size]? = some (.cells #[.bool true, .slice a5 n5 c5, .slice a6 n6 c6] 33) := heap_alloc_new w5 _
  obtain ⟨k0, k1, k2, f0, f1, f2⟩ := three_cellsV hR5.h
  obtain ⟨k0', k1', k2', f0', f1', f2'⟩ := three_cellsV hRW.h
  have hBW := below_after_of hB5 hNW
  clear hL hb5 hr4 hr5
  go_wp2
  exact bodyPost_ret (v := .agg #[.bool true, .slice a5 n5 c5, .slice a6 n6 c6]) (by simp [results, Tryz.results77, go_sem, *]) rfl ⟨(((hB5.setCell (Nat.le_refl _) _).setCell (Nat.le_refl _) _).setCell (Nat.le_refl _) _).alloc (((hB5.setCell (Nat.le_refl _) _).setCell (Nat.le_refl _) _).setCell (Nat.le_refl _) _).size _, _, _, _, _, _, _, rfl, ((((HR5.out.set hlt4 _ _).set hlt4 _ _).set hlt4 _ _).below (one_new _)).under hB4.size⟩
set_option maxRecDepth 100000 in
set_option maxHeartbeats 2000000 in
theorem o8_miss_7 {l m : Prl} {f q : Int} (h0 : slF l = 0) (h1 : slF m = 0) (HF : Hid (f = q * 128)) (hq : 0 ≤ f ∧ f ≤ 255) (hf : l2B (ptL l 7 q) (ptL m 7 q) = false) (o0 o1 : Ck) (r0 : O8At l m 6 f o0) (r1 : O8At l m 6 (f + 64) o1) : O8At l m 7 f (ckOr o0 o1) := by
  refine ⟨fun v u w hv hu => ?_⟩
  have hs := slF_ok h0
  have ht := slF_ok h1
  have hN1 := fun w' h => l4Node_6 v l f (2 * q) w' (hv.below (w' := w') h) (by have := hs.len; omega) hs.fin (by have := HF.out; show f = 2 * q * 64; omega) (by omega)
  have hN2 := fun w' h => l4Node_6 v l (f + 64) (2 * q + 1) w' (hv.below (w' := w') h) (by have := hs.len; omega) hs.fin (by have := HF.out; show f + 64 = (2 * q + 1) * 64; omega) (by omega)
  have hN3 := fun w' h => l4Node_6 u m f (2 * q) w' (hu.below (w' := w') h) (by have := ht.len; omega) ht.fin (by have := HF.out; show f = 2 * q * 64; omega) (by omega)
  have hN4 := fun w' h => l4Node_6 u m (f + 64) (2 * q + 1) w' (hu.below (w' := w') h) (by have := ht.len; omega) ht.fin (by have := HF.out; show f + 64 = (2 * q + 1) * 64; omega) (by omega)
  have hL := fun w => l5Nodes_any (nd l 6 (2 * q)) (nd l 6 (2 * q + 1)) (nd m 6 (2 * q)) (nd m 6 (2 * q + 1)) w (nd_bd _ _ _) (nd_bd _ _ _) (nd_bd _ _ _) (nd_bd _ _ _)
  rw [show tagL 2 [nd l 6 (2 * q), nd l 6 (2 * q + 1)] = ptL l 7 q from rfl, show tagL 2 [nd m 6 (2 * q), nd m 6 (2 * q + 1)] = ptL m 7 q from rfl, hf] at hL
  generalize ptL l 7 q = xs at *
  generalize ptL m 7 q = ys at *
  generalize nd l 6 (2 * q) = x1 at *
  generalize nd l 6 (2 * q + 1) = x2 at *
  generalize nd m 6 (2 * q) = x3 at *
  generalize nd m 6 (2 * q + 1) = x4 at *
  have hR0 : ∀ w', Below w.heap.size w w' → Calls Tryz.prog 77 #[v, u, .int .i64 f, .int .i64 6] w' fun e w'' => OkAns w' o0 e w'' := fun w' h => r0.c v u w' (hv.below (w' := w') h) (hu.below h)
  have hR1 : ∀ w', Below w.heap.size w w' → Calls Tryz.prog 77 #[v, u, .int .i64 (f + 64), .int .i64 6] w' fun e w'' => OkAns w' o1 e w'' := fun w' h => r1.c v u w' (hv.below (w' := w') h) (hu.below h)
  obtain ⟨a, c, rfl⟩ := hv.shape
  obtain ⟨a', c', rfl⟩ := hu.shape
  generalize l.length = ln at *
  generalize m.length = mn at *
  have hr0 := R0.new w
  clear hv hu hs ht h0 h1
  go_enter Tryz.func77, Tryz.ntmps77
  go_wp2_with fail
  refine (hN1 _ (one_new _)).mono ?_
  rintro e w1 ⟨rfl, hb1⟩
  have hB1 := below_after_of (one_new _) hb1
  have hr1 := hr0.below hb1
  clear hN1 hb1 hr0
  go_wp2_with fail
  refine (hN2 _ hB1).mono ?_
  rintro e w2 ⟨rfl, hb2⟩
  have hB2 := below_after_of hB1 hb2
  have hr2 := hr1.below hb2
  clear hN2 hb2 hr1 hB1
  go_wp2_with fail
  refine (hN3 _ hB2).mono ?_
  rintro e w3 ⟨rfl, hb3⟩
  have hB3 := below_after_of hB2 hb3
  have hr3 := hr2.below hb3
  clear hN3 hb3 hr2 hB2
  go_wp2_with fail
  refine (hN4 _ hB3).mono ?_
  rintro e w4 ⟨rfl, hb4⟩
  have hB4 := below_after_of hB3 hb4
  have hr4 := hr3.below hb4
  clear hN4 hb4 hr3 hB3
  go_wp2_with fail
  refine (hL _).mono ?_
  rintro e w5 ⟨hb5, a5, n5, c5, a6, n6, c6, rfl, hr5⟩
  have hB5 := below_after_of hB4 hb5
  have hR5 := hr4.below hb5
  have hlt4 := hr4.lt
  have HR5 : Hid (Rows2 w4 w5 (.slice a5 n5 c5) (.slice a6 n6 c6) false xs ys) := hr5
  have hlt5 := hR5.lt
  have hNW := one_new (w := w5) (.cells #[.bool false, .slice a5 n5 c5, .slice a6 n6 c6] 33)
  have hRW := hR5.below hNW
  have hCW : (w5.alloc (.cells #[.bool false, .slice a5 n5 c5, .slice a6 n6 c6] 33)).heap[w5.heap.size]? = some (.cells #[.bool false, .slice a5 n5 c5, .slice a6 n6 c6] 33) := heap_alloc_new w5 _
  obtain ⟨k0, k1, k2, f0, f1, f2⟩ := three_cellsV hR5.h
  obtain ⟨k0', k1', k2', f0', f1', f2'⟩ := three_cellsV hRW.h
  have hBW := below_after_of hB5 hNW
  clear hL hb5 hr4 hr5
  go_wp2_with fail
  refine (hR0 _ hBW).mono ?_
  rintro e w7 ⟨hb7, a7, n7, c7, a8, n8, c8, rfl, hr7⟩
  have hB7 := below_after_of hBW hb7
  have hR7 := hRW.below hb7
  have hltW := hRW.lt
  have hC7 := (hb7.block w5.heap.size (by simp)).trans hCW
  have hz5 : w5.heap.size < (w5.alloc (.cells #[.bool false, .slice a5 n5 c5, .slice a6 n6 c6] 33)).heap.size := by simp
  have hlw : w.heap.size < w5.heap.size := hlt5
  obtain ⟨W, hW⟩ : ∃ W, W = w5.alloc (.cells #[.bool false, .slice a5 n5 c5, .slice a6 n6 c6] 33) := ⟨_, rfl⟩
  rw [← hW] at hb7 hr7 hltW hz5
  have hBW' : Below w.heap.size w W := by rw [hW]; exact hBW
  have HR7 : Hid (Rows2 W w7 (.slice a7 n7 c7) (.slice a8 n8 c8) (opF o0) (op1 o0) (op2 o0)) := hr7
  obtain ⟨j0, j1, j2, g0, g1, g2⟩ := three_cellsV hR7.h
  obtain ⟨t0, t1, t2, s0, s1, s2⟩ := three_cellsV hC7
  have hlt7 : w5.heap.size < w7.heap.size := Nat.lt_of_lt_of_le hz5 hb7.size
  clear hR0 hr7 hb7 hW k0 k1 k2 f0 f1 f2 k0' k1' k2' f0' f1' f2' hCW hNW
  rcases o0 with _ | ⟨ls, bs⟩
  · have eo : opF (none : Ck) = false := rfl
    rw [eo]
    have hB8 : Below w.heap.size w (((w7.setCell ⟨w5.heap.size, 0, none⟩ (.bool false)).setCell ⟨w5.heap.size, 1, none⟩ (.slice a7 n7 c7)).setCell ⟨w5.heap.size, 2, none⟩ (.slice a8 n8 c8)) := ((hB7.setCell (by show w.heap.size ≤ w5.heap.size; omega) _).setCell (by show w.heap.size ≤ w5.heap.size; omega) _).setCell (by show w.heap.size ≤ w5.heap.size; omega) _
    have hR8 : R0 (((w7.setCell ⟨w5.heap.size, 0, none⟩ (.bool false)).setCell ⟨w5.heap.size, 1, none⟩ (.slice a7 n7 c7)).setCell ⟨w5.heap.size, 2, none⟩ (.slice a8 n8 c8)) w.heap.size := by
      refine ⟨?_⟩
      rw [heap_setCell_other _ _ _ _ (by show w.heap.size ≠ w5.heap.size; omega), heap_setCell_other _ _ _ _ (by show w.heap.size ≠ w5.heap.size; omega), heap_setCell_other _ _ _ _ (by show w.heap.size ≠ w5.heap.size; omega)]
      exact hR7.h
    go_wp2_with fail
    refine (hR1 _ hB8).mono ?_
    rintro e x7 ⟨hb11, a11, n11, c11, a12, n12, c12, rfl, hr11⟩
    have hB11 := below_after_of hB8 hb11
    have hR11 := hR8.below hb11
    have hlt8 := hR8.lt
    have HR11 : Hid (Rows2 _ x7 (.slice a11 n11 c11) (.slice a12 n12 c12) (opF o1) (op1 o1) (op2 o1)) := hr11
    have HZ8 := hB8.size
    obtain ⟨i0, i1, i2, y0, y1, y2⟩ := three_cellsV hR11.h
    generalize hof : opF o1 = fo at *
    clear hr11 hb11 hR1 j0 j1 j2 g0 g1 g2 t0 t1 t2 s0 s1 s2
    go_wp2
    refine bodyPost_ret (v := .agg #[.bool fo, .slice a11 n11 c11, .slice a12 n12 c12]) (by simp [results, Tryz.results77, go_sem, *]) rfl ?_
    show ClAns w (opF o1) (op1 o1) (op2 o1) _ _
    rw [hof]
    exact ⟨((hB11.setCell (Nat.le_refl _) _).setCell (Nat.le_refl _) _).setCell (Nat.le_refl _) _, _, _, _, _, _, _, rfl, (((HR11.out.set hlt8 _ _).set hlt8 _ _).set hlt8 _ _).under HZ8⟩
  · have eo : opF (some (ls, bs) : Ck) = true := rfl
    rw [eo]
    clear hR1
    have hle : w.heap.size ≤ w5.heap.size := by omega
    go_wp2
    exact bodyPost_ret (v := .agg #[.bool true, .slice a7 n7 c7, .slice a8 n8 c8]) (by simp [results, Tryz.results77, go_sem, *]) rfl ⟨(((((hB7.setCell hle _).setCell hle _).setCell hle _).setCell (Nat.le_refl _) _).setCell (Nat.le_refl _) _).setCell (Nat.le_refl _) _, _, _, _, _, _, _, rfl, ((((((HR7.out.set hz5 _ _).set hz5 _ _).set hz5 _ _).set hltW _ _).set hltW _ _).set hltW _ _).under hBW'.size⟩
set_option maxRecDepth 100000 in
set_option maxHeartbeats 2000000 in
theorem o8_hit_8 {l m : Prl} {f q : Int} (h0 : slF l = 0) (h1 : slF m = 0) (HF : Hid (f = q * 256)) (hq : 0 ≤ f ∧ f ≤ 255) (hf : l2B (ptL l 8 q) (ptL m 8 q) = true) : O8At l m 8 f (some (ptL l 8 q, ptL m 8 q)) := by
  refine ⟨fun v u w hv hu => ?_⟩
  have hs := slF_ok h0
  have ht := slF_ok h1
  have hN1 := fun w' h => l4Node_7 v l f (2 * q) w' (hv.below (w' := w') h) (by have := hs.len; omega) hs.fin (by have := HF.out; show f = 2 * q * 128; omega) (by omega)
  have hN2 := fun w' h => l4Node_7 v l (f + 128) (2 * q + 1) w' (hv.below (w' := w') h) (by have := hs.len; omega) hs.fin (by have := HF.out; show f + 128 = (2 * q + 1) * 128; omega) (by omega)
  have hN3 := fun w' h => l4Node_7 u m f (2 * q) w' (hu.below (w' := w') h) (by have := ht.len; omega) ht.fin (by have := HF.out; show f = 2 * q * 128; omega) (by omega)
  have hN4 := fun w' h => l4Node_7 u m (f + 128) (2 * q + 1) w' (hu.below (w' := w') h) (by have := ht.len; omega) ht.fin (by have := HF.out; show f + 128 = (2 * q + 1) * 128; omega) (by omega)
  have hL := fun w => l5Nodes_any (nd l 7 (2 * q)) (nd l 7 (2 * q + 1)) (nd m 7 (2 * q)) (nd m 7 (2 * q + 1)) w (nd_bd _ _ _) (nd_bd _ _ _) (nd_bd _ _ _) (nd_bd _ _ _)
  rw [show tagL 2 [nd l 7 (2 * q), nd l 7 (2 * q + 1)] = ptL l 8 q from rfl, show tagL 2 [nd m 7 (2 * q), nd m 7 (2 * q + 1)] = ptL m 8 q from rfl, hf] at hL
  generalize ptL l 8 q = xs at *
  generalize ptL m 8 q = ys at *
  generalize nd l 7 (2 * q) = x1 at *
  generalize nd l 7 (2 * q + 1) = x2 at *
  generalize nd m 7 (2 * q) = x3 at *
  generalize nd m 7 (2 * q + 1) = x4 at *
  obtain ⟨a, c, rfl⟩ := hv.shape
  obtain ⟨a', c', rfl⟩ := hu.shape
  generalize l.length = ln at *
  generalize m.length = mn at *
  have hr0 := R0.new w
  clear hv hu hs ht h0 h1
  go_enter Tryz.func77, Tryz.ntmps77
  go_wp2_with fail
  refine (hN1 _ (one_new _)).mono ?_
  rintro e w1 ⟨rfl, hb1⟩
  have hB1 := below_after_of (one_new _) hb1
  have hr1 := hr0.below hb1
  clear hN1 hb1 hr0
  go_wp2_with fail
  refine (hN2 _ hB1).mono ?_
  rintro e w2 ⟨rfl, hb2⟩
  have hB2 := below_after_of hB1 hb2
  have hr2 := hr1.below hb2
  clear hN2 hb2 hr1 hB1
  go_wp2_with fail
  refine (hN3 _ hB2).mono ?_
  rintro e w3 ⟨rfl, hb3⟩
  have hB3 := below_after_of hB2 hb3
  have hr3 := hr2.below hb3
  clear hN3 hb3 hr2 hB2
  go_wp2_with fail
  refine (hN4 _ hB3).mono ?_
  rintro e w4 ⟨rfl, hb4⟩
  have hB4 := below_after_of hB3 hb4
  have hr4 := hr3.below hb4
  clear hN4 hb4 hr3 hB3
  go_wp2_with fail
  refine (hL _).mono ?_
  rintro e w5 ⟨hb5, a5, n5, c5, a6, n6, c6, rfl, hr5⟩
  have hB5 := below_after_of hB4 hb5
  have hR5 := hr4.below hb5
  have hlt4 := hr4.lt
  have HR5 : Hid (Rows2 w4 w5 (.slice a5 n5 c5) (.slice a6 n6 c6) true xs ys) := hr5
  have hlt5 := hR5.lt
  have hNW := one_new (w := w5) (.cells #[.bool true, .slice a5 n5 c5, .slice a6 n6 c6] 33)
  have hRW := hR5.below hNW
  have hCW : (w5.alloc (.cells #[.bool true, .slice a5 n5 c5, .slice a6 n6 c6] 33)).heap[w5.heap.size]? = some (.cells #[.bool true, .slice a5 n5 c5, .slice a6 n6 c6] 33) := heap_alloc_new w5 _
  obtain ⟨k0, k1, k2, f0, f1, f2⟩ := three_cellsV hR5.h
  obtain ⟨k0', k1', k2', f0', f1', f2'⟩ := three_cellsV hRW.h
  have hBW := below_after_of hB5 hNW
  clear hL hb5 hr4 hr5
  go_wp2
  exact bodyPost_ret (v := .agg #[.bool true, .slice a5 n5 c5, .slice a6 n6 c6]) (by simp [results, Tryz.results77, go_sem, *]) rfl ⟨(((hB5.setCell (Nat.le_refl _) _).setCell (Nat.le_refl _) _).setCell (Nat.le_refl _) _).alloc (((hB5.setCell (Nat.le_refl _) _).setCell (Nat.le_refl _) _).setCell (Nat.le_refl _) _).size _, _, _, _, _, _, _, rfl, ((((HR5.out.set hlt4 _ _).set hlt4 _ _).set hlt4 _ _).below (one_new _)).under hB4.size⟩
set_option maxRecDepth 100000 in
set_option maxHeartbeats 2000000 in
theorem o8_miss_8 {l m : Prl} {f q : Int} (h0 : slF l = 0) (h1 : slF m = 0) (HF : Hid (f = q * 256)) (hq : 0 ≤ f ∧ f ≤ 255) (hf : l2B (ptL l 8 q) (ptL m 8 q) = false) (o0 o1 : Ck) (r0 : O8At l m 7 f o0) (r1 : O8At l m 7 (f + 128) o1) : O8At l m 8 f (ckOr o0 o1) := by
  refine ⟨fun v u w hv hu => ?_⟩
  have hs := slF_ok h0
  have ht := slF_ok h1
  have hN1 := fun w' h => l4Node_7 v l f (2 * q) w' (hv.below (w' := w') h) (by have := hs.len; omega) hs.fin (by have := HF.out; show f = 2 * q * 128; omega) (by omega)
  have hN2 := fun w' h => l4Node_7 v l (f + 128) (2 * q + 1) w' (hv.below (w' := w') h) (by have := hs.len; omega) hs.fin (by have := HF.out; show f + 128 = (2 * q + 1) * 128; omega) (by omega)
  have hN3 := fun w' h => l4Node_7 u m f (2 * q) w' (hu.below (w' := w') h) (by have := ht.len; omega) ht.fin (by have := HF.out; show f = 2 * q * 128; omega) (by omega)
  have hN4 := fun w' h => l4Node_7 u m (f + 128) (2 * q + 1) w' (hu.below (w' := w') h) (by have := ht.len; omega) ht.fin (by have := HF.out; show f + 128 = (2 * q + 1) * 128; omega) (by omega)
  have hL := fun w => l5Nodes_any (nd l 7 (2 * q)) (nd l 7 (2 * q + 1)) (nd m 7 (2 * q)) (nd m 7 (2 * q + 1)) w (nd_bd _ _ _) (nd_bd _ _ _) (nd_bd _ _ _) (nd_bd _ _ _)
  rw [show tagL 2 [nd l 7 (2 * q), nd l 7 (2 * q + 1)] = ptL l 8 q from rfl, show tagL 2 [nd m 7 (2 * q), nd m 7 (2 * q + 1)] = ptL m 8 q from rfl, hf] at hL
  generalize ptL l 8 q = xs at *
  generalize ptL m 8 q = ys at *
  generalize nd l 7 (2 * q) = x1 at *
  generalize nd l 7 (2 * q + 1) = x2 at *
  generalize nd m 7 (2 * q) = x3 at *
  generalize nd m 7 (2 * q + 1) = x4 at *
  have hR0 : ∀ w', Below w.heap.size w w' → Calls Tryz.prog 77 #[v, u, .int .i64 f, .int .i64 7] w' fun e w'' => OkAns w' o0 e w'' := fun w' h => r0.c v u w' (hv.below (w' := w') h) (hu.below h)
  have hR1 : ∀ w', Below w.heap.size w w' → Calls Tryz.prog 77 #[v, u, .int .i64 (f + 128), .int .i64 7] w' fun e w'' => OkAns w' o1 e w'' := fun w' h => r1.c v u w' (hv.below (w' := w') h) (hu.below h)
  obtain ⟨a, c, rfl⟩ := hv.shape
  obtain ⟨a', c', rfl⟩ := hu.shape
  generalize l.length = ln at *
  generalize m.length = mn at *
  have hr0 := R0.new w
  clear hv hu hs ht h0 h1
  go_enter Tryz.func77, Tryz.ntmps77
  go_wp2_with fail
  refine (hN1 _ (one_new _)).mono ?_
  rintro e w1 ⟨rfl, hb1⟩
  have hB1 := below_after_of (one_new _) hb1
  have hr1 := hr0.below hb1
  clear hN1 hb1 hr0
  go_wp2_with fail
  refine (hN2 _ hB1).mono ?_
  rintro e w2 ⟨rfl, hb2⟩
  have hB2 := below_after_of hB1 hb2
  have hr2 := hr1.below hb2
  clear hN2 hb2 hr1 hB1
  go_wp2_with fail
  refine (hN3 _ hB2).mono ?_
  rintro e w3 ⟨rfl, hb3⟩
  have hB3 := below_after_of hB2 hb3
  have hr3 := hr2.below hb3
  clear hN3 hb3 hr2 hB2
  go_wp2_with fail
  refine (hN4 _ hB3).mono ?_
  rintro e w4 ⟨rfl, hb4⟩
  have hB4 := below_after_of hB3 hb4
  have hr4 := hr3.below hb4
  clear hN4 hb4 hr3 hB3
  go_wp2_with fail
  refine (hL _).mono ?_
  rintro e w5 ⟨hb5, a5, n5, c5, a6, n6, c6, rfl, hr5⟩
  have hB5 := below_after_of hB4 hb5
  have hR5 := hr4.below hb5
  have hlt4 := hr4.lt
  have HR5 : Hid (Rows2 w4 w5 (.slice a5 n5 c5) (.slice a6 n6 c6) false xs ys) := hr5
  have hlt5 := hR5.lt
  have hNW := one_new (w := w5) (.cells #[.bool false, .slice a5 n5 c5, .slice a6 n6 c6] 33)
  have hRW := hR5.below hNW
  have hCW : (w5.alloc (.cells #[.bool false, .slice a5 n5 c5, .slice a6 n6 c6] 33)).heap[w5.heap.size]? = some (.cells #[.bool false, .slice a5 n5 c5, .slice a6 n6 c6] 33) := heap_alloc_new w5 _
  obtain ⟨k0, k1, k2, f0, f1, f2⟩ := three_cellsV hR5.h
  obtain ⟨k0', k1', k2', f0', f1', f2'⟩ := three_cellsV hRW.h
  have hBW := below_after_of hB5 hNW
  clear hL hb5 hr4 hr5
  go_wp2_with fail
  refine (hR0 _ hBW).mono ?_
  rintro e w7 ⟨hb7, a7, n7, c7, a8, n8, c8, rfl, hr7⟩
  have hB7 := below_after_of hBW hb7
  have hR7 := hRW.below hb7
  have hltW := hRW.lt
  have hC7 := (hb7.block w5.heap.size (by simp)).trans hCW
  have hz5 : w5.heap.size < (w5.alloc (.cells #[.bool false, .slice a5 n5 c5, .slice a6 n6 c6] 33)).heap.size := by simp
  have hlw : w.heap.size < w5.heap.size := hlt5
  obtain ⟨W, hW⟩ : ∃ W, W = w5.alloc (.cells #[.bool false, .slice a5 n5 c5, .slice a6 n6 c6] 33) := ⟨_, rfl⟩
  rw [← hW] at hb7 hr7 hltW hz5
  have hBW' : Below w.heap.size w W := by rw [hW]; exact hBW
  have HR7 : Hid (Rows2 W w7 (.slice a7 n7 c7) (.slice a8 n8 c8) (opF o0) (op1 o0) (op2 o0)) := hr7
  obtain ⟨j0, j1, j2, g0, g1, g2⟩ := three_cellsV hR7.h
  obtain ⟨t0, t1, t2, s0, s1, s2⟩ := three_cellsV hC7
  have hlt7 : w5.heap.size < w7.heap.size := Nat.lt_of_lt_of_le hz5 hb7.size
  clear hR0 hr7 hb7 hW k0 k1 k2 f0 f1 f2 k0' k1' k2' f0' f1' f2' hCW hNW
  rcases o0 with _ | ⟨ls, bs⟩
  · have eo : opF (none : Ck) = false := rfl
    rw [eo]
    have hB8 : Below w.heap.size w (((w7.setCell ⟨w5.heap.size, 0, none⟩ (.bool false)).setCell ⟨w5.heap.size, 1, none⟩ (.slice a7 n7 c7)).setCell ⟨w5.heap.size, 2, none⟩ (.slice a8 n8 c8)) := ((hB7.setCell (by show w.heap.size ≤ w5.heap.size; omega) _).setCell (by show w.heap.size ≤ w5.heap.size; omega) _).setCell (by show w.heap.size ≤ w5.heap.size; omega) _
    have hR8 : R0 (((w7.setCell ⟨w5.heap.size, 0, none⟩ (.bool false)).setCell ⟨w5.heap.size, 1, none⟩ (.slice a7 n7 c7)).setCell ⟨w5.heap.size, 2, none⟩ (.slice a8 n8 c8)) w.heap.size := by
      refine ⟨?_⟩
      rw [heap_setCell_other _ _ _ _ (by show w.heap.size ≠ w5.heap.size; omega), heap_setCell_other _ _ _ _ (by show w.heap.size ≠ w5.heap.size; omega), heap_setCell_other _ _ _ _ (by show w.heap.size ≠ w5.heap.size; omega)]
      exact hR7.h
    go_wp2_with fail
    refine (hR1 _ hB8).mono ?_
    rintro e x7 ⟨hb11, a11, n11, c11, a12, n12, c12, rfl, hr11⟩
    have hB11 := below_after_of hB8 hb11
    have hR11 := hR8.below hb11
    have hlt8 := hR8.lt
    have HR11 : Hid (Rows2 _ x7 (.slice a11 n11 c11) (.slice a12 n12 c12) (opF o1) (op1 o1) (op2 o1)) := hr11
    have HZ8 := hB8.size
    obtain ⟨i0, i1, i2, y0, y1, y2⟩ := three_cellsV hR11.h
    generalize hof : opF o1 = fo at *
    clear hr11 hb11 hR1 j0 j1 j2 g0 g1 g2 t0 t1 t2 s0 s1 s2
    go_wp2
    refine bodyPost_ret (v := .agg #[.bool fo, .slice a11 n11 c11, .slice a12 n12 c12]) (by simp [results, Tryz.results77, go_sem, *]) rfl ?_
    show ClAns w (opF o1) (op1 o1) (op2 o1) _ _
    rw [hof]
    exact ⟨((hB11.setCell (Nat.le_refl _) _).setCell (Nat.le_refl _) _).setCell (Nat.le_refl _) _, _, _, _, _, _, _, rfl, (((HR11.out.set hlt8 _ _).set hlt8 _ _).set hlt8 _ _).under HZ8⟩
  · have eo : opF (some (ls, bs) : Ck) = true := rfl
    rw [eo]
    clear hR1
    have hle : w.heap.size ≤ w5.heap.size := by omega
    go_wp2
    exact bodyPost_ret (v := .agg #[.bool true, .slice a7 n7 c7, .slice a8 n8 c8]) (by simp [results, Tryz.results77, go_sem, *]) rfl ⟨(((((hB7.setCell hle _).setCell hle _).setCell hle _).setCell (Nat.le_refl _) _).setCell (Nat.le_refl _) _).setCell (Nat.le_refl _) _, _, _, _, _, _, _, rfl, ((((((HR7.out.set hz5 _ _).set hz5 _ _).set hz5 _ _).set hltW _ _).set hltW _ _).set hltW _ _).under hBW'.size⟩
end U
end Go.Proofs.YtljbcpkjhnbpeaaGreatDoor

/- A clash in two old trees: the walk whole, by the program and by the model. -/
namespace Go.Proofs.YtljbcpkjhnbpeaaGreatDoor
open Go.RowKit
namespace U
theorem box1_cellO {w : World} {b : Nat} {v : Value} {t : TypeId} (h : w.heap[b]? = some (.cells #[v] t (0, 0))) : w.cell? ⟨b, 0, none⟩ = some v := by unfold World.cell?; rw [h]; rfl
theorem otc_zero (l m : Prl) (q : Int) : otc l m 0 q = ckO (ptL l 0 q) (ptL m 0 q) := rfl
theorem otc_hit {l m : Prl} {n : Nat} {q : Int} (h : l2B (ptL l (n + 1) q) (ptL m (n + 1) q) = true) : otc l m (n + 1) q = some (ptL l (n + 1) q, ptL m (n + 1) q) := by
  show (if l2B (optL l n q) (optL m n q) = true then _ else _) = _
  rw [if_pos (show l2B (optL l n q) (optL m n q) = true from h)]
  rfl
theorem otc_miss {l m : Prl} {n : Nat} {q : Int} (h : l2B (ptL l (n + 1) q) (ptL m (n + 1) q) = false) : otc l m (n + 1) q = ckOr (otc l m n (2 * q)) (otc l m n (2 * q + 1)) := by
  show (if l2B (optL l n q) (optL m n q) = true then _ else _) = _
  rw [if_neg (by rw [show l2B (optL l n q) (optL m n q) = false from h]; decide)]
  rfl
theorem otc_out {l m : Prl} (h0 : slF l = 0) (h1 : slF m = 0) : ∀ (n : Nat) (q : Int) {xs ys : List Int}, 0 ≤ q → (q + 1) * (2 ^ n : Nat) ≤ 256 → otc l m n q = some (xs, ys) → l2B xs ys = true ∧ (Bts xs ∧ xs.length ≤ 200) ∧ (Bts ys ∧ ys.length ≤ 200) := by
  intro n
  induction n with
  | zero =>
    intro q xs ys hq hb e
    have hq2 : 0 ≤ q ∧ q ≤ 255 := by simp at hb; omega
    rw [otc_zero] at e
    rcases Bool.eq_false_or_eq_true (l2B (ptL l 0 q) (ptL m 0 q)) with h | h
    · rw [ckO_yes h] at e
      cases e
      exact ⟨h, ptL_ok h0 0 (fun _ => hq2), ptL_ok h1 0 (fun _ => hq2)⟩
    · rw [ckO_no h] at e; cases e
  | succ n ih =>
    intro q xs ys hq hb e
    rcases Bool.eq_false_or_eq_true (l2B (ptL l (n + 1) q) (ptL m (n + 1) q)) with h | h
    · rw [otc_hit h] at e
      cases e
      exact ⟨h, ptL_ok h0 (n + 1) (fun h => by cases h), ptL_ok h1 (n + 1) (fun h => by cases h)⟩
    · rw [otc_miss h] at e
      have hp : ((2 ^ (n + 1) : Nat) : Int) = 2 * ((2 ^ n : Nat) : Int) := by rw [Nat.pow_succ]; omega
      have hp0 : (0 : Int) < ((2 ^ n : Nat) : Int) := pow_pos n
      rw [hp] at hb
      generalize ((2 ^ n : Nat) : Int) = P at *
      have hb2 : 2 * (q * P) + 2 * P ≤ 256 := by
        have : (q + 1) * (2 * P) = 2 * (q * P) + 2 * P := by rw [Int.add_mul, Int.one_mul, Int.mul_left_comm]
        omega
      rcases hh : otc l m n (2 * q) with _ | ⟨x1, x2⟩
      · rw [hh, ckOr_none] at e
        refine ih (2 * q + 1) (by omega) ?_ e
        have : (2 * q + 1 + 1) * P = 2 * (q * P) + 2 * P := by rw [show 2 * q + 1 + 1 = 2 * (q + 1) by omega, Int.mul_assoc, Int.add_mul, Int.one_mul, Int.mul_add]
        omega
      · rw [hh, ckOr_some] at e
        cases e
        refine ih (2 * q) (by omega) ?_ hh
        have : (2 * q + 1) * P = 2 * (q * P) + P := by rw [Int.add_mul, Int.one_mul, Int.mul_assoc]
        omega
theorem ow_L0 {l m : Prl} (h0 : slF l = 0) (h1 : slF m = 0) {f q : Int} (e : f = q * 1) (hq : 0 ≤ f ∧ f + 1 ≤ 256) : OwAt l m 0 f (otc l m 0 q) := by
  have ef : f = q := by omega
  subst ef
  have hq2 : 0 ≤ f ∧ f ≤ 255 := by omega
  rw [otc_zero]
  rcases Bool.eq_false_or_eq_true (l2B (ptL l 0 f) (ptL m 0 f)) with h | h
  · rw [ckO_yes h]; exact ow_hit (partBytes_0 h0 hq2) (partBytes_0 h1 hq2) (ptL_ok h0 0 (fun _ => hq2)) (ptL_ok h1 0 (fun _ => hq2)) h
  · rw [ckO_no h]; exact ow_miss_0 (partBytes_0 h0 hq2) (partBytes_0 h1 hq2) (ptL_ok h0 0 (fun _ => hq2)) (ptL_ok h1 0 (fun _ => hq2)) h
theorem o8_L0 {l m : Prl} (h0 : slF l = 0) (h1 : slF m = 0) {f q : Int} (e : f = q * 1) (hq : 0 ≤ f ∧ f + 1 ≤ 256) : O8At l m 0 f (otc l m 0 q) := by
  have ef : f = q := by omega
  subst ef
  rw [otc_zero]
  exact o8_0 h0 h1 (by omega)
theorem ow_L1 {l m : Prl} (h0 : slF l = 0) (h1 : slF m = 0) {f q : Int} (e : f = q * 2) (hq : 0 ≤ f ∧ f + 2 ≤ 256) : OwAt l m 1 f (otc l m 1 q) := by
  have pa := partBytes_1 (l := l) (f := f) (q := q) h0 e (by omega)
  have pb := partBytes_1 (l := m) (f := f) (q := q) h1 e (by omega)
  have oa := ptL_ok (l := l) h0 1 (q := q) (fun h => by cases h)
  have ob := ptL_ok (l := m) h1 1 (q := q) (fun h => by cases h)
  rcases Bool.eq_false_or_eq_true (l2B (ptL l 1 q) (ptL m 1 q)) with h | h
  · rw [otc_hit h]; exact ow_hit pa pb oa ob h
  · rw [otc_miss h]; exact ow_miss_1 pa pb oa ob h (by omega) _ _ (ow_L0 h0 h1 (by omega) (by omega)) (ow_L0 h0 h1 (by omega) (by omega))
theorem o8_L1 {l m : Prl} (h0 : slF l = 0) (h1 : slF m = 0) {f q : Int} (e : f = q * 2) (hq : 0 ≤ f ∧ f + 2 ≤ 256) : O8At l m 1 f (otc l m 1 q) := by
  rcases Bool.eq_false_or_eq_true (l2B (ptL l 1 q) (ptL m 1 q)) with h | h
  · rw [otc_hit h]; exact o8_hit_1 h0 h1 e (by omega) h
  · rw [otc_miss h]; exact o8_miss_1 h0 h1 e (by omega) h _ _ (o8_L0 h0 h1 (by omega) (by omega)) (o8_L0 h0 h1 (by omega) (by omega))
theorem ow_L2 {l m : Prl} (h0 : slF l = 0) (h1 : slF m = 0) {f q : Int} (e : f = q * 4) (hq : 0 ≤ f ∧ f + 4 ≤ 256) : OwAt l m 2 f (otc l m 2 q) := by
  have pa := partBytes_2 (l := l) (f := f) (q := q) h0 e (by omega)
  have pb := partBytes_2 (l := m) (f := f) (q := q) h1 e (by omega)
  have oa := ptL_ok (l := l) h0 2 (q := q) (fun h => by cases h)
  have ob := ptL_ok (l := m) h1 2 (q := q) (fun h => by cases h)
  rcases Bool.eq_false_or_eq_true (l2B (ptL l 2 q) (ptL m 2 q)) with h | h
  · rw [otc_hit h]; exact ow_hit pa pb oa ob h
  · rw [otc_miss h]; exact ow_miss_2 pa pb oa ob h (by omega) _ _ (ow_L1 h0 h1 (by omega) (by omega)) (ow_L1 h0 h1 (by omega) (by omega))
theorem o8_L2 {l m : Prl} (h0 : slF l = 0) (h1 : slF m = 0) {f q : Int} (e : f = q * 4) (hq : 0 ≤ f ∧ f + 4 ≤ 256) : O8At l m 2 f (otc l m 2 q) := by
  rcases Bool.eq_false_or_eq_true (l2B (ptL l 2 q) (ptL m 2 q)) with h | h
  · rw [otc_hit h]; exact o8_hit_2 h0 h1 e (by omega) h
  · rw [otc_miss h]; exact o8_miss_2 h0 h1 e (by omega) h _ _ (o8_L1 h0 h1 (by omega) (by omega)) (o8_L1 h0 h1 (by omega) (by omega))
theorem ow_L3 {l m : Prl} (h0 : slF l = 0) (h1 : slF m = 0) {f q : Int} (e : f = q * 8) (hq : 0 ≤ f ∧ f + 8 ≤ 256) : OwAt l m 3 f (otc l m 3 q) := by
  have pa := partBytes_3 (l := l) (f := f) (q := q) h0 e (by omega)
  have pb := partBytes_3 (l := m) (f := f) (q := q) h1 e (by omega)
  have oa := ptL_ok (l := l) h0 3 (q := q) (fun h => by cases h)
  have ob := ptL_ok (l := m) h1 3 (q := q) (fun h => by cases h)
  rcases Bool.eq_false_or_eq_true (l2B (ptL l 3 q) (ptL m 3 q)) with h | h
  · rw [otc_hit h]; exact ow_hit pa pb oa ob h
  · rw [otc_miss h]; exact ow_miss_3 pa pb oa ob h (by omega) _ _ (ow_L2 h0 h1 (by omega) (by omega)) (ow_L2 h0 h1 (by omega) (by omega))
theorem o8_L3 {l m : Prl} (h0 : slF l = 0) (h1 : slF m = 0) {f q : Int} (e : f = q * 8) (hq : 0 ≤ f ∧ f + 8 ≤ 256) : O8At l m 3 f (otc l m 3 q) := by
  rcases Bool.eq_false_or_eq_true (l2B (ptL l 3 q) (ptL m 3 q)) with h | h
  · rw [otc_hit h]; exact o8_hit_3 h0 h1 e (by omega) h
  · rw [otc_miss h]; exact o8_miss_3 h0 h1 e (by omega) h _ _ (o8_L2 h0 h1 (by omega) (by omega)) (o8_L2 h0 h1 (by omega) (by omega))
theorem ow_L4 {l m : Prl} (h0 : slF l = 0) (h1 : slF m = 0) {f q : Int} (e : f = q * 16) (hq : 0 ≤ f ∧ f + 16 ≤ 256) : OwAt l m 4 f (otc l m 4 q) := by
  have pa := partBytes_4 (l := l) (f := f) (q := q) h0 e (by omega)
  have pb := partBytes_4 (l := m) (f := f) (q := q) h1 e (by omega)
  have oa := ptL_ok (l := l) h0 4 (q := q) (fun h => by cases h)
  have ob := ptL_ok (l := m) h1 4 (q := q) (fun h => by cases h)
  rcases Bool.eq_false_or_eq_true (l2B (ptL l 4 q) (ptL m 4 q)) with h | h
  · rw [otc_hit h]; exact ow_hit pa pb oa ob h
  · rw [otc_miss h]; exact ow_miss_4 pa pb oa ob h (by omega) _ _ (ow_L3 h0 h1 (by omega) (by omega)) (ow_L3 h0 h1 (by omega) (by omega))
theorem o8_L4 {l m : Prl} (h0 : slF l = 0) (h1 : slF m = 0) {f q : Int} (e : f = q * 16) (hq : 0 ≤ f ∧ f + 16 ≤ 256) : O8At l m 4 f (otc l m 4 q) := by
  rcases Bool.eq_false_or_eq_true (l2B (ptL l 4 q) (ptL m 4 q)) with h | h
  · rw [otc_hit h]; exact o8_hit_4 h0 h1 e (by omega) h
  · rw [otc_miss h]; exact o8_miss_4 h0 h1 e (by omega) h _ _ (o8_L3 h0 h1 (by omega) (by omega)) (o8_L3 h0 h1 (by omega) (by omega))
theorem ow_L5 {l m : Prl} (h0 : slF l = 0) (h1 : slF m = 0) {f q : Int} (e : f = q * 32) (hq : 0 ≤ f ∧ f + 32 ≤ 256) : OwAt l m 5 f (otc l m 5 q) := by
  have pa := partBytes_5 (l := l) (f := f) (q := q) h0 e (by omega)
  have pb := partBytes_5 (l := m) (f := f) (q := q) h1 e (by omega)
  have oa := ptL_ok (l := l) h0 5 (q := q) (fun h => by cases h)
  have ob := ptL_ok (l := m) h1 5 (q := q) (fun h => by cases h)
  rcases Bool.eq_false_or_eq_true (l2B (ptL l 5 q) (ptL m 5 q)) with h | h
  · rw [otc_hit h]; exact ow_hit pa pb oa ob h
  · rw [otc_miss h]; exact ow_miss_5 pa pb oa ob h (by omega) _ _ (ow_L4 h0 h1 (by omega) (by omega)) (ow_L4 h0 h1 (by omega) (by omega))
theorem o8_L5 {l m : Prl} (h0 : slF l = 0) (h1 : slF m = 0) {f q : Int} (e : f = q * 32) (hq : 0 ≤ f ∧ f + 32 ≤ 256) : O8At l m 5 f (otc l m 5 q) := by
  rcases Bool.eq_false_or_eq_true (l2B (ptL l 5 q) (ptL m 5 q)) with h | h
  · rw [otc_hit h]; exact o8_hit_5 h0 h1 e (by omega) h
  · rw [otc_miss h]; exact o8_miss_5 h0 h1 e (by omega) h _ _ (o8_L4 h0 h1 (by omega) (by omega)) (o8_L4 h0 h1 (by omega) (by omega))
theorem ow_L6 {l m : Prl} (h0 : slF l = 0) (h1 : slF m = 0) {f q : Int} (e : f = q * 64) (hq : 0 ≤ f ∧ f + 64 ≤ 256) : OwAt l m 6 f (otc l m 6 q) := by
  have pa := partBytes_6 (l := l) (f := f) (q := q) h0 e (by omega)
  have pb := partBytes_6 (l := m) (f := f) (q := q) h1 e (by omega)
  have oa := ptL_ok (l := l) h0 6 (q := q) (fun h => by cases h)
  have ob := ptL_ok (l := m) h1 6 (q := q) (fun h => by cases h)
  rcases Bool.eq_false_or_eq_true (l2B (ptL l 6 q) (ptL m 6 q)) with h | h
  · rw [otc_hit h]; exact ow_hit pa pb oa ob h
  · rw [otc_miss h]; exact ow_miss_6 pa pb oa ob h (by omega) _ _ (ow_L5 h0 h1 (by omega) (by omega)) (ow_L5 h0 h1 (by omega) (by omega))
theorem o8_L6 {l m : Prl} (h0 : slF l = 0) (h1 : slF m = 0) {f q : Int} (e : f = q * 64) (hq : 0 ≤ f ∧ f + 64 ≤ 256) : O8At l m 6 f (otc l m 6 q) := by
  rcases Bool.eq_false_or_eq_true (l2B (ptL l 6 q) (ptL m 6 q)) with h | h
  · rw [otc_hit h]; exact o8_hit_6 h0 h1 e (by omega) h
  · rw [otc_miss h]; exact o8_miss_6 h0 h1 e (by omega) h _ _ (o8_L5 h0 h1 (by omega) (by omega)) (o8_L5 h0 h1 (by omega) (by omega))
theorem ow_L7 {l m : Prl} (h0 : slF l = 0) (h1 : slF m = 0) {f q : Int} (e : f = q * 128) (hq : 0 ≤ f ∧ f + 128 ≤ 256) : OwAt l m 7 f (otc l m 7 q) := by
  have pa := partBytes_7 (l := l) (f := f) (q := q) h0 e (by omega)
  have pb := partBytes_7 (l := m) (f := f) (q := q) h1 e (by omega)
  have oa := ptL_ok (l := l) h0 7 (q := q) (fun h => by cases h)
  have ob := ptL_ok (l := m) h1 7 (q := q) (fun h => by cases h)
  rcases Bool.eq_false_or_eq_true (l2B (ptL l 7 q) (ptL m 7 q)) with h | h
  · rw [otc_hit h]; exact ow_hit pa pb oa ob h
  · rw [otc_miss h]; exact ow_miss_7 pa pb oa ob h (by omega) _ _ (ow_L6 h0 h1 (by omega) (by omega)) (ow_L6 h0 h1 (by omega) (by omega))
theorem o8_L7 {l m : Prl} (h0 : slF l = 0) (h1 : slF m = 0) {f q : Int} (e : f = q * 128) (hq : 0 ≤ f ∧ f + 128 ≤ 256) : O8At l m 7 f (otc l m 7 q) := by
  rcases Bool.eq_false_or_eq_true (l2B (ptL l 7 q) (ptL m 7 q)) with h | h
  · rw [otc_hit h]; exact o8_hit_7 h0 h1 e (by omega) h
  · rw [otc_miss h]; exact o8_miss_7 h0 h1 e (by omega) h _ _ (o8_L6 h0 h1 (by omega) (by omega)) (o8_L6 h0 h1 (by omega) (by omega))
theorem ow_L8 {l m : Prl} (h0 : slF l = 0) (h1 : slF m = 0) {f q : Int} (e : f = q * 256) (hq : 0 ≤ f ∧ f + 256 ≤ 256) : OwAt l m 8 f (otc l m 8 q) := by
  have pa := partBytes_8 (l := l) (f := f) (q := q) h0 e (by omega)
  have pb := partBytes_8 (l := m) (f := f) (q := q) h1 e (by omega)
  have oa := ptL_ok (l := l) h0 8 (q := q) (fun h => by cases h)
  have ob := ptL_ok (l := m) h1 8 (q := q) (fun h => by cases h)
  rcases Bool.eq_false_or_eq_true (l2B (ptL l 8 q) (ptL m 8 q)) with h | h
  · rw [otc_hit h]; exact ow_hit pa pb oa ob h
  · rw [otc_miss h]; exact ow_miss_8 pa pb oa ob h (by omega) _ _ (ow_L7 h0 h1 (by omega) (by omega)) (ow_L7 h0 h1 (by omega) (by omega))
theorem o8_L8 {l m : Prl} (h0 : slF l = 0) (h1 : slF m = 0) {f q : Int} (e : f = q * 256) (hq : 0 ≤ f ∧ f + 256 ≤ 256) : O8At l m 8 f (otc l m 8 q) := by
  rcases Bool.eq_false_or_eq_true (l2B (ptL l 8 q) (ptL m 8 q)) with h | h
  · rw [otc_hit h]; exact o8_hit_8 h0 h1 e (by omega) h
  · rw [otc_miss h]; exact o8_miss_8 h0 h1 e (by omega) h _ _ (o8_L7 h0 h1 (by omega) (by omega)) (o8_L7 h0 h1 (by omega) (by omega))
set_option maxRecDepth 100000 in
set_option maxHeartbeats 2000000 in
theorem oldTreesWalk_box (v u : Value) (l m : Prl) (w : World) (hv : Prs w v l) (hu : Prs w u m) : Calls Tryz.prog 73 #[v, u] w fun e w' => ∃ ba be bb bd, e = .returned (.func (.func 131) #[] #[.pointer (some ⟨bd, 0, none⟩)]) ∧ Below w.heap.size w w' ∧ OwB w' ba be bb bd v u := by
  have hE := fun w => emptySums_any w
  unfold arrA at hE
  obtain ⟨a, c, rfl⟩ := hv.shape
  obtain ⟨a', c', rfl⟩ := hu.shape
  generalize l.length = n at *
  generalize m.length = n' at *
  clear hv hu
  obtain ⟨W, hW⟩ : ∃ W, W = (w.alloc (.cells #[.slice a n c] 24)).alloc (.cells #[.slice a' n' c'] 24) := ⟨_, rfl⟩
  have HW : Hid ((w.alloc (.cells #[.slice a n c] 24)).alloc (.cells #[.slice a' n' c'] 24) = W) := hW.symm
  have hTB : TwoB W w.heap.size (w.heap.size + 1) (.slice a n c) (.slice a' n' c') := by rw [hW]; exact two_boxes _ _ _ _ _
  have hBW : Below w.heap.size w W := by rw [hW]; exact two_new _ _
  clear hW
  go_enter Tryz.func73, Tryz.ntmps73
  go_wp2_with fail
  rw [HW.out]
  refine (hE _).mono ?_
  rintro e w1 ⟨rfl, hb1⟩
  have hT1 := hTB.below hb1
  have hB1 := below_after_of hBW hb1
  have kst : (store ⟨w1.heap.size + 1, 0, none⟩ (.func (.func 129) #[] #[.pointer (some ⟨w.heap.size, 0, none⟩), .pointer (some ⟨w1.heap.size, 0, none⟩), .pointer (some ⟨w.heap.size + 1, 0, none⟩), .pointer (some ⟨w1.heap.size + 1, 0, none⟩)])).run Tryz.prog ((w1.alloc (.cells #[.int .i64 (emp 0), .int .i64 (emp 1), .int .i64 (emp 2), .int .i64 (emp 3), .int .i64 (emp 4), .int .i64 (emp 5), .int .i64 (emp 6), .int .i64 (emp 7), .int .i64 (emp 8)] 176)).alloc (.cells #[.nilFunc] 178)) = .ok () (((w1.alloc (.cells #[.int .i64 (emp 0), .int .i64 (emp 1), .int .i64 (emp 2), .int .i64 (emp 3), .int .i64 (emp 4), .int .i64 (emp 5), .int .i64 (emp 6), .int .i64 (emp 7), .int .i64 (emp 8)] 176)).alloc (.cells #[.nilFunc] 178)).setCell ⟨w1.heap.size + 1, 0, none⟩ (.func (.func 129) #[] #[.pointer (some ⟨w.heap.size, 0, none⟩), .pointer (some ⟨w1.heap.size, 0, none⟩), .pointer (some ⟨w.heap.size + 1, 0, none⟩), .pointer (some ⟨w1.heap.size + 1, 0, none⟩)])) := by
    rw [run_store Tryz.prog _ _ _ _ (by rfl)]
    simp
  have hB9 : Below w1.heap.size w1 ((w1.alloc (.cells #[.int .i64 (emp 0), .int .i64 (emp 1), .int .i64 (emp 2), .int .i64 (emp 3), .int .i64 (emp 4), .int .i64 (emp 5), .int .i64 (emp 6), .int .i64 (emp 7), .int .i64 (emp 8)] 176)).alloc (.cells #[.func (.func 129) #[] #[.pointer (some ⟨w.heap.size, 0, none⟩), .pointer (some ⟨w1.heap.size, 0, none⟩), .pointer (some ⟨w.heap.size + 1, 0, none⟩), .pointer (some ⟨w1.heap.size + 1, 0, none⟩)]] 178)) := two_new _ _
  have hT9 := hT1.below hB9
  have hO : OwB ((w1.alloc (.cells #[.int .i64 (emp 0), .int .i64 (emp 1), .int .i64 (emp 2), .int .i64 (emp 3), .int .i64 (emp 4), .int .i64 (emp 5), .int .i64 (emp 6), .int .i64 (emp 7), .int .i64 (emp 8)] 176)).alloc (.cells #[.func (.func 129) #[] #[.pointer (some ⟨w.heap.size, 0, none⟩), .pointer (some ⟨w1.heap.size, 0, none⟩), .pointer (some ⟨w.heap.size + 1, 0, none⟩), .pointer (some ⟨w1.heap.size + 1, 0, none⟩)]] 178)) w.heap.size w1.heap.size (w.heap.size + 1) (w1.heap.size + 1) (.slice a n c) (.slice a' n' c') := by
    have h := heap_alloc_new (w1.alloc (.cells #[.int .i64 (emp 0), .int .i64 (emp 1), .int .i64 (emp 2), .int .i64 (emp 3), .int .i64 (emp 4), .int .i64 (emp 5), .int .i64 (emp 6), .int .i64 (emp 7), .int .i64 (emp 8)] 176)) (.cells #[.func (.func 129) #[] #[.pointer (some ⟨w.heap.size, 0, none⟩), .pointer (some ⟨w1.heap.size, 0, none⟩), .pointer (some ⟨w.heap.size + 1, 0, none⟩), .pointer (some ⟨w1.heap.size + 1, 0, none⟩)]] 178)
    rw [World.size_alloc] at h
    exact ⟨hT9.a, hT9.b, (EmB.new w1 176).below (one_new _), box1_cellO h, hT9.p, hT9.q, by simp⟩
  have HO9 : Hid (OwB ((w1.alloc (.cells #[.int .i64 (emp 0), .int .i64 (emp 1), .int .i64 (emp 2), .int .i64 (emp 3), .int .i64 (emp 4), .int .i64 (emp 5), .int .i64 (emp 6), .int .i64 (emp 7), .int .i64 (emp 8)] 176)).alloc (.cells #[.func (.func 129) #[] #[.pointer (some ⟨w.heap.size, 0, none⟩), .pointer (some ⟨w1.heap.size, 0, none⟩), .pointer (some ⟨w.heap.size + 1, 0, none⟩), .pointer (some ⟨w1.heap.size + 1, 0, none⟩)]] 178)) w.heap.size w1.heap.size (w.heap.size + 1) (w1.heap.size + 1) (.slice a n c) (.slice a' n' c')) := hO
  have hBB := below_after_of hB1 hB9
  clear hE hb1 hTB hT1 hB1 hB9 hT9 hO
  go_wp2
  go_ret
  exact ⟨_, _, _, _, rfl, hBB, HO9.out⟩
set_option maxRecDepth 100000 in
set_option maxHeartbeats 1000000 in
theorem oldWalk_any {l m : Prl} (h0 : slF l = 0) (h1 : slF m = 0) (ba be bb bd : Nat) (v u : Value) (w : World) (hB : OwB w ba be bb bd v u) (hv : Prs w v l) (hu : Prs w u m) (ho : Okv v) (ho' : Okv u) :
    Calls Tryz.prog 131 #[.pointer (some ⟨bd, 0, none⟩)] w fun e w' => WkAns w (otc l m 8 0) e w' := by
  have hC : Calls Tryz.prog 129 #[.int .i64 0, .int .i64 8, .pointer (some ⟨ba, 0, none⟩), .pointer (some ⟨be, 0, none⟩), .pointer (some ⟨bb, 0, none⟩), .pointer (some ⟨bd, 0, none⟩)] w fun e w' => WkAns w (otc l m 8 0) e w' := (ow_L8 h0 h1 (f := 0) (q := 0) rfl (by omega)).c ba be bb bd v u w hB hv hu ho ho'
  have cd := hB.d
  generalize otc l m 8 0 = o at *
  clear hB hv hu ho ho' h0 h1
  rcases o with _ | ⟨ls, bs⟩
  · go_enter Tryz.func131, Tryz.ntmps131
    go_wp2_with fail
    refine hC.mono ?_
    intro e w1 hx
    obtain rfl := hx.n rfl
    have hb := hx.b
    clear hC hx
    go_wp2
    go_ret
    exact ⟨hb, fun _ => rfl, fun _ _ e => by cases e⟩
  · go_enter Tryz.func131, Tryz.ntmps131
    go_wp2_with fail
    refine hC.mono ?_
    intro e w1 hx
    obtain ⟨a5, c5, a6, c6, rfl, hr5⟩ := hx.s _ _ rfl
    have hb := hx.b
    have HR5 : Hid (Rows2 w w1 (.slice a5 ls.length c5) (.slice a6 bs.length c6) true ls bs) := hr5
    clear hC hx hr5
    go_wp2
    go_ret
    refine ⟨hb, (fun h => by cases h), fun ls' bs' e => ?_⟩
    cases e
    exact ⟨a5, c5, a6, c6, rfl, HR5.out⟩
end U
end Go.Proofs.YtljbcpkjhnbpeaaGreatDoor

/- A clash in two old trees: what the program and the model answer at every two sets of slots. -/
namespace Go.Proofs.YtljbcpkjhnbpeaaGreatDoor
open Go.RowKit
namespace U
/-- The root of slots, as the model makes it. -/
structure Rt4 (l : Prl) (x : Int) : Prop where
  c : ∀ (v : Value) (w : World), Prs w v l → Calls Tryz.prog 76 #[v] w fun e w' => e = .returned (.int .i64 x) ∧ Below w.heap.size w w'
theorem rt4_ok {l : Prl} (h0 : slF l = 0) : Rt4 l (nd l 8 0) := ⟨fun v w hv => l4Root_any v l w hv (by have := (slF_ok h0).len; omega) (slF_ok h0).fin⟩
structure O8F (l m : Prl) (o : Ck) : Prop where
  c : ∀ v u w, Prs w v l → Prs w u m → Calls Tryz.prog 77 #[v, u, .int .i64 0, .int .i64 8] w fun e w' => OkAns w o e w'
theorem o8F_ok {l m : Prl} (h0 : slF l = 0) (h1 : slF m = 0) : O8F l m (otc l m 8 0) := ⟨fun v u w hv hu => (o8_L8 h0 h1 (f := 0) (q := 0) rfl (by omega)).c v u w hv hu⟩
theorem implOldRoot_ok (v : Value) (l : Prl) (w : World) (hv : Prs w v l) (h0 : slF l = 0) : Calls Tryz.prog 72 #[v] w fun e w' => IntAns w 0 (nd l 8 0) e w' := by
  have h := implOldRoot_any v l w hv (by have := (slF_ok h0).len; omega)
  have e1 : orC l = 0 := by unfold orC; exact h0
  have e2 : orV l = nd l 8 0 := by unfold orV; rw [if_pos h0]
  rw [e1, e2] at h
  exact h
set_option maxRecDepth 100000 in
set_option maxHeartbeats 2000000 in
theorem specOldTreeClash_bad (v u : Value) (l m : Prl) (w : World) (hv : Prs w v l) (hu : Prs w u m) (hx : l.length ≤ 1048576) (hy : m.length ≤ 1048576) (h : l8C l m ≠ 0) :
    Calls Tryz.prog 26 #[v, u] w fun e w' => ClashAns w (l8C l m) false [] [] e w' := by
  have hT := fun w' h => l8Two_any v u l m w' (hv.below (w' := w') h) (hu.below h) hx hy
  obtain ⟨a, c, rfl⟩ := hv.shape
  obtain ⟨a', c', rfl⟩ := hu.shape
  generalize l8C l m = q at *
  generalize l.length = n at *
  generalize m.length = n' at *
  have hq : (q != 0) = true := by simpa using h
  clear hv hu h
  go_enter Tryz.func26, Tryz.ntmps26
  go_wp2_with fail
  refine (hT _ (one_new _)).mono ?_
  rintro e w1 ⟨rfl, hb1⟩
  obtain ⟨q0, q1, q2, q3, f0, f1, f2, f3⟩ := four_cells ((hb1.block w.heap.size (by simp)).trans (heap_alloc_new w _))
  have hB1 := below_after hb1
  clear hT hb1
  go_wp2
  exact bodyPost_ret (v := .agg #[.int .i64 q, .bool false, .slice none 0 0, .slice none 0 0]) (by simp [results, Tryz.results26, go_sem, *]) rfl ⟨(((hB1.setCell (Nat.le_refl _) _).setCell (Nat.le_refl _) _).setCell (Nat.le_refl _) _).setCell (Nat.le_refl _) _, _, _, rfl, Rows2.nil _ _ _ _⟩
set_option maxRecDepth 100000 in
set_option maxHeartbeats 2000000 in
theorem specOldTreeClash_root (v u : Value) (l m : Prl) (x y : Int) (w : World) (hv : Prs w v l) (hu : Prs w u m) (hx : l.length ≤ 1048576) (hy : m.length ≤ 1048576) (h : l8C l m = 0) (ra : Rt4 l x) (rb : Rt4 m y) (hxy : x ≠ y) :
    Calls Tryz.prog 26 #[v, u] w fun e w' => ClashAns w 9 false [] [] e w' := by
  have hT := fun w' h => l8Two_any v u l m w' (hv.below (w' := w') h) (hu.below h) hx hy
  have hA := fun w' h => ra.c v w' (hv.below (w' := w') h)
  have hB := fun w' h => rb.c u w' (hu.below (w' := w') h)
  rw [h] at hT
  obtain ⟨a, c, rfl⟩ := hv.shape
  obtain ⟨a', c', rfl⟩ := hu.shape
  generalize l.length = n at *
  generalize m.length = n' at *
  have hq : (x != y) = true := by simpa using hxy
  clear hv hu h hxy
  go_enter Tryz.func26, Tryz.ntmps26
  go_wp2_with fail
  refine (hT _ (one_new _)).mono ?_
  rintro e w1 ⟨rfl, hb1⟩
  have hB1 := below_after hb1
  clear hT
  go_wp2_with fail
  refine (hA _ hB1).mono ?_
  rintro e w2 ⟨rfl, hb2⟩
  have hB2 := below_after_of hB1 hb2
  have hb2 := below_after_of hb1 hb2
  clear hA
  go_wp2_with fail
  refine (hB _ hB2).mono ?_
  rintro e w3 ⟨rfl, hb3⟩
  have hB3 := below_after_of hB2 hb3
  obtain ⟨q0, q1, q2, q3, f0, f1, f2, f3⟩ := four_cells (((below_after_of hb2 hb3).block w.heap.size (by simp)).trans (heap_alloc_new w _))
  clear hB hb3 hb2 hb1 hB1 hB2
  go_wp2
  exact bodyPost_ret (v := .agg #[.int .i64 9, .bool false, .slice none 0 0, .slice none 0 0]) (by simp [results, Tryz.results26, go_sem, *]) rfl ⟨(((hB3.setCell (Nat.le_refl _) _).setCell (Nat.le_refl _) _).setCell (Nat.le_refl _) _).setCell (Nat.le_refl _) _, _, _, rfl, Rows2.nil _ _ _ _⟩
set_option maxRecDepth 100000 in
set_option maxHeartbeats 2000000 in
theorem specOldTreeClash_ok (v u : Value) (l m : Prl) (x : Int) (o : Ck) (w : World) (hv : Prs w v l) (hu : Prs w u m) (hx : l.length ≤ 1048576) (hy : m.length ≤ 1048576) (h : l8C l m = 0) (ra : Rt4 l x) (rb : Rt4 m x) (ho : O8F l m o) :
    Calls Tryz.prog 26 #[v, u] w fun e w' => ClashAns w 0 (opF o) (op1 o) (op2 o) e w' := by
  have hT := fun w' h => l8Two_any v u l m w' (hv.below (w' := w') h) (hu.below h) hx hy
  have hA := fun w' h => ra.c v w' (hv.below (w' := w') h)
  have hB := fun w' h => rb.c u w' (hu.below (w' := w') h)
  have hO := fun w' h => ho.c v u w' (hv.below (w' := w') h) (hu.below h)
  rw [h] at hT
  obtain ⟨a, c, rfl⟩ := hv.shape
  obtain ⟨a', c', rfl⟩ := hu.shape
  generalize l.length = n at *
  generalize m.length = n' at *
  clear hv hu h
  go_enter Tryz.func26, Tryz.ntmps26
  go_wp2_with fail
  refine (hT _ (one_new _)).mono ?_
  rintro e w1 ⟨rfl, hb1⟩
  have hB1 := below_after hb1
  clear hT
  go_wp2_with fail
  refine (hA _ hB1).mono ?_
  rintro e w2 ⟨rfl, hb2⟩
  have hB2 := below_after_of hB1 hb2
  have hb2 := below_after_of hb1 hb2
  clear hA
  go_wp2_with fail
  refine (hB _ hB2).mono ?_
  rintro e w3 ⟨rfl, hb3⟩
  have hB3 := below_after_of hB2 hb3
  have hb3 := below_after_of hb2 hb3
  clear hB hb2 hB2 hB1 hb1
  go_wp2_with fail
  refine (hO _ hB3).mono ?_
  rintro e w4 ⟨hb4, a1, n1, c1, a2, n2, c2, rfl, hr⟩
  have hB4 := below_after_of hB3 hb4
  have HR : Hid (Rows2 w3 w4 (.slice a1 n1 c1) (.slice a2 n2 c2) (opF o) (op1 o) (op2 o)) := hr
  obtain ⟨q0, q1, q2, q3, f0, f1, f2, f3⟩ := four_cells (((below_after_of hb3 hb4).block w.heap.size (by simp)).trans (heap_alloc_new w _))
  have hz : w.heap.size < w3.heap.size := Nat.lt_of_lt_of_le (by simp) hb3.size
  generalize hf : opF o = f at *
  clear hO hb4 hb3 hr
  go_wp2
  refine bodyPost_ret (v := .agg #[.int .i64 0, .bool f, .slice a1 n1 c1, .slice a2 n2 c2]) (by simp [results, Tryz.results26, go_sem, *]) rfl ?_
  show ClashAns w 0 (opF o) (op1 o) (op2 o) _ _
  rw [hf]
  exact ⟨(((hB4.setCell (Nat.le_refl _) _).setCell (Nat.le_refl _) _).setCell (Nat.le_refl _) _).setCell (Nat.le_refl _) _, _, _, rfl, ((((HR.out.set hz _ _).set hz _ _).set hz _ _).set hz _ _).under hB3.size⟩
set_option maxRecDepth 100000 in
set_option maxHeartbeats 2000000 in
theorem implOldTreeClash_bad (v u : Value) (l m : Prl) (w : World) (hv : Prs w v l) (hu : Prs w u m) (hx : l.length ≤ 1048576) (hy : m.length ≤ 1048576) (h : l8C l m ≠ 0) :
    Calls Tryz.prog 23 #[v, u] w fun e w' => ClashAns w (l8C l m) false [] [] e w' := by
  have hA := fun w' h => implSlotsFault_any v l w' (hv.below (w' := w') h) (by omega)
  have hB := fun w' h => implSlotsFault_any u m w' (hu.below (w' := w') h) (by omega)
  have hO := fun v w h => cmpOr_any (slF l) (slF m) v w h
  rw [show (if slF l = 0 then slF m else slF l) = l8C l m from rfl] at hO
  obtain ⟨a, c, rfl⟩ := hv.shape
  obtain ⟨a', c', rfl⟩ := hu.shape
  generalize l8C l m = q at *
  generalize slF l = s1 at *
  generalize slF m = s2 at *
  generalize l.length = n at *
  generalize m.length = n' at *
  have hq : (q != 0) = true := by simpa using h
  clear hv hu h
  go_enter Tryz.func23, Tryz.ntmps23
  go_wp2_with fail
  refine (hA _ (one_new _)).mono ?_
  rintro e w1 ⟨rfl, hb1⟩
  have hB1 := below_after hb1
  clear hA
  go_wp2_with fail
  refine (hB _ hB1).mono ?_
  rintro e w2 ⟨rfl, hb2⟩
  have hB2 := below_after_of hB1 hb2
  have hb2 := below_after_of hb1 hb2
  clear hB hB1 hb1
  go_wp2_with fail
  refine (hO _ _ (two_ints_at rfl)).mono ?_
  rintro e w3 ⟨rfl, hw3⟩
  have hNW := one_new (w := w2) (.cells #[.int .i64 s1, .int .i64 s2] 2)
  have hB3 : Below w.heap.size w w3 := by rw [hw3]; exact below_after_of hB2 hNW
  obtain ⟨q0, q1, q2, q3, f0, f1, f2, f3⟩ := four_cells (w := w3) (b := w.heap.size) (by rw [hw3]; exact ((below_after_of hb2 hNW).block w.heap.size (by simp)).trans (heap_alloc_new w _))
  clear hO hw3 hNW hb2 hB2
  go_wp2
  exact bodyPost_ret (v := .agg #[.int .i64 q, .bool false, .slice none 0 0, .slice none 0 0]) (by simp [results, Tryz.results23, go_sem, *]) rfl ⟨(((hB3.setCell (Nat.le_refl _) _).setCell (Nat.le_refl _) _).setCell (Nat.le_refl _) _).setCell (Nat.le_refl _) _, _, _, rfl, Rows2.nil _ _ _ _⟩
set_option maxRecDepth 100000 in
set_option maxHeartbeats 2000000 in
theorem implOldTreeClash_root (v u : Value) (l m : Prl) (w : World) (hv : Prs w v l) (hu : Prs w u m) (ho : Okv v) (ho' : Okv u) (h0 : slF l = 0) (h1 : slF m = 0) (hxy : nd l 8 0 ≠ nd m 8 0) :
    Calls Tryz.prog 23 #[v, u] w fun e w' => ClashAns w 9 false [] [] e w' := by
  have hA := fun w' h => implSlotsFault_any v l w' (hv.below (w' := w') h) (by have := (slF_ok h0).len; omega)
  have hB := fun w' h => implSlotsFault_any u m w' (hu.below (w' := w') h) (by have := (slF_ok h1).len; omega)
  have hO := fun v w h => cmpOr_any 0 0 v w h
  have hRA := fun w' h => implOldRoot_ok v l w' (hv.below (w' := w') h) h0
  have hRB := fun w' h => implOldRoot_ok u m w' (hu.below (w' := w') h) h1
  rw [if_pos rfl] at hO
  rw [h0] at hA
  rw [h1] at hB
  obtain ⟨a, c, rfl⟩ := hv.shape
  obtain ⟨a', c', rfl⟩ := hu.shape
  generalize nd l 8 0 = x at *
  generalize nd m 8 0 = y at *
  generalize l.length = n at *
  generalize m.length = n' at *
  have hq : (x == y) = false := by simpa using hxy
  clear hv hu ho ho' h0 h1
  go_enter Tryz.func23, Tryz.ntmps23
  go_wp2_with fail
  refine (hA _ (one_new _)).mono ?_
  rintro e w1 ⟨rfl, hb1⟩
  have hB1 := below_after hb1
  clear hA
  go_wp2_with fail
  refine (hB _ hB1).mono ?_
  rintro e w2 ⟨rfl, hb2⟩
  have hB2 := below_after_of hB1 hb2
  have hb2 := below_after_of hb1 hb2
  clear hB hB1 hb1
  go_wp2_with fail
  refine (hO _ _ (two_ints_at rfl)).mono ?_
  rintro e w3 ⟨rfl, hw3⟩
  have hNW := one_new (w := w2) (.cells #[.int .i64 0, .int .i64 0] 2)
  have hB3 : Below w.heap.size w w3 := by rw [hw3]; exact below_after_of hB2 hNW
  have hb3 : Below (w.alloc (.cells #[.int .i64 0, .bool false, .slice none 0 0, .slice none 0 0] 35)).heap.size (w.alloc (.cells #[.int .i64 0, .bool false, .slice none 0 0, .slice none 0 0] 35)) w3 := by rw [hw3]; exact below_after_of hb2 hNW
  clear hO hw3 hNW hb2 hB2
  go_wp2_with fail
  refine (hRA _ hB3).mono ?_
  rintro e w4 ⟨rfl, hb4⟩
  have hB4 := below_after_of hB3 hb4
  have hb4 := below_after_of hb3 hb4
  clear hRA hb3 hB3
  go_wp2_with fail
  refine (hRB _ hB4).mono ?_
  rintro e w5 ⟨rfl, hb5⟩
  have hB5 := below_after_of hB4 hb5
  obtain ⟨q0, q1, q2, q3, f0, f1, f2, f3⟩ := four_cells (((below_after_of hb4 hb5).block w.heap.size (by simp)).trans (heap_alloc_new w _))
  clear hRB hb4 hB4 hb5
  go_wp2
  exact bodyPost_ret (v := .agg #[.int .i64 9, .bool false, .slice none 0 0, .slice none 0 0]) (by simp [results, Tryz.results23, go_sem, *]) rfl ⟨(((hB5.setCell (Nat.le_refl _) _).setCell (Nat.le_refl _) _).setCell (Nat.le_refl _) _).setCell (Nat.le_refl _) _, _, _, rfl, Rows2.nil _ _ _ _⟩
set_option maxRecDepth 100000 in
set_option maxHeartbeats 2000000 in
theorem implOldTreeClash_ok (v u : Value) (l m : Prl) (w : World) (hg : ErT w) (hv : Prs w v l) (hu : Prs w u m) (ho : Okv v) (ho' : Okv u) (h0 : slF l = 0) (h1 : slF m = 0) (hxy : nd l 8 0 = nd m 8 0) :
    Calls Tryz.prog 23 #[v, u] w fun e w' => ClashAns w 0 (opF (otc l m 8 0)) (op1 (otc l m 8 0)) (op2 (otc l m 8 0)) e w' := by
  have hA := fun w' h => implSlotsFault_any v l w' (hv.below (w' := w') h) (by have := (slF_ok h0).len; omega)
  have hB := fun w' h => implSlotsFault_any u m w' (hu.below (w' := w') h) (by have := (slF_ok h1).len; omega)
  have hO := fun v w h => cmpOr_any 0 0 v w h
  have hRA := fun w' h => implOldRoot_ok v l w' (hv.below (w' := w') h) h0
  have hRB := fun w' h => implOldRoot_ok u m w' (hu.below (w' := w') h) h1
  have hW := fun w' h => oldTreesWalk_box v u l m w' (hv.below (w' := w') h) (hu.below h)
  have hDD := fun ba be bb bd w' hB hw' => oldWalk_any h0 h1 ba be bb bd v u w' hB (hv.below (w' := w') hw') (hu.below hw') ho ho'
  rw [if_pos rfl] at hO
  rw [h0] at hA
  rw [h1] at hB
  rw [← hxy] at hRB
  obtain ⟨a, c, rfl⟩ := hv.shape
  obtain ⟨a', c', rfl⟩ := hu.shape
  generalize otc l m 8 0 = o at *
  generalize nd l 8 0 = x at *
  generalize l.length = n at *
  generalize m.length = n' at *
  clear hv hu h0 h1 hxy
  go_enter Tryz.func23, Tryz.ntmps23
  go_wp2_with fail
  refine (hA _ (one_new _)).mono ?_
  rintro e w1 ⟨rfl, hb1⟩
  have hB1 := below_after hb1
  clear hA
  go_wp2_with fail
  refine (hB _ hB1).mono ?_
  rintro e w2 ⟨rfl, hb2⟩
  have hB2 := below_after_of hB1 hb2
  have hb2 := below_after_of hb1 hb2
  clear hB hB1 hb1
  go_wp2_with fail
  refine (hO _ _ (two_ints_at rfl)).mono ?_
  rintro e w3 ⟨rfl, hw3⟩
  have hNA := one_new (w := w2) (.cells #[.int .i64 0, .int .i64 0] 2)
  have hB3 : Below w.heap.size w w3 := by rw [hw3]; exact below_after_of hB2 hNA
  have hb3 : Below (w.alloc (.cells #[.int .i64 0, .bool false, .slice none 0 0, .slice none 0 0] 35)).heap.size (w.alloc (.cells #[.int .i64 0, .bool false, .slice none 0 0, .slice none 0 0] 35)) w3 := by rw [hw3]; exact below_after_of hb2 hNA
  clear hO hw3 hNA hb2 hB2
  go_wp2_with fail
  refine (hRA _ hB3).mono ?_
  rintro e w4 ⟨rfl, hb4⟩
  have hB4 := below_after_of hB3 hb4
  have hb4 := below_after_of hb3 hb4
  clear hRA hb3 hB3
  go_wp2_with fail
  refine (hRB _ hB4).mono ?_
  rintro e w5 ⟨rfl, hb5⟩
  have hB5 := below_after_of hB4 hb5
  have hb5 := below_after_of hb4 hb5
  clear hRB hb4 hB4
  go_wp2_with fail
  refine (hW _ hB5).mono ?_
  rintro e w8 ⟨ba, be, bb, bd, rfl, hb8, hBX⟩
  have hB8 := below_after_of hB5 hb8
  have hb8 := below_after_of hb5 hb8
  have hC := clashOf_old #[.pointer (some ⟨bd, 0, none⟩)] o w8 (hg.below hB8) ⟨_, rfl⟩ (fun w' h => hDD ba be bb bd w' (hBX.below h) (below_after_of hB8 h))
  clear hW hb5 hB5 hDD ho ho'
  go_wp2_with fail
  refine hC.mono ?_
  rintro e w9 ⟨hb9, v1, v2, rfl, hr⟩
  have hB9 := below_after_of hB8 hb9
  obtain ⟨⟨a1, c1, rfl⟩, a2, c2, rfl⟩ := hr.shape
  have HR : Hid (Rows2 w8 w9 (.slice a1 (pick (opF o) (op1 o)).length c1) (.slice a2 (pick (opF o) (op2 o)).length c2) (opF o) (op1 o) (op2 o)) := hr
  obtain ⟨q0, q1, q2, q3, f0, f1, f2, f3⟩ := four_cells (((below_after_of hb8 hb9).block w.heap.size (by simp)).trans (heap_alloc_new w _))
  have hz : w.heap.size < w8.heap.size := Nat.lt_of_lt_of_le (by simp) hb8.size
  generalize (pick (opF o) (op1 o)).length = n1 at *
  generalize (pick (opF o) (op2 o)).length = n2 at *
  generalize hf : opF o = f at *
  clear hC hb9 hb8 hr
  go_wp2
  refine bodyPost_ret (v := .agg #[.int .i64 0, .bool f, .slice a1 n1 c1, .slice a2 n2 c2]) (by simp [results, Tryz.results23, go_sem, *]) rfl ?_
  show ClashAns w 0 (opF o) (op1 o) (op2 o) _ _
  rw [hf]
  exact ⟨(((hB9.setCell (Nat.le_refl _) _).setCell (Nat.le_refl _) _).setCell (Nat.le_refl _) _).setCell (Nat.le_refl _) _, _, _, rfl, ((((HR.out.set hz _ _).set hz _ _).set hz _ _).set hz _ _).under hB8.size⟩
/-- Both answer alike, and what is known of it. -/
theorem bothOldTreeClash (l m : Prl) (hx : l.length ≤ 1048576) (hy : m.length ≤ 1048576) : ∃ code o, TcOut l m code o ∧
    (∀ v u w, Prs w v l → Prs w u m → Calls Tryz.prog 26 #[v, u] w fun e w' => ClashAns w code (opF o) (op1 o) (op2 o) e w') ∧
    (∀ v u w, ErT w → Prs w v l → Prs w u m → Okv v → Okv u → Calls Tryz.prog 23 #[v, u] w fun e w' => ClashAns w code (opF o) (op1 o) (op2 o) e w') := by
  by_cases h : l8C l m = 0
  · have h0 : slF l = 0 := by
      by_cases q : slF l = 0
      · exact q
      · rw [l8C_no q] at h; exact h
    have h1 : slF m = 0 := by rw [l8C_ok h0] at h; exact h
    by_cases hr : nd l 8 0 = nd m 8 0
    · refine ⟨0, otc l m 8 0, ⟨fun _ e => otc_same h0 h1 hr e, fun xs ys e => ⟨rfl, otc_out h0 h1 8 0 (by omega) (by decide) e⟩⟩, fun v u w hv hu => ?_, fun v u w hg hv hu o1 o2 => implOldTreeClash_ok v u l m w hg hv hu o1 o2 h0 h1 hr⟩
      exact specOldTreeClash_ok v u l m (nd l 8 0) _ w hv hu hx hy h (rt4_ok h0) (by rw [hr]; exact rt4_ok h1) (o8F_ok h0 h1)
    · exact ⟨9, none, ⟨(fun e => absurd e (by decide)), (fun xs ys e => by cases e)⟩, fun v u w hv hu => specOldTreeClash_root v u l m _ _ w hv hu hx hy h (rt4_ok h0) (rt4_ok h1) hr, fun v u w _ hv hu o1 o2 => implOldTreeClash_root v u l m w hv hu o1 o2 h0 h1 hr⟩
  · exact ⟨l8C l m, none, ⟨(fun e => absurd e h), (fun xs ys e => by cases e)⟩, fun v u w hv hu => specOldTreeClash_bad v u l m w hv hu hx hy h, fun v u w _ hv hu _ _ => implOldTreeClash_bad v u l m w hv hu hx hy h⟩
end U
end Go.Proofs.YtljbcpkjhnbpeaaGreatDoor
