/- The clash that a proof of the old tree shows, by the model. -/
import Derived.Test.YtgflamlfplpfdaaOp8
namespace Go.Proofs.Ytgflamlfplpfdaa
open Go.RowKit
namespace U
theorem ints_take {w : World} {b off c : Nat} {p : List Int} (k : Nat) (hb : b < w.heap.size) (hk : k ≤ p.length) (hc : ∀ j, j < p.length → w.cell? ⟨b, off + j, none⟩ = some (.int .i64 (p.getD j 0))) : Ints .i64 w (.slice (some ⟨b, off, none⟩) k c) (p.take k) := by
  have hl : (p.take k).length = k := by rw [List.length_take]; omega
  refine Or.inr ⟨b, off, c, by rw [hl], hb, fun j hj => ?_⟩
  rw [hl] at hj
  have e : (p.take k).getD j 0 = p.getD j 0 := by
    rw [List.getD_eq_getElem?_getD, List.getD_eq_getElem?_getD, List.getElem?_take, if_pos hj]
  rw [e]
  exact hc j (by omega)
/-- Climbing the first ones of a path. -/
theorem l5Climb_take (x s : Int) (b off c : Nat) (p : List Int) (k : Nat) (w : World) (hx : 0 ≤ x ∧ x ≤ 255) (hs : 0 ≤ s ∧ s ≤ 65520) (hb : b < w.heap.size) (hk : k ≤ 8) (hp : p.length = 8) (hall : p.all sumB = true) (hc : ∀ j, j < p.length → w.cell? ⟨b, off + j, none⟩ = some (.int .i64 (p.getD j 0))) :
    Calls Try.prog 80 #[.int .i64 x, .int .i64 s, .slice (some ⟨b, off, none⟩) k c] w fun e w' => e = .returned (.int .i64 (clm x s p k)) ∧ Below w.heap.size w w' := by
  have hl : (p.take k).length = k := by rw [List.length_take]; omega
  have h := l5Climb_any x s _ (p.take k) w hx hs (ints_take (c := c) k hb (by omega) hc) (by omega) (List.all_eq_true.2 fun y hy => List.all_eq_true.1 hall y (List.mem_of_mem_take hy))
  rw [hl, clm_take k (Nat.le_refl _)] at h
  exact h
theorem piece_even {l : Prl} {x s : Int} {p : List Int} {n : Nat} {q : Int} (h : x / (2 ^ n : Nat) % 2 = 0) (hq : q = x / (2 ^ (n + 1) : Nat)) : tagL 2 [clm x s p n, p.getD n 0] = ndP x s p n ∧ tagL 2 [nd l n (2 * q), nd l n (2 * q + 1)] = ndT l x n := by
  unfold ndP ndT sdL sdR
  rw [if_pos h, if_pos h, hq]
  exact ⟨rfl, rfl⟩
theorem piece_odd {l : Prl} {x s : Int} {p : List Int} {n : Nat} {q : Int} (h : ¬ x / (2 ^ n : Nat) % 2 = 0) (hq : q = x / (2 ^ (n + 1) : Nat)) : tagL 2 [p.getD n 0, clm x s p n] = ndP x s p n ∧ tagL 2 [nd l n (2 * q), nd l n (2 * q + 1)] = ndT l x n := by
  unfold ndP ndT sdL sdR
  rw [if_neg h, if_neg h, hq]
  exact ⟨rfl, rfl⟩
theorem Rows2.below {w w1 w2 : World} {v1 v2 : Value} {f : Bool} {ls bs : List Int} (h : Rows2 w w1 v1 v2 f ls bs) (hb : Below w1.heap.size w1 w2) : Rows2 w w2 v1 v2 f ls bs := ⟨own_below h.1 hb, own_below h.2.1 hb, h.2.2⟩
theorem Rows2.set {w w' : World} {v1 v2 : Value} {f : Bool} {ls bs : List Int} (h : Rows2 w w' v1 v2 f ls bs) {g : Nat} (hg : g < w.heap.size) (i : Nat) (x : Value) : Rows2 w (w'.setCell ⟨g, i, none⟩ x) v1 v2 f ls bs :=
  ⟨ownsRow_setCell_below h.1 hg _, ownsRow_setCell_below h.2.1 hg _, h.2.2⟩
theorem Rows2.mono {w w0 w' : World} {v1 v2 : Value} {f : Bool} {ls bs : List Int} (h : Rows2 w w' v1 v2 f ls bs) (hs : w0.heap.size ≤ w.heap.size) : Rows2 w0 w' v1 v2 f ls bs := ⟨own_mono h.1 hs, own_mono h.2.1 hs, h.2.2⟩
/-- A clash in a block. -/
structure Tr3 (w : World) (g : Nat) (x y z : Value) : Prop where
  c0 : w.cell? ⟨g, 0, none⟩ = some x
  c1 : w.cell? ⟨g, 1, none⟩ = some y
  c2 : w.cell? ⟨g, 2, none⟩ = some z
  f0 : w.frozen? ⟨g, 0, none⟩ = false
  f1 : w.frozen? ⟨g, 1, none⟩ = false
  f2 : w.frozen? ⟨g, 2, none⟩ = false
  lt : g < w.heap.size
theorem Tr3.new (w : World) (x y z : Value) (t : TypeId) : Tr3 (w.alloc (.cells #[x, y, z] t)) w.heap.size x y z := by
  obtain ⟨q0, q1, q2, f0, f1, f2⟩ := three_cellsV (heap_alloc_new w (.cells #[x, y, z] t))
  exact ⟨q0, q1, q2, f0, f1, f2, by simp⟩
theorem Tr3.below {w w' : World} {g : Nat} {x y z : Value} (h : Tr3 w g x y z) (hb : Below w.heap.size w w') : Tr3 w' g x y z :=
  ⟨(hb.cell (p := ⟨g, 0, none⟩) h.lt).trans h.c0, (hb.cell (p := ⟨g, 1, none⟩) h.lt).trans h.c1, (hb.cell (p := ⟨g, 2, none⟩) h.lt).trans h.c2, (hb.frozen (p := ⟨g, 0, none⟩) h.lt).trans h.f0, (hb.frozen (p := ⟨g, 1, none⟩) h.lt).trans h.f1, (hb.frozen (p := ⟨g, 2, none⟩) h.lt).trans h.f2, Nat.lt_of_lt_of_le h.lt hb.size⟩
theorem Tr3.set {w : World} {g : Nat} {x y z : Value} (h : Tr3 w g x y z) (x' y' z' : Value) : Tr3 (((w.setCell ⟨g, 0, none⟩ x').setCell ⟨g, 1, none⟩ y').setCell ⟨g, 2, none⟩ z') g x' y' z' := by
  refine ⟨?_, ?_, ?_, ?_, ?_, ?_, by simpa using h.lt⟩
  · exact (World.cell?_setCell_other _ _ _ _ (by simp)).trans ((World.cell?_setCell_other _ _ _ _ (by simp)).trans (World.cell?_setCell_same _ _ _ h.c0))
  · exact (World.cell?_setCell_other _ _ _ _ (by simp)).trans (World.cell?_setCell_same _ _ _ ((World.cell?_setCell_other _ _ _ _ (by simp)).trans h.c1))
  · exact World.cell?_setCell_same _ _ _ ((World.cell?_setCell_other _ _ _ _ (by simp)).trans ((World.cell?_setCell_other _ _ _ _ (by simp)).trans h.c2))
  · simpa [World.frozen?_setCell] using h.f0
  · simpa [World.frozen?_setCell] using h.f1
  · simpa [World.frozen?_setCell] using h.f2
theorem Tr3.other {w : World} {g g' : Nat} {x y z : Value} (h : Tr3 w g x y z) (hg : g' ≠ g) (x' y' z' : Value) : Tr3 (((w.setCell ⟨g', 0, none⟩ x').setCell ⟨g', 1, none⟩ y').setCell ⟨g', 2, none⟩ z') g x y z := by
  refine ⟨?_, ?_, ?_, ?_, ?_, ?_, by simpa using h.lt⟩
  · exact (World.cell?_setCell_other _ _ _ _ (by simp)).trans ((World.cell?_setCell_other _ _ _ _ (by simp)).trans ((World.cell?_setCell_other _ _ _ _ (by simp)).trans h.c0))
  · exact (World.cell?_setCell_other _ _ _ _ (by simp)).trans ((World.cell?_setCell_other _ _ _ _ (by simp)).trans ((World.cell?_setCell_other _ _ _ _ (by simp)).trans h.c1))
  · exact (World.cell?_setCell_other _ _ _ _ (by simp)).trans ((World.cell?_setCell_other _ _ _ _ (by simp)).trans ((World.cell?_setCell_other _ _ _ _ (by simp)).trans h.c2))
  · simpa [World.frozen?_setCell] using h.f0
  · simpa [World.frozen?_setCell] using h.f1
  · simpa [World.frozen?_setCell] using h.f2
set_option maxRecDepth 100000 in
set_option maxHeartbeats 16000000 in
theorem l5Clash_any (A : Nat) (v : Value) (l : Prl) (x : Int) (u : Value) (ls : List Int) (pv : Value) (p : List Int) (w : World) (hv : Prs w v l) (h0 : slF l = 0) (hx : 0 ≤ x ∧ x ≤ 255)
    (hu : w.ownsRow A 5 1 u ls.length (ls.map (Value.int .u8))) (hbt : Bts ls) (hll : ls.length ≤ 200) (hp : Ints .i64 w pv p) (hok : Okv pv) (hp8 : p.length = 8) (hall : p.all sumB = true) :
    Calls Try.prog 89 #[v, .int .i64 x, u, pv] w fun e w' => ClAns w (l2B (ocW l x (sumL ls) p ls (lfT l x) 8).1 (ocW l x (sumL ls) p ls (lfT l x) 8).2) (ocW l x (sumL ls) p ls (lfT l x) 8).1 (ocW l x (sumL ls) p ls (lfT l x) 8).2 e w' := by
  have hsl := slF_ok h0
  have hsb := sumL_bd ls
  have hS := fun w' h => l2Sum_any u ls w' ((own_ints hu).below h) hbt (by omega)
  have HT : Hid (∀ w', Below w.heap.size w w' → Calls Try.prog 116 #[v, .int .i64 x] w' fun e w'' => ∃ v', e = .returned v' ∧ w''.ownsRow w'.heap.size 5 1 v' (lfT l x).length ((lfT l x).map (Value.int .u8)) ∧ Below w'.heap.size w' w'') := fun w' h => l5There_any v l x w' (hv.below h) h0 hx
  have HCl : Hid (∀ (B : Nat) (u' : Value) w', Below w.heap.size w w' → w'.ownsRow B 5 1 u' (lfT l x).length ((lfT l x).map (Value.int .u8)) → Calls Try.prog 115 #[u, u'] w' fun e w'' => ClAns w' (l2B ls (lfT l x)) ls (lfT l x) e w'') :=
    fun B u' w' h h' => (l2Clash_any A B u u' ls (lfT l x) w' (own_below hu h) h' hbt (leafL_bts (lfT_askd h0 hx)) (by omega) (by have := leafL_len x (thr l x) (fsV l x); unfold lfT; omega)).mono fun _ _ h => clAns_of h
  have HV : Hid (∀ w', Below w.heap.size w w' → Prs w' v l) := fun w' h => hv.below h
  obtain ⟨va, vc, rfl⟩ := hv.shape
  obtain ⟨ua, uc, rfl⟩ := own_shape hu
  obtain ⟨pa, pc, rfl⟩ := hp.shape
  obtain ⟨-, b, off, rfl, hpb, hpc⟩ := hp.at (by omega)
  have HPC : Hid (∀ w', Below w.heap.size w w' → b < w'.heap.size ∧ ∀ j, j < p.length → w'.cell? ⟨b, off + j, none⟩ = some (.int .i64 (p.getD j 0))) := fun w' h => ⟨Nat.lt_of_lt_of_le hpb h.size, fun j hj => (h.cell (p := ⟨b, off + j, none⟩) hpb).trans (hpc j hj)⟩
  have hpk : p.length ≤ pc := (hok _ _ _ rfl).1
  rw [hp8] at hpk
  have HP8 : Hid (p.length = 8) := hp8
  have HAL : Hid (p.all sumB = true) := hall
  have HF : Hid (∀ p ∈ l, fine p = true) := hsl.fin
  have HLL : Hid (l.length ≤ 12) := hsl.len
  rw [hp8]
  generalize sumL ls = s at *
  obtain ⟨n, hn⟩ : ∃ n, n = l.length := ⟨_, rfl⟩
  obtain ⟨m, hm⟩ : ∃ m, m = ls.length := ⟨_, rfl⟩
  rw [← hn] at HV HT ⊢
  rw [← hm] at HCl hS ⊢
  generalize lfT l x = tt at *
  obtain ⟨W0, hW0⟩ : ∃ W0, W0 = w.alloc (.cells #[.bool false, .slice none 0 0, .slice none 0 0] 58) := ⟨_, rfl⟩
  have HW0 : Hid (w.alloc (.cells #[.bool false, .slice none 0 0, .slice none 0 0] 58) = W0) := hW0.symm
  have HBW : Hid (Below w.heap.size w W0) := by rw [hW0]; exact one_new _
  have HT3 : Hid (Tr3 W0 w.heap.size (.bool false) (.slice none 0 0) (.slice none 0 0)) := by rw [hW0]; exact Tr3.new _ _ _ _ _
  have HUP : Hid (∀ w', Below W0.heap.size W0 w' → Below w.heap.size w w') := fun w' h => by rw [hW0] at h; exact below_after h
  have HSZ : Hid (w.heap.size + 1 = W0.heap.size) := by show _ = _; rw [hW0]; simp
  clear hok hv hu hp hn hm hpc hpb hsl hall h0 hp8 hW0
  go_enter Try.func89, Try.ntmps89
  go_wp2_with fail
  refine (hS _ (one_new _)).mono ?_
  rintro e w1 ⟨rfl, rfl⟩
  rw [HW0.out]
  clear hS
  go_wp2
  go_loopw [10] (fun i wr => ∃ k : Nat, k ≤ 8 ∧ i = .int .i64 ((k : Int) - 1) ∧ Hid (Below W0.heap.size W0 wr) ∧ Hid (ocW l x s p ls tt 8 = ocW l x s p ls tt k)) (fun i _ => (intOf i + 1).toNat)
  case atStart => exact ⟨8, Nat.le_refl _, rfl, Below.refl _ _, rfl⟩
  case round =>
    obtain ⟨k, hk, rfl, hB, hW⟩ := hrel
    obtain ⟨K, hK⟩ : ∃ K : Int, K = (k : Int) - 1 := ⟨_, rfl⟩
    rw [← hK]
    rcases (by omega : (k = 0 ∧ K = -1) ∨ (k = 1 ∧ K = 0) ∨ (k = 2 ∧ K = 1) ∨ (k = 3 ∧ K = 2) ∨ (k = 4 ∧ K = 3) ∨ (k = 5 ∧ K = 4) ∨ (k = 6 ∧ K = 5) ∨ (k = 7 ∧ K = 6) ∨ (k = 8 ∧ K = 7)) with ⟨rfl, rfl⟩ | ⟨rfl, rfl⟩ | ⟨rfl, rfl⟩ | ⟨rfl, rfl⟩ | ⟨rfl, rfl⟩ | ⟨rfl, rfl⟩ | ⟨rfl, rfl⟩ | ⟨rfl, rfl⟩ | ⟨rfl, rfl⟩
    · -- the leaves
      clear hK hk
      have hBw := HUP.out _ hB.out
      have hT := HT.out _ hBw
      go_wp2_with fail
      refine hT.mono ?_
      rintro e w2 ⟨v', rfl, own2, hb2⟩
      obtain ⟨a2, c2, rfl⟩ := own_shape own2
      have hB2 := below_after_of hB.out hb2
      have hC := HCl.out _ _ _ (HUP.out _ hB2) own2
      generalize tt.length = tn at *
      clear hT hb2 own2
      go_wp2_with fail
      refine hC.mono ?_
      rintro e w3 ⟨hb3, a3, n3, c3, a4, n4, c4, rfl, hr⟩
      have hB3 := below_after_of hB2 hb3
      obtain ⟨q0, q1, q2, f0, f1, f2, -⟩ := HT3.out.below hB3
      have HR : Hid (Rows2 W0 w3 (.slice a3 n3 c3) (.slice a4 n4 c4) (l2B ls tt) ls tt) := hr.mono hB2.size
      have HB3 := HUP.out _ hB3
      have hlt : w.heap.size < W0.heap.size := by rw [← HSZ.out]; omega
      have HE : Hid (ocW l x s p ls tt 8 = (ls, tt)) := by show _ = _; rw [hW.out]; rfl
      clear hC hb3 hr hB3 hB2
      go_wp2
      exact bodyPost_ret (v := .agg #[.bool (l2B ls tt), .slice a3 n3 c3, .slice a4 n4 c4]) (by simp [results, Try.results89, go_sem, q0, q1, q2]) rfl (by
        rw [HE.out]
        exact ⟨((HB3.setCell (Nat.le_refl _) _).setCell (Nat.le_refl _) _).setCell (Nat.le_refl _) _, _, _, _, _, _, _, rfl, ((((HR.out.set hlt 0 _).set hlt 1 _).set hlt 2 _)).mono HBW.out.size⟩)
    · -- level 0
      obtain ⟨q, hq⟩ : ∃ q : Int, q = x / 2 := ⟨_, rfl⟩
      have HQ : Hid (q = x / (2 ^ (0 + 1) : Nat)) := hq
      have hqb : 0 ≤ q ∧ q * 2 ≤ 255 := by omega
      have e1 : x.tdiv 2 = q := by rw [Int.tdiv_eq_ediv_of_nonneg hx.1]; exact hq.symm
      have e1b : x / 2 = q := hq.symm
      have HY : Hid (x = x / (2 ^ 0 : Nat)) := by show _ = _; simp
      have e3 : x.tmod 2 = x % 2 := by rw [Int.tmod_eq_emod_of_nonneg (by omega)]
      clear hq hK hk 
      have hBw := HUP.out _ hB.out
      have hM := fun w' h => l5Climb_take x s b off pc p 0 w' hx hsb (HPC.out w' h).1 (by omega) HP8.out HAL.out (HPC.out w' h).2
      have hN1 := fun w' h => l4Node_0 (.slice va n vc) l (q * 2) (2 * q) w' (HV.out w' h) (Nat.le_trans HLL.out (by omega)) HF.out (by show _ = _; omega) (by omega)
      have hN2 := fun w' h => l4Node_0 (.slice va n vc) l (q * 2 + 1) (2 * q + 1) w' (HV.out w' h) (Nat.le_trans HLL.out (by omega)) HF.out (by show _ = _; omega) (by omega)
      have hb1 := clm_bd (x := x) (p := p) hsb 0
      have hb2 := nd_bd l 0 (2 * q)
      have hb3 := nd_bd l 0 (2 * q + 1)
      have hb4 := path_at HAL.out 0
      have HPE : Hid (x % 2 = 0 → tagL 2 [clm x s p 0, p.getD 0 0] = ndP x s p 0 ∧ tagL 2 [nd l 0 (2 * q), nd l 0 (2 * q + 1)] = ndT l x 0) := fun h => piece_even (by rw [← HY.out]; exact h) HQ.out
      have HPO : Hid (¬ x % 2 = 0 → tagL 2 [p.getD 0 0, clm x s p 0] = ndP x s p 0 ∧ tagL 2 [nd l 0 (2 * q), nd l 0 (2 * q + 1)] = ndT l x 0) := fun h => piece_odd (by rw [← HY.out]; exact h) HQ.out
      have HCK : Hid (∀ w', Below w.heap.size w w' → w'.cell? ⟨b, off, none⟩ = some (.int .i64 (p.getD 0 0))) := fun w' h => (HPC.out w' h).2 0 (by rw [HP8.out]; omega)
      generalize clm x s p 0 = mi at *
      generalize nd l 0 (2 * q) = na at *
      generalize nd l 0 (2 * q + 1) = nb at *
      generalize p.getD 0 0 = o at *
      go_wp2_with fail
      refine (hM _ hBw).mono ?_
      rintro e w2 ⟨rfl, hc2⟩
      have hB2 := below_after_of hB.out hc2
      have hBw2 := HUP.out _ hB2
      clear hM hc2
      go_wp2_with fail
      refine (hN1 _ hBw2).mono ?_
      rintro e w3 ⟨rfl, hc3⟩
      have hB3 := below_after_of hB2 hc3
      have hBw3 := HUP.out _ hB3
      clear hN1 hc3 hB2 hBw2
      go_wp2_with fail
      refine (hN2 _ hBw3).mono ?_
      rintro e w4 ⟨rfl, hc4⟩
      have hB4 := below_after_of hB3 hc4
      have hBw4 := HUP.out _ hB4
      have ck := HCK.out _ hBw4
      clear hN2 hc4 hB3 hBw3
      have hX1 := fun w' => l5Nodes_any o mi na nb w' hb4 hb1 hb2 hb3
      go_wp2_with fail
      refine (hX1 _).mono ?_
      rintro e w5 ⟨hc5, a3, n3, c3, a4, n4, c4, rfl, hr⟩
      have hB5 := below_after_of hB4 hc5
      have hBw5 := HUP.out _ hB5
      clear hX1 hc5 ck
      by_cases h2 : x % 2 = 0
      · have h2b : (x % 2 == 0) = true := by simpa using h2
        have G5 := Tr3.new w5 (.bool (l2B (tagL 2 [o, mi]) (tagL 2 [na, nb]))) (.slice a3 n3 c3) (.slice a4 n4 c4) 58
        obtain ⟨W5, hW5⟩ : ∃ W5, W5 = w5.alloc (.cells #[.bool (l2B (tagL 2 [o, mi]) (tagL 2 [na, nb])), .slice a3 n3 c3, .slice a4 n4 c4] 58) := ⟨_, rfl⟩
        have hBW5 : Below W0.heap.size W0 W5 := by rw [hW5]; exact below_after_of hB5 (one_new _)
        have HW5 : Hid (w5.alloc (.cells #[.bool (l2B (tagL 2 [o, mi]) (tagL 2 [na, nb])), .slice a3 n3 c3, .slice a4 n4 c4] 58) = W5) := hW5.symm
        rw [← hW5] at G5
        have ck := (HCK.out _ (HUP.out _ hBW5))
        have hX2 := fun w' => l5Nodes_any mi o na nb w' hb1 hb4 hb2 hb3
        rw [(HPE.out h2).1, (HPE.out h2).2] at hX2
        have hsz5 : W0.heap.size ≤ w5.heap.size := hB5.size
        have ck2 : (w5.alloc (.cells #[.bool (l2B (tagL 2 [o, mi]) (tagL 2 [na, nb])), .slice a3 n3 c3, .slice a4 n4 c4] 58)).cell? ⟨b, off, none⟩ = some (.int .i64 o) := by rw [HW5.out]; exact ck
        generalize l2B (tagL 2 [o, mi]) (tagL 2 [na, nb]) = fx at *
        clear hr hW5 hB5 hBw5 hB4 hBw4 HPE HPO h2
        go_wp2_with fail
        rw [HW5.out]
        refine (hX2 _).mono ?_
        rintro e w6 ⟨hc6, a5, n5, c5, a6, n6, c6, rfl, hr⟩
        have hB6 := below_after_of hBW5 hc6
        have G6 := G5.below hc6
        have hr := hr.mono (Nat.le_refl _)
        clear hX2 hc6 ck ck2 hBW5
        generalize hff : l2B (ndP x s p 0) (ndT l x 0) = f at *
        obtain ⟨k0, k1, k2, z0, z1, z2, hlt6⟩ := G6
        cases f
        · go_wp2
          go_roundw
          case rel => exact ⟨0, by omega, rfl, ((hB6.setCell hsz5 _).setCell hsz5 _).setCell hsz5 _, by show _ = _; first | rw [hW.out, ocW_no hff] | rw [ocW_no hff]⟩
          case measure => simp [intOf]
        · have T6 := HT3.out.below hB6
          have T7 := T6.other (g' := w5.heap.size) (fun e => by have := HSZ.out; omega) (.bool true) (.slice a5 n5 c5) (.slice a6 n6 c6)
          obtain ⟨t0, t1, t2, y0, y1, y2, -⟩ := T7
          have G7 := (Tr3.mk k0 k1 k2 z0 z1 z2 hlt6).set (.bool true) (.slice a5 n5 c5) (.slice a6 n6 c6)
          obtain ⟨g0, g1, g2, -, -, -, -⟩ := G7
          obtain ⟨W7, hW7⟩ : ∃ W7, W7 = ((w6.setCell ⟨w5.heap.size, 0, none⟩ (.bool true)).setCell ⟨w5.heap.size, 1, none⟩ (.slice a5 n5 c5)).setCell ⟨w5.heap.size, 2, none⟩ (.slice a6 n6 c6) := ⟨_, rfl⟩
          have hB7 : Below W0.heap.size W0 W7 := by rw [hW7]; exact ((hB6.setCell hsz5 _).setCell hsz5 _).setCell hsz5 _
          have hwl : w5.heap.size < W5.heap.size := by have := HW5.out; rw [← this]; simp
          have hr7 : Rows2 W5 W7 (.slice a5 n5 c5) (.slice a6 n6 c6) true (ndP x s p 0) (ndT l x 0) := by rw [hW7]; exact ((hr.set hwl 0 _).set hwl 1 _).set hwl 2 _
          have hr8 := hr7.mono (w0 := W0) (by omega)
          have hlt : w.heap.size < W0.heap.size := by rw [← HSZ.out]; omega
          have HB7 := HUP.out _ hB7
          have HE : Hid (ocW l x s p ls tt 8 = (ndP x s p 0, ndT l x 0)) := by show _ = _; first | rw [hW.out, ocW_yes hff] | rw [ocW_yes hff]
          have HFF : Hid (l2B (ndP x s p 0) (ndT l x 0) = true) := hff
          have HW7 : Hid (((w6.setCell ⟨w5.heap.size, 0, none⟩ (.bool true)).setCell ⟨w5.heap.size, 1, none⟩ (.slice a5 n5 c5)).setCell ⟨w5.heap.size, 2, none⟩ (.slice a6 n6 c6) = W7) := hW7.symm
          clear hr hr7 hB6 hff hW7 T6
          go_wp2
          rw [HW7.out] at t0 t1 t2 ⊢
          exact bodyPost_ret (v := .agg #[.bool true, .slice a5 n5 c5, .slice a6 n6 c6]) (by simp [results, Try.results89, go_sem, t0, t1, t2]) rfl (by
            rw [HE.out, HFF.out]
            exact ⟨((HB7.setCell (Nat.le_refl _) _).setCell (Nat.le_refl _) _).setCell (Nat.le_refl _) _, _, _, _, _, _, _, rfl, ((((hr8.set hlt 0 _).set hlt 1 _).set hlt 2 _)).mono HBW.out.size⟩)
      · have h2b : (x % 2 == 0) = false := by simpa using h2
        rw [(HPO.out h2).1, (HPO.out h2).2] at hr ⊢
        have hr8 := hr.mono (w0 := W0) hB4.size
        generalize hff : l2B (ndP x s p 0) (ndT l x 0) = f at *
        have T5 := HT3.out.below hB5
        have hsz5 : W0.heap.size ≤ w5.heap.size := hB5.size
        have T6 := T5.below (one_new (.cells #[.bool f, .slice a3 n3 c3, .slice a4 n4 c4] 58))
        obtain ⟨t0, t1, t2, y0, y1, y2, -⟩ := T6
        have hB6 := below_after_of hB5 (one_new (.cells #[.bool f, .slice a3 n3 c3, .slice a4 n4 c4] 58))
        have hr9 := hr8.below (one_new (.cells #[.bool f, .slice a3 n3 c3, .slice a4 n4 c4] 58))
        have hlt : w.heap.size < W0.heap.size := by rw [← HSZ.out]; omega
        have HB6 := HUP.out _ hB6
        have HR9 : Hid (Rows2 W0 (w5.alloc (.cells #[.bool f, .slice a3 n3 c3, .slice a4 n4 c4] 58)) (.slice a3 n3 c3) (.slice a4 n4 c4) f (ndP x s p 0) (ndT l x 0)) := hr9
        clear hr hr8 hr9 T5 HPE HPO h2
        cases f
        · go_wp2
          go_roundw
          case rel => exact ⟨0, by omega, rfl, hB6, by show _ = _; first | rw [hW.out, ocW_no hff] | rw [ocW_no hff]⟩
          case measure => simp [intOf]
        · have HE : Hid (ocW l x s p ls tt 8 = (ndP x s p 0, ndT l x 0)) := by show _ = _; first | rw [hW.out, ocW_yes hff] | rw [ocW_yes hff]
          have HFF : Hid (l2B (ndP x s p 0) (ndT l x 0) = true) := hff
          clear hff
          go_wp2
          exact bodyPost_ret (v := .agg #[.bool true, .slice a3 n3 c3, .slice a4 n4 c4]) (by simp [results, Try.results89, go_sem, t0, t1, t2]) rfl (by
            rw [HE.out, HFF.out]
            exact ⟨((HB6.setCell (Nat.le_refl _) _).setCell (Nat.le_refl _) _).setCell (Nat.le_refl _) _, _, _, _, _, _, _, rfl, ((((HR9.out.set hlt 0 _).set hlt 1 _).set hlt 2 _)).mono HBW.out.size⟩)
    · -- level 1
      obtain ⟨q, hq⟩ : ∃ q : Int, q = x / 4 := ⟨_, rfl⟩
      have HQ : Hid (q = x / (2 ^ (1 + 1) : Nat)) := hq
      have hqb : 0 ≤ q ∧ q * 4 ≤ 255 := by omega
      have e1 : x.tdiv 4 = q := by rw [Int.tdiv_eq_ediv_of_nonneg hx.1]; exact hq.symm
      have e1b : x / 4 = q := hq.symm
      obtain ⟨y, hy⟩ : ∃ y : Int, y = x / 2 := ⟨_, rfl⟩
      have HY : Hid (y = x / (2 ^ 1 : Nat)) := hy
      have hyb : 0 ≤ y := by omega
      have e2 : x / 2 = y := hy.symm
      have e3 : y.tmod 2 = y % 2 := by rw [Int.tmod_eq_emod_of_nonneg (by omega)]
      clear hq hK hk hy
      have hBw := HUP.out _ hB.out
      have hM := fun w' h => l5Climb_take x s b off pc p 1 w' hx hsb (HPC.out w' h).1 (by omega) HP8.out HAL.out (HPC.out w' h).2
      have hN1 := fun w' h => l4Node_1 (.slice va n vc) l (q * 4) (2 * q) w' (HV.out w' h) (Nat.le_trans HLL.out (by omega)) HF.out (by show _ = _; omega) (by omega)
      have hN2 := fun w' h => l4Node_1 (.slice va n vc) l (q * 4 + 2) (2 * q + 1) w' (HV.out w' h) (Nat.le_trans HLL.out (by omega)) HF.out (by show _ = _; omega) (by omega)
      have hb1 := clm_bd (x := x) (p := p) hsb 1
      have hb2 := nd_bd l 1 (2 * q)
      have hb3 := nd_bd l 1 (2 * q + 1)
      have hb4 := path_at HAL.out 1
      have HPE : Hid (y % 2 = 0 → tagL 2 [clm x s p 1, p.getD 1 0] = ndP x s p 1 ∧ tagL 2 [nd l 1 (2 * q), nd l 1 (2 * q + 1)] = ndT l x 1) := fun h => piece_even (by rw [← HY.out]; exact h) HQ.out
      have HPO : Hid (¬ y % 2 = 0 → tagL 2 [p.getD 1 0, clm x s p 1] = ndP x s p 1 ∧ tagL 2 [nd l 1 (2 * q), nd l 1 (2 * q + 1)] = ndT l x 1) := fun h => piece_odd (by rw [← HY.out]; exact h) HQ.out
      have HCK : Hid (∀ w', Below w.heap.size w w' → w'.cell? ⟨b, off + 1, none⟩ = some (.int .i64 (p.getD 1 0))) := fun w' h => (HPC.out w' h).2 1 (by rw [HP8.out]; omega)
      generalize clm x s p 1 = mi at *
      generalize nd l 1 (2 * q) = na at *
      generalize nd l 1 (2 * q + 1) = nb at *
      generalize p.getD 1 0 = o at *
      go_wp2_with fail
      refine (hM _ hBw).mono ?_
      rintro e w2 ⟨rfl, hc2⟩
      have hB2 := below_after_of hB.out hc2
      have hBw2 := HUP.out _ hB2
      clear hM hc2
      go_wp2_with fail
      refine (hN1 _ hBw2).mono ?_
      rintro e w3 ⟨rfl, hc3⟩
      have hB3 := below_after_of hB2 hc3
      have hBw3 := HUP.out _ hB3
      clear hN1 hc3 hB2 hBw2
      go_wp2_with fail
      refine (hN2 _ hBw3).mono ?_
      rintro e w4 ⟨rfl, hc4⟩
      have hB4 := below_after_of hB3 hc4
      have hBw4 := HUP.out _ hB4
      have ck := HCK.out _ hBw4
      clear hN2 hc4 hB3 hBw3
      have hX1 := fun w' => l5Nodes_any o mi na nb w' hb4 hb1 hb2 hb3
      go_wp2_with fail
      refine (hX1 _).mono ?_
      rintro e w5 ⟨hc5, a3, n3, c3, a4, n4, c4, rfl, hr⟩
      have hB5 := below_after_of hB4 hc5
      have hBw5 := HUP.out _ hB5
      clear hX1 hc5 ck
      by_cases h2 : y % 2 = 0
      · have h2b : (y % 2 == 0) = true := by simpa using h2
        have G5 := Tr3.new w5 (.bool (l2B (tagL 2 [o, mi]) (tagL 2 [na, nb]))) (.slice a3 n3 c3) (.slice a4 n4 c4) 58
        obtain ⟨W5, hW5⟩ : ∃ W5, W5 = w5.alloc (.cells #[.bool (l2B (tagL 2 [o, mi]) (tagL 2 [na, nb])), .slice a3 n3 c3, .slice a4 n4 c4] 58) := ⟨_, rfl⟩
        have hBW5 : Below W0.heap.size W0 W5 := by rw [hW5]; exact below_after_of hB5 (one_new _)
        have HW5 : Hid (w5.alloc (.cells #[.bool (l2B (tagL 2 [o, mi]) (tagL 2 [na, nb])), .slice a3 n3 c3, .slice a4 n4 c4] 58) = W5) := hW5.symm
        rw [← hW5] at G5
        have ck := (HCK.out _ (HUP.out _ hBW5))
        have hX2 := fun w' => l5Nodes_any mi o na nb w' hb1 hb4 hb2 hb3
        rw [(HPE.out h2).1, (HPE.out h2).2] at hX2
        have hsz5 : W0.heap.size ≤ w5.heap.size := hB5.size
        have ck2 : (w5.alloc (.cells #[.bool (l2B (tagL 2 [o, mi]) (tagL 2 [na, nb])), .slice a3 n3 c3, .slice a4 n4 c4] 58)).cell? ⟨b, off + 1, none⟩ = some (.int .i64 o) := by rw [HW5.out]; exact ck
        generalize l2B (tagL 2 [o, mi]) (tagL 2 [na, nb]) = fx at *
        clear hr hW5 hB5 hBw5 hB4 hBw4 HPE HPO h2
        go_wp2_with fail
        rw [HW5.out]
        refine (hX2 _).mono ?_
        rintro e w6 ⟨hc6, a5, n5, c5, a6, n6, c6, rfl, hr⟩
        have hB6 := below_after_of hBW5 hc6
        have G6 := G5.below hc6
        have hr := hr.mono (Nat.le_refl _)
        clear hX2 hc6 ck ck2 hBW5
        generalize hff : l2B (ndP x s p 1) (ndT l x 1) = f at *
        obtain ⟨k0, k1, k2, z0, z1, z2, hlt6⟩ := G6
        cases f
        · go_wp2
          go_roundw
          case rel => exact ⟨1, by omega, rfl, ((hB6.setCell hsz5 _).setCell hsz5 _).setCell hsz5 _, by show _ = _; first | rw [hW.out, ocW_no hff] | rw [ocW_no hff]⟩
          case measure => simp [intOf]
        · have T6 := HT3.out.below hB6
          have T7 := T6.other (g' := w5.heap.size) (fun e => by have := HSZ.out; omega) (.bool true) (.slice a5 n5 c5) (.slice a6 n6 c6)
          obtain ⟨t0, t1, t2, y0, y1, y2, -⟩ := T7
          have G7 := (Tr3.mk k0 k1 k2 z0 z1 z2 hlt6).set (.bool true) (.slice a5 n5 c5) (.slice a6 n6 c6)
          obtain ⟨g0, g1, g2, -, -, -, -⟩ := G7
          obtain ⟨W7, hW7⟩ : ∃ W7, W7 = ((w6.setCell ⟨w5.heap.size, 0, none⟩ (.bool true)).setCell ⟨w5.heap.size, 1, none⟩ (.slice a5 n5 c5)).setCell ⟨w5.heap.size, 2, none⟩ (.slice a6 n6 c6) := ⟨_, rfl⟩
          have hB7 : Below W0.heap.size W0 W7 := by rw [hW7]; exact ((hB6.setCell hsz5 _).setCell hsz5 _).setCell hsz5 _
          have hwl : w5.heap.size < W5.heap.size := by have := HW5.out; rw [← this]; simp
          have hr7 : Rows2 W5 W7 (.slice a5 n5 c5) (.slice a6 n6 c6) true (ndP x s p 1) (ndT l x 1) := by rw [hW7]; exact ((hr.set hwl 0 _).set hwl 1 _).set hwl 2 _
          have hr8 := hr7.mono (w0 := W0) (by omega)
          have hlt : w.heap.size < W0.heap.size := by rw [← HSZ.out]; omega
          have HB7 := HUP.out _ hB7
          have HE : Hid (ocW l x s p ls tt 8 = (ndP x s p 1, ndT l x 1)) := by show _ = _; first | rw [hW.out, ocW_yes hff] | rw [ocW_yes hff]
          have HFF : Hid (l2B (ndP x s p 1) (ndT l x 1) = true) := hff
          have HW7 : Hid (((w6.setCell ⟨w5.heap.size, 0, none⟩ (.bool true)).setCell ⟨w5.heap.size, 1, none⟩ (.slice a5 n5 c5)).setCell ⟨w5.heap.size, 2, none⟩ (.slice a6 n6 c6) = W7) := hW7.symm
          clear hr hr7 hB6 hff hW7 T6
          go_wp2
          rw [HW7.out] at t0 t1 t2 ⊢
          exact bodyPost_ret (v := .agg #[.bool true, .slice a5 n5 c5, .slice a6 n6 c6]) (by simp [results, Try.results89, go_sem, t0, t1, t2]) rfl (by
            rw [HE.out, HFF.out]
            exact ⟨((HB7.setCell (Nat.le_refl _) _).setCell (Nat.le_refl _) _).setCell (Nat.le_refl _) _, _, _, _, _, _, _, rfl, ((((hr8.set hlt 0 _).set hlt 1 _).set hlt 2 _)).mono HBW.out.size⟩)
      · have h2b : (y % 2 == 0) = false := by simpa using h2
        rw [(HPO.out h2).1, (HPO.out h2).2] at hr ⊢
        have hr8 := hr.mono (w0 := W0) hB4.size
        generalize hff : l2B (ndP x s p 1) (ndT l x 1) = f at *
        have T5 := HT3.out.below hB5
        have hsz5 : W0.heap.size ≤ w5.heap.size := hB5.size
        have T6 := T5.below (one_new (.cells #[.bool f, .slice a3 n3 c3, .slice a4 n4 c4] 58))
        obtain ⟨t0, t1, t2, y0, y1, y2, -⟩ := T6
        have hB6 := below_after_of hB5 (one_new (.cells #[.bool f, .slice a3 n3 c3, .slice a4 n4 c4] 58))
        have hr9 := hr8.below (one_new (.cells #[.bool f, .slice a3 n3 c3, .slice a4 n4 c4] 58))
        have hlt : w.heap.size < W0.heap.size := by rw [← HSZ.out]; omega
        have HB6 := HUP.out _ hB6
        have HR9 : Hid (Rows2 W0 (w5.alloc (.cells #[.bool f, .slice a3 n3 c3, .slice a4 n4 c4] 58)) (.slice a3 n3 c3) (.slice a4 n4 c4) f (ndP x s p 1) (ndT l x 1)) := hr9
        clear hr hr8 hr9 T5 HPE HPO h2
        cases f
        · go_wp2
          go_roundw
          case rel => exact ⟨1, by omega, rfl, hB6, by show _ = _; first | rw [hW.out, ocW_no hff] | rw [ocW_no hff]⟩
          case measure => simp [intOf]
        · have HE : Hid (ocW l x s p ls tt 8 = (ndP x s p 1, ndT l x 1)) := by show _ = _; first | rw [hW.out, ocW_yes hff] | rw [ocW_yes hff]
          have HFF : Hid (l2B (ndP x s p 1) (ndT l x 1) = true) := hff
          clear hff
          go_wp2
          exact bodyPost_ret (v := .agg #[.bool true, .slice a3 n3 c3, .slice a4 n4 c4]) (by simp [results, Try.results89, go_sem, t0, t1, t2]) rfl (by
            rw [HE.out, HFF.out]
            exact ⟨((HB6.setCell (Nat.le_refl _) _).setCell (Nat.le_refl _) _).setCell (Nat.le_refl _) _, _, _, _, _, _, _, rfl, ((((HR9.out.set hlt 0 _).set hlt 1 _).set hlt 2 _)).mono HBW.out.size⟩)
    · -- level 2
      obtain ⟨q, hq⟩ : ∃ q : Int, q = x / 8 := ⟨_, rfl⟩
      have HQ : Hid (q = x / (2 ^ (2 + 1) : Nat)) := hq
      have hqb : 0 ≤ q ∧ q * 8 ≤ 255 := by omega
      have e1 : x.tdiv 8 = q := by rw [Int.tdiv_eq_ediv_of_nonneg hx.1]; exact hq.symm
      have e1b : x / 8 = q := hq.symm
      obtain ⟨y, hy⟩ : ∃ y : Int, y = x / 4 := ⟨_, rfl⟩
      have HY : Hid (y = x / (2 ^ 2 : Nat)) := hy
      have hyb : 0 ≤ y := by omega
      have e2 : x / 4 = y := hy.symm
      have e3 : y.tmod 2 = y % 2 := by rw [Int.tmod_eq_emod_of_nonneg (by omega)]
      clear hq hK hk hy
      have hBw := HUP.out _ hB.out
      have hM := fun w' h => l5Climb_take x s b off pc p 2 w' hx hsb (HPC.out w' h).1 (by omega) HP8.out HAL.out (HPC.out w' h).2
      have hN1 := fun w' h => l4Node_2 (.slice va n vc) l (q * 8) (2 * q) w' (HV.out w' h) (Nat.le_trans HLL.out (by omega)) HF.out (by show _ = _; omega) (by omega)
      have hN2 := fun w' h => l4Node_2 (.slice va n vc) l (q * 8 + 4) (2 * q + 1) w' (HV.out w' h) (Nat.le_trans HLL.out (by omega)) HF.out (by show _ = _; omega) (by omega)
      have hb1 := clm_bd (x := x) (p := p) hsb 2
      have hb2 := nd_bd l 2 (2 * q)
      have hb3 := nd_bd l 2 (2 * q + 1)
      have hb4 := path_at HAL.out 2
      have HPE : Hid (y % 2 = 0 → tagL 2 [clm x s p 2, p.getD 2 0] = ndP x s p 2 ∧ tagL 2 [nd l 2 (2 * q), nd l 2 (2 * q + 1)] = ndT l x 2) := fun h => piece_even (by rw [← HY.out]; exact h) HQ.out
      have HPO : Hid (¬ y % 2 = 0 → tagL 2 [p.getD 2 0, clm x s p 2] = ndP x s p 2 ∧ tagL 2 [nd l 2 (2 * q), nd l 2 (2 * q + 1)] = ndT l x 2) := fun h => piece_odd (by rw [← HY.out]; exact h) HQ.out
      have HCK : Hid (∀ w', Below w.heap.size w w' → w'.cell? ⟨b, off + 2, none⟩ = some (.int .i64 (p.getD 2 0))) := fun w' h => (HPC.out w' h).2 2 (by rw [HP8.out]; omega)
      generalize clm x s p 2 = mi at *
      generalize nd l 2 (2 * q) = na at *
      generalize nd l 2 (2 * q + 1) = nb at *
      generalize p.getD 2 0 = o at *
      go_wp2_with fail
      refine (hM _ hBw).mono ?_
      rintro e w2 ⟨rfl, hc2⟩
      have hB2 := below_after_of hB.out hc2
      have hBw2 := HUP.out _ hB2
      clear hM hc2
      go_wp2_with fail
      refine (hN1 _ hBw2).mono ?_
      rintro e w3 ⟨rfl, hc3⟩
      have hB3 := below_after_of hB2 hc3
      have hBw3 := HUP.out _ hB3
      clear hN1 hc3 hB2 hBw2
      go_wp2_with fail
      refine (hN2 _ hBw3).mono ?_
      rintro e w4 ⟨rfl, hc4⟩
      have hB4 := below_after_of hB3 hc4
      have hBw4 := HUP.out _ hB4
      have ck := HCK.out _ hBw4
      clear hN2 hc4 hB3 hBw3
      have hX1 := fun w' => l5Nodes_any o mi na nb w' hb4 hb1 hb2 hb3
      go_wp2_with fail
      refine (hX1 _).mono ?_
      rintro e w5 ⟨hc5, a3, n3, c3, a4, n4, c4, rfl, hr⟩
      have hB5 := below_after_of hB4 hc5
      have hBw5 := HUP.out _ hB5
      clear hX1 hc5 ck
      by_cases h2 : y % 2 = 0
      · have h2b : (y % 2 == 0) = true := by simpa using h2
        have G5 := Tr3.new w5 (.bool (l2B (tagL 2 [o, mi]) (tagL 2 [na, nb]))) (.slice a3 n3 c3) (.slice a4 n4 c4) 58
        obtain ⟨W5, hW5⟩ : ∃ W5, W5 = w5.alloc (.cells #[.bool (l2B (tagL 2 [o, mi]) (tagL 2 [na, nb])), .slice a3 n3 c3, .slice a4 n4 c4] 58) := ⟨_, rfl⟩
        have hBW5 : Below W0.heap.size W0 W5 := by rw [hW5]; exact below_after_of hB5 (one_new _)
        have HW5 : Hid (w5.alloc (.cells #[.bool (l2B (tagL 2 [o, mi]) (tagL 2 [na, nb])), .slice a3 n3 c3, .slice a4 n4 c4] 58) = W5) := hW5.symm
        rw [← hW5] at G5
        have ck := (HCK.out _ (HUP.out _ hBW5))
        have hX2 := fun w' => l5Nodes_any mi o na nb w' hb1 hb4 hb2 hb3
        rw [(HPE.out h2).1, (HPE.out h2).2] at hX2
        have hsz5 : W0.heap.size ≤ w5.heap.size := hB5.size
        have ck2 : (w5.alloc (.cells #[.bool (l2B (tagL 2 [o, mi]) (tagL 2 [na, nb])), .slice a3 n3 c3, .slice a4 n4 c4] 58)).cell? ⟨b, off + 2, none⟩ = some (.int .i64 o) := by rw [HW5.out]; exact ck
        generalize l2B (tagL 2 [o, mi]) (tagL 2 [na, nb]) = fx at *
        clear hr hW5 hB5 hBw5 hB4 hBw4 HPE HPO h2
        go_wp2_with fail
        rw [HW5.out]
        refine (hX2 _).mono ?_
        rintro e w6 ⟨hc6, a5, n5, c5, a6, n6, c6, rfl, hr⟩
        have hB6 := below_after_of hBW5 hc6
        have G6 := G5.below hc6
        have hr := hr.mono (Nat.le_refl _)
        clear hX2 hc6 ck ck2 hBW5
        generalize hff : l2B (ndP x s p 2) (ndT l x 2) = f at *
        obtain ⟨k0, k1, k2, z0, z1, z2, hlt6⟩ := G6
        cases f
        · go_wp2
          go_roundw
          case rel => exact ⟨2, by omega, rfl, ((hB6.setCell hsz5 _).setCell hsz5 _).setCell hsz5 _, by show _ = _; first | rw [hW.out, ocW_no hff] | rw [ocW_no hff]⟩
          case measure => simp [intOf]
        · have T6 := HT3.out.below hB6
          have T7 := T6.other (g' := w5.heap.size) (fun e => by have := HSZ.out; omega) (.bool true) (.slice a5 n5 c5) (.slice a6 n6 c6)
          obtain ⟨t0, t1, t2, y0, y1, y2, -⟩ := T7
          have G7 := (Tr3.mk k0 k1 k2 z0 z1 z2 hlt6).set (.bool true) (.slice a5 n5 c5) (.slice a6 n6 c6)
          obtain ⟨g0, g1, g2, -, -, -, -⟩ := G7
          obtain ⟨W7, hW7⟩ : ∃ W7, W7 = ((w6.setCell ⟨w5.heap.size, 0, none⟩ (.bool true)).setCell ⟨w5.heap.size, 1, none⟩ (.slice a5 n5 c5)).setCell ⟨w5.heap.size, 2, none⟩ (.slice a6 n6 c6) := ⟨_, rfl⟩
          have hB7 : Below W0.heap.size W0 W7 := by rw [hW7]; exact ((hB6.setCell hsz5 _).setCell hsz5 _).setCell hsz5 _
          have hwl : w5.heap.size < W5.heap.size := by have := HW5.out; rw [← this]; simp
          have hr7 : Rows2 W5 W7 (.slice a5 n5 c5) (.slice a6 n6 c6) true (ndP x s p 2) (ndT l x 2) := by rw [hW7]; exact ((hr.set hwl 0 _).set hwl 1 _).set hwl 2 _
          have hr8 := hr7.mono (w0 := W0) (by omega)
          have hlt : w.heap.size < W0.heap.size := by rw [← HSZ.out]; omega
          have HB7 := HUP.out _ hB7
          have HE : Hid (ocW l x s p ls tt 8 = (ndP x s p 2, ndT l x 2)) := by show _ = _; first | rw [hW.out, ocW_yes hff] | rw [ocW_yes hff]
          have HFF : Hid (l2B (ndP x s p 2) (ndT l x 2) = true) := hff
          have HW7 : Hid (((w6.setCell ⟨w5.heap.size, 0, none⟩ (.bool true)).setCell ⟨w5.heap.size, 1, none⟩ (.slice a5 n5 c5)).setCell ⟨w5.heap.size, 2, none⟩ (.slice a6 n6 c6) = W7) := hW7.symm
          clear hr hr7 hB6 hff hW7 T6
          go_wp2
          rw [HW7.out] at t0 t1 t2 ⊢
          exact bodyPost_ret (v := .agg #[.bool true, .slice a5 n5 c5, .slice a6 n6 c6]) (by simp [results, Try.results89, go_sem, t0, t1, t2]) rfl (by
            rw [HE.out, HFF.out]
            exact ⟨((HB7.setCell (Nat.le_refl _) _).setCell (Nat.le_refl _) _).setCell (Nat.le_refl _) _, _, _, _, _, _, _, rfl, ((((hr8.set hlt 0 _).set hlt 1 _).set hlt 2 _)).mono HBW.out.size⟩)
      · have h2b : (y % 2 == 0) = false := by simpa using h2
        rw [(HPO.out h2).1, (HPO.out h2).2] at hr ⊢
        have hr8 := hr.mono (w0 := W0) hB4.size
        generalize hff : l2B (ndP x s p 2) (ndT l x 2) = f at *
        have T5 := HT3.out.below hB5
        have hsz5 : W0.heap.size ≤ w5.heap.size := hB5.size
        have T6 := T5.below (one_new (.cells #[.bool f, .slice a3 n3 c3, .slice a4 n4 c4] 58))
        obtain ⟨t0, t1, t2, y0, y1, y2, -⟩ := T6
        have hB6 := below_after_of hB5 (one_new (.cells #[.bool f, .slice a3 n3 c3, .slice a4 n4 c4] 58))
        have hr9 := hr8.below (one_new (.cells #[.bool f, .slice a3 n3 c3, .slice a4 n4 c4] 58))
        have hlt : w.heap.size < W0.heap.size := by rw [← HSZ.out]; omega
        have HB6 := HUP.out _ hB6
        have HR9 : Hid (Rows2 W0 (w5.alloc (.cells #[.bool f, .slice a3 n3 c3, .slice a4 n4 c4] 58)) (.slice a3 n3 c3) (.slice a4 n4 c4) f (ndP x s p 2) (ndT l x 2)) := hr9
        clear hr hr8 hr9 T5 HPE HPO h2
        cases f
        · go_wp2
          go_roundw
          case rel => exact ⟨2, by omega, rfl, hB6, by show _ = _; first | rw [hW.out, ocW_no hff] | rw [ocW_no hff]⟩
          case measure => simp [intOf]
        · have HE : Hid (ocW l x s p ls tt 8 = (ndP x s p 2, ndT l x 2)) := by show _ = _; first | rw [hW.out, ocW_yes hff] | rw [ocW_yes hff]
          have HFF : Hid (l2B (ndP x s p 2) (ndT l x 2) = true) := hff
          clear hff
          go_wp2
          exact bodyPost_ret (v := .agg #[.bool true, .slice a3 n3 c3, .slice a4 n4 c4]) (by simp [results, Try.results89, go_sem, t0, t1, t2]) rfl (by
            rw [HE.out, HFF.out]
            exact ⟨((HB6.setCell (Nat.le_refl _) _).setCell (Nat.le_refl _) _).setCell (Nat.le_refl _) _, _, _, _, _, _, _, rfl, ((((HR9.out.set hlt 0 _).set hlt 1 _).set hlt 2 _)).mono HBW.out.size⟩)
    · -- level 3
      obtain ⟨q, hq⟩ : ∃ q : Int, q = x / 16 := ⟨_, rfl⟩
      have HQ : Hid (q = x / (2 ^ (3 + 1) : Nat)) := hq
      have hqb : 0 ≤ q ∧ q * 16 ≤ 255 := by omega
      have e1 : x.tdiv 16 = q := by rw [Int.tdiv_eq_ediv_of_nonneg hx.1]; exact hq.symm
      have e1b : x / 16 = q := hq.symm
      obtain ⟨y, hy⟩ : ∃ y : Int, y = x / 8 := ⟨_, rfl⟩
      have HY : Hid (y = x / (2 ^ 3 : Nat)) := hy
      have hyb : 0 ≤ y := by omega
      have e2 : x / 8 = y := hy.symm
      have e3 : y.tmod 2 = y % 2 := by rw [Int.tmod_eq_emod_of_nonneg (by omega)]
      clear hq hK hk hy
      have hBw := HUP.out _ hB.out
      have hM := fun w' h => l5Climb_take x s b off pc p 3 w' hx hsb (HPC.out w' h).1 (by omega) HP8.out HAL.out (HPC.out w' h).2
      have hN1 := fun w' h => l4Node_3 (.slice va n vc) l (q * 16) (2 * q) w' (HV.out w' h) (Nat.le_trans HLL.out (by omega)) HF.out (by show _ = _; omega) (by omega)
      have hN2 := fun w' h => l4Node_3 (.slice va n vc) l (q * 16 + 8) (2 * q + 1) w' (HV.out w' h) (Nat.le_trans HLL.out (by omega)) HF.out (by show _ = _; omega) (by omega)
      have hb1 := clm_bd (x := x) (p := p) hsb 3
      have hb2 := nd_bd l 3 (2 * q)
      have hb3 := nd_bd l 3 (2 * q + 1)
      have hb4 := path_at HAL.out 3
      have HPE : Hid (y % 2 = 0 → tagL 2 [clm x s p 3, p.getD 3 0] = ndP x s p 3 ∧ tagL 2 [nd l 3 (2 * q), nd l 3 (2 * q + 1)] = ndT l x 3) := fun h => piece_even (by rw [← HY.out]; exact h) HQ.out
      have HPO : Hid (¬ y % 2 = 0 → tagL 2 [p.getD 3 0, clm x s p 3] = ndP x s p 3 ∧ tagL 2 [nd l 3 (2 * q), nd l 3 (2 * q + 1)] = ndT l x 3) := fun h => piece_odd (by rw [← HY.out]; exact h) HQ.out
      have HCK : Hid (∀ w', Below w.heap.size w w' → w'.cell? ⟨b, off + 3, none⟩ = some (.int .i64 (p.getD 3 0))) := fun w' h => (HPC.out w' h).2 3 (by rw [HP8.out]; omega)
      generalize clm x s p 3 = mi at *
      generalize nd l 3 (2 * q) = na at *
      generalize nd l 3 (2 * q + 1) = nb at *
      generalize p.getD 3 0 = o at *
      go_wp2_with fail
      refine (hM _ hBw).mono ?_
      rintro e w2 ⟨rfl, hc2⟩
      have hB2 := below_after_of hB.out hc2
      have hBw2 := HUP.out _ hB2
      clear hM hc2
      go_wp2_with fail
      refine (hN1 _ hBw2).mono ?_
      rintro e w3 ⟨rfl, hc3⟩
      have hB3 := below_after_of hB2 hc3
      have hBw3 := HUP.out _ hB3
      clear hN1 hc3 hB2 hBw2
      go_wp2_with fail
      refine (hN2 _ hBw3).mono ?_
      rintro e w4 ⟨rfl, hc4⟩
      have hB4 := below_after_of hB3 hc4
      have hBw4 := HUP.out _ hB4
      have ck := HCK.out _ hBw4
      clear hN2 hc4 hB3 hBw3
      have hX1 := fun w' => l5Nodes_any o mi na nb w' hb4 hb1 hb2 hb3
      go_wp2_with fail
      refine (hX1 _).mono ?_
      rintro e w5 ⟨hc5, a3, n3, c3, a4, n4, c4, rfl, hr⟩
      have hB5 := below_after_of hB4 hc5
      have hBw5 := HUP.out _ hB5
      clear hX1 hc5 ck
      by_cases h2 : y % 2 = 0
      · have h2b : (y % 2 == 0) = true := by simpa using h2
        have G5 := Tr3.new w5 (.bool (l2B (tagL 2 [o, mi]) (tagL 2 [na, nb]))) (.slice a3 n3 c3) (.slice a4 n4 c4) 58
        obtain ⟨W5, hW5⟩ : ∃ W5, W5 = w5.alloc (.cells #[.bool (l2B (tagL 2 [o, mi]) (tagL 2 [na, nb])), .slice a3 n3 c3, .slice a4 n4 c4] 58) := ⟨_, rfl⟩
        have hBW5 : Below W0.heap.size W0 W5 := by rw [hW5]; exact below_after_of hB5 (one_new _)
        have HW5 : Hid (w5.alloc (.cells #[.bool (l2B (tagL 2 [o, mi]) (tagL 2 [na, nb])), .slice a3 n3 c3, .slice a4 n4 c4] 58) = W5) := hW5.symm
        rw [← hW5] at G5
        have ck := (HCK.out _ (HUP.out _ hBW5))
        have hX2 := fun w' => l5Nodes_any mi o na nb w' hb1 hb4 hb2 hb3
        rw [(HPE.out h2).1, (HPE.out h2).2] at hX2
        have hsz5 : W0.heap.size ≤ w5.heap.size := hB5.size
        have ck2 : (w5.alloc (.cells #[.bool (l2B (tagL 2 [o, mi]) (tagL 2 [na, nb])), .slice a3 n3 c3, .slice a4 n4 c4] 58)).cell? ⟨b, off + 3, none⟩ = some (.int .i64 o) := by rw [HW5.out]; exact ck
        generalize l2B (tagL 2 [o, mi]) (tagL 2 [na, nb]) = fx at *
        clear hr hW5 hB5 hBw5 hB4 hBw4 HPE HPO h2
        go_wp2_with fail
        rw [HW5.out]
        refine (hX2 _).mono ?_
        rintro e w6 ⟨hc6, a5, n5, c5, a6, n6, c6, rfl, hr⟩
        have hB6 := below_after_of hBW5 hc6
        have G6 := G5.below hc6
        have hr := hr.mono (Nat.le_refl _)
        clear hX2 hc6 ck ck2 hBW5
        generalize hff : l2B (ndP x s p 3) (ndT l x 3) = f at *
        obtain ⟨k0, k1, k2, z0, z1, z2, hlt6⟩ := G6
        cases f
        · go_wp2
          go_roundw
          case rel => exact ⟨3, by omega, rfl, ((hB6.setCell hsz5 _).setCell hsz5 _).setCell hsz5 _, by show _ = _; first | rw [hW.out, ocW_no hff] | rw [ocW_no hff]⟩
          case measure => simp [intOf]
        · have T6 := HT3.out.below hB6
          have T7 := T6.other (g' := w5.heap.size) (fun e => by have := HSZ.out; omega) (.bool true) (.slice a5 n5 c5) (.slice a6 n6 c6)
          obtain ⟨t0, t1, t2, y0, y1, y2, -⟩ := T7
          have G7 := (Tr3.mk k0 k1 k2 z0 z1 z2 hlt6).set (.bool true) (.slice a5 n5 c5) (.slice a6 n6 c6)
          obtain ⟨g0, g1, g2, -, -, -, -⟩ := G7
          obtain ⟨W7, hW7⟩ : ∃ W7, W7 = ((w6.setCell ⟨w5.heap.size, 0, none⟩ (.bool true)).setCell ⟨w5.heap.size, 1, none⟩ (.slice a5 n5 c5)).setCell ⟨w5.heap.size, 2, none⟩ (.slice a6 n6 c6) := ⟨_, rfl⟩
          have hB7 : Below W0.heap.size W0 W7 := by rw [hW7]; exact ((hB6.setCell hsz5 _).setCell hsz5 _).setCell hsz5 _
          have hwl : w5.heap.size < W5.heap.size := by have := HW5.out; rw [← this]; simp
          have hr7 : Rows2 W5 W7 (.slice a5 n5 c5) (.slice a6 n6 c6) true (ndP x s p 3) (ndT l x 3) := by rw [hW7]; exact ((hr.set hwl 0 _).set hwl 1 _).set hwl 2 _
          have hr8 := hr7.mono (w0 := W0) (by omega)
          have hlt : w.heap.size < W0.heap.size := by rw [← HSZ.out]; omega
          have HB7 := HUP.out _ hB7
          have HE : Hid (ocW l x s p ls tt 8 = (ndP x s p 3, ndT l x 3)) := by show _ = _; first | rw [hW.out, ocW_yes hff] | rw [ocW_yes hff]
          have HFF : Hid (l2B (ndP x s p 3) (ndT l x 3) = true) := hff
          have HW7 : Hid (((w6.setCell ⟨w5.heap.size, 0, none⟩ (.bool true)).setCell ⟨w5.heap.size, 1, none⟩ (.slice a5 n5 c5)).setCell ⟨w5.heap.size, 2, none⟩ (.slice a6 n6 c6) = W7) := hW7.symm
          clear hr hr7 hB6 hff hW7 T6
          go_wp2
          rw [HW7.out] at t0 t1 t2 ⊢
          exact bodyPost_ret (v := .agg #[.bool true, .slice a5 n5 c5, .slice a6 n6 c6]) (by simp [results, Try.results89, go_sem, t0, t1, t2]) rfl (by
            rw [HE.out, HFF.out]
            exact ⟨((HB7.setCell (Nat.le_refl _) _).setCell (Nat.le_refl _) _).setCell (Nat.le_refl _) _, _, _, _, _, _, _, rfl, ((((hr8.set hlt 0 _).set hlt 1 _).set hlt 2 _)).mono HBW.out.size⟩)
      · have h2b : (y % 2 == 0) = false := by simpa using h2
        rw [(HPO.out h2).1, (HPO.out h2).2] at hr ⊢
        have hr8 := hr.mono (w0 := W0) hB4.size
        generalize hff : l2B (ndP x s p 3) (ndT l x 3) = f at *
        have T5 := HT3.out.below hB5
        have hsz5 : W0.heap.size ≤ w5.heap.size := hB5.size
        have T6 := T5.below (one_new (.cells #[.bool f, .slice a3 n3 c3, .slice a4 n4 c4] 58))
        obtain ⟨t0, t1, t2, y0, y1, y2, -⟩ := T6
        have hB6 := below_after_of hB5 (one_new (.cells #[.bool f, .slice a3 n3 c3, .slice a4 n4 c4] 58))
        have hr9 := hr8.below (one_new (.cells #[.bool f, .slice a3 n3 c3, .slice a4 n4 c4] 58))
        have hlt : w.heap.size < W0.heap.size := by rw [← HSZ.out]; omega
        have HB6 := HUP.out _ hB6
        have HR9 : Hid (Rows2 W0 (w5.alloc (.cells #[.bool f, .slice a3 n3 c3, .slice a4 n4 c4] 58)) (.slice a3 n3 c3) (.slice a4 n4 c4) f (ndP x s p 3) (ndT l x 3)) := hr9
        clear hr hr8 hr9 T5 HPE HPO h2
        cases f
        · go_wp2
          go_roundw
          case rel => exact ⟨3, by omega, rfl, hB6, by show _ = _; first | rw [hW.out, ocW_no hff] | rw [ocW_no hff]⟩
          case measure => simp [intOf]
        · have HE : Hid (ocW l x s p ls tt 8 = (ndP x s p 3, ndT l x 3)) := by show _ = _; first | rw [hW.out, ocW_yes hff] | rw [ocW_yes hff]
          have HFF : Hid (l2B (ndP x s p 3) (ndT l x 3) = true) := hff
          clear hff
          go_wp2
          exact bodyPost_ret (v := .agg #[.bool true, .slice a3 n3 c3, .slice a4 n4 c4]) (by simp [results, Try.results89, go_sem, t0, t1, t2]) rfl (by
            rw [HE.out, HFF.out]
            exact ⟨((HB6.setCell (Nat.le_refl _) _).setCell (Nat.le_refl _) _).setCell (Nat.le_refl _) _, _, _, _, _, _, _, rfl, ((((HR9.out.set hlt 0 _).set hlt 1 _).set hlt 2 _)).mono HBW.out.size⟩)
    · -- level 4
      obtain ⟨q, hq⟩ : ∃ q : Int, q = x / 32 := ⟨_, rfl⟩
      have HQ : Hid (q = x / (2 ^ (4 + 1) : Nat)) := hq
      have hqb : 0 ≤ q ∧ q * 32 ≤ 255 := by omega
      have e1 : x.tdiv 32 = q := by rw [Int.tdiv_eq_ediv_of_nonneg hx.1]; exact hq.symm
      have e1b : x / 32 = q := hq.symm
      obtain ⟨y, hy⟩ : ∃ y : Int, y = x / 16 := ⟨_, rfl⟩
      have HY : Hid (y = x / (2 ^ 4 : Nat)) := hy
      have hyb : 0 ≤ y := by omega
      have e2 : x / 16 = y := hy.symm
      have e3 : y.tmod 2 = y % 2 := by rw [Int.tmod_eq_emod_of_nonneg (by omega)]
      clear hq hK hk hy
      have hBw := HUP.out _ hB.out
      have hM := fun w' h => l5Climb_take x s b off pc p 4 w' hx hsb (HPC.out w' h).1 (by omega) HP8.out HAL.out (HPC.out w' h).2
      have hN1 := fun w' h => l4Node_4 (.slice va n vc) l (q * 32) (2 * q) w' (HV.out w' h) (Nat.le_trans HLL.out (by omega)) HF.out (by show _ = _; omega) (by omega)
      have hN2 := fun w' h => l4Node_4 (.slice va n vc) l (q * 32 + 16) (2 * q + 1) w' (HV.out w' h) (Nat.le_trans HLL.out (by omega)) HF.out (by show _ = _; omega) (by omega)
      have hb1 := clm_bd (x := x) (p := p) hsb 4
      have hb2 := nd_bd l 4 (2 * q)
      have hb3 := nd_bd l 4 (2 * q + 1)
      have hb4 := path_at HAL.out 4
      have HPE : Hid (y % 2 = 0 → tagL 2 [clm x s p 4, p.getD 4 0] = ndP x s p 4 ∧ tagL 2 [nd l 4 (2 * q), nd l 4 (2 * q + 1)] = ndT l x 4) := fun h => piece_even (by rw [← HY.out]; exact h) HQ.out
      have HPO : Hid (¬ y % 2 = 0 → tagL 2 [p.getD 4 0, clm x s p 4] = ndP x s p 4 ∧ tagL 2 [nd l 4 (2 * q), nd l 4 (2 * q + 1)] = ndT l x 4) := fun h => piece_odd (by rw [← HY.out]; exact h) HQ.out
      have HCK : Hid (∀ w', Below w.heap.size w w' → w'.cell? ⟨b, off + 4, none⟩ = some (.int .i64 (p.getD 4 0))) := fun w' h => (HPC.out w' h).2 4 (by rw [HP8.out]; omega)
      generalize clm x s p 4 = mi at *
      generalize nd l 4 (2 * q) = na at *
      generalize nd l 4 (2 * q + 1) = nb at *
      generalize p.getD 4 0 = o at *
      go_wp2_with fail
      refine (hM _ hBw).mono ?_
      rintro e w2 ⟨rfl, hc2⟩
      have hB2 := below_after_of hB.out hc2
      have hBw2 := HUP.out _ hB2
      clear hM hc2
      go_wp2_with fail
      refine (hN1 _ hBw2).mono ?_
      rintro e w3 ⟨rfl, hc3⟩
      have hB3 := below_after_of hB2 hc3
      have hBw3 := HUP.out _ hB3
      clear hN1 hc3 hB2 hBw2
      go_wp2_with fail
      refine (hN2 _ hBw3).mono ?_
      rintro e w4 ⟨rfl, hc4⟩
      have hB4 := below_after_of hB3 hc4
      have hBw4 := HUP.out _ hB4
      have ck := HCK.out _ hBw4
      clear hN2 hc4 hB3 hBw3
      have hX1 := fun w' => l5Nodes_any o mi na nb w' hb4 hb1 hb2 hb3
      go_wp2_with fail
      refine (hX1 _).mono ?_
      rintro e w5 ⟨hc5, a3, n3, c3, a4, n4, c4, rfl, hr⟩
      have hB5 := below_after_of hB4 hc5
      have hBw5 := HUP.out _ hB5
      clear hX1 hc5 ck
      by_cases h2 : y % 2 = 0
      · have h2b : (y % 2 == 0) = true := by simpa using h2
        have G5 := Tr3.new w5 (.bool (l2B (tagL 2 [o, mi]) (tagL 2 [na, nb]))) (.slice a3 n3 c3) (.slice a4 n4 c4) 58
        obtain ⟨W5, hW5⟩ : ∃ W5, W5 = w5.alloc (.cells #[.bool (l2B (tagL 2 [o, mi]) (tagL 2 [na, nb])), .slice a3 n3 c3, .slice a4 n4 c4] 58) := ⟨_, rfl⟩
        have hBW5 : Below W0.heap.size W0 W5 := by rw [hW5]; exact below_after_of hB5 (one_new _)
        have HW5 : Hid (w5.alloc (.cells #[.bool (l2B (tagL 2 [o, mi]) (tagL 2 [na, nb])), .slice a3 n3 c3, .slice a4 n4 c4] 58) = W5) := hW5.symm
        rw [← hW5] at G5
        have ck := (HCK.out _ (HUP.out _ hBW5))
        have hX2 := fun w' => l5Nodes_any mi o na nb w' hb1 hb4 hb2 hb3
        rw [(HPE.out h2).1, (HPE.out h2).2] at hX2
        have hsz5 : W0.heap.size ≤ w5.heap.size := hB5.size
        have ck2 : (w5.alloc (.cells #[.bool (l2B (tagL 2 [o, mi]) (tagL 2 [na, nb])), .slice a3 n3 c3, .slice a4 n4 c4] 58)).cell? ⟨b, off + 4, none⟩ = some (.int .i64 o) := by rw [HW5.out]; exact ck
        generalize l2B (tagL 2 [o, mi]) (tagL 2 [na, nb]) = fx at *
        clear hr hW5 hB5 hBw5 hB4 hBw4 HPE HPO h2
        go_wp2_with fail
        rw [HW5.out]
        refine (hX2 _).mono ?_
        rintro e w6 ⟨hc6, a5, n5, c5, a6, n6, c6, rfl, hr⟩
        have hB6 := below_after_of hBW5 hc6
        have G6 := G5.below hc6
        have hr := hr.mono (Nat.le_refl _)
        clear hX2 hc6 ck ck2 hBW5
        generalize hff : l2B (ndP x s p 4) (ndT l x 4) = f at *
        obtain ⟨k0, k1, k2, z0, z1, z2, hlt6⟩ := G6
        cases f
        · go_wp2
          go_roundw
          case rel => exact ⟨4, by omega, rfl, ((hB6.setCell hsz5 _).setCell hsz5 _).setCell hsz5 _, by show _ = _; first | rw [hW.out, ocW_no hff] | rw [ocW_no hff]⟩
          case measure => simp [intOf]
        · have T6 := HT3.out.below hB6
          have T7 := T6.other (g' := w5.heap.size) (fun e => by have := HSZ.out; omega) (.bool true) (.slice a5 n5 c5) (.slice a6 n6 c6)
          obtain ⟨t0, t1, t2, y0, y1, y2, -⟩ := T7
          have G7 := (Tr3.mk k0 k1 k2 z0 z1 z2 hlt6).set (.bool true) (.slice a5 n5 c5) (.slice a6 n6 c6)
          obtain ⟨g0, g1, g2, -, -, -, -⟩ := G7
          obtain ⟨W7, hW7⟩ : ∃ W7, W7 = ((w6.setCell ⟨w5.heap.size, 0, none⟩ (.bool true)).setCell ⟨w5.heap.size, 1, none⟩ (.slice a5 n5 c5)).setCell ⟨w5.heap.size, 2, none⟩ (.slice a6 n6 c6) := ⟨_, rfl⟩
          have hB7 : Below W0.heap.size W0 W7 := by rw [hW7]; exact ((hB6.setCell hsz5 _).setCell hsz5 _).setCell hsz5 _
          have hwl : w5.heap.size < W5.heap.size := by have := HW5.out; rw [← this]; simp
          have hr7 : Rows2 W5 W7 (.slice a5 n5 c5) (.slice a6 n6 c6) true (ndP x s p 4) (ndT l x 4) := by rw [hW7]; exact ((hr.set hwl 0 _).set hwl 1 _).set hwl 2 _
          have hr8 := hr7.mono (w0 := W0) (by omega)
          have hlt : w.heap.size < W0.heap.size := by rw [← HSZ.out]; omega
          have HB7 := HUP.out _ hB7
          have HE : Hid (ocW l x s p ls tt 8 = (ndP x s p 4, ndT l x 4)) := by show _ = _; first | rw [hW.out, ocW_yes hff] | rw [ocW_yes hff]
          have HFF : Hid (l2B (ndP x s p 4) (ndT l x 4) = true) := hff
          have HW7 : Hid (((w6.setCell ⟨w5.heap.size, 0, none⟩ (.bool true)).setCell ⟨w5.heap.size, 1, none⟩ (.slice a5 n5 c5)).setCell ⟨w5.heap.size, 2, none⟩ (.slice a6 n6 c6) = W7) := hW7.symm
          clear hr hr7 hB6 hff hW7 T6
          go_wp2
          rw [HW7.out] at t0 t1 t2 ⊢
          exact bodyPost_ret (v := .agg #[.bool true, .slice a5 n5 c5, .slice a6 n6 c6]) (by simp [results, Try.results89, go_sem, t0, t1, t2]) rfl (by
            rw [HE.out, HFF.out]
            exact ⟨((HB7.setCell (Nat.le_refl _) _).setCell (Nat.le_refl _) _).setCell (Nat.le_refl _) _, _, _, _, _, _, _, rfl, ((((hr8.set hlt 0 _).set hlt 1 _).set hlt 2 _)).mono HBW.out.size⟩)
      · have h2b : (y % 2 == 0) = false := by simpa using h2
        rw [(HPO.out h2).1, (HPO.out h2).2] at hr ⊢
        have hr8 := hr.mono (w0 := W0) hB4.size
        generalize hff : l2B (ndP x s p 4) (ndT l x 4) = f at *
        have T5 := HT3.out.below hB5
        have hsz5 : W0.heap.size ≤ w5.heap.size := hB5.size
        have T6 := T5.below (one_new (.cells #[.bool f, .slice a3 n3 c3, .slice a4 n4 c4] 58))
        obtain ⟨t0, t1, t2, y0, y1, y2, -⟩ := T6
        have hB6 := below_after_of hB5 (one_new (.cells #[.bool f, .slice a3 n3 c3, .slice a4 n4 c4] 58))
        have hr9 := hr8.below (one_new (.cells #[.bool f, .slice a3 n3 c3, .slice a4 n4 c4] 58))
        have hlt : w.heap.size < W0.heap.size := by rw [← HSZ.out]; omega
        have HB6 := HUP.out _ hB6
        have HR9 : Hid (Rows2 W0 (w5.alloc (.cells #[.bool f, .slice a3 n3 c3, .slice a4 n4 c4] 58)) (.slice a3 n3 c3) (.slice a4 n4 c4) f (ndP x s p 4) (ndT l x 4)) := hr9
        clear hr hr8 hr9 T5 HPE HPO h2
        cases f
        · go_wp2
          go_roundw
          case rel => exact ⟨4, by omega, rfl, hB6, by show _ = _; first | rw [hW.out, ocW_no hff] | rw [ocW_no hff]⟩
          case measure => simp [intOf]
        · have HE : Hid (ocW l x s p ls tt 8 = (ndP x s p 4, ndT l x 4)) := by show _ = _; first | rw [hW.out, ocW_yes hff] | rw [ocW_yes hff]
          have HFF : Hid (l2B (ndP x s p 4) (ndT l x 4) = true) := hff
          clear hff
          go_wp2
          exact bodyPost_ret (v := .agg #[.bool true, .slice a3 n3 c3, .slice a4 n4 c4]) (by simp [results, Try.results89, go_sem, t0, t1, t2]) rfl (by
            rw [HE.out, HFF.out]
            exact ⟨((HB6.setCell (Nat.le_refl _) _).setCell (Nat.le_refl _) _).setCell (Nat.le_refl _) _, _, _, _, _, _, _, rfl, ((((HR9.out.set hlt 0 _).set hlt 1 _).set hlt 2 _)).mono HBW.out.size⟩)
    · -- level 5
      obtain ⟨q, hq⟩ : ∃ q : Int, q = x / 64 := ⟨_, rfl⟩
      have HQ : Hid (q = x / (2 ^ (5 + 1) : Nat)) := hq
      have hqb : 0 ≤ q ∧ q * 64 ≤ 255 := by omega
      have e1 : x.tdiv 64 = q := by rw [Int.tdiv_eq_ediv_of_nonneg hx.1]; exact hq.symm
      have e1b : x / 64 = q := hq.symm
      obtain ⟨y, hy⟩ : ∃ y : Int, y = x / 32 := ⟨_, rfl⟩
      have HY : Hid (y = x / (2 ^ 5 : Nat)) := hy
      have hyb : 0 ≤ y := by omega
      have e2 : x / 32 = y := hy.symm
      have e3 : y.tmod 2 = y % 2 := by rw [Int.tmod_eq_emod_of_nonneg (by omega)]
      clear hq hK hk hy
      have hBw := HUP.out _ hB.out
      have hM := fun w' h => l5Climb_take x s b off pc p 5 w' hx hsb (HPC.out w' h).1 (by omega) HP8.out HAL.out (HPC.out w' h).2
      have hN1 := fun w' h => l4Node_5 (.slice va n vc) l (q * 64) (2 * q) w' (HV.out w' h) (Nat.le_trans HLL.out (by omega)) HF.out (by show _ = _; omega) (by omega)
      have hN2 := fun w' h => l4Node_5 (.slice va n vc) l (q * 64 + 32) (2 * q + 1) w' (HV.out w' h) (Nat.le_trans HLL.out (by omega)) HF.out (by show _ = _; omega) (by omega)
      have hb1 := clm_bd (x := x) (p := p) hsb 5
      have hb2 := nd_bd l 5 (2 * q)
      have hb3 := nd_bd l 5 (2 * q + 1)
      have hb4 := path_at HAL.out 5
      have HPE : Hid (y % 2 = 0 → tagL 2 [clm x s p 5, p.getD 5 0] = ndP x s p 5 ∧ tagL 2 [nd l 5 (2 * q), nd l 5 (2 * q + 1)] = ndT l x 5) := fun h => piece_even (by rw [← HY.out]; exact h) HQ.out
      have HPO : Hid (¬ y % 2 = 0 → tagL 2 [p.getD 5 0, clm x s p 5] = ndP x s p 5 ∧ tagL 2 [nd l 5 (2 * q), nd l 5 (2 * q + 1)] = ndT l x 5) := fun h => piece_odd (by rw [← HY.out]; exact h) HQ.out
      have HCK : Hid (∀ w', Below w.heap.size w w' → w'.cell? ⟨b, off + 5, none⟩ = some (.int .i64 (p.getD 5 0))) := fun w' h => (HPC.out w' h).2 5 (by rw [HP8.out]; omega)
      generalize clm x s p 5 = mi at *
      generalize nd l 5 (2 * q) = na at *
      generalize nd l 5 (2 * q + 1) = nb at *
      generalize p.getD 5 0 = o at *
      go_wp2_with fail
      refine (hM _ hBw).mono ?_
      rintro e w2 ⟨rfl, hc2⟩
      have hB2 := below_after_of hB.out hc2
      have hBw2 := HUP.out _ hB2
      clear hM hc2
      go_wp2_with fail
      refine (hN1 _ hBw2).mono ?_
      rintro e w3 ⟨rfl, hc3⟩
      have hB3 := below_after_of hB2 hc3
      have hBw3 := HUP.out _ hB3
      clear hN1 hc3 hB2 hBw2
      go_wp2_with fail
      refine (hN2 _ hBw3).mono ?_
      rintro e w4 ⟨rfl, hc4⟩
      have hB4 := below_after_of hB3 hc4
      have hBw4 := HUP.out _ hB4
      have ck := HCK.out _ hBw4
      clear hN2 hc4 hB3 hBw3
      have hX1 := fun w' => l5Nodes_any o mi na nb w' hb4 hb1 hb2 hb3
      go_wp2_with fail
      refine (hX1 _).mono ?_
      rintro e w5 ⟨hc5, a3, n3, c3, a4, n4, c4, rfl, hr⟩
      have hB5 := below_after_of hB4 hc5
      have hBw5 := HUP.out _ hB5
      clear hX1 hc5 ck
      by_cases h2 : y % 2 = 0
      · have h2b : (y % 2 == 0) = true := by simpa using h2
        have G5 := Tr3.new w5 (.bool (l2B (tagL 2 [o, mi]) (tagL 2 [na, nb]))) (.slice a3 n3 c3) (.slice a4 n4 c4) 58
        obtain ⟨W5, hW5⟩ : ∃ W5, W5 = w5.alloc (.cells #[.bool (l2B (tagL 2 [o, mi]) (tagL 2 [na, nb])), .slice a3 n3 c3, .slice a4 n4 c4] 58) := ⟨_, rfl⟩
        have hBW5 : Below W0.heap.size W0 W5 := by rw [hW5]; exact below_after_of hB5 (one_new _)
        have HW5 : Hid (w5.alloc (.cells #[.bool (l2B (tagL 2 [o, mi]) (tagL 2 [na, nb])), .slice a3 n3 c3, .slice a4 n4 c4] 58) = W5) := hW5.symm
        rw [← hW5] at G5
        have ck := (HCK.out _ (HUP.out _ hBW5))
        have hX2 := fun w' => l5Nodes_any mi o na nb w' hb1 hb4 hb2 hb3
        rw [(HPE.out h2).1, (HPE.out h2).2] at hX2
        have hsz5 : W0.heap.size ≤ w5.heap.size := hB5.size
        have ck2 : (w5.alloc (.cells #[.bool (l2B (tagL 2 [o, mi]) (tagL 2 [na, nb])), .slice a3 n3 c3, .slice a4 n4 c4] 58)).cell? ⟨b, off + 5, none⟩ = some (.int .i64 o) := by rw [HW5.out]; exact ck
        generalize l2B (tagL 2 [o, mi]) (tagL 2 [na, nb]) = fx at *
        clear hr hW5 hB5 hBw5 hB4 hBw4 HPE HPO h2
        go_wp2_with fail
        rw [HW5.out]
        refine (hX2 _).mono ?_
        rintro e w6 ⟨hc6, a5, n5, c5, a6, n6, c6, rfl, hr⟩
        have hB6 := below_after_of hBW5 hc6
        have G6 := G5.below hc6
        have hr := hr.mono (Nat.le_refl _)
        clear hX2 hc6 ck ck2 hBW5
        generalize hff : l2B (ndP x s p 5) (ndT l x 5) = f at *
        obtain ⟨k0, k1, k2, z0, z1, z2, hlt6⟩ := G6
        cases f
        · go_wp2
          go_roundw
          case rel => exact ⟨5, by omega, rfl, ((hB6.setCell hsz5 _).setCell hsz5 _).setCell hsz5 _, by show _ = _; first | rw [hW.out, ocW_no hff] | rw [ocW_no hff]⟩
          case measure => simp [intOf]
        · have T6 := HT3.out.below hB6
          have T7 := T6.other (g' := w5.heap.size) (fun e => by have := HSZ.out; omega) (.bool true) (.slice a5 n5 c5) (.slice a6 n6 c6)
          obtain ⟨t0, t1, t2, y0, y1, y2, -⟩ := T7
          have G7 := (Tr3.mk k0 k1 k2 z0 z1 z2 hlt6).set (.bool true) (.slice a5 n5 c5) (.slice a6 n6 c6)
          obtain ⟨g0, g1, g2, -, -, -, -⟩ := G7
          obtain ⟨W7, hW7⟩ : ∃ W7, W7 = ((w6.setCell ⟨w5.heap.size, 0, none⟩ (.bool true)).setCell ⟨w5.heap.size, 1, none⟩ (.slice a5 n5 c5)).setCell ⟨w5.heap.size, 2, none⟩ (.slice a6 n6 c6) := ⟨_, rfl⟩
          have hB7 : Below W0.heap.size W0 W7 := by rw [hW7]; exact ((hB6.setCell hsz5 _).setCell hsz5 _).setCell hsz5 _
          have hwl : w5.heap.size < W5.heap.size := by have := HW5.out; rw [← this]; simp
          have hr7 : Rows2 W5 W7 (.slice a5 n5 c5) (.slice a6 n6 c6) true (ndP x s p 5) (ndT l x 5) := by rw [hW7]; exact ((hr.set hwl 0 _).set hwl 1 _).set hwl 2 _
          have hr8 := hr7.mono (w0 := W0) (by omega)
          have hlt : w.heap.size < W0.heap.size := by rw [← HSZ.out]; omega
          have HB7 := HUP.out _ hB7
          have HE : Hid (ocW l x s p ls tt 8 = (ndP x s p 5, ndT l x 5)) := by show _ = _; first | rw [hW.out, ocW_yes hff] | rw [ocW_yes hff]
          have HFF : Hid (l2B (ndP x s p 5) (ndT l x 5) = true) := hff
          have HW7 : Hid (((w6.setCell ⟨w5.heap.size, 0, none⟩ (.bool true)).setCell ⟨w5.heap.size, 1, none⟩ (.slice a5 n5 c5)).setCell ⟨w5.heap.size, 2, none⟩ (.slice a6 n6 c6) = W7) := hW7.symm
          clear hr hr7 hB6 hff hW7 T6
          go_wp2
          rw [HW7.out] at t0 t1 t2 ⊢
          exact bodyPost_ret (v := .agg #[.bool true, .slice a5 n5 c5, .slice a6 n6 c6]) (by simp [results, Try.results89, go_sem, t0, t1, t2]) rfl (by
            rw [HE.out, HFF.out]
            exact ⟨((HB7.setCell (Nat.le_refl _) _).setCell (Nat.le_refl _) _).setCell (Nat.le_refl _) _, _, _, _, _, _, _, rfl, ((((hr8.set hlt 0 _).set hlt 1 _).set hlt 2 _)).mono HBW.out.size⟩)
      · have h2b : (y % 2 == 0) = false := by simpa using h2
        rw [(HPO.out h2).1, (HPO.out h2).2] at hr ⊢
        have hr8 := hr.mono (w0 := W0) hB4.size
        generalize hff : l2B (ndP x s p 5) (ndT l x 5) = f at *
        have T5 := HT3.out.below hB5
        have hsz5 : W0.heap.size ≤ w5.heap.size := hB5.size
        have T6 := T5.below (one_new (.cells #[.bool f, .slice a3 n3 c3, .slice a4 n4 c4] 58))
        obtain ⟨t0, t1, t2, y0, y1, y2, -⟩ := T6
        have hB6 := below_after_of hB5 (one_new (.cells #[.bool f, .slice a3 n3 c3, .slice a4 n4 c4] 58))
        have hr9 := hr8.below (one_new (.cells #[.bool f, .slice a3 n3 c3, .slice a4 n4 c4] 58))
        have hlt : w.heap.size < W0.heap.size := by rw [← HSZ.out]; omega
        have HB6 := HUP.out _ hB6
        have HR9 : Hid (Rows2 W0 (w5.alloc (.cells #[.bool f, .slice a3 n3 c3, .slice a4 n4 c4] 58)) (.slice a3 n3 c3) (.slice a4 n4 c4) f (ndP x s p 5) (ndT l x 5)) := hr9
        clear hr hr8 hr9 T5 HPE HPO h2
        cases f
        · go_wp2
          go_roundw
          case rel => exact ⟨5, by omega, rfl, hB6, by show _ = _; first | rw [hW.out, ocW_no hff] | rw [ocW_no hff]⟩
          case measure => simp [intOf]
        · have HE : Hid (ocW l x s p ls tt 8 = (ndP x s p 5, ndT l x 5)) := by show _ = _; first | rw [hW.out, ocW_yes hff] | rw [ocW_yes hff]
          have HFF : Hid (l2B (ndP x s p 5) (ndT l x 5) = true) := hff
          clear hff
          go_wp2
          exact bodyPost_ret (v := .agg #[.bool true, .slice a3 n3 c3, .slice a4 n4 c4]) (by simp [results, Try.results89, go_sem, t0, t1, t2]) rfl (by
            rw [HE.out, HFF.out]
            exact ⟨((HB6.setCell (Nat.le_refl _) _).setCell (Nat.le_refl _) _).setCell (Nat.le_refl _) _, _, _, _, _, _, _, rfl, ((((HR9.out.set hlt 0 _).set hlt 1 _).set hlt 2 _)).mono HBW.out.size⟩)
    · -- level 6
      obtain ⟨q, hq⟩ : ∃ q : Int, q = x / 128 := ⟨_, rfl⟩
      have HQ : Hid (q = x / (2 ^ (6 + 1) : Nat)) := hq
      have hqb : 0 ≤ q ∧ q * 128 ≤ 255 := by omega
      have e1 : x.tdiv 128 = q := by rw [Int.tdiv_eq_ediv_of_nonneg hx.1]; exact hq.symm
      have e1b : x / 128 = q := hq.symm
      obtain ⟨y, hy⟩ : ∃ y : Int, y = x / 64 := ⟨_, rfl⟩
      have HY : Hid (y = x / (2 ^ 6 : Nat)) := hy
      have hyb : 0 ≤ y := by omega
      have e2 : x / 64 = y := hy.symm
      have e3 : y.tmod 2 = y % 2 := by rw [Int.tmod_eq_emod_of_nonneg (by omega)]
      clear hq hK hk hy
      have hBw := HUP.out _ hB.out
      have hM := fun w' h => l5Climb_take x s b off pc p 6 w' hx hsb (HPC.out w' h).1 (by omega) HP8.out HAL.out (HPC.out w' h).2
      have hN1 := fun w' h => l4Node_6 (.slice va n vc) l (q * 128) (2 * q) w' (HV.out w' h) (Nat.le_trans HLL.out (by omega)) HF.out (by show _ = _; omega) (by omega)
      have hN2 := fun w' h => l4Node_6 (.slice va n vc) l (q * 128 + 64) (2 * q + 1) w' (HV.out w' h) (Nat.le_trans HLL.out (by omega)) HF.out (by show _ = _; omega) (by omega)
      have hb1 := clm_bd (x := x) (p := p) hsb 6
      have hb2 := nd_bd l 6 (2 * q)
      have hb3 := nd_bd l 6 (2 * q + 1)
      have hb4 := path_at HAL.out 6
      have HPE : Hid (y % 2 = 0 → tagL 2 [clm x s p 6, p.getD 6 0] = ndP x s p 6 ∧ tagL 2 [nd l 6 (2 * q), nd l 6 (2 * q + 1)] = ndT l x 6) := fun h => piece_even (by rw [← HY.out]; exact h) HQ.out
      have HPO : Hid (¬ y % 2 = 0 → tagL 2 [p.getD 6 0, clm x s p 6] = ndP x s p 6 ∧ tagL 2 [nd l 6 (2 * q), nd l 6 (2 * q + 1)] = ndT l x 6) := fun h => piece_odd (by rw [← HY.out]; exact h) HQ.out
      have HCK : Hid (∀ w', Below w.heap.size w w' → w'.cell? ⟨b, off + 6, none⟩ = some (.int .i64 (p.getD 6 0))) := fun w' h => (HPC.out w' h).2 6 (by rw [HP8.out]; omega)
      generalize clm x s p 6 = mi at *
      generalize nd l 6 (2 * q) = na at *
      generalize nd l 6 (2 * q + 1) = nb at *
      generalize p.getD 6 0 = o at *
      go_wp2_with fail
      refine (hM _ hBw).mono ?_
      rintro e w2 ⟨rfl, hc2⟩
      have hB2 := below_after_of hB.out hc2
      have hBw2 := HUP.out _ hB2
      clear hM hc2
      go_wp2_with fail
      refine (hN1 _ hBw2).mono ?_
      rintro e w3 ⟨rfl, hc3⟩
      have hB3 := below_after_of hB2 hc3
      have hBw3 := HUP.out _ hB3
      clear hN1 hc3 hB2 hBw2
      go_wp2_with fail
      refine (hN2 _ hBw3).mono ?_
      rintro e w4 ⟨rfl, hc4⟩
      have hB4 := below_after_of hB3 hc4
      have hBw4 := HUP.out _ hB4
      have ck := HCK.out _ hBw4
      clear hN2 hc4 hB3 hBw3
      have hX1 := fun w' => l5Nodes_any o mi na nb w' hb4 hb1 hb2 hb3
      go_wp2_with fail
      refine (hX1 _).mono ?_
      rintro e w5 ⟨hc5, a3, n3, c3, a4, n4, c4, rfl, hr⟩
      have hB5 := below_after_of hB4 hc5
      have hBw5 := HUP.out _ hB5
      clear hX1 hc5 ck
      by_cases h2 : y % 2 = 0
      · have h2b : (y % 2 == 0) = true := by simpa using h2
        have G5 := Tr3.new w5 (.bool (l2B (tagL 2 [o, mi]) (tagL 2 [na, nb]))) (.slice a3 n3 c3) (.slice a4 n4 c4) 58
        obtain ⟨W5, hW5⟩ : ∃ W5, W5 = w5.alloc (.cells #[.bool (l2B (tagL 2 [o, mi]) (tagL 2 [na, nb])), .slice a3 n3 c3, .slice a4 n4 c4] 58) := ⟨_, rfl⟩
        have hBW5 : Below W0.heap.size W0 W5 := by rw [hW5]; exact below_after_of hB5 (one_new _)
        have HW5 : Hid (w5.alloc (.cells #[.bool (l2B (tagL 2 [o, mi]) (tagL 2 [na, nb])), .slice a3 n3 c3, .slice a4 n4 c4] 58) = W5) := hW5.symm
        rw [← hW5] at G5
        have ck := (HCK.out _ (HUP.out _ hBW5))
        have hX2 := fun w' => l5Nodes_any mi o na nb w' hb1 hb4 hb2 hb3
        rw [(HPE.out h2).1, (HPE.out h2).2] at hX2
        have hsz5 : W0.heap.size ≤ w5.heap.size := hB5.size
        have ck2 : (w5.alloc (.cells #[.bool (l2B (tagL 2 [o, mi]) (tagL 2 [na, nb])), .slice a3 n3 c3, .slice a4 n4 c4] 58)).cell? ⟨b, off + 6, none⟩ = some (.int .i64 o) := by rw [HW5.out]; exact ck
        generalize l2B (tagL 2 [o, mi]) (tagL 2 [na, nb]) = fx at *
        clear hr hW5 hB5 hBw5 hB4 hBw4 HPE HPO h2
        go_wp2_with fail
        rw [HW5.out]
        refine (hX2 _).mono ?_
        rintro e w6 ⟨hc6, a5, n5, c5, a6, n6, c6, rfl, hr⟩
        have hB6 := below_after_of hBW5 hc6
        have G6 := G5.below hc6
        have hr := hr.mono (Nat.le_refl _)
        clear hX2 hc6 ck ck2 hBW5
        generalize hff : l2B (ndP x s p 6) (ndT l x 6) = f at *
        obtain ⟨k0, k1, k2, z0, z1, z2, hlt6⟩ := G6
        cases f
        · go_wp2
          go_roundw
          case rel => exact ⟨6, by omega, rfl, ((hB6.setCell hsz5 _).setCell hsz5 _).setCell hsz5 _, by show _ = _; first | rw [hW.out, ocW_no hff] | rw [ocW_no hff]⟩
          case measure => simp [intOf]
        · have T6 := HT3.out.below hB6
          have T7 := T6.other (g' := w5.heap.size) (fun e => by have := HSZ.out; omega) (.bool true) (.slice a5 n5 c5) (.slice a6 n6 c6)
          obtain ⟨t0, t1, t2, y0, y1, y2, -⟩ := T7
          have G7 := (Tr3.mk k0 k1 k2 z0 z1 z2 hlt6).set (.bool true) (.slice a5 n5 c5) (.slice a6 n6 c6)
          obtain ⟨g0, g1, g2, -, -, -, -⟩ := G7
          obtain ⟨W7, hW7⟩ : ∃ W7, W7 = ((w6.setCell ⟨w5.heap.size, 0, none⟩ (.bool true)).setCell ⟨w5.heap.size, 1, none⟩ (.slice a5 n5 c5)).setCell ⟨w5.heap.size, 2, none⟩ (.slice a6 n6 c6) := ⟨_, rfl⟩
          have hB7 : Below W0.heap.size W0 W7 := by rw [hW7]; exact ((hB6.setCell hsz5 _).setCell hsz5 _).setCell hsz5 _
          have hwl : w5.heap.size < W5.heap.size := by have := HW5.out; rw [← this]; simp
          have hr7 : Rows2 W5 W7 (.slice a5 n5 c5) (.slice a6 n6 c6) true (ndP x s p 6) (ndT l x 6) := by rw [hW7]; exact ((hr.set hwl 0 _).set hwl 1 _).set hwl 2 _
          have hr8 := hr7.mono (w0 := W0) (by omega)
          have hlt : w.heap.size < W0.heap.size := by rw [← HSZ.out]; omega
          have HB7 := HUP.out _ hB7
          have HE : Hid (ocW l x s p ls tt 8 = (ndP x s p 6, ndT l x 6)) := by show _ = _; first | rw [hW.out, ocW_yes hff] | rw [ocW_yes hff]
          have HFF : Hid (l2B (ndP x s p 6) (ndT l x 6) = true) := hff
          have HW7 : Hid (((w6.setCell ⟨w5.heap.size, 0, none⟩ (.bool true)).setCell ⟨w5.heap.size, 1, none⟩ (.slice a5 n5 c5)).setCell ⟨w5.heap.size, 2, none⟩ (.slice a6 n6 c6) = W7) := hW7.symm
          clear hr hr7 hB6 hff hW7 T6
          go_wp2
          rw [HW7.out] at t0 t1 t2 ⊢
          exact bodyPost_ret (v := .agg #[.bool true, .slice a5 n5 c5, .slice a6 n6 c6]) (by simp [results, Try.results89, go_sem, t0, t1, t2]) rfl (by
            rw [HE.out, HFF.out]
            exact ⟨((HB7.setCell (Nat.le_refl _) _).setCell (Nat.le_refl _) _).setCell (Nat.le_refl _) _, _, _, _, _, _, _, rfl, ((((hr8.set hlt 0 _).set hlt 1 _).set hlt 2 _)).mono HBW.out.size⟩)
      · have h2b : (y % 2 == 0) = false := by simpa using h2
        rw [(HPO.out h2).1, (HPO.out h2).2] at hr ⊢
        have hr8 := hr.mono (w0 := W0) hB4.size
        generalize hff : l2B (ndP x s p 6) (ndT l x 6) = f at *
        have T5 := HT3.out.below hB5
        have hsz5 : W0.heap.size ≤ w5.heap.size := hB5.size
        have T6 := T5.below (one_new (.cells #[.bool f, .slice a3 n3 c3, .slice a4 n4 c4] 58))
        obtain ⟨t0, t1, t2, y0, y1, y2, -⟩ := T6
        have hB6 := below_after_of hB5 (one_new (.cells #[.bool f, .slice a3 n3 c3, .slice a4 n4 c4] 58))
        have hr9 := hr8.below (one_new (.cells #[.bool f, .slice a3 n3 c3, .slice a4 n4 c4] 58))
        have hlt : w.heap.size < W0.heap.size := by rw [← HSZ.out]; omega
        have HB6 := HUP.out _ hB6
        have HR9 : Hid (Rows2 W0 (w5.alloc (.cells #[.bool f, .slice a3 n3 c3, .slice a4 n4 c4] 58)) (.slice a3 n3 c3) (.slice a4 n4 c4) f (ndP x s p 6) (ndT l x 6)) := hr9
        clear hr hr8 hr9 T5 HPE HPO h2
        cases f
        · go_wp2
          go_roundw
          case rel => exact ⟨6, by omega, rfl, hB6, by show _ = _; first | rw [hW.out, ocW_no hff] | rw [ocW_no hff]⟩
          case measure => simp [intOf]
        · have HE : Hid (ocW l x s p ls tt 8 = (ndP x s p 6, ndT l x 6)) := by show _ = _; first | rw [hW.out, ocW_yes hff] | rw [ocW_yes hff]
          have HFF : Hid (l2B (ndP x s p 6) (ndT l x 6) = true) := hff
          clear hff
          go_wp2
          exact bodyPost_ret (v := .agg #[.bool true, .slice a3 n3 c3, .slice a4 n4 c4]) (by simp [results, Try.results89, go_sem, t0, t1, t2]) rfl (by
            rw [HE.out, HFF.out]
            exact ⟨((HB6.setCell (Nat.le_refl _) _).setCell (Nat.le_refl _) _).setCell (Nat.le_refl _) _, _, _, _, _, _, _, rfl, ((((HR9.out.set hlt 0 _).set hlt 1 _).set hlt 2 _)).mono HBW.out.size⟩)
    · -- level 7
      obtain ⟨q, hq⟩ : ∃ q : Int, q = x / 256 := ⟨_, rfl⟩
      have HQ : Hid (q = x / (2 ^ (7 + 1) : Nat)) := hq
      have hqb : 0 ≤ q ∧ q * 256 ≤ 255 := by omega
      have e1 : x.tdiv 256 = q := by rw [Int.tdiv_eq_ediv_of_nonneg hx.1]; exact hq.symm
      have e1b : x / 256 = q := hq.symm
      obtain ⟨y, hy⟩ : ∃ y : Int, y = x / 128 := ⟨_, rfl⟩
      have HY : Hid (y = x / (2 ^ 7 : Nat)) := hy
      have hyb : 0 ≤ y := by omega
      have e2 : x / 128 = y := hy.symm
      have e3 : y.tmod 2 = y % 2 := by rw [Int.tmod_eq_emod_of_nonneg (by omega)]
      clear hq hK hk hy
      have hBw := HUP.out _ hB.out
      have hM := fun w' h => l5Climb_take x s b off pc p 7 w' hx hsb (HPC.out w' h).1 (by omega) HP8.out HAL.out (HPC.out w' h).2
      have hN1 := fun w' h => l4Node_7 (.slice va n vc) l (q * 256) (2 * q) w' (HV.out w' h) (Nat.le_trans HLL.out (by omega)) HF.out (by show _ = _; omega) (by omega)
      have hN2 := fun w' h => l4Node_7 (.slice va n vc) l (q * 256 + 128) (2 * q + 1) w' (HV.out w' h) (Nat.le_trans HLL.out (by omega)) HF.out (by show _ = _; omega) (by omega)
      have hb1 := clm_bd (x := x) (p := p) hsb 7
      have hb2 := nd_bd l 7 (2 * q)
      have hb3 := nd_bd l 7 (2 * q + 1)
      have hb4 := path_at HAL.out 7
      have HPE : Hid (y % 2 = 0 → tagL 2 [clm x s p 7, p.getD 7 0] = ndP x s p 7 ∧ tagL 2 [nd l 7 (2 * q), nd l 7 (2 * q + 1)] = ndT l x 7) := fun h => piece_even (by rw [← HY.out]; exact h) HQ.out
      have HPO : Hid (¬ y % 2 = 0 → tagL 2 [p.getD 7 0, clm x s p 7] = ndP x s p 7 ∧ tagL 2 [nd l 7 (2 * q), nd l 7 (2 * q + 1)] = ndT l x 7) := fun h => piece_odd (by rw [← HY.out]; exact h) HQ.out
      have HCK : Hid (∀ w', Below w.heap.size w w' → w'.cell? ⟨b, off + 7, none⟩ = some (.int .i64 (p.getD 7 0))) := fun w' h => (HPC.out w' h).2 7 (by rw [HP8.out]; omega)
      generalize clm x s p 7 = mi at *
      generalize nd l 7 (2 * q) = na at *
      generalize nd l 7 (2 * q + 1) = nb at *
      generalize p.getD 7 0 = o at *
      go_wp2_with fail
      refine (hM _ hBw).mono ?_
      rintro e w2 ⟨rfl, hc2⟩
      have hB2 := below_after_of hB.out hc2
      have hBw2 := HUP.out _ hB2
      clear hM hc2
      go_wp2_with fail
      refine (hN1 _ hBw2).mono ?_
      rintro e w3 ⟨rfl, hc3⟩
      have hB3 := below_after_of hB2 hc3
      have hBw3 := HUP.out _ hB3
      clear hN1 hc3 hB2 hBw2
      go_wp2_with fail
      refine (hN2 _ hBw3).mono ?_
      rintro e w4 ⟨rfl, hc4⟩
      have hB4 := below_after_of hB3 hc4
      have hBw4 := HUP.out _ hB4
      have ck := HCK.out _ hBw4
      clear hN2 hc4 hB3 hBw3
      have hX1 := fun w' => l5Nodes_any o mi na nb w' hb4 hb1 hb2 hb3
      go_wp2_with fail
      refine (hX1 _).mono ?_
      rintro e w5 ⟨hc5, a3, n3, c3, a4, n4, c4, rfl, hr⟩
      have hB5 := below_after_of hB4 hc5
      have hBw5 := HUP.out _ hB5
      clear hX1 hc5 ck
      by_cases h2 : y % 2 = 0
      · have h2b : (y % 2 == 0) = true := by simpa using h2
        have G5 := Tr3.new w5 (.bool (l2B (tagL 2 [o, mi]) (tagL 2 [na, nb]))) (.slice a3 n3 c3) (.slice a4 n4 c4) 58
        obtain ⟨W5, hW5⟩ : ∃ W5, W5 = w5.alloc (.cells #[.bool (l2B (tagL 2 [o, mi]) (tagL 2 [na, nb])), .slice a3 n3 c3, .slice a4 n4 c4] 58) := ⟨_, rfl⟩
        have hBW5 : Below W0.heap.size W0 W5 := by rw [hW5]; exact below_after_of hB5 (one_new _)
        have HW5 : Hid (w5.alloc (.cells #[.bool (l2B (tagL 2 [o, mi]) (tagL 2 [na, nb])), .slice a3 n3 c3, .slice a4 n4 c4] 58) = W5) := hW5.symm
        rw [← hW5] at G5
        have ck := (HCK.out _ (HUP.out _ hBW5))
        have hX2 := fun w' => l5Nodes_any mi o na nb w' hb1 hb4 hb2 hb3
        rw [(HPE.out h2).1, (HPE.out h2).2] at hX2
        have hsz5 : W0.heap.size ≤ w5.heap.size := hB5.size
        have ck2 : (w5.alloc (.cells #[.bool (l2B (tagL 2 [o, mi]) (tagL 2 [na, nb])), .slice a3 n3 c3, .slice a4 n4 c4] 58)).cell? ⟨b, off + 7, none⟩ = some (.int .i64 o) := by rw [HW5.out]; exact ck
        generalize l2B (tagL 2 [o, mi]) (tagL 2 [na, nb]) = fx at *
        clear hr hW5 hB5 hBw5 hB4 hBw4 HPE HPO h2
        go_wp2_with fail
        rw [HW5.out]
        refine (hX2 _).mono ?_
        rintro e w6 ⟨hc6, a5, n5, c5, a6, n6, c6, rfl, hr⟩
        have hB6 := below_after_of hBW5 hc6
        have G6 := G5.below hc6
        have hr := hr.mono (Nat.le_refl _)
        clear hX2 hc6 ck ck2 hBW5
        generalize hff : l2B (ndP x s p 7) (ndT l x 7) = f at *
        obtain ⟨k0, k1, k2, z0, z1, z2, hlt6⟩ := G6
        cases f
        · go_wp2
          go_roundw
          case rel => exact ⟨7, by omega, rfl, ((hB6.setCell hsz5 _).setCell hsz5 _).setCell hsz5 _, by show _ = _; first | rw [hW.out, ocW_no hff] | rw [ocW_no hff]⟩
          case measure => simp [intOf]
        · have T6 := HT3.out.below hB6
          have T7 := T6.other (g' := w5.heap.size) (fun e => by have := HSZ.out; omega) (.bool true) (.slice a5 n5 c5) (.slice a6 n6 c6)
          obtain ⟨t0, t1, t2, y0, y1, y2, -⟩ := T7
          have G7 := (Tr3.mk k0 k1 k2 z0 z1 z2 hlt6).set (.bool true) (.slice a5 n5 c5) (.slice a6 n6 c6)
          obtain ⟨g0, g1, g2, -, -, -, -⟩ := G7
          obtain ⟨W7, hW7⟩ : ∃ W7, W7 = ((w6.setCell ⟨w5.heap.size, 0, none⟩ (.bool true)).setCell ⟨w5.heap.size, 1, none⟩ (.slice a5 n5 c5)).setCell ⟨w5.heap.size, 2, none⟩ (.slice a6 n6 c6) := ⟨_, rfl⟩
          have hB7 : Below W0.heap.size W0 W7 := by rw [hW7]; exact ((hB6.setCell hsz5 _).setCell hsz5 _).setCell hsz5 _
          have hwl : w5.heap.size < W5.heap.size := by have := HW5.out; rw [← this]; simp
          have hr7 : Rows2 W5 W7 (.slice a5 n5 c5) (.slice a6 n6 c6) true (ndP x s p 7) (ndT l x 7) := by rw [hW7]; exact ((hr.set hwl 0 _).set hwl 1 _).set hwl 2 _
          have hr8 := hr7.mono (w0 := W0) (by omega)
          have hlt : w.heap.size < W0.heap.size := by rw [← HSZ.out]; omega
          have HB7 := HUP.out _ hB7
          have HE : Hid (ocW l x s p ls tt 8 = (ndP x s p 7, ndT l x 7)) := by show _ = _; first | rw [hW.out, ocW_yes hff] | rw [ocW_yes hff]
          have HFF : Hid (l2B (ndP x s p 7) (ndT l x 7) = true) := hff
          have HW7 : Hid (((w6.setCell ⟨w5.heap.size, 0, none⟩ (.bool true)).setCell ⟨w5.heap.size, 1, none⟩ (.slice a5 n5 c5)).setCell ⟨w5.heap.size, 2, none⟩ (.slice a6 n6 c6) = W7) := hW7.symm
          clear hr hr7 hB6 hff hW7 T6
          go_wp2
          rw [HW7.out] at t0 t1 t2 ⊢
          exact bodyPost_ret (v := .agg #[.bool true, .slice a5 n5 c5, .slice a6 n6 c6]) (by simp [results, Try.results89, go_sem, t0, t1, t2]) rfl (by
            rw [HE.out, HFF.out]
            exact ⟨((HB7.setCell (Nat.le_refl _) _).setCell (Nat.le_refl _) _).setCell (Nat.le_refl _) _, _, _, _, _, _, _, rfl, ((((hr8.set hlt 0 _).set hlt 1 _).set hlt 2 _)).mono HBW.out.size⟩)
      · have h2b : (y % 2 == 0) = false := by simpa using h2
        rw [(HPO.out h2).1, (HPO.out h2).2] at hr ⊢
        have hr8 := hr.mono (w0 := W0) hB4.size
        generalize hff : l2B (ndP x s p 7) (ndT l x 7) = f at *
        have T5 := HT3.out.below hB5
        have hsz5 : W0.heap.size ≤ w5.heap.size := hB5.size
        have T6 := T5.below (one_new (.cells #[.bool f, .slice a3 n3 c3, .slice a4 n4 c4] 58))
        obtain ⟨t0, t1, t2, y0, y1, y2, -⟩ := T6
        have hB6 := below_after_of hB5 (one_new (.cells #[.bool f, .slice a3 n3 c3, .slice a4 n4 c4] 58))
        have hr9 := hr8.below (one_new (.cells #[.bool f, .slice a3 n3 c3, .slice a4 n4 c4] 58))
        have hlt : w.heap.size < W0.heap.size := by rw [← HSZ.out]; omega
        have HB6 := HUP.out _ hB6
        have HR9 : Hid (Rows2 W0 (w5.alloc (.cells #[.bool f, .slice a3 n3 c3, .slice a4 n4 c4] 58)) (.slice a3 n3 c3) (.slice a4 n4 c4) f (ndP x s p 7) (ndT l x 7)) := hr9
        clear hr hr8 hr9 T5 HPE HPO h2
        cases f
        · go_wp2
          go_roundw
          case rel => exact ⟨7, by omega, rfl, hB6, by show _ = _; first | rw [hW.out, ocW_no hff] | rw [ocW_no hff]⟩
          case measure => simp [intOf]
        · have HE : Hid (ocW l x s p ls tt 8 = (ndP x s p 7, ndT l x 7)) := by show _ = _; first | rw [hW.out, ocW_yes hff] | rw [ocW_yes hff]
          have HFF : Hid (l2B (ndP x s p 7) (ndT l x 7) = true) := hff
          clear hff
          go_wp2
          exact bodyPost_ret (v := .agg #[.bool true, .slice a3 n3 c3, .slice a4 n4 c4]) (by simp [results, Try.results89, go_sem, t0, t1, t2]) rfl (by
            rw [HE.out, HFF.out]
            exact ⟨((HB6.setCell (Nat.le_refl _) _).setCell (Nat.le_refl _) _).setCell (Nat.le_refl _) _, _, _, _, _, _, _, rfl, ((((HR9.out.set hlt 0 _).set hlt 1 _).set hlt 2 _)).mono HBW.out.size⟩)
end U
end Go.Proofs.Ytgflamlfplpfdaa
