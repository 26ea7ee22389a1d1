/- What comes of climbing a trail, as the program finds it. -/
import Derived.Test.YtgbjiaiclpbgbaaNp6
import Derived.Test.YtgbjiaiclpbgbaaNp9
namespace Go.Proofs.Ytgbjiaiclpbgbaa
open Go.RowKit Go.Shelf
namespace U
attribute [local go_sem] Oper.semAt_some
/-- A fork in range. -/
abbrev Fp := { p : Int × Int // fkB p = true }
def gP (f : Prl) (j : Nat) : Int × Fp := (ahd f j, if h : fkB (pAt f j) = true then ⟨pAt f j, h⟩ else ⟨(0, 0), rfl⟩)
def clF (key s : Int) (pre : List (Int × Fp)) : Int := pre.foldl (fun s x => ndS key x.2.1.1 x.2.1.2 s) s
theorem clF_snoc (key s : Int) (pre : List (Int × Fp)) (x : Int × Fp) : clF key s (pre ++ [x]) = ndS key x.2.1.1 x.2.1.2 (clF key s pre) := by unfold clF; rw [List.foldl_append]; rfl
theorem gP_at {f : Prl} {m j : Nat} (h : fkS f m = 0) (hj : j < m) : (gP f j).1 = ahd f j ∧ (gP f j).2.1 = pAt f j := by
  have h1 := (fkS_at h hj).1
  refine ⟨rfl, ?_⟩
  unfold gP
  rw [dif_pos h1]
theorem clF_up {key s : Int} {f : Prl} {m : Nat} (h : fkS f m = 0) : ∀ j, j ≤ m → clF key s (upTo (gP f) j) = clm key f s j
  | 0, _ => rfl
  | j + 1, hj => by
    rw [upTo_succ, clF_snoc, clF_up h j (by omega), (gP_at h hj).2]
    rfl
theorem clF_bd {key s : Int} (hs : 0 ≤ s ∧ s ≤ 65520) (pre : List (Int × Fp)) : 0 ≤ clF key s pre ∧ clF key s pre ≤ 65520 := by
  rcases List.eq_nil_or_concat pre with rfl | ⟨q, x, rfl⟩
  · exact hs
  · rw [List.concat_eq_append, clF_snoc]; exact sumL_bd _
/-- What holds between two rounds of climbing. -/
structure CI (B N : Nat) (w : World) (key s : Int) (pre : List (Int × Fp)) (W : World) : Prop where
  f : W.heap[B]? = some (.cells #[.int .i64 (clF key s pre)] 2)
  b : Below B w W
  z : N ≤ W.heap.size
set_option maxRecDepth 100000 in
set_option maxHeartbeats 4000000 in
theorem implClimbNew_some (key k y : Int) (sv : Value) (f : Prl) (w : World) (hv : Prs w sv f) (hk : inB key 0 255 = true) (h0 : tlF true k y f = 0) :
    Calls Try.prog 14 #[.int .i64 key, .agg #[.bool true, .int .i64 k, .int .i64 y, sv]] w fun e w' => IntAns w 0 (clV key true k y f) e w' := by
  have hok := tlF_ok h0
  have hK := fun w => isKey_any key w
  have hF := fun w' h => implTrailFault_any true k y sv f w' (hv.below (w' := w') h)
  have hU := fun w' h => forksUp_any sv f w' (hv.below (w' := w') h)
  have hlf : (Tr.leaf k y).Ok := fine_bd hok.leaf
  have hSm := (trieSum_any hlf).c
  rw [Tr.val_leaf, show (Tr.leaf k y).sum = lfS true k y from rfl] at hSm
  rw [hk] at hK
  rw [h0] at hF
  obtain ⟨ad, c, rfl⟩ := hv.shape
  obtain ⟨len, hlp⟩ : ∃ len, len = f.length := ⟨_, rfl⟩
  have HLP : Hid (len = f.length) := hlp
  have HFK : Hid (fkS f len = 0) := (by rw [hlp]; exact hok.fk : fkS f len = 0)
  have hn : len ≤ 8 := by rw [hlp]; exact hok.len
  unfold clV
  rw [← hlp] at hU hF hv ⊢
  have hsb := lfS_bd true k y
  generalize lfS true k y = s0 at *
  obtain ⟨W, hW⟩ : ∃ W, W = ((w.alloc (.cells #[.int .i64 key] 2)).alloc (.cells #[.bool true, .int .i64 k, .int .i64 y, .slice ad len c] 31)).alloc (.cells #[.int .i64 0, .int .i64 0] 38) := ⟨_, rfl⟩
  have HW : Hid (((w.alloc (.cells #[.int .i64 key] 2)).alloc (.cells #[.bool true, .int .i64 k, .int .i64 y, .slice ad len c] 31)).alloc (.cells #[.int .i64 0, .int .i64 0] 38) = W) := hW.symm
  have hB : Below w.heap.size w W := by rw [hW]; exact ((one_new _).alloc (one_new _).size _).alloc ((one_new _).alloc (one_new _).size _).size _
  have HLL : Hid (W.heap[w.heap.size]? = some (.cells #[.int .i64 key] 2) ∧ W.heap[w.heap.size + 1]? = some (.cells #[.bool true, .int .i64 k, .int .i64 y, .slice ad len c] 31) ∧ W.heap[w.heap.size + 1 + 1]? = some (.cells #[.int .i64 0, .int .i64 0] 38)) := (by
    rw [hW]
    have h1 := heap_alloc_new (w.alloc (.cells #[.int .i64 key] 2)) (.cells #[.bool true, .int .i64 k, .int .i64 y, .slice ad len c] 31)
    have h2 := heap_alloc_new ((w.alloc (.cells #[.int .i64 key] 2)).alloc (.cells #[.bool true, .int .i64 k, .int .i64 y, .slice ad len c] 31)) (.cells #[.int .i64 0, .int .i64 0] 38)
    simp only [World.size_alloc] at h1 h2
    exact ⟨((two_new _ _).block w.heap.size (by simp)).trans (heap_alloc_new w _), ((one_new _).block (w.heap.size + 1) (by simp)).trans h1, h2⟩ : _ ∧ _ ∧ _)
  have hz0 : Hid (W.heap.size = w.heap.size + 1 + 1 + 1) := (by rw [hW]; simp : W.heap.size = w.heap.size + 1 + 1 + 1)
  clear hW hlp hok hlf h0
  have k0 := box1_cell HLL.out.1
  obtain ⟨t0, t1, t2, t3⟩ := TlBlk.cells HLL.out.2.1
  refine (callsIn_wide (n := 4)).1 (callsIn_of_wp_marks Try.func14 rfl trivial ?_ rfl)
  refine wpIn_wide.2 ?_
  simp only [Try.ntmps14, List.size_toArray, List.length_cons, List.length_nil, Nat.reduceAdd, Nat.reduceSub, Array.replicate_succ, Array.replicate_zero, List.push_toArray, List.append_toArray, List.nil_append, List.cons_append]
  go_wp2_with fail
  rw [HW.out]
  refine (hK _).mono ?_
  rintro e w1 ⟨rfl, rfl⟩
  clear hK
  go_wp2_with fail
  refine (hF _ hB).mono ?_
  rintro e w2 ⟨rfl, hb2⟩
  have hw1 := hz0.out
  have m0 := (hb2.cell (p := ⟨w.heap.size + 1, 0, none⟩) (by show w.heap.size + 1 < w1.heap.size; omega)).trans t0
  have m1 := (hb2.cell (p := ⟨w.heap.size + 1, 1, none⟩) (by show w.heap.size + 1 < w1.heap.size; omega)).trans t1
  have m2 := (hb2.cell (p := ⟨w.heap.size + 1, 2, none⟩) (by show w.heap.size + 1 < w1.heap.size; omega)).trans t2
  clear hF hw1
  go_wp2_with fail
  refine (hSm _).mono ?_
  rintro e w3 ⟨rfl, hb3⟩
  have hb13 := below_after_of hb2 hb3
  have hw1 := hz0.out
  have m3 := (hb13.cell (p := ⟨w.heap.size + 1, 3, none⟩) (by show w.heap.size + 1 < w1.heap.size; omega)).trans t3
  have hz3 : w.heap.size + 1 < w3.heap.size := by have := hb13.size; omega
  clear hSm hw1 m0 m1 m2 hb2 hb3
  go_wp2_with fail
  refine (hU _ ((below_after_of hB hb13).alloc (below_after_of hB hb13).size _)).mono ?_
  rintro e w4 ⟨rfl, hw4⟩
  have HW4 : Hid (w4 = (w3.alloc (.cells #[.int .i64 s0] 2)).alloc (.cells #[.slice ad len c] 29)) := hw4
  rw [World.size_alloc]
  clear hw4 hU
  go_wp2
  have HZ4 : Hid (w4.heap.size = w3.heap.size + 1 + 1) := (by rw [HW4.out]; simp : w4.heap.size = w3.heap.size + 1 + 1)
  have hz4 : w3.heap.size < w4.heap.size := by have := HZ4.out; omega
  have hB4 : Below w3.heap.size w3 w4 := by rw [HW4.out]; exact two_new _ _
  have hF4 : w4.heap[w3.heap.size]? = some (.cells #[.int .i64 s0] 2) := by
    rw [HW4.out]
    exact ((one_new _).block w3.heap.size (by simp)).trans (heap_alloc_new w3 _)
  have hS4 : w4.heap[w3.heap.size + 1]? = some (.cells #[.slice ad len c] 29) := by
    have h1 := heap_alloc_new (w3.alloc (.cells #[.int .i64 s0] 2)) (.cells #[.slice ad len c] 29)
    rw [World.size_alloc] at h1
    rw [HW4.out]
    exact h1
  have hBw3 : Below w.heap.size w w3 := below_after_of hB hb13
  have HV : Hid (∃ b off, (0 < len → ad = some ⟨b, off, none⟩ ∧ b < w.heap.size) ∧ ∀ j, j < len → w.cell? ⟨b, off + j * 2, none⟩ = some (.int .i64 (pAt f j).1) ∧ w.cell? ⟨b, off + j * 2 + 1, none⟩ = some (.int .i64 (pAt f j).2)) := (by
    have hl := HLP.out
    by_cases h0 : 0 < len
    · obtain ⟨-, b, off, e, hb, hc⟩ := hv.at (by omega)
      exact ⟨b, off, fun _ => ⟨e, hb⟩, fun j hj => hc j (by omega)⟩
    · exact ⟨0, 0, fun h => absurd h h0, fun j hj => by omega⟩ : ∃ b off, _)
  obtain ⟨b, off, hav, hcc⟩ := HV.out
  have HK3 : Hid (w3.heap[w.heap.size]? = some (.cells #[.int .i64 key] 2)) := (by have := hz0.out; exact (hb13.block _ (by omega)).trans HLL.out.1 : w3.heap[w.heap.size]? = some (.cells #[.int .i64 key] 2))
  have HR3 : Hid (w3.heap[w.heap.size + 1 + 1]? = some (.cells #[.int .i64 0, .int .i64 0] 38)) := (by have := hz0.out; exact (hb13.block _ (by omega)).trans HLL.out.2.2 : w3.heap[w.heap.size + 1 + 1]? = some (.cells #[.int .i64 0, .int .i64 0] 38))
  have hr3 : w.heap.size + 1 + 1 < w3.heap.size := (Array.getElem?_eq_some_iff.1 HR3.out).1
  have hws : w.heap.size ≤ w3.heap.size := hBw3.size
  clear HV hv k0 t0 t1 t2 t3 m3 hB hb13 HW
  refine (wpIn_wide (n := 4)).1 ?_
  refine wpIn_rangeFunc_ownH (α := Int × Fp) rfl (by decide) (gf := 74) (lb := #[.pointer (some ⟨w3.heap.size + 1, 0, none⟩)]) rfl trivial (enters_of Try.func74 (by kernel_rfl) rfl)
    (forksUp_stops (w := w4) 3 (by decide) w3.heap.size (w3.heap.size + 1) b off len c ad f (gP f) (fun x => #[.int .i64 x.1, .agg #[.int .i64 x.2.1.1, .int .i64 x.2.1.2]]) HLP (by omega) ?hX ?hav ?hE hz4 hS4 ?hc)
    KpX.trans ?hKb (Below.refl _ _) (fun _ => rfl)
    (CI w3.heap.size w4.heap.size w3 key s0)
    (fun _ _ _ => False) ?hI (fun _ _ _ _ _ hs _ _ => hs) ?h0
    (fun x a' W => ∃ Bx, w4.heap.size ≤ Bx ∧ W.heap[Bx]? = some (.cells #[.int .i64 x.2.1.1, .int .i64 x.2.1.2] 52) ∧ a' = { tmps := #[.int .i64 key, .agg #[.bool true, .int .i64 k, .int .i64 y, .slice ad len c], .pointer (some ⟨w.heap.size, 0, none⟩), .pointer (some ⟨w.heap.size + 1, 0, none⟩), .pointer (some ⟨w.heap.size + 1 + 1, 0, none⟩), .int .i64 0, .pointer (some ⟨w3.heap.size, 0, none⟩), undef, .pointer (some ⟨Bx, 0, none⟩), .int .i64 key, .bool true, .bool false, undef, .agg #[.bool true, .int .i64 k, .int .i64 y, .slice ad len c], .int .i64 0, .int .i64 0, .bool false, undef, undef, .pointer (some ⟨w.heap.size + 1, 0, none⟩), .bool true, .bool false, undef, undef, undef, undef, .pointer (some ⟨w.heap.size + 1, 1, none⟩), .agg #[.int .i64 k, .int .i64 y], .agg #[.int .i64 k, .int .i64 y], .iface 73 (.agg #[.int .i64 k, .int .i64 y]), .int .i64 s0, .pointer (some ⟨w.heap.size + 1, 3, none⟩), .slice ad len c, .func (.func 74) #[] #[.pointer (some ⟨w3.heap.size + 1, 0, none⟩)], .int .i64 x.1, .agg #[.int .i64 x.2.1.1, .int .i64 x.2.1.2], undef, undef, undef, undef, undef, undef], defers := [] }) ?hAx ?assign ?body ?done ?stop
  case hX => exact fun h e => by have := (hav h).2; omega
  case hav => exact fun h => ⟨(hav h).1, by have := (hav h).2; omega⟩
  case hE => exact fun j hj => by rw [(gP_at HFK.out hj).2, (gP_at HFK.out hj).1]
  case hc => exact fun j hj => ⟨((hB4.cell (p := ⟨b, off + j * 2, none⟩) (by have := (hav (by omega)).2; show b < w3.heap.size; omega)).trans (hBw3.cell (p := ⟨b, off + j * 2, none⟩) (hav (by omega)).2)).trans (hcc j hj).1, ((hB4.cell (p := ⟨b, off + j * 2 + 1, none⟩) (by have := (hav (by omega)).2; show b < w3.heap.size; omega)).trans (hBw3.cell (p := ⟨b, off + j * 2 + 1, none⟩) (hav (by omega)).2)).trans (hcc j hj).2⟩
  case hKb => exact fun W l o o' _ h h1 _ => KpX.put W l o o' h h1
  case hI =>
    rintro pre A B row ⟨h1, h3, h4⟩ hg hr
    exact ⟨grown_blk hg h1 (fun e => by have := (hr _ e.symm).1; omega), h3.grown hg h3.size (fun k hk => by have := (hr k hk).1; omega), Nat.le_trans h4 hg.size⟩
  case h0 => exact ⟨hF4, hB4, Nat.le_refl _⟩
  case hAx =>
    rintro x a' - A B row ⟨Bx, h1, h2, h3⟩ hg hr
    refine ⟨Bx, h1, grown_blk hg h2 (fun e => ?_), h3⟩
    obtain ⟨-, o, ho, hn⟩ := hr Bx e.symm
    rw [h2] at ho
    cases ho
    simp [Obj.isCells] at hn
  case assign =>
    rintro l' pre x W K ⟨h1, h3, h4⟩ hK
    gi_wp2
    exact hK _ _ ((KeepsOthers.alloc _ _).from _) (KpX.of_below (one_new _)) ⟨((one_new _).block _ (Array.getElem?_eq_some_iff.1 h1).1).trans h1, h3.alloc h3.size _, Nat.le_trans h4 (one_new _).size⟩ ⟨W.heap.size, h4, heap_alloc_new W _, rfl⟩
  case body =>
    rintro l' pre x a' W hl ⟨r, hr⟩ ⟨h1, h3, h4⟩ ⟨Bx, hBx, hbk, rfl⟩ hlt
    obtain ⟨xa, ⟨⟨xb, xo⟩, hx⟩⟩ := x
    dsimp only at hbk ⊢
    obtain ⟨k0, k1, -, -⟩ := two_cellsV hbk
    have hxb := fkB_bd hx
    have hcs := clF_bd (key := key) hsb pre
    have hC := fun w => forkSum_any key xb xo (clF key s0 pre) w (inB_bd hk) hxb.1 hxb.2 hcs
    have HSN : Hid (clF key s0 (pre ++ [(xa, (⟨(xb, xo), hx⟩ : Fp))]) = ndS key xb xo (clF key s0 pre)) := clF_snoc _ _ _ _
    have c0 := box1_cell h1
    have ck := box1_cell ((h3.block w.heap.size (by omega)).trans HK3.out)
    have HH1 : Hid (W.heap[w3.heap.size]? = some (.cells #[.int .i64 (clF key s0 pre)] 2)) := h1
    have H3 : Hid (Below w3.heap.size w3 W) := h3
    generalize clF key s0 pre = sp at *
    generalize ndS key xb xo sp = sq at *
    clear hxb hcs hbk h1 h3
    gi_wp2_with (refine ⟨trivial, ?_⟩; gi_at_call 45; refine (CallsIn.inRound l' (callsIn_wide.2 (hC _))).mono ?_; rintro e Wc ⟨rfl, hbc⟩; have hFc := (hbc.block w3.heap.size (Array.getElem?_eq_some_iff.1 HH1.out).1).trans HH1.out; have cc := box1_cell hFc; have cf : Wc.frozen? ⟨w3.heap.size, 0, none⟩ = false := (by unfold World.frozen?; rw [hFc]; rfl))
    refine ⟨⟨?_, fun k ob hk hkb hno => ?_⟩, (KpX.of_below hbc).set _ _, ?_, (H3.out.trans (hbc.mono H3.out.size)).setCell (Nat.le_refl _) _, ?_⟩
    · rw [World.size_setCell]; exact hbc.size
    · rw [heap_setCell_other _ _ _ _ (show k ≠ w3.heap.size by omega)]
      exact (hbc.block k (Array.getElem?_eq_some_iff.1 hkb).1).trans hkb
    · rw [HSN.out]; exact heap_setCell_same _ _ 0 _ _ _ hFc
    · rw [World.size_setCell]; exact Nat.le_trans h4 hbc.size
  case done =>
    rintro D ys W hD rfl ⟨h1, h3, h4⟩ hKD
    rw [clF_up HFK.out len (Nat.le_refl _)] at h1
    have c0 := box1_cell h1
    have hRR := (h3.block (w.heap.size + 1 + 1) hr3).trans HR3.out
    obtain ⟨g0, g1, f0, f1⟩ := two_cellsV hRR
    obtain ⟨q, hq⟩ : ∃ q, q = clm key f s0 len := ⟨_, rfl⟩
    have HQ : Hid (q = clm key f s0 len) := hq
    rw [← hq] at c0
    clear hq
    have hDr : D ≠ w.heap.size + 1 + 1 := by omega
    have hKD5 : ((W.setCell ⟨w.heap.size + 1 + 1, 0, none⟩ (.int .i64 0)).setCell ⟨w.heap.size + 1 + 1, 1, none⟩ (.int .i64 q)).heap[D]? = some (.deferred (some [])) := by
      rw [heap_setCell_other _ _ _ _ hDr, heap_setCell_other _ _ _ _ hDr]
      exact hKD
    have hR5 : ((W.setCell ⟨w.heap.size + 1 + 1, 0, none⟩ (.int .i64 0)).setCell ⟨w.heap.size + 1 + 1, 1, none⟩ (.int .i64 q)).heap[w.heap.size + 1 + 1]? = some (.cells #[.int .i64 0, .int .i64 q] 38) := heap_setCell_same _ _ 1 _ _ _ (heap_setCell_same _ _ 0 _ _ _ hRR)
    have hB5 : Below w.heap.size w ((W.setCell ⟨w.heap.size + 1 + 1, 0, none⟩ (.int .i64 0)).setCell ⟨w.heap.size + 1 + 1, 1, none⟩ (.int .i64 q)) := ((below_after_of hBw3 h3).setCell (by show w.heap.size ≤ w.heap.size + 1 + 1; omega) _).setCell (by show w.heap.size ≤ w.heap.size + 1 + 1; omega) _
    clear h1 h3 hRR hF4 hS4 hB4
    go_wp2
    generalize ((W.setCell ⟨w.heap.size + 1 + 1, 0, none⟩ (.int .i64 0)).setCell ⟨w.heap.size + 1 + 1, 1, none⟩ (.int .i64 q)) = W5 at *
    refine ⟨by simp, .inl ⟨_, _, rfl, run_takeDeferred hKD5, ?_⟩⟩
    have hR6 : (W5.putObj D (.deferred none)).heap[w.heap.size + 1 + 1]? = some (.cells #[.int .i64 0, .int .i64 q] 38) := by
      rw [World.putObj_heap_other (Ne.symm hDr)]; exact hR5
    have hB6 : Below w.heap.size w (W5.putObj D (.deferred none)) := hB5.trans (belowK_b (w := w) (Nat.le_refl _) W5 D _ _ (by omega) hKD5 rfl rfl)
    clear g0 g1 f0 f1
    generalize W5.putObj D (.deferred none) = W6 at *
    obtain ⟨d0, d1, -, -⟩ := two_cellsV hR6
    exact ⟨.agg #[.int .i64 0, .int .i64 q], by simp [results, Try.results14, go_sem, *], by rw [HQ.out], hB6⟩
  case stop =>
    rintro D c' pre W _ _ h _
    exact h.elim
end U
end Go.Proofs.Ytgbjiaiclpbgbaa
