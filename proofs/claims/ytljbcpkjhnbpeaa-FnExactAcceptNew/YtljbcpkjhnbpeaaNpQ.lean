/- The pieces of a trail that has a leaf, as the program tells them. -/
import Derived.Test.YtljbcpkjhnbpeaaNpP
namespace Go.Proofs.Ytljbcpkjhnbpeaa
open Go.RowKit Go.Shelf
namespace U
attribute [local go_sem] Oper.semAt_some
set_option maxRecDepth 100000 in
set_option maxHeartbeats 4000000 in
theorem trailPieces_some (key k y : Int) (sv : Value) (f : Prl) (w : World) (hv : Prs w sv f) (hk : inB key 0 255 = true) (h0 : tlF true k y f = 0) :
    Calls Try.prog 47 #[.int .i64 key, .agg #[.bool true, .int .i64 k, .int .i64 y, sv]] w fun e w' => PcsAns w ((List.range (f.length + 1)).map (pcL key f (tagL 4 [k, y]))) e w' := by
  have hok := tlF_ok h0
  have hU := fun w' h => forksUp_any sv f w' (hv.below (w' := w') h)
  have hlf : (Tr.leaf k y).Ok := fine_bd hok.leaf
  have hPc := (piece_leaf hlf).c
  simp only [pcF_leaf, pcV_leaf] at hPc
  have hlb : Bts (Tr.leaf k y).bts := hlf.bts
  have hll : (Tr.leaf k y).bts.length ≤ 16 := by rw [Tr.bts_leaf, tagL_len]; simp
  rw [show tagL 4 [k, y] = (Tr.leaf k y).bts from (Tr.bts_leaf k y).symm]
  obtain ⟨ad, c, rfl⟩ := hv.shape
  obtain ⟨len, hlp⟩ : ∃ len, len = f.length := ⟨_, rfl⟩
  have HLP : Hid (len = f.length) := hlp
  have HFK : Hid (fkS f len = 0) := (by rw [hlp]; exact hok.fk : fkS f len = 0)
  have hn : len ≤ 8 := by rw [hlp]; exact hok.len
  rw [← hlp] at hU hv ⊢
  generalize (Tr.leaf k y).bts = lf at *
  obtain ⟨W, hW⟩ : ∃ W, W = (w.alloc (.cells #[.int .i64 key] 2)).alloc (.cells #[.bool true, .int .i64 k, .int .i64 y, .slice ad len c] 31) := ⟨_, rfl⟩
  have HW : Hid ((w.alloc (.cells #[.int .i64 key] 2)).alloc (.cells #[.bool true, .int .i64 k, .int .i64 y, .slice ad len c] 31) = W) := hW.symm
  have hB : Below w.heap.size w W := by rw [hW]; exact two_new _ _
  have HLL : Hid (W.heap[w.heap.size]? = some (.cells #[.int .i64 key] 2) ∧ W.heap[w.heap.size + 1]? = some (.cells #[.bool true, .int .i64 k, .int .i64 y, .slice ad len c] 31)) := (by
    rw [hW]
    have h1 := heap_alloc_new (w.alloc (.cells #[.int .i64 key] 2)) (.cells #[.bool true, .int .i64 k, .int .i64 y, .slice ad len c] 31)
    simp only [World.size_alloc] at h1
    exact ⟨((one_new _).block w.heap.size (by simp)).trans (heap_alloc_new w _), h1⟩ : _ ∧ _)
  have hz0 : Hid (W.heap.size = w.heap.size + 1 + 1) := (by rw [hW]; simp : W.heap.size = w.heap.size + 1 + 1)
  clear hW hlp hok hlf h0
  have k0 := box1_cell HLL.out.1
  obtain ⟨t0, t1, t2, t3⟩ := TlBlk.cells HLL.out.2
  refine (callsIn_wide (n := 4)).1 (callsIn_of_wp_marks Try.func47 rfl trivial ?_ rfl)
  refine wpIn_wide.2 ?_
  simp only [Try.ntmps47, List.size_toArray, List.length_cons, List.length_nil, Nat.reduceAdd, Nat.reduceSub, Array.replicate_succ, Array.replicate_zero, List.push_toArray, List.append_toArray, List.nil_append, List.cons_append]
  go_wp2_with fail
  rw [HW.out]
  refine (hPc _).mono ?_
  rintro e w3 ⟨u3, rfl, own3, hb3⟩
  have HO3 : Hid (w3.ownsRow W.heap.size 5 1 u3 lf.length (lf.map (Value.int .u8))) := own3
  obtain ⟨a3, c3, rfl⟩ := own_shape own3
  have hw1 := hz0.out
  have m3 := (hb3.cell (p := ⟨w.heap.size + 1, 3, none⟩) (by show w.heap.size + 1 < W.heap.size; omega)).trans t3
  have hz3 : w.heap.size + 1 < w3.heap.size := by have := hb3.size; omega
  have m3A : (((w3.alloc (.cells #[.slice a3 lf.length c3] 22)).alloc (.cells #[.slice a3 lf.length c3] 22)).alloc (.cells #[.slice (some ⟨w3.heap.size + 1, 0, none⟩) 1 1] 95)).cell? ⟨w.heap.size + 1, 3, none⟩ = some (.slice ad len c) := ((((one_new _).alloc (one_new _).size _).alloc ((one_new _).alloc (one_new _).size _).size _).cell (p := ⟨w.heap.size + 1, 3, none⟩) hz3).trans m3
  clear hPc own3 hw1
  go_wp2_with fail
  refine (hU _ (((below_after_of hB hb3).alloc (below_after_of hB hb3).size _).alloc ((below_after_of hB hb3).alloc (below_after_of hB hb3).size _).size _ |>.alloc (((below_after_of hB hb3).alloc (below_after_of hB hb3).size _).alloc ((below_after_of hB hb3).alloc (below_after_of hB hb3).size _).size _).size _)).mono ?_
  rintro e w4 ⟨rfl, hw4⟩
  have HW4 : Hid (w4 = (((w3.alloc (.cells #[.slice a3 lf.length c3] 22)).alloc (.cells #[.slice a3 lf.length c3] 22)).alloc (.cells #[.slice (some ⟨w3.heap.size + 1, 0, none⟩) 1 1] 95)).alloc (.cells #[.slice ad len c] 29)) := hw4
  simp only [World.size_alloc]
  clear hw4 hU m3A
  go_wp2
  have HZ4 : Hid (w4.heap.size = w3.heap.size + 1 + 1 + 1 + 1) := (by rw [HW4.out]; simp : w4.heap.size = w3.heap.size + 1 + 1 + 1 + 1)
  have hz4 : w3.heap.size < w4.heap.size := by have := HZ4.out; omega
  have hBw3 : Below w.heap.size w w3 := below_after_of hB hb3
  have hws : w.heap.size ≤ w3.heap.size := hBw3.size
  have hB4 : Below w3.heap.size w3 w4 := by rw [HW4.out]; exact (((one_new _).alloc (one_new _).size _).alloc ((one_new _).alloc (one_new _).size _).size _).alloc (((one_new _).alloc (one_new _).size _).alloc ((one_new _).alloc (one_new _).size _).size _).size _
  have hS4 : w4.heap[w3.heap.size + 1 + 1 + 1]? = some (.cells #[.slice ad len c] 29) := by
    have h1 := heap_alloc_new (((w3.alloc (.cells #[.slice a3 lf.length c3] 22)).alloc (.cells #[.slice a3 lf.length c3] 22)).alloc (.cells #[.slice (some ⟨w3.heap.size + 1, 0, none⟩) 1 1] 95)) (.cells #[.slice ad len c] 29)
    simp only [World.size_alloc] at h1
    rw [HW4.out]
    exact h1
  have hPI : PI w3.heap.size w.heap.size w4.heap.size w3 key lf [] w4 := by
    have q1 : w4.heap[w3.heap.size]? = some (.cells #[.slice a3 lf.length c3] 22) := by
      rw [HW4.out]
      exact ((((one_new _).alloc (one_new _).size _).alloc ((one_new _).alloc (one_new _).size _).size _).block w3.heap.size (by simp)).trans (heap_alloc_new w3 _)
    have q2 : w4.heap[w3.heap.size + 1 + 1]? = some (.cells #[.slice (some ⟨w3.heap.size + 1, 0, none⟩) 1 1] 95) := by
      have h1 := heap_alloc_new ((w3.alloc (.cells #[.slice a3 lf.length c3] 22)).alloc (.cells #[.slice a3 lf.length c3] 22)) (.cells #[.slice (some ⟨w3.heap.size + 1, 0, none⟩) 1 1] 95)
      simp only [World.size_alloc] at h1
      rw [HW4.out]
      exact ((one_new _).block (w3.heap.size + 1 + 1) (by simp)).trans h1
    have q3 : w4.ownsRow (w3.heap.size + 1) 22 1 (.slice (some ⟨w3.heap.size + 1, 0, none⟩) 1 1) 1 [.slice a3 lf.length c3] := by
      have h1 := own_one (w3.alloc (.cells #[.slice a3 lf.length c3] 22)) (w3.heap.size + 1) 22 (.slice a3 lf.length c3) (by simp)
      rw [World.size_alloc] at h1
      rw [HW4.out]
      exact own_below h1 (two_new _ _)
    have q4 : w4.ownsRow w.heap.size 5 1 (.slice a3 lf.length c3) lf.length (lf.map (Value.int .u8)) := own_mono (own_below HO3.out hB4) hB.size
    exact ⟨⟨a3, c3, w3.heap.size + 1, 1, [.slice a3 lf.length c3], q1, q2, q3, q4, PcRows.one q4⟩, hB4, Nat.le_refl _⟩
  have HV : Hid (∃ b off, (0 < len → ad = some ⟨b, off, none⟩ ∧ b < w.heap.size) ∧ ∀ j, j < len → w.cell? ⟨b, off + j * 2, none⟩ = some (.int .i64 (pAt f j).1) ∧ w.cell? ⟨b, off + j * 2 + 1, none⟩ = some (.int .i64 (pAt f j).2)) := (by
    have hl := HLP.out
    by_cases h0 : 0 < len
    · obtain ⟨-, b, off, e, hb, hc⟩ := hv.at (by omega)
      exact ⟨b, off, fun _ => ⟨e, hb⟩, fun j hj => hc j (by omega)⟩
    · exact ⟨0, 0, fun h => absurd h h0, fun j hj => by omega⟩ : ∃ b off, _)
  obtain ⟨b, off, hav, hcc⟩ := HV.out
  have HK3 : Hid (w3.heap[w.heap.size]? = some (.cells #[.int .i64 key] 2)) := (by have := hz0.out; exact (hb3.block _ (by omega)).trans HLL.out.1 : w3.heap[w.heap.size]? = some (.cells #[.int .i64 key] 2))
  clear HV hv k0 t0 t1 t2 t3 m3 hB hb3 HW
  refine (wpIn_wide (n := 4)).1 ?_
  refine wpIn_rangeFunc_ownH (α := Int × Fp) rfl (by decide) (gf := 105) (lb := #[.pointer (some ⟨w3.heap.size + 1 + 1 + 1, 0, none⟩)]) rfl trivial (enters_of Try.func105 (by kernel_rfl) rfl)
    (forksUp_stopsT (w := w4) 3 (by decide) w.heap.size (w3.heap.size + 1 + 1 + 1) b off len c ad f (gP f) (fun x => #[.int .i64 x.1, .agg #[.int .i64 x.2.1.1, .int .i64 x.2.1.2]]) HLP (by omega) (fun h => (hav h).2) ?hav ?hE (by omega) hS4 ?hc)
    KpT.trans ?hKb (Below.refl _ _) (fun _ => rfl)
    (PI w3.heap.size w.heap.size w4.heap.size w3 key lf)
    (fun _ _ _ => False) (PI.own (by have := HZ4.out; omega) rfl) (fun _ _ _ _ _ hs _ _ => hs) hPI
    (fun x a' W => ∃ Bx, w4.heap.size ≤ Bx ∧ W.heap[Bx]? = some (.cells #[.int .i64 x.2.1.1, .int .i64 x.2.1.2] 52) ∧ a' = { tmps := #[.int .i64 key, .agg #[.bool true, .int .i64 k, .int .i64 y, .slice ad len c], .pointer (some ⟨w.heap.size, 0, none⟩), .pointer (some ⟨w.heap.size + 1, 0, none⟩), .slice none 0 0, .pointer (some ⟨w3.heap.size, 0, none⟩), .pointer (some ⟨w3.heap.size + 1 + 1, 0, none⟩), undef, .pointer (some ⟨Bx, 0, none⟩), .pointer (some ⟨w.heap.size + 1, 0, none⟩), .bool true, .bool false, undef, undef, undef, .pointer (some ⟨w.heap.size + 1, 1, none⟩), .agg #[.int .i64 k, .int .i64 y], .agg #[.int .i64 k, .int .i64 y], .slice a3 lf.length c3, .slice a3 lf.length c3, .slice (some ⟨w3.heap.size + 1, 0, none⟩) 1 1, .pointer (some ⟨w.heap.size + 1, 3, none⟩), .slice ad len c, .func (.func 105) #[] #[.pointer (some ⟨w3.heap.size + 1 + 1 + 1, 0, none⟩)], .int .i64 x.1, .agg #[.int .i64 x.2.1.1, .int .i64 x.2.1.2], undef, undef, undef, undef, undef, undef, undef, undef, undef, undef, undef], defers := [] }) ?hAx ?assign ?body ?done ?stop
  case hav => exact fun h => ⟨(hav h).1, by have := (hav h).2; omega⟩
  case hE => exact fun j hj => by rw [(gP_at HFK.out hj).2, (gP_at HFK.out hj).1]
  case hc => exact fun j hj => ⟨((hB4.cell (p := ⟨b, off + j * 2, none⟩) (by have := (hav (by omega)).2; show b < w3.heap.size; omega)).trans (hBw3.cell (p := ⟨b, off + j * 2, none⟩) (hav (by omega)).2)).trans (hcc j hj).1, ((hB4.cell (p := ⟨b, off + j * 2 + 1, none⟩) (by have := (hav (by omega)).2; show b < w3.heap.size; omega)).trans (hBw3.cell (p := ⟨b, off + j * 2 + 1, none⟩) (hav (by omega)).2)).trans (hcc j hj).2⟩
  case hKb =>
    intro W l o o' hl h h1 h2
    refine ⟨belowK_b (w := w4) (by omega) W l o o' hl h h1 h2, fun q cs hq => ?_⟩
    have hne : q ≠ l := fun e => by subst e; rw [h] at hq; cases hq; simp [Obj.isCells] at h1
    rw [World.putObj_heap_other hne]
    exact hq
  case hAx =>
    rintro x a' - A B row ⟨Bx, h1, h2, h3⟩ hg hr
    refine ⟨Bx, h1, grown_blk hg h2 (fun e => ?_), h3⟩
    obtain ⟨-, o, ho, hn⟩ := hr Bx e.symm
    rw [h2] at ho
    cases ho
    simp [Obj.isCells] at hn
  case assign =>
    rintro l' pre x W K hPI' hK
    gi_wp2
    obtain ⟨⟨a, c', g, cp, us, h1, h2, h3, h4, h5⟩, hb', hz'⟩ := hPI'
    have hb1 := one_new (w := W) (.cells #[.int .i64 x.2.1.1, .int .i64 x.2.1.2] 52)
    exact hK _ _ ((KeepsOthers.alloc _ _).from _) (KpT.of_below (by omega) hb1) ⟨⟨a, c', g, cp, us, (hb1.block _ (Array.getElem?_eq_some_iff.1 h1).1).trans h1, (hb1.block _ (Array.getElem?_eq_some_iff.1 h2).1).trans h2, own_below h3 hb1, own_below h4 hb1, h5.below hb1⟩, hb'.alloc hb'.size _, Nat.le_trans hz' hb1.size⟩ ⟨W.heap.size, hz', heap_alloc_new W _, rfl⟩
  case body =>
    rintro l' pre x a' W hl ⟨r, hr⟩ ⟨⟨a, c', g, cp, us, h1, h2, h3, h4, h5⟩, hb', hz'⟩ ⟨Bx, hBx, hbk, rfl⟩ hlt
    obtain ⟨xa, ⟨⟨xb, xo⟩, hx⟩⟩ := x
    dsimp only at hbk ⊢
    obtain ⟨k0, k1, -, -⟩ := two_cellsV hbk
    have hxb := fkB_bd hx
    have hlo := pzs_ok (key := key) hlb hll pre
    have hsm := sm_ok (bs := (pzs key lf pre).2) (by omega)
    have HSN : Hid (pzs key lf (pre ++ [(xa, (⟨(xb, xo), hx⟩ : Fp))]) = ((pzs key lf pre).1 ++ [tagL 5 (ndL key xb xo (sumL (pzs key lf pre).2))], tagL 5 (ndL key xb xo (sumL (pzs key lf pre).2)))) := pzs_snoc _ _ _ _
    have hSm : ∀ w', Below W.heap.size W w' → Calls Try.prog 48 #[.slice a (pzs key lf pre).2.length c'] w' fun e w'' => e = .returned (.agg #[.int .i64 0, .int .i64 (sumL (pzs key lf pre).2)]) ∧ Below w'.heap.size w' w'' := fun w' h => by
      have q := implSumOf_any _ (pzs key lf pre).2 w' (own_ints (own_below h4 h)) hlo.1 (by omega)
      rw [hsm.1, hsm.2] at q
      exact q
    have hFB := fun w => forkBytes_any key xb xo (sumL (pzs key lf pre).2) w (inB_bd hk) hxb.1 hxb.2 (sumL_bd _)
    have hpl := pzs_len key lf pre
    have hf := field_IR1
    have ck := box1_cell ((hb'.block w.heap.size (by omega)).trans HK3.out)
    have cB := box1_cell h1
    have hltX : Bx < W.heap.size := (Array.getElem?_eq_some_iff.1 hbk).1
    have hltB : w3.heap.size < W.heap.size := by omega
    have HH1 : Hid (W.heap[w3.heap.size]? = some (.cells #[.slice a (pzs key lf pre).2.length c'] 22)) := h1
    have HH2 : Hid (W.heap[w3.heap.size + 1 + 1]? = some (.cells #[.slice (some ⟨g, 0, none⟩) (pre.length + 1) cp] 95)) := h2
    have HH3 : Hid (W.ownsRow (w3.heap.size + 1) 22 1 (.slice (some ⟨g, 0, none⟩) (pre.length + 1) cp) (pre.length + 1) us) := h3
    have HH5 : Hid (PcRows W w.heap.size us (pzs key lf pre).1) := h5
    have HHX : Hid (W.heap[Bx]? = some (.cells #[.int .i64 xb, .int .i64 xo] 52)) := hbk
    have H3 : Hid (Below w3.heap.size w3 W) := hb'
    have HPL : Hid (pre.length + 1 ≤ 8) := (by omega : pre.length + 1 ≤ 8)
    generalize sumL (pzs key lf pre).2 = sp at *
    generalize tagL 5 (ndL key xb xo sp) = ny at *
    generalize (pzs key lf pre).2 = py at *
    generalize (pzs key lf pre).1 = ps at *
    have hSk : W.cell? ⟨w.heap.size, 0, none⟩ = some (.int .i64 key) ∧ W.cell? ⟨Bx, 0, none⟩ = some (.int .i64 xb) ∧ W.cell? ⟨Bx, 1, none⟩ = some (.int .i64 xo) := ⟨ck, k0, k1⟩
    have HS : Hid (∀ w', Below W.heap.size W w' → w'.cell? ⟨w.heap.size, 0, none⟩ = some (.int .i64 key) ∧ w'.cell? ⟨Bx, 0, none⟩ = some (.int .i64 xb) ∧ w'.cell? ⟨Bx, 1, none⟩ = some (.int .i64 xo)) := fun w' h => ⟨(h.cell (p := ⟨w.heap.size, 0, none⟩) (by show w.heap.size < W.heap.size; omega)).trans ck, (h.cell (p := ⟨Bx, 0, none⟩) hltX).trans k0, (h.cell (p := ⟨Bx, 1, none⟩) hltX).trans k1⟩
    have HB : Hid (∀ w', Below W.heap.size W w' → w'.heap[w3.heap.size]? = some (.cells #[.slice a py.length c'] 22)) := fun w' h => (h.block _ hltB).trans HH1.out
    have hbb := Below.refl W.heap.size W
    have cBd : W.drew.cell? ⟨w3.heap.size, 0, none⟩ = some (.slice a py.length c') := cB
    clear h1 h2 h3 h4 h5 hxb hlo hsm hpl hbk
    gi_wp2
    refine region_round (S := fun w' => w'.cell? ⟨w.heap.size, 0, none⟩ = some (.int .i64 key) ∧ w'.cell? ⟨Bx, 0, none⟩ = some (.int .i64 xb) ∧ w'.cell? ⟨Bx, 1, none⟩ = some (.int .i64 xo)) (by kernel_rfl) ?nd ?no ?held
    case nd =>
      intro i o ho c
      rcases i with _ | _ | _ | _ | _ | _ | _ | i <;> simp at ho <;> (try subst ho) <;> simp
    case no =>
      rintro ⟨_, _, h⟩
      exact h
    case held =>
      have hHeld : W.drew.cell? ⟨w.heap.size, 0, none⟩ = some (.int .i64 key) ∧ W.drew.cell? ⟨Bx, 0, none⟩ = some (.int .i64 xb) ∧ W.drew.cell? ⟨Bx, 1, none⟩ = some (.int .i64 xo) := hSk
      refine h_take (i := 0) (d := (some 26)) (v := ?vq1) (by rfl) (by kernel_rfl) (by kernel_rfl) (by kernel_rfl) (fun _ _ _ h => h) (by rfl) ?hyq1 hHeld ?restq1
      case hyq1 =>
        intro o ho
        simp only [List.getElem?_toArray, List.getElem?_cons_zero, Option.some.injEq] at ho
        subst ho
        rintro w' ⟨s0, s1, s2⟩
        first | (go_simp; done) | (go_simp; with_reducible rfl)
      try simp only [Act.put, List.setIfInBounds_toArray, List.set_cons_zero, List.set_cons_succ]
      refine h_take (i := 1) (d := (some 27)) (v := ?vq2) (by rfl) (by kernel_rfl) (by kernel_rfl) (by kernel_rfl) (fun _ _ _ h => h) (by rfl) ?hyq2 hHeld ?restq2
      case hyq2 =>
        intro o ho
        simp only [List.getElem?_toArray, List.getElem?_cons_succ, List.getElem?_cons_zero, Option.some.injEq] at ho
        subst ho
        rintro w' ⟨s0, s1, s2⟩
        first | (go_simp; done) | (go_simp; with_reducible rfl)
      try simp only [Act.put, List.setIfInBounds_toArray, List.set_cons_zero, List.set_cons_succ]
      refine wpAnyH_ready (rs := [2]) (by kernel_rfl) (by simp) ?_
      refine AllReadyH.cons rfl (fun K hK => ?_) AllReadyH.nil
      go_simp
      try skip
      refine hK.out _ _ ?_ (fun hHeld => ?_)
      · first | exact hSk | exact HS.out _ hbb | exact HS.out _ hbb.drew
      clear hK K
      try simp only [Act.put, List.setIfInBounds_toArray, List.set_cons_zero, List.set_cons_succ]
      refine wpAnyH_ready (rs := [3]) (by kernel_rfl) (by simp) ?_
      refine AllReadyH.cons rfl (fun K hK => ?_) AllReadyH.nil
      go_simp
      refine (hSm _ hbb.drew).mono ?_
      rintro e wq ⟨rfl, hbq⟩
      have hbb : Below W.heap.size W wq := below_after_of hbb.drew hbq
      refine hK.out _ _ ?_ (fun hHeld => ?_)
      · first | exact hSk | exact HS.out _ hbb | exact HS.out _ hbb.drew
      clear hK K
      try simp only [Act.put, List.setIfInBounds_toArray, List.set_cons_zero, List.set_cons_succ]
      refine h_take (i := 4) (d := (some 30)) (v := ?vq3) (by rfl) (by kernel_rfl) (by kernel_rfl) (by kernel_rfl) (fun _ _ _ h => h) (by rfl) ?hyq3 hHeld ?restq3
      case hyq3 =>
        intro o ho
        simp only [List.getElem?_toArray, List.getElem?_cons_succ, List.getElem?_cons_zero, Option.some.injEq] at ho
        subst ho
        rintro w' ⟨s0, s1, s2⟩
        first | (go_simp; done) | (go_simp; with_reducible rfl)
      try simp only [Act.put, List.setIfInBounds_toArray, List.set_cons_zero, List.set_cons_succ]
      refine wpAnyH_ready (rs := [5]) (by kernel_rfl) (by simp) ?_
      refine AllReadyH.cons rfl (fun K hK => ?_) AllReadyH.nil
      go_simp
      refine (hFB _).mono ?_
      rintro e wr ⟨a5, c5, rfl, hbr5, own5⟩
      have hbb5 : Below W.heap.size W wr := below_after_of hbb hbr5
      have cB := box1_cell (HB.out _ hbb5)
      have fB : wr.frozen? ⟨w3.heap.size, 0, none⟩ = false := (by unfold World.frozen?; rw [HB.out _ hbb5]; rfl)
      refine hK.out _ _ ?_ (fun hHeld => ?_)
      · exact HS.out _ hbb5
      clear hK K
      try simp only [Act.put, List.setIfInBounds_toArray, List.set_cons_zero, List.set_cons_succ]
      refine wpAnyH_ready (rs := [6]) (by kernel_rfl) (by simp) ?_
      refine AllReadyH.cons rfl (fun K hK => ?_) AllReadyH.nil
      go_simp
      try skip
      refine hK.out _ _ ?_ (fun hHeld => ?_)
      · exact ⟨(World.cell?_setCell_other _ _ _ _ (by first | (simp; done) | (simp; omega))).trans (HS.out _ hbb5).1, (World.cell?_setCell_other _ _ _ _ (by first | (simp; done) | (simp; omega))).trans (HS.out _ hbb5).2.1, (World.cell?_setCell_other _ _ _ _ (by first | (simp; done) | (simp; omega))).trans (HS.out _ hbb5).2.2⟩
      clear hK K
      try simp only [Act.put, List.setIfInBounds_toArray, List.set_cons_zero, List.set_cons_succ]
      refine wpAnyH_done (by kernel_rfl) ?_ _
      obtain ⟨W5, hW5⟩ : ∃ W5, W5 = wr.setCell ⟨w3.heap.size, 0, none⟩ (.slice a5 ny.length c5) := ⟨_, rfl⟩
      have hg5 : wr.grownBy W5 (some w3.heap.size) := by rw [hW5]; exact grownBy_setCell' _ _ _
      have HX5 : Hid (W5.heap[w3.heap.size]? = some (.cells #[.slice a5 ny.length c5] 22)) := (by rw [hW5]; exact heap_setCell_same _ _ 0 _ _ _ (HB.out _ hbb5) : W5.heap[w3.heap.size]? = some (.cells #[.slice a5 ny.length c5] 22))
      have hlt2 := (Array.getElem?_eq_some_iff.1 HH2.out).1
      have HY5 : Hid (Boxed W5 (w3.heap.size + 1 + 1) 95 (.slice (some ⟨g, 0, none⟩) (pre.length + 1) cp)) := (grown_blk hg5 ((hbb5.block _ hlt2).trans HH2.out) (by simp; omega) : W5.heap[w3.heap.size + 1 + 1]? = _)
      have HR5 : Hid (W5.ownsRow (w3.heap.size + 1) 22 1 (.slice (some ⟨g, 0, none⟩) (pre.length + 1) cp) (pre.length + 1) us) := own_grown (own_below HH3.out hbb5) hg5 (Or.inr (fun e => by have := (HH3.out.lt _ e).1; omega))
      have hnu : ∀ (b : Nat) (cur : Array Value), some w3.heap.size = some b → wr.heap[b]? ≠ some (.cells cur 5) := fun b cur e => by cases e; exact not_type (HB.out _ hbb5) (by decide)
      have HO5 : Hid (W5.ownsRow w.heap.size 5 1 (.slice a5 ny.length c5) ny.length (ny.map (Value.int .u8))) := own_aside (own_mono own5 (by have := hbb.size; omega)) hg5 hnu
      have HP5 : Hid (PcRows W5 w.heap.size us ps) := (HH5.out.below hbb5).aside hg5 hnu
      have HZ5 : Hid (W.heap.size ≤ W5.heap.size) := Nat.le_trans hbb5.size hg5.size
      have HB5 : Hid (Below w3.heap.size W W5) := (hbb5.mono (Nat.le_of_lt hltB)).grown hg5 (Nat.le_trans (Nat.le_of_lt hltB) hbb5.size) (fun k hk => by cases hk; exact Nat.le_refl _)
      have HK5 : Hid (∀ (k : Nat) (o : Obj), k ≠ w3.heap.size → W.heap[k]? = some o → W5.heap[k]? = some o) := fun k o h1 h2 => grown_blk hg5 ((hbb5.block k (Array.getElem?_eq_some_iff.1 h2).1).trans h2) (by simp; exact h1)
      have y0 := HY5.out.cell
      have x0 := box1_cell HX5.out
      obtain ⟨i0, hi, hz0, hz1, hz2⟩ := info_parts Try.infoBs
      rw [← hW5]
      clear hW5 hg5 hnu hHeld hFB hSm hbr5 own5 cB fB HB HS
      gi_wp2_with (gi_at_builtin; refine wpListIn_append_own _ rfl _ _ 95 rfl (w3.heap.size + 1) 22 i0 _ 1 24 Try.underlying95 hi hz0 hz1 hz2 rfl (by decide) _ _ _ rfl (HR5.out.alloc _) ⟨W5.heap.size, 0, none⟩ 1 1 [.slice a5 ny.length c5] rfl rfl (cell_one_new _ _ _) (by simp [Value.oneCell']) (by have := HPL.out; unfold maxLen; omega) (by have := HPL.out; omega) (by have := HZ5.out; simp; omega) ?_; intro v' w8 hown' hgrow hnil; obtain ⟨g', cap', rfl⟩ := ownsRow_succ hown'; obtain ⟨hv1, hv2, hr2, hk2, hb2⟩ := HY5.out.appended (by decide) HR5.out (by have := HZ5.out; omega) (by omega) hown' hgrow; have hc1 := hv1.cell; have hf1 := hv1.frozen; have HHG : Hid ((W5.alloc (.cells #[.slice a5 ny.length c5] 22)).grownBy w8 (Value.slice (some ⟨g, 0, none⟩) (pre.length + 1) cp).ownBlock) := hgrow; clear hgrow hnil)
      obtain ⟨curg, hcg⟩ := own_type (HR5.out.alloc (.cells #[.slice a5 ny.length c5] 22)) (g := g) rfl
      have hkeep : ∀ (k : Nat) (o : Obj), k ≠ w3.heap.size → k ≠ g → k ≠ w3.heap.size + 1 + 1 → W.heap[k]? = some o → (w8.setCell ⟨w3.heap.size + 1 + 1, 0, none⟩ (.slice (some ⟨g', 0, none⟩) (pre.length + 1 + 1) cap')).heap[k]? = some o := fun k o e1 e2 e3 e4 => by
        rw [heap_setCell_other _ _ _ _ e3]
        refine grown_blk HHG.out (((one_new _).block k (Array.getElem?_eq_some_iff.1 (HK5.out k o e1 e4)).1).trans (HK5.out k o e1 e4)) (fun e => e2 ?_)
        simpa [Value.ownBlock] using e
      have hgo : ∀ (b : Nat) (cur : Array Value), (Value.slice (some ⟨g, 0, none⟩) (pre.length + 1) cp).ownBlock = some b → (W5.alloc (.cells #[.slice a5 ny.length c5] 22)).heap[b]? ≠ some (.cells cur 5) := fun b cur e => by
        have eb : g = b := by simpa [Value.ownBlock] using e
        subst eb
        exact not_type hcg (by decide)
      have hgs : ∀ (b : Nat) (cur : Array Value), some (w3.heap.size + 1 + 1) = some b → w8.heap[b]? ≠ some (.cells cur 5) := fun b cur e => by cases e; exact not_type hv1 (by decide)
      have hgt : ∀ (cs : Array Value) (t : TypeId), t ≠ 22 → W.heap[g]? ≠ some (.cells cs t) := fun cs t ht h => by
        obtain ⟨cur, hc⟩ := own_type HH3.out (g := g) rfl
        rw [h] at hc
        simp at hc
        exact ht hc.2
      have q1 : (w8.setCell ⟨w3.heap.size + 1 + 1, 0, none⟩ (.slice (some ⟨g', 0, none⟩) (pre.length + 1 + 1) cap')).heap[w3.heap.size]? = some (.cells #[.slice a5 ny.length c5] 22) := by
        rw [heap_setCell_other _ _ _ _ (by show w3.heap.size ≠ w3.heap.size + 1 + 1; omega)]
        refine grown_blk HHG.out (((one_new _).block _ (Array.getElem?_eq_some_iff.1 HX5.out).1).trans HX5.out) (fun e => ?_)
        have := (HR5.out.lt g rfl).1
        have e' : w3.heap.size = g := by simpa [Value.ownBlock] using e
        omega
      have q2 := own_aside (own_aside (own_below HO5.out (one_new (.cells #[.slice a5 ny.length c5] 22))) HHG.out hgo) (grownBy_setCell' w8 (w3.heap.size + 1 + 1) (.slice (some ⟨g', 0, none⟩) (pre.length + 1 + 1) cap')) hgs
      have q3 := ((HP5.out.below (one_new (.cells #[.slice a5 ny.length c5] 22))).aside HHG.out hgo).aside (grownBy_setCell' w8 (w3.heap.size + 1 + 1) (.slice (some ⟨g', 0, none⟩) (pre.length + 1 + 1) cap')) hgs
      have hszE : W.heap.size ≤ (w8.setCell ⟨w3.heap.size + 1 + 1, 0, none⟩ (.slice (some ⟨g', 0, none⟩) (pre.length + 1 + 1) cap')).heap.size := by
        rw [World.size_setCell]
        exact Nat.le_trans HZ5.out (Nat.le_trans (one_new _).size HHG.out.size)
      refine ⟨⟨hszE, fun k o hk ho hno => ?_⟩, ⟨(HB5.out.mono (by omega)).trans (hb2.mono (by omega)), fun k cs hk => ?_⟩, ⟨a5, c5, g', cap', us ++ [.slice a5 ny.length c5], ?_⟩, ?_, Nat.le_trans hz' hszE⟩
      · refine hkeep k o (by omega) (fun e => ?_) (by have := HZ4.out; omega) ho
        subst e
        obtain ⟨cur, hc⟩ := own_type HH3.out (g := k) rfl
        rw [hc] at ho
        cases ho
        simp [Obj.isCells] at hno
      · refine hkeep k _ (fun e => ?_) (fun e => ?_) (fun e => ?_) hk
        · subst e; exact not_type HH1.out (by decide) hk
        · subst e; exact hgt _ _ (by decide) hk
        · subst e; exact not_type HH2.out (by decide) hk
      · rw [HSN.out, List.length_append]
        exact ⟨q1, hv2, hr2, q2, q3.snoc q2⟩
      · exact (H3.out.trans HB5.out).trans (hb2.mono (by omega))
  case done =>
    rintro D ys W hD rfl ⟨⟨a, c', g, cp, us, h1, h2, h3, h4, h5⟩, hb', hz'⟩ hKD
    rw [upTo_len] at h2 h3
    rw [pzs_up HFK.out len (Nat.le_refl _)] at h5
    have c0 := box1_cell h2
    have hB6 : Below w.heap.size w (W.putObj D (.deferred none)) := (below_after_of hBw3 hb').trans (belowK_b (w := w) (Nat.le_refl _) W D _ _ (by omega) hKD rfl rfl)
    have hR6 := ownsRow_putObj h3 (.deferred none) hKD rfl
    have hP6 : PcRows (W.putObj D (.deferred none)) w.heap.size us ((List.range (len + 1)).map (pcL key f lf)) := ⟨h5.n, fun j u ys e1 e2 => ownsRow_putObj (h5.r j u ys e1 e2) (.deferred none) hKD rfl⟩
    have HPL : Hid (((List.range (len + 1)).map (pcL key f lf)).length = len + 1) := (by simp : ((List.range (len + 1)).map (pcL key f lf)).length = len + 1)
    clear h1 h2 h3 h4 h5 hb'
    go_wp2
    refine ⟨by simp, .inl ⟨_, _, rfl, run_takeDeferred hKD, ?_⟩⟩
    refine ⟨.slice (some ⟨g, 0, none⟩) (len + 1) cp, by simp [results, Try.results47, go_sem, *], hB6, g, cp, us, by rw [HPL.out], ?_, hP6⟩
    rw [HPL.out]
    exact own_mono hR6 (by omega)
  case stop =>
    rintro D c' pre W _ _ h _
    exact h.elim
end U
end Go.Proofs.Ytljbcpkjhnbpeaa
