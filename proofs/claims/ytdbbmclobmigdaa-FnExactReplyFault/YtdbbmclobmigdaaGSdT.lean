/- A copy of what is said, as the laws make it. -/
import Derived.Test.YtdbbmclobmigdaaGSdL
namespace Go.Proofs.Ytdbbmclobmigdaa
open Go.RowKit
namespace U
/-- What is kept while cells of blocks that lie below are written. -/
structure StK (w W w2 : World) (u1 u3 : Value) (pn fn : Nat) (xs ys : List Value) (X : World) : Prop where
  b : Below w.heap.size w X
  o1 : X.ownsRow W.heap.size 2 1 u1 pn xs
  o3 : X.ownsRow w2.heap.size 90 2 u3 fn ys
theorem StK.set {w W w2 : World} {u1 u3 : Value} {pn fn : Nat} {xs ys : List Value} {X : World} (h : StK w W w2 u1 u3 pn fn xs ys X) (g i : Nat) (v : Value) (hg : w.heap.size ≤ g ∧ g < W.heap.size ∧ g < w2.heap.size) : StK w W w2 u1 u3 pn fn xs ys (X.setCell ⟨g, i, none⟩ v) :=
  ⟨h.b.setCell (by exact hg.1) v, ownsRow_setCell_below h.o1 (by exact hg.2.1) v, ownsRow_setCell_below h.o3 (by exact hg.2.2) v⟩
set_option maxRecDepth 100000 in
set_option maxHeartbeats 4000000 in
theorem toSaid_any (o t : Bool) (v : Int) (sp : Value) (ps : List Int) (x : Bool) (k y : Int) (sv : Value) (f : Prl) (w : World) (hp : Ints .i64 w sp ps) (hv : Prs w sv f) (hx : ps.length ≤ 1048576) (hy : f.length ≤ 1048576) :
    Calls Try.prog 13 #[.agg #[.bool o, .bool t, .int .i64 v, sp, .bool x, .int .i64 k, .int .i64 y, sv]] w fun e w' => ∃ a c a' c', e = .returned (.agg #[.bool o, .bool t, .int .i64 v, .slice a ps.length c, .bool x, .int .i64 k, .int .i64 y, .slice a' f.length c']) ∧ Below w.heap.size w w' ∧ w'.ownsRow w.heap.size 2 1 (.slice a ps.length c) ps.length (ps.map (Value.int .i64)) ∧ w'.ownsRow w.heap.size 90 2 (.slice a' f.length c') f.length ((fl f).map (Value.int .i64)) := by
  have hT1 := fun w' h => toInt64S_any sp ps w' (hp.below (w' := w') h) hx
  have hT2 := fun w' h => toTrail_any x k y sv f w' (hv.below (w' := w') h) hy
  obtain ⟨a, c, rfl⟩ := hp.shape
  obtain ⟨a', c', rfl⟩ := hv.shape
  generalize hpn : ps.length = pn at *
  generalize hfn : f.length = fn at *
  clear hp hv hpn hfn
  obtain ⟨W, hW⟩ : ∃ W, W = ((w.alloc (.cells #[.bool o, .bool t, .int .i64 v, .slice a pn c, .bool x, .int .i64 k, .int .i64 y, .slice a' fn c'] 31)).alloc (.cells #[.bool false, .bool false, .int .i64 0, .slice none 0 0, .bool false, .int .i64 0, .int .i64 0, .slice none 0 0] 42)).alloc (.cells #[.bool o, .bool t, .int .i64 v, .slice none 0 0, .bool false, .int .i64 0, .int .i64 0, .slice none 0 0] 42) := ⟨_, rfl⟩
  have HW : Hid (((w.alloc (.cells #[.bool o, .bool t, .int .i64 v, .slice a pn c, .bool x, .int .i64 k, .int .i64 y, .slice a' fn c'] 31)).alloc (.cells #[.bool false, .bool false, .int .i64 0, .slice none 0 0, .bool false, .int .i64 0, .int .i64 0, .slice none 0 0] 42)).alloc (.cells #[.bool o, .bool t, .int .i64 v, .slice none 0 0, .bool false, .int .i64 0, .int .i64 0, .slice none 0 0] 42) = W) := hW.symm
  have hB : Below w.heap.size w W := by rw [hW]; exact ((one_new _).alloc (one_new _).size _).alloc ((one_new _).alloc (one_new _).size _).size _
  have HLL : Hid (W.heap[w.heap.size]? = some (.cells #[.bool o, .bool t, .int .i64 v, .slice a pn c, .bool x, .int .i64 k, .int .i64 y, .slice a' fn c'] 31) ∧ W.heap[w.heap.size + 1]? = some (.cells #[.bool false, .bool false, .int .i64 0, .slice none 0 0, .bool false, .int .i64 0, .int .i64 0, .slice none 0 0] 42) ∧ W.heap[w.heap.size + 1 + 1]? = some (.cells #[.bool o, .bool t, .int .i64 v, .slice none 0 0, .bool false, .int .i64 0, .int .i64 0, .slice none 0 0] 42)) := (by rw [hW]; exact three_lieL w _ _ _ : _ ∧ _)
  obtain ⟨H0, H1, H2⟩ := HLL.out
  obtain ⟨⟨d0, d1, d2, d3, d4, d5, d6, d7⟩, -⟩ := eight_cells H0
  have hz : Hid (W.heap.size = w.heap.size + 1 + 1 + 1) := (by rw [hW]; simp : W.heap.size = w.heap.size + 1 + 1 + 1)
  clear hW
  go_enter Try.func13, Try.ntmps13
  go_wp2_with fail
  rw [HW.out]
  refine (hT1 _ hB).mono ?_
  rintro e w1 ⟨a1, c1, rfl, hb1, own1⟩
  have hzz := hz.out
  have hB1 := below_after_of hB hb1
  have G0 := (hb1.block w.heap.size (by omega)).trans H0
  have G1 := (hb1.block (w.heap.size + 1) (by omega)).trans H1
  have G2 := (hb1.block (w.heap.size + 1 + 1) (by omega)).trans H2
  have hs1 : w.heap.size + 1 + 1 < w1.heap.size := (Array.getElem?_eq_some_iff.1 G2).1
  obtain ⟨⟨d0, d1, d2, d3, d4, d5, d6, d7⟩, -⟩ := eight_cells G0
  obtain ⟨⟨q0, q1, q2, q3, q4, q5, q6, q7⟩, r0, r1, r2, r3, r4, r5, r6, r7⟩ := eight_cells G2
  obtain ⟨w2, hw2⟩ : ∃ w2, w2 = w1.setCell ⟨w.heap.size + 1 + 1, 3, none⟩ (.slice a1 pn c1) := ⟨_, rfl⟩
  have HW2 : Hid (w1.setCell ⟨w.heap.size + 1 + 1, 3, none⟩ (.slice a1 pn c1) = w2) := hw2.symm
  have hB2 : Below w.heap.size w w2 := by rw [hw2]; exact hB1.setCell (by show w.heap.size ≤ w.heap.size + 1 + 1; omega) _
  have K0 : w2.heap[w.heap.size]? = some (.cells #[.bool o, .bool t, .int .i64 v, .slice a pn c, .bool x, .int .i64 k, .int .i64 y, .slice a' fn c'] 31) := by rw [hw2, heap_setCell_other _ _ _ _ (show w.heap.size ≠ w.heap.size + 1 + 1 by omega)]; exact G0
  have K1 : w2.heap[w.heap.size + 1]? = some (.cells #[.bool false, .bool false, .int .i64 0, .slice none 0 0, .bool false, .int .i64 0, .int .i64 0, .slice none 0 0] 42) := by rw [hw2, heap_setCell_other _ _ _ _ (show w.heap.size + 1 ≠ w.heap.size + 1 + 1 by omega)]; exact G1
  have K2 : w2.heap[w.heap.size + 1 + 1]? = some (.cells #[.bool o, .bool t, .int .i64 v, .slice a1 pn c1, .bool false, .int .i64 0, .int .i64 0, .slice none 0 0] 42) := by rw [hw2]; exact heap_setCell_same _ _ 3 _ _ _ G2
  have hzs2 : w2.heap.size = w1.heap.size := by rw [hw2]; exact World.size_setCell _ _ _
  have O1 : Hid (w2.ownsRow W.heap.size 2 1 (.slice a1 pn c1) pn (ps.map (Value.int .i64))) := (by rw [hw2]; exact ownsRow_setCell_below own1 (by show w.heap.size + 1 + 1 < W.heap.size; omega) _ : w2.ownsRow W.heap.size 2 1 (.slice a1 pn c1) pn (ps.map (Value.int .i64)))
  obtain ⟨⟨t0, t1, t2, t3, t4, t5, t6, t7⟩, -⟩ := eight_cells K0
  clear hT1 hb1 own1 hw2 H0 H1 H2 G0 G1 G2 hB hB1
  go_wp2_with fail
  rw [HW2.out]
  refine (hT2 _ hB2).mono ?_
  rintro e w3 ⟨a3, c3, rfl, hb3, own3⟩
  have hB3 := below_after_of hB2 hb3
  obtain ⟨⟨m0, m1, m2, m3, m4, m5, m6, m7⟩, n0, n1, n2, n3, n4, n5, n6, n7⟩ := eight_cells ((hb3.block (w.heap.size + 1) (by omega)).trans K1)
  obtain ⟨⟨p0, p1, p2, p3, p4, p5, p6, p7⟩, s0, s1, s2, s3, s4, s5, s6, s7⟩ := eight_cells ((hb3.block (w.heap.size + 1 + 1) (by omega)).trans K2)
  have O1 : Hid (w3.ownsRow W.heap.size 2 1 (.slice a1 pn c1) pn (ps.map (Value.int .i64))) := own_below O1.out hb3
  have O3 : Hid (w3.ownsRow w2.heap.size 90 2 (.slice a3 fn c3) fn ((fl f).map (Value.int .i64))) := own3
  have HZ : Hid (w.heap.size + 1 + 1 < w2.heap.size ∧ w.heap.size + 1 < w2.heap.size ∧ w.heap.size + 1 + 1 < W.heap.size ∧ w.heap.size + 1 < W.heap.size) := ⟨by omega, by omega, by omega, by omega⟩
  have HB3 : Hid (Below w.heap.size w w3) := hB3
  have KK1 : Hid (w3.heap[w.heap.size + 1]? = some (.cells #[.bool false, .bool false, .int .i64 0, .slice none 0 0, .bool false, .int .i64 0, .int .i64 0, .slice none 0 0] 42)) := (hb3.block (w.heap.size + 1) (by omega)).trans K1
  clear hT2 hB2 hb3 hB3 own3 K0 K1 K2 hzs2 hzz d0 d1 d2 d3 d4 d5 d6 d7 q0 q1 q2 q3 q4 q5 q6 q7 r0 r1 r2 r3 r4 r5 r6 r7 t0 t1 t2 t3 t4 t5 t6 t7 hs1
  have hst : StK w W w2 (.slice a1 pn c1) (.slice a3 fn c3) pn fn (ps.map (Value.int .i64)) ((fl f).map (Value.int .i64)) w3 := ⟨HB3.out, O1.out, O3.out⟩
  obtain ⟨z1, z2, z3, z4⟩ := HZ.out
  have y1 : w.heap.size ≤ w.heap.size + 1 ∧ w.heap.size + 1 < W.heap.size ∧ w.heap.size + 1 < w2.heap.size := ⟨by omega, z4, z2⟩
  have y2 : w.heap.size ≤ w.heap.size + 1 + 1 ∧ w.heap.size + 1 + 1 < W.heap.size ∧ w.heap.size + 1 + 1 < w2.heap.size := ⟨by omega, z3, z1⟩
  have HST := ((((((((((((hst.set (w.heap.size + 1 + 1) 4 (.bool x) y2).set (w.heap.size + 1 + 1) 5 (.int .i64 k) y2).set (w.heap.size + 1 + 1) 6 (.int .i64 y) y2).set (w.heap.size + 1 + 1) 7 (.slice a3 fn c3) y2).set (w.heap.size + 1) 0 (.bool o) y1).set (w.heap.size + 1) 1 (.bool t) y1).set (w.heap.size + 1) 2 (.int .i64 v) y1).set (w.heap.size + 1) 3 (.slice a1 pn c1) y1).set (w.heap.size + 1) 4 (.bool x) y1).set (w.heap.size + 1) 5 (.int .i64 k) y1).set (w.heap.size + 1) 6 (.int .i64 y) y1).set (w.heap.size + 1) 7 (.slice a3 fn c3) y1)
  clear hst O1 O3 HB3 KK1 y1 y2
  go_wp2
  refine bodyPost_ret (v := .agg #[.bool o, .bool t, .int .i64 v, .slice a1 pn c1, .bool x, .int .i64 k, .int .i64 y, .slice a3 fn c3]) (by simp [results, Try.results13, go_sem, m0, m1, m2, m3, m4, m5, m6, m7]) rfl ⟨a1, c1, a3, c3, rfl, HST.b, own_mono HST.o1 (by omega), own_mono HST.o3 (by omega)⟩
end U
end Go.Proofs.Ytdbbmclobmigdaa
