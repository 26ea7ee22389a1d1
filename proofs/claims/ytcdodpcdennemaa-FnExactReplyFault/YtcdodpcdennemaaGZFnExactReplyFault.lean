/- Joined: what the texts behind it need. -/
import Derived.Test.YtcdodpcdennemaaSd1
import Derived.Test.YtcdodpcdennemaaNpS
import Derived.Test.YtcdodpcdennemaaTo
import Derived.Test.YtcdodpcdennemaaRec1
import Derived.Test.YtcdodpcdennemaaIntR
import Derived.Test.YtcdodpcdennemaaRpM
import Derived.Test.YtcdodpcdennemaaJrL
import Derived.Test.YtcdodpcdennemaaRp1
import Derived.Test.YtcdodpcdennemaaRp2
import Derived.Deep.RegionHeld3
import Derived.Test.YtcdodpcdennemaaRows
import Derived.WalkKit
import Derived.ProofKit
import Derived.OpenShut
import Derived.ShutString
import Derived.WalkSmall
import Derived.Test.YtcdodpcdennemaaSl1
import Derived.Deep.SlicePairs
import Derived.Lib.SmallJoins
import Derived.Deep.Strs
import Derived.Test.YtcdodpcdennemaaInts
/- Helpers of the laws for what is said: its size, copies, comparison. -/
namespace Go.Proofs.Ytcdodpcdennemaa
open Go.RowKit
namespace U
set_option maxHeartbeats 400000 in
theorem szInt64S_gen (z : Nat) (hz : z ≤ 1048576) (a : Option Addr) (n c : Nat) (w : World) (hn : n ≤ maxLen) :
    Calls Try.prog 116 #[.slice a n c, .int .i64 (z : Int)] w fun e w' => e = .returned (.int .i64 (if n ≤ z then ((z : Int) - (n : Int)) else -1)) ∧ w' = w := by
  unfold maxLen at hn
  by_cases h : n ≤ z
  · rw [if_pos h]
    have h1 : wrap64 ((z : Int) - (n : Int)) = (z : Int) - (n : Int) := by simp only [wrap64]; omega
    have h2 : ¬ ((z : Int) - (n : Int) < 0) := by omega
    go_enter Try.func116, Try.ntmps116
    go_wp2
    go_ret
    exact ⟨rfl, rfl⟩
  · rw [if_neg h]
    have h1 : wrap64 ((z : Int) - (n : Int)) = (z : Int) - (n : Int) := by simp only [wrap64]; omega
    have h2 : (z : Int) - (n : Int) < 0 := by omega
    go_enter Try.func116, Try.ntmps116
    go_wp2
    go_ret
    exact ⟨rfl, rfl⟩
theorem eight_cells {w : World} {g : Nat} {v0 v1 v2 v3 v4 v5 v6 v7 : Value} {ty : TypeId} (h : w.heap[g]? = some (.cells #[v0, v1, v2, v3, v4, v5, v6, v7] ty)) : (w.cell? ⟨g, 0, none⟩ = some v0 ∧ w.cell? ⟨g, 1, none⟩ = some v1 ∧ w.cell? ⟨g, 2, none⟩ = some v2 ∧ w.cell? ⟨g, 3, none⟩ = some v3 ∧ w.cell? ⟨g, 4, none⟩ = some v4 ∧ w.cell? ⟨g, 5, none⟩ = some v5 ∧ w.cell? ⟨g, 6, none⟩ = some v6 ∧ w.cell? ⟨g, 7, none⟩ = some v7) ∧
    (w.frozen? ⟨g, 0, none⟩ = false ∧ w.frozen? ⟨g, 1, none⟩ = false ∧ w.frozen? ⟨g, 2, none⟩ = false ∧ w.frozen? ⟨g, 3, none⟩ = false ∧ w.frozen? ⟨g, 4, none⟩ = false ∧ w.frozen? ⟨g, 5, none⟩ = false ∧ w.frozen? ⟨g, 6, none⟩ = false ∧ w.frozen? ⟨g, 7, none⟩ = false) := by
  refine ⟨⟨?_, ?_, ?_, ?_, ?_, ?_, ?_, ?_⟩, ?_, ?_, ?_, ?_, ?_, ?_, ?_, ?_⟩ <;> (first | (unfold World.cell?; rw [h]; rfl) | (unfold World.frozen?; rw [h]; rfl))
set_option maxRecDepth 100000 in
set_option maxHeartbeats 2000000 in
theorem szSaid_gen (zz : Nat) (hzz : zz ≤ 1048576) (o t : Bool) (v : Int) (a : Option Addr) (pn c : Nat) (x : Bool) (k y : Int) (a' : Option Addr) (fn c' : Nat) (w : World) (hp : pn ≤ maxLen) (hf : fn ≤ maxLen) :
    Calls Try.prog 70 #[.agg #[.bool o, .bool t, .int .i64 v, .slice a pn c, .bool x, .int .i64 k, .int .i64 y, .slice a' fn c'], .int .i64 (zz : Int)] w fun e w' => e = .returned (.int .i64 (if pn + fn ≤ zz then ((zz : Int) - (pn : Int) - (fn : Int)) else -1)) ∧ Below w.heap.size w w' := by
  have hP := fun w => szInt64S_gen zz hzz a pn c w hp
  have h0 := eight_cells (heap_alloc_new w (.cells #[.bool o, .bool t, .int .i64 v, .slice a pn c, .bool x, .int .i64 k, .int .i64 y, .slice a' fn c'] 83))
  obtain ⟨⟨c0, c1, c2, c3, c4, c5, c6, c7⟩, -⟩ := h0
  by_cases h1 : pn ≤ zz
  · rw [if_pos h1] at hP
    have hT := fun w => szTrail_gen (zz - pn) (by omega) x k y a' fn c' w hf
    rw [show ((zz - pn : Nat) : Int) = (zz : Int) - (pn : Int) by omega] at hT
    have hz0 : ¬ ((zz : Int) - (pn : Int) < 0) := by omega
    by_cases h2 : fn ≤ zz - pn
    · rw [if_pos h2] at hT
      rw [if_pos (by omega)]
      have hz1 : ¬ ((zz : Int) - (pn : Int) - (fn : Int) < 0) := by omega
      generalize (zz : Int) - (pn : Int) - (fn : Int) = q2 at *
      generalize (zz : Int) - (pn : Int) = q1 at *
      generalize (zz : Int) = q0 at *
      go_enter Try.func70, Try.ntmps70
      go_wp2_with fail
      refine (hP _).mono ?_
      rintro e w1 ⟨rfl, hw1⟩
      rw [hw1]
      clear hP hw1
      go_wp2_with fail
      refine (hT _).mono ?_
      rintro e w2 ⟨rfl, hb2⟩
      have hB2 := below_after hb2
      clear hT hb2
      go_wp2
      go_ret
      exact ⟨rfl, hB2⟩
    · rw [if_neg h2] at hT
      rw [if_neg (by omega)]
      generalize (zz : Int) - (pn : Int) = q1 at *
      generalize (zz : Int) = q0 at *
      go_enter Try.func70, Try.ntmps70
      go_wp2_with fail
      refine (hP _).mono ?_
      rintro e w1 ⟨rfl, hw1⟩
      rw [hw1]
      clear hP hw1
      go_wp2_with fail
      refine (hT _).mono ?_
      rintro e w2 ⟨rfl, hb2⟩
      have hB2 := below_after hb2
      clear hT hb2
      go_wp2
      go_ret
      exact ⟨rfl, hB2⟩
  · rw [if_neg h1] at hP
    rw [if_neg (by omega)]
    generalize (zz : Int) = q0 at *
    go_enter Try.func70, Try.ntmps70
    go_wp2_with fail
    refine (hP _).mono ?_
    rintro e w1 ⟨rfl, hw1⟩
    rw [hw1]
    clear hP hw1
    go_wp2
    go_ret
    exact ⟨rfl, one_new _⟩
set_option maxRecDepth 100000 in
set_option maxHeartbeats 4000000 in
theorem eqSaid_same (o t : Bool) (v : Int) (sp sp' : Value) (ps : List Int) (x : Bool) (k y : Int) (sv sv' : Value) (f : Prl) (w : World) (hp : Ints .i64 w sp ps) (hp' : Ints .i64 w sp' ps) (hv : Prs w sv f) (hv' : Prs w sv' f) (hx : ps.length ≤ 1099511627776) (hy : f.length ≤ 1099511627776) :
    Calls Try.prog 79 #[.agg #[.bool o, .bool t, .int .i64 v, sp, .bool x, .int .i64 k, .int .i64 y, sv], .agg #[.bool o, .bool t, .int .i64 v, sp', .bool x, .int .i64 k, .int .i64 y, sv']] w fun e w' => e = .returned (.bool true) ∧ Below w.heap.size w w' := by
  have hE := fun w' h => eqInt64S_any sp sp' ps ps w' (hp.below (w' := w') h) (hp'.below h) hx hx
  rw [decide_eq_true rfl] at hE
  have hT := fun w' h => eqTrail7_same x k y sv sv' f w' (hv.below (w' := w') h) (hv'.below h) hy
  obtain ⟨a, c, rfl⟩ := hp.shape
  obtain ⟨a1, c1, rfl⟩ := hp'.shape
  obtain ⟨a2, c2, rfl⟩ := hv.shape
  obtain ⟨a3, c3, rfl⟩ := hv'.shape
  generalize ps.length = pn at *
  generalize f.length = fn at *
  clear hp hp' hv hv'
  obtain ⟨W, hW⟩ : ∃ W, W = (w.alloc (.cells #[.bool o, .bool t, .int .i64 v, .slice a pn c, .bool x, .int .i64 k, .int .i64 y, .slice a2 fn c2] 93)).alloc (.cells #[.bool o, .bool t, .int .i64 v, .slice a1 pn c1, .bool x, .int .i64 k, .int .i64 y, .slice a3 fn c3] 93) := ⟨_, rfl⟩
  have HW : Hid ((w.alloc (.cells #[.bool o, .bool t, .int .i64 v, .slice a pn c, .bool x, .int .i64 k, .int .i64 y, .slice a2 fn c2] 93)).alloc (.cells #[.bool o, .bool t, .int .i64 v, .slice a1 pn c1, .bool x, .int .i64 k, .int .i64 y, .slice a3 fn c3] 93) = W) := hW.symm
  have hB : Below w.heap.size w W := by rw [hW]; exact two_new _ _
  have H0 : W.heap[w.heap.size]? = some (.cells #[.bool o, .bool t, .int .i64 v, .slice a pn c, .bool x, .int .i64 k, .int .i64 y, .slice a2 fn c2] 93) := by
    rw [hW]; exact ((one_new _).block w.heap.size (by simp)).trans (heap_alloc_new w _)
  have H1 : W.heap[w.heap.size + 1]? = some (.cells #[.bool o, .bool t, .int .i64 v, .slice a1 pn c1, .bool x, .int .i64 k, .int .i64 y, .slice a3 fn c3] 93) := by
    have h := heap_alloc_new (w.alloc (.cells #[.bool o, .bool t, .int .i64 v, .slice a pn c, .bool x, .int .i64 k, .int .i64 y, .slice a2 fn c2] 93)) (.cells #[.bool o, .bool t, .int .i64 v, .slice a1 pn c1, .bool x, .int .i64 k, .int .i64 y, .slice a3 fn c3] 93)
    rw [World.size_alloc] at h
    rw [hW]; exact h
  obtain ⟨⟨d0, d1, d2, d3, d4, d5, d6, d7⟩, -⟩ := eight_cells H0
  obtain ⟨⟨e0, e1, e2, e3, e4, e5, e6, e7⟩, -⟩ := eight_cells H1
  have hne : (v != v) = false := by simp
  have hno : ∀ b : Bool, (b != b) = false := by intro b; cases b <;> rfl
  have hno1 := hno o
  have hno2 := hno t
  clear hW hno
  go_enter Try.func79, Try.ntmps79
  go_wp2_with fail
  rw [HW.out]
  refine (hE _ hB).mono ?_
  rintro e w1 ⟨rfl, n1, hw1⟩
  have hb1 : Below W.heap.size W w1 := by rw [hw1]; exact below_drewN (Below.refl _ _) n1
  have hB1 := below_after_of hB hb1
  obtain ⟨⟨d0, d1, d2, d3, d4, d5, d6, d7⟩, -⟩ := eight_cells ((hb1.block _ (Array.getElem?_eq_some_iff.1 H0).1).trans H0)
  obtain ⟨⟨e0, e1, e2, e3, e4, e5, e6, e7⟩, -⟩ := eight_cells ((hb1.block _ (Array.getElem?_eq_some_iff.1 H1).1).trans H1)
  clear hE hw1 hb1 H0 H1
  go_wp2_with fail
  refine (hT _ hB1).mono ?_
  rintro e w2 ⟨rfl, hb2⟩
  have hB2 := below_after_of hB1 hb2
  clear hT hb2
  go_wp2
  go_ret
  exact ⟨rfl, hB2⟩
end U
end Go.Proofs.Ytcdodpcdennemaa

/- A copy of what is said, as the laws make it. -/
namespace Go.Proofs.Ytcdodpcdennemaa
open Go.RowKit
namespace U
/-- What is kept while cells of blocks that lie below are written. -/
structure StK (w W w2 : World) (u1 u3 : Value) (pn fn : Nat) (xs ys : List Value) (X : World) : Prop where
  b : Below w.heap.size w X
  o1 : X.ownsRow W.heap.size 2 1 u1 pn xs
  o3 : X.ownsRow w2.heap.size 224 2 u3 fn ys
theorem StK.set {w W w2 : World} {u1 u3 : Value} {pn fn : Nat} {xs ys : List Value} {X : World} (h : StK w W w2 u1 u3 pn fn xs ys X) (g i : Nat) (v : Value) (hg : w.heap.size ≤ g ∧ g < W.heap.size ∧ g < w2.heap.size) : StK w W w2 u1 u3 pn fn xs ys (X.setCell ⟨g, i, none⟩ v) :=
  ⟨h.b.setCell (by exact hg.1) v, ownsRow_setCell_below h.o1 (by exact hg.2.1) v, ownsRow_setCell_below h.o3 (by exact hg.2.2) v⟩
set_option maxRecDepth 100000 in
set_option maxHeartbeats 4000000 in
theorem toSaid_any (o t : Bool) (v : Int) (sp : Value) (ps : List Int) (x : Bool) (k y : Int) (sv : Value) (f : Prl) (w : World) (hp : Ints .i64 w sp ps) (hv : Prs w sv f) (hx : ps.length ≤ 1048576) (hy : f.length ≤ 1048576) :
    Calls Try.prog 72 #[.agg #[.bool o, .bool t, .int .i64 v, sp, .bool x, .int .i64 k, .int .i64 y, sv]] w fun e w' => ∃ a c a' c', e = .returned (.agg #[.bool o, .bool t, .int .i64 v, .slice a ps.length c, .bool x, .int .i64 k, .int .i64 y, .slice a' f.length c']) ∧ Below w.heap.size w w' ∧ w'.ownsRow w.heap.size 2 1 (.slice a ps.length c) ps.length (ps.map (Value.int .i64)) ∧ w'.ownsRow w.heap.size 224 2 (.slice a' f.length c') f.length ((fl f).map (Value.int .i64)) := by
  have hT1 := fun w' h => toInt64S_any sp ps w' (hp.below (w' := w') h) hx
  have hT2 := fun w' h => toTrail_any x k y sv f w' (hv.below (w' := w') h) hy
  obtain ⟨a, c, rfl⟩ := hp.shape
  obtain ⟨a', c', rfl⟩ := hv.shape
  generalize hpn : ps.length = pn at *
  generalize hfn : f.length = fn at *
  clear hp hv hpn hfn
  obtain ⟨W, hW⟩ : ∃ W, W = ((w.alloc (.cells #[.bool o, .bool t, .int .i64 v, .slice a pn c, .bool x, .int .i64 k, .int .i64 y, .slice a' fn c'] 83)).alloc (.cells #[.bool false, .bool false, .int .i64 0, .slice none 0 0, .bool false, .int .i64 0, .int .i64 0, .slice none 0 0] 93)).alloc (.cells #[.bool o, .bool t, .int .i64 v, .slice none 0 0, .bool false, .int .i64 0, .int .i64 0, .slice none 0 0] 93) := ⟨_, rfl⟩
  have HW : Hid (((w.alloc (.cells #[.bool o, .bool t, .int .i64 v, .slice a pn c, .bool x, .int .i64 k, .int .i64 y, .slice a' fn c'] 83)).alloc (.cells #[.bool false, .bool false, .int .i64 0, .slice none 0 0, .bool false, .int .i64 0, .int .i64 0, .slice none 0 0] 93)).alloc (.cells #[.bool o, .bool t, .int .i64 v, .slice none 0 0, .bool false, .int .i64 0, .int .i64 0, .slice none 0 0] 93) = W) := hW.symm
  have hB : Below w.heap.size w W := by rw [hW]; exact ((one_new _).alloc (one_new _).size _).alloc ((one_new _).alloc (one_new _).size _).size _
  have HLL : Hid (W.heap[w.heap.size]? = some (.cells #[.bool o, .bool t, .int .i64 v, .slice a pn c, .bool x, .int .i64 k, .int .i64 y, .slice a' fn c'] 83) ∧ W.heap[w.heap.size + 1]? = some (.cells #[.bool false, .bool false, .int .i64 0, .slice none 0 0, .bool false, .int .i64 0, .int .i64 0, .slice none 0 0] 93) ∧ W.heap[w.heap.size + 1 + 1]? = some (.cells #[.bool o, .bool t, .int .i64 v, .slice none 0 0, .bool false, .int .i64 0, .int .i64 0, .slice none 0 0] 93)) := (by rw [hW]; exact three_lieL w _ _ _ : _ ∧ _)
  obtain ⟨H0, H1, H2⟩ := HLL.out
  obtain ⟨⟨d0, d1, d2, d3, d4, d5, d6, d7⟩, -⟩ := eight_cells H0
  have hz : Hid (W.heap.size = w.heap.size + 1 + 1 + 1) := (by rw [hW]; simp : W.heap.size = w.heap.size + 1 + 1 + 1)
  clear hW
  go_enter Try.func72, Try.ntmps72
  go_wp2_with fail
  rw [HW.out]
  refine (hT1 _ hB).mono ?_
  rintro e w1 ⟨a1, c1, rfl, hb1, own1⟩
  have hzz := hz.out
  have hB1 := below_after_of hB hb1
  have G0 := (hb1.block w.heap.size (by omega)).trans H0
  have G1 := (hb1.block (w.heap.size + 1) (by omega)).trans H1
  have G2 := (hb1.block (w.heap.size + 1 + 1) (by omega)).trans H2
  have hs1 : w.heap.size + 1 + 1 < w1.heap.size := (Array.getElem?_eq_some_iff.1 G2).1
  obtain ⟨⟨d0, d1, d2, d3, d4, d5, d6, d7⟩, -⟩ := eight_cells G0
  obtain ⟨⟨q0, q1, q2, q3, q4, q5, q6, q7⟩, r0, r1, r2, r3, r4, r5, r6, r7⟩ := eight_cells G2
  obtain ⟨w2, hw2⟩ : ∃ w2, w2 = w1.setCell ⟨w.heap.size + 1 + 1, 3, none⟩ (.slice a1 pn c1) := ⟨_, rfl⟩
  have HW2 : Hid (w1.setCell ⟨w.heap.size + 1 + 1, 3, none⟩ (.slice a1 pn c1) = w2) := hw2.symm
  have hB2 : Below w.heap.size w w2 := by rw [hw2]; exact hB1.setCell (by show w.heap.size ≤ w.heap.size + 1 + 1; omega) _
  have K0 : w2.heap[w.heap.size]? = some (.cells #[.bool o, .bool t, .int .i64 v, .slice a pn c, .bool x, .int .i64 k, .int .i64 y, .slice a' fn c'] 83) := by rw [hw2, heap_setCell_other _ _ _ _ (show w.heap.size ≠ w.heap.size + 1 + 1 by omega)]; exact G0
  have K1 : w2.heap[w.heap.size + 1]? = some (.cells #[.bool false, .bool false, .int .i64 0, .slice none 0 0, .bool false, .int .i64 0, .int .i64 0, .slice none 0 0] 93) := by rw [hw2, heap_setCell_other _ _ _ _ (show w.heap.size + 1 ≠ w.heap.size + 1 + 1 by omega)]; exact G1
  have K2 : w2.heap[w.heap.size + 1 + 1]? = some (.cells #[.bool o, .bool t, .int .i64 v, .slice a1 pn c1, .bool false, .int .i64 0, .int .i64 0, .slice none 0 0] 93) := by rw [hw2]; exact heap_setCell_same _ _ 3 _ _ _ G2
  have hzs2 : w2.heap.size = w1.heap.size := by rw [hw2]; exact World.size_setCell _ _ _
  have O1 : Hid (w2.ownsRow W.heap.size 2 1 (.slice a1 pn c1) pn (ps.map (Value.int .i64))) := (by rw [hw2]; exact ownsRow_setCell_below own1 (by show w.heap.size + 1 + 1 < W.heap.size; omega) _ : w2.ownsRow W.heap.size 2 1 (.slice a1 pn c1) pn (ps.map (Value.int .i64)))
  obtain ⟨⟨t0, t1, t2, t3, t4, t5, t6, t7⟩, -⟩ := eight_cells K0
  clear hT1 hb1 own1 hw2 H0 H1 H2 G0 G1 G2 hB hB1
  go_wp2_with fail
  rw [HW2.out]
  refine (hT2 _ hB2).mono ?_
  rintro e w3 ⟨a3, c3, rfl, hb3, own3⟩
  have hB3 := below_after_of hB2 hb3
  obtain ⟨⟨m0, m1, m2, m3, m4, m5, m6, m7⟩, n0, n1, n2, n3, n4, n5, n6, n7⟩ := eight_cells ((hb3.block (w.heap.size + 1) (by omega)).trans K1)
  obtain ⟨⟨p0, p1, p2, p3, p4, p5, p6, p7⟩, s0, s1, s2, s3, s4, s5, s6, s7⟩ := eight_cells ((hb3.block (w.heap.size + 1 + 1) (by omega)).trans K2)
  have O1 : Hid (w3.ownsRow W.heap.size 2 1 (.slice a1 pn c1) pn (ps.map (Value.int .i64))) := own_below O1.out hb3
  have O3 : Hid (w3.ownsRow w2.heap.size 224 2 (.slice a3 fn c3) fn ((fl f).map (Value.int .i64))) := own3
  have HZ : Hid (w.heap.size + 1 + 1 < w2.heap.size ∧ w.heap.size + 1 < w2.heap.size ∧ w.heap.size + 1 + 1 < W.heap.size ∧ w.heap.size + 1 < W.heap.size) := ⟨by omega, by omega, by omega, by omega⟩
  have HB3 : Hid (Below w.heap.size w w3) := hB3
  have KK1 : Hid (w3.heap[w.heap.size + 1]? = some (.cells #[.bool false, .bool false, .int .i64 0, .slice none 0 0, .bool false, .int .i64 0, .int .i64 0, .slice none 0 0] 93)) := (hb3.block (w.heap.size + 1) (by omega)).trans K1
  clear hT2 hB2 hb3 hB3 own3 K0 K1 K2 hzs2 hzz d0 d1 d2 d3 d4 d5 d6 d7 q0 q1 q2 q3 q4 q5 q6 q7 r0 r1 r2 r3 r4 r5 r6 r7 t0 t1 t2 t3 t4 t5 t6 t7 hs1
  have hst : StK w W w2 (.slice a1 pn c1) (.slice a3 fn c3) pn fn (ps.map (Value.int .i64)) ((fl f).map (Value.int .i64)) w3 := ⟨HB3.out, O1.out, O3.out⟩
  obtain ⟨z1, z2, z3, z4⟩ := HZ.out
  have y1 : w.heap.size ≤ w.heap.size + 1 ∧ w.heap.size + 1 < W.heap.size ∧ w.heap.size + 1 < w2.heap.size := ⟨by omega, z4, z2⟩
  have y2 : w.heap.size ≤ w.heap.size + 1 + 1 ∧ w.heap.size + 1 + 1 < W.heap.size ∧ w.heap.size + 1 + 1 < w2.heap.size := ⟨by omega, z3, z1⟩
  have HST := ((((((((((((hst.set (w.heap.size + 1 + 1) 4 (.bool x) y2).set (w.heap.size + 1 + 1) 5 (.int .i64 k) y2).set (w.heap.size + 1 + 1) 6 (.int .i64 y) y2).set (w.heap.size + 1 + 1) 7 (.slice a3 fn c3) y2).set (w.heap.size + 1) 0 (.bool o) y1).set (w.heap.size + 1) 1 (.bool t) y1).set (w.heap.size + 1) 2 (.int .i64 v) y1).set (w.heap.size + 1) 3 (.slice a1 pn c1) y1).set (w.heap.size + 1) 4 (.bool x) y1).set (w.heap.size + 1) 5 (.int .i64 k) y1).set (w.heap.size + 1) 6 (.int .i64 y) y1).set (w.heap.size + 1) 7 (.slice a3 fn c3) y1)
  clear hst O1 O3 HB3 KK1 y1 y2
  go_wp2
  refine bodyPost_ret (v := .agg #[.bool o, .bool t, .int .i64 v, .slice a1 pn c1, .bool x, .int .i64 k, .int .i64 y, .slice a3 fn c3]) (by simp [results, Try.results72, go_sem, m0, m1, m2, m3, m4, m5, m6, m7]) rfl ⟨a1, c1, a3, c3, rfl, HST.b, own_mono HST.o1 (by omega), own_mono HST.o3 (by omega)⟩
end U
end Go.Proofs.Ytcdodpcdennemaa

/- Records in blocks that may be written: where they come from, and how they stay. -/
namespace Go.Proofs.Ytcdodpcdennemaa
open Go.RowKit
namespace U
/-- A record that lies in a block that may be written. -/
structure RecOwn (w : World) (g : Nat) (l : ByteArray) (v o p : Int) : Prop extends RecAt w g l v o p where
  f0 : w.frozen? ⟨g, 0, none⟩ = false
  f1 : w.frozen? ⟨g, 1, none⟩ = false
  f2 : w.frozen? ⟨g, 2, none⟩ = false
  f3 : w.frozen? ⟨g, 3, none⟩ = false
/-- A region ends as it should, in this frame and a world that is such. -/
def EndsAt (A : Act) (F : World → Prop) (e : Exit) (a : Act) (w : World) : Prop := e = .normal ∧ a = A ∧ F w
theorem ro_of_heap {W : World} {g : Nat} {l : ByteArray} {v o p : Int} {t : TypeId} (h : W.heap[g]? = some (.cells #[.string l, .int .i64 v, .int .i64 o, .int .i64 p] t (0, 0))) : RecOwn W g l v o p := by
  obtain ⟨a, b, c, d, e, f, g', i⟩ := blk4 h
  exact ⟨⟨a, b, c, d⟩, e, f, g', i⟩
theorem RecOwn.belowB {B : Nat} {W W' : World} {g : Nat} {l : ByteArray} {v o p : Int} (h : RecOwn W g l v o p) (hb : Below B W W') (hg : g < B) : RecOwn W' g l v o p :=
  ⟨⟨(hb.cell (p := ⟨g, 0, none⟩) hg).trans h.c0, (hb.cell (p := ⟨g, 1, none⟩) hg).trans h.c1, (hb.cell (p := ⟨g, 2, none⟩) hg).trans h.c2, (hb.cell (p := ⟨g, 3, none⟩) hg).trans h.c3⟩,
   (hb.frozen (p := ⟨g, 0, none⟩) hg).trans h.f0, (hb.frozen (p := ⟨g, 1, none⟩) hg).trans h.f1, (hb.frozen (p := ⟨g, 2, none⟩) hg).trans h.f2, (hb.frozen (p := ⟨g, 3, none⟩) hg).trans h.f3⟩
theorem ro_set {W : World} {g : Nat} {l l' : ByteArray} {v o p v' o' p' : Int} (h : RecOwn W g l' v' o' p') :
    RecOwn ((((W.setCell ⟨g, 0, none⟩ (.string l)).setCell ⟨g, 1, none⟩ (.int .i64 v)).setCell ⟨g, 2, none⟩ (.int .i64 o)).setCell ⟨g, 3, none⟩ (.int .i64 p)) g l v o p := by
  obtain ⟨⟨a, b, c, d⟩, e, f, g', i⟩ := h
  have n01 : (⟨g, 0, none⟩ : Addr) ≠ ⟨g, 1, none⟩ := by simp
  have n02 : (⟨g, 0, none⟩ : Addr) ≠ ⟨g, 2, none⟩ := by simp
  have n03 : (⟨g, 0, none⟩ : Addr) ≠ ⟨g, 3, none⟩ := by simp
  have n12 : (⟨g, 1, none⟩ : Addr) ≠ ⟨g, 2, none⟩ := by simp
  have n13 : (⟨g, 1, none⟩ : Addr) ≠ ⟨g, 3, none⟩ := by simp
  have n23 : (⟨g, 2, none⟩ : Addr) ≠ ⟨g, 3, none⟩ := by simp
  refine ⟨⟨?_, ?_, ?_, ?_⟩, ?_, ?_, ?_, ?_⟩
  · rw [World.cell?_setCell_other _ _ _ _ n03.symm, World.cell?_setCell_other _ _ _ _ n02.symm, World.cell?_setCell_other _ _ _ _ n01.symm]; exact World.cell?_setCell_same _ _ _ a
  · rw [World.cell?_setCell_other _ _ _ _ n13.symm, World.cell?_setCell_other _ _ _ _ n12.symm]; exact World.cell?_setCell_same _ _ _ (by rw [World.cell?_setCell_other _ _ _ _ n01]; exact b)
  · rw [World.cell?_setCell_other _ _ _ _ n23.symm]; exact World.cell?_setCell_same _ _ _ (by rw [World.cell?_setCell_other _ _ _ _ n12, World.cell?_setCell_other _ _ _ _ n02]; exact c)
  · exact World.cell?_setCell_same _ _ _ (by rw [World.cell?_setCell_other _ _ _ _ n23, World.cell?_setCell_other _ _ _ _ n13, World.cell?_setCell_other _ _ _ _ n03]; exact d)
  · simp [e]
  · simp [f]
  · simp [g']
  · simp [i]
/-- A result that lies in five cells that may be written. -/
structure ResOwn (w : World) (g : Nat) (c : Int) (l : ByteArray) (v o p : Int) : Prop where
  c0 : w.cell? ⟨g, 0, none⟩ = some (.int .i64 c)
  c1 : w.cell? ⟨g, 1, none⟩ = some (.string l)
  c2 : w.cell? ⟨g, 2, none⟩ = some (.int .i64 v)
  c3 : w.cell? ⟨g, 3, none⟩ = some (.int .i64 o)
  c4 : w.cell? ⟨g, 4, none⟩ = some (.int .i64 p)
  f0 : w.frozen? ⟨g, 0, none⟩ = false
  f1 : w.frozen? ⟨g, 1, none⟩ = false
  f2 : w.frozen? ⟨g, 2, none⟩ = false
  f3 : w.frozen? ⟨g, 3, none⟩ = false
  f4 : w.frozen? ⟨g, 4, none⟩ = false
theorem res_of_heap {W : World} {g : Nat} {c : Int} {l : ByteArray} {v o p : Int} {t : TypeId} (h : W.heap[g]? = some (.cells #[.int .i64 c, .string l, .int .i64 v, .int .i64 o, .int .i64 p] t (0, 0))) : ResOwn W g c l v o p := by
  constructor <;> simp [World.cell?, World.frozen?, h]
theorem ResOwn.belowB {B : Nat} {W W' : World} {g : Nat} {c : Int} {l : ByteArray} {v o p : Int} (h : ResOwn W g c l v o p) (hb : Below B W W') (hg : g < B) : ResOwn W' g c l v o p :=
  ⟨(hb.cell (p := ⟨g, 0, none⟩) hg).trans h.c0, (hb.cell (p := ⟨g, 1, none⟩) hg).trans h.c1, (hb.cell (p := ⟨g, 2, none⟩) hg).trans h.c2, (hb.cell (p := ⟨g, 3, none⟩) hg).trans h.c3, (hb.cell (p := ⟨g, 4, none⟩) hg).trans h.c4,
   (hb.frozen (p := ⟨g, 0, none⟩) hg).trans h.f0, (hb.frozen (p := ⟨g, 1, none⟩) hg).trans h.f1, (hb.frozen (p := ⟨g, 2, none⟩) hg).trans h.f2, (hb.frozen (p := ⟨g, 3, none⟩) hg).trans h.f3, (hb.frozen (p := ⟨g, 4, none⟩) hg).trans h.f4⟩
/-- A record beside its code, as the model holds it. -/
def resV (c : Int) (l : ByteArray) (v o p : Int) : Value := .agg #[.int .i64 c, .string l, .int .i64 v, .int .i64 o, .int .i64 p]
end U
end Go.Proofs.Ytcdodpcdennemaa

/- Results that hold a record, held against one another. -/
namespace Go.Proofs.Ytcdodpcdennemaa
open Go.RowKit
namespace U
set_option maxRecDepth 100000 in
set_option maxHeartbeats 1000000 in
theorem eqRecord_same (l : ByteArray) (v o p : Int) (w : World) :
    Calls Try.prog 78 #[recV l v o p, recV l v o p] w fun e w' => e = .returned (.bool true) ∧ Below w.heap.size w w' := by
  have h1 : (l.toList == l.toList) = true := by simp
  unfold recV
  go_enter Try.func78, Try.ntmps78
  go_wp2
  go_ret
  exact ⟨rfl, two_new _ _⟩
/-- A result that lies in five cells of a block. -/
structure ResAt (w : World) (g : Nat) (c : Int) (l : ByteArray) (v o p : Int) : Prop where
  lt : g < w.heap.size
  c0 : w.cell? ⟨g, 0, none⟩ = some (.int .i64 c)
  c1 : w.cell? ⟨g, 1, none⟩ = some (.string l)
  c2 : w.cell? ⟨g, 2, none⟩ = some (.int .i64 v)
  c3 : w.cell? ⟨g, 3, none⟩ = some (.int .i64 o)
  c4 : w.cell? ⟨g, 4, none⟩ = some (.int .i64 p)
theorem ResAt.new (w : World) (c : Int) (l : ByteArray) (v o p : Int) (t : TypeId) : ResAt (w.alloc (.cells #[.int .i64 c, .string l, .int .i64 v, .int .i64 o, .int .i64 p] t)) w.heap.size c l v o p := by
  have h := res_of_heap (heap_alloc_new w (.cells #[.int .i64 c, .string l, .int .i64 v, .int .i64 o, .int .i64 p] t))
  exact ⟨by simp, h.c0, h.c1, h.c2, h.c3, h.c4⟩
theorem ResAt.below {w w' : World} {g : Nat} {c : Int} {l : ByteArray} {v o p : Int} (h : ResAt w g c l v o p) (hb : Below w.heap.size w w') : ResAt w' g c l v o p :=
  ⟨Nat.lt_of_lt_of_le h.lt hb.size, (hb.cell (p := ⟨g, 0, none⟩) h.lt).trans h.c0, (hb.cell (p := ⟨g, 1, none⟩) h.lt).trans h.c1, (hb.cell (p := ⟨g, 2, none⟩) h.lt).trans h.c2, (hb.cell (p := ⟨g, 3, none⟩) h.lt).trans h.c3, (hb.cell (p := ⟨g, 4, none⟩) h.lt).trans h.c4⟩
end U
end Go.Proofs.Ytcdodpcdennemaa

/- A reply that a law is handed: how great it is, and the reply that the functions are handed; replies held against one another. -/
namespace Go.Proofs.Ytcdodpcdennemaa
open Go.RowKit
namespace U
/-- Fourteen cells. -/
theorem fourteen {w : World} {g : Nat} {v0 v1 v2 v3 v4 v5 v6 v7 v8 v9 v10 v11 v12 v13 : Value} {ty : TypeId} (h : w.heap[g]? = some (.cells #[v0, v1, v2, v3, v4, v5, v6, v7, v8, v9, v10, v11, v12, v13] ty)) : (w.cell? ⟨g, 0, none⟩ = some v0 ∧ w.cell? ⟨g, 1, none⟩ = some v1 ∧ w.cell? ⟨g, 2, none⟩ = some v2 ∧ w.cell? ⟨g, 3, none⟩ = some v3 ∧ w.cell? ⟨g, 4, none⟩ = some v4 ∧ w.cell? ⟨g, 5, none⟩ = some v5 ∧ w.cell? ⟨g, 6, none⟩ = some v6 ∧ w.cell? ⟨g, 7, none⟩ = some v7 ∧ w.cell? ⟨g, 8, none⟩ = some v8 ∧ w.cell? ⟨g, 9, none⟩ = some v9 ∧ w.cell? ⟨g, 10, none⟩ = some v10 ∧ w.cell? ⟨g, 11, none⟩ = some v11 ∧ w.cell? ⟨g, 12, none⟩ = some v12 ∧ w.cell? ⟨g, 13, none⟩ = some v13) ∧
    (w.frozen? ⟨g, 0, none⟩ = false ∧ w.frozen? ⟨g, 1, none⟩ = false ∧ w.frozen? ⟨g, 2, none⟩ = false ∧ w.frozen? ⟨g, 3, none⟩ = false ∧ w.frozen? ⟨g, 4, none⟩ = false ∧ w.frozen? ⟨g, 5, none⟩ = false ∧ w.frozen? ⟨g, 6, none⟩ = false ∧ w.frozen? ⟨g, 7, none⟩ = false ∧ w.frozen? ⟨g, 8, none⟩ = false ∧ w.frozen? ⟨g, 9, none⟩ = false ∧ w.frozen? ⟨g, 10, none⟩ = false ∧ w.frozen? ⟨g, 11, none⟩ = false ∧ w.frozen? ⟨g, 12, none⟩ = false ∧ w.frozen? ⟨g, 13, none⟩ = false) := by
  refine ⟨⟨?_, ?_, ?_, ?_, ?_, ?_, ?_, ?_, ?_, ?_, ?_, ?_, ?_, ?_⟩, ?_, ?_, ?_, ?_, ?_, ?_, ?_, ?_, ?_, ?_, ?_, ?_, ?_, ?_⟩ <;> (first | (unfold World.cell?; rw [h]; rfl) | (unfold World.frozen?; rw [h]; rfl))
set_option maxRecDepth 100000 in
set_option maxHeartbeats 4000000 in
theorem szReply_any (e : Int) (hl : Bool) (l : ByteArray) (v o p : Int) (so st : Bool) (sv : Int) (a : Option Addr) (pn c : Nat) (sx : Bool) (sk sy : Int) (a' : Option Addr) (fn c' : Nat) (w : World) (hs : l.size ≤ maxLen) (hp : pn ≤ maxLen) (hf : fn ≤ maxLen) :
    Calls Try.prog 32 #[.agg #[.int .i64 e, .bool hl, .string l, .int .i64 v, .int .i64 o, .int .i64 p, .bool so, .bool st, .int .i64 sv, .slice a pn c, .bool sx, .int .i64 sk, .int .i64 sy, .slice a' fn c'], .int .i64 1048576] w fun x w' => x = .returned (.int .i64 (if l.size + pn + fn ≤ 1048576 then (1048576 - l.size - pn - fn : Int) else -1)) ∧ Below w.heap.size w w' := by
  have hR := fun w => szRecord_any l v o p w hs
  unfold recV at hR
  obtain ⟨⟨c0, c1, c2, c3, c4, c5, c6, c7, c8, c9, c10, c11, c12, c13⟩, -⟩ := fourteen (heap_alloc_new w (.cells #[.int .i64 e, .bool hl, .string l, .int .i64 v, .int .i64 o, .int .i64 p, .bool so, .bool st, .int .i64 sv, .slice a pn c, .bool sx, .int .i64 sk, .int .i64 sy, .slice a' fn c'] 85))
  have hB0 := one_new (w := w) (.cells #[.int .i64 e, .bool hl, .string l, .int .i64 v, .int .i64 o, .int .i64 p, .bool so, .bool st, .int .i64 sv, .slice a pn c, .bool sx, .int .i64 sk, .int .i64 sy, .slice a' fn c'] 85)
  have HF : Hid (∀ w', Below (w.alloc (.cells #[.int .i64 e, .bool hl, .string l, .int .i64 v, .int .i64 o, .int .i64 p, .bool so, .bool st, .int .i64 sv, .slice a pn c, .bool sx, .int .i64 sk, .int .i64 sy, .slice a' fn c'] 85)).heap.size (w.alloc (.cells #[.int .i64 e, .bool hl, .string l, .int .i64 v, .int .i64 o, .int .i64 p, .bool so, .bool st, .int .i64 sv, .slice a pn c, .bool sx, .int .i64 sk, .int .i64 sy, .slice a' fn c'] 85)) w' → w'.heap[w.heap.size]? = some (.cells #[.int .i64 e, .bool hl, .string l, .int .i64 v, .int .i64 o, .int .i64 p, .bool so, .bool st, .int .i64 sv, .slice a pn c, .bool sx, .int .i64 sk, .int .i64 sy, .slice a' fn c'] 85)) := fun w' hb => (hb.block w.heap.size (by simp)).trans (heap_alloc_new w _)
  by_cases h1 : l.size ≤ 1048576
  · rw [if_pos h1] at hR
    have hS := fun w => szSaid_gen (1048576 - l.size) (by omega) so st sv a pn c sx sk sy a' fn c' w hp hf
    rw [show ((1048576 - l.size : Nat) : Int) = (1048576 - l.size : Int) by omega] at hS
    have hz : ¬ ((1048576 - l.size : Int) < 0) := by omega
    by_cases h2 : pn + fn ≤ 1048576 - l.size
    · rw [if_pos h2] at hS
      rw [if_pos (by omega)]
      have hz2 : ¬ ((1048576 - l.size - pn - fn : Int) < 0) := by omega
      generalize (1048576 - l.size - pn - fn : Int) = q2 at *
      generalize (1048576 - l.size : Int) = q1 at *
      go_enter Try.func32, Try.ntmps32
      go_wp2_with fail
      refine (hR _).mono ?_
      rintro x w1 ⟨rfl, hb1⟩
      have hB1 := below_after_of hB0 hb1
      obtain ⟨⟨c0, c1, c2, c3, c4, c5, c6, c7, c8, c9, c10, c11, c12, c13⟩, -⟩ := fourteen (HF.out _ hb1)
      clear hR hb1
      go_wp2_with fail
      refine (hS _).mono ?_
      rintro x w2 ⟨rfl, hb2⟩
      have hB2 := below_after_of hB1 hb2
      clear hS hb2
      go_wp2
      go_ret
      exact ⟨rfl, hB2⟩
    · rw [if_neg h2] at hS
      rw [if_neg (by omega)]
      generalize (1048576 - l.size : Int) = q1 at *
      go_enter Try.func32, Try.ntmps32
      go_wp2_with fail
      refine (hR _).mono ?_
      rintro x w1 ⟨rfl, hb1⟩
      have hB1 := below_after_of hB0 hb1
      obtain ⟨⟨c0, c1, c2, c3, c4, c5, c6, c7, c8, c9, c10, c11, c12, c13⟩, -⟩ := fourteen (HF.out _ hb1)
      clear hR hb1
      go_wp2_with fail
      refine (hS _).mono ?_
      rintro x w2 ⟨rfl, hb2⟩
      have hB2 := below_after_of hB1 hb2
      clear hS hb2
      go_wp2
      go_ret
      exact ⟨rfl, hB2⟩
  · rw [if_neg h1] at hR
    rw [if_neg (by omega)]
    go_enter Try.func32, Try.ntmps32
    go_wp2_with fail
    refine (hR _).mono ?_
    rintro x w1 ⟨rfl, hb1⟩
    have hB1 := below_after_of hB0 hb1
    clear hR hb1
    go_wp2
    go_ret
    exact ⟨rfl, hB1⟩
theorem put_said8 {w : World} {g : Nat} {x0 x1 x2 x3 x4 x5 x6 x7 x8 x9 x10 x11 x12 x13 : Value} {t : TypeId} (h : w.heap[g]? = some (.cells #[x0, x1, x2, x3, x4, x5, x6, x7, x8, x9, x10, x11, x12, x13] t)) (y6 y7 y8 y9 y10 y11 y12 y13 : Value) : ((((((((w.setCell ⟨g, 6, none⟩ y6).setCell ⟨g, 7, none⟩ y7).setCell ⟨g, 8, none⟩ y8).setCell ⟨g, 9, none⟩ y9).setCell ⟨g, 10, none⟩ y10).setCell ⟨g, 11, none⟩ y11).setCell ⟨g, 12, none⟩ y12).setCell ⟨g, 13, none⟩ y13).heap[g]? = some (.cells #[x0, x1, x2, x3, x4, x5, y6, y7, y8, y9, y10, y11, y12, y13] t) := by
  have h6 : (w.setCell ⟨g, 6, none⟩ y6).heap[g]? = some (.cells #[x0, x1, x2, x3, x4, x5, y6, x7, x8, x9, x10, x11, x12, x13] t) := heap_setCell_same _ _ 6 _ _ _ h
  have h7 : ((w.setCell ⟨g, 6, none⟩ y6).setCell ⟨g, 7, none⟩ y7).heap[g]? = some (.cells #[x0, x1, x2, x3, x4, x5, y6, y7, x8, x9, x10, x11, x12, x13] t) := heap_setCell_same _ _ 7 _ _ _ h6
  have h8 : (((w.setCell ⟨g, 6, none⟩ y6).setCell ⟨g, 7, none⟩ y7).setCell ⟨g, 8, none⟩ y8).heap[g]? = some (.cells #[x0, x1, x2, x3, x4, x5, y6, y7, y8, x9, x10, x11, x12, x13] t) := heap_setCell_same _ _ 8 _ _ _ h7
  have h9 : ((((w.setCell ⟨g, 6, none⟩ y6).setCell ⟨g, 7, none⟩ y7).setCell ⟨g, 8, none⟩ y8).setCell ⟨g, 9, none⟩ y9).heap[g]? = some (.cells #[x0, x1, x2, x3, x4, x5, y6, y7, y8, y9, x10, x11, x12, x13] t) := heap_setCell_same _ _ 9 _ _ _ h8
  have h10 : (((((w.setCell ⟨g, 6, none⟩ y6).setCell ⟨g, 7, none⟩ y7).setCell ⟨g, 8, none⟩ y8).setCell ⟨g, 9, none⟩ y9).setCell ⟨g, 10, none⟩ y10).heap[g]? = some (.cells #[x0, x1, x2, x3, x4, x5, y6, y7, y8, y9, y10, x11, x12, x13] t) := heap_setCell_same _ _ 10 _ _ _ h9
  have h11 : ((((((w.setCell ⟨g, 6, none⟩ y6).setCell ⟨g, 7, none⟩ y7).setCell ⟨g, 8, none⟩ y8).setCell ⟨g, 9, none⟩ y9).setCell ⟨g, 10, none⟩ y10).setCell ⟨g, 11, none⟩ y11).heap[g]? = some (.cells #[x0, x1, x2, x3, x4, x5, y6, y7, y8, y9, y10, y11, x12, x13] t) := heap_setCell_same _ _ 11 _ _ _ h10
  have h12 : (((((((w.setCell ⟨g, 6, none⟩ y6).setCell ⟨g, 7, none⟩ y7).setCell ⟨g, 8, none⟩ y8).setCell ⟨g, 9, none⟩ y9).setCell ⟨g, 10, none⟩ y10).setCell ⟨g, 11, none⟩ y11).setCell ⟨g, 12, none⟩ y12).heap[g]? = some (.cells #[x0, x1, x2, x3, x4, x5, y6, y7, y8, y9, y10, y11, y12, x13] t) := heap_setCell_same _ _ 12 _ _ _ h11
  have h13 : ((((((((w.setCell ⟨g, 6, none⟩ y6).setCell ⟨g, 7, none⟩ y7).setCell ⟨g, 8, none⟩ y8).setCell ⟨g, 9, none⟩ y9).setCell ⟨g, 10, none⟩ y10).setCell ⟨g, 11, none⟩ y11).setCell ⟨g, 12, none⟩ y12).setCell ⟨g, 13, none⟩ y13).heap[g]? = some (.cells #[x0, x1, x2, x3, x4, x5, y6, y7, y8, y9, y10, y11, y12, y13] t) := heap_setCell_same _ _ 13 _ _ _ h12
  exact h13
theorem keep_said8 {w : World} {g q : Nat} (hq : q ≠ g) (y6 y7 y8 y9 y10 y11 y12 y13 : Value) : ((((((((w.setCell ⟨g, 6, none⟩ y6).setCell ⟨g, 7, none⟩ y7).setCell ⟨g, 8, none⟩ y8).setCell ⟨g, 9, none⟩ y9).setCell ⟨g, 10, none⟩ y10).setCell ⟨g, 11, none⟩ y11).setCell ⟨g, 12, none⟩ y12).setCell ⟨g, 13, none⟩ y13).heap[q]? = w.heap[q]? := by
  rw [heap_setCell_other _ _ _ _ hq, heap_setCell_other _ _ _ _ hq, heap_setCell_other _ _ _ _ hq, heap_setCell_other _ _ _ _ hq, heap_setCell_other _ _ _ _ hq, heap_setCell_other _ _ _ _ hq, heap_setCell_other _ _ _ _ hq, heap_setCell_other _ _ _ _ hq]
set_option maxRecDepth 100000 in
set_option maxHeartbeats 4000000 in
theorem toReply_any (e : Int) (hl : Bool) (l : ByteArray) (v o p : Int) (so st : Bool) (sv : Int) (sp : Value) (ps : List Int) (sx : Bool) (sk sy : Int) (sf : Value) (f : Prl) (w : World) (hp : Ints .i64 w sp ps) (hv : Prs w sf f) (hx : ps.length ≤ 1048576) (hy : f.length ≤ 1048576) :
    Calls Try.prog 34 #[rpV e hl l v o p so st sv sp sx sk sy sf] w fun x w' => ∃ a c a' c', x = .returned (rpV e hl l v o p so st sv (.slice a ps.length c) sx sk sy (.slice a' f.length c')) ∧ Below w.heap.size w w' ∧ w'.ownsRow w.heap.size 2 1 (.slice a ps.length c) ps.length (ps.map (Value.int .i64)) ∧ w'.ownsRow w.heap.size 224 2 (.slice a' f.length c') f.length ((fl f).map (Value.int .i64)) := by
  have hR := fun w => toRecord_is l v o p w
  have hS := fun w' (hb : Below w.heap.size w w') => toSaid_any so st sv sp ps sx sk sy sf f w' (hp.below hb) (hv.below hb) hx hy
  obtain ⟨a, c, rfl⟩ := hp.shape
  obtain ⟨a', c', rfl⟩ := hv.shape
  unfold recV at hR
  unfold rpV
  generalize hpn : ps.length = pn at *
  generalize hfn : f.length = fn at *
  go_enter Try.func34, Try.ntmps34
  go_wp2_with fail
  refine (hR _).mono ?_
  rintro x w1 ⟨rfl, rfl⟩
  clear hR
  obtain ⟨V, hV⟩ : ∃ V, V = ((w.alloc (.cells #[.int .i64 e, .bool hl, .string l, .int .i64 v, .int .i64 o, .int .i64 p, .bool so, .bool st, .int .i64 sv, .slice a pn c, .bool sx, .int .i64 sk, .int .i64 sy, .slice a' fn c'] 85)).alloc (.cells #[.int .i64 0, .bool false, .string ⟨#[]⟩, .int .i64 0, .int .i64 0, .int .i64 0, .bool false, .bool false, .int .i64 0, .slice none 0 0, .bool false, .int .i64 0, .int .i64 0, .slice none 0 0] 95)).alloc (.cells #[.int .i64 e, .bool hl, .string l, .int .i64 v, .int .i64 o, .int .i64 p, .bool false, .bool false, .int .i64 0, .slice none 0 0, .bool false, .int .i64 0, .int .i64 0, .slice none 0 0] 95) := ⟨_, rfl⟩
  obtain ⟨H0, H1, H2⟩ := (by rw [hV]; exact three_lieL w _ _ _ : V.heap[w.heap.size]? = some (.cells #[.int .i64 e, .bool hl, .string l, .int .i64 v, .int .i64 o, .int .i64 p, .bool so, .bool st, .int .i64 sv, .slice a pn c, .bool sx, .int .i64 sk, .int .i64 sy, .slice a' fn c'] 85) ∧ V.heap[w.heap.size + 1]? = some (.cells #[.int .i64 0, .bool false, .string ⟨#[]⟩, .int .i64 0, .int .i64 0, .int .i64 0, .bool false, .bool false, .int .i64 0, .slice none 0 0, .bool false, .int .i64 0, .int .i64 0, .slice none 0 0] 95) ∧ V.heap[w.heap.size + 1 + 1]? = some (.cells #[.int .i64 e, .bool hl, .string l, .int .i64 v, .int .i64 o, .int .i64 p, .bool false, .bool false, .int .i64 0, .slice none 0 0, .bool false, .int .i64 0, .int .i64 0, .slice none 0 0] 95))
  have hzV : V.heap.size = w.heap.size + 1 + 1 + 1 := by rw [hV]; simp
  have hB0 : Below w.heap.size w V := by rw [hV]; exact ((one_new _).alloc (one_new _).size _).alloc ((one_new _).alloc (one_new _).size _).size _
  obtain ⟨W, hW⟩ : ∃ W, W = ((V.alloc (.cells #[.string l, .int .i64 v, .int .i64 o, .int .i64 p] 23)).alloc (.cells #[.string l, .int .i64 v, .int .i64 o, .int .i64 p] 31)).alloc (.cells #[.string l, .int .i64 v, .int .i64 o, .int .i64 p] 31) := ⟨_, rfl⟩
  have hVW : Below V.heap.size V W := by rw [hW]; exact ((one_new _).alloc (one_new _).size _).alloc ((one_new _).alloc (one_new _).size _).size _
  have HW : Hid ((((((w.alloc (.cells #[.int .i64 e, .bool hl, .string l, .int .i64 v, .int .i64 o, .int .i64 p, .bool so, .bool st, .int .i64 sv, .slice a pn c, .bool sx, .int .i64 sk, .int .i64 sy, .slice a' fn c'] 85)).alloc (.cells #[.int .i64 0, .bool false, .string ⟨#[]⟩, .int .i64 0, .int .i64 0, .int .i64 0, .bool false, .bool false, .int .i64 0, .slice none 0 0, .bool false, .int .i64 0, .int .i64 0, .slice none 0 0] 95)).alloc (.cells #[.int .i64 e, .bool hl, .string l, .int .i64 v, .int .i64 o, .int .i64 p, .bool false, .bool false, .int .i64 0, .slice none 0 0, .bool false, .int .i64 0, .int .i64 0, .slice none 0 0] 95)).alloc (.cells #[.string l, .int .i64 v, .int .i64 o, .int .i64 p] 23)).alloc (.cells #[.string l, .int .i64 v, .int .i64 o, .int .i64 p] 31)).alloc (.cells #[.string l, .int .i64 v, .int .i64 o, .int .i64 p] 31) = W) := (by rw [hW, hV] : (((((w.alloc (.cells #[.int .i64 e, .bool hl, .string l, .int .i64 v, .int .i64 o, .int .i64 p, .bool so, .bool st, .int .i64 sv, .slice a pn c, .bool sx, .int .i64 sk, .int .i64 sy, .slice a' fn c'] 85)).alloc (.cells #[.int .i64 0, .bool false, .string ⟨#[]⟩, .int .i64 0, .int .i64 0, .int .i64 0, .bool false, .bool false, .int .i64 0, .slice none 0 0, .bool false, .int .i64 0, .int .i64 0, .slice none 0 0] 95)).alloc (.cells #[.int .i64 e, .bool hl, .string l, .int .i64 v, .int .i64 o, .int .i64 p, .bool false, .bool false, .int .i64 0, .slice none 0 0, .bool false, .int .i64 0, .int .i64 0, .slice none 0 0] 95)).alloc (.cells #[.string l, .int .i64 v, .int .i64 o, .int .i64 p] 23)).alloc (.cells #[.string l, .int .i64 v, .int .i64 o, .int .i64 p] 31)).alloc (.cells #[.string l, .int .i64 v, .int .i64 o, .int .i64 p] 31) = W)
  have hB := below_after_of hB0 hVW
  have hzW := hVW.size
  have HG : Hid ((∀ w', Below W.heap.size W w' → w'.heap[w.heap.size + 1]? = some (.cells #[.int .i64 0, .bool false, .string ⟨#[]⟩, .int .i64 0, .int .i64 0, .int .i64 0, .bool false, .bool false, .int .i64 0, .slice none 0 0, .bool false, .int .i64 0, .int .i64 0, .slice none 0 0] 95) ∧ w'.heap[w.heap.size + 1 + 1]? = some (.cells #[.int .i64 e, .bool hl, .string l, .int .i64 v, .int .i64 o, .int .i64 p, .bool false, .bool false, .int .i64 0, .slice none 0 0, .bool false, .int .i64 0, .int .i64 0, .slice none 0 0] 95)) ∧ w.heap.size + 1 + 1 < W.heap.size) := ⟨fun w' hb => ⟨(hb.block (w.heap.size + 1) (by omega)).trans ((hVW.block (w.heap.size + 1) (by omega)).trans H1), (hb.block (w.heap.size + 1 + 1) (by omega)).trans ((hVW.block (w.heap.size + 1 + 1) (by omega)).trans H2)⟩, by omega⟩
  clear hW hV H0 H1 H2 hzV hB0 hVW hzW hp hv hpn hfn
  go_wp2_with fail
  rw [HW.out]
  refine (hS _ hB).mono ?_
  rintro x w1 ⟨a1, c1, a3, c3, rfl, hb1, own1, own3⟩
  obtain ⟨hGG, hlt⟩ := HG.out
  obtain ⟨g1, g2⟩ := hGG _ hb1
  have hB1 := below_after_of hB hb1
  have G1 := (keep_said8 (w := w1) (show w.heap.size + 1 ≠ w.heap.size + 1 + 1 by omega) (.bool so) (.bool st) (.int .i64 sv) (.slice a1 pn c1) (.bool sx) (.int .i64 sk) (.int .i64 sy) (.slice a3 fn c3)).trans g1
  have G2 := put_said8 g2 (.bool so) (.bool st) (.int .i64 sv) (.slice a1 pn c1) (.bool sx) (.int .i64 sk) (.int .i64 sy) (.slice a3 fn c3)
  have hst : StK w W W (.slice a1 pn c1) (.slice a3 fn c3) pn fn (ps.map (Value.int .i64)) ((fl f).map (Value.int .i64)) w1 := ⟨hB1, own1, own3⟩
  have y1 : w.heap.size ≤ w.heap.size + 1 ∧ w.heap.size + 1 < W.heap.size ∧ w.heap.size + 1 < W.heap.size := ⟨by omega, by omega, by omega⟩
  have y2 : w.heap.size ≤ w.heap.size + 1 + 1 ∧ w.heap.size + 1 + 1 < W.heap.size ∧ w.heap.size + 1 + 1 < W.heap.size := ⟨by omega, hlt, hlt⟩
  have HST := ((((((((hst.set (w.heap.size + 1 + 1) 6 (.bool so) y2).set (w.heap.size + 1 + 1) 7 (.bool st) y2).set (w.heap.size + 1 + 1) 8 (.int .i64 sv) y2).set (w.heap.size + 1 + 1) 9 (.slice a1 pn c1) y2).set (w.heap.size + 1 + 1) 10 (.bool sx) y2).set (w.heap.size + 1 + 1) 11 (.int .i64 sk) y2).set (w.heap.size + 1 + 1) 12 (.int .i64 sy) y2).set (w.heap.size + 1 + 1) 13 (.slice a3 fn c3) y2)
  obtain ⟨⟨p0, p1, p2, p3, p4, p5, p6, p7, p8, p9, p10, p11, p12, p13⟩, s0, s1, s2, s3, s4, s5, s6, s7, s8, s9, s10, s11, s12, s13⟩ := fourteen g2
  clear hst hS hB hB1 hb1 own1 own3 hGG g1 g2 y2
  rename_i K1 hK1 K0 hK0
  have HK1 : Hid (type_of% hK1) := hK1
  clear hK1
  go_wp2
  clear p0 p1 p2 p3 p4 p5 p6 p7 p8 p9 p10 p11 p12 p13 s0 s1 s2 s3 s4 s5 s6 s7 s8 s9 s10 s11 s12 s13
  obtain ⟨w2, hw2⟩ : ∃ w2, w2 = ((((((((w1.setCell ⟨w.heap.size + 1 + 1, 6, none⟩ (.bool so)).setCell ⟨w.heap.size + 1 + 1, 7, none⟩ (.bool st)).setCell ⟨w.heap.size + 1 + 1, 8, none⟩ (.int .i64 sv)).setCell ⟨w.heap.size + 1 + 1, 9, none⟩ (.slice a1 pn c1)).setCell ⟨w.heap.size + 1 + 1, 10, none⟩ (.bool sx)).setCell ⟨w.heap.size + 1 + 1, 11, none⟩ (.int .i64 sk)).setCell ⟨w.heap.size + 1 + 1, 12, none⟩ (.int .i64 sy)).setCell ⟨w.heap.size + 1 + 1, 13, none⟩ (.slice a3 fn c3)) := ⟨_, rfl⟩
  rw [← hw2] at G1 G2 HST ⊢
  have hst2 := HST
  have HST := ((((((((((((((hst2.set (w.heap.size + 1) 0 (.int .i64 e) y1).set (w.heap.size + 1) 1 (.bool hl) y1).set (w.heap.size + 1) 2 (.string l) y1).set (w.heap.size + 1) 3 (.int .i64 v) y1).set (w.heap.size + 1) 4 (.int .i64 o) y1).set (w.heap.size + 1) 5 (.int .i64 p) y1).set (w.heap.size + 1) 6 (.bool so) y1).set (w.heap.size + 1) 7 (.bool st) y1).set (w.heap.size + 1) 8 (.int .i64 sv) y1).set (w.heap.size + 1) 9 (.slice a1 pn c1) y1).set (w.heap.size + 1) 10 (.bool sx) y1).set (w.heap.size + 1) 11 (.int .i64 sk) y1).set (w.heap.size + 1) 12 (.int .i64 sy) y1).set (w.heap.size + 1) 13 (.slice a3 fn c3) y1)
  obtain ⟨⟨m0, m1, m2, m3, m4, m5, m6, m7, m8, m9, m10, m11, m12, m13⟩, n0, n1, n2, n3, n4, n5, n6, n7, n8, n9, n10, n11, n12, n13⟩ := fourteen G1
  obtain ⟨⟨p0, p1, p2, p3, p4, p5, p6, p7, p8, p9, p10, p11, p12, p13⟩, -⟩ := fourteen G2
  have hle : Hid (w.heap.size ≤ W.heap.size) := (by omega : w.heap.size ≤ W.heap.size)
  clear hw2 G1 G2 hst2 y1 hlt HG
  refine HK1.out _ _ ?_
  clear HK1
  go_wp2
  refine bodyPost_ret (v := .agg #[.int .i64 e, .bool hl, .string l, .int .i64 v, .int .i64 o, .int .i64 p, .bool so, .bool st, .int .i64 sv, .slice a1 pn c1, .bool sx, .int .i64 sk, .int .i64 sy, .slice a3 fn c3]) (by simp [results, Try.results34, go_sem, m0, m1, m2, m3, m4, m5, m6, m7, m8, m9, m10, m11, m12, m13]) rfl ⟨a1, c1, a3, c3, rfl, HST.b, own_mono HST.o1 hle.out, own_mono HST.o3 hle.out⟩
end U
end Go.Proofs.Ytcdodpcdennemaa

/- Replies held against one another. -/
namespace Go.Proofs.Ytcdodpcdennemaa
open Go.RowKit
namespace U
set_option maxRecDepth 100000 in
set_option maxHeartbeats 4000000 in
theorem eqReply_same (e : Int) (hl : Bool) (l : ByteArray) (v o p : Int) (so st : Bool) (sv : Int) (sp sp' : Value) (ps : List Int) (sx : Bool) (sk sy : Int) (sf sf' : Value) (f : Prl) (w : World) (hp : Ints .i64 w sp ps) (hp' : Ints .i64 w sp' ps) (hv : Prs w sf f) (hv' : Prs w sf' f) (hx : ps.length ≤ 1099511627776) (hy : f.length ≤ 1099511627776) :
    Calls Try.prog 36 #[rpV e hl l v o p so st sv sp sx sk sy sf, rpV e hl l v o p so st sv sp' sx sk sy sf'] w fun x w' => x = .returned (.bool true) ∧ Below w.heap.size w w' := by
  have hR := fun w => eqRecord_same l v o p w
  have hS := fun w' (h : Below w.heap.size w w') => eqSaid_same so st sv sp sp' ps sx sk sy sf sf' f w' (hp.below h) (hp'.below h) (hv.below h) (hv'.below h) hx hy
  obtain ⟨a, c, rfl⟩ := hp.shape
  obtain ⟨a1, c1, rfl⟩ := hp'.shape
  obtain ⟨a2, c2, rfl⟩ := hv.shape
  obtain ⟨a3, c3, rfl⟩ := hv'.shape
  unfold recV at hR
  unfold rpV
  generalize ps.length = pn at *
  generalize f.length = fn at *
  clear hp hp' hv hv'
  obtain ⟨W, hW⟩ : ∃ W, W = (w.alloc (.cells #[.int .i64 e, .bool hl, .string l, .int .i64 v, .int .i64 o, .int .i64 p, .bool so, .bool st, .int .i64 sv, .slice a pn c, .bool sx, .int .i64 sk, .int .i64 sy, .slice a2 fn c2] 95)).alloc (.cells #[.int .i64 e, .bool hl, .string l, .int .i64 v, .int .i64 o, .int .i64 p, .bool so, .bool st, .int .i64 sv, .slice a1 pn c1, .bool sx, .int .i64 sk, .int .i64 sy, .slice a3 fn c3] 95) := ⟨_, rfl⟩
  have HW : Hid ((w.alloc (.cells #[.int .i64 e, .bool hl, .string l, .int .i64 v, .int .i64 o, .int .i64 p, .bool so, .bool st, .int .i64 sv, .slice a pn c, .bool sx, .int .i64 sk, .int .i64 sy, .slice a2 fn c2] 95)).alloc (.cells #[.int .i64 e, .bool hl, .string l, .int .i64 v, .int .i64 o, .int .i64 p, .bool so, .bool st, .int .i64 sv, .slice a1 pn c1, .bool sx, .int .i64 sk, .int .i64 sy, .slice a3 fn c3] 95) = W) := hW.symm
  have hB : Below w.heap.size w W := by rw [hW]; exact two_new _ _
  have H0 : W.heap[w.heap.size]? = some (.cells #[.int .i64 e, .bool hl, .string l, .int .i64 v, .int .i64 o, .int .i64 p, .bool so, .bool st, .int .i64 sv, .slice a pn c, .bool sx, .int .i64 sk, .int .i64 sy, .slice a2 fn c2] 95) := by
    rw [hW]; exact ((one_new _).block w.heap.size (by simp)).trans (heap_alloc_new w _)
  have H1 : W.heap[w.heap.size + 1]? = some (.cells #[.int .i64 e, .bool hl, .string l, .int .i64 v, .int .i64 o, .int .i64 p, .bool so, .bool st, .int .i64 sv, .slice a1 pn c1, .bool sx, .int .i64 sk, .int .i64 sy, .slice a3 fn c3] 95) := by
    have h := heap_alloc_new (w.alloc (.cells #[.int .i64 e, .bool hl, .string l, .int .i64 v, .int .i64 o, .int .i64 p, .bool so, .bool st, .int .i64 sv, .slice a pn c, .bool sx, .int .i64 sk, .int .i64 sy, .slice a2 fn c2] 95)) (.cells #[.int .i64 e, .bool hl, .string l, .int .i64 v, .int .i64 o, .int .i64 p, .bool so, .bool st, .int .i64 sv, .slice a1 pn c1, .bool sx, .int .i64 sk, .int .i64 sy, .slice a3 fn c3] 95)
    rw [World.size_alloc] at h
    rw [hW]; exact h
  have hl0 := (Array.getElem?_eq_some_iff.1 H0).1
  have hl1 := (Array.getElem?_eq_some_iff.1 H1).1
  obtain ⟨⟨d0, d1, d2, d3, d4, d5, d6, d7, d8, d9, d10, d11, d12, d13⟩, -⟩ := fourteen H0
  obtain ⟨⟨q0, q1, q2, q3, q4, q5, q6, q7, q8, q9, q10, q11, q12, q13⟩, -⟩ := fourteen H1
  have hne : (e != e) = false := by simp
  have hno1 : (hl != hl) = false := by cases hl <;> rfl
  clear hW
  go_enter Try.func36, Try.ntmps36
  go_wp2_with fail
  rw [HW.out]
  refine (hR _).mono ?_
  rintro x w1 ⟨rfl, hb1⟩
  have hB1 := below_after_of hB hb1
  obtain ⟨⟨d0, d1, d2, d3, d4, d5, d6, d7, d8, d9, d10, d11, d12, d13⟩, -⟩ := fourteen ((hb1.block _ hl0).trans H0)
  obtain ⟨⟨q0, q1, q2, q3, q4, q5, q6, q7, q8, q9, q10, q11, q12, q13⟩, -⟩ := fourteen ((hb1.block _ hl1).trans H1)
  clear hR hb1 H0 H1
  go_wp2_with fail
  refine (hS _ hB1).mono ?_
  rintro x w2 ⟨rfl, hb2⟩
  have hB2 := below_after_of hB1 hb2
  clear hS hb2
  go_wp2
  go_ret
  exact ⟨rfl, hB2⟩
end U
end Go.Proofs.Ytcdodpcdennemaa

/- Two answers that are one are found the same. -/
namespace Go.Proofs.Ytcdodpcdennemaa
open Go.RowKit
namespace U
end U
end Go.Proofs.Ytcdodpcdennemaa

/- The law on ReplyFault, walked: true, and nothing that was there has turned. -/
namespace Go.Proofs.Ytcdodpcdennemaa
open Go.RowKit
namespace U
theorem own_ints_rp {w : World} {B n : Nat} {e : TypeId} {v : Value} {xs : List Int} (HN : n = xs.length) (h : w.ownsRow B e 1 v n (xs.map (Value.int .i64))) : Ints .i64 w v xs := by
  subst HN
  exact own_ints h
theorem own_prs_rp {w : World} {B n : Nat} {e : TypeId} {v : Value} {l : Prl} (HN : n = l.length) (h : w.ownsRow B e 2 v n ((fl l).map (Value.int .i64))) : Prs w v l := by
  subst HN
  exact own_prs h
set_option maxRecDepth 100000 in
set_option maxHeartbeats 4000000 in
theorem fnExactReplyFault_walk (e : Int) (hl : Bool) (l : ByteArray) (v o p : Int) (so st : Bool) (sv : Int) (sp : Value) (ps : List Int) (sx : Bool) (sk sy : Int) (sf : Value) (f : Prl) (w : World) (hs : l.size ≤ maxLen) (hp : Ints .i64 w sp ps) (hpl : ps.length ≤ maxLen) (hv : Prs w sf f) (hfl : f.length ≤ maxLen) :
    Calls Try.prog 7 #[.agg #[.int .i64 e, .bool hl, .string l, .int .i64 v, .int .i64 o, .int .i64 p, .bool so, .bool st, .int .i64 sv, sp, .bool sx, .int .i64 sk, .int .i64 sy, sf]] w fun x w' => x = .returned (.bool true) ∧ Below w.heap.size w w' := by
  obtain ⟨a, c, rfl⟩ := hp.shape
  obtain ⟨a', c', rfl⟩ := hv.shape
  have hZ := fun w => szReply_any e hl l v o p so st sv a ps.length c sx sk sy a' f.length c' w hs hpl hfl
  by_cases h : l.size + ps.length + f.length ≤ 1048576
  · rw [if_pos h] at hZ
    have hT := fun w' hb => toReply_any e hl l v o p so st sv _ ps sx sk sy _ f w' (hp.below (w' := w') hb) (hv.below hb) (by omega) (by omega)
    have hE := fun u u' z z' w' h1 h2 h3 h4 => eqReply_same e hl l v o p so st sv u u' ps sx sk sy z z' f w' h1 h2 h3 h4 (by omega) (by omega)
    have hS := fun u z w h1 h2 => specReplyFault_any e hl l v o p so st sv u ps sx sk sy z f w h1 h2 (by omega)
    have hI := fun u z w h1 h2 => implReplyFault_any e hl l v o p so st sv u ps sx sk sy z f w h1 h2 (by omega) (by omega) (by omega)
    have h2 : ¬ ((1048576 - l.size - ps.length - f.length : Int) < 0) := by omega
    generalize rpC e hl l v o p st sv (sdC so st sv ps.length (tlZ sx sk sy f)) = q at *
    have hqq : (q != q) = false := by simp
    generalize (1048576 - l.size - ps.length - f.length : Int) = z at *
    unfold rpV at hT hE hS hI
    obtain ⟨pn, hpn⟩ : ∃ pn, pn = ps.length := ⟨_, rfl⟩
    obtain ⟨fn, hfn⟩ : ∃ fn, fn = f.length := ⟨_, rfl⟩
    have HPN : Hid (pn = ps.length) := hpn
    have HFN : Hid (fn = f.length) := hfn
    rw [← hpn, ← hfn] at hZ hT ⊢
    clear hpn hfn hp hv hpl hfl h hs
    obtain ⟨W, hW⟩ : ∃ W, W = w.alloc (.cells #[.int .i64 e, .bool hl, .string l, .int .i64 v, .int .i64 o, .int .i64 p, .bool so, .bool st, .int .i64 sv, .slice a pn c, .bool sx, .int .i64 sk, .int .i64 sy, .slice a' fn c'] 85) := ⟨_, rfl⟩
    have HW : Hid (w.alloc (.cells #[.int .i64 e, .bool hl, .string l, .int .i64 v, .int .i64 o, .int .i64 p, .bool so, .bool st, .int .i64 sv, .slice a pn c, .bool sx, .int .i64 sk, .int .i64 sy, .slice a' fn c'] 85) = W) := hW.symm
    have hb0 : Below w.heap.size w W := by rw [hW]; exact one_new _
    have HA : W.heap[w.heap.size]? = some (.cells #[.int .i64 e, .bool hl, .string l, .int .i64 v, .int .i64 o, .int .i64 p, .bool so, .bool st, .int .i64 sv, .slice a pn c, .bool sx, .int .i64 sk, .int .i64 sy, .slice a' fn c'] 85) := by rw [hW]; exact heap_alloc_new w _
    have hlt : w.heap.size < W.heap.size := (Array.getElem?_eq_some_iff.1 HA).1
    have HAA : Hid (∀ w', Below W.heap.size W w' → w'.heap[w.heap.size]? = some (.cells #[.int .i64 e, .bool hl, .string l, .int .i64 v, .int .i64 o, .int .i64 p, .bool so, .bool st, .int .i64 sv, .slice a pn c, .bool sx, .int .i64 sk, .int .i64 sy, .slice a' fn c'] 85)) := fun w' hb => (hb.block w.heap.size hlt).trans HA
    obtain ⟨⟨p0, p1, p2, p3, p4, p5, p6, p7, p8, p9, p10, p11, p12, p13⟩, -⟩ := fourteen HA
    clear hW HA
    go_enter Try.func7, Try.ntmps7
    go_wp2_with fail
    rw [HW.out]
    refine (hZ _).mono ?_
    rintro x w0 ⟨rfl, hbz⟩
    obtain ⟨⟨b0, b1, b2, b3, b4, b5, b6, b7, b8, b9, b10, b11, b12, b13⟩, -⟩ := fourteen (HAA.out _ hbz)
    clear hZ p0 p1 p2 p3 p4 p5 p6 p7 p8 p9 p10 p11 p12 p13
    go_wp2_with fail
    refine (hT _ (below_after_of hb0 hbz)).mono ?_
    rintro x w1 ⟨a1, c1, a1', c1', rfl, hB1, o1, o1'⟩
    have hC1 := below_after_of hbz hB1
    clear hbz hB1 b0 b1 b2 b3 b4 b5 b6 b7 b8 b9 b10 b11 b12 b13
    go_wp2_with fail
    refine (hS _ _ _ (own_ints_rp HPN.out o1) (own_prs_rp HFN.out o1')).mono ?_
    rintro x w2 ⟨rfl, hb2⟩
    have hC2 := below_after_of hC1 hb2
    clear o1 o1' hC1 hS hb2
    obtain ⟨⟨b0, b1, b2, b3, b4, b5, b6, b7, b8, b9, b10, b11, b12, b13⟩, -⟩ := fourteen (HAA.out _ hC2)
    go_wp2_with fail
    refine (hT _ (below_after_of hb0 hC2)).mono ?_
    rintro x w3 ⟨a3, c3, a3', c3', rfl, hb3, o3, o3'⟩
    have hC3 := below_after_of hC2 hb3
    have P3 := own_ints_rp HPN.out o3
    have P3' := own_prs_rp HFN.out o3'
    clear hb3 o3 o3' hC2 b0 b1 b2 b3 b4 b5 b6 b7 b8 b9 b10 b11 b12 b13
    have hx3 := heap_alloc_new w3 (.cells #[.int .i64 e, .bool hl, .string l, .int .i64 v, .int .i64 o, .int .i64 p, .bool so, .bool st, .int .i64 sv, .slice a3 pn c3, .bool sx, .int .i64 sk, .int .i64 sy, .slice a3' fn c3'] 95)
    have hlx : w3.heap.size < (w3.alloc (.cells #[.int .i64 e, .bool hl, .string l, .int .i64 v, .int .i64 o, .int .i64 p, .bool so, .bool st, .int .i64 sv, .slice a3 pn c3, .bool sx, .int .i64 sk, .int .i64 sy, .slice a3' fn c3'] 95)).heap.size := by simp
    go_wp2_with fail
    refine (hI _ _ _ (P3.below (one_new _)) (P3'.below (one_new _))).mono ?_
    rintro x w4 ⟨rfl, hb4⟩
    have hX4 := (hb4.block w3.heap.size hlx).trans hx3
    have P4 := (P3.below (one_new _)).below hb4
    have P4' := (P3'.below (one_new _)).below hb4
    have hC4 := below_after_of (hC3.alloc hC3.size _) hb4
    have hz4 : w3.heap.size < w4.heap.size := Nat.lt_of_lt_of_le hlx hb4.size
    clear P3 P3' hI hC3 hb4 hx3 hlx
    obtain ⟨⟨b0, b1, b2, b3, b4, b5, b6, b7, b8, b9, b10, b11, b12, b13⟩, -⟩ := fourteen (HAA.out _ hC4)
    obtain ⟨⟨k0, k1, k2, k3, k4, k5, k6, k7, k8, k9, k10, k11, k12, k13⟩, -⟩ := fourteen hX4
    have hbr := Below.refl w4.heap.size w4
    have HC : Hid (∀ w', Below w4.heap.size w4 w' → (w'.cell? ⟨w.heap.size, 0, none⟩ = some (.int .i64 e) ∧ w'.cell? ⟨w.heap.size, 1, none⟩ = some (.bool hl) ∧ w'.cell? ⟨w.heap.size, 2, none⟩ = some (.string l) ∧ w'.cell? ⟨w.heap.size, 3, none⟩ = some (.int .i64 v) ∧ w'.cell? ⟨w.heap.size, 4, none⟩ = some (.int .i64 o) ∧ w'.cell? ⟨w.heap.size, 5, none⟩ = some (.int .i64 p) ∧ w'.cell? ⟨w.heap.size, 6, none⟩ = some (.bool so) ∧ w'.cell? ⟨w.heap.size, 7, none⟩ = some (.bool st) ∧ w'.cell? ⟨w.heap.size, 8, none⟩ = some (.int .i64 sv) ∧ w'.cell? ⟨w.heap.size, 9, none⟩ = some (.slice a pn c) ∧ w'.cell? ⟨w.heap.size, 10, none⟩ = some (.bool sx) ∧ w'.cell? ⟨w.heap.size, 11, none⟩ = some (.int .i64 sk) ∧ w'.cell? ⟨w.heap.size, 12, none⟩ = some (.int .i64 sy) ∧ w'.cell? ⟨w.heap.size, 13, none⟩ = some (.slice a' fn c')) ∧ (w'.cell? ⟨w3.heap.size, 0, none⟩ = some (.int .i64 e) ∧ w'.cell? ⟨w3.heap.size, 1, none⟩ = some (.bool hl) ∧ w'.cell? ⟨w3.heap.size, 2, none⟩ = some (.string l) ∧ w'.cell? ⟨w3.heap.size, 3, none⟩ = some (.int .i64 v) ∧ w'.cell? ⟨w3.heap.size, 4, none⟩ = some (.int .i64 o) ∧ w'.cell? ⟨w3.heap.size, 5, none⟩ = some (.int .i64 p) ∧ w'.cell? ⟨w3.heap.size, 6, none⟩ = some (.bool so) ∧ w'.cell? ⟨w3.heap.size, 7, none⟩ = some (.bool st) ∧ w'.cell? ⟨w3.heap.size, 8, none⟩ = some (.int .i64 sv) ∧ w'.cell? ⟨w3.heap.size, 9, none⟩ = some (.slice a3 pn c3) ∧ w'.cell? ⟨w3.heap.size, 10, none⟩ = some (.bool sx) ∧ w'.cell? ⟨w3.heap.size, 11, none⟩ = some (.int .i64 sk) ∧ w'.cell? ⟨w3.heap.size, 12, none⟩ = some (.int .i64 sy) ∧ w'.cell? ⟨w3.heap.size, 13, none⟩ = some (.slice a3' fn c3'))) := fun w' h => ⟨(fourteen (HAA.out _ (below_after_of hC4 h))).1, (fourteen ((h.block w3.heap.size hz4).trans hX4)).1⟩
    go_wp2_with fail
    go_region_held3 (fun w' => (w'.cell? ⟨w.heap.size, 0, none⟩ = some (.int .i64 e) ∧ w'.cell? ⟨w.heap.size, 1, none⟩ = some (.bool hl) ∧ w'.cell? ⟨w.heap.size, 2, none⟩ = some (.string l) ∧ w'.cell? ⟨w.heap.size, 3, none⟩ = some (.int .i64 v) ∧ w'.cell? ⟨w.heap.size, 4, none⟩ = some (.int .i64 o) ∧ w'.cell? ⟨w.heap.size, 5, none⟩ = some (.int .i64 p) ∧ w'.cell? ⟨w.heap.size, 6, none⟩ = some (.bool so) ∧ w'.cell? ⟨w.heap.size, 7, none⟩ = some (.bool st) ∧ w'.cell? ⟨w.heap.size, 8, none⟩ = some (.int .i64 sv) ∧ w'.cell? ⟨w.heap.size, 9, none⟩ = some (.slice a pn c) ∧ w'.cell? ⟨w.heap.size, 10, none⟩ = some (.bool sx) ∧ w'.cell? ⟨w.heap.size, 11, none⟩ = some (.int .i64 sk) ∧ w'.cell? ⟨w.heap.size, 12, none⟩ = some (.int .i64 sy) ∧ w'.cell? ⟨w.heap.size, 13, none⟩ = some (.slice a' fn c')) ∧ (w'.cell? ⟨w3.heap.size, 0, none⟩ = some (.int .i64 e) ∧ w'.cell? ⟨w3.heap.size, 1, none⟩ = some (.bool hl) ∧ w'.cell? ⟨w3.heap.size, 2, none⟩ = some (.string l) ∧ w'.cell? ⟨w3.heap.size, 3, none⟩ = some (.int .i64 v) ∧ w'.cell? ⟨w3.heap.size, 4, none⟩ = some (.int .i64 o) ∧ w'.cell? ⟨w3.heap.size, 5, none⟩ = some (.int .i64 p) ∧ w'.cell? ⟨w3.heap.size, 6, none⟩ = some (.bool so) ∧ w'.cell? ⟨w3.heap.size, 7, none⟩ = some (.bool st) ∧ w'.cell? ⟨w3.heap.size, 8, none⟩ = some (.int .i64 sv) ∧ w'.cell? ⟨w3.heap.size, 9, none⟩ = some (.slice a3 pn c3) ∧ w'.cell? ⟨w3.heap.size, 10, none⟩ = some (.bool sx) ∧ w'.cell? ⟨w3.heap.size, 11, none⟩ = some (.int .i64 sk) ∧ w'.cell? ⟨w3.heap.size, 12, none⟩ = some (.int .i64 sy) ∧ w'.cell? ⟨w3.heap.size, 13, none⟩ = some (.slice a3' fn c3')))
      (first | exact HC.out _ hbr | exact HC.out _ hbr.drew)
      (first
        | (go_at_call 34; refine (hT _ (below_after_of hb0 (below_after_of hC4 (by first | exact hbr | exact hbr.drew)))).mono ?_; rintro x w6 ⟨a6, c6, a6', c6', rfl, hb6, o6, o6'⟩; have hbr : Below w4.heap.size w4 w6 := (by first | exact below_after_of hbr hb6 | exact below_after_of hbr.drew hb6))
        | (go_at_call 36; refine (hE _ _ _ _ _ (P4.below hbr) (own_ints_rp HPN.out o6) (P4'.below hbr) (own_prs_rp HFN.out o6')).mono ?_; rintro x w7 ⟨rfl, hb7⟩; have hbr : Below w4.heap.size w4 w7 := below_after_of hbr hb7))
    have hB7 := below_after_of hb0 (below_after_of hC4 hbr)
    go_wp2
    go_ret
    exact ⟨rfl, hB7⟩
  · rw [if_neg h] at hZ
    generalize ps.length = pn at *
    generalize f.length = fn at *
    clear hp hv
    go_enter Try.func7, Try.ntmps7
    go_wp2_with fail
    refine (hZ _).mono ?_
    rintro x w0 ⟨rfl, hbz⟩
    have hB := below_after hbz
    clear hZ hbz
    go_wp2
    go_ret
    exact ⟨rfl, hB⟩
end U
end Go.Proofs.Ytcdodpcdennemaa

/- What every law's row asks behind its walk: the arguments and the named variables read as they did, for nothing that was there has turned. -/
namespace Go.Proofs.Ytcdodpcdennemaa
namespace U
open Go.ChangeShapes Go.WideShapes Go.ChangeAt Go.RowKit
section
variable {H : Type} {enc : TypeId × Value → H} {P : Program} {W W' : World}
theorem all_stays (hl : laidOutB P = true) (hb : Below W.heap.size W W') : ∀ (ts : List TypeId) (vs : List Value) (ds : List (DataW H)) (ps : List MemPlace), (∀ t ∈ ts, P.readableRec t = true ∧ t < P.types.size) →
    DataW.TrodAll enc P W 0 (fun _ => true) true ts vs ds ps → (∀ x ∈ ps, x.block < W.heap.size) → DataW.TrodAll enc P W' 0 (fun b => decide (b < W.heap.size)) true ts vs ds ps
  | [], [], [], _, _, h, _ => h
  | t :: ts, v :: vs, d :: ds, ps, ht, h, hlt => by
    obtain ⟨p, q, h1, h2, rfl⟩ := h
    have hp := ht t (by simp)
    exact ⟨p, q, Below.trod hl hp.1 hp.2 h1 hb (fun x hx => hlt x (by simp [hx])), all_stays hl hb ts vs ds q (fun t h => ht t (by simp [h])) h2 (fun x hx => hlt x (by simp [hx])), rfl⟩
  | [], [], _ :: _, _, _, h, _ => h.elim
  | [], _ :: _, _, _, _, h, _ => by cases h
  | _ :: _, [], _, _, _, h, _ => by cases h
  | _ :: _, _ :: _, [], _, _, h, _ => h.elim
theorem vars_stay (hl : laidOutB P = true) (hb : Below W.heap.size W W') : ∀ (ns : List String) (ds : List (DataW H)) (ps : List MemPlace), (∀ n ∈ ns, ∀ g t, P.globalNamed n = some g → (P.globals[g]?).map (·.type) = some t → P.readableRec t = true ∧ t < P.types.size) →
    DataW.TrodVars enc P W (fun _ => true) ns ds ps → (∀ x ∈ ps, x.block < W.heap.size) → DataW.TrodVars enc P W' (fun b => decide (b < W.heap.size)) ns ds ps
  | [], [], _, _, h, _ => h
  | n :: ns, d :: ds, ps, ht, h, hlt => by
    obtain ⟨g, t, cs, fuel, p, q, h1, h2, h3, h4, h5, rfl⟩ := h
    have hp := ht n (by simp) g t h1 h2
    have hg : g < W.heap.size := by
      have h3' := h3
      simp only [World.var?, h1, Option.bind_some] at h3'
      rcases hh : W.heap[g]? with _ | o
      · rw [hh] at h3'; cases h3'
      · exact (Array.getElem?_eq_some_iff.1 hh).1
    refine ⟨g, t, cs, fuel, p, q, h1, h2, var?_below hb h1 hg h3, ?_, vars_stay hl hb ns ds q (fun m hm => ht m (by simp [hm])) h5 (fun x hx => hlt x (by simp [hx])), rfl⟩
    exact DataW.trod_stays (kids_book hl hp.1) (book_sized hp.1) (fun h => by cases h) ⟨hp.2, book_self t⟩ h4 (fun x hx => hb.same (hlt x (by simp [hx]))) (fun x hx => by simpa using hlt x (by simp [hx]))
  | [], _ :: _, _, _, h, _ => h.elim
  | _ :: _, [], _, _, h, _ => h.elim
/-- A law that answered true and turned nothing. -/
theorem law_post {f : Func} {s : ChangeSpec} {apart : Bool} {args : Array Value} {ds gs : List (DataW H)} {before : List MemPlace} {tb : TypeId}
    (hW : DataW.Whole enc P f.params.toList s.vars apart W args.toList ds gs before) (hb : Below W.heap.size W W') (hl : laidOutB P = true)
    (ht : ∀ t ∈ f.params.toList, P.readableRec t = true ∧ t < P.types.size)
    (hv : ∀ n ∈ s.vars, ∀ g t, P.globalNamed n = some g → (P.globals[g]?).map (·.type) = some t → P.readableRec t = true ∧ t < P.types.size)
    (hr : f.resultTypes = #[tb]) (htb : P.underlying tb = some .bool)
    (hf1 : (s.fn H (ds ++ gs)).results = [.lit (.bool true)]) (hf2 : (s.fn H (ds ++ gs)).args = ds) (hf3 : (s.fn H (ds ++ gs)).vars = gs) :
    s.post enc P f apart true false false W args (.bool true) W' := by
  have hlt := hW.lt
  have hW2 := hW
  obtain ⟨p, q, hA, hV, rfl, _, _⟩ := hW
  refine ⟨ds, gs, p ++ q, [], p, q, hW2, ?_, ?_, ?_, hb.frame _, fun h => by cases h⟩
  · rw [hf1, hr]
    exact trodAll_cons_mk (shut_bool htb _) trodAll_mk0
  · rw [hf2]
    exact all_stays hl hb _ _ _ _ ht hA (fun x hx => hlt x (by simp [hx]))
  · rw [hf3]
    exact vars_stay hl hb _ _ _ hv hV (fun x hx => hlt x (by simp [hx]))
end
end U
end Go.Proofs.Ytcdodpcdennemaa

/- An argument that is a slice of pairs of numbers, opened: it reads as a list of pairs. -/
namespace Go.Proofs.Ytcdodpcdennemaa
namespace U
open Go.ChangeShapes Go.WideShapes Go.ChangeAt Go.RowKit
def InI (p : Int × Int) : Prop := (-9223372036854775808 ≤ p.1 ∧ p.1 ≤ 9223372036854775807) ∧ -9223372036854775808 ≤ p.2 ∧ p.2 ≤ 9223372036854775807
theorem ints_of {H : Type} {enc : TypeId × Value → H} {P : Program} {W : World} {t : TypeId} {v : Value} {x : DataW H × List MemPlace} {fuel : Nat} (ht : P.underlying t = some (.int .i64))
    (h : DataW.trod enc P W 0 (fun _ => true) true fuel t [v] = some x) : ∃ n : Int, v = .int .i64 n ∧ -9223372036854775808 ≤ n ∧ n ≤ 9223372036854775807 := by
  obtain ⟨n, hn, _, hw⟩ := DataW.trod_int ht h
  exact ⟨n, by simpa using hn, bounds_i64 hw⟩
theorem prs_arg {H : Type} {enc : TypeId × Value → H} {P : Program} {W : World} {base : Nat} {t e : TypeId} {f0 f1 : Field} {v : Value} {d : DataW H} {p : List MemPlace} (ht : P.underlying t = some (.slice e)) (he : P.underlying e = some (.struct #[f0, f1]))
    (ce : P.cellsOf e = 2) (o0 : f0.offset = 0) (o1 : f1.offset = 1) (c0 : P.cellsOf f0.type = 1) (c1 : P.cellsOf f1.type = 1) (i0 : P.underlying f0.type = some (.int .i64)) (i1 : P.underlying f1.type = some (.int .i64))
    (hv : Value.okWide P W .any base t v) (h : DataW.Trod enc P W 0 (fun _ => true) true t v d p) : ∃ l, Prs W v l ∧ l.length ≤ maxLen ∧ ∀ q ∈ l, InI q := by
  obtain ⟨a0, len0, cap0, rfl⟩ := okWide_slice ht hv
  obtain ⟨fuel, hf⟩ := h
  rcases Go.Deep.open_slice_pairs ht he ce o0 o1 c0 c1 hf with ⟨hcs, hx⟩ | ⟨a, len, cap, m, n, V0, V1, D0, D1, P0, P1, hcs, h1, hl, hm, hmm, hx, hcell⟩
  · have e1 : (Value.slice a0 len0 cap0) = .slice none 0 0 := by simpa [Value.cells] using hcs
    cases e1
    exact ⟨[], Or.inl ⟨rfl, none, 0, rfl⟩, by simp, by simp⟩
  · have e1 : (Value.slice a0 len0 cap0) = .slice (some a) len cap := by simpa [Value.cells] using hcs
    cases e1
    rw [if_pos rfl] at hmm
    subst hmm
    by_cases h0 : len0 = 0
    · subst h0
      exact ⟨[], Or.inl ⟨rfl, _, _, rfl⟩, by simp, by simp⟩
    · have each : ∀ i, i < len0 → ∃ q : Int × Int, W.cell? (a.add (i * 2)) = some (.int .i64 q.1) ∧ W.cell? (a.add (i * 2 + 1)) = some (.int .i64 q.2) ∧ InI q := fun i hi => by
        obtain ⟨k0, k1, t0, t1⟩ := hcell i (by omega)
        obtain ⟨x, hx0, b0⟩ := ints_of i0 t0
        obtain ⟨y, hy0, b1⟩ := ints_of i1 t1
        exact ⟨(x, y), by rw [k0, hx0], by rw [k1, hy0], b0, b1⟩
      obtain ⟨q, hq⟩ := Go.Deep.choose_lt each
      obtain ⟨b, off, spot⟩ := a
      have hspot : spot = none := by simpa [Addr.add] using World.cell?_spot (hq 0 (by omega)).1
      subst hspot
      have hb : b < W.heap.size := by
        have h3 := (hq 0 (by omega)).1
        rw [add_plain] at h3
        rcases hh : W.heap[b]? with _ | o
        · simp [World.cell?, hh] at h3
        · exact (Array.getElem?_eq_some_iff.1 hh).1
      refine ⟨(List.range len0).map q, Or.inr ⟨b, off, _, by simp; rfl, hb, fun j hj => ?_⟩, by simp; omega, fun x hx => ?_⟩
      · have hj' : j < len0 := by simpa using hj
        have e2 : pAt ((List.range len0).map q) j = q j := by rw [pAt_eq hj]; simp
        rw [e2]
        have h3 := hq j hj'
        rw [add_plain, add_plain] at h3
        exact ⟨h3.1, by rw [Nat.add_assoc]; exact h3.2.1⟩
      · obtain ⟨i, hi, rfl⟩ := List.mem_map.1 hx
        exact (hq i (List.mem_range.1 hi)).2.2
end U
end Go.Proofs.Ytcdodpcdennemaa

/- An argument that is a trail, opened: whether there is any, its leaf, and its forks as a list of pairs. -/
namespace Go.Proofs.Ytcdodpcdennemaa
namespace U
open Go.ChangeShapes Go.WideShapes Go.ChangeAt Go.RowKit
theorem prs_field {H : Type} {enc : TypeId × Value → H} {P : Program} {W : World} {t e : TypeId} {f0 f1 : Field} {v : Value} {x : DataW H × List MemPlace} {fuel : Nat} (ht : P.underlying t = some (.slice e)) (he : P.underlying e = some (.struct #[f0, f1]))
    (ce : P.cellsOf e = 2) (o0 : f0.offset = 0) (o1 : f1.offset = 1) (c0 : P.cellsOf f0.type = 1) (c1 : P.cellsOf f1.type = 1) (i0 : P.underlying f0.type = some (.int .i64)) (i1 : P.underlying f1.type = some (.int .i64))
    (hf : DataW.trod enc P W 0 (fun _ => true) true fuel t [v] = some x) : ∃ l, Prs W v l ∧ l.length ≤ maxLen ∧ ∀ q ∈ l, InI q := by
  rcases Go.Deep.open_slice_pairs ht he ce o0 o1 c0 c1 hf with ⟨hcs, hx⟩ | ⟨a, len, cap, m, n, V0, V1, D0, D1, P0, P1, hcs, h1, hl, hm, hmm, hx, hcell⟩
  · have e1 : v = .slice none 0 0 := by simpa using hcs
    subst e1
    exact ⟨[], Or.inl ⟨rfl, none, 0, rfl⟩, by simp, by simp⟩
  · have e1 : v = .slice (some a) len cap := by simpa using hcs
    subst e1
    rw [if_pos rfl] at hmm
    subst hmm
    by_cases h0 : len = 0
    · subst h0
      exact ⟨[], Or.inl ⟨rfl, _, _, rfl⟩, by simp, by simp⟩
    · have each : ∀ i, i < len → ∃ q : Int × Int, W.cell? (a.add (i * 2)) = some (.int .i64 q.1) ∧ W.cell? (a.add (i * 2 + 1)) = some (.int .i64 q.2) ∧ InI q := fun i hi => by
        obtain ⟨k0, k1, t0, t1⟩ := hcell i (by omega)
        obtain ⟨x, hx0, b0⟩ := ints_of i0 t0
        obtain ⟨y, hy0, b1⟩ := ints_of i1 t1
        exact ⟨(x, y), by rw [k0, hx0], by rw [k1, hy0], b0, b1⟩
      obtain ⟨q, hq⟩ := Go.Deep.choose_lt each
      obtain ⟨b, off, spot⟩ := a
      have hspot : spot = none := by simpa [Addr.add] using World.cell?_spot (hq 0 (by omega)).1
      subst hspot
      have hb : b < W.heap.size := by
        have h3 := (hq 0 (by omega)).1
        rw [add_plain] at h3
        rcases hh : W.heap[b]? with _ | o
        · simp [World.cell?, hh] at h3
        · exact (Array.getElem?_eq_some_iff.1 hh).1
      refine ⟨(List.range len).map q, Or.inr ⟨b, off, _, by simp; rfl, hb, fun j hj => ?_⟩, by simp; omega, fun x hx => ?_⟩
      · have hj' : j < len := by simpa using hj
        have e2 : pAt ((List.range len).map q) j = q j := by rw [pAt_eq hj]; simp
        rw [e2]
        have h3 := hq j hj'
        rw [add_plain, add_plain] at h3
        exact ⟨h3.1, by rw [Nat.add_assoc]; exact h3.2.1⟩
      · obtain ⟨i, hi, rfl⟩ := List.mem_map.1 hx
        exact (hq i (List.mem_range.1 hi)).2.2
set_option maxRecDepth 100000 in
theorem tl_arg {H : Type} {enc : TypeId × Value → H} {W : World} {base : Nat} {v : Value} {d : DataW H} {p : List MemPlace} (hv : Value.okWide Try.prog W .any base 81 v) (h : DataW.Trod enc Try.prog W 0 (fun _ => true) true 81 v d p) :
    ∃ x k y sv l, v = .agg #[.bool x, .int .i64 k, .int .i64 y, sv] ∧ Prs W sv l ∧ l.length ≤ maxLen := by
  obtain ⟨cs, rfl, hsz⟩ := okWide_struct Try.underlying81 hv
  obtain ⟨c0, c1, c2, c3, rfl⟩ := Joins.array4 (hsz.trans (show Try.prog.cellsOf 81 = 4 by kernel_rfl))
  obtain ⟨fuel, hf⟩ := h
  obtain ⟨y0, y1, y2, n, hx, _, h0, h1, h2⟩ := Go.Deep.trod_struct3 Try.underlying81 hf
  have k0 : Try.prog.cellsOf 4 = 1 := by kernel_rfl
  have k1 : Try.prog.cellsOf 78 = 2 := by kernel_rfl
  have k2 : Try.prog.cellsOf 79 = 1 := by kernel_rfl
  have k3 : Try.prog.cellsOf 2 = 1 := by kernel_rfl
  simp only [Value.cells, k0, k1, k2] at h0 h1 h2
  simp at h0 h1 h2
  obtain ⟨z0, z1, m, hz, _, t0, t1⟩ := trod_struct2 Try.underlying78 h1
  simp only [k3] at t0 t1
  simp at t0 t1
  obtain ⟨b, hb, -⟩ := DataW.trod_bool Try.underlying4 h0
  obtain ⟨i, hi, -⟩ := DataW.trod_int Try.underlying2 t0
  obtain ⟨j, hj, -⟩ := DataW.trod_int Try.underlying2 t1
  obtain ⟨l, hl, hn, -⟩ := prs_field Try.underlying79 Try.underlying243 (by kernel_rfl) rfl rfl (by kernel_rfl) (by kernel_rfl) Try.underlying2 Try.underlying2 h2
  have e0 : c0 = .bool b := by simpa using hb
  have e1 : c1 = .int .i64 i := by simpa using hi
  have e2 : c2 = .int .i64 j := by simpa using hj
  subst e0 e1 e2
  exact ⟨b, i, j, c3, l, rfl, hl, hn⟩
end U
end Go.Proofs.Ytcdodpcdennemaa

/- An argument that is a slice of numbers, opened: it reads as a list. -/
namespace Go.Proofs.Ytcdodpcdennemaa
namespace U
open Go.ChangeShapes Go.WideShapes Go.ChangeAt Go.RowKit
theorem ints_arg {H : Type} {enc : TypeId × Value → H} {P : Program} {W : World} {base : Nat} {t e : TypeId} {k : IntKind} {v : Value} {d : DataW H} {p : List MemPlace} (ht : P.underlying t = some (.slice e)) (he : P.underlying e = some (.int k)) (hce : P.cellsOf e = 1)
    (hv : Value.okWide P W .any base t v) (h : DataW.Trod enc P W 0 (fun _ => true) true t v d p) : ∃ xs, Ints k W v xs ∧ xs.length ≤ maxLen ∧ ∀ n ∈ xs, (Lit.int k n).wf = true := by
  obtain ⟨a0, len, cap, rfl⟩ := okWide_slice ht hv
  obtain ⟨fuel, hf⟩ := h
  rcases open_ints ht he hce hf with ⟨hcs, hx⟩ | ⟨a, len', cap', zs, hcs, h1, hl, hm, hz, hx, hcell, hwz⟩
  · have e1 : (Value.slice a0 len cap) = .slice none 0 0 := by simpa [Value.cells] using hcs
    cases e1
    exact ⟨[], Or.inl ⟨rfl, none, 0, rfl⟩, by simp, by simp⟩
  · have e1 : (Value.slice a0 len cap) = .slice (some a) len' cap' := by simpa [Value.cells] using hcs
    cases e1
    rw [if_pos rfl] at hz
    by_cases h0 : len = 0
    · subst h0
      exact ⟨[], Or.inl ⟨rfl, _, _, rfl⟩, by simp, by simp⟩
    · obtain ⟨b, off, rfl, hc⟩ := ints_at hcell (by omega)
      have hlen : (zs.take len).length = len := by rw [List.length_take]; omega
      have hb : b < W.heap.size := by
        have := hc 0 (by omega)
        rcases hh : W.heap[b]? with _ | o
        · simp [World.cell?, hh] at this
        · exact (Array.getElem?_eq_some_iff.1 hh).1
      refine ⟨zs.take len, Or.inr ⟨b, off, cap, by rw [hlen], hb, fun j hj => ?_⟩, by omega, fun n hn => hwz n (List.mem_of_mem_take hn)⟩
      rw [hlen] at hj
      rw [hc j (by omega)]
      congr 2
      simp only [List.getD_eq_getElem?_getD, List.getElem?_take, if_pos hj]
end U
end Go.Proofs.Ytcdodpcdennemaa

/- A field of an argument that is a slice of numbers, opened: it reads as a list. -/
namespace Go.Proofs.Ytcdodpcdennemaa
namespace U
open Go.ChangeShapes Go.WideShapes Go.ChangeAt Go.RowKit
theorem ints_field {H : Type} {enc : TypeId × Value → H} {P : Program} {W : World} {t e : TypeId} {k : IntKind} {v : Value} {x : DataW H × List MemPlace} {fuel : Nat} (ht : P.underlying t = some (.slice e)) (he : P.underlying e = some (.int k)) (hce : P.cellsOf e = 1)
    (hf : DataW.trod enc P W 0 (fun _ => true) true fuel t [v] = some x) : ∃ xs, Ints k W v xs ∧ xs.length ≤ maxLen ∧ ∀ n ∈ xs, (Lit.int k n).wf = true := by
  rcases open_ints ht he hce hf with ⟨hcs, hx⟩ | ⟨a, len, cap, zs, hcs, h1, hl, hm, hz, hx, hcell, hwz⟩
  · have e1 : v = .slice none 0 0 := by simpa using hcs
    exact ⟨[], Or.inl ⟨rfl, none, 0, e1⟩, by simp, by simp⟩
  · have e1 : v = .slice (some a) len cap := by simpa using hcs
    subst e1
    rw [if_pos rfl] at hz
    by_cases h0 : len = 0
    · subst h0
      exact ⟨[], Or.inl ⟨rfl, _, _, rfl⟩, by simp, by simp⟩
    · obtain ⟨b, off, rfl, hc⟩ := ints_at hcell (by omega)
      have hlen : (zs.take len).length = len := by rw [List.length_take]; omega
      have hb : b < W.heap.size := by
        have := hc 0 (by omega)
        rcases hh : W.heap[b]? with _ | o
        · simp [World.cell?, hh] at this
        · exact (Array.getElem?_eq_some_iff.1 hh).1
      refine ⟨zs.take len, Or.inr ⟨b, off, cap, by rw [hlen], hb, fun j hj => ?_⟩, by omega, fun n hn => hwz n (List.mem_of_mem_take hn)⟩
      rw [hlen] at hj
      rw [hc j (by omega)]
      congr 2
      simp only [List.getD_eq_getElem?_getD, List.getElem?_take, if_pos hj]
end U
end Go.Proofs.Ytcdodpcdennemaa

/- An argument that is something said, opened: by which tree, whether it is there, its value, its path, its trail. -/
namespace Go.Proofs.Ytcdodpcdennemaa
namespace U
open Go.ChangeShapes Go.WideShapes Go.ChangeAt Go.RowKit
theorem array8S (T : Array Value) (h : T.size = 8) : ∃ v0 v1 v2 v3 v4 v5 v6 v7 : Value, T = #[v0, v1, v2, v3, v4, v5, v6, v7] := by
  rcases T with ⟨l⟩
  match l, h with
  | [a, b, c, d, e, f, g, i], _ => exact ⟨a, b, c, d, e, f, g, i, rfl⟩
theorem trod_struct5 {H : Type} {enc : TypeId × Value → H} {P : Program} {w : World} {t : TypeId} {f0 f1 f2 f3 f4 : Field} {fuel : Nat} {cs : List Value} {x : DataW H × List MemPlace} (ht : P.underlying t = some (.struct #[f0, f1, f2, f3, f4])) (h : DataW.trod enc P w 0 (fun _ => true) true fuel t cs = some x) :
    ∃ y0 y1 y2 y3 y4 n, DataW.trod enc P w 0 (fun _ => true) true n f0.type ((cs.drop f0.offset).take (P.cellsOf f0.type)) = some y0 ∧ DataW.trod enc P w 0 (fun _ => true) true n f1.type ((cs.drop f1.offset).take (P.cellsOf f1.type)) = some y1 ∧
      DataW.trod enc P w 0 (fun _ => true) true n f2.type ((cs.drop f2.offset).take (P.cellsOf f2.type)) = some y2 ∧ DataW.trod enc P w 0 (fun _ => true) true n f3.type ((cs.drop f3.offset).take (P.cellsOf f3.type)) = some y3 ∧ DataW.trod enc P w 0 (fun _ => true) true n f4.type ((cs.drop f4.offset).take (P.cellsOf f4.type)) = some y4 := by
  obtain ⟨xs, n, _, rfl, hl, hlen, hf⟩ := DataW.trod_struct ht h
  match xs, hlen with
  | [y0, y1, y2, y3, y4], _ => exact ⟨y0, y1, y2, y3, y4, n, by simpa using hf 0 f0 rfl, by simpa using hf 1 f1 rfl, by simpa using hf 2 f2 rfl, by simpa using hf 3 f3 rfl, by simpa using hf 4 f4 rfl⟩
set_option maxRecDepth 100000 in
theorem tl_cells {H : Type} {enc : TypeId × Value → H} {W : World} {n : Nat} {c0 c1 c2 c3 : Value} {y : DataW H × List MemPlace} (hf : DataW.trod enc Try.prog W 0 (fun _ => true) true n 81 [c0, c1, c2, c3] = some y) :
    ∃ x k y l, c0 = .bool x ∧ c1 = .int .i64 k ∧ c2 = .int .i64 y ∧ Prs W c3 l ∧ l.length ≤ maxLen := by
  obtain ⟨y0, y1, y2, n, hx, _, h0, h1, h2⟩ := Go.Deep.trod_struct3 Try.underlying81 hf
  have k0 : Try.prog.cellsOf 4 = 1 := by kernel_rfl
  have k1 : Try.prog.cellsOf 78 = 2 := by kernel_rfl
  have k2 : Try.prog.cellsOf 79 = 1 := by kernel_rfl
  have k3 : Try.prog.cellsOf 2 = 1 := by kernel_rfl
  simp only [k0, k1, k2] at h0 h1 h2
  simp at h0 h1 h2
  obtain ⟨z0, z1, m, hz, _, t0, t1⟩ := trod_struct2 Try.underlying78 h1
  simp only [k3] at t0 t1
  simp at t0 t1
  obtain ⟨b, hb, -⟩ := DataW.trod_bool Try.underlying4 h0
  obtain ⟨i, hi, -⟩ := DataW.trod_int Try.underlying2 t0
  obtain ⟨j, hj, -⟩ := DataW.trod_int Try.underlying2 t1
  obtain ⟨l, hl, hn, -⟩ := prs_field Try.underlying79 Try.underlying243 (by kernel_rfl) rfl rfl (by kernel_rfl) (by kernel_rfl) Try.underlying2 Try.underlying2 h2
  exact ⟨b, i, j, l, by simpa using hb, by simpa using hi, by simpa using hj, hl, hn⟩
set_option maxRecDepth 100000 in
theorem sd_arg {H : Type} {enc : TypeId × Value → H} {W : World} {base : Nat} {v : Value} {d : DataW H} {p : List MemPlace} (hv : Value.okWide Try.prog W .any base 83 v) (h : DataW.Trod enc Try.prog W 0 (fun _ => true) true 83 v d p) :
    ∃ o t z sp ps x k y sv l, v = .agg #[.bool o, .bool t, .int .i64 z, sp, .bool x, .int .i64 k, .int .i64 y, sv] ∧ Ints .i64 W sp ps ∧ ps.length ≤ maxLen ∧ Prs W sv l ∧ l.length ≤ maxLen := by
  obtain ⟨cs, rfl, hsz⟩ := okWide_struct Try.underlying83 hv
  obtain ⟨c0, c1, c2, c3, c4, c5, c6, c7, rfl⟩ := array8S cs (hsz.trans (show Try.prog.cellsOf 83 = 8 by kernel_rfl))
  obtain ⟨fuel, hf⟩ := h
  obtain ⟨y0, y1, y2, y3, y4, n, h0, h1, h2, h3, h4⟩ := trod_struct5 Try.underlying83 hf
  have k0 : Try.prog.cellsOf 4 = 1 := by kernel_rfl
  have k1 : Try.prog.cellsOf 2 = 1 := by kernel_rfl
  have k2 : Try.prog.cellsOf 76 = 1 := by kernel_rfl
  have k3 : Try.prog.cellsOf 81 = 4 := by kernel_rfl
  simp only [Value.cells, k0, k1, k2, k3] at h0 h1 h2 h3 h4
  simp at h0 h1 h2 h3 h4
  obtain ⟨b, hb, -⟩ := DataW.trod_bool Try.underlying4 h0
  obtain ⟨t, ht, -⟩ := DataW.trod_bool Try.underlying4 h1
  obtain ⟨z, hz, -⟩ := DataW.trod_int Try.underlying2 h2
  obtain ⟨ps, hps, hpl, -⟩ := ints_field Try.underlying76 Try.underlying2 k1 h3
  obtain ⟨x, k, y, l, e4, e5, e6, hl, hn⟩ := tl_cells h4
  have e0 : c0 = .bool b := by simpa using hb
  have e1 : c1 = .bool t := by simpa using ht
  have e2 : c2 = .int .i64 z := by simpa using hz
  subst e0 e1 e2 e4 e5 e6
  exact ⟨b, t, z, c3, ps, x, k, y, c7, l, rfl, hps, hpl, hl, hn⟩
end U
end Go.Proofs.Ytcdodpcdennemaa

/- An argument that is an operation, opened: its kind, its record, its secret, its number. -/
namespace Go.Proofs.Ytcdodpcdennemaa
namespace U
open Go.ChangeShapes Go.WideShapes Go.ChangeAt Go.RowKit
theorem array7O (T : Array Value) (h : T.size = 7) : ∃ v0 v1 v2 v3 v4 v5 v6 : Value, T = #[v0, v1, v2, v3, v4, v5, v6] := by
  rcases T with ⟨l⟩
  match l, h with
  | [a, b, c, d, e, f, g], _ => exact ⟨a, b, c, d, e, f, g, rfl⟩
theorem trod_struct4O {H : Type} {enc : TypeId × Value → H} {P : Program} {w : World} {t : TypeId} {f0 f1 f2 f3 : Field} {fuel : Nat} {cs : List Value} {x : DataW H × List MemPlace} (ht : P.underlying t = some (.struct #[f0, f1, f2, f3])) (h : DataW.trod enc P w 0 (fun _ => true) true fuel t cs = some x) :
    ∃ y0 y1 y2 y3 n, DataW.trod enc P w 0 (fun _ => true) true n f0.type ((cs.drop f0.offset).take (P.cellsOf f0.type)) = some y0 ∧ DataW.trod enc P w 0 (fun _ => true) true n f1.type ((cs.drop f1.offset).take (P.cellsOf f1.type)) = some y1 ∧
      DataW.trod enc P w 0 (fun _ => true) true n f2.type ((cs.drop f2.offset).take (P.cellsOf f2.type)) = some y2 ∧ DataW.trod enc P w 0 (fun _ => true) true n f3.type ((cs.drop f3.offset).take (P.cellsOf f3.type)) = some y3 := by
  obtain ⟨xs, n, _, rfl, hl, hlen, hf⟩ := DataW.trod_struct ht h
  match xs, hlen with
  | [y0, y1, y2, y3], _ => exact ⟨y0, y1, y2, y3, n, by simpa using hf 0 f0 rfl, by simpa using hf 1 f1 rfl, by simpa using hf 2 f2 rfl, by simpa using hf 3 f3 rfl⟩
set_option maxRecDepth 100000 in
theorem rc_cells {H : Type} {enc : TypeId × Value → H} {W : World} {n : Nat} {c0 c1 c2 c3 : Value} {y : DataW H × List MemPlace} (hf : DataW.trod enc Try.prog W 0 (fun _ => true) true n 23 [c0, c1, c2, c3] = some y) :
    ∃ s v o p, c0 = .string s ∧ c1 = .int .i64 v ∧ c2 = .int .i64 o ∧ c3 = .int .i64 p ∧ s.size ≤ maxLen := by
  obtain ⟨y0, y1, y2, y3, n, h0, h1, h2, h3⟩ := trod_struct4O Try.underlying23 hf
  have k0 : Try.prog.cellsOf 9 = 1 := by kernel_rfl
  have k1 : Try.prog.cellsOf 2 = 1 := by kernel_rfl
  simp only [k0, k1] at h0 h1 h2 h3
  simp at h0 h1 h2 h3
  obtain ⟨s, hs0, -, hs⟩ := DataW.trod_string Try.underlying9 h0
  obtain ⟨a, ha, -⟩ := DataW.trod_int Try.underlying2 h1
  obtain ⟨b, hb, -⟩ := DataW.trod_int Try.underlying2 h2
  obtain ⟨c, hc, -⟩ := DataW.trod_int Try.underlying2 h3
  exact ⟨s, a, b, c, by simpa using hs0, by simpa using ha, by simpa using hb, by simpa using hc, hs⟩
set_option maxRecDepth 100000 in
theorem op_arg {H : Type} {enc : TypeId × Value → H} {W : World} {base : Nat} {v : Value} {d : DataW H} {p : List MemPlace} (hv : Value.okWide Try.prog W .any base 25 v) (h : DataW.Trod enc Try.prog W 0 (fun _ => true) true 25 v d p) :
    ∃ k l a o p c n, v = .agg #[.int .i64 k, .string l, .int .i64 a, .int .i64 o, .int .i64 p, .int .i64 c, .int .i64 n] ∧ l.size ≤ maxLen := by
  obtain ⟨cs, rfl, hsz⟩ := okWide_struct Try.underlying25 hv
  obtain ⟨c0, c1, c2, c3, c4, c5, c6, rfl⟩ := array7O cs (hsz.trans (show Try.prog.cellsOf 25 = 7 by kernel_rfl))
  obtain ⟨fuel, hf⟩ := h
  obtain ⟨y0, y1, y2, y3, n, h0, h1, h2, h3⟩ := trod_struct4O Try.underlying25 hf
  have k1 : Try.prog.cellsOf 2 = 1 := by kernel_rfl
  have k3 : Try.prog.cellsOf 23 = 4 := by kernel_rfl
  simp only [Value.cells, k1, k3] at h0 h1 h2 h3
  simp at h0 h1 h2 h3
  obtain ⟨k, hk, -⟩ := DataW.trod_int Try.underlying2 h0
  obtain ⟨l, a, o, p, e1, e2, e3, e4, hl⟩ := rc_cells h1
  obtain ⟨c, hc, -⟩ := DataW.trod_int Try.underlying2 h2
  obtain ⟨m, hm, -⟩ := DataW.trod_int Try.underlying2 h3
  have e0 : c0 = .int .i64 k := by simpa using hk
  have e5 : c5 = .int .i64 c := by simpa using hc
  have e6 : c6 = .int .i64 m := by simpa using hm
  subst e0 e1 e2 e3 e4 e5 e6
  exact ⟨k, l, a, o, p, c, m, rfl, hl⟩
end U
end Go.Proofs.Ytcdodpcdennemaa

/- An argument that is a reply, opened: its epoch, what is held, the record, what is said. -/
namespace Go.Proofs.Ytcdodpcdennemaa
namespace U
open Go.ChangeShapes Go.WideShapes Go.ChangeAt Go.RowKit
theorem array14R (T : Array Value) (h : T.size = 14) : ∃ v0 v1 v2 v3 v4 v5 v6 v7 v8 v9 v10 v11 v12 v13 : Value, T = #[v0, v1, v2, v3, v4, v5, v6, v7, v8, v9, v10, v11, v12, v13] := by
  rcases T with ⟨l⟩
  match l, h with
  | [a, b, c, d, e, f, g, i, j, k, m, n, o, p], _ => exact ⟨a, b, c, d, e, f, g, i, j, k, m, n, o, p, rfl⟩
set_option maxRecDepth 100000 in
theorem sd_cells {H : Type} {enc : TypeId × Value → H} {W : World} {n : Nat} {c0 c1 c2 c3 c4 c5 c6 c7 : Value} {y : DataW H × List MemPlace} (hf : DataW.trod enc Try.prog W 0 (fun _ => true) true n 83 [c0, c1, c2, c3, c4, c5, c6, c7] = some y) :
    ∃ o t z ps x k y l, c0 = .bool o ∧ c1 = .bool t ∧ c2 = .int .i64 z ∧ Ints .i64 W c3 ps ∧ ps.length ≤ maxLen ∧ c4 = .bool x ∧ c5 = .int .i64 k ∧ c6 = .int .i64 y ∧ Prs W c7 l ∧ l.length ≤ maxLen := by
  obtain ⟨y0, y1, y2, y3, y4, n, h0, h1, h2, h3, h4⟩ := trod_struct5 Try.underlying83 hf
  have k0 : Try.prog.cellsOf 4 = 1 := by kernel_rfl
  have k1 : Try.prog.cellsOf 2 = 1 := by kernel_rfl
  have k2 : Try.prog.cellsOf 76 = 1 := by kernel_rfl
  have k3 : Try.prog.cellsOf 81 = 4 := by kernel_rfl
  simp only [k0, k1, k2, k3] at h0 h1 h2 h3 h4
  simp at h0 h1 h2 h3 h4
  obtain ⟨b, hb, -⟩ := DataW.trod_bool Try.underlying4 h0
  obtain ⟨t, ht, -⟩ := DataW.trod_bool Try.underlying4 h1
  obtain ⟨z, hz, -⟩ := DataW.trod_int Try.underlying2 h2
  obtain ⟨ps, hps, hpl, -⟩ := ints_field Try.underlying76 Try.underlying2 k1 h3
  obtain ⟨x, k, y, l, e4, e5, e6, hl, hn⟩ := tl_cells h4
  exact ⟨b, t, z, ps, x, k, y, l, by simpa using hb, by simpa using ht, by simpa using hz, hps, hpl, e4, e5, e6, hl, hn⟩
set_option maxRecDepth 100000 in
theorem rp_arg {H : Type} {enc : TypeId × Value → H} {W : World} {base : Nat} {v : Value} {d : DataW H} {p : List MemPlace} (hv : Value.okWide Try.prog W .any base 85 v) (h : DataW.Trod enc Try.prog W 0 (fun _ => true) true 85 v d p) :
    ∃ e hl s a o q so st z sp ps x k y sv l, v = .agg #[.int .i64 e, .bool hl, .string s, .int .i64 a, .int .i64 o, .int .i64 q, .bool so, .bool st, .int .i64 z, sp, .bool x, .int .i64 k, .int .i64 y, sv] ∧ s.size ≤ maxLen ∧ Ints .i64 W sp ps ∧ ps.length ≤ maxLen ∧ Prs W sv l ∧ l.length ≤ maxLen := by
  obtain ⟨cs, rfl, hsz⟩ := okWide_struct Try.underlying85 hv
  obtain ⟨c0, c1, c2, c3, c4, c5, c6, c7, c8, c9, c10, c11, c12, c13, rfl⟩ := array14R cs (hsz.trans (show Try.prog.cellsOf 85 = 14 by kernel_rfl))
  obtain ⟨fuel, hf⟩ := h
  obtain ⟨y0, y1, y2, y3, n, h0, h1, h2, h3⟩ := trod_struct4O Try.underlying85 hf
  have k0 : Try.prog.cellsOf 4 = 1 := by kernel_rfl
  have k1 : Try.prog.cellsOf 2 = 1 := by kernel_rfl
  have k3 : Try.prog.cellsOf 23 = 4 := by kernel_rfl
  have k4 : Try.prog.cellsOf 83 = 8 := by kernel_rfl
  simp only [Value.cells, k0, k1, k3, k4] at h0 h1 h2 h3
  simp at h0 h1 h2 h3
  obtain ⟨e, he, -⟩ := DataW.trod_int Try.underlying2 h0
  obtain ⟨b, hb, -⟩ := DataW.trod_bool Try.underlying4 h1
  obtain ⟨s, a, o, q, e2, e3, e4, e5, hs⟩ := rc_cells h2
  obtain ⟨so, st, z, ps, x, k, y, l, e6, e7, e8, hp, hpl, e10, e11, e12, hl, hn⟩ := sd_cells h3
  have e0 : c0 = .int .i64 e := by simpa using he
  have e1 : c1 = .bool b := by simpa using hb
  subst e0 e1 e2 e3 e4 e5 e6 e7 e8 e10 e11 e12
  exact ⟨e, b, s, a, o, q, so, st, z, c9, ps, x, k, y, c13, l, rfl, hs, hp, hpl, hl, hn⟩
end U
end Go.Proofs.Ytcdodpcdennemaa

/- The law FnExactReplyFault holds at every argument: it answers true, and the arguments read as they did. -/
namespace Go.Proofs.Ytcdodpcdennemaa
namespace fnExactReplyFault
open Go.ChangeShapes Go.WideShapes Go.ChangeAt Go.RowKit

theorem laidOut : laidOutB Try.prog = true := by kernel_rfl
theorem own : ownKnob Try.prog.godebug = none := by kernel_rfl

set_option maxRecDepth 100000 in
theorem lifted (os : Os) (started : os.Started) (H : Type) (enc : TypeId × Value → H) :
    ReturnsInHanded {} Try.checked os 7 .any (Rows.fnExactReplyFaultSpec.pre6 enc Try.prog Try.f7 Rows.fnExactReplyFaultRow.domain false) (Rows.fnExactReplyFaultSpec.post enc Try.prog Try.f7 false true false false) := by
  refine returnsInHanded_of_change (C := Try.checked) own started (by kernel_rfl) Try.func7
    (ChangeSpec.witness6 (enc := enc) (C := Try.checked) false ⟨#[], #[.agg #[.int .i64 0, .bool false, .string ByteArray.empty, .int .i64 0, .int .i64 0, .int .i64 0, .bool false, .bool false, .int .i64 0, .slice none 0 0, .bool false, .int .i64 0, .int .i64 0, .slice none 0 0]], []⟩ 8 (by kernel_rfl) (by kernel_rfl) (by kernel_rfl) (by kernel_rfl)) ?_
  intro W base args ds gs before hval0 hW hcnd _
  have hval : ∀ (j : Nat) t v, Try.f7.params[j]? = some t → args[j]? = some v → Value.okWide Try.prog W .any base t v := hval0
  have hW' := hW
  obtain ⟨p, q, hA0, hV, rfl, hfz, hnd⟩ := hW
  have hA : DataW.TrodAll enc Try.prog W 0 (fun _ => true) true Try.f7.params.toList args.toList ds p := hA0
  rw [Try.params7] at hA hval
  obtain ⟨v0, vs0, d0, ds0, p0, q0, hargs0, rfl, rfl, h0, r0⟩ := trodAll_cons hA
  obtain ⟨rfl, rfl, rfl⟩ := trodAll_nil r0
  obtain rfl : args = #[v0] := by cases args; simp_all
  obtain ⟨rfl, rfl⟩ := trodVars_none hV
  obtain ⟨e0, b0, r0, i0, j0, m0, a0, t0, z0, s0, p0l, x0, k0, y0, u0, l0, rfl, hr0, hs0, hsl0, hl0, hlen0⟩ := U.rp_arg (hval 0 85 v0 rfl rfl) h0
  clear hA0 hval0
  refine (U.fnExactReplyFault_walk e0 b0 r0 i0 j0 m0 a0 t0 z0 s0 p0l x0 k0 y0 u0 l0 W hr0 hs0 hsl0 hl0 hlen0).mono fun e W' ⟨he, hg⟩ => ?_
  subst he
  refine ⟨_, rfl, U.law_post (tb := 4) hW' hg laidOut ?_ (fun n hn => by cases hn) (by kernel_rfl) Try.underlying4 rfl rfl rfl⟩
  rw [Try.params7]; intro t ht; simp at ht; subst ht <;> exact ⟨by kernel_rfl, of_decide_eq_true (by kernel_rfl)⟩

theorem over : Rows.fnExactReplyFaultRow.holds Try.pinned (OpenSpec.ofChange Rows.fnExactReplyFaultSpec) :=
  OpenClaim.holds_of_wide 7 Try.f7 rfl rfl rfl rfl rfl rfl rfl ⟨rfl, rfl, rfl, rfl, rfl⟩ rfl rfl rfl rfl rfl (by kernel_rfl) Try.func7 (by kernel_rfl)
    (of_decide_eq_true (by kernel_rfl)) (by unfold Func.isWrapper; first | (rw [if_pos (by decide +kernel)]; kernel_rfl) | (rw [if_neg (by decide +kernel)]; exact ⟨rfl, rfl⟩))
    (fun os started H enc _ => lifted os started H enc)
end fnExactReplyFault
/-- The law FnExactReplyFault: whatever the arguments, the call returns true and they read as before. -/
theorem fnExactReplyFault_holds : Rows.FnExactReplyFaultSaid := fnExactReplyFault.over
#print axioms fnExactReplyFault_holds
end Go.Proofs.Ytcdodpcdennemaa
