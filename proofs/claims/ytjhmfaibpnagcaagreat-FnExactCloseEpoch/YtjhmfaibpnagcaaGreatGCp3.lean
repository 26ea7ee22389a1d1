/- A state of one's own, by the program. -/
import Derived.Test.YtjhmfaibpnagcaaGreatGCp2
namespace Go.Proofs.YtjhmfaibpnagcaaGreat
open Go.RowKit
namespace U
/-- Directories copied in their row: the same cells. -/
theorem cpDi_ex (v : Value) (p : Pst) (w : World) (hv : Dss w v p) (hx : p.length ≤ 1048576) : ∃ us : List Value, us.length = p.length ∧ (∀ j, j < p.length → Rcs w (uAt us j) (dAt p j)) ∧ ∀ w', Below w.heap.size w w' →
    Calls Tryz.prog 86 #[v] w' fun e w'' => ∃ a c, e = .returned (.slice a p.length c) ∧ Below w'.heap.size w' w'' ∧ w''.ownsRow w'.heap.size 33 1 (.slice a p.length c) p.length us := by
  obtain ⟨a, c, rfl⟩ := hv.shape
  by_cases h0 : 0 < p.length
  · obtain ⟨-, b, off, rfl, hb, -⟩ := hv.at h0
    obtain ⟨us, h1, h2, h3, h4⟩ := hv.cells h0
    refine ⟨us, h1, h3, fun w' hbw => ?_⟩
    refine (cpDi_some b off c p.length us w' h0 hx (Nat.lt_of_lt_of_le hb hbw.size) (by omega) (fun j u hj => (hbw.cell (p := (⟨b, off, none⟩ : Addr).add j) (by rw [addAt]; exact hb)).trans (h2 j u hj)) h4).mono ?_
    rintro e w'' ⟨rfl, k1, k2⟩
    exact ⟨_, _, rfl, k1, k2⟩
  · have e1 : p = [] := List.eq_nil_of_length_eq_zero (by omega)
    subst e1
    refine ⟨[], rfl, fun j hj => by simp at hj, fun w' _ => ?_⟩
    refine (cpDi_none a c w').mono ?_
    rintro e w'' ⟨rfl, rfl⟩
    exact ⟨none, 0, rfl, Below.refl _ _, rfl, Or.inl ⟨rfl, rfl⟩⟩
/-- A state that is being copied: its box, the box of the answer. -/
structure OsI (N : Nat) (ph cu : Int) (x2 x3 x4 x5 : Value) (w : World) : Prop where
  box : w.heap[N]? = some (.cells #[.int .i64 ph, .int .i64 cu, x2, x3, x4, x5] 38)
  res : w.heap[N + 1]? = some (.cells #[.int .i64 0, .int .i64 0, .slice none 0 0, .slice none 0 0, .slice none 0 0, .slice none 0 0] 38)
theorem OsI.lt {N : Nat} {ph cu : Int} {x2 x3 x4 x5 : Value} {w : World} (h : OsI N ph cu x2 x3 x4 x5 w) : N + 1 < w.heap.size := (Array.getElem?_eq_some_iff.1 h.res).1
theorem OsI.below {N : Nat} {ph cu : Int} {x2 x3 x4 x5 : Value} {w w' : World} (h : OsI N ph cu x2 x3 x4 x5 w) (hb : Below w.heap.size w w') : OsI N ph cu x2 x3 x4 x5 w' :=
  ⟨(hb.block N (by have := h.lt; omega)).trans h.box, (hb.block (N + 1) h.lt).trans h.res⟩
theorem OsI.other {N : Nat} {ph cu : Int} {x2 x3 x4 x5 : Value} {w : World} (h : OsI N ph cu x2 x3 x4 x5 w) (a : Addr) (x : Value) (h1 : N ≠ a.block) (h2 : N + 1 ≠ a.block) : OsI N ph cu x2 x3 x4 x5 (w.setCell a x) :=
  ⟨(heap_setCell_other w a N x h1).trans h.box, (heap_setCell_other w a (N + 1) x h2).trans h.res⟩
theorem OsI.set2 {N : Nat} {ph cu : Int} {x2 x3 x4 x5 : Value} {w : World} (h : OsI N ph cu x2 x3 x4 x5 w) (y : Value) : OsI N ph cu y x3 x4 x5 (w.setCell ⟨N, 2, none⟩ y) :=
  ⟨by simpa using heap_setCell_same w N 2 _ _ y h.box, (heap_setCell_other w ⟨N, 2, none⟩ (N + 1) y (by simp)).trans h.res⟩
theorem OsI.set3 {N : Nat} {ph cu : Int} {x2 x3 x4 x5 : Value} {w : World} (h : OsI N ph cu x2 x3 x4 x5 w) (y : Value) : OsI N ph cu x2 y x4 x5 (w.setCell ⟨N, 3, none⟩ y) :=
  ⟨by simpa using heap_setCell_same w N 3 _ _ y h.box, (heap_setCell_other w ⟨N, 3, none⟩ (N + 1) y (by simp)).trans h.res⟩
theorem OsI.set4 {N : Nat} {ph cu : Int} {x2 x3 x4 x5 : Value} {w : World} (h : OsI N ph cu x2 x3 x4 x5 w) (y : Value) : OsI N ph cu x2 x3 y x5 (w.setCell ⟨N, 4, none⟩ y) :=
  ⟨by simpa using heap_setCell_same w N 4 _ _ y h.box, (heap_setCell_other w ⟨N, 4, none⟩ (N + 1) y (by simp)).trans h.res⟩
theorem OsI.set5 {N : Nat} {ph cu : Int} {x2 x3 x4 x5 : Value} {w : World} (h : OsI N ph cu x2 x3 x4 x5 w) (y : Value) : OsI N ph cu x2 x3 x4 y (w.setCell ⟨N, 5, none⟩ y) :=
  ⟨by simpa using heap_setCell_same w N 5 _ _ y h.box, (heap_setCell_other w ⟨N, 5, none⟩ (N + 1) y (by simp)).trans h.res⟩
theorem uAt_set {us : List Value} {k : Nat} (u : Value) (h : k < us.length) : uAt (us.set k u) k = u := by
  unfold uAt
  rw [List.getD_eq_getElem?_getD, List.getElem?_set_self h]
  rfl
theorem uAt_set_ne {us : List Value} {k j : Nat} (u : Value) (h : j ≠ k) : uAt (us.set k u) j = uAt us j := by
  unfold uAt
  rw [List.getD_eq_getElem?_getD, List.getD_eq_getElem?_getD, List.getElem?_set_ne (by omega)]
theorem pRows_set {us : List Value} {p : Pst} {k : Nat} (u : Value) (h : k < us.length) : pRows (us.set k u) p (k + 1) = pRows us p k ++ [dRow u (dAt p k)] := by
  show pRows (us.set k u) p k ++ [dRow (uAt (us.set k u) k) (dAt p k)] = _
  rw [uAt_set u h, pRows_us (us := us.set k u) (us' := us) (p := p) (p' := p) k (fun j hj => ⟨uAt_set_ne u (by omega), rfl⟩)]
set_option maxRecDepth 100000 in
set_option maxHeartbeats 4000000 in
theorem ownState_any (s : St) (v : Sv) (w : World) (hv : Sts w v s) (hB : StB s) :
    Calls Tryz.prog 36 #[stV s v] w fun e w' => ∃ u us, e = .returned (stV s u) ∧ SaAns w s u us w' := by
  obtain ⟨W, hW⟩ : ∃ W, W = (w.alloc (stC s v 38)).alloc (.cells #[.int .i64 0, .int .i64 0, .slice none 0 0, .slice none 0 0, .slice none 0 0, .slice none 0 0] 38) := ⟨_, rfl⟩
  have hBW : Below w.heap.size w W := by rw [hW]; exact two_new _ _
  have I0 : OsI w.heap.size s.ph s.cu v.d v.n v.h v.p W := by
    have h2 := heap_alloc_new (w.alloc (stC s v 38)) (.cells #[.int .i64 0, .int .i64 0, .slice none 0 0, .slice none 0 0, .slice none 0 0, .slice none 0 0] 38)
    rw [World.size_alloc] at h2
    rw [hW]
    exact ⟨((one_new _).block w.heap.size (by simp)).trans (heap_alloc_new w _), h2⟩
  have hT1 := ownDirectory_any v.d s.d W (hv.d.below hBW) hB.dl hB.d
  have HT2 : Hid (∀ w', Below w.heap.size w w' → Calls Tryz.prog 84 #[v.n] w' fun e w'' => ∃ a c, e = .returned (.slice a s.n.length c) ∧ Below w'.heap.size w' w'' ∧ w''.ownsRow w'.heap.size 57 2 (.slice a s.n.length c) s.n.length ((fl s.n).map (Value.int .i64))) := fun w' hb => cpSl_any v.n s.n w' (hv.n.below hb) hB.n
  have HT3 : Hid (∀ w', Below w.heap.size w w' → Calls Tryz.prog 85 #[v.h] w' fun e w'' => ∃ a c, e = .returned (.slice a s.h.length c) ∧ Below w'.heap.size w' w'' ∧ w''.ownsRow w'.heap.size 88 5 (.slice a s.h.length c) s.h.length (flH s.h)) := fun w' hb => cpHd_any v.h s.h w' (hv.h.below hb) hB.h
  obtain ⟨us0, hu1, hu2, hu3⟩ := cpDi_ex v.p s.p w hv.p hB.p
  have HT4 : Hid (∀ w', Below w.heap.size w w' → Calls Tryz.prog 86 #[v.p] w' fun e w'' => ∃ a c, e = .returned (.slice a s.p.length c) ∧ Below w'.heap.size w' w'' ∧ w''.ownsRow w'.heap.size 33 1 (.slice a s.p.length c) s.p.length us0) := hu3
  have HU0 : Hid (us0.length = s.p.length ∧ ∀ j, j < s.p.length → Rcs w (uAt us0 j) (dAt s.p j)) := ⟨hu1, hu2⟩
  have HPD : Hid (∀ j, j < s.p.length → (dAt s.p j).length ≤ 1048576 ∧ Lbs (dAt s.p j)) := hB.pd
  obtain ⟨a1, c1, e1⟩ := hv.d.shape
  obtain ⟨a2, c2, e2⟩ := hv.n.shape
  obtain ⟨a3, c3, e3⟩ := hv.h.shape
  obtain ⟨a4, c4, e4⟩ := hv.p.shape
  have HLW : Hid (w.heap.size + 1 < W.heap.size) := I0.lt
  have hpx := hB.p
  obtain ⟨ph, cu, d, n, h, p⟩ := s
  obtain ⟨vd, vn, vh, vp⟩ := v
  dsimp only at *
  subst e1 e2 e3 e4
  have HI0 : Hid (OsI w.heap.size ph cu (.slice a1 d.length c1) (.slice a2 n.length c2) (.slice a3 h.length c3) (.slice a4 p.length c4) W) := I0
  unfold stV
  unfold stC at hW
  dsimp only at *
  have HW : Hid ((w.alloc (.cells #[.int .i64 ph, .int .i64 cu, .slice a1 d.length c1, .slice a2 n.length c2, .slice a3 h.length c3, .slice a4 p.length c4] 38)).alloc (.cells #[.int .i64 0, .int .i64 0, .slice none 0 0, .slice none 0 0, .slice none 0 0, .slice none 0 0] 38) = W) := hW.symm
  have HB0 : Hid (Below w.heap.size w W) := hBW
  clear hW hv hB I0 hBW hu1 hu2 hu3
  go_enter Tryz.func36, Tryz.ntmps36
  go_wp2_with fail
  rw [HW.out]
  refine hT1.mono ?_
  rintro e w1 ⟨b1, d1, rfl, hb1, o1⟩
  have I1 := HI0.out.below hb1
  obtain ⟨⟨-, -, -, j3, -, -⟩, -⟩ := six_cellsS (I1.set2 (.slice b1 d.length d1)).box
  obtain ⟨⟨-, -, k2, -, -, -⟩, -, -, f2, -⟩ := six_cellsS I1.box
  obtain ⟨W1, hW1⟩ : ∃ W1, W1 = w1.setCell ⟨w.heap.size, 2, none⟩ (.slice b1 d.length d1) := ⟨_, rfl⟩
  have HI1 : Hid (OsI w.heap.size ph cu (.slice b1 d.length d1) (.slice a2 n.length c2) (.slice a3 h.length c3) (.slice a4 p.length c4) W1) := (by rw [hW1]; exact I1.set2 _ : OsI w.heap.size ph cu (.slice b1 d.length d1) (.slice a2 n.length c2) (.slice a3 h.length c3) (.slice a4 p.length c4) W1)
  have hsz1 : W1.heap.size = w1.heap.size := by rw [hW1]; simp
  have HO1 : Hid (Own W.heap.size W1.heap.size W1 [dRow (.slice b1 d.length d1) d]) := (by
    rw [hsz1, hW1]
    exact (Own.single (r := dRow (.slice b1 d.length d1) d) o1 (Nat.le_refl _)).setCell _ (by show w.heap.size < W.heap.size; have := HLW.out; omega) _ : Own W.heap.size W1.heap.size W1 [dRow (.slice b1 d.length d1) d])
  have HB1 : Hid (Below w.heap.size w W1) := (by rw [hW1]; exact (below_after_of HB0.out hb1).setCell (Nat.le_refl _) _ : Below w.heap.size w W1)
  have HS2 : Hid (W.heap.size ≤ W1.heap.size) := (by rw [hsz1]; have := hb1.size; omega : W.heap.size ≤ W1.heap.size)
  have HW1 : Hid (w1.setCell ⟨w.heap.size, 2, none⟩ (.slice b1 d.length d1) = W1) := hW1.symm
  clear hT1 HW
  have hC := HT2.out _ HB1.out
  clear hW1 hsz1 I1 hb1 o1
  go_wp2_with fail
  rw [HW1.out]
  clear HW1 k2 f2 j3
  refine hC.mono ?_
  rintro e w2 ⟨b2, d2, rfl, hb2, o2⟩
  clear hC
  have I2 := HI1.out.below hb2
  obtain ⟨⟨-, -, -, -, j4, -⟩, -⟩ := six_cellsS (I2.set3 (.slice b2 n.length d2)).box
  obtain ⟨⟨-, -, -, k3, -, -⟩, -, -, -, f3, -⟩ := six_cellsS I2.box
  obtain ⟨W2, hW2⟩ : ∃ W2, W2 = w2.setCell ⟨w.heap.size, 3, none⟩ (.slice b2 n.length d2) := ⟨_, rfl⟩
  have HI2 : Hid (OsI w.heap.size ph cu (.slice b1 d.length d1) (.slice b2 n.length d2) (.slice a3 h.length c3) (.slice a4 p.length c4) W2) := (by rw [hW2]; exact I2.set3 _ : OsI w.heap.size ph cu (.slice b1 d.length d1) (.slice b2 n.length d2) (.slice a3 h.length c3) (.slice a4 p.length c4) W2)
  have hsz2 : W2.heap.size = w2.heap.size := by rw [hW2]; simp
  have HO2 : Hid (Own W.heap.size W2.heap.size W2 ([dRow (.slice b1 d.length d1) d] ++ [nRow (.slice b2 n.length d2) n])) := (by
    rw [hsz2, hW2]
    exact ((HO1.out.below hb2).app (Own.single (r := nRow (.slice b2 n.length d2) n) o2 (Nat.le_refl _)) (by have := hb2.size; have := HS2.out; omega) hb2.size).setCell _ (by show w.heap.size < W.heap.size; have := HLW.out; omega) _ : Own W.heap.size W2.heap.size W2 ([dRow (.slice b1 d.length d1) d] ++ [nRow (.slice b2 n.length d2) n]))
  have HB2 : Hid (Below w.heap.size w W2) := (by rw [hW2]; exact (below_after_of HB1.out hb2).setCell (Nat.le_refl _) _ : Below w.heap.size w W2)
  have HS3 : Hid (W.heap.size ≤ W2.heap.size) := (by rw [hsz2]; have := hb2.size; have := HS2.out; omega : W.heap.size ≤ W2.heap.size)
  have HW2 : Hid (w2.setCell ⟨w.heap.size, 3, none⟩ (.slice b2 n.length d2) = W2) := hW2.symm
  have hC := HT3.out _ HB2.out
  clear hW2 hsz2 I2 hb2 o2
  go_wp2_with fail
  rw [HW2.out]
  clear HW2 k3 f3 j4
  refine hC.mono ?_
  rintro e w3 ⟨b3, d3, rfl, hb3, o3⟩
  clear hC
  have I3 := HI2.out.below hb3
  obtain ⟨⟨-, -, -, -, -, j5⟩, -⟩ := six_cellsS (I3.set4 (.slice b3 h.length d3)).box
  obtain ⟨⟨-, -, -, -, k4, -⟩, -, -, -, -, f4, -⟩ := six_cellsS I3.box
  obtain ⟨W3, hW3⟩ : ∃ W3, W3 = w3.setCell ⟨w.heap.size, 4, none⟩ (.slice b3 h.length d3) := ⟨_, rfl⟩
  have HI3 : Hid (OsI w.heap.size ph cu (.slice b1 d.length d1) (.slice b2 n.length d2) (.slice b3 h.length d3) (.slice a4 p.length c4) W3) := (by rw [hW3]; exact I3.set4 _ : OsI w.heap.size ph cu (.slice b1 d.length d1) (.slice b2 n.length d2) (.slice b3 h.length d3) (.slice a4 p.length c4) W3)
  have hsz3 : W3.heap.size = w3.heap.size := by rw [hW3]; simp
  have HO3 : Hid (Own W.heap.size W3.heap.size W3 (([dRow (.slice b1 d.length d1) d] ++ [nRow (.slice b2 n.length d2) n]) ++ [hRow (.slice b3 h.length d3) h])) := (by
    rw [hsz3, hW3]
    exact ((HO2.out.below hb3).app (Own.single (r := hRow (.slice b3 h.length d3) h) o3 (Nat.le_refl _)) (by have := hb3.size; have := HS3.out; omega) hb3.size).setCell _ (by show w.heap.size < W.heap.size; have := HLW.out; omega) _ : Own W.heap.size W3.heap.size W3 (([dRow (.slice b1 d.length d1) d] ++ [nRow (.slice b2 n.length d2) n]) ++ [hRow (.slice b3 h.length d3) h]))
  have HB3 : Hid (Below w.heap.size w W3) := (by rw [hW3]; exact (below_after_of HB2.out hb3).setCell (Nat.le_refl _) _ : Below w.heap.size w W3)
  have HS4 : Hid (W.heap.size ≤ W3.heap.size) := (by rw [hsz3]; have := hb3.size; have := HS3.out; omega : W.heap.size ≤ W3.heap.size)
  have HW3 : Hid (w3.setCell ⟨w.heap.size, 4, none⟩ (.slice b3 h.length d3) = W3) := hW3.symm
  have hC := HT4.out _ HB3.out
  clear hW3 hsz3 I3 hb3 o3
  go_wp2_with fail
  rw [HW3.out]
  clear HW3 k4 f4 j5
  refine hC.mono ?_
  rintro e w4 ⟨b4, d4, rfl, hb4, o4⟩
  clear hC
  have I4 := HI3.out.below hb4
  obtain ⟨⟨-, -, -, -, -, j5⟩, -⟩ := six_cellsS (I4.set5 (.slice b4 p.length d4)).box
  obtain ⟨⟨-, -, -, -, -, k5⟩, -, -, -, -, -, f5⟩ := six_cellsS I4.box
  obtain ⟨W4, hW4⟩ : ∃ W4, W4 = w4.setCell ⟨w.heap.size, 5, none⟩ (.slice b4 p.length d4) := ⟨_, rfl⟩
  have HI4 : Hid (OsI w.heap.size ph cu (.slice b1 d.length d1) (.slice b2 n.length d2) (.slice b3 h.length d3) (.slice b4 p.length d4) W4) := (by rw [hW4]; exact I4.set5 _ : OsI w.heap.size ph cu (.slice b1 d.length d1) (.slice b2 n.length d2) (.slice b3 h.length d3) (.slice b4 p.length d4) W4)
  have hsz4 : W4.heap.size = w4.heap.size := by rw [hW4]; simp
  have HO4 : Hid (Own W.heap.size W4.heap.size W4 ((([dRow (.slice b1 d.length d1) d] ++ [nRow (.slice b2 n.length d2) n]) ++ [hRow (.slice b3 h.length d3) h]) ++ [oRow (.slice b4 p.length d4) us0])) := (by
    rw [hsz4, hW4]
    exact ((HO3.out.below hb4).app (Own.single (r := oRow (.slice b4 p.length d4) us0) (by show w4.ownsRow W3.heap.size 33 1 (.slice b4 p.length d4) us0.length us0; rw [HU0.out.1]; exact o4) (Nat.le_refl _)) (by have := hb4.size; have := HS4.out; omega) hb4.size).setCell _ (by show w.heap.size < W.heap.size; have := HLW.out; omega) _ : Own W.heap.size W4.heap.size W4 ((([dRow (.slice b1 d.length d1) d] ++ [nRow (.slice b2 n.length d2) n]) ++ [hRow (.slice b3 h.length d3) h]) ++ [oRow (.slice b4 p.length d4) us0]))
  have HB4 : Hid (Below w.heap.size w W4) := (by rw [hW4]; exact (below_after_of HB3.out hb4).setCell (Nat.le_refl _) _ : Below w.heap.size w W4)
  have HS5 : Hid (W.heap.size ≤ W4.heap.size) := (by rw [hsz4]; have := hb4.size; have := HS4.out; omega : W.heap.size ≤ W4.heap.size)
  have HW4 : Hid (w4.setCell ⟨w.heap.size, 5, none⟩ (.slice b4 p.length d4) = W4) := hW4.symm
  have HX4 : Hid (OsI w.heap.size ph cu (.slice b1 d.length d1) (.slice b2 n.length d2) (.slice b3 h.length d3) (.slice b4 p.length d4) (w4.setCell ⟨w.heap.size, 5, none⟩ (.slice b4 p.length d4)) ∧ Below w.heap.size w (w4.setCell ⟨w.heap.size, 5, none⟩ (.slice b4 p.length d4)) ∧ Own W.heap.size (w4.setCell ⟨w.heap.size, 5, none⟩ (.slice b4 p.length d4)).heap.size (w4.setCell ⟨w.heap.size, 5, none⟩ (.slice b4 p.length d4)) ((([dRow (.slice b1 d.length d1) d] ++ [nRow (.slice b2 n.length d2) n]) ++ [hRow (.slice b3 h.length d3) h]) ++ [oRow (.slice b4 p.length d4) us0]) ∧ W.heap.size ≤ (w4.setCell ⟨w.heap.size, 5, none⟩ (.slice b4 p.length d4)).heap.size) := (by rw [← hW4]; exact ⟨HI4.out, HB4.out, HO4.out, HS5.out⟩ : _ ∧ _)
  have HU1 : Hid (us0.length = p.length) := HU0.out.1
  generalize hA : (([dRow (.slice b1 d.length d1) d] ++ [nRow (.slice b2 n.length d2) n]) ++ [hRow (.slice b3 h.length d3) h]) = AA at HX4
  have HAA : Hid (AA = (([dRow (.slice b1 d.length d1) d] ++ [nRow (.slice b2 n.length d2) n]) ++ [hRow (.slice b3 h.length d3) h])) := hA.symm
  clear hW4 hsz4 I4 hb4 o4 HW4 HI4 HB4 HO4 HS5 HI3 HB3 HO3 HS4 HI2 HB2 HO2 HS3 HI1 HB1 HO1 HS2 HI0 HB0 HT2 HT3 HT4 hA
  obtain ⟨m, hm⟩ : ∃ m, m = p.length := ⟨_, rfl⟩
  have HM : Hid (m = p.length) := hm
  rw [← hm] at k5 j5 HX4 HU1 HU0 HPD hpx ⊢
  clear hm
  go_wp2
  go_loopw [24] (fun i wr => ∃ (k : Nat) (us : List Value), k ≤ m ∧ i = .int .i64 k ∧ Hid (OsI w.heap.size ph cu (.slice b1 d.length d1) (.slice b2 n.length d2) (.slice b3 h.length d3) (.slice b4 m d4) wr) ∧ Hid (Below w.heap.size w wr) ∧ Hid (Own W.heap.size wr.heap.size wr ((AA ++ [oRow (.slice b4 m d4) us]) ++ pRows us p k)) ∧ Hid (us.length = m) ∧ Hid (∀ j, k ≤ j → j < m → uAt us j = uAt us0 j) ∧ Hid (W.heap.size ≤ wr.heap.size)) (fun i _ => m - (intOf i).toNat)
  case atStart => exact ⟨0, us0, Nat.zero_le _, rfl, HX4.out.1, HX4.out.2.1, (by show Own _ _ _ ((AA ++ [oRow (.slice b4 m d4) us0]) ++ []); rw [List.append_nil]; exact HX4.out.2.2.1), HU1, fun j _ _ => rfl, HX4.out.2.2.2⟩
  case round =>
    obtain ⟨k, us, hk, rfl, HI, HB, HO, HL, HE, HS⟩ := hrel
    clear k5 f5 j5 HX4
    by_cases hkm : k < m
    · have hki : (k : Int) < (m : Int) := by omega
      have hrow := HO.out.own (oRow (.slice b4 m d4) us) (by simp)
      have hrow : wr.ownsRow W.heap.size 33 1 (.slice b4 m d4) us.length us := hrow
      rw [HL.out] at hrow
      obtain ⟨g, rfl, hgW⟩ : ∃ g, b4 = some ⟨g, 0, none⟩ ∧ W.heap.size ≤ g := by
        rcases hrow.2 with ⟨_, hh⟩ | ⟨g, cap, cur, e, hh, _⟩
        · omega
        · cases e; exact ⟨g, rfl, hh⟩
      have dk : wr.cell? ⟨g, k, none⟩ = some (uAt us k) := by
        have := hrow.cellAt k (by omega)
        rw [this]
        unfold uAt
        rw [List.getD_eq_getElem?_getD, List.getElem?_eq_getElem (by rw [HL.out]; exact hkm)]
        rfl
      rw [HE.out k (Nat.le_refl _) hkm] at dk
      have hrk := (HU0.out.2 k hkm).below HB.out
      obtain ⟨ua, uc, hua⟩ := hrk.shape
      have hgs : g < wr.heap.size := (hrow.lt _ rfl).2
      obtain ⟨V, hV⟩ : ∃ V, V = wr.alloc (.cells #[uAt us0 k] 33) := ⟨_, rfl⟩
      have hbV : Below wr.heap.size wr V := by rw [hV]; exact one_new _
      have hVH : V.heap[wr.heap.size]? = some (.cells #[uAt us0 k] 33) := by rw [hV]; exact heap_alloc_new wr _
      have hOD := fun w' (hb : Below V.heap.size V w') => ownDirectory_any (uAt us0 k) (dAt p k) w' ((hrk.below hbV).below hb) (HPD.out k hkm).2 (HPD.out k hkm).1
      have HOV : Hid (∀ w', Below V.heap.size V w' → Own W.heap.size V.heap.size w' ((AA ++ [oRow (.slice (some ⟨g, 0, none⟩) m d4) us]) ++ pRows us p k) ∧ OsI w.heap.size ph cu (.slice b1 d.length d1) (.slice b2 n.length d2) (.slice b3 h.length d3) (.slice (some ⟨g, 0, none⟩) m d4) w' ∧ Below w.heap.size w w') := fun w' hb => ⟨((HO.out.below hbV).below hb).wide (Nat.le_refl _) hbV.size, (HI.out.below hbV).below hb, below_after_of (below_after_of HB.out hbV) hb⟩
      rw [hua] at hOD dk hVH hV
      obtain ⟨q, hq⟩ : ∃ q, q = (dAt p k).length := ⟨_, rfl⟩
      have HQ : Hid (q = (dAt p k).length) := hq
      rw [← hq] at hOD dk hVH hV
      have HV : Hid (wr.alloc (.cells #[.slice ua q uc] 33) = V) := hV.symm
      have HCC : Hid (∀ w', Below V.heap.size V w' → w'.cell? ⟨w.heap.size, 5, none⟩ = some (.slice (some ⟨g, 0, none⟩) m d4) ∧ w'.cell? ⟨wr.heap.size, 0, none⟩ = some (.slice ua q uc)) := fun w' hb => ⟨(six_cellsS (HOV.out w' hb).2.1.box).1.2.2.2.2.2, one_cellV ((hb.block _ (Array.getElem?_eq_some_iff.1 hVH).1).trans hVH)⟩
      have HCS : Hid (∀ (w' : World) (y : Value), (w'.cell? ⟨w.heap.size, 5, none⟩ = some (.slice (some ⟨g, 0, none⟩) m d4) ∧ w'.cell? ⟨wr.heap.size, 0, none⟩ = some (.slice ua q uc)) → (w'.setCell ⟨g, k, none⟩ y).cell? ⟨w.heap.size, 5, none⟩ = some (.slice (some ⟨g, 0, none⟩) m d4) ∧ (w'.setCell ⟨g, k, none⟩ y).cell? ⟨wr.heap.size, 0, none⟩ = some (.slice ua q uc)) := fun w' y hh => by
        have n0 : w.heap.size ≠ g := by have := HLW.out; omega
        have n1 : wr.heap.size ≠ g := by omega
        exact ⟨(cell_set_other w' ⟨g, k, none⟩ ⟨w.heap.size, 5, none⟩ y n0).trans hh.1, (cell_set_other w' ⟨g, k, none⟩ ⟨wr.heap.size, 0, none⟩ y n1).trans hh.2⟩
      have hbx : Below V.heap.size V V := Below.refl _ _
      obtain ⟨y0, y1⟩ := HCC.out _ hbx
      have HVr : Hid (wr.heap.size ≤ V.heap.size) := hbV.size
      clear hV hbV hVH hrk hrow hua HO HI HB hq
      go_wp2_with fail
      rw [HV.out]
      clear dk HV
      go_region_held3 (fun w' => w'.cell? ⟨w.heap.size, 5, none⟩ = some (.slice (some ⟨g, 0, none⟩) m d4) ∧ w'.cell? ⟨wr.heap.size, 0, none⟩ = some (.slice ua q uc))
        (first | with_reducible exact ⟨y0, y1⟩ | with_reducible exact HCC.out _ hbx | with_reducible exact HCC.out _ hbx.drew | with_reducible exact HCS.out _ _ (HCC.out _ hbx))
        (first
          | (go_at_call 39; refine (hOD _ (by first | exact hbx | exact hbx.drew)).mono ?_; rintro e w5 ⟨a5, c5, rfl, hb5, o5⟩; have HV5 : Hid (Below V.heap.size V w5 ∧ ∃ N5, V.heap.size ≤ N5 ∧ N5 ≤ w5.heap.size ∧ w5.ownsRow N5 52 4 (.slice a5 q c5) q (flR (dAt p k))) := (by first | exact ⟨below_after_of hbx hb5, _, hbx.size, hb5.size, o5⟩ | exact ⟨below_after_of hbx.drew hb5, _, hbx.drew.size, hb5.size, o5⟩); have hbx : Below V.heap.size V w5 := HV5.out.1; have ho5 := (HOV.out _ hbx).1.own (oRow (.slice (some ⟨g, 0, none⟩) m d4) us) (by simp); have ho5 : w5.ownsRow W.heap.size 33 1 (.slice (some ⟨g, 0, none⟩) m d4) us.length us := ho5; rw [HL.out] at ho5; have f0 := ho5.frozenAt k; obtain ⟨z0, e0⟩ := own_some1D ho5 (j := k) (by omega)))
      obtain ⟨s1, r1⟩ := ho5.stored k (.slice a5 q c5)
      obtain ⟨hbxx, N5, hn5, hn5', o5'⟩ := HV5.out
      obtain ⟨OV, IV, BV⟩ := HOV.out _ hbx
      have hgN : w.heap.size ≠ g ∧ w.heap.size + 1 ≠ g := by have := HLW.out; omega
      have HI5 : Hid (OsI w.heap.size ph cu (.slice b1 d.length d1) (.slice b2 n.length d2) (.slice b3 h.length d3) (.slice (some ⟨g, 0, none⟩) m d4) (w5.setCell ⟨g, k, none⟩ (.slice a5 q c5))) := IV.other _ _ hgN.1 hgN.2
      have HB5 : Hid (Below w.heap.size w (w5.setCell ⟨g, k, none⟩ (.slice a5 q c5))) := BV.setCell (by show w.heap.size ≤ g; have := HLW.out; omega) _
      have HL5 : Hid ((us.set k (.slice a5 q c5)).length = m) := (by rw [List.length_set]; exact HL.out : (us.set k (.slice a5 q c5)).length = m)
      have HE5 : Hid (∀ j, k + 1 ≤ j → j < m → uAt (us.set k (.slice a5 q c5)) j = uAt us0 j) := fun j h1 h2 => by rw [uAt_set_ne _ (by omega)]; exact HE.out j (by omega) h2
      have HS5 : Hid (W.heap.size ≤ (w5.setCell ⟨g, k, none⟩ (.slice a5 q c5)).heap.size) := (by have := hbx.size; have := HVr.out; have := HS.out; simp; omega : W.heap.size ≤ (w5.setCell ⟨g, k, none⟩ (.slice a5 q c5)).heap.size)
      have HO5 : Hid (Own W.heap.size (w5.setCell ⟨g, k, none⟩ (.slice a5 q c5)).heap.size (w5.setCell ⟨g, k, none⟩ (.slice a5 q c5)) ((AA ++ [oRow (.slice (some ⟨g, 0, none⟩) m d4) (us.set k (.slice a5 q c5))]) ++ pRows (us.set k (.slice a5 q c5)) p (k + 1))) := (by
        rw [pRows_set _ (by rw [HL.out]; exact hkm)]
        have X : Own N5 w5.heap.size w5 [dRow (.slice a5 q c5) (dAt p k)] := Own.single (by
          show w5.ownsRow N5 52 4 (.slice a5 q c5) (dAt p k).length (flR (dAt p k))
          rw [← HQ.out]
          exact o5') (Nat.le_refl _)
        have Y := (OV.wide (Nat.le_refl _) hn5).app X (by have := HS.out; have := HVr.out; omega) hn5'
        rw [List.append_assoc, List.append_assoc] at Y
        have Z := Y.set (A := AA) (r := oRow (.slice (some ⟨g, 0, none⟩) m d4) us) (r' := oRow (.slice (some ⟨g, 0, none⟩) m d4) (us.set k (.slice a5 q c5))) (B := pRows us p k ++ [dRow (.slice a5 q c5) (dAt p k)]) rfl r1 (by
          show (w5.setCell ⟨g, k, none⟩ (.slice a5 q c5)).ownsRow W.heap.size 33 1 (.slice (some ⟨g, 0, none⟩) m d4) (us.set k (.slice a5 q c5)).length (us.set k (.slice a5 q c5))
          rw [HL5.out]
          exact s1)
        rw [List.append_assoc]
        exact Z.wide (Nat.le_refl _) (by simp) : Own W.heap.size (w5.setCell ⟨g, k, none⟩ (.slice a5 q c5)).heap.size (w5.setCell ⟨g, k, none⟩ (.slice a5 q c5)) ((AA ++ [oRow (.slice (some ⟨g, 0, none⟩) m d4) (us.set k (.slice a5 q c5))]) ++ pRows (us.set k (.slice a5 q c5)) p (k + 1)))
      clear s1 r1 ho5 o5 o5' OV IV BV hOD HOV HCC HCS y0 y1 hbx hbxx hb5 HV5
      go_wp2
      go_roundw
      case rel => exact ⟨k + 1, us.set k (.slice a5 q c5), by omega, by go_num, HI5, HB5, HO5, HL5, HE5, HS5⟩
      case measure => simp [intOf]; omega
    · have hkm : k = m := by omega
      subst hkm
      obtain ⟨⟨y0, y1, y2, y3, y4, y5⟩, -⟩ := six_cellsS HI.out.box
      obtain ⟨⟨z0, z1, z2, z3, z4, z5⟩, g0, g1, g2, g3, g4, g5⟩ := six_cellsS HI.out.res
      have hlt4 := HI.out.lt
      go_wp2
      refine bodyPost_ret (v := .agg #[.int .i64 ph, .int .i64 cu, .slice b1 d.length d1, .slice b2 n.length d2, .slice b3 h.length d3, .slice b4 k d4]) (by simp [results, Tryz.results36, go_sem, z0, z1, z2, z3, z4, z5]) rfl ⟨⟨.slice b1 d.length d1, .slice b2 n.length d2, .slice b3 h.length d3, .slice b4 k d4⟩, us, rfl, ?_, ?_⟩
      · exact (((((HB.out.setCell (Nat.le_succ _) _).setCell (Nat.le_succ _) _).setCell (Nat.le_succ _) _).setCell (Nat.le_succ _) _).setCell (Nat.le_succ _) _).setCell (Nat.le_succ _) _
      · have hL1 : w.heap.size + 1 < W.heap.size := HLW.out
        have A : StOwn W.heap.size wr.heap.size wr ⟨.slice b1 d.length d1, .slice b2 n.length d2, .slice b3 h.length d3, .slice b4 k d4⟩ us ⟨ph, cu, d, n, h, p⟩ := ⟨by
          have := HO.out
          rw [HAA.out, HM.out] at this
          simp only [List.append_assoc] at this
          rw [← HM.out] at this
          show Own _ _ _ ([dRow (.slice b1 d.length d1) d] ++ ([nRow (.slice b2 n.length d2) n] ++ ([hRow (.slice b3 h.length d3) h] ++ ([oRow (.slice b4 k d4) us] ++ pRows us p p.length))))
          rw [← HM.out]
          exact this, by show us.length = p.length; rw [HL.out]; exact HM.out⟩
        have B := (((((A.setCell ⟨w.heap.size + 1, 0, none⟩ hL1 (.int .i64 ph)).setCell ⟨w.heap.size + 1, 1, none⟩ hL1 (.int .i64 cu)).setCell ⟨w.heap.size + 1, 2, none⟩ hL1 (.slice b1 d.length d1)).setCell ⟨w.heap.size + 1, 3, none⟩ hL1 (.slice b2 n.length d2)).setCell ⟨w.heap.size + 1, 4, none⟩ hL1 (.slice b3 h.length d3)).setCell ⟨w.heap.size + 1, 5, none⟩ hL1 (.slice b4 k d4)
        exact B.wide (by omega) (by simp)
end U
end Go.Proofs.YtjhmfaibpnagcaaGreat
