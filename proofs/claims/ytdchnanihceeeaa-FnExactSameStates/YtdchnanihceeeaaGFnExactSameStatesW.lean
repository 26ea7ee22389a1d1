/- The law on SameStates, walked: true, and nothing that was there has turned. -/
import Derived.Test.YtdchnanihceeeaaGAC
namespace Go.Proofs.Ytdchnanihceeeaa
open Go.RowKit
namespace U
structure SpS (s t : St) (ph cu ph' cu' : Int) (n1 n2 n3 n4 m1 m2 m3 m4 : Nat) (q : Bool) : Prop where
  c : ∀ (w' : World) (a1 a2 a3 a4 b1 b2 b3 b4 : Option Addr) (c1 c2 c3 c4 k1 k2 k3 k4 : Nat), Sts w' (sv a1 a2 a3 a4 n1 n2 n3 n4 c1 c2 c3 c4) s → Sts w' (sv b1 b2 b3 b4 m1 m2 m3 m4 k1 k2 k3 k4) t → Calls Try.prog 13 #[.agg #[.int .i64 ph, .int .i64 cu, .slice a1 n1 c1, .slice a2 n2 c2, .slice a3 n3 c3, .slice a4 n4 c4], .agg #[.int .i64 ph', .int .i64 cu', .slice b1 m1 k1, .slice b2 m2 k2, .slice b3 m3 k3, .slice b4 m4 k4]] w' fun e w'' => e = .returned (.bool q) ∧ Below w'.heap.size w' w''
structure ImS (s t : St) (ph cu ph' cu' : Int) (n1 n2 n3 n4 m1 m2 m3 m4 : Nat) (q : Bool) : Prop where
  c : ∀ (w' : World) (a1 a2 a3 a4 b1 b2 b3 b4 : Option Addr) (c1 c2 c3 c4 k1 k2 k3 k4 : Nat), Sts w' (sv a1 a2 a3 a4 n1 n2 n3 n4 c1 c2 c3 c4) s → Sts w' (sv b1 b2 b3 b4 m1 m2 m3 m4 k1 k2 k3 k4) t → Calls Try.prog 15 #[.agg #[.int .i64 ph, .int .i64 cu, .slice a1 n1 c1, .slice a2 n2 c2, .slice a3 n3 c3, .slice a4 n4 c4], .agg #[.int .i64 ph', .int .i64 cu', .slice b1 m1 k1, .slice b2 m2 k2, .slice b3 m3 k3, .slice b4 m4 k4]] w' fun e w'' => e = .returned (.bool q) ∧ Below w'.heap.size w' w''
structure TA (w : World) (s : St) (ph cu : Int) (a1 a2 a3 a4 : Option Addr) (n1 n2 n3 n4 c1 c2 c3 c4 : Nat) : Prop where
  t : ToS w s ph cu a1 a2 a3 a4 n1 n2 n3 n4 c1 c2 c3 c4
structure TB (w : World) (s : St) (ph cu : Int) (a1 a2 a3 a4 : Option Addr) (n1 n2 n3 n4 c1 c2 c3 c4 : Nat) : Prop where
  t : ToS w s ph cu a1 a2 a3 a4 n1 n2 n3 n4 c1 c2 c3 c4
set_option maxRecDepth 100000 in
theorem SpS.mk' {s t : St} (hB : StB s) (hC : StB t) : SpS s t s.ph s.cu t.ph t.cu s.d.length s.n.length s.h.length s.p.length t.d.length t.n.length t.h.length t.p.length (ssB s t) := ⟨fun w' a1 a2 a3 a4 b1 b2 b3 b4 c1 c2 c3 c4 k1 k2 k3 k4 h1 h2 => by
  have := specSameStates_any s t _ _ w' h1 h2 hB hC
  unfold stV sv at this
  exact this⟩
set_option maxRecDepth 100000 in
theorem ImS.mk' {s t : St} (hB : StB s) (hC : StB t) : ImS s t s.ph s.cu t.ph t.cu s.d.length s.n.length s.h.length s.p.length t.d.length t.n.length t.h.length t.p.length (ssB s t) := ⟨fun w' a1 a2 a3 a4 b1 b2 b3 b4 c1 c2 c3 c4 k1 k2 k3 k4 h1 h2 => by
  have := implSameStates_any s t _ _ w' h1 h2 hB hC
  unfold stV sv at this
  exact this⟩
set_option maxRecDepth 100000 in
set_option maxHeartbeats 8000000 in
theorem fnExactSameStates_walk (s : St) (v : Sv) (t : St) (u : Sv) (w : World) (hv : Sts w v s) (hA : StA s) (hu : Sts w u t) (hA' : StA t) :
    Calls Try.prog 4 #[stV s v, stV t u] w fun e w' => e = .returned (.bool true) ∧ Below w.heap.size w w' := by
  obtain ⟨W, hW⟩ : ∃ W, W = (w.alloc (stC s v 43)).alloc (stC t u 43) := ⟨_, rfl⟩
  have hBW : Below w.heap.size w W := by rw [hW]; exact two_new _ _
  have hZ := szState_any s v 1048576 W (hv.below hBW) hA (by omega)
  have hok := fun h => szS_ok (s := s) (z := 1048576) (by omega) (by omega) h
  have hZ2 := fun z w' h hz => szState_any t u z w' ((hu.below hBW).below (w' := w') h) hA' hz
  have hok2 := fun z h0 hz h => szS_ok (s := t) (z := z) h0 hz h
  obtain ⟨a1, a2, a3, a4, c1, c2, c3, c4, rfl⟩ := hv.four
  obtain ⟨b1, b2, b3, b4, k1, k2, k3, k4, rfl⟩ := hu.four
  have hX0 := (Bx.new w s.ph s.cu a1 a2 a3 a4 s.d.length s.n.length s.h.length s.p.length c1 c2 c3 c4 43).below (one_new (stC t (sv b1 b2 b3 b4 t.d.length t.n.length t.h.length t.p.length k1 k2 k3 k4) 43))
  have hY0 := Bx.new (w.alloc (stC s (sv a1 a2 a3 a4 s.d.length s.n.length s.h.length s.p.length c1 c2 c3 c4) 43)) t.ph t.cu b1 b2 b3 b4 t.d.length t.n.length t.h.length t.p.length k1 k2 k3 k4 43
  rw [World.size_alloc] at hY0
  have hX : Bx W w.heap.size s.ph s.cu a1 a2 a3 a4 s.d.length s.n.length s.h.length s.p.length c1 c2 c3 c4 := by rw [hW]; exact hX0
  have hY : Bx W (w.heap.size + 1) t.ph t.cu b1 b2 b3 b4 t.d.length t.n.length t.h.length t.p.length k1 k2 k3 k4 := by rw [hW]; exact hY0
  clear hX0 hY0
  unfold stC at hW
  unfold stV at hZ hZ2 ⊢
  unfold sv at hW hZ hZ2 ⊢
  dsimp only at hW hZ hZ2 ⊢
  generalize szS s 1048576 = z at *
  by_cases h : z < 0
  · generalize s.ph = ph at *
    generalize s.cu = cu at *
    generalize s.d.length = n1 at *
    generalize s.n.length = n2 at *
    generalize s.h.length = n3 at *
    generalize s.p.length = n4 at *
    generalize t.ph = ph' at *
    generalize t.cu = cu' at *
    generalize t.d.length = m1 at *
    generalize t.n.length = m2 at *
    generalize t.h.length = m3 at *
    generalize t.p.length = m4 at *
    have HW : Hid ((w.alloc (.cells #[.int .i64 ph, .int .i64 cu, .slice a1 n1 c1, .slice a2 n2 c2, .slice a3 n3 c3, .slice a4 n4 c4] 43)).alloc (.cells #[.int .i64 ph', .int .i64 cu', .slice b1 m1 k1, .slice b2 m2 k2, .slice b3 m3 k3, .slice b4 m4 k4] 43) = W) := hW.symm
    clear hv hA hok hW hX hY hZ2 hok2 hu hA'
    go_enter Try.func4, Try.ntmps4
    go_wp2_with fail
    rw [HW.out]
    refine hZ.mono ?_
    rintro e w1 ⟨rfl, hb1⟩
    clear hZ
    go_wp2
    go_ret
    exact ⟨rfl, below_after_of hBW hb1⟩
  · obtain ⟨hB, hz0, hz1⟩ := hok h
    have hZ3 := fun w' h => hZ2 z w' h ⟨hz0, by omega⟩
    have hok3 := hok2 z hz0 (by omega)
    generalize szS t z = z2 at *
    by_cases h2 : z2 < 0
    · generalize s.ph = ph at *
      generalize s.cu = cu at *
      generalize s.d.length = n1 at *
      generalize s.n.length = n2 at *
      generalize s.h.length = n3 at *
      generalize s.p.length = n4 at *
      generalize t.ph = ph' at *
      generalize t.cu = cu' at *
      generalize t.d.length = m1 at *
      generalize t.n.length = m2 at *
      generalize t.h.length = m3 at *
      generalize t.p.length = m4 at *
      have HW : Hid ((w.alloc (.cells #[.int .i64 ph, .int .i64 cu, .slice a1 n1 c1, .slice a2 n2 c2, .slice a3 n3 c3, .slice a4 n4 c4] 43)).alloc (.cells #[.int .i64 ph', .int .i64 cu', .slice b1 m1 k1, .slice b2 m2 k2, .slice b3 m3 k3, .slice b4 m4 k4] 43) = W) := hW.symm
      have HY : Hid (∀ w', Below W.heap.size W w' → w'.cell? ⟨w.heap.size + 1, 0, none⟩ = some (.int .i64 ph') ∧ w'.cell? ⟨w.heap.size + 1, 1, none⟩ = some (.int .i64 cu') ∧ w'.cell? ⟨w.heap.size + 1, 2, none⟩ = some (.slice b1 m1 k1) ∧ w'.cell? ⟨w.heap.size + 1, 3, none⟩ = some (.slice b2 m2 k2) ∧ w'.cell? ⟨w.heap.size + 1, 4, none⟩ = some (.slice b3 m3 k3) ∧ w'.cell? ⟨w.heap.size + 1, 5, none⟩ = some (.slice b4 m4 k4)) := fun w' hb => (hY.below hb).c
      clear hv hA hok hW hX hY hZ2 hok2 hu hA' hok3 hB
      go_enter Try.func4, Try.ntmps4
      go_wp2_with fail
      rw [HW.out]
      refine hZ.mono ?_
      rintro e w1 ⟨rfl, hb1⟩
      obtain ⟨y0, y1, y2, y3, y4, y5⟩ := HY.out _ hb1
      clear hZ HW
      go_wp2_with fail
      refine (hZ3 _ hb1).mono ?_
      rintro e w2 ⟨rfl, hb2⟩
      clear hZ3
      go_wp2
      go_ret
      exact ⟨rfl, below_after_of (below_after_of hBW hb1) hb2⟩
    · obtain ⟨hC, -, -⟩ := hok3 h2
      have HTA := ToS.mk' hv hB
      have HTB := ToS.mk' hu hC
      have KTA := TA.mk HTA
      have KTB := TB.mk HTB
      have HEA := EqS.mk' hB
      have HEB := EqS.mk' hC
      have HS := SpS.mk' hB hC
      have HI := ImS.mk' hB hC
      have hbne : ∀ q : Bool, (q != q) = false := fun q => by cases q <;> rfl
      generalize ssB s t = q at *
      generalize s.ph = ph at *
      generalize s.cu = cu at *
      generalize s.d.length = n1 at *
      generalize s.n.length = n2 at *
      generalize s.h.length = n3 at *
      generalize s.p.length = n4 at *
      generalize t.ph = ph' at *
      generalize t.cu = cu' at *
      generalize t.d.length = m1 at *
      generalize t.n.length = m2 at *
      generalize t.h.length = m3 at *
      generalize t.p.length = m4 at *
      have HW : Hid ((w.alloc (.cells #[.int .i64 ph, .int .i64 cu, .slice a1 n1 c1, .slice a2 n2 c2, .slice a3 n3 c3, .slice a4 n4 c4] 43)).alloc (.cells #[.int .i64 ph', .int .i64 cu', .slice b1 m1 k1, .slice b2 m2 k2, .slice b3 m3 k3, .slice b4 m4 k4] 43) = W) := hW.symm
      have HXY : Hid (∀ w', Below W.heap.size W w' → (w'.cell? ⟨w.heap.size, 0, none⟩ = some (.int .i64 ph) ∧ w'.cell? ⟨w.heap.size, 1, none⟩ = some (.int .i64 cu) ∧ w'.cell? ⟨w.heap.size, 2, none⟩ = some (.slice a1 n1 c1) ∧ w'.cell? ⟨w.heap.size, 3, none⟩ = some (.slice a2 n2 c2) ∧ w'.cell? ⟨w.heap.size, 4, none⟩ = some (.slice a3 n3 c3) ∧ w'.cell? ⟨w.heap.size, 5, none⟩ = some (.slice a4 n4 c4)) ∧ w'.cell? ⟨w.heap.size + 1, 0, none⟩ = some (.int .i64 ph') ∧ w'.cell? ⟨w.heap.size + 1, 1, none⟩ = some (.int .i64 cu') ∧ w'.cell? ⟨w.heap.size + 1, 2, none⟩ = some (.slice b1 m1 k1) ∧ w'.cell? ⟨w.heap.size + 1, 3, none⟩ = some (.slice b2 m2 k2) ∧ w'.cell? ⟨w.heap.size + 1, 4, none⟩ = some (.slice b3 m3 k3) ∧ w'.cell? ⟨w.heap.size + 1, 5, none⟩ = some (.slice b4 m4 k4)) := fun w' hb => ⟨(hX.below hb).c, (hY.below hb).c⟩
      have HBW : Hid (∀ w', Below W.heap.size W w' → Below w.heap.size w w') := fun w' hb => below_after_of hBW hb
      clear hv hA hok hW hX hY hZ2 hok2 hu hA' hok3 hB hC hBW
      go_enter Try.func4, Try.ntmps4
      go_wp2_with fail
      rw [HW.out]
      refine hZ.mono ?_
      rintro e w1 ⟨rfl, hb1⟩
      obtain ⟨⟨x0, x1, x2, x3, x4, x5⟩, y0, y1, y2, y3, y4, y5⟩ := HXY.out _ hb1
      clear hZ HW
      go_wp2_with fail
      refine (hZ3 _ hb1).mono ?_
      rintro e w2 ⟨rfl, hb2⟩
      have hbW : Below W.heap.size W w2 := below_after_of hb1 hb2
      clear hZ3 hb1 hb2 x0 x1 x2 x3 x4 x5 y0 y1 y2 y3 y4 y5
      obtain ⟨⟨x0, x1, x2, x3, x4, x5⟩, y0, y1, y2, y3, y4, y5⟩ := HXY.out _ hbW
      go_wp2_with fail
      go_region_held3 (fun w' => (w'.cell? ⟨w.heap.size, 0, none⟩ = some (.int .i64 ph) ∧ w'.cell? ⟨w.heap.size, 1, none⟩ = some (.int .i64 cu) ∧ w'.cell? ⟨w.heap.size, 2, none⟩ = some (.slice a1 n1 c1) ∧ w'.cell? ⟨w.heap.size, 3, none⟩ = some (.slice a2 n2 c2) ∧ w'.cell? ⟨w.heap.size, 4, none⟩ = some (.slice a3 n3 c3) ∧ w'.cell? ⟨w.heap.size, 5, none⟩ = some (.slice a4 n4 c4)) ∧ w'.cell? ⟨w.heap.size + 1, 0, none⟩ = some (.int .i64 ph') ∧ w'.cell? ⟨w.heap.size + 1, 1, none⟩ = some (.int .i64 cu') ∧ w'.cell? ⟨w.heap.size + 1, 2, none⟩ = some (.slice b1 m1 k1) ∧ w'.cell? ⟨w.heap.size + 1, 3, none⟩ = some (.slice b2 m2 k2) ∧ w'.cell? ⟨w.heap.size + 1, 4, none⟩ = some (.slice b3 m3 k3) ∧ w'.cell? ⟨w.heap.size + 1, 5, none⟩ = some (.slice b4 m4 k4))
        (first | with_reducible exact ⟨⟨x0, x1, x2, x3, x4, x5⟩, y0, y1, y2, y3, y4, y5⟩ | with_reducible exact HXY.out _ hbW | with_reducible exact HXY.out _ hbW.drew)
        (first
          | (go_at_call 14; refine ((TA.t (by assumption)).c _ (by first | exact HBW.out _ hbW | exact HBW.out _ hbW.drew)).mono ?_; rintro e w5 ⟨d1, d2, d3, d4, f1, f2, f3, f4, us5, rfl, h5⟩; have R5 := h5.sts; have hbW : Below W.heap.size W w5 := (by first | exact below_after_of hbW h5.below | exact below_after_of hbW.drew h5.below); clear h5)
          | (go_at_call 14; refine ((TB.t (by assumption)).c _ (by first | exact HBW.out _ hbW | exact HBW.out _ hbW.drew)).mono ?_; rintro e w6 ⟨g1, g2, g3, g4, j1, j2, j3, j4, us6, rfl, h6⟩; have R6 := h6.sts; have R5 := R5.below h6.below; have hbW : Below W.heap.size W w6 := (by first | exact below_after_of hbW h6.below | exact below_after_of hbW.drew h6.below); clear h6)
          | (go_at_call 13; refine (HS.c _ _ _ _ _ _ _ _ _ _ _ _ _ _ _ _ _ R5 R6).mono ?_; rintro e w7 ⟨rfl, hb7⟩; have hbW : Below W.heap.size W w7 := below_after_of hbW hb7; clear hb7))
      clear x0 x1 x2 x3 x4 x5 y0 y1 y2 y3 y4 y5 R5 R6 HS
      obtain ⟨⟨x0, x1, x2, x3, x4, x5⟩, y0, y1, y2, y3, y4, y5⟩ := HXY.out _ hbW
      go_wp2_with fail
      refine (HTA.c _ (HBW.out _ hbW)).mono ?_
      rintro e w8 ⟨p1, p2, p3, p4, q1, q2, q3, q4, us8, rfl, h8⟩
      obtain ⟨W8, hW8⟩ : ∃ W8, W8 = w8.alloc (.cells #[.int .i64 ph, .int .i64 cu, .slice p1 n1 q1, .slice p2 n2 q2, .slice p3 n3 q3, .slice p4 n4 q4] 29) := ⟨_, rfl⟩
      have hb8 : Below w8.heap.size w8 W8 := by rw [hW8]; exact one_new _
      have R8 := h8.sts.below hb8
      have X8 := Bx.new w8 ph cu p1 p2 p3 p4 n1 n2 n3 n4 q1 q2 q3 q4 29
      rw [← hW8] at X8
      have hbW : Below W.heap.size W W8 := below_after_of (below_after_of hbW h8.below) hb8
      clear x0 x1 x2 x3 x4 x5 y0 y1 y2 y3 y4 y5 h8 hb8
      obtain ⟨⟨x0, x1, x2, x3, x4, x5⟩, y0, y1, y2, y3, y4, y5⟩ := HXY.out _ hbW
      have HW8 : Hid (w8.alloc (.cells #[.int .i64 ph, .int .i64 cu, .slice p1 n1 q1, .slice p2 n2 q2, .slice p3 n3 q3, .slice p4 n4 q4] 29) = W8) := hW8.symm
      rw [hW8] at y0 y1 y2 y3 y4 y5
      clear hW8 x0 x1 x2 x3 x4 x5
      go_wp2_with fail
      rw [HW8.out]
      refine (HTB.c _ (HBW.out _ hbW)).mono ?_
      rintro e w9 ⟨r1, r2, r3, r4, s1, s2, s3, s4, us9, rfl, h9⟩
      clear y0 y1 y2 y3 y4 y5 HW8
      obtain ⟨W9, hW9⟩ : ∃ W9, W9 = w9.alloc (.cells #[.int .i64 ph', .int .i64 cu', .slice r1 m1 s1, .slice r2 m2 s2, .slice r3 m3 s3, .slice r4 m4 s4] 29) := ⟨_, rfl⟩
      have hb9 : Below w9.heap.size w9 W9 := by rw [hW9]; exact one_new _
      have R9 := h9.sts.below hb9
      have R8 := (R8.below h9.below).below hb9
      have X9 := Bx.new w9 ph' cu' r1 r2 r3 r4 m1 m2 m3 m4 s1 s2 s3 s4 29
      rw [← hW9] at X9
      have hlt89 : w8.heap.size < w9.heap.size := (X8.below h9.below).lt
      have X8 := (X8.below h9.below).below hb9
      have hbW : Below W.heap.size W W9 := below_after_of (below_after_of hbW h9.below) hb9
      obtain ⟨x0, x1, x2, x3, x4, x5⟩ := X8.c
      obtain ⟨y0, y1, y2, y3, y4, y5⟩ := X9.c
      have HW9 : Hid (w9.alloc (.cells #[.int .i64 ph', .int .i64 cu', .slice r1 m1 s1, .slice r2 m2 s2, .slice r3 m3 s3, .slice r4 m4 s4] 29) = W9) := hW9.symm
      have hI := HI.c _ _ _ _ _ _ _ _ _ _ _ _ _ _ _ _ _ R8 R9
      rw [hW9] at x0 x1 x2 x3 x4 x5 y0 y1 y2 y3 y4 y5
      clear hW9 h9 hb9 HI
      go_wp2_with fail
      rw [HW9.out]
      refine hI.mono ?_
      rintro e w10 ⟨rfl, hb10⟩
      clear x0 x1 x2 x3 x4 x5 y0 y1 y2 y3 y4 y5 hI HW9
      have R8 := R8.below hb10
      have R9 := R9.below hb10
      have X8 := X8.below hb10
      have X9 := X9.below hb10
      have hbW : Below W.heap.size W w10 := below_after_of hbW hb10
      clear hb10
      have HC8 : Hid (∀ w', Below w10.heap.size w10 w' → (w'.cell? ⟨w8.heap.size, 0, none⟩ = some (.int .i64 ph) ∧ w'.cell? ⟨w8.heap.size, 1, none⟩ = some (.int .i64 cu) ∧ w'.cell? ⟨w8.heap.size, 2, none⟩ = some (.slice p1 n1 q1) ∧ w'.cell? ⟨w8.heap.size, 3, none⟩ = some (.slice p2 n2 q2) ∧ w'.cell? ⟨w8.heap.size, 4, none⟩ = some (.slice p3 n3 q3) ∧ w'.cell? ⟨w8.heap.size, 5, none⟩ = some (.slice p4 n4 q4)) ∧ w'.cell? ⟨w.heap.size, 0, none⟩ = some (.int .i64 ph) ∧ w'.cell? ⟨w.heap.size, 1, none⟩ = some (.int .i64 cu) ∧ w'.cell? ⟨w.heap.size, 2, none⟩ = some (.slice a1 n1 c1) ∧ w'.cell? ⟨w.heap.size, 3, none⟩ = some (.slice a2 n2 c2) ∧ w'.cell? ⟨w.heap.size, 4, none⟩ = some (.slice a3 n3 c3) ∧ w'.cell? ⟨w.heap.size, 5, none⟩ = some (.slice a4 n4 c4)) := fun w' hb => ⟨(X8.below hb).c, (HXY.out _ (below_after_of hbW hb)).1⟩
      have HC9 : Hid (∀ w', Below w10.heap.size w10 w' → (w'.cell? ⟨w9.heap.size, 0, none⟩ = some (.int .i64 ph') ∧ w'.cell? ⟨w9.heap.size, 1, none⟩ = some (.int .i64 cu') ∧ w'.cell? ⟨w9.heap.size, 2, none⟩ = some (.slice r1 m1 s1) ∧ w'.cell? ⟨w9.heap.size, 3, none⟩ = some (.slice r2 m2 s2) ∧ w'.cell? ⟨w9.heap.size, 4, none⟩ = some (.slice r3 m3 s3) ∧ w'.cell? ⟨w9.heap.size, 5, none⟩ = some (.slice r4 m4 s4)) ∧ w'.cell? ⟨w.heap.size + 1, 0, none⟩ = some (.int .i64 ph') ∧ w'.cell? ⟨w.heap.size + 1, 1, none⟩ = some (.int .i64 cu') ∧ w'.cell? ⟨w.heap.size + 1, 2, none⟩ = some (.slice b1 m1 k1) ∧ w'.cell? ⟨w.heap.size + 1, 3, none⟩ = some (.slice b2 m2 k2) ∧ w'.cell? ⟨w.heap.size + 1, 4, none⟩ = some (.slice b3 m3 k3) ∧ w'.cell? ⟨w.heap.size + 1, 5, none⟩ = some (.slice b4 m4 k4)) := fun w' hb => ⟨(X9.below hb).c, (HXY.out _ (below_after_of hbW hb)).2⟩
      have HR8 : Hid (∀ w', Below w10.heap.size w10 w' → Sts w' (sv p1 p2 p3 p4 n1 n2 n3 n4 q1 q2 q3 q4) s) := fun w' hb => R8.below hb
      have HR9 : Hid (∀ w', Below w10.heap.size w10 w' → Sts w' (sv r1 r2 r3 r4 m1 m2 m3 m4 s1 s2 s3 s4) t) := fun w' hb => R9.below hb
      have HBR : Hid (∀ w', Below w10.heap.size w10 w' → Below w.heap.size w w') := fun w' hb => HBW.out _ (below_after_of hbW hb)
      have hbx : Below w10.heap.size w10 w10 := Below.refl _ _
      clear R8 R9 X8 X9 hbW
      obtain ⟨⟨y0, y1, y2, y3, y4, y5⟩, x0, x1, x2, x3, x4, x5⟩ := HC8.out _ hbx
      go_wp2_with fail
      go_region_held3 (fun w' => (w'.cell? ⟨w8.heap.size, 0, none⟩ = some (.int .i64 ph) ∧ w'.cell? ⟨w8.heap.size, 1, none⟩ = some (.int .i64 cu) ∧ w'.cell? ⟨w8.heap.size, 2, none⟩ = some (.slice p1 n1 q1) ∧ w'.cell? ⟨w8.heap.size, 3, none⟩ = some (.slice p2 n2 q2) ∧ w'.cell? ⟨w8.heap.size, 4, none⟩ = some (.slice p3 n3 q3) ∧ w'.cell? ⟨w8.heap.size, 5, none⟩ = some (.slice p4 n4 q4)) ∧ w'.cell? ⟨w.heap.size, 0, none⟩ = some (.int .i64 ph) ∧ w'.cell? ⟨w.heap.size, 1, none⟩ = some (.int .i64 cu) ∧ w'.cell? ⟨w.heap.size, 2, none⟩ = some (.slice a1 n1 c1) ∧ w'.cell? ⟨w.heap.size, 3, none⟩ = some (.slice a2 n2 c2) ∧ w'.cell? ⟨w.heap.size, 4, none⟩ = some (.slice a3 n3 c3) ∧ w'.cell? ⟨w.heap.size, 5, none⟩ = some (.slice a4 n4 c4))
        (first | with_reducible exact ⟨⟨y0, y1, y2, y3, y4, y5⟩, x0, x1, x2, x3, x4, x5⟩ | with_reducible exact HC8.out _ hbx | with_reducible exact HC8.out _ hbx.drew)
        (first
          | (go_at_call 14; refine ((TA.t (by assumption)).c _ (by first | exact HBR.out _ hbx | exact HBR.out _ hbx.drew)).mono ?_; rintro e w11 ⟨g1, g2, g3, g4, l1, l2, l3, l4, us7, rfl, h7⟩; have hbx : Below w10.heap.size w10 w11 := (by first | exact below_after_of hbx h7.below | exact below_after_of hbx.drew h7.below))
          | (go_at_call 16; refine (HEA.c _ _ _ _ _ _ _ _ _ _ _ _ _ _ _ _ _ (HR8.out _ hbx) h7.sts).mono ?_; rintro e w12 ⟨rfl, hb8⟩; have hbx : Below w10.heap.size w10 w12 := below_after_of hbx hb8; clear hb8))
      clear y0 y1 y2 y3 y4 y5 x0 x1 x2 x3 x4 x5 h7
      obtain ⟨⟨y0, y1, y2, y3, y4, y5⟩, x0, x1, x2, x3, x4, x5⟩ := HC9.out _ hbx
      go_wp2_with fail
      go_region_held3 (fun w' => (w'.cell? ⟨w9.heap.size, 0, none⟩ = some (.int .i64 ph') ∧ w'.cell? ⟨w9.heap.size, 1, none⟩ = some (.int .i64 cu') ∧ w'.cell? ⟨w9.heap.size, 2, none⟩ = some (.slice r1 m1 s1) ∧ w'.cell? ⟨w9.heap.size, 3, none⟩ = some (.slice r2 m2 s2) ∧ w'.cell? ⟨w9.heap.size, 4, none⟩ = some (.slice r3 m3 s3) ∧ w'.cell? ⟨w9.heap.size, 5, none⟩ = some (.slice r4 m4 s4)) ∧ w'.cell? ⟨w.heap.size + 1, 0, none⟩ = some (.int .i64 ph') ∧ w'.cell? ⟨w.heap.size + 1, 1, none⟩ = some (.int .i64 cu') ∧ w'.cell? ⟨w.heap.size + 1, 2, none⟩ = some (.slice b1 m1 k1) ∧ w'.cell? ⟨w.heap.size + 1, 3, none⟩ = some (.slice b2 m2 k2) ∧ w'.cell? ⟨w.heap.size + 1, 4, none⟩ = some (.slice b3 m3 k3) ∧ w'.cell? ⟨w.heap.size + 1, 5, none⟩ = some (.slice b4 m4 k4))
        (first | with_reducible exact ⟨⟨y0, y1, y2, y3, y4, y5⟩, x0, x1, x2, x3, x4, x5⟩ | with_reducible exact HC9.out _ hbx | with_reducible exact HC9.out _ hbx.drew)
        (first
          | (go_at_call 14; refine ((TB.t (by assumption)).c _ (by first | exact HBR.out _ hbx | exact HBR.out _ hbx.drew)).mono ?_; rintro e w13 ⟨g1, g2, g3, g4, l1, l2, l3, l4, us7, rfl, h7⟩; have hbx : Below w10.heap.size w10 w13 := (by first | exact below_after_of hbx h7.below | exact below_after_of hbx.drew h7.below))
          | (go_at_call 16; refine (HEB.c _ _ _ _ _ _ _ _ _ _ _ _ _ _ _ _ _ (HR9.out _ hbx) h7.sts).mono ?_; rintro e w14 ⟨rfl, hb8⟩; have hbx : Below w10.heap.size w10 w14 := below_after_of hbx hb8; clear hb8))
      have hBE := HBR.out _ hbx
      clear y0 y1 y2 y3 y4 y5 x0 x1 x2 x3 x4 x5 h7 HC8 HC9
      go_wp2
      go_ret
      exact ⟨rfl, hBE⟩
end U
end Go.Proofs.Ytdchnanihceeeaa
