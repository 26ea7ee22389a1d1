/- The law on CloseEpoch, walked: true, and nothing that was there has turned. -/
import Derived.Test.YtjhmfaibpnagcaaGreatGImW
import Derived.Test.YtjhmfaibpnagcaaGreatGCl3
import Derived.Test.YtjhmfaibpnagcaaGreatGCl1
namespace Go.Proofs.YtjhmfaibpnagcaaGreat
open Go.RowKit
namespace U
structure SpCloseEpoch (s t : St) (ph cu q tp tc : Int) (n1 n2 n3 n4 m1 m2 m3 m4 : Nat) : Prop where
  c : ∀ (w' : World) (lo hi : Nat) (a1 a2 a3 a4 : Option Addr) (c1 c2 c3 c4 : Nat) (us0 : List Value), StOwn lo hi w' (sv a1 a2 a3 a4 n1 n2 n3 n4 c1 c2 c3 c4) us0 s → Calls Tryz.prog 7 #[.agg #[.int .i64 ph, .int .i64 cu, .slice a1 n1 c1, .slice a2 n2 c2, .slice a3 n3 c3, .slice a4 n4 c4]] w' fun e w'' => ∃ b1 b2 b3 b4 d1 d2 d3 d4 us, e = .returned (.agg #[.int .i64 q, .int .i64 tp, .int .i64 tc, .slice b1 m1 d1, .slice b2 m2 d2, .slice b3 m3 d3, .slice b4 m4 d4]) ∧ Below w'.heap.size w' w'' ∧ StOwn w'.heap.size w''.heap.size w'' (sv b1 b2 b3 b4 m1 m2 m3 m4 d1 d2 d3 d4) us t
structure ImCloseEpoch (s t : St) (ph cu q tp tc : Int) (n1 n2 n3 n4 m1 m2 m3 m4 : Nat) : Prop where
  c : ∀ (w' : World) (a1 a2 a3 a4 : Option Addr) (c1 c2 c3 c4 : Nat), Sts w' (sv a1 a2 a3 a4 n1 n2 n3 n4 c1 c2 c3 c4) s → Calls Tryz.prog 9 #[.agg #[.int .i64 ph, .int .i64 cu, .slice a1 n1 c1, .slice a2 n2 c2, .slice a3 n3 c3, .slice a4 n4 c4]] w' fun e w'' => ∃ b1 b2 b3 b4 d1 d2 d3 d4 us, e = .returned (.agg #[.int .i64 q, .int .i64 tp, .int .i64 tc, .slice b1 m1 d1, .slice b2 m2 d2, .slice b3 m3 d3, .slice b4 m4 d4]) ∧ Below w'.heap.size w' w'' ∧ StOwn w'.heap.size w''.heap.size w'' (sv b1 b2 b3 b4 m1 m2 m3 m4 d1 d2 d3 d4) us t
theorem ans_CloseEpoch {w' w'' : World} {q : Int} {t : St} {e : Ending} (h : StAns w' q t e w'') : ∃ b1 b2 b3 b4 d1 d2 d3 d4 us, e = .returned (.agg #[.int .i64 q, .int .i64 t.ph, .int .i64 t.cu, .slice b1 t.d.length d1, .slice b2 t.n.length d2, .slice b3 t.h.length d3, .slice b4 t.p.length d4]) ∧ Below w'.heap.size w' w'' ∧ StOwn w'.heap.size w''.heap.size w'' (sv b1 b2 b3 b4 t.d.length t.n.length t.h.length t.p.length d1 d2 d3 d4) us t := by
  obtain ⟨u, us, rfl, h1, h2⟩ := h
  obtain ⟨b1, b2, b3, b4, d1, d2, d3, d4, rfl⟩ := h2.sts.four
  exact ⟨b1, b2, b3, b4, d1, d2, d3, d4, us, rfl, h1, h2⟩
set_option maxRecDepth 100000 in
set_option maxHeartbeats 4000000 in
theorem fnExactCloseEpoch_walk (s : St) (v : Sv) (w : World) (hv : Sts w v s) (hA : StA s) :
    Calls Tryz.prog 3 #[stV s v] w fun e w' => e = .returned (.bool true) ∧ Below w.heap.size w w' := by
  obtain ⟨W, hW⟩ : ∃ W, W = w.alloc (stC s v 29) := ⟨_, rfl⟩
  have hBW : Below w.heap.size w W := by rw [hW]; exact one_new _
  have hZ := szState_any s v 1048576 W (hv.below hBW) hA (by omega)
  have hok := fun h => szS_ok (s := s) (z := 1048576) (by omega) (by omega) h
  obtain ⟨a1, a2, a3, a4, c1, c2, c3, c4, rfl⟩ := hv.four
  unfold stC at hW
  unfold stV at hZ ⊢
  unfold sv at hW hZ ⊢
  dsimp only at hW hZ ⊢
  generalize szS s 1048576 = z at *
  by_cases h : z < 0
  · generalize s.ph = ph at *
    generalize s.cu = cu at *
    generalize s.d.length = n1 at *
    generalize s.n.length = n2 at *
    generalize s.h.length = n3 at *
    generalize s.p.length = n4 at *
    have HW : Hid (w.alloc (.cells #[.int .i64 ph, .int .i64 cu, .slice a1 n1 c1, .slice a2 n2 c2, .slice a3 n3 c3, .slice a4 n4 c4] 29) = W) := hW.symm
    clear hv hA hok hW
    go_enter Tryz.func3, Tryz.ntmps3
    go_wp2_with fail
    rw [HW.out]
    refine hZ.mono ?_
    rintro e w1 ⟨rfl, hb1⟩
    clear hZ
    go_wp2
    go_ret
    exact ⟨rfl, below_after_of hBW hb1⟩
  · obtain ⟨hB, -⟩ := hok h
    obtain ⟨R, hR⟩ := rt_ex
    obtain ⟨q, hq⟩ : ∃ q, q = clF R s := ⟨_, rfl⟩
    obtain ⟨t, ht⟩ : ∃ t, t = (if clF R s = 0 then clT R s else stZ) := ⟨_, rfl⟩
    have hBt : StB t := by
      rw [ht]
      split
      · rename_i h0
        exact clT_stb (clF_zero h0).1 hB
      · exact stZ_stb
    have HS : SpCloseEpoch s t s.ph s.cu q t.ph t.cu s.d.length s.n.length s.h.length s.p.length t.d.length t.n.length t.h.length t.p.length := ⟨fun w' lo hi a1 a2 a3 a4 c1 c2 c3 c4 us0 ho => by
      have := specCloseEpoch_any R hR lo hi s _ us0 w' ho hB
      rw [← ht, ← hq] at this
      unfold stV sv at this
      exact this.mono fun e w'' h => ans_CloseEpoch h⟩
    have HI : ImCloseEpoch s t s.ph s.cu q t.ph t.cu s.d.length s.n.length s.h.length s.p.length t.d.length t.n.length t.h.length t.p.length := ⟨fun w' a1 a2 a3 a4 c1 c2 c3 c4 ho => by
      have := implCloseEpoch_any R hR s _ w' ho hB
      rw [← ht, ← hq] at this
      unfold stV sv at this
      exact this.mono fun e w'' h => ans_CloseEpoch h⟩
    have hnn := hne_all
    have HE := ErR.mk' hBt q
    have HMR := MrR.mk' hBt q
    have HHR := HrR.mk' hBt q
    have HM := MsR.mk' hB
    have HT := ToS.mk' hv hB
    have HEQ := EqS.mk' hB
    have hK1 : ¬ ((ks4 s 1 : Nat) : Int) < 0 := by omega
    have hK2 : ¬ ((ks4 t 1 : Nat) : Int) < 0 := by omega
    have hX0 : W.heap[w.heap.size]? = some (.cells #[.int .i64 s.ph, .int .i64 s.cu, .slice a1 s.d.length c1, .slice a2 s.n.length c2, .slice a3 s.h.length c3, .slice a4 s.p.length c4] 29) := by rw [hW]; exact heap_alloc_new w _
    clear hq ht hR hBt
    generalize ks4 s 1 = K1 at *
    generalize ks4 t 1 = K2 at *
    generalize mkSt t 1 = mt at *
    generalize t.ph = tp at *
    generalize t.cu = tc at *
    generalize t.d.length = m1 at *
    generalize t.n.length = m2 at *
    generalize t.h.length = m3 at *
    generalize t.p.length = m4 at *
    generalize s.ph = ph at *
    generalize s.cu = cu at *
    generalize s.d.length = n1 at *
    generalize s.n.length = n2 at *
    generalize s.h.length = n3 at *
    generalize s.p.length = n4 at *
    have HW : Hid (w.alloc (.cells #[.int .i64 ph, .int .i64 cu, .slice a1 n1 c1, .slice a2 n2 c2, .slice a3 n3 c3, .slice a4 n4 c4] 29) = W) := hW.symm
    have hLW : w.heap.size < W.heap.size := (Array.getElem?_eq_some_iff.1 hX0).1
    have HX : Hid (∀ w', Below W.heap.size W w' → w'.heap[w.heap.size]? = some (.cells #[.int .i64 ph, .int .i64 cu, .slice a1 n1 c1, .slice a2 n2 c2, .slice a3 n3 c3, .slice a4 n4 c4] 29)) := fun w' hb => (hb.block _ hLW).trans hX0
    have HBW : Hid (∀ w', Below W.heap.size W w' → Below w.heap.size w w') := fun w' hb => below_after_of hBW hb
    clear hv hA hok hW hB hX0 hBW
    go_enter Tryz.func3, Tryz.ntmps3
    go_wp2_with fail
    rw [HW.out]
    refine hZ.mono ?_
    rintro e w1 ⟨rfl, hbr⟩
    obtain ⟨⟨x0, x1, x2, x3, x4, x5⟩, -⟩ := six_cellsS (HX.out _ hbr)
    clear hZ HW
    go_wp2_with fail
    refine (HT.c _ (HBW.out _ hbr)).mono ?_
    rintro e w2 ⟨b1, b2, b3, b4, d1, d2, d3, d4, us2, rfl, h2⟩
    have hbr : Below W.heap.size W w2 := below_after_of hbr h2.below
    have o2 := h2.own
    have hlw2 : W.heap.size ≤ w2.heap.size := hbr.size
    clear h2 x0 x1 x2 x3 x4 x5
    go_wp2_with fail
    refine (HS.c _ _ _ b1 b2 b3 b4 d1 d2 d3 d4 us2 o2).mono ?_
    rintro e w3 ⟨p1, p2, p3, p4, r1, r2, r3, r4, us3, rfl, hb3, o3⟩
    have hbr : Below W.heap.size W w3 := below_after_of hbr hb3
    clear HS o2
    obtain ⟨W3, hW3⟩ : ∃ W3, W3 = w3.alloc (.cells #[.int .i64 q, .int .i64 tp, .int .i64 tc, .slice p1 m1 r1, .slice p2 m2 r2, .slice p3 m3 r3, .slice p4 m4 r4] 40) := ⟨_, rfl⟩
    have HW3 : Hid (w3.alloc (.cells #[.int .i64 q, .int .i64 tp, .int .i64 tc, .slice p1 m1 r1, .slice p2 m2 r2, .slice p3 m3 r3, .slice p4 m4 r4] 40) = W3) := hW3.symm
    have hP3 : W3.heap[w3.heap.size]? = some (.cells #[.int .i64 q, .int .i64 tp, .int .i64 tc, .slice p1 m1 r1, .slice p2 m2 r2, .slice p3 m3 r3, .slice p4 m4 r4] 40) := by rw [hW3]; exact heap_alloc_new w3 _
    have hb33 : Below w3.heap.size w3 W3 := by rw [hW3]; exact one_new _
    have o3 := o3.below hb33
    have hbr : Below W.heap.size W W3 := below_after_of hbr hb33
    have hl3 : w3.heap.size < W3.heap.size := (Array.getElem?_eq_some_iff.1 hP3).1
    have hl23 : w2.heap.size ≤ w3.heap.size := hb3.size
    clear hb33 hb3 hW3
    go_upto_region 6 with fail
    rw [HW3.out]
    clear HW3
    obtain ⟨⟨x0, x1, x2, x3, x4, x5⟩, -⟩ := six_cellsS (HX.out _ hbr)
    go_wp2_with fail
    refine (HT.c _ (HBW.out _ hbr)).mono ?_
    rintro e w4 ⟨e1, e2, e3, e4, f1, f2, f3, f4, us4, rfl, h4⟩
    clear x0 x1 x2 x3 x4 x5
    obtain ⟨W5, hW5⟩ : ∃ W5, W5 = w4.alloc (.cells #[.int .i64 ph, .int .i64 cu, .slice e1 n1 f1, .slice e2 n2 f2, .slice e3 n3 f3, .slice e4 n4 f4] 38) := ⟨_, rfl⟩
    have HW5 : Hid (w4.alloc (.cells #[.int .i64 ph, .int .i64 cu, .slice e1 n1 f1, .slice e2 n2 f2, .slice e3 n3 f3, .slice e4 n4 f4] 38) = W5) := hW5.symm
    have hP5 : W5.heap[w4.heap.size]? = some (.cells #[.int .i64 ph, .int .i64 cu, .slice e1 n1 f1, .slice e2 n2 f2, .slice e3 n3 f3, .slice e4 n4 f4] 38) := by rw [hW5]; exact heap_alloc_new w4 _
    have hb5 : Below w4.heap.size w4 W5 := by rw [hW5]; exact one_new _
    have hb35 : Below W3.heap.size W3 W5 := below_after_of h4.below hb5
    have o4 := h4.own.below hb5
    have o3 := o3.below hb35
    have hP3 := (hb35.block _ hl3).trans hP3
    have hbr : Below W.heap.size W W5 := below_after_of hbr hb35
    have hl5 : w4.heap.size < W5.heap.size := (Array.getElem?_eq_some_iff.1 hP5).1
    have hl4 : W3.heap.size ≤ w4.heap.size := h4.below.size
    clear h4 hb5 hb35 hW5
    go_upto_region 7 with fail
    rw [HW5.out]
    clear HW5
    obtain ⟨⟨x0, x1, x2, x3, x4, x5⟩, -⟩ := six_cellsS hP5
    have HP3 : Hid (W5.heap[w3.heap.size]? = some (.cells #[.int .i64 q, .int .i64 tp, .int .i64 tc, .slice p1 m1 r1, .slice p2 m2 r2, .slice p3 m3 r3, .slice p4 m4 r4] 40)) := hP3
    have HP5 : Hid (W5.heap[w4.heap.size]? = some (.cells #[.int .i64 ph, .int .i64 cu, .slice e1 n1 f1, .slice e2 n2 f2, .slice e3 n3 f3, .slice e4 n4 f4] 38)) := hP5
    clear hP3 hP5
    go_wp2_with fail
    refine (HI.c _ e1 e2 e3 e4 f1 f2 f3 f4 o4.sts).mono ?_
    rintro e w6 ⟨g1, g2, g3, g4, k1, k2, k3, k4, us6, rfl, hb6, o6⟩
    clear x0 x1 x2 x3 x4 x5
    obtain ⟨W6, hW6⟩ : ∃ W6, W6 = w6.alloc (.cells #[.int .i64 q, .int .i64 tp, .int .i64 tc, .slice g1 m1 k1, .slice g2 m2 k2, .slice g3 m3 k3, .slice g4 m4 k4] 40) := ⟨_, rfl⟩
    have HW6 : Hid (w6.alloc (.cells #[.int .i64 q, .int .i64 tp, .int .i64 tc, .slice g1 m1 k1, .slice g2 m2 k2, .slice g3 m3 k3, .slice g4 m4 k4] 40) = W6) := hW6.symm
    have hP6 : W6.heap[w6.heap.size]? = some (.cells #[.int .i64 q, .int .i64 tp, .int .i64 tc, .slice g1 m1 k1, .slice g2 m2 k2, .slice g3 m3 k3, .slice g4 m4 k4] 40) := by rw [hW6]; exact heap_alloc_new w6 _
    have hb66 : Below w6.heap.size w6 W6 := by rw [hW6]; exact one_new _
    have hb56 : Below W5.heap.size W5 W6 := below_after_of hb6 hb66
    have o6 := o6.below hb66
    have o4 := o4.below hb56
    have o3 := o3.below hb56
    have hP3 := (hb56.block _ (by omega)).trans HP3.out
    have hP5 := (hb56.block _ hl5).trans HP5.out
    have hbr : Below W.heap.size W W6 := below_after_of hbr hb56
    have hl6 : w6.heap.size < W6.heap.size := (Array.getElem?_eq_some_iff.1 hP6).1
    have hl56 : W5.heap.size ≤ w6.heap.size := hb6.size
    have hPX := HX.out _ hbr
    have hlr : W.heap.size ≤ w2.heap.size := hlw2
    have HK : Hid (∀ w', Kp W3.heap.size w4.heap.size W5.heap.size w6.heap.size W6 w' → w'.heap[w.heap.size]? = some (.cells #[.int .i64 ph, .int .i64 cu, .slice a1 n1 c1, .slice a2 n2 c2, .slice a3 n3 c3, .slice a4 n4 c4] 29) ∧ w'.heap[w3.heap.size]? = some (.cells #[.int .i64 q, .int .i64 tp, .int .i64 tc, .slice p1 m1 r1, .slice p2 m2 r2, .slice p3 m3 r3, .slice p4 m4 r4] 40) ∧ w'.heap[w4.heap.size]? = some (.cells #[.int .i64 ph, .int .i64 cu, .slice e1 n1 f1, .slice e2 n2 f2, .slice e3 n3 f3, .slice e4 n4 f4] 38) ∧ w'.heap[w6.heap.size]? = some (.cells #[.int .i64 q, .int .i64 tp, .int .i64 tc, .slice g1 m1 k1, .slice g2 m2 k2, .slice g3 m3 k3, .slice g4 m4 k4] 40)) := (fun w' k => ⟨(k.block _ (by omega) (by omega) (by omega)).trans hPX, (k.block _ (by omega) (by omega) (by omega)).trans hP3, (k.block _ (by omega) (by omega) (by omega)).trans hP5, (k.block _ (by omega) (by omega) (by omega)).trans hP6⟩ : ∀ w', Kp W3.heap.size w4.heap.size W5.heap.size w6.heap.size W6 w' → w'.heap[w.heap.size]? = some (.cells #[.int .i64 ph, .int .i64 cu, .slice a1 n1 c1, .slice a2 n2 c2, .slice a3 n3 c3, .slice a4 n4 c4] 29) ∧ w'.heap[w3.heap.size]? = some (.cells #[.int .i64 q, .int .i64 tp, .int .i64 tc, .slice p1 m1 r1, .slice p2 m2 r2, .slice p3 m3 r3, .slice p4 m4 r4] 40) ∧ w'.heap[w4.heap.size]? = some (.cells #[.int .i64 ph, .int .i64 cu, .slice e1 n1 f1, .slice e2 n2 f2, .slice e3 n3 f3, .slice e4 n4 f4] 38) ∧ w'.heap[w6.heap.size]? = some (.cells #[.int .i64 q, .int .i64 tp, .int .i64 tc, .slice g1 m1 k1, .slice g2 m2 k2, .slice g3 m3 k3, .slice g4 m4 k4] 40))
    have HKB : Hid (∀ w', Kp W3.heap.size w4.heap.size W5.heap.size w6.heap.size W6 w' → Below w.heap.size w w') := (fun w' k => k.to (HBW.out _ hbr) (by omega) (by omega) : ∀ w', Kp W3.heap.size w4.heap.size W5.heap.size w6.heap.size W6 w' → Below w.heap.size w w')
    have HO3 : Hid (∀ w', Kp W3.heap.size w4.heap.size W5.heap.size w6.heap.size W6 w' → Sts w' (sv p1 p2 p3 p4 m1 m2 m3 m4 r1 r2 r3 r4) t) := (fun w' k => (k.own o3 (by omega) (by omega)).sts : ∀ w', Kp W3.heap.size w4.heap.size W5.heap.size w6.heap.size W6 w' → Sts w' (sv p1 p2 p3 p4 m1 m2 m3 m4 r1 r2 r3 r4) t)
    have HL46 : Hid (w4.heap.size ≤ W5.heap.size ∧ w4.heap.size ≤ W6.heap.size ∧ w6.heap.size ≤ W6.heap.size) := (by omega : w4.heap.size ≤ W5.heap.size ∧ w4.heap.size ≤ W6.heap.size ∧ w6.heap.size ≤ W6.heap.size)
    have kp := Kp.refl W3.heap.size w4.heap.size W5.heap.size w6.heap.size W6
    clear hb56 hb66 hb6 hW6 hP3 hP5 hP6 hPX o3 HX HBW hbr HP3 HP5 hl3 hl4 hl5 hl6 hl23 hl56 hlr hLW hlw2
    go_upto_region 8 with fail
    rw [HW6.out]
    clear HW6
    obtain ⟨-, kA, -, kB⟩ := HK.out _ kp
    obtain ⟨⟨y0, y1, y2, y3, y4, y5, y6⟩, -⟩ := seven_cellsR kA
    obtain ⟨⟨z0, z1, z2, z3, z4, z5, z6⟩, -⟩ := seven_cellsR kB
    clear kA kB
    go_wp2_with fail
    refine (HE.c _ g1 g2 g3 g4 p1 p2 p3 p4 k1 k2 k3 k4 r1 r2 r3 r4 o6.sts (HO3.out _ kp)).mono ?_
    rintro e w7 ⟨rfl, hb7⟩
    have kp := kp.below hb7
    have o4 := o4.below hb7
    have o6 := o6.below hb7
    have HL7 : Hid (w4.heap.size ≤ w7.heap.size ∧ w6.heap.size ≤ w7.heap.size) := ⟨Nat.le_trans HL46.out.2.1 hb7.size, Nat.le_trans HL46.out.2.2 hb7.size⟩
    clear hb7 y0 y1 y2 y3 y4 y5 y6 z0 z1 z2 z3 z4 z5 z6
    obtain ⟨kX, -, kY, -⟩ := HK.out _ kp
    obtain ⟨⟨x0, x1, x2, x3, x4, x5⟩, -⟩ := six_cellsS kX
    obtain ⟨⟨y0, y1, y2, y3, y4, y5⟩, -⟩ := six_cellsS kY
    clear kX kY
    have HC2 : Hid (∀ w', Below w7.heap.size w7 w' → (w'.cell? ⟨w4.heap.size, 0, none⟩ = some (.int .i64 ph) ∧ w'.cell? ⟨w4.heap.size, 1, none⟩ = some (.int .i64 cu) ∧ w'.cell? ⟨w4.heap.size, 2, none⟩ = some (.slice e1 n1 f1) ∧ w'.cell? ⟨w4.heap.size, 3, none⟩ = some (.slice e2 n2 f2) ∧ w'.cell? ⟨w4.heap.size, 4, none⟩ = some (.slice e3 n3 f3) ∧ w'.cell? ⟨w4.heap.size, 5, none⟩ = some (.slice e4 n4 f4)) ∧ w'.cell? ⟨w.heap.size, 0, none⟩ = some (.int .i64 ph) ∧ w'.cell? ⟨w.heap.size, 1, none⟩ = some (.int .i64 cu) ∧ w'.cell? ⟨w.heap.size, 2, none⟩ = some (.slice a1 n1 c1) ∧ w'.cell? ⟨w.heap.size, 3, none⟩ = some (.slice a2 n2 c2) ∧ w'.cell? ⟨w.heap.size, 4, none⟩ = some (.slice a3 n3 c3) ∧ w'.cell? ⟨w.heap.size, 5, none⟩ = some (.slice a4 n4 c4)) := (fun w' hb => ⟨(six_cellsS (HK.out _ (kp.below hb)).2.2.1).1, (six_cellsS (HK.out _ (kp.below hb)).1).1⟩ : ∀ w', Below w7.heap.size w7 w' → (w'.cell? ⟨w4.heap.size, 0, none⟩ = some (.int .i64 ph) ∧ w'.cell? ⟨w4.heap.size, 1, none⟩ = some (.int .i64 cu) ∧ w'.cell? ⟨w4.heap.size, 2, none⟩ = some (.slice e1 n1 f1) ∧ w'.cell? ⟨w4.heap.size, 3, none⟩ = some (.slice e2 n2 f2) ∧ w'.cell? ⟨w4.heap.size, 4, none⟩ = some (.slice e3 n3 f3) ∧ w'.cell? ⟨w4.heap.size, 5, none⟩ = some (.slice e4 n4 f4)) ∧ w'.cell? ⟨w.heap.size, 0, none⟩ = some (.int .i64 ph) ∧ w'.cell? ⟨w.heap.size, 1, none⟩ = some (.int .i64 cu) ∧ w'.cell? ⟨w.heap.size, 2, none⟩ = some (.slice a1 n1 c1) ∧ w'.cell? ⟨w.heap.size, 3, none⟩ = some (.slice a2 n2 c2) ∧ w'.cell? ⟨w.heap.size, 4, none⟩ = some (.slice a3 n3 c3) ∧ w'.cell? ⟨w.heap.size, 5, none⟩ = some (.slice a4 n4 c4))
    have HR6 : Hid (∀ w', Below w7.heap.size w7 w' → Sts w' (sv e1 e2 e3 e4 n1 n2 n3 n4 f1 f2 f3 f4) s) := fun w' hb => (o4.below hb).sts
    have hbx : Below w7.heap.size w7 w7 := Below.refl _ _
    have HBR : Hid (∀ w', Below w7.heap.size w7 w' → Below w.heap.size w w') := fun w' hb => HKB.out _ (kp.below hb)
    have HKP : Hid (Kp W3.heap.size w4.heap.size W5.heap.size w6.heap.size W6 w7) := kp
    have HO4 : Hid (StOwn W3.heap.size w4.heap.size w7 (sv e1 e2 e3 e4 n1 n2 n3 n4 f1 f2 f3 f4) us4 s) := o4
    have HO6 : Hid (StOwn W5.heap.size w6.heap.size w7 (sv g1 g2 g3 g4 m1 m2 m3 m4 k1 k2 k3 k4) us6 t) := o6
    clear kp o4 o6
    go_wp2_with fail
    go_region_held3 (fun w' => (w'.cell? ⟨w4.heap.size, 0, none⟩ = some (.int .i64 ph) ∧ w'.cell? ⟨w4.heap.size, 1, none⟩ = some (.int .i64 cu) ∧ w'.cell? ⟨w4.heap.size, 2, none⟩ = some (.slice e1 n1 f1) ∧ w'.cell? ⟨w4.heap.size, 3, none⟩ = some (.slice e2 n2 f2) ∧ w'.cell? ⟨w4.heap.size, 4, none⟩ = some (.slice e3 n3 f3) ∧ w'.cell? ⟨w4.heap.size, 5, none⟩ = some (.slice e4 n4 f4)) ∧ w'.cell? ⟨w.heap.size, 0, none⟩ = some (.int .i64 ph) ∧ w'.cell? ⟨w.heap.size, 1, none⟩ = some (.int .i64 cu) ∧ w'.cell? ⟨w.heap.size, 2, none⟩ = some (.slice a1 n1 c1) ∧ w'.cell? ⟨w.heap.size, 3, none⟩ = some (.slice a2 n2 c2) ∧ w'.cell? ⟨w.heap.size, 4, none⟩ = some (.slice a3 n3 c3) ∧ w'.cell? ⟨w.heap.size, 5, none⟩ = some (.slice a4 n4 c4))
      (first | with_reducible exact ⟨⟨y0, y1, y2, y3, y4, y5⟩, x0, x1, x2, x3, x4, x5⟩ | with_reducible exact HC2.out _ hbx | with_reducible exact HC2.out _ hbx.drew)
      (first
        | (go_at_call 8; refine (ToS.c (by assumption) _ (by first | exact HBR.out _ hbx | exact HBR.out _ hbx.drew)).mono ?_; rintro e w8 ⟨g1', g2', g3', g4', k1', k2', k3', k4', us8, rfl, h8⟩; have hbx : Below w7.heap.size w7 w8 := (by first | exact below_after_of hbx h8.below | exact below_after_of hbx.drew h8.below))
        | (go_at_call 11; refine (EqS.c (by assumption) _ _ _ _ _ _ _ _ _ _ _ _ _ _ _ _ _ (HR6.out _ hbx) h8.sts).mono ?_; rintro e w9 ⟨rfl, hb9⟩; have hbx : Below w7.heap.size w7 w9 := below_after_of hbx hb9))
    have kp := HKP.out.below hbx
    have o4 := HO4.out.below hbx
    have o6 := HO6.out.below hbx
    have hL9 : w4.heap.size ≤ w9.heap.size := Nat.le_trans HL7.out.1 hbx.size
    have HL6 : Hid (w6.heap.size ≤ w9.heap.size) := Nat.le_trans HL7.out.2 hbx.size
    clear x0 x1 x2 x3 x4 x5 y0 y1 y2 y3 y4 y5 HC2 HR6 hbx HBR HKP HO4 HO6 HL7 h8 hb9 HEQ
    obtain ⟨-, -, kY, -⟩ := HK.out _ kp
    obtain ⟨⟨y0, y1, y2, y3, y4, y5⟩, -⟩ := six_cellsS kY
    clear kY
    go_wp2_with fail
    refine (HM.c _ _ _ e1 e2 e3 e4 f1 f2 f3 f4 us4 o4 hL9).mono ?_
    rintro e w10 ⟨rfl, ht10⟩
    have kp := kp.t1 ht10
    have o6 := o6.tch ht10 HL46.out.1
    have HL10 : Hid (w6.heap.size ≤ w10.heap.size) := Nat.le_trans HL6.out ht10.size
    clear ht10 o4 hL9 HL6 HM y0 y1 y2 y3 y4 y5
    obtain ⟨-, kA, -, kB⟩ := HK.out _ kp
    obtain ⟨⟨y0, y1, y2, y3, y4, y5, y6⟩, -⟩ := seven_cellsR kA
    obtain ⟨⟨z0, z1, z2, z3, z4, z5, z6⟩, -⟩ := seven_cellsR kB
    clear kA kB
    go_wp2_with fail
    refine (HE.c _ g1 g2 g3 g4 p1 p2 p3 p4 k1 k2 k3 k4 r1 r2 r3 r4 o6.sts (HO3.out _ kp)).mono ?_
    rintro e w11 ⟨rfl, hb11⟩
    have kp := kp.below hb11
    have o6 := o6.below hb11
    have hL11 : w6.heap.size ≤ w11.heap.size := Nat.le_trans HL10.out hb11.size
    clear hb11 HL10 y0 y1 y2 y3 y4 y5 y6 z0 z1 z2 z3 z4 z5 z6
    obtain ⟨-, -, -, kB⟩ := HK.out _ kp
    obtain ⟨⟨z0, z1, z2, z3, z4, z5, z6⟩, -⟩ := seven_cellsR kB
    clear kB
    go_wp2_with fail
    refine (HMR.c _ _ _ g1 g2 g3 g4 k1 k2 k3 k4 us6 o6 hL11).mono ?_
    rintro e w12 ⟨rfl, ht12, r12⟩
    have kp := kp.t2 ht12
    clear ht12 o6 hL11 HMR z0 z1 z2 z3 z4 z5 z6
    obtain ⟨-, -, -, kB⟩ := HK.out _ kp
    obtain ⟨⟨z0, z1, z2, z3, z4, z5, z6⟩, -⟩ := seven_cellsR kB
    clear kB
    go_wp2_with fail
    refine (HHR.c _ g1 g2 g3 g4 k1 k2 k3 k4 r12).mono ?_
    rintro e w13 ⟨rfl, hb13⟩
    have kp := kp.below hb13
    have r13 := r12.below hb13
    clear hb13 r12 z0 z1 z2 z3 z4 z5 z6
    obtain ⟨kX, -, -, -⟩ := HK.out _ kp
    obtain ⟨⟨x0, x1, x2, x3, x4, x5⟩, -⟩ := six_cellsS kX
    clear kX
    go_wp2_with fail
    refine (HT.c _ (HKB.out _ kp)).mono ?_
    rintro e w14 ⟨i1, i2, i3, i4, j1, j2, j3, j4, us14, rfl, h14⟩
    have kp := kp.below h14.below
    have r14 := r13.below h14.below
    have s14 := h14.sts
    clear h14 r13 x0 x1 x2 x3 x4 x5
    go_wp2_with fail
    refine (HI.c _ _ _ _ _ _ _ _ _ s14).mono ?_
    rintro e w15 ⟨l1, l2, l3, l4, o1, o2, o3, o4, us15, rfl, hb15, o15⟩
    have kp := kp.below hb15
    have r15 := r14.below hb15
    clear hb15 r14 s14
    obtain ⟨W15, hW15⟩ : ∃ W15, W15 = w15.alloc (.cells #[.int .i64 q, .int .i64 tp, .int .i64 tc, .slice l1 m1 o1, .slice l2 m2 o2, .slice l3 m3 o3, .slice l4 m4 o4] 40) := ⟨_, rfl⟩
    have HW15 : Hid (w15.alloc (.cells #[.int .i64 q, .int .i64 tp, .int .i64 tc, .slice l1 m1 o1, .slice l2 m2 o2, .slice l3 m3 o3, .slice l4 m4 o4] 40) = W15) := hW15.symm
    have hP15 : W15.heap[w15.heap.size]? = some (.cells #[.int .i64 q, .int .i64 tp, .int .i64 tc, .slice l1 m1 o1, .slice l2 m2 o2, .slice l3 m3 o3, .slice l4 m4 o4] 40) := by rw [hW15]; exact heap_alloc_new w15 _
    have hbW : Below w15.heap.size w15 W15 := by rw [hW15]; exact one_new _
    have kp := kp.below hbW
    have r15 := r15.below hbW
    have o15 := o15.below hbW
    clear hbW hW15
    go_upto_region 25 with fail
    rw [HW15.out]
    clear HW15
    obtain ⟨-, kA, -, -⟩ := HK.out _ kp
    obtain ⟨⟨y0, y1, y2, y3, y4, y5, y6⟩, -⟩ := seven_cellsR kA
    obtain ⟨⟨z0, z1, z2, z3, z4, z5, z6⟩, -⟩ := seven_cellsR hP15
    clear kA hP15
    go_wp2_with fail
    refine (HE.c _ _ _ _ _ _ _ _ _ _ _ _ _ _ _ _ _ o15.sts (HO3.out _ kp)).mono ?_
    rintro e w16 ⟨rfl, hb16⟩
    have kp := kp.below hb16
    have r16 := r15.below hb16
    clear hb16 r15 o15 y0 y1 y2 y3 y4 y5 y6 z0 z1 z2 z3 z4 z5 z6
    obtain ⟨-, -, -, kB⟩ := HK.out _ kp
    obtain ⟨⟨z0, z1, z2, z3, z4, z5, z6⟩, -⟩ := seven_cellsR kB
    clear kB
    go_wp2_with fail
    refine (HHR.c _ g1 g2 g3 g4 k1 k2 k3 k4 r16).mono ?_
    rintro e w17 ⟨rfl, hb17⟩
    have hEnd := HKB.out _ (kp.below hb17)
    clear kp r16 hb17 z0 z1 z2 z3 z4 z5 z6
    go_wp2
    go_ret
    exact ⟨rfl, hEnd⟩
end U
end Go.Proofs.YtjhmfaibpnagcaaGreat
