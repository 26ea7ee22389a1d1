/- The law on StateFault, walked: true, and nothing that was there has turned. -/
import Derived.Test.YtdchnanihceeeaaGreatGStW
import Derived.Test.YtdchnanihceeeaaGreatGSt6
namespace Go.Proofs.YtdchnanihceeeaaGreat
open Go.RowKit
namespace U
structure SpA (s : St) (ph cu : Int) (n1 n2 n3 n4 : Nat) (q : Int) : Prop where
  c : ∀ (w' : World) (a1 a2 a3 a4 : Option Addr) (c1 c2 c3 c4 : Nat), Sts w' (sv a1 a2 a3 a4 n1 n2 n3 n4 c1 c2 c3 c4) s → Calls Tryz.prog 12 #[.agg #[.int .i64 ph, .int .i64 cu, .slice a1 n1 c1, .slice a2 n2 c2, .slice a3 n3 c3, .slice a4 n4 c4]] w' fun e w'' => e = .returned (.int .i64 q) ∧ Below w'.heap.size w' w''
structure ImA (s : St) (ph cu : Int) (n1 n2 n3 n4 : Nat) (q : Int) : Prop where
  c : ∀ (w' : World) (a1 a2 a3 a4 : Option Addr) (c1 c2 c3 c4 : Nat), Sts w' (sv a1 a2 a3 a4 n1 n2 n3 n4 c1 c2 c3 c4) s → Calls Tryz.prog 14 #[.agg #[.int .i64 ph, .int .i64 cu, .slice a1 n1 c1, .slice a2 n2 c2, .slice a3 n3 c3, .slice a4 n4 c4]] w' fun e w'' => e = .returned (.int .i64 q) ∧ Below w'.heap.size w' w''
set_option maxRecDepth 100000 in
set_option maxHeartbeats 4000000 in
theorem fnExactStateFault_walk (s : St) (v : Sv) (w : World) (hv : Sts w v s) (hA : StA s) :
    Calls Tryz.prog 3 #[stV s v] w fun e w' => e = .returned (.bool true) ∧ Below w.heap.size w w' := by
  obtain ⟨W, hW⟩ : ∃ W, W = w.alloc (stC s v 29) := ⟨_, rfl⟩
  have hBW : Below w.heap.size w W := by rw [hW]; exact one_new _
  have hZ := szState_any s v 1048576 W (hv.below hBW) hA (by omega)
  have hok := fun h => szS_ok (s := s) (z := 1048576) (by omega) (by omega) h
  obtain ⟨a1, a2, a3, a4, c1, c2, c3, c4, rfl⟩ := hv.four
  unfold stC at hW
  unfold stV at hZ ⊢
  unfold sv at hW hZ ⊢
  dsimp only at hW hZ ⊢
  generalize szS s 1048576 = z at *
  by_cases h : z < 0
  · generalize s.ph = ph at *
    generalize s.cu = cu at *
    generalize s.d.length = n1 at *
    generalize s.n.length = n2 at *
    generalize s.h.length = n3 at *
    generalize s.p.length = n4 at *
    have HW : Hid (w.alloc (.cells #[.int .i64 ph, .int .i64 cu, .slice a1 n1 c1, .slice a2 n2 c2, .slice a3 n3 c3, .slice a4 n4 c4] 29) = W) := hW.symm
    clear hv hA hok hW
    go_enter Tryz.func3, Tryz.ntmps3
    go_wp2_with fail
    rw [HW.out]
    refine hZ.mono ?_
    rintro e w1 ⟨rfl, hb1⟩
    clear hZ
    go_wp2
    go_ret
    exact ⟨rfl, below_after_of hBW hb1⟩
  · obtain ⟨hB, -⟩ := hok h
    obtain ⟨R, hR⟩ := rt_ex
    have HS : SpA s s.ph s.cu s.d.length s.n.length s.h.length s.p.length (stF R s) := ⟨fun w' a1 a2 a3 a4 c1 c2 c3 c4 h1 => by
      have := specStateFault_any R hR s _ w' h1 hB
      unfold stV sv at this
      exact this⟩
    have HI : ImA s s.ph s.cu s.d.length s.n.length s.h.length s.p.length (stF R s) := ⟨fun w' a1 a2 a3 a4 c1 c2 c3 c4 h1 => by
      have := implStateFault_any R hR s _ w' h1 hB
      unfold stV sv at this
      exact this⟩
    have hnn := hne_all
    generalize stF R s = q at *
    clear hR
    have HT := ToS.mk' hv hB
    have HE := EqS.mk' hB
    have hX := Bx.new w s.ph s.cu a1 a2 a3 a4 s.d.length s.n.length s.h.length s.p.length c1 c2 c3 c4 29
    rw [← hW] at hX
    generalize s.ph = ph at *
    generalize s.cu = cu at *
    generalize s.d.length = n1 at *
    generalize s.n.length = n2 at *
    generalize s.h.length = n3 at *
    generalize s.p.length = n4 at *
    have HW : Hid (w.alloc (.cells #[.int .i64 ph, .int .i64 cu, .slice a1 n1 c1, .slice a2 n2 c2, .slice a3 n3 c3, .slice a4 n4 c4] 29) = W) := hW.symm
    have HX : Hid (∀ w', Below W.heap.size W w' → w'.cell? ⟨w.heap.size, 0, none⟩ = some (.int .i64 ph) ∧ w'.cell? ⟨w.heap.size, 1, none⟩ = some (.int .i64 cu) ∧ w'.cell? ⟨w.heap.size, 2, none⟩ = some (.slice a1 n1 c1) ∧ w'.cell? ⟨w.heap.size, 3, none⟩ = some (.slice a2 n2 c2) ∧ w'.cell? ⟨w.heap.size, 4, none⟩ = some (.slice a3 n3 c3) ∧ w'.cell? ⟨w.heap.size, 5, none⟩ = some (.slice a4 n4 c4)) := fun w' hb => (hX.below hb).c
    have HBW : Hid (∀ w', Below W.heap.size W w' → Below w.heap.size w w') := fun w' hb => below_after_of hBW hb
    clear hv hA hok hW hB hX hBW
    go_enter Tryz.func3, Tryz.ntmps3
    go_wp2_with fail
    rw [HW.out]
    refine hZ.mono ?_
    rintro e w1 ⟨rfl, hbr⟩
    obtain ⟨x0, x1, x2, x3, x4, x5⟩ := HX.out _ hbr
    clear hZ HW
    go_wp2_with fail
    refine (HT.c _ (HBW.out _ hbr)).mono ?_
    rintro e w2 ⟨b1, b2, b3, b4, d1, d2, d3, d4, us, rfl, h2⟩
    have hbr : Below W.heap.size W w2 := below_after_of hbr h2.below
    have r2 := h2.sts
    clear h2 x0 x1 x2 x3 x4 x5
    obtain ⟨x0, x1, x2, x3, x4, x5⟩ := HX.out _ hbr
    go_wp2_with fail
    refine (HS.c _ _ _ _ _ _ _ _ _ r2).mono ?_
    rintro e w3 ⟨rfl, hb3⟩
    have hbr : Below W.heap.size W w3 := below_after_of hbr hb3
    clear hb3 r2 x0 x1 x2 x3 x4 x5 HS
    obtain ⟨x0, x1, x2, x3, x4, x5⟩ := HX.out _ hbr
    go_wp2_with fail
    refine (HT.c _ (HBW.out _ hbr)).mono ?_
    rintro e w4 ⟨e1, e2, e3, e4, f1, f2, f3, f4, us4, rfl, h4⟩
    have hbr4 : Below W.heap.size W w4 := below_after_of hbr h4.below
    obtain ⟨W5, hW5⟩ : ∃ W5, W5 = w4.alloc (.cells #[.int .i64 ph, .int .i64 cu, .slice e1 n1 f1, .slice e2 n2 f2, .slice e3 n3 f3, .slice e4 n4 f4] 39) := ⟨_, rfl⟩
    have HW5 : Hid (w4.alloc (.cells #[.int .i64 ph, .int .i64 cu, .slice e1 n1 f1, .slice e2 n2 f2, .slice e3 n3 f3, .slice e4 n4 f4] 39) = W5) := hW5.symm
    have hb5 : Below w4.heap.size w4 W5 := by rw [hW5]; exact one_new _
    have r5 := h4.sts.below hb5
    have hX5 := Bx.new w4 ph cu e1 e2 e3 e4 n1 n2 n3 n4 f1 f2 f3 f4 39
    rw [← hW5] at hX5
    have hbr : Below W.heap.size W W5 := below_after_of hbr4 hb5
    have HX5 : Hid (∀ w', Below W5.heap.size W5 w' → w'.cell? ⟨w4.heap.size, 0, none⟩ = some (.int .i64 ph) ∧ w'.cell? ⟨w4.heap.size, 1, none⟩ = some (.int .i64 cu) ∧ w'.cell? ⟨w4.heap.size, 2, none⟩ = some (.slice e1 n1 f1) ∧ w'.cell? ⟨w4.heap.size, 3, none⟩ = some (.slice e2 n2 f2) ∧ w'.cell? ⟨w4.heap.size, 4, none⟩ = some (.slice e3 n3 f3) ∧ w'.cell? ⟨w4.heap.size, 5, none⟩ = some (.slice e4 n4 f4)) := fun w' hb => (hX5.below hb).c
    have hI := HI.c _ _ _ _ _ _ _ _ _ r5
    clear h4 hbr4 hW5 hb5 x0 x1 x2 x3 x4 x5 HI
    go_wp2_with fail
    rw [HW5.out]
    refine hI.mono ?_
    rintro e w6 ⟨rfl, hb6⟩
    have hbr : Below W.heap.size W w6 := below_after_of hbr hb6
    have r6 := r5.below hb6
    have hX6 := hX5.below hb6
    clear hI HW5 r5 HX5 hX5 hb6
    obtain ⟨y0, y1, y2, y3, y4, y5⟩ := hX6.c
    obtain ⟨x0, x1, x2, x3, x4, x5⟩ := HX.out _ hbr
    have HC2 : Hid (∀ w', Below w6.heap.size w6 w' → (w'.cell? ⟨w4.heap.size, 0, none⟩ = some (.int .i64 ph) ∧ w'.cell? ⟨w4.heap.size, 1, none⟩ = some (.int .i64 cu) ∧ w'.cell? ⟨w4.heap.size, 2, none⟩ = some (.slice e1 n1 f1) ∧ w'.cell? ⟨w4.heap.size, 3, none⟩ = some (.slice e2 n2 f2) ∧ w'.cell? ⟨w4.heap.size, 4, none⟩ = some (.slice e3 n3 f3) ∧ w'.cell? ⟨w4.heap.size, 5, none⟩ = some (.slice e4 n4 f4)) ∧ w'.cell? ⟨w.heap.size, 0, none⟩ = some (.int .i64 ph) ∧ w'.cell? ⟨w.heap.size, 1, none⟩ = some (.int .i64 cu) ∧ w'.cell? ⟨w.heap.size, 2, none⟩ = some (.slice a1 n1 c1) ∧ w'.cell? ⟨w.heap.size, 3, none⟩ = some (.slice a2 n2 c2) ∧ w'.cell? ⟨w.heap.size, 4, none⟩ = some (.slice a3 n3 c3) ∧ w'.cell? ⟨w.heap.size, 5, none⟩ = some (.slice a4 n4 c4)) := fun w' hb => ⟨(hX6.below hb).c, HX.out _ (below_after_of hbr hb)⟩
    have HR6 : Hid (∀ w', Below w6.heap.size w6 w' → Sts w' (sv e1 e2 e3 e4 n1 n2 n3 n4 f1 f2 f3 f4) s) := fun w' hb => r6.below hb
    have hbx : Below w6.heap.size w6 w6 := Below.refl _ _
    have HBR : Hid (∀ w', Below w6.heap.size w6 w' → Below w.heap.size w w') := fun w' hb => HBW.out _ (below_after_of hbr hb)
    clear hX6 r6 hbr
    go_wp2_with fail
    go_region_held3 (fun w' => (w'.cell? ⟨w4.heap.size, 0, none⟩ = some (.int .i64 ph) ∧ w'.cell? ⟨w4.heap.size, 1, none⟩ = some (.int .i64 cu) ∧ w'.cell? ⟨w4.heap.size, 2, none⟩ = some (.slice e1 n1 f1) ∧ w'.cell? ⟨w4.heap.size, 3, none⟩ = some (.slice e2 n2 f2) ∧ w'.cell? ⟨w4.heap.size, 4, none⟩ = some (.slice e3 n3 f3) ∧ w'.cell? ⟨w4.heap.size, 5, none⟩ = some (.slice e4 n4 f4)) ∧ w'.cell? ⟨w.heap.size, 0, none⟩ = some (.int .i64 ph) ∧ w'.cell? ⟨w.heap.size, 1, none⟩ = some (.int .i64 cu) ∧ w'.cell? ⟨w.heap.size, 2, none⟩ = some (.slice a1 n1 c1) ∧ w'.cell? ⟨w.heap.size, 3, none⟩ = some (.slice a2 n2 c2) ∧ w'.cell? ⟨w.heap.size, 4, none⟩ = some (.slice a3 n3 c3) ∧ w'.cell? ⟨w.heap.size, 5, none⟩ = some (.slice a4 n4 c4))
      (first | with_reducible exact ⟨⟨y0, y1, y2, y3, y4, y5⟩, x0, x1, x2, x3, x4, x5⟩ | with_reducible exact HC2.out _ hbx | with_reducible exact HC2.out _ hbx.drew)
      (first
        | (go_at_call 13; refine (ToS.c (by assumption) _ (by first | exact HBR.out _ hbx | exact HBR.out _ hbx.drew)).mono ?_; rintro e w7 ⟨g1, g2, g3, g4, k1, k2, k3, k4, us7, rfl, h7⟩; have hbx : Below w6.heap.size w6 w7 := (by first | exact below_after_of hbx h7.below | exact below_after_of hbx.drew h7.below))
        | (go_at_call 15; refine (EqS.c (by assumption) _ _ _ _ _ _ _ _ _ _ _ _ _ _ _ _ _ (HR6.out _ hbx) h7.sts).mono ?_; rintro e w8 ⟨rfl, hb8⟩; have hbx : Below w6.heap.size w6 w8 := below_after_of hbx hb8))
    have hBE := HBR.out _ hbx
    clear HC2 h7 hb8 HE
    go_wp2
    go_ret
    exact ⟨rfl, hBE⟩
end U
end Go.Proofs.YtdchnanihceeeaaGreat
