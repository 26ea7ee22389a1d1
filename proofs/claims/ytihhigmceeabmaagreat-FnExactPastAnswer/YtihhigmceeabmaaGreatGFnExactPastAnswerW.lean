/- The law on PastAnswer, walked: true, and nothing that was there has turned. -/
import Derived.Test.YtihhigmceeabmaaGreatGPA
import Derived.Test.YtihhigmceeabmaaGreatGPC
namespace Go.Proofs.YtihhigmceeabmaaGreat
open Go.RowKit
namespace U
structure SpA (s : St) (ph cu : Int) (n : Int) (tx : ByteArray) (n1 n2 n3 n4 : Nat) (q : Value) : Prop where
  c : ∀ (w' : World) (a1 a2 a3 a4 : Option Addr) (c1 c2 c3 c4 : Nat), Sts w' (sv a1 a2 a3 a4 n1 n2 n3 n4 c1 c2 c3 c4) s → Calls Tryz.prog 32 #[.agg #[.int .i64 ph, .int .i64 cu, .slice a1 n1 c1, .slice a2 n2 c2, .slice a3 n3 c3, .slice a4 n4 c4], .int .i64 n, .string tx] w' fun e w'' => e = .returned q ∧ Below w'.heap.size w' w''
structure ImA (s : St) (ph cu : Int) (n : Int) (tx : ByteArray) (n1 n2 n3 n4 : Nat) (q : Value) : Prop where
  c : ∀ (w' : World) (a1 a2 a3 a4 : Option Addr) (c1 c2 c3 c4 : Nat), Sts w' (sv a1 a2 a3 a4 n1 n2 n3 n4 c1 c2 c3 c4) s → Calls Tryz.prog 34 #[.agg #[.int .i64 ph, .int .i64 cu, .slice a1 n1 c1, .slice a2 n2 c2, .slice a3 n3 c3, .slice a4 n4 c4], .int .i64 n, .string tx] w' fun e w'' => e = .returned q ∧ Below w'.heap.size w' w''
structure B2 (w : World) (g : Nat) (rc rk : Int) (rf : Bool) (rl : ByteArray) (ra rb rd : Int) : Prop where
  h : w.heap[g]? = some (.cells #[.int .i64 rc, .int .i64 rk, .bool rf, .string rl, .int .i64 ra, .int .i64 rb, .int .i64 rd] 41)
theorem B2.lt {w : World} {g : Nat} {rc rk : Int} {rf : Bool} {rl : ByteArray} {ra rb rd : Int} (h : B2 w g rc rk rf rl ra rb rd) : g < w.heap.size := (Array.getElem?_eq_some_iff.1 h.h).1
theorem B2.below {w w' : World} {g : Nat} {rc rk : Int} {rf : Bool} {rl : ByteArray} {ra rb rd : Int} (h : B2 w g rc rk rf rl ra rb rd) (hb : Below w.heap.size w w') : B2 w' g rc rk rf rl ra rb rd := ⟨(hb.block _ h.lt).trans h.h⟩
theorem B2.new (w : World) (rc rk : Int) (rf : Bool) (rl : ByteArray) (ra rb rd : Int) : B2 (w.alloc (.cells #[.int .i64 rc, .int .i64 rk, .bool rf, .string rl, .int .i64 ra, .int .i64 rb, .int .i64 rd] 41)) w.heap.size rc rk rf rl ra rb rd := ⟨heap_alloc_new w _⟩
set_option maxRecDepth 100000 in
set_option maxHeartbeats 4000000 in
theorem fnExactPastAnswer_walk (s : St) (v : Sv) (n : Int) (tx : ByteArray) (w : World) (hv : Sts w v s) (hA : StA s) (htx : tx.size ≤ maxLen) :
    Calls Tryz.prog 7 #[stV s v, .int .i64 n, .string tx] w fun e w' => e = .returned (.bool true) ∧ Below w.heap.size w w' := by
  unfold maxLen at htx
  by_cases hsz : 1048576 < tx.size
  · obtain ⟨a1, a2, a3, a4, c1, c2, c3, c4, rfl⟩ := hv.four
    unfold stV sv
    dsimp only
    generalize s.ph = ph at *
    generalize s.cu = cu at *
    generalize s.d.length = n1 at *
    generalize s.n.length = n2 at *
    generalize s.h.length = n3 at *
    generalize s.p.length = n4 at *
    clear hv hA
    go_enter Tryz.func7, Tryz.ntmps7
    go_wp2
    go_ret
    exact ⟨rfl, one_new _⟩
  have hsz' : tx.size ≤ 1048576 := by omega
  obtain ⟨W, hW⟩ : ∃ W, W = w.alloc (stC s v 89) := ⟨_, rfl⟩
  have hBW : Below w.heap.size w W := by rw [hW]; exact one_new _
  have hZ := szState_any s v 1048576 W (hv.below hBW) hA (by omega)
  have hok := fun h => szS_ok (s := s) (z := 1048576) (by omega) (by omega) h
  obtain ⟨a1, a2, a3, a4, c1, c2, c3, c4, rfl⟩ := hv.four
  unfold stC at hW
  unfold stV at hZ ⊢
  unfold sv at hW hZ ⊢
  dsimp only at hW hZ ⊢
  generalize szS s 1048576 = z at *
  by_cases h : z < 0
  · generalize s.ph = ph at *
    generalize s.cu = cu at *
    generalize s.d.length = n1 at *
    generalize s.n.length = n2 at *
    generalize s.h.length = n3 at *
    generalize s.p.length = n4 at *
    have HW : Hid (w.alloc (.cells #[.int .i64 ph, .int .i64 cu, .slice a1 n1 c1, .slice a2 n2 c2, .slice a3 n3 c3, .slice a4 n4 c4] 89) = W) := hW.symm
    clear hv hA hok hW
    go_enter Tryz.func7, Tryz.ntmps7
    go_wp2_with fail
    rw [HW.out]
    refine hZ.mono ?_
    rintro e w1 ⟨rfl, hb1⟩
    clear hZ
    go_wp2
    go_ret
    exact ⟨rfl, below_after_of hBW hb1⟩
  · obtain ⟨hB, -⟩ := hok h
    obtain ⟨R, hR⟩ := rt_ex
    have HS : SpA s s.ph s.cu n tx s.d.length s.n.length s.h.length s.p.length (paV R s n tx) := ⟨fun w' a1 a2 a3 a4 c1 c2 c3 c4 h1 => by
      have := specPastAnswer_any R hR s _ n tx w' h1 hB hsz'
      unfold stV sv at this
      exact this⟩
    have HI : ImA s s.ph s.cu n tx s.d.length s.n.length s.h.length s.p.length (paV R s n tx) := ⟨fun w' a1 a2 a3 a4 c1 c2 c3 c4 h1 => by
      have := implPastAnswer_any R hR s _ n tx w' h1 hB hsz'
      unfold stV sv at this
      exact this⟩
    have hnn := hne_all
    obtain ⟨rc, rk, rf, rl, ra, rb, rd, hV⟩ := paV_shape R s n tx
    rw [hV] at HS HI
    clear hV
    have hEI := fun w => eqAnswerResult_same rc rk rf rl ra rb rd w
    clear hR
    have HT := ToS.mk' hv hB
    have HE := EqS.mk' hB
    have hX := Bx.new w s.ph s.cu a1 a2 a3 a4 s.d.length s.n.length s.h.length s.p.length c1 c2 c3 c4 89
    rw [← hW] at hX
    generalize s.ph = ph at *
    generalize s.cu = cu at *
    generalize s.d.length = n1 at *
    generalize s.n.length = n2 at *
    generalize s.h.length = n3 at *
    generalize s.p.length = n4 at *
    have HW : Hid (w.alloc (.cells #[.int .i64 ph, .int .i64 cu, .slice a1 n1 c1, .slice a2 n2 c2, .slice a3 n3 c3, .slice a4 n4 c4] 89) = W) := hW.symm
    have HX : Hid (∀ w', Below W.heap.size W w' → w'.cell? ⟨w.heap.size, 0, none⟩ = some (.int .i64 ph) ∧ w'.cell? ⟨w.heap.size, 1, none⟩ = some (.int .i64 cu) ∧ w'.cell? ⟨w.heap.size, 2, none⟩ = some (.slice a1 n1 c1) ∧ w'.cell? ⟨w.heap.size, 3, none⟩ = some (.slice a2 n2 c2) ∧ w'.cell? ⟨w.heap.size, 4, none⟩ = some (.slice a3 n3 c3) ∧ w'.cell? ⟨w.heap.size, 5, none⟩ = some (.slice a4 n4 c4)) := fun w' hb => (hX.below hb).c
    have HBW : Hid (∀ w', Below W.heap.size W w' → Below w.heap.size w w') := fun w' hb => below_after_of hBW hb
    clear hv hA hok hW hB hX hBW
    go_enter Tryz.func7, Tryz.ntmps7
    go_wp2_with fail
    rw [HW.out]
    refine hZ.mono ?_
    rintro e w1 ⟨rfl, hbr⟩
    obtain ⟨x0, x1, x2, x3, x4, x5⟩ := HX.out _ hbr
    clear hZ HW
    go_wp2_with fail
    refine (HT.c _ (HBW.out _ hbr)).mono ?_
    rintro e w2 ⟨b1, b2, b3, b4, d1, d2, d3, d4, us, rfl, h2⟩
    have hbr : Below W.heap.size W w2 := below_after_of hbr h2.below
    have r2 := h2.sts
    clear h2 x0 x1 x2 x3 x4 x5
    obtain ⟨x0, x1, x2, x3, x4, x5⟩ := HX.out _ hbr
    go_wp2_with fail
    refine (HS.c _ _ _ _ _ _ _ _ _ r2).mono ?_
    rintro e w3 ⟨rfl, hb3⟩
    have hbr : Below W.heap.size W w3 := below_after_of hbr hb3
    obtain ⟨W3, hW3⟩ : ∃ W3, W3 = w3.alloc (.cells #[.int .i64 rc, .int .i64 rk, .bool rf, .string rl, .int .i64 ra, .int .i64 rb, .int .i64 rd] 41) := ⟨_, rfl⟩
    have HW3 : Hid (w3.alloc (.cells #[.int .i64 rc, .int .i64 rk, .bool rf, .string rl, .int .i64 ra, .int .i64 rb, .int .i64 rd] 41) = W3) := hW3.symm
    have P3 := B2.new w3 rc rk rf rl ra rb rd
    rw [← hW3] at P3
    have hbr : Below W.heap.size W W3 := below_after_of hbr (by rw [hW3]; exact one_new _)
    clear hb3 r2 x0 x1 x2 x3 x4 x5 HS
    obtain ⟨x0, x1, x2, x3, x4, x5⟩ := HX.out _ hbr
    rw [hW3] at x0 x1 x2 x3 x4 x5
    clear hW3
    go_wp2_with fail
    rw [HW3.out]
    clear x0 x1 x2 x3 x4 x5 HW3
    refine (HT.c _ (HBW.out _ hbr)).mono ?_
    rintro e w4 ⟨e1, e2, e3, e4, f1, f2, f3, f4, us4, rfl, h4⟩
    have hbr4 : Below W.heap.size W w4 := below_after_of hbr h4.below
    obtain ⟨W5, hW5⟩ : ∃ W5, W5 = w4.alloc (.cells #[.int .i64 ph, .int .i64 cu, .slice e1 n1 f1, .slice e2 n2 f2, .slice e3 n3 f3, .slice e4 n4 f4] 98) := ⟨_, rfl⟩
    have HW5 : Hid (w4.alloc (.cells #[.int .i64 ph, .int .i64 cu, .slice e1 n1 f1, .slice e2 n2 f2, .slice e3 n3 f3, .slice e4 n4 f4] 98) = W5) := hW5.symm
    have hb5 : Below w4.heap.size w4 W5 := by rw [hW5]; exact one_new _
    have r5 := h4.sts.below hb5
    have hX5 := Bx.new w4 ph cu e1 e2 e3 e4 n1 n2 n3 n4 f1 f2 f3 f4 98
    rw [← hW5] at hX5
    have hbr : Below W.heap.size W W5 := below_after_of hbr4 hb5
    have HX5 : Hid (∀ w', Below W5.heap.size W5 w' → w'.cell? ⟨w4.heap.size, 0, none⟩ = some (.int .i64 ph) ∧ w'.cell? ⟨w4.heap.size, 1, none⟩ = some (.int .i64 cu) ∧ w'.cell? ⟨w4.heap.size, 2, none⟩ = some (.slice e1 n1 f1) ∧ w'.cell? ⟨w4.heap.size, 3, none⟩ = some (.slice e2 n2 f2) ∧ w'.cell? ⟨w4.heap.size, 4, none⟩ = some (.slice e3 n3 f3) ∧ w'.cell? ⟨w4.heap.size, 5, none⟩ = some (.slice e4 n4 f4)) := fun w' hb => (hX5.below hb).c
    have hI := HI.c _ _ _ _ _ _ _ _ _ r5
    have P5 := (P3.below h4.below).below hb5
    clear h4 hbr4 hW5 hb5 HI
    go_wp2_with fail
    rw [HW5.out]
    refine hI.mono ?_
    rintro e w6 ⟨rfl, hb6⟩
    have hbr : Below W.heap.size W w6 := below_after_of hbr hb6
    have r6 := r5.below hb6
    have hX6 := hX5.below hb6
    obtain ⟨W7, hW7⟩ : ∃ W7, W7 = w6.alloc (.cells #[.int .i64 rc, .int .i64 rk, .bool rf, .string rl, .int .i64 ra, .int .i64 rb, .int .i64 rd] 41) := ⟨_, rfl⟩
    have HW7 : Hid (w6.alloc (.cells #[.int .i64 rc, .int .i64 rk, .bool rf, .string rl, .int .i64 ra, .int .i64 rb, .int .i64 rd] 41) = W7) := hW7.symm
    have P7 := B2.new w6 rc rk rf rl ra rb rd
    have hb7 : Below w6.heap.size w6 W7 := by rw [hW7]; exact one_new _
    rw [← hW7] at P7
    have P37 := (P5.below hb6).below hb7
    have hbr : Below W.heap.size W W7 := below_after_of hbr hb7
    have r6 := r6.below hb7
    have hX6 := hX6.below hb7
    obtain ⟨y0, y1, y2, y3, y4, y5, y6, -⟩ := seven_cells P37.h
    obtain ⟨z0, z1, z2, z3, z4, z5, z6, -⟩ := seven_cells P7.h
    rw [hW7] at y0 y1 y2 y3 y4 y5 y6 z0 z1 z2 z3 z4 z5 z6
    have hlt37 : w3.heap.size < w6.heap.size := (P5.below hb6).lt
    clear hI HW5 r5 HX5 hX5 hb6 P3 P5 P7 P37 hb7 hW7
    go_wp2_with fail
    rw [HW7.out]
    refine (hEI _).mono ?_
    rintro e w8 ⟨rfl, hb8'⟩
    have hbr : Below W.heap.size W w8 := below_after_of hbr hb8'
    have r6 := r6.below hb8'
    have hX6 := hX6.below hb8'
    clear hb8' y0 y1 y2 y3 y4 y5 y6 z0 z1 z2 z3 z4 z5 z6 HW7 hEI
    obtain ⟨y0, y1, y2, y3, y4, y5⟩ := hX6.c
    obtain ⟨x0, x1, x2, x3, x4, x5⟩ := HX.out _ hbr
    have HC2 : Hid (∀ w', Below w8.heap.size w8 w' → (w'.cell? ⟨w4.heap.size, 0, none⟩ = some (.int .i64 ph) ∧ w'.cell? ⟨w4.heap.size, 1, none⟩ = some (.int .i64 cu) ∧ w'.cell? ⟨w4.heap.size, 2, none⟩ = some (.slice e1 n1 f1) ∧ w'.cell? ⟨w4.heap.size, 3, none⟩ = some (.slice e2 n2 f2) ∧ w'.cell? ⟨w4.heap.size, 4, none⟩ = some (.slice e3 n3 f3) ∧ w'.cell? ⟨w4.heap.size, 5, none⟩ = some (.slice e4 n4 f4)) ∧ w'.cell? ⟨w.heap.size, 0, none⟩ = some (.int .i64 ph) ∧ w'.cell? ⟨w.heap.size, 1, none⟩ = some (.int .i64 cu) ∧ w'.cell? ⟨w.heap.size, 2, none⟩ = some (.slice a1 n1 c1) ∧ w'.cell? ⟨w.heap.size, 3, none⟩ = some (.slice a2 n2 c2) ∧ w'.cell? ⟨w.heap.size, 4, none⟩ = some (.slice a3 n3 c3) ∧ w'.cell? ⟨w.heap.size, 5, none⟩ = some (.slice a4 n4 c4)) := fun w' hb => ⟨(hX6.below hb).c, HX.out _ (below_after_of hbr hb)⟩
    have HR6 : Hid (∀ w', Below w8.heap.size w8 w' → Sts w' (sv e1 e2 e3 e4 n1 n2 n3 n4 f1 f2 f3 f4) s) := fun w' hb => r6.below hb
    have hbx : Below w8.heap.size w8 w8 := Below.refl _ _
    have HBR : Hid (∀ w', Below w8.heap.size w8 w' → Below w.heap.size w w') := fun w' hb => HBW.out _ (below_after_of hbr hb)
    clear hX6 r6 hbr
    go_wp2_with fail
    go_region_held3 (fun w' => (w'.cell? ⟨w4.heap.size, 0, none⟩ = some (.int .i64 ph) ∧ w'.cell? ⟨w4.heap.size, 1, none⟩ = some (.int .i64 cu) ∧ w'.cell? ⟨w4.heap.size, 2, none⟩ = some (.slice e1 n1 f1) ∧ w'.cell? ⟨w4.heap.size, 3, none⟩ = some (.slice e2 n2 f2) ∧ w'.cell? ⟨w4.heap.size, 4, none⟩ = some (.slice e3 n3 f3) ∧ w'.cell? ⟨w4.heap.size, 5, none⟩ = some (.slice e4 n4 f4)) ∧ w'.cell? ⟨w.heap.size, 0, none⟩ = some (.int .i64 ph) ∧ w'.cell? ⟨w.heap.size, 1, none⟩ = some (.int .i64 cu) ∧ w'.cell? ⟨w.heap.size, 2, none⟩ = some (.slice a1 n1 c1) ∧ w'.cell? ⟨w.heap.size, 3, none⟩ = some (.slice a2 n2 c2) ∧ w'.cell? ⟨w.heap.size, 4, none⟩ = some (.slice a3 n3 c3) ∧ w'.cell? ⟨w.heap.size, 5, none⟩ = some (.slice a4 n4 c4))
      (first | with_reducible exact ⟨⟨y0, y1, y2, y3, y4, y5⟩, x0, x1, x2, x3, x4, x5⟩ | with_reducible exact HC2.out _ hbx | with_reducible exact HC2.out _ hbx.drew)
      (first
        | (go_at_call 33; refine (ToS.c (by assumption) _ (by first | exact HBR.out _ hbx | exact HBR.out _ hbx.drew)).mono ?_; rintro e w7 ⟨g1, g2, g3, g4, k1, k2, k3, k4, us7, rfl, h7⟩; have hbx : Below w8.heap.size w8 w7 := (by first | exact below_after_of hbx h7.below | exact below_after_of hbx.drew h7.below))
        | (go_at_call 35; refine (EqS.c (by assumption) _ _ _ _ _ _ _ _ _ _ _ _ _ _ _ _ _ (HR6.out _ hbx) h7.sts).mono ?_; rintro e w9 ⟨rfl, hb8⟩; have hbx : Below w8.heap.size w8 w9 := below_after_of hbx hb8))
    have hBE := HBR.out _ hbx
    clear HC2 h7 hb8 HE
    go_wp2
    go_ret
    exact ⟨rfl, hBE⟩
end U
end Go.Proofs.YtihhigmceeabmaaGreat
