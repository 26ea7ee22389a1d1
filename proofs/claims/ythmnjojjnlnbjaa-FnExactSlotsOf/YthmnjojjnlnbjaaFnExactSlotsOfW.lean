/- The law on SlotsOf, walked: true, and nothing that was there has turned. -/
import Derived.Test.YthmnjojjnlnbjaaSf2
import Derived.Test.YthmnjojjnlnbjaaDrN
import Derived.Test.YthmnjojjnlnbjaaEqR
namespace Go.Proofs.Ythmnjojjnlnbjaa
open Go.RowKit
namespace U
theorem sfL_len {l : Rcl} : (sfL l).length ≤ 12 := by
  unfold sfL
  split
  · rename_i h
    rw [show (dirSl l).length = l.length from slTo_len l _]
    exact (dirOk h).len
  · simp
set_option maxRecDepth 100000 in
set_option maxHeartbeats 4000000 in
theorem fnExactSlotsOf_walk (v : Value) (l : Rcl) (w : World) (hv : Rcs w v l) (hl : l.length ≤ maxLen) (hM : LbM l) :
    Calls Try.prog 9 #[.agg #[v]] w fun e w' => e = .returned (.bool true) ∧ Below w.heap.size w w' := by
  have hZ := szDirectory_any v l 1048576 (w.alloc (.cells #[v] 65)) (hv.below (one_new _)) hM hl (by omega)
  have hok := fun h => szR_ok (l := l) (z := 1048576) (by omega) h
  have O0 := One.new w v 65
  obtain ⟨a, c, rfl⟩ := hv.shape
  generalize szR l 1048576 = z at *
  by_cases h : z < 0
  · generalize l.length = n at *
    clear hv hok hM
    go_enter Try.func9, Try.ntmps9
    go_wp2_with fail
    refine hZ.mono ?_
    rintro e w1 ⟨rfl, hb1⟩
    clear hZ
    go_wp2
    go_ret
    exact ⟨rfl, below_after hb1⟩
  · obtain ⟨hx, hL, -, -⟩ := hok h
    have hT := fun w' hb => toDirectory_any _ l w' (hv.below (w' := w') hb) hx
    have hS := fun u w' hu => specSlotsOf_any u l w' hu hL hx
    have hI := fun u w' hu => implSlotsOf_any u l w' hu hL hx
    have hE := fun u v w' hu hv => eqDirectory_same u v l w' hu hv hx
    have hMk := fun B v k0 w h hk => markDirectory_any B v l k0 w h hx hk
    have hyl := sfL_len (l := l)
    generalize dirF l = code at *
    generalize sfL l = ys at *
    obtain ⟨n, hn⟩ : ∃ n, n = l.length := ⟨_, rfl⟩
    rw [← hn] at hZ hT hl hx O0 hMk ⊢
    clear hn hv hok hM hL
    have hkn : decide (((1 + n * 4 : Nat) : Int) < 0) = false := by simp; omega
    have hln : decide (((1 + ys.length * 2 : Nat) : Int) < 0) = false := by simp; omega
    go_enter Try.func9, Try.ntmps9
    go_wp2_with fail
    refine hZ.mono ?_
    rintro e w1 ⟨rfl, hb1⟩
    have O1 := O0.below hb1
    have hB1 := below_after hb1
    have c1 := O1.2
    clear hZ hb1 O0
    go_wp2_with fail
    refine (hT _ hB1).mono ?_
    rintro e w2 ⟨a2, c2, rfl, hb2, o2⟩
    have O2 := O1.below hb2
    have hB2 := below_after_of hB1 hb2
    clear hb2 c1 hB1 O1
    go_wp2_with fail
    -- the model's answer
    refine (hS _ _ (own_rcs' o2)).mono ?_
    intro e w3 h3
    obtain ⟨a3, c3, rfl, hb3, own3⟩ := h3.use
    obtain ⟨W3, hW3⟩ : ∃ W3, W3 = w3.alloc (.cells #[.int .i64 code, .slice a3 ys.length c3] 53) := ⟨_, rfl⟩
    have HW3 : Hid (w3.alloc (.cells #[.int .i64 code, .slice a3 ys.length c3] 53) = W3) := hW3.symm
    have hN3 : Below w3.heap.size w3 W3 := by rw [hW3]; exact one_new _
    have P3 : Pair W3 w3.heap.size (.int .i64 code) (.slice a3 ys.length c3) := by rw [hW3]; exact Pair.new w3 _ _ _
    have O3 := (O2.below hb3).below hN3
    have i3 := (own_prs own3).below hN3
    have hlt3 := fun k hk => own3.lt k hk
    have hB3 := below_after_of (below_after_of hB2 hb3) hN3
    have HL3 : Hid (w.heap.size < w3.heap.size ∧ w3.heap.size < W3.heap.size) := ⟨Nat.lt_of_lt_of_le O2.1 hb3.size, P3.1⟩
    have co3 := O3.2
    rw [← HW3.out] at co3
    clear h3 hS own3 o2 hb3 hB2 O2 hW3 hN3
    go_wp2_with fail
    rw [HW3.out]
    -- the argument, copied
    refine (hT _ hB3).mono ?_
    rintro e w4 ⟨a4, c4, rfl, hb4, own4⟩
    obtain ⟨W4, hW4⟩ : ∃ W4, W4 = w4.alloc (.cells #[.slice a4 n c4] 26) := ⟨_, rfl⟩
    have HW4 : Hid (w4.alloc (.cells #[.slice a4 n c4] 26) = W4) := hW4.symm
    have hN4 : Below w4.heap.size w4 W4 := by rw [hW4]; exact one_new _
    have Q4 : One W4 w4.heap.size (.slice a4 n c4) := by rw [hW4]; exact One.new w4 _ _
    have hb4' := below_after_of hb4 hN4
    have P4 := P3.below hb4'
    have i4 := i3.below hb4'
    have O4 := O3.below hb4'
    have hlt4 := fun k hk => own4.lt k hk
    have own4' := own_below own4 hN4
    have R4 := own_rcs' own4'
    have hB4 := below_after_of hB3 hb4'
    have HL4 : Hid (W3.heap.size ≤ w4.heap.size ∧ w4.heap.size < W4.heap.size) := ⟨hb4.size, Q4.1⟩
    have cq4 := Q4.2
    rw [← HW4.out] at cq4
    clear hb4 own4 hB3 O3 i3 P3 hW4 hN4 hb4' co3
    go_wp2_with fail
    rw [HW4.out]
    -- the program's answer
    refine (hI _ _ R4).mono ?_
    intro e w5 h5
    obtain ⟨a5, c5, rfl, hb5, own5⟩ := h5.use
    obtain ⟨W5, hW5⟩ : ∃ W5, W5 = w5.alloc (.cells #[.int .i64 code, .slice a5 ys.length c5] 53) := ⟨_, rfl⟩
    have HW5 : Hid (w5.alloc (.cells #[.int .i64 code, .slice a5 ys.length c5] 53) = W5) := hW5.symm
    have hN5 : Below w5.heap.size w5 W5 := by rw [hW5]; exact one_new _
    have P5 : Pair W5 w5.heap.size (.int .i64 code) (.slice a5 ys.length c5) := by rw [hW5]; exact Pair.new w5 _ _ _
    have hb5' := below_after_of hb5 hN5
    have hlt5 := fun k hk => own5.lt k hk
    have own5' := own_below own5 hN5
    have own4'' := own_below own4' hb5'
    have P4' := P4.below hb5'
    have i4' := i4.below hb5'
    have O4' := O4.below hb5'
    have Q4' := Q4.below hb5'
    have hB5 := below_after_of hB4 hb5'
    have C5 : Hid (∀ w', Below W5.heap.size W5 w' → Pair w' w3.heap.size (.int .i64 code) (.slice a3 ys.length c3) ∧ Pair w' w5.heap.size (.int .i64 code) (.slice a5 ys.length c5) ∧ Prs w' (.slice a3 ys.length c3) ys ∧ w'.ownsRow W4.heap.size 112 2 (.slice a5 ys.length c5) ys.length ((fl ys).map (Value.int .i64)) ∧ w'.ownsRow W3.heap.size 28 4 (.slice a4 n c4) n (flR l) ∧ One w' w.heap.size (.slice a n c) ∧ One w' w4.heap.size (.slice a4 n c4) ∧ Below w.heap.size w w') :=
      fun w' h => ⟨P4'.below h, P5.below h, i4'.below h, own_below own5' h, own_below own4'' h, O4'.below h, Q4'.below h, below_after_of hB5 h⟩
    have HL5 : Hid (W4.heap.size ≤ w5.heap.size) := hb5.size
    obtain ⟨p0, p1, p2⟩ := P4'
    obtain ⟨p3, p4, p5⟩ := P5
    rw [← HW5.out] at p1 p2 p4 p5
    have j3 := i4'
    have j5 := own_prs own5'
    clear h5 hb5 own5 own5' own4' own4'' P4 i4 O4 Q4 i4' O4' Q4' hB4 hB5 R4 hW5 hN5 hb5' cq4
    go_wp2_with fail
    rw [HW5.out]
    -- the two are the same
    refine (eqSlotsResult_same code _ _ ys _ j5 j3 (by omega)).mono ?_
    rintro e w6 ⟨rfl, hb6⟩
    obtain ⟨-, -, -, -, -, O6, Q6, hB6⟩ := C5.out _ hb6
    have c6 := O6.2
    have d6 := Q6.2
    have hl6 := O6.1
    have hl6' := Q6.1
    have hbr := hb6
    have HC6 : Hid (∀ w', Below W5.heap.size W5 w' → w'.cell? ⟨w.heap.size, 0, none⟩ = some (.slice a n c) ∧ w'.cell? ⟨w4.heap.size, 0, none⟩ = some (.slice a4 n c4)) := fun w' h => ⟨(C5.out _ h).2.2.2.2.2.1.2, (C5.out _ h).2.2.2.2.2.2.1.2⟩
    have HT6 : Hid (∀ w', Below W5.heap.size W5 w' → Calls Try.prog 36 #[.agg #[.slice a n c]] w' fun e w'' => ∃ a c, e = .returned (.agg #[.slice a n c]) ∧ Below w'.heap.size w' w'' ∧ w''.ownsRow w'.heap.size 28 4 (.slice a n c) n (flR l)) := fun w' h => hT w' (C5.out _ h).2.2.2.2.2.2.2
    have HE6 : Hid (∀ w' u, Below W5.heap.size W5 w' → Rcs w' u l → Calls Try.prog 37 #[.agg #[.slice a4 n c4], .agg #[u]] w' fun e w'' => e = .returned (.bool true) ∧ Below w'.heap.size w' w'') := fun w' u h hu => hE _ _ w' (own_rcs' (C5.out _ h).2.2.2.2.1) hu
    clear j3 j5 p0 p1 p2 p3 p4 p5 hE hb6 O6 Q6 hB6
    go_wp2_with fail
    go_region_held3 (fun w' => w'.cell? ⟨w.heap.size, 0, none⟩ = some (.slice a n c) ∧ w'.cell? ⟨w4.heap.size, 0, none⟩ = some (.slice a4 n c4))
      (first | exact ⟨c6, d6⟩ | exact HC6.out _ hbr | exact HC6.out _ hbr.drew)
      (first
        | (go_at_call 36; refine (HT6.out _ (by first | exact hbr | exact hbr.drew)).mono ?_; rintro e w7 ⟨a7, c7, rfl, hb7, o7⟩; have hbr : Below W5.heap.size W5 w7 := (by first | exact below_after_of hbr hb7 | exact below_after_of hbr.drew hb7))
        | (go_at_call 37; refine (HE6.out _ _ (by first | exact hbr | exact hbr.drew) (own_rcs' o7)).mono ?_; rintro e w8 ⟨rfl, hb8⟩; have hbr : Below W5.heap.size W5 w8 := (by first | exact below_after_of hbr hb8 | exact below_after_of hbr.drew hb8)))
    obtain ⟨Q2, Q4, j3, j5, j4, O8, Q8, hB8⟩ := C5.out _ hbr
    have d8 := Q8.2
    have hl8 := Q8.1
    have hz8 : W5.heap.size ≤ w8.heap.size := hbr.size
    have HP5 : Hid (w5.heap.size < w8.heap.size) := Q4.1
    clear HT6 HE6 HC6 o7 hb7 hb8 c6 d6 hl6 hl6' C5 hbr Q8
    -- the argument is marked
    go_wp2_with fail
    refine (hMk _ _ 1 _ j4 (by omega)).mono ?_
    rintro e w9 ⟨rfl, hg9, own9⟩
    have hap : ∀ k, (Value.slice a4 n c4).ownBlock = some k → W3.heap.size ≤ k ∧ k < w4.heap.size := hlt4
    have hL3 := HL3.out
    have hL4 := HL4.out
    have hL5 := HL5.out
    have Q2 := Q2.grown hg9 (fun e => by have := hap _ e.symm; omega)
    have Q4 := Q4.grown hg9 (fun e => by have := hap _ e.symm; omega)
    have O9 := O8.grown hg9 (fun e => by have := hap _ e.symm; omega)
    have j3 := j3.grown hg9 (apart_lt (fun k hk j hj => by have := hlt3 k hk; have := hap j hj; omega))
    have j5 := own_grown j5 hg9 (apart_gt (fun k hk j hj => by have := hlt5 k hk; have := hap j hj; omega))
    have hB9 := hB8.grown hg9 hB8.size (fun k hk => by have := hap k hk; omega)
    clear hg9 own9 j4 hB8 O8 d8 hl8 hMk hz8
    obtain ⟨p0, p1, p2⟩ := Q2
    obtain ⟨p3, p4, p5⟩ := Q4
    have Q2 : Pair w9 w3.heap.size (.int .i64 code) (.slice a3 ys.length c3) := ⟨p0, p1, p2⟩
    have Q4 : Pair w9 w5.heap.size (.int .i64 code) (.slice a5 ys.length c5) := ⟨p3, p4, p5⟩
    have i5 := own_prs j5
    clear hL3 hL4 hL5
    go_wp2_with fail
    -- the two are still the same
    refine (eqSlotsResult_same code _ _ ys _ i5 j3 (by omega)).mono ?_
    rintro e w10 ⟨rfl, hb10⟩
    have Q2 := Q2.below hb10
    have Q4 := Q4.below hb10
    have O10 := O9.below hb10
    have j3 := j3.below hb10
    have j5 := own_below j5 hb10
    have hB10 := below_after_of hB9 hb10
    clear hb10 hB9 O9 i5 p0 p1 p2 p3 p4 p5
    obtain ⟨p3, p4, p5⟩ := Q4
    have Q4 : Pair w10 w5.heap.size (.int .i64 code) (.slice a5 ys.length c5) := ⟨p3, p4, p5⟩
    go_wp2_with fail
    -- the answer is marked
    refine (markSlotsResult_any W4.heap.size code _ ys 1 _ j5 (by omega) (by omega)).mono ?_
    rintro e w11 ⟨rfl, hg11, own11⟩
    have hap : ∀ k, (Value.slice a5 ys.length c5).ownBlock = some k → W4.heap.size ≤ k ∧ k < w5.heap.size := hlt5
    have hL3 := HL3.out
    have hL4 := HL4.out
    have hL5 := HL5.out
    have Q2 := Q2.grown hg11 (fun e => by have := hap _ e.symm; omega)
    have Q4 := Q4.grown hg11 (fun e => by have := hap _ e.symm; omega)
    have O11 := O10.grown hg11 (fun e => by have := hap _ e.symm; omega)
    have j3 := j3.grown hg11 (apart_lt (fun k hk j hj => by have := hlt3 k hk; have := hap j hj; omega))
    have hB11 := hB10.grown hg11 hB10.size (fun k hk => by have := hap k hk; omega)
    have m11 : Prs w11 (.slice a5 ys.length c5) (mkP 1 ys.length) := own_prs_n (mkP_len _ _).symm own11
    have C11 : Hid (∀ w', Below w11.heap.size w11 w' → Pair w' w3.heap.size (.int .i64 code) (.slice a3 ys.length c3) ∧ Pair w' w5.heap.size (.int .i64 code) (.slice a5 ys.length c5) ∧ Prs w' (.slice a3 ys.length c3) ys ∧ Prs w' (.slice a5 ys.length c5) (mkP 1 ys.length) ∧ One w' w.heap.size (.slice a n c) ∧ Below w.heap.size w w') :=
      fun w' h => ⟨Q2.below h, Q4.below h, j3.below h, m11.below h, O11.below h, below_after_of hB11 h⟩
    clear hg11 own11 j5 hB10 p3 p4 p5 hL3 hL4 hL5 O10
    obtain ⟨p3, p4, p5⟩ := Q4
    clear Q2 j3 hB11 O11
    go_wp2_with fail
    refine (heldSlotsResult_any code _ ys.length 1 _ m11 (by omega) (by omega)).mono ?_
    rintro e w12 ⟨rfl, hb12⟩
    obtain ⟨-, -, -, -, O12, hB12⟩ := C11.out _ hb12
    have c12 := O12.2
    clear p3 p4 p5 m11
    go_wp2_with fail
    refine (hT _ hB12).mono ?_
    rintro e w13 ⟨a13, c13, rfl, hb13, own13⟩
    have hb13' := below_after_of hb12 hb13
    clear c12 O12
    go_wp2_with fail
    -- the program's answer, once more
    refine (hI _ _ (own_rcs' own13)).mono ?_
    intro e w14 h14
    obtain ⟨a14, c14, rfl, hb14, own14⟩ := h14.use
    obtain ⟨W14, hW14⟩ : ∃ W14, W14 = w14.alloc (.cells #[.int .i64 code, .slice a14 ys.length c14] 53) := ⟨_, rfl⟩
    have HW14 : Hid (w14.alloc (.cells #[.int .i64 code, .slice a14 ys.length c14] 53) = W14) := hW14.symm
    have hN14 : Below w14.heap.size w14 W14 := by rw [hW14]; exact one_new _
    have P14 : Pair W14 w14.heap.size (.int .i64 code) (.slice a14 ys.length c14) := by rw [hW14]; exact Pair.new w14 _ _ _
    have i14 := (own_prs own14).below hN14
    have hb14' := below_after_of (below_after_of hb13' hb14) hN14
    obtain ⟨Q2, -, k3, -, -, -⟩ := C11.out _ hb14'
    obtain ⟨p0, p1, p2⟩ := Q2
    obtain ⟨p3, p4, p5⟩ := P14
    rw [← HW14.out] at p1 p2 p4 p5
    clear h14 own14 own13 hb12 hb13 hb13' hb14 hB12 hW14 hN14
    go_wp2_with fail
    rw [HW14.out]
    refine (eqSlotsResult_same code _ _ ys _ i14 k3 (by omega)).mono ?_
    rintro e w15 ⟨rfl, hb15⟩
    have hb15' := below_after_of hb14' hb15
    obtain ⟨-, Q4, -, m15, -, hB15⟩ := C11.out _ hb15'
    clear p0 p1 p2 p3 p4 p5 i14 k3 hb14' hb15 hb15' C11
    obtain ⟨p3, p4, p5⟩ := Q4
    go_wp2_with fail
    refine (heldSlotsResult_any code _ ys.length 1 _ m15 (by omega) (by omega)).mono ?_
    rintro e w16 ⟨rfl, hb16⟩
    have hB16 := below_after_of hB15 hb16
    clear m15 p3 p4 p5 hb16 hB15
    go_wp2
    go_ret
    exact ⟨rfl, hB16⟩
end U
end Go.Proofs.Ythmnjojjnlnbjaa
