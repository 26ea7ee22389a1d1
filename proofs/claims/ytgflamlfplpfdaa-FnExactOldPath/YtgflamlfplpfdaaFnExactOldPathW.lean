/- The law on FnExactOldPath, walked: true, and nothing that was there has turned. -/
import Derived.Test.YtgflamlfplpfdaaSl19
import Derived.Test.YtgflamlfplpfdaaEqR
namespace Go.Proofs.Ytgflamlfplpfdaa
open Go.RowKit
namespace U
set_option maxRecDepth 100000 in
set_option maxHeartbeats 4000000 in
theorem fnExactOldPath_small (v : Value) (l : Prl) (x : Int) (w : World) (hv : Prs w v l) (hx : l.length ≤ 1048576) :
    Calls Try.prog 9 #[v, .int .i64 x] w fun e w' => e = .returned (.bool true) ∧ Below w.heap.size w w' := by
  obtain ⟨a, c, rfl⟩ := hv.shape
  have hZ := fun w => szSlotS_any a l.length c w (by unfold maxLen; omega)
  rw [if_pos hx] at hZ
  have hS := fun w u hu => specOldPath_any u l x w hu (by omega)
  have hI := fun w u hu ho => implOldPath_any u l x w hu ho (by omega)
  have hT := fun w (h : Prs w (.slice a l.length c) l) => toSlotS_any _ l w h hx
  have hlb := Nat.le_trans (opL_len l x) (show 8 ≤ 1048576 by omega)
  have hM := fun B v k0 w h => markSlotS_any B v l k0 w h (by omega)
  have hE := fun v u w h1 h2 => eqSlotS_any v u l l w h1 h2 (by omega) (by omega)
  rw [decide_eq_true rfl] at hE
  have hz0 : ¬ ((1048576 - l.length : Int) < 0) := by omega
  generalize (1048576 - l.length : Int) = z at *
  generalize opC l x = code at *
  generalize opL l x = ys at *
  obtain ⟨n, hn⟩ : ∃ n, n = l.length := ⟨_, rfl⟩
  rw [← hn] at hx hv hT hM hZ ⊢
  have HN : Hid (n = l.length) := hn
  have HV : Hid (∀ w', Below w.heap.size w w' → Prs w' (.slice a n c) l) := fun w' h => hv.below h
  clear hn hv
  have hkn : decide (((1 + n * 2 : Nat) : Int) < 0) = false := by simp; omega
  have hln : decide (((1 + ys.length : Nat) : Int) < 0) = false := by simp; omega
  go_enter Try.func9, Try.ntmps9
  go_wp2_with fail
  refine (hZ _).mono ?_
  rintro e w0 ⟨rfl, rfl⟩
  clear hZ
  go_wp2_with fail
  refine (hT _ (HV.out _ (Below.refl _ _))).mono ?_
  rintro e w1 ⟨a1, c1, rfl, hb1, own1⟩
  have i1 := own_prs_n HN.out own1
  clear own1
  go_wp2_with fail
  -- the model's answer
  refine (hS _ _ i1).mono ?_
  intro e w2 h2
  obtain ⟨a2, c2, t2, rfl, hb2, own2⟩ := h2.use
  have hB2 := below_after_of (below_after_of hb1 hb2) (one_new (.cells #[.int .i64 code, .slice a2 ys.length c2] 44))
  have P2 := Pair.new w2 (.int .i64 code) (.slice a2 ys.length c2) 44
  have i2 := (own_ints own2).below (one_new (.cells #[.int .i64 code, .slice a2 ys.length c2] 44))
  have hlt2 := fun k hk => own2.lt k hk
  have hlw2 : w0.heap.size ≤ w2.heap.size := Nat.le_trans hb1.size hb2.size
  have hlw1 : w0.heap.size ≤ w1.heap.size := hb1.size
  clear h2 hS i1 hb1 hb2 own2
  go_wp2_with fail
  -- the argument, copied
  refine (hT _ (HV.out _ hB2)).mono ?_
  rintro e w3 ⟨a3, c3, rfl, hb3, own3⟩
  have hB3 := below_after_of hB2 hb3
  have P2 := P2.below hb3
  have i2 := i2.below hb3
  have hlt3 := fun k hk => own3.lt k hk
  have i3 := own_prs_n HN.out own3
  have ok3 := own_okv own3
  clear hB2 hb3
  go_wp2_with fail
  -- the program's answer
  refine (hI _ _ i3 ok3).mono ?_
  intro e w4 h4
  obtain ⟨a4, c4, t4, rfl, hb4, own4⟩ := h4.use
  obtain ⟨W4, hW4⟩ : ∃ W4, W4 = w4.alloc (.cells #[.int .i64 code, .slice a4 ys.length c4] 44) := ⟨_, rfl⟩
  have hN4 : Below w4.heap.size w4 W4 := by rw [hW4]; exact one_new _
  have hB4 := below_after_of (below_after_of hB3 hb4) hN4
  have C4 : Hid (∀ w', Below W4.heap.size W4 w' → Pair w' w2.heap.size (.int .i64 code) (.slice a2 ys.length c2) ∧ Pair w' w4.heap.size (.int .i64 code) (.slice a4 ys.length c4) ∧ Ints .i64 w' (.slice a2 ys.length c2) ys ∧ w'.ownsRow w3.heap.size t4 1 (.slice a4 ys.length c4) ys.length (ys.map (Value.int .i64)) ∧ w'.ownsRow (w2.heap.size + 1) 26 2 (.slice a3 n c3) n ((fl l).map (Value.int .i64)) ∧ Below w0.heap.size w0 w' ∧ w4.heap.size < w'.heap.size) := by
    intro w' h
    have h0 := below_after_of hb4 hN4
    refine ⟨(P2.below h0).below h, ?_, (i2.below h0).below h, own_below (own_below own4 hN4) h, own_below (own_below ?_ h0) h, below_after_of hB4 h, ?_⟩
    · rw [hW4] at h; exact (Pair.new w4 _ _ _).below h
    · simpa using own3
    · have := h.size; rw [hW4] at this; simp at this; omega
  have hlt4 := fun k hk => own4.lt k hk
  have hz2 : w2.heap.size < w3.heap.size := P2.1
  have hz3 : w3.heap.size ≤ w4.heap.size := hb4.size
  have hlt3 : ∀ k, (Value.slice a3 n c3).ownBlock = some k → w2.heap.size + 1 ≤ k ∧ k < w3.heap.size := fun k hk => by have := hlt3 k hk; simpa using this
  have P2 := P2.below hb4
  have p0 := P2.2.1
  have p1 := P2.2.2
  have p2 := P2.1
  have HW4 : Hid (W4 = w4.alloc (.cells #[.int .i64 code, .slice a4 ys.length c4] 44)) := hW4
  clear h4 own3 own4 hb4 i3 hB3 hN4 P2 i2 hW4 hB4 ok3
  go_wp2_with fail
  rw [← HW4.out]
  clear p0 p1 HW4
  -- the two are the same
  obtain ⟨_, _, j2, j4, _, _, _⟩ := C4.out W4 (Below.refl _ _)
  refine (eqIntsResult_same code _ _ ys _ (own_ints j4) j2 (by omega)).mono ?_
  rintro e w5 ⟨rfl, hb5⟩
  clear j2 j4
  have hB5 := (C4.out _ hb5).2.2.2.2.2.1
  go_wp2_with fail
  refine (hT _ (HV.out _ hB5)).mono ?_
  rintro e w6 ⟨a6, c6, rfl, hb6, own6⟩
  have hb6' := below_after_of hb5 hb6
  have j3 := (C4.out _ hb6').2.2.2.2.1
  go_wp2_with fail
  refine (hE _ _ _ (own_prs_n HN.out j3) (own_prs_n HN.out own6)).mono ?_
  rintro e w7 ⟨rfl, hbe⟩
  have hb7 := below_after_of hb6' hbe
  obtain ⟨Q2, Q4, j2, j4, j3, hB7, hz7⟩ := C4.out _ hb7
  clear own6 hb5 hb6 hb6' hB5 C4 hbe
  -- the argument is marked
  go_wp2_with fail
  refine (hM _ _ 1 _ j3 (by omega)).mono ?_
  rintro e w8 ⟨rfl, hg8, own8⟩
  have Q2 := Q2.grown hg8 (fun e => by have := hlt3 _ e.symm; omega)
  have Q4 := Q4.grown hg8 (fun e => by have := hlt3 _ e.symm; omega)
  have j2 := j2.grown hg8 (apart_lt (fun k hk j hj => by have := hlt2 k hk; have := hlt3 j hj; omega))
  have j4 := own_grown j4 hg8 (apart_gt (fun k hk j hj => by have := hlt4 k hk; have := hlt3 j hj; omega))
  have hB8 := hB7.grown hg8 hB7.size (fun k hk => by have := hlt3 k hk; have := hlw2; omega)
  have hz8 : w4.heap.size < w8.heap.size := Nat.lt_of_lt_of_le hz7 hg8.size
  clear hg8 own8 j3 hB7 hz7 hlt3
  have p0 := Q2.2.1
  have p1 := Q2.2.2
  have p2 := Q2.1
  have p3 := Q4.2.1
  have p4 := Q4.2.2
  go_wp2_with fail
  -- the two are still the same
  refine (eqIntsResult_same code _ _ ys _ (own_ints j4) j2 (by omega)).mono ?_
  rintro e w9 ⟨rfl, hb9⟩
  have Q2 := Q2.below hb9
  have Q4 := Q4.below hb9
  have j2 := j2.below hb9
  have j4 := own_below j4 hb9
  have hB9 := below_after_of hB8 hb9
  have hz9 : w4.heap.size < w9.heap.size := Nat.lt_of_lt_of_le hz8 hb9.size
  clear hb9 hB8 hz8 p0 p1 p2 p3 p4
  have p3 := Q4.2.1
  have p4 := Q4.2.2
  go_wp2_with fail
  -- the answer is marked
  refine (markNumsResult_any w3.heap.size t4 code _ ys 1 _ j4 (by omega) (by omega)).mono ?_
  rintro e w10 ⟨rfl, hg10, own10⟩
  have Q2 := Q2.grown hg10 (fun e => by have := hlt4 _ e.symm; omega)
  have Q4 := Q4.grown hg10 (fun e => by have := hlt4 _ e.symm; omega)
  have j2 := j2.grown hg10 (apart_lt (fun k hk j hj => by have := hlt2 k hk; have := hlt4 j hj; omega))
  have hB10 := hB9.grown hg10 hB9.size (fun k hk => by have := hlt4 k hk; have := hlw2; omega)
  have m10 : Ints .i64 w10 (.slice a4 ys.length c4) (marks 1 ys.length) := own_ints_n (marks_len _ _).symm own10
  have C10 : Hid (∀ w', Below w10.heap.size w10 w' → Pair w' w2.heap.size (.int .i64 code) (.slice a2 ys.length c2) ∧ Pair w' w4.heap.size (.int .i64 code) (.slice a4 ys.length c4) ∧ Ints .i64 w' (.slice a2 ys.length c2) ys ∧ Ints .i64 w' (.slice a4 ys.length c4) (marks 1 ys.length) ∧ Below w0.heap.size w0 w') :=
    fun w' h => ⟨Q2.below h, Q4.below h, j2.below h, m10.below h, below_after_of hB10 h⟩
  clear hg10 own10 j4 hB9 hz9 hlt4 p3 p4 hlt2
  have p3 := Q4.2.1
  have p4 := Q4.2.2
  clear Q2 Q4 j2 hB10
  go_wp2_with fail
  refine (heldIntsResult_any code _ ys.length 1 _ m10 (by omega) (by omega)).mono ?_
  rintro e w11 ⟨rfl, hb11⟩
  have hB11 := (C10.out _ hb11).2.2.2.2
  clear p3 p4 m10
  go_wp2_with fail
  refine (hT _ (HV.out _ hB11)).mono ?_
  rintro e w12 ⟨a12, c12, rfl, hb12, own12⟩
  have hb12' := below_after_of hb11 hb12
  go_wp2_with fail
  -- the program's answer, once more
  refine (hI _ _ (own_prs_n HN.out own12) (own_okv own12)).mono ?_
  intro e w13 h13
  obtain ⟨a13, c13, t13, rfl, hb13, own13⟩ := h13.use
  have hb13' := below_after_of hb12' hb13
  obtain ⟨Q2, Q4, _, _, _⟩ := C10.out _ hb13'
  have i13 := (own_ints own13).below (one_new (.cells #[.int .i64 code, .slice a13 ys.length c13] 44))
  have hb13n := below_after_of hb13' (one_new (.cells #[.int .i64 code, .slice a13 ys.length c13] 44))
  clear h13 own13 own12 hb11 hb12 hb12' hb13 hb13' hB11
  have p0 := Q2.2.1
  have p1 := Q2.2.2
  have p2 := Q2.1
  go_wp2_with fail
  refine (eqIntsResult_same code _ _ ys _ i13 (C10.out _ hb13n).2.2.1 (by omega)).mono ?_
  rintro e w14 ⟨rfl, hb14⟩
  have hb14' := below_after_of hb13n hb14
  obtain ⟨_, Q4, _, m14, hB14⟩ := C10.out _ hb14'
  clear Q2 p0 p1 p2 i13 hb13n hb14 hb14' C10
  have p3 := Q4.2.1
  have p4 := Q4.2.2
  go_wp2_with fail
  refine (heldIntsResult_any code _ ys.length 1 _ m14 (by omega) (by omega)).mono ?_
  rintro e w15 ⟨rfl, hb15⟩
  have hB15 := below_after_of hB14 hb15
  clear m14 p3 p4 Q4 hb15 hB14
  go_wp2
  go_ret
  exact ⟨rfl, hB15⟩
set_option maxRecDepth 100000 in
set_option maxHeartbeats 1000000 in
theorem fnExactOldPath_walk (v : Value) (l : Prl) (x : Int) (w : World) (hv : Prs w v l) (hl : l.length ≤ maxLen) :
    Calls Try.prog 9 #[v, .int .i64 x] w fun e w' => e = .returned (.bool true) ∧ Below w.heap.size w w' := by
  by_cases h : l.length ≤ 1048576
  · exact fnExactOldPath_small v l x w hv h
  · obtain ⟨a, c, rfl⟩ := hv.shape
    have hZ := fun w => szSlotS_any a l.length c w hl
    rw [if_neg h] at hZ
    generalize l.length = n at *
    clear hv
    go_enter Try.func9, Try.ntmps9
    go_wp2_with fail
    refine (hZ _).mono ?_
    rintro e w1 ⟨rfl, rfl⟩
    clear hZ
    go_wp2
    go_ret
    exact ⟨rfl, Below.refl _ _⟩
end U
end Go.Proofs.Ytgflamlfplpfdaa
