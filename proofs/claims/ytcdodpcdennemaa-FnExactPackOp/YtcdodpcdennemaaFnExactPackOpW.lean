/- The law on PackOp, walked: true, and nothing that was there has turned. -/
import Derived.Test.YtcdodpcdennemaaJr4
import Derived.Test.YtcdodpcdennemaaJrL
import Derived.Test.YtcdodpcdennemaaJr7
import Derived.Test.YtcdodpcdennemaaOwn
import Derived.Test.YtcdodpcdennemaaEqR
import Derived.Test.YtcdodpcdennemaaByteS
namespace Go.Proofs.Ytcdodpcdennemaa
open Go.RowKit
namespace U
set_option maxRecDepth 100000 in
set_option maxHeartbeats 4000000 in
theorem fnExactPackOp_small (kd : Int) (s : ByteArray) (v o p sc nn : Int) (w : World) (h : s.size ≤ 1048576) :
    Calls Try.prog 3 #[.agg #[.int .i64 kd, .string s, .int .i64 v, .int .i64 o, .int .i64 p, .int .i64 sc, .int .i64 nn]] w fun e w' => e = .returned (.bool true) ∧ Below w.heap.size w w' := by
  have hZ := fun w => szOp_any kd s v o p sc nn w (by unfold maxLen; omega)
  have R0 := OpAt.new w kd s v o p sc nn 25
  rw [if_pos h] at hZ
  have hS := fun w => specPackOp_any kd s v o p sc nn w h
  have hI := fun w => implPackOp_any kd s v o p sc nn w h
  have hT := fun w => toOp_any kd s v o p sc nn w
  have h2 : ¬ ((1048576 - s.size : Int) < 0) := by omega
  have hlb := opP_len kd s v o p sc nn
  generalize (1048576 - s.size : Int) = z at *
  generalize opC kd s v o p sc nn = code at *
  generalize opP kd s v o p sc nn = ys at *
  unfold opV at *
  have hln : decide (((1 + ys.length : Nat) : Int) < 0) = false := by simp; omega
  go_enter Try.func3, Try.ntmps3
  go_wp2_with fail
  refine (hZ _).mono ?_
  rintro e w1 ⟨rfl, hb1⟩
  have R1 := R0.below hb1
  have hB1 := below_after hb1
  have hsz1 : w.heap.size < w1.heap.size := by have := hb1.size; simp at this; omega
  have ⟨c0, c1, c2, c3, c4, c5, c6⟩ := R1
  clear hb1 R0 hZ
  go_wp2_with fail
  refine (hT _).mono ?_
  rintro e wt ⟨rfl, hbt⟩
  go_wp2_with fail
  -- the model's answer
  refine (hS _).mono ?_
  intro e w2 h2'
  obtain ⟨a2, k2, rfl, hb2, own2⟩ := h2'.use
  have hb2' := below_after_of (below_after_of hbt hb2) (one_new (.cells #[.int .i64 code, .slice a2 ys.length k2] 29))
  have R2 := R1.below hb2'
  have hB2 := below_after_of hB1 hb2'
  have P2 := Pair.new w2 (.int .i64 code) (.slice a2 ys.length k2) 29
  have i2 := (own_ints own2).below (one_new (.cells #[.int .i64 code, .slice a2 ys.length k2] 29))
  have hlt2 := fun k hk => own2.lt k hk
  have hlw2 : w.heap.size < w2.heap.size := Nat.lt_of_lt_of_le hsz1 (Nat.le_trans hbt.size hb2.size)
  clear h2' hS hb2 hbt own2 c0 c1 c2 c3 c4 c5 c6 R1 hB1 hb2' hsz1
  have ⟨c0, c1, c2, c3, c4, c5, c6⟩ := R2
  go_wp2_with fail
  refine (hT _).mono ?_
  rintro e w3 ⟨rfl, hb3⟩
  go_wp2_with fail
  -- the program's answer
  refine (hI _).mono ?_
  intro e w4 h4
  obtain ⟨a4, k4, rfl, hb4, own4⟩ := h4.use
  obtain ⟨W4, hW4⟩ : ∃ W4, W4 = w4.alloc (.cells #[.int .i64 code, .slice a4 ys.length k4] 29) := ⟨_, rfl⟩
  have hN4 : Below w4.heap.size w4 W4 := by rw [hW4]; exact one_new _
  have hb34 := below_after_of hb3 hb4
  have hB4 := below_after_of (below_after_of hB2 hb34) hN4
  have C4 : Hid (∀ w', Below W4.heap.size W4 w' → OpAt w' w.heap.size kd s v o p sc nn ∧ Pair w' w2.heap.size (.int .i64 code) (.slice a2 ys.length k2) ∧ Pair w' w4.heap.size (.int .i64 code) (.slice a4 ys.length k4) ∧ Ints .u8 w' (.slice a2 ys.length k2) ys ∧ w'.ownsRow w3.heap.size 5 1 (.slice a4 ys.length k4) ys.length (ys.map (Value.int .u8)) ∧ Below w.heap.size w w') := by
    intro w' h
    have h0 := below_after_of hb34 hN4
    refine ⟨(R2.below h0).below h, (P2.below h0).below h, ?_, (i2.below h0).below h, own_below (own_below own4 hN4) h, below_after_of hB4 h⟩
    rw [hW4] at h; exact (Pair.new w4 _ _ _).below h
  have hlt4 := fun k hk => own4.lt k hk
  have hz2 : w2.heap.size < w3.heap.size := Nat.lt_of_lt_of_le P2.1 hb3.size
  have hz3 : w3.heap.size ≤ w4.heap.size := hb4.size
  obtain ⟨-, p0, p1⟩ := P2.below (below_after_of hb34 hN4)
  have HW4 : Hid (W4 = w4.alloc (.cells #[.int .i64 code, .slice a4 ys.length k4] 29)) := hW4
  rw [hW4] at p0 p1
  clear h4 own4 hb4 hb3 hb34 hN4 i2 hW4 hB4 hB2 R2 c0 c1 c2 c3 c4 c5 c6 P2
  go_wp2_with fail
  rw [← HW4.out]
  clear p0 p1 HW4
  -- the two are the same
  obtain ⟨_, _, _, j2, j4, _⟩ := C4.out W4 (Below.refl _ _)
  refine (eqBytesResult_same code _ _ ys _ (own_ints j4) j2 (by omega)).mono ?_
  rintro e w5 ⟨rfl, hb5⟩
  clear j2 j4
  obtain ⟨R, Q2, Q4, j2, j4, hB5⟩ := C4.out _ hb5
  have p3 := Q4.2.1
  have p4 := Q4.2.2
  clear hb5 C4
  go_wp2_with fail
  -- the answer is marked
  refine (markBytesResult_any w3.heap.size code _ ys 1 _ j4 (by omega) (by omega)).mono ?_
  rintro e w10 ⟨rfl, hg10, own10⟩
  have R := R.grown hg10 (fun e => by have := hlt4 _ e.symm; omega)
  have Q2 := Q2.grown hg10 (fun e => by have := hlt4 _ e.symm; omega)
  have Q4 := Q4.grown hg10 (fun e => by have := hlt4 _ e.symm; omega)
  have j2 := j2.grown hg10 (apart_lt (fun k hk j hj => by have := hlt2 k hk; have := hlt4 j hj; omega))
  have hB10 := hB5.grown hg10 hB5.size (fun k hk => by have := hlt4 k hk; have := hlw2; omega)
  have m10 : Ints .u8 w10 (.slice a4 ys.length k4) (marksB 1 ys.length) := own_ints_n (marksB_len _ _).symm own10
  have C10 : Hid (∀ w', Below w10.heap.size w10 w' → OpAt w' w.heap.size kd s v o p sc nn ∧ Pair w' w2.heap.size (.int .i64 code) (.slice a2 ys.length k2) ∧ Pair w' w4.heap.size (.int .i64 code) (.slice a4 ys.length k4) ∧ Ints .u8 w' (.slice a2 ys.length k2) ys ∧ Ints .u8 w' (.slice a4 ys.length k4) (marksB 1 ys.length) ∧ Below w.heap.size w w') :=
    fun w' h => ⟨R.below h, Q2.below h, Q4.below h, j2.below h, m10.below h, below_after_of hB10 h⟩
  clear hg10 own10 j4 hB5 hlt4 p3 p4 hlt2
  have p3 := Q4.2.1
  have p4 := Q4.2.2
  clear Q2 Q4 j2 hB10 R
  go_wp2_with fail
  refine (heldBytesResult_any code _ ys.length 1 _ m10 (by omega) (by omega)).mono ?_
  rintro e w11 ⟨rfl, hb11⟩
  have ⟨c0, c1, c2, c3, c4, c5, c6⟩ := (C10.out _ hb11).1
  clear p3 p4 m10
  go_wp2_with fail
  refine (hT _).mono ?_
  rintro e w12 ⟨rfl, hb12⟩
  have hb12' := below_after_of hb11 hb12
  go_wp2_with fail
  -- the program's answer, once more
  refine (hI _).mono ?_
  intro e w13 h13
  obtain ⟨a13, k13, rfl, hb13, own13⟩ := h13.use
  have hb13' := below_after_of hb12' hb13
  obtain ⟨_, Q2, _, _, _, _⟩ := C10.out _ hb13'
  have i13 := (own_ints own13).below (one_new (.cells #[.int .i64 code, .slice a13 ys.length k13] 29))
  have hb13n := below_after_of hb13' (one_new (.cells #[.int .i64 code, .slice a13 ys.length k13] 29))
  obtain ⟨p2, p0, p1⟩ := Q2.below (one_new (.cells #[.int .i64 code, .slice a13 ys.length k13] 29))
  clear h13 own13 hb11 hb12 hb12' hb13 hb13' c0 c1 c2 c3 c4 c5 c6 Q2
  go_wp2_with fail
  refine (eqBytesResult_same code _ _ ys _ i13 (C10.out _ hb13n).2.2.2.1 (by omega)).mono ?_
  rintro e w14 ⟨rfl, hb14⟩
  have hb14' := below_after_of hb13n hb14
  obtain ⟨_, _, Q4, _, m14, hB14⟩ := C10.out _ hb14'
  clear p0 p1 p2 i13 hb13n hb14 hb14' C10
  have p3 := Q4.2.1
  have p4 := Q4.2.2
  go_wp2_with fail
  refine (heldBytesResult_any code _ ys.length 1 _ m14 (by omega) (by omega)).mono ?_
  rintro e w15 ⟨rfl, hb15⟩
  have hB15 := below_after_of hB14 hb15
  clear m14 p3 p4 Q4 hb15 hB14
  go_wp2
  go_ret
  exact ⟨rfl, hB15⟩
set_option maxRecDepth 100000 in
set_option maxHeartbeats 1000000 in
theorem fnExactPackOp_walk (kd : Int) (s : ByteArray) (v o p sc nn : Int) (hs : s.size ≤ maxLen) (w : World) :
    Calls Try.prog 3 #[.agg #[.int .i64 kd, .string s, .int .i64 v, .int .i64 o, .int .i64 p, .int .i64 sc, .int .i64 nn]] w fun e w' => e = .returned (.bool true) ∧ Below w.heap.size w w' := by
  by_cases h : s.size ≤ 1048576
  · exact fnExactPackOp_small kd s v o p sc nn w h
  · have hZ := fun w => szOp_any kd s v o p sc nn w hs
    rw [if_neg h] at hZ
    unfold opV at *
    go_enter Try.func3, Try.ntmps3
    go_wp2_with fail
    refine (hZ _).mono ?_
    rintro e w1 ⟨rfl, hb1⟩
    go_wp2
    go_ret
    exact ⟨rfl, below_after hb1⟩
end U
end Go.Proofs.Ytcdodpcdennemaa
