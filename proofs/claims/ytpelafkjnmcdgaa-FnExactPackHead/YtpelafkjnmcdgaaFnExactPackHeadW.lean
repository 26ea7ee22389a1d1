/- The law on PackHead, walked: true, and nothing that was there has turned. -/
import Derived.Test.YtpelafkjnmcdgaaHdL
import Derived.Test.YtpelafkjnmcdgaaOwn
import Derived.Test.YtpelafkjnmcdgaaEqR
import Derived.Test.YtpelafkjnmcdgaaByteS
namespace Go.Proofs.Ytpelafkjnmcdgaa
open Go.RowKit
namespace U
set_option maxRecDepth 100000 in
set_option maxHeartbeats 4000000 in
theorem fnExactPackHead_walk (e p o n v : Int) (w : World) :
    Calls Try.prog 6 #[.agg #[.int .i64 e, .int .i64 p, .int .i64 o, .int .i64 n, .int .i64 v]] w fun x w' => x = .returned (.bool true) ∧ Below w.heap.size w w' := by
  have R0 := HdS.new w ⟨e, p, o, n, v⟩ 64
  have hS := fun w => specPackHead_any e p o n v w
  have hI := fun w => implPackHead_any e p o n v w
  have hT := fun w => toHead_any e p o n v w
  have hlb := hdL_len e p o n v
  generalize hdC e p o n v = code at *
  generalize hdL e p o n v = ys at *
  unfold hdV at *
  dsimp only at R0
  have hln : decide (((1 + ys.length : Nat) : Int) < 0) = false := by simp; omega
  obtain ⟨w1, hw1⟩ : ∃ w1, w1 = w.alloc (.cells #[.int .i64 e, .int .i64 p, .int .i64 o, .int .i64 n, .int .i64 v] 64) := ⟨_, rfl⟩
  have R1 : HdS w1 w.heap.size 0 ⟨e, p, o, n, v⟩ := by rw [hw1]; exact R0
  have hB1 : Below w.heap.size w w1 := by rw [hw1]; exact one_new _
  have hsz1 : w.heap.size < w1.heap.size := by rw [hw1]; simp
  have ⟨c0, c1, c2, c3, c4⟩ := R0
  go_enter Try.func6, Try.ntmps6
  go_wp2_with fail
  rw [← hw1]
  clear R0 hw1
  refine (hT _).mono ?_
  rintro x wt ⟨rfl, hbt⟩
  go_wp2_with fail
  -- the model's answer
  refine (hS _).mono ?_
  intro x w2 h2'
  obtain ⟨a2, k2, rfl, hb2, own2⟩ := h2'.use
  have hb2' := below_after_of (below_after_of hbt hb2) (one_new (.cells #[.int .i64 code, .slice a2 ys.length k2] 70))
  have R2 := R1.below hb2' hsz1
  have hB2 := below_after_of hB1 hb2'
  have P2 := Pair.new w2 (.int .i64 code) (.slice a2 ys.length k2) 70
  have i2 := (own_ints own2).below (one_new (.cells #[.int .i64 code, .slice a2 ys.length k2] 70))
  have hlt2 := fun k hk => own2.lt k hk
  have hlw2 : w.heap.size < w2.heap.size := Nat.lt_of_lt_of_le hsz1 (Nat.le_trans hbt.size hb2.size)
  clear h2' hS hb2 hbt own2 c0 c1 c2 c3 c4 R1 hB1 hb2' hsz1
  have ⟨c0, c1, c2, c3, c4⟩ := R2
  go_wp2_with fail
  refine (hT _).mono ?_
  rintro x w3 ⟨rfl, hb3⟩
  go_wp2_with fail
  -- the program's answer
  refine (hI _).mono ?_
  intro x w4 h4
  obtain ⟨a4, k4, rfl, hb4, own4⟩ := h4.use
  obtain ⟨W4, hW4⟩ : ∃ W4, W4 = w4.alloc (.cells #[.int .i64 code, .slice a4 ys.length k4] 70) := ⟨_, rfl⟩
  have hN4 : Below w4.heap.size w4 W4 := by rw [hW4]; exact one_new _
  have hb34 := below_after_of hb3 hb4
  have hB4 := below_after_of (below_after_of hB2 hb34) hN4
  have C4 : Hid (∀ w', Below W4.heap.size W4 w' → HdS w' w.heap.size 0 ⟨e, p, o, n, v⟩ ∧ Pair w' w2.heap.size (.int .i64 code) (.slice a2 ys.length k2) ∧ Pair w' w4.heap.size (.int .i64 code) (.slice a4 ys.length k4) ∧ Ints .u8 w' (.slice a2 ys.length k2) ys ∧ w'.ownsRow w3.heap.size 5 1 (.slice a4 ys.length k4) ys.length (ys.map (Value.int .u8)) ∧ Below w.heap.size w w') := by
    intro w' h
    have h0 := below_after_of hb34 hN4
    refine ⟨(R2.below h0 R2.lt).below h (R2.below h0 R2.lt).lt, (P2.below h0).below h, ?_, (i2.below h0).below h, own_below (own_below own4 hN4) h, below_after_of hB4 h⟩
    rw [hW4] at h; exact (Pair.new w4 _ _ _).below h
  have hlt4 := fun k hk => own4.lt k hk
  have hz2 : w2.heap.size < w3.heap.size := Nat.lt_of_lt_of_le P2.1 hb3.size
  have hz3 : w3.heap.size ≤ w4.heap.size := hb4.size
  obtain ⟨-, p0, p1⟩ := P2.below (below_after_of hb34 hN4)
  have HW4 : Hid (W4 = w4.alloc (.cells #[.int .i64 code, .slice a4 ys.length k4] 70)) := hW4
  rw [hW4] at p0 p1
  clear h4 own4 hb4 hb3 hb34 hN4 i2 hW4 hB4 hB2 R2 c0 c1 c2 c3 c4 P2
  go_wp2_with fail
  rw [← HW4.out]
  clear p0 p1 HW4
  -- the two are the same
  obtain ⟨_, _, _, j2, j4, _⟩ := C4.out W4 (Below.refl _ _)
  refine (eqBytesResult_same code _ _ ys _ (own_ints j4) j2 (by omega)).mono ?_
  rintro x w5 ⟨rfl, hb5⟩
  clear j2 j4
  obtain ⟨R, Q2, Q4, j2, j4, hB5⟩ := C4.out _ hb5
  have p3 := Q4.2.1
  have p4 := Q4.2.2
  clear hb5 C4
  go_wp2_with fail
  -- the answer is marked
  refine (markBytesResult_any w3.heap.size code _ ys 1 _ j4 (by omega) (by omega)).mono ?_
  rintro x w10 ⟨rfl, hg10, own10⟩
  have R := HdS.grown R hg10 (fun e => by have := hlt4 _ e.symm; omega)
  have Q2 := Q2.grown hg10 (fun e => by have := hlt4 _ e.symm; omega)
  have Q4 := Q4.grown hg10 (fun e => by have := hlt4 _ e.symm; omega)
  have j2 := j2.grown hg10 (apart_lt (fun k hk j hj => by have := hlt2 k hk; have := hlt4 j hj; omega))
  have hB10 := hB5.grown hg10 hB5.size (fun k hk => by have := hlt4 k hk; have := hlw2; omega)
  have m10 : Ints .u8 w10 (.slice a4 ys.length k4) (marksB 1 ys.length) := own_ints_n (marksB_len _ _).symm own10
  have C10 : Hid (∀ w', Below w10.heap.size w10 w' → HdS w' w.heap.size 0 ⟨e, p, o, n, v⟩ ∧ Pair w' w2.heap.size (.int .i64 code) (.slice a2 ys.length k2) ∧ Pair w' w4.heap.size (.int .i64 code) (.slice a4 ys.length k4) ∧ Ints .u8 w' (.slice a2 ys.length k2) ys ∧ Ints .u8 w' (.slice a4 ys.length k4) (marksB 1 ys.length) ∧ Below w.heap.size w w') :=
    fun w' h => ⟨R.below h R.lt, Q2.below h, Q4.below h, j2.below h, m10.below h, below_after_of hB10 h⟩
  clear hg10 own10 j4 hB5 hlt4 p3 p4 hlt2
  have p3 := Q4.2.1
  have p4 := Q4.2.2
  clear Q2 Q4 j2 hB10 R
  go_wp2_with fail
  refine (heldBytesResult_any code _ ys.length 1 _ m10 (by omega) (by omega)).mono ?_
  rintro x w11 ⟨rfl, hb11⟩
  have ⟨c0, c1, c2, c3, c4⟩ := (C10.out _ hb11).1
  clear p3 p4 m10
  go_wp2_with fail
  refine (hT _).mono ?_
  rintro x w12 ⟨rfl, hb12⟩
  have hb12' := below_after_of hb11 hb12
  go_wp2_with fail
  -- the program's answer, once more
  refine (hI _).mono ?_
  intro x w13 h13
  obtain ⟨a13, k13, rfl, hb13, own13⟩ := h13.use
  have hb13' := below_after_of hb12' hb13
  obtain ⟨_, Q2, _, _, _, _⟩ := C10.out _ hb13'
  have i13 := (own_ints own13).below (one_new (.cells #[.int .i64 code, .slice a13 ys.length k13] 70))
  have hb13n := below_after_of hb13' (one_new (.cells #[.int .i64 code, .slice a13 ys.length k13] 70))
  obtain ⟨p2, p0, p1⟩ := Q2.below (one_new (.cells #[.int .i64 code, .slice a13 ys.length k13] 70))
  clear h13 own13 hb11 hb12 hb12' hb13 hb13' c0 c1 c2 c3 c4 Q2
  go_wp2_with fail
  refine (eqBytesResult_same code _ _ ys _ i13 (C10.out _ hb13n).2.2.2.1 (by omega)).mono ?_
  rintro x w14 ⟨rfl, hb14⟩
  have hb14' := below_after_of hb13n hb14
  obtain ⟨_, _, Q4, _, m14, hB14⟩ := C10.out _ hb14'
  clear p0 p1 p2 i13 hb13n hb14 hb14' C10
  have p3 := Q4.2.1
  have p4 := Q4.2.2
  go_wp2_with fail
  refine (heldBytesResult_any code _ ys.length 1 _ m14 (by omega) (by omega)).mono ?_
  rintro x w15 ⟨rfl, hb15⟩
  have hB15 := below_after_of hB14 hb15
  clear m14 p3 p4 Q4 hb15 hB14
  go_wp2
  go_ret
  exact ⟨rfl, hB15⟩
end U
end Go.Proofs.Ytpelafkjnmcdgaa
