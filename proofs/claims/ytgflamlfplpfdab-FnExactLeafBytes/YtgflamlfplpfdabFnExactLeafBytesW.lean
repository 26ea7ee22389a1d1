/- The law on LeafBytes, walked: true, and nothing that was there has turned. -/
import Derived.Test.YtgflamlfplpfdabOp1
import Derived.Test.YtgflamlfplpfdabOwn
import Derived.Test.YtgflamlfplpfdabEqR
import Derived.Test.YtgflamlfplpfdabByteS
import Derived.Test.YtgflamlfplpfdabPairs
namespace Go.Proofs.Ytgflamlfplpfdab
open Go.RowKit
namespace U
set_option maxHeartbeats 4000000 in
theorem fnExactLeafBytes_walk (k : Int) (b : Bool) (v : Int) (w : World) :
    Calls Try.prog 8 #[.int .i64 k, .bool b, .int .i64 v] w fun e w' => e = .returned (.bool true) ∧ Below w.heap.size w w' := by
  have hS := fun w => specLeafBytes_any k b v w
  have hI := fun w => implLeafBytes_any k b v w
  have hlb := lbL_len k b v
  generalize lbC k b v = code at *
  generalize lbL k b v = ys at *
  have hln : decide (((1 + ys.length : Nat) : Int) < 0) = false := by simp; omega
  go_enter Try.func8, Try.ntmps8
  go_wp2_with fail
  -- the model's answer
  refine (hS _).mono ?_
  intro e w2 h2
  obtain ⟨a2, c2, rfl, hb2, own2⟩ := h2.use
  have hB2 := below_after_of hb2 (one_new (.cells #[.int .i64 code, .slice a2 ys.length c2] 56))
  have P2 := Pair.new w2 (.int .i64 code) (.slice a2 ys.length c2) 56
  have i2 := (own_ints own2).below (one_new (.cells #[.int .i64 code, .slice a2 ys.length c2] 56))
  have hlt2 := fun k hk => own2.lt k hk
  have hlw2 : w.heap.size ≤ w2.heap.size := hb2.size
  clear h2 hS hb2 own2
  go_wp2_with fail
  -- the program's answer
  refine (hI _).mono ?_
  intro e w4 h4
  obtain ⟨a4, c4, rfl, hb4, own4⟩ := h4.use
  obtain ⟨W4, hW4⟩ : ∃ W4, W4 = w4.alloc (.cells #[.int .i64 code, .slice a4 ys.length c4] 56) := ⟨_, rfl⟩
  have hN4 : Below w4.heap.size w4 W4 := by rw [hW4]; exact one_new _
  have hB4 := below_after_of (below_after_of hB2 hb4) hN4
  have own4 : w4.ownsRow (w2.heap.size + 1) 5 1 (.slice a4 ys.length c4) ys.length (ys.map (Value.int .u8)) := own_mono own4 (by simp)
  have C4 : Hid (∀ w', Below W4.heap.size W4 w' → Pair w' w2.heap.size (.int .i64 code) (.slice a2 ys.length c2) ∧ Pair w' w4.heap.size (.int .i64 code) (.slice a4 ys.length c4) ∧ Ints .u8 w' (.slice a2 ys.length c2) ys ∧ w'.ownsRow (w2.heap.size + 1) 5 1 (.slice a4 ys.length c4) ys.length (ys.map (Value.int .u8)) ∧ Below w.heap.size w w' ∧ w4.heap.size < w'.heap.size) := by
    intro w' h
    have h0 := below_after_of hb4 hN4
    refine ⟨(P2.below h0).below h, ?_, (i2.below h0).below h, own_below (own_below own4 hN4) h, below_after_of hB4 h, ?_⟩
    · rw [hW4] at h; exact (Pair.new w4 _ _ _).below h
    · have := h.size; rw [hW4] at this; simp at this; omega
  have hlt4 := fun k hk => own4.lt k hk
  have P2 := P2.below hb4
  have p0 := P2.2.1
  have p1 := P2.2.2
  have p2 := P2.1
  have HW4 : Hid (W4 = w4.alloc (.cells #[.int .i64 code, .slice a4 ys.length c4] 56)) := hW4
  clear h4 own4 hb4 hB2 hN4 P2 i2 hW4 hB4
  go_wp2_with fail
  rw [← HW4.out]
  clear p0 p1 HW4
  -- the two are the same
  obtain ⟨_, _, j2, j4, _, _⟩ := C4.out W4 (Below.refl _ _)
  refine (eqBytesResult_same code _ _ ys _ (own_ints j4) j2 (by omega)).mono ?_
  rintro e w9 ⟨rfl, hb9⟩
  clear j2 j4
  obtain ⟨Q2, Q4, j2, j4, hB9, hz9⟩ := C4.out _ hb9
  clear hb9 C4
  have p3 := Q4.2.1
  have p4 := Q4.2.2
  go_wp2_with fail
  -- the answer is marked
  refine (markBytesResult_any (w2.heap.size + 1) code _ ys 1 _ j4 (by omega) (by omega)).mono ?_
  rintro e w10 ⟨rfl, hg10, own10⟩
  have Q2 := Q2.grown hg10 (fun e => by have := hlt4 _ e.symm; omega)
  have Q4 := Q4.grown hg10 (fun e => by have := hlt4 _ e.symm; omega)
  have j2 := j2.grown hg10 (apart_lt (fun k hk j hj => by have := hlt2 k hk; have := hlt4 j hj; omega))
  have hB10 := hB9.grown hg10 hB9.size (fun k hk => by have := hlt4 k hk; have := hlw2; omega)
  have m10 : Ints .u8 w10 (.slice a4 ys.length c4) (marksB 1 ys.length) := own_ints_n (marksB_len _ _).symm own10
  have C10 : Hid (∀ w', Below w10.heap.size w10 w' → Pair w' w2.heap.size (.int .i64 code) (.slice a2 ys.length c2) ∧ Pair w' w4.heap.size (.int .i64 code) (.slice a4 ys.length c4) ∧ Ints .u8 w' (.slice a2 ys.length c2) ys ∧ Ints .u8 w' (.slice a4 ys.length c4) (marksB 1 ys.length) ∧ Below w.heap.size w w') :=
    fun w' h => ⟨Q2.below h, Q4.below h, j2.below h, m10.below h, below_after_of hB10 h⟩
  clear hg10 own10 j4 hB9 hz9 hlt4 p3 p4 hlt2
  have p3 := Q4.2.1
  have p4 := Q4.2.2
  clear Q2 Q4 j2 hB10
  go_wp2_with fail
  refine (heldBytesResult_any code _ ys.length 1 _ m10 (by omega) (by omega)).mono ?_
  rintro e w11 ⟨rfl, hb11⟩
  have hB11 := (C10.out _ hb11).2.2.2.2
  clear p3 p4 m10
  go_wp2_with fail
  -- the program's answer, once more
  refine (hI _).mono ?_
  intro e w13 h13
  obtain ⟨a13, c13, rfl, hb13, own13⟩ := h13.use
  have hb13' := below_after_of hb11 hb13
  obtain ⟨Q2, Q4, _, _, _⟩ := C10.out _ hb13'
  have i13 := (own_ints own13).below (one_new (.cells #[.int .i64 code, .slice a13 ys.length c13] 56))
  have hb13n := below_after_of hb13' (one_new (.cells #[.int .i64 code, .slice a13 ys.length c13] 56))
  clear h13 own13 hb11 hb13 hb13' hB11
  have p0 := Q2.2.1
  have p1 := Q2.2.2
  have p2 := Q2.1
  go_wp2_with fail
  refine (eqBytesResult_same code _ _ ys _ i13 (C10.out _ hb13n).2.2.1 (by omega)).mono ?_
  rintro e w14 ⟨rfl, hb14⟩
  have hb14' := below_after_of hb13n hb14
  obtain ⟨_, Q4, _, m14, hB14⟩ := C10.out _ hb14'
  clear Q2 p0 p1 p2 i13 hb13n hb14 hb14' C10
  have p3 := Q4.2.1
  have p4 := Q4.2.2
  go_wp2_with fail
  refine (heldBytesResult_any code _ ys.length 1 _ m14 (by omega) (by omega)).mono ?_
  rintro e w15 ⟨rfl, hb15⟩
  have hB15 := below_after_of hB14 hb15
  clear m14 p3 p4 Q4 hb15 hB14
  go_wp2
  go_ret
  exact ⟨rfl, hB15⟩
end U
end Go.Proofs.Ytgflamlfplpfdab
