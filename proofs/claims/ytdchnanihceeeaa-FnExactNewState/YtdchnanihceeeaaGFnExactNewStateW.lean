/- The law on NewState, walked: true, and nothing that was there has turned. -/
import Derived.Test.YtdchnanihceeeaaGAD
import Derived.Test.YtdchnanihceeeaaGAC
namespace Go.Proofs.Ytdchnanihceeeaa
open Go.RowKit
namespace U
def nsS : St := ⟨1, 0, [], [], [], []⟩
def nsU : Sv := ⟨.slice none 0 0, .slice none 0 0, .slice none 0 0, .slice none 0 0⟩
theorem nsS_sts (w : World) : Sts w nsU nsS := ⟨Rcs.nil _ _ _, Or.inl ⟨rfl, _, _, rfl⟩, Hds.nil _ _ _, Dss.nil _ _ _⟩
theorem nsS_stb : StB nsS := by
  refine ⟨Nat.zero_le _, ?_, Nat.zero_le _, Nat.zero_le _, Nat.zero_le _, ?_, ?_⟩
  · intro r hr
    cases hr
  · intro j hj
    exact absurd hj (Nat.not_lt_zero j)
  · intro j hj
    have : j = 0 := Nat.le_zero.1 hj
    subst this
    exact Nat.zero_le _
theorem nsS_own (w : World) : StOwn 0 0 w nsU [] nsS := by
  refine ⟨⟨fun r hr => ?_, fun g hg => ?_, ?_⟩, rfl⟩
  · have : r = dRow (.slice none 0 0) [] ∨ r = nRow (.slice none 0 0) [] ∨ r = hRow (.slice none 0 0) [] ∨ r = oRow (.slice none 0 0) [] := by simpa [sRows, nsU, nsS, pRows] using hr
    rcases this with rfl | rfl | rfl | rfl <;> exact ⟨rfl, Or.inl ⟨rfl, rfl⟩⟩
  · simp [sRows, nsU, nsS, pRows, blks, dRow, nRow, hRow, oRow, Value.ownBlock] at hg
  · simp [sRows, nsU, nsS, pRows, blks, dRow, nRow, hRow, oRow, Value.ownBlock]
theorem Tch.none {w w' : World} (h : Tch 0 0 w w') : Below w.heap.size w w' := ⟨h.os, h.tape, h.output, h.size, fun k hk => h.block k hk (Or.inr (Nat.zero_le _))⟩
theorem seven_cells {w : World} {b : Nat} {x0 x1 x2 x3 x4 x5 x6 : Value} {t : TypeId} (h : w.heap[b]? = some (.cells #[x0, x1, x2, x3, x4, x5, x6] t)) : (w.cell? ⟨b, 0, none⟩ = some x0 ∧ w.cell? ⟨b, 1, none⟩ = some x1 ∧ w.cell? ⟨b, 2, none⟩ = some x2 ∧ w.cell? ⟨b, 3, none⟩ = some x3 ∧ w.cell? ⟨b, 4, none⟩ = some x4 ∧ w.cell? ⟨b, 5, none⟩ = some x5 ∧ w.cell? ⟨b, 6, none⟩ = some x6) ∧ w.frozen? ⟨b, 0, none⟩ = false ∧ w.frozen? ⟨b, 1, none⟩ = false ∧ w.frozen? ⟨b, 2, none⟩ = false ∧ w.frozen? ⟨b, 3, none⟩ = false ∧ w.frozen? ⟨b, 4, none⟩ = false ∧ w.frozen? ⟨b, 5, none⟩ = false ∧ w.frozen? ⟨b, 6, none⟩ = false := by
  simp [World.cell?, World.frozen?, h]
set_option maxRecDepth 100000 in
set_option maxHeartbeats 1000000 in
theorem specNewState_any (w : World) : Calls Try.prog 7 #[] w fun e w' => e = .returned (.agg #[.int .i64 0, .int .i64 1, .int .i64 0, .slice none 0 0, .slice none 0 0, .slice none 0 0, .slice none 0 0]) ∧ Below w.heap.size w w' := by
  have hS : ∀ w : World, Calls Try.prog 40 #[] w fun e w' => e = .returned (.agg #[.int .i64 1, .int .i64 0, .slice none 0 0, .slice none 0 0, .slice none 0 0, .slice none 0 0]) ∧ Below w.heap.size w w' := fun w => by
    go_enter Try.func40, Try.ntmps40
    go_wp2
    exact bodyPost_ret (v := .agg #[.int .i64 1, .int .i64 0, .slice none 0 0, .slice none 0 0, .slice none 0 0, .slice none 0 0]) (by simp [results, Try.results40, go_sem]) rfl ⟨rfl, one_new _⟩
  obtain ⟨W, hW⟩ : ∃ W, W = w.alloc (.cells #[.int .i64 0, .int .i64 0, .int .i64 0, .slice none 0 0, .slice none 0 0, .slice none 0 0, .slice none 0 0] 31) := ⟨_, rfl⟩
  have HW : Hid (w.alloc (.cells #[.int .i64 0, .int .i64 0, .int .i64 0, .slice none 0 0, .slice none 0 0, .slice none 0 0, .slice none 0 0] 31) = W) := hW.symm
  have hB : Below w.heap.size w W := by rw [hW]; exact one_new _
  have hH : W.heap[w.heap.size]? = some (.cells #[.int .i64 0, .int .i64 0, .int .i64 0, .slice none 0 0, .slice none 0 0, .slice none 0 0, .slice none 0 0] 31) := by rw [hW]; exact heap_alloc_new w _
  clear hW
  go_enter Try.func7, Try.ntmps7
  go_wp2_with fail
  rw [HW.out]
  refine (hS _).mono ?_
  rintro e w1 ⟨rfl, hb1⟩
  obtain ⟨⟨c0, c1, c2, c3, c4, c5, c6⟩, f0, f1, f2, f3, f4, f5, f6⟩ := seven_cells ((hb1.block _ (Array.getElem?_eq_some_iff.1 hH).1).trans hH)
  have hB1 := below_after_of hB hb1
  clear hS HW hb1 hH
  go_wp2
  exact bodyPost_ret (v := .agg #[.int .i64 0, .int .i64 1, .int .i64 0, .slice none 0 0, .slice none 0 0, .slice none 0 0, .slice none 0 0]) (by simp [results, Try.results7, go_sem, c0, c1, c2, c3, c4, c5, c6]) rfl ⟨rfl, ((((((hB1.setCell (Nat.le_refl _) _).setCell (Nat.le_refl _) _).setCell (Nat.le_refl _) _).setCell (Nat.le_refl _) _).setCell (Nat.le_refl _) _).setCell (Nat.le_refl _) _).setCell (Nat.le_refl _) _⟩
set_option maxRecDepth 100000 in
set_option maxHeartbeats 1000000 in
theorem implNewState_any (w : World) : Calls Try.prog 8 #[] w fun e w' => e = .returned (.agg #[.int .i64 0, .int .i64 1, .int .i64 0, .slice none 0 0, .slice none 0 0, .slice none 0 0, .slice none 0 0]) ∧ Below w.heap.size w w' := by
  go_enter Try.func8, Try.ntmps8
  go_wp2
  exact bodyPost_ret (v := .agg #[.int .i64 0, .int .i64 1, .int .i64 0, .slice none 0 0, .slice none 0 0, .slice none 0 0, .slice none 0 0]) (by simp [results, Try.results8, go_sem]) rfl ⟨rfl, one_new _⟩
/-- A box of seven cells. -/
structure B7 (w : World) (b : Nat) : Prop where
  h : w.heap[b]? = some (.cells #[.int .i64 0, .int .i64 1, .int .i64 0, .slice none 0 0, .slice none 0 0, .slice none 0 0, .slice none 0 0] 31)
theorem B7.below {w w' : World} {b : Nat} (h : B7 w b) (hb : Below w.heap.size w w') : B7 w' b := ⟨(hb.block b (Array.getElem?_eq_some_iff.1 h.h).1).trans h.h⟩
theorem B7.new (w : World) : B7 (w.alloc (.cells #[.int .i64 0, .int .i64 1, .int .i64 0, .slice none 0 0, .slice none 0 0, .slice none 0 0, .slice none 0 0] 31)) w.heap.size := ⟨heap_alloc_new w _⟩
theorem ks_ns : ks4 nsS 1 = 1 := rfl
theorem mk_ns : mkSt nsS 1 = nsS := rfl
set_option maxRecDepth 100000 in
set_option maxHeartbeats 4000000 in
theorem fnExactNewState_walk (w : World) : Calls Try.prog 3 #[] w fun e w' => e = .returned (.bool true) ∧ Below w.heap.size w w' := by
  have hS := fun w => specNewState_any w
  have hI := fun w => implNewState_any w
  have hE : ∀ w : World, Calls Try.prog 9 #[.agg #[.int .i64 0, .int .i64 1, .int .i64 0, .slice none 0 0, .slice none 0 0, .slice none 0 0, .slice none 0 0], .agg #[.int .i64 0, .int .i64 1, .int .i64 0, .slice none 0 0, .slice none 0 0, .slice none 0 0, .slice none 0 0]] w fun e w' => e = .returned (.bool true) ∧ Below w.heap.size w w' := fun w => eqStateResult_same 0 nsS nsU nsU w (nsS_sts w) (nsS_sts w) nsS_stb
  have hM : ∀ w : World, Calls Try.prog 10 #[.agg #[.int .i64 0, .int .i64 1, .int .i64 0, .slice none 0 0, .slice none 0 0, .slice none 0 0, .slice none 0 0], .int .i64 1] w fun e w' => e = .returned (.int .i64 1) ∧ Below w.heap.size w w' := fun w => by
    refine (markStateResult_any 0 0 0 nsS nsU [] 1 w (nsS_own w) (Nat.zero_le _) nsS_stb ⟨by omega, by omega⟩).mono ?_
    rintro e w' ⟨rfl, h1, -⟩
    exact ⟨rfl, h1.none⟩
  have hH : ∀ w : World, Calls Try.prog 11 #[.agg #[.int .i64 0, .int .i64 1, .int .i64 0, .slice none 0 0, .slice none 0 0, .slice none 0 0, .slice none 0 0], .int .i64 1] w fun e w' => e = .returned (.int .i64 1) ∧ Below w.heap.size w w' := fun w => by
    refine (heldStateResult_any 0 nsS nsU 1 1 0 w (nsS_sts w) nsS_stb ⟨by omega, by omega⟩).mono ?_
    rintro e w' ⟨rfl, h1⟩
    exact ⟨rfl, h1⟩
  go_enter Try.func3, Try.ntmps3
  go_wp2_with fail
  refine (hS _).mono ?_
  rintro e w1 ⟨rfl, hb1⟩
  have P1 := B7.new w1
  have hb1 := below_after_of hb1 (one_new (.cells #[.int .i64 0, .int .i64 1, .int .i64 0, .slice none 0 0, .slice none 0 0, .slice none 0 0, .slice none 0 0] 31))
  go_wp2_with fail
  refine (hI _).mono ?_
  rintro e w2 ⟨rfl, hb2⟩
  have P1 := (P1.below hb2).below (one_new (.cells #[.int .i64 0, .int .i64 1, .int .i64 0, .slice none 0 0, .slice none 0 0, .slice none 0 0, .slice none 0 0] 31))
  have P2 := B7.new w2
  have hb := below_after_of (below_after_of hb1 hb2) (one_new (.cells #[.int .i64 0, .int .i64 1, .int .i64 0, .slice none 0 0, .slice none 0 0, .slice none 0 0, .slice none 0 0] 31))
  have hlt : w1.heap.size < w2.heap.size := Nat.lt_of_lt_of_le (by simp) hb2.size
  obtain ⟨⟨x0, x1, x2, x3, x4, x5, x6⟩, -⟩ := seven_cells P1.h
  clear hb1 hb2
  go_wp2_with fail
  refine (hE _).mono ?_
  rintro e w3 ⟨rfl, hb3⟩
  have P1 := P1.below hb3
  have P2 := P2.below hb3
  have hb := below_after_of hb hb3
  clear x0 x1 x2 x3 x4 x5 x6 hb3
  obtain ⟨⟨y0, y1, y2, y3, y4, y5, y6⟩, -⟩ := seven_cells P2.h
  go_wp2_with fail
  refine (hM _).mono ?_
  rintro e w4 ⟨rfl, hb4⟩
  have P1 := P1.below hb4
  have P2 := P2.below hb4
  have hb := below_after_of hb hb4
  clear y0 y1 y2 y3 y4 y5 y6 hb4
  obtain ⟨⟨y0, y1, y2, y3, y4, y5, y6⟩, -⟩ := seven_cells P2.h
  go_wp2_with fail
  refine (hH _).mono ?_
  rintro e w5 ⟨rfl, hb5⟩
  have P1 := P1.below hb5
  have P2 := P2.below hb5
  have hb := below_after_of hb hb5
  clear y0 y1 y2 y3 y4 y5 y6 hb5
  go_wp2_with fail
  refine (hI _).mono ?_
  rintro e w6 ⟨rfl, hb6⟩
  have P1 := (P1.below hb6).below (one_new (.cells #[.int .i64 0, .int .i64 1, .int .i64 0, .slice none 0 0, .slice none 0 0, .slice none 0 0, .slice none 0 0] 31))
  have P2 := (P2.below hb6).below (one_new (.cells #[.int .i64 0, .int .i64 1, .int .i64 0, .slice none 0 0, .slice none 0 0, .slice none 0 0, .slice none 0 0] 31))
  have P3 := B7.new w6
  have hb := below_after_of (below_after_of hb hb6) (one_new (.cells #[.int .i64 0, .int .i64 1, .int .i64 0, .slice none 0 0, .slice none 0 0, .slice none 0 0, .slice none 0 0] 31))
  have hlt6 : w1.heap.size < w6.heap.size := by
    have h1 := (Array.getElem?_eq_some_iff.1 P1.h).1
    have h2 := (Array.getElem?_eq_some_iff.1 P2.h).1
    simp at h1 h2
    omega
  obtain ⟨⟨x0, x1, x2, x3, x4, x5, x6⟩, -⟩ := seven_cells P1.h
  clear hb6
  go_wp2_with fail
  refine (hE _).mono ?_
  rintro e w7 ⟨rfl, hb7⟩
  have P2 := P2.below hb7
  have hb := below_after_of hb hb7
  clear x0 x1 x2 x3 x4 x5 x6 hb7
  obtain ⟨⟨y0, y1, y2, y3, y4, y5, y6⟩, -⟩ := seven_cells P2.h
  go_wp2_with fail
  refine (hH _).mono ?_
  rintro e w8 ⟨rfl, hb8⟩
  have hb := below_after_of hb hb8
  clear y0 y1 y2 y3 y4 y5 y6 hb8
  go_wp2
  go_ret
  exact ⟨rfl, hb⟩
end U
end Go.Proofs.Ytdchnanihceeeaa
