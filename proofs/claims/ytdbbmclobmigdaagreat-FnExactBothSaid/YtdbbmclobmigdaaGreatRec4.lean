/- RecordSum: what both models answer. -/
import Derived.Test.YtdbbmclobmigdaaGreatRec3
namespace Go.Proofs.YtdbbmclobmigdaaGreat
open Go.RowKit
namespace U
def rsV (l : ByteArray) (v o p : Int) : Int := if recC l v o p = 0 then sumL (packL l v o p) else 0
theorem rs_ok {l : ByteArray} {v o p : Int} (h : recC l v o p = 0) : rsV l v o p = sumL (packL l v o p) := by unfold rsV; rw [if_pos h]
theorem rs_no {l : ByteArray} {v o p : Int} (h : ¬ recC l v o p = 0) : rsV l v o p = 0 := by unfold rsV; rw [if_neg h]
set_option maxRecDepth 100000 in
set_option maxHeartbeats 1000000 in
theorem l3Sum_any (g : Nat) (l : ByteArray) (v o p : Int) (w : World) (h : RecAt w g l v o p) (hR : RecOk l v o p) (hg : g < w.heap.size) :
    Calls Tryz.prog 69 #[.pointer (some ⟨g, 0, none⟩)] w fun e w' => e = .returned (.int .i64 (sumL (packL l v o p))) ∧ Below w.heap.size w w' := by
  have hbt := packL_bts hR
  have hln : (packL l v o p).length ≤ 1099511627776 := by rw [packL_len]; have := hR.small; omega
  have hP := l3Pack_any g l v o p w h hR hg
  generalize packL l v o p = ys at *
  go_enter Tryz.func69, Tryz.ntmps69
  go_wp2_with fail
  refine hP.mono ?_
  rintro e w1 ⟨v', rfl, ho1, hb1⟩
  have hI := own_ints ho1
  obtain ⟨a', c', rfl⟩ := own_shape ho1
  clear ho1 hP
  go_wp2_with fail
  refine (l2Sum_any _ ys _ hI hbt hln).mono ?_
  rintro e w2 ⟨rfl, rfl⟩
  go_wp2
  go_ret
  exact ⟨rfl, hb1⟩
set_option maxRecDepth 100000 in
set_option maxHeartbeats 2000000 in
theorem implRecordSum_any (l : ByteArray) (v o p : Int) (w : World) (hs : l.size ≤ 1048576) :
    Calls Tryz.prog 84 #[recV l v o p] w fun e w' => IntAns w (recC l v o p) (rsV l v o p) e w' := by
  have hF := fun w => implPackRecord_any l v o p w hs
  by_cases h : recC l v o p = 0
  · have hok := recOk h
    rw [rs_ok h]
    rw [pk_ok h] at hF
    rw [h] at hF ⊢
    have hbt := packL_bts hok
    have hln : (packL l v o p).length ≤ 200 := by rw [packL_len]; have := hok.small; omega
    have hsm := sm_ok (bs := packL l v o p) (by omega)
    have hSO := fun (u : Value) (w : World) hI => implSumOf_any u (packL l v o p) w hI hbt (by omega)
    rw [hsm.1, hsm.2] at hSO
    generalize sumL (packL l v o p) = x at *
    generalize packL l v o p = ys at *
    clear hsm hbt
    unfold recV at *
    go_enter Tryz.func84, Tryz.ntmps84
    go_wp2_with fail
    refine (hF _).mono ?_
    intro e w1 h9
    obtain ⟨a, c, rfl, hb1, ho1⟩ := h9.use
    have two1 := (hb1.block (w.heap.size + 1) (by simp)).trans (heap_new2 w _ _)
    have hB1 : Below w.heap.size w w1 := below_after (below_after hb1)
    have hsz1 : w.heap.size + 2 ≤ w1.heap.size := by have := hb1.size; simp at this; omega
    have P1 := Pair.new w1 (.int .i64 0) (.slice a ys.length c) 174
    have hI := (own_ints ho1).below (one_new (.cells #[.int .i64 0, .slice a ys.length c] 174))
    clear hF h9 ho1 hb1
    go_wp2_with fail
    refine (hSO _ _ hI).mono ?_
    rintro e w2 ⟨rfl, hb2⟩
    have hB2 : Below w.heap.size w w2 := below_after_of hB1 (below_after hb2)
    obtain ⟨hc0, hc1, hf0, hf1⟩ := two_cells (((below_after hb2).block (w.heap.size + 1) (by omega)).trans two1)
    clear hb2 hI P1 two1 hSO
    go_wp2
    exact bodyPost_ret (v := .agg #[.int .i64 0, .int .i64 x]) (by simp [results, Tryz.results84, go_sem, hc0, hc1]) rfl ⟨rfl, (hB2.setCell (Nat.le_succ _) _).setCell (Nat.le_succ _) _⟩
  · have h1 := code_ne h
    rw [rs_no h]
    rw [pk_no h] at hF
    generalize recC l v o p = c at *
    clear h
    unfold recV at *
    go_enter Tryz.func84, Tryz.ntmps84
    go_wp2_with fail
    refine (hF _).mono ?_
    intro e w1 h9
    obtain ⟨a, cc, rfl, hb1, ho1⟩ := h9.use
    simp only [List.length_nil]
    have two1 := (hb1.block (w.heap.size + 1) (by simp)).trans (heap_new2 w _ _)
    have hB1 : Below w.heap.size w w1 := below_after (below_after hb1)
    have hsz1 : w.heap.size + 2 ≤ w1.heap.size := by have := hb1.size; simp at this; omega
    have hB2 := below_after_of hB1 (one_new (.cells #[.int .i64 c, .slice a 0 cc] 174))
    obtain ⟨hc0, hc1, hf0, hf1⟩ := two_cells (((one_new (.cells #[.int .i64 c, .slice a 0 cc] 174)).block (w.heap.size + 1) (by omega)).trans two1)
    clear hF h9 ho1 hb1
    go_wp2
    exact bodyPost_ret (v := .agg #[.int .i64 c, .int .i64 0]) (by simp [results, Tryz.results84, go_sem, hc0, hc1]) rfl ⟨rfl, (hB2.setCell (Nat.le_succ _) _).setCell (Nat.le_succ _) _⟩
end U
end Go.Proofs.YtdbbmclobmigdaaGreat
