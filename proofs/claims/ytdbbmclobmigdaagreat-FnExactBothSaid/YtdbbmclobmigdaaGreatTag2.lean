/- Tagged pieces and their sums: what the models answer. -/
import Derived.Test.YtdbbmclobmigdaaGreatTag
namespace Go.Proofs.YtdbbmclobmigdaaGreat
open Go.RowKit
namespace U
/-- The sum's value beside the code of the piece. -/
def tsV (tag : Int) (xs : List Int) : Int := if tgC tag xs = 0 then sumL (tgL tag xs) else 0
theorem ts_ok {tag : Int} {xs : List Int} (h : tgC tag xs = 0) : tsV tag xs = sumL (tgL tag xs) := by simp [tsV, h]
theorem ts_no {tag : Int} {xs : List Int} (h : ¬ tgC tag xs = 0) : tsV tag xs = 0 := by simp [tsV, h]
theorem tgC_codes (tag : Int) (xs : List Int) : tgC tag xs = 0 ∨ tgC tag xs = 2 ∨ tgC tag xs = 3 := by
  unfold tgC
  split
  · simp
  · split
    · simp
    · split <;> simp
set_option maxRecDepth 100000 in
set_option maxHeartbeats 2000000 in
theorem implTagSum_any (tag : Int) (v : Value) (xs : List Int) (w : World) (hv : Ints .i64 w v xs) (hx : xs.length ≤ 1099511627776) :
    Calls Tryz.prog 170 #[.int .i64 tag, v] w fun e w' => IntAns w (tgC tag xs) (tsV tag xs) e w' := by
  have hT := fun o => implTagBytes_any tag v xs _ (hv.below (one_new o)) hx
  have hlb := tgL_len tag xs
  have hbt := tgL_bts tag xs
  have hcd := tgC_codes tag xs
  obtain ⟨a, c, rfl⟩ := hv.shape
  generalize xs.length = n at *
  by_cases h0 : tgC tag xs = 0
  · rw [ts_ok h0, h0]
    rw [h0] at hT
    have hS := fun u w1 hu => implSumOf_any u (tgL tag xs) w1 hu hbt (by omega)
    have hsm := sm_ok (bs := tgL tag xs) (by omega)
    rw [hsm.1, hsm.2] at hS
    generalize tgL tag xs = ys at *
    generalize sumL ys = s at *
    clear hv hbt hcd h0 hsm
    go_enter Tryz.func170, Tryz.ntmps170
    go_wp2_with fail
    refine (hT _).mono ?_
    intro e w1 h1
    obtain ⟨a1, c1, rfl, hb1, own1⟩ := h1.use
    have i1 := (own_ints own1).below (one_new (.cells #[.int .i64 0, .slice a1 ys.length c1] 174))
    have hB1 : Below w.heap.size w (w1.alloc (.cells #[.int .i64 0, .slice a1 ys.length c1] 174)) := below_after_of (below_after hb1) (one_new _)
    have hz1 : w.heap.size < w1.heap.size := by have := hb1.size; simp at this; omega
    have R1 : (w1.alloc (.cells #[.int .i64 0, .slice a1 ys.length c1] 174)).heap[w.heap.size]? = some (.cells #[.int .i64 0, .int .i64 0] 58 (0, 0)) := (Below.heap_alloc _ _ _ hz1).trans ((hb1.block w.heap.size (by simp)).trans (heap_alloc_new w _))
    clear h1 own1 hb1 hT
    go_wp2_with fail
    refine (hS _ _ i1).mono ?_
    rintro e w2 ⟨rfl, hb2⟩
    have hB2 := below_after_of hB1 hb2
    obtain ⟨hc0, hc1, hf0, hf1⟩ := two_cells ((hb2.block w.heap.size (by simp; omega)).trans R1)
    clear hS i1 R1 hb2 hB1
    go_wp2
    exact bodyPost_ret (v := .agg #[.int .i64 0, .int .i64 s]) (by simp [results, Tryz.results170, go_sem, hc0, hc1]) rfl ⟨rfl, (hB2.setCell (Nat.le_refl _) _).setCell (Nat.le_refl _) _⟩
  · rw [ts_no h0]
    generalize tgL tag xs = ys at *
    generalize tgC tag xs = code at *
    clear hv hbt
    rcases hcd with rfl | rfl | rfl
    · exact absurd rfl h0
    all_goals
      go_enter Tryz.func170, Tryz.ntmps170
      go_wp2_with fail
      refine (hT _).mono ?_
      intro e w1 h1
      obtain ⟨a1, c1, rfl, hb1, own1⟩ := h1.use
      have hB1 := below_after hb1
      have hz1 : w.heap.size < w1.heap.size := by have := hb1.size; simp at this; omega
      obtain ⟨hc0, hc1, hf0, hf1⟩ := two_cells ((hb1.block w.heap.size (by simp)).trans (heap_alloc_new w _))
      clear h1 own1 hb1 hT
      go_wp2
      exact bodyPost_ret (v := .agg #[.int .i64 _, .int .i64 0]) (by simp [results, Tryz.results170, go_sem, hc0, hc1, hz1]) rfl ⟨rfl, ((hB1.setCell (Nat.le_refl _) _).setCell (Nat.le_refl _) _).alloc (by simp; omega) _⟩
end U
end Go.Proofs.YtdbbmclobmigdaaGreat
