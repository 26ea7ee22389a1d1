/- Tagged pieces and their sums: what the models answer. -/
import Derived.Test.YtdcfoggcepkelaaTag
namespace Go.Proofs.Ytdcfoggcepkelaa
open Go.RowKit
namespace U
set_option maxRecDepth 100000 in
set_option maxHeartbeats 2000000 in
theorem specTagBytes_any (tag : Int) (v : Value) (xs : List Int) (w : World) (hv : Ints .i64 w v xs) (hx : xs.length ≤ 1099511627776) :
    Calls Try.prog 21 #[.int .i64 tag, v] w fun e w' => BytesAns w (tgC tag xs) (tgL tag xs) e w' := by
  obtain ⟨a, c, rfl⟩ := hv.shape
  rcases Bool.eq_false_or_eq_true (inB tag 1 9) with ht | ht
  · have htb := inB_bd ht
    by_cases h20 : 20 < xs.length
    · rw [(tg_many ht h20).1, (tg_many ht h20).2]
      generalize xs.length = n at *
      clear hv
      go_enter Try.func21, Try.ntmps21
      go_wp2_with fail
      refine (l1In_any tag 1 9 _).mono ?_
      rintro e w1 ⟨rfl, rfl⟩
      rw [ht]
      go_wp2
      exact bodyPost_ret (v := .agg #[.int .i64 2, .slice none 0 0]) (by simp [results, Try.results21, go_sem]) rfl ⟨one_new _, _, rfl, World.ownsRow_nil _ _ _ _⟩
    · have hA := fun o => l1All_any _ xs _ (hv.below (one_new o)) hx
      rcases Bool.eq_false_or_eq_true (xs.all sumB) with hs | hs
      · have hL := fun o => l2Bytes_any tag _ xs _ (hv.below (one_new o)) (by omega) (by omega) hs
        have e := tg_ok ht h20 hs
        have HE : Hid (tgC tag xs = 0 ∧ tgL tag xs = tagL tag xs) := e
        rw [hs] at hA
        generalize tagL tag xs = ys at *
        generalize xs.length = n at *
        clear hv e
        go_enter Try.func21, Try.ntmps21
        go_wp2_with fail
        refine (l1In_any tag 1 9 _).mono ?_
        rintro e w1 ⟨rfl, rfl⟩
        rw [ht]
        go_wp2_with fail
        refine (hA _).mono ?_
        rintro e w1 ⟨rfl, rfl⟩
        go_wp2_with fail
        refine (hL _).mono ?_
        rintro e w1 ⟨v', rfl, ho1, hb1⟩
        obtain ⟨a', c', rfl⟩ := own_shape ho1
        obtain ⟨hc0, hc1, hf0, hf1⟩ := two_cells ((hb1.block w.heap.size (by simp)).trans (heap_alloc_new w _))
        have hB1 : Below w.heap.size w w1 := below_after hb1
        have HO : Hid (w1.ownsRow (w.heap.size + 1) 5 1 (.slice a' ys.length c') ys.length (ys.map (Value.int .u8))) := by show World.ownsRow _ _ _ _ _ _ _; simpa using ho1
        clear ho1 hb1 hA hL
        go_wp2
        exact bodyPost_ret (v := .agg #[.int .i64 0, .slice a' ys.length c']) (by simp [results, Try.results21, go_sem, hc0, hc1]) rfl (by rw [HE.out.1, HE.out.2]; exact ⟨(hB1.setCell (Nat.le_refl _) _).setCell (Nat.le_refl _) _, _, rfl, own_mono (ownsRow_setCell_below (ownsRow_setCell_below HO.out (by simp) _) (by simp) _) (by omega)⟩)
      · rw [(tg_no ht h20 hs).1, (tg_no ht h20 hs).2]
        rw [hs] at hA
        generalize xs.length = n at *
        clear hv
        go_enter Try.func21, Try.ntmps21
        go_wp2_with fail
        refine (l1In_any tag 1 9 _).mono ?_
        rintro e w1 ⟨rfl, rfl⟩
        rw [ht]
        go_wp2_with fail
        refine (hA _).mono ?_
        rintro e w1 ⟨rfl, rfl⟩
        go_wp2
        exact bodyPost_ret (v := .agg #[.int .i64 3, .slice none 0 0]) (by simp [results, Try.results21, go_sem]) rfl ⟨one_new _, _, rfl, World.ownsRow_nil _ _ _ _⟩
  · rw [(tg_tag ht).1, (tg_tag ht).2]
    generalize xs.length = n at *
    clear hv
    go_enter Try.func21, Try.ntmps21
    go_wp2_with fail
    refine (l1In_any tag 1 9 _).mono ?_
    rintro e w1 ⟨rfl, rfl⟩
    rw [ht]
    go_wp2
    exact bodyPost_ret (v := .agg #[.int .i64 3, .slice none 0 0]) (by simp [results, Try.results21, go_sem]) rfl ⟨one_new _, _, rfl, World.ownsRow_nil _ _ _ _⟩
/-- The sum's value beside the code of the piece. -/
def tsV (tag : Int) (xs : List Int) : Int := if tgC tag xs = 0 then sumL (tgL tag xs) else 0
theorem ts_ok {tag : Int} {xs : List Int} (h : tgC tag xs = 0) : tsV tag xs = sumL (tgL tag xs) := by simp [tsV, h]
theorem ts_no {tag : Int} {xs : List Int} (h : ¬ tgC tag xs = 0) : tsV tag xs = 0 := by simp [tsV, h]
theorem tgC_codes (tag : Int) (xs : List Int) : tgC tag xs = 0 ∨ tgC tag xs = 2 ∨ tgC tag xs = 3 := by
  unfold tgC
  split
  · simp
  · split
    · simp
    · split <;> simp
set_option maxRecDepth 100000 in
set_option maxHeartbeats 2000000 in
theorem implTagSum_any (tag : Int) (v : Value) (xs : List Int) (w : World) (hv : Ints .i64 w v xs) (hx : xs.length ≤ 1099511627776) :
    Calls Try.prog 22 #[.int .i64 tag, v] w fun e w' => IntAns w (tgC tag xs) (tsV tag xs) e w' := by
  have hT := fun o => implTagBytes_any tag v xs _ (hv.below (one_new o)) hx
  have hlb := tgL_len tag xs
  have hbt := tgL_bts tag xs
  have hcd := tgC_codes tag xs
  obtain ⟨a, c, rfl⟩ := hv.shape
  generalize xs.length = n at *
  by_cases h0 : tgC tag xs = 0
  · rw [ts_ok h0, h0]
    rw [h0] at hT
    have hS := fun u w1 hu => implSumOf_any u (tgL tag xs) w1 hu hbt (by omega)
    have hsm := sm_ok (bs := tgL tag xs) (by omega)
    rw [hsm.1, hsm.2] at hS
    generalize tgL tag xs = ys at *
    generalize sumL ys = s at *
    clear hv hbt hcd h0 hsm
    go_enter Try.func22, Try.ntmps22
    go_wp2_with fail
    refine (hT _).mono ?_
    intro e w1 h1
    obtain ⟨a1, c1, rfl, hb1, own1⟩ := h1.use
    have i1 := (own_ints own1).below (one_new (.cells #[.int .i64 0, .slice a1 ys.length c1] 37))
    have hB1 : Below w.heap.size w (w1.alloc (.cells #[.int .i64 0, .slice a1 ys.length c1] 37)) := below_after_of (below_after hb1) (one_new _)
    have hz1 : w.heap.size < w1.heap.size := by have := hb1.size; simp at this; omega
    have R1 : (w1.alloc (.cells #[.int .i64 0, .slice a1 ys.length c1] 37)).heap[w.heap.size]? = some (.cells #[.int .i64 0, .int .i64 0] 41 (0, 0)) := (Below.heap_alloc _ _ _ hz1).trans ((hb1.block w.heap.size (by simp)).trans (heap_alloc_new w _))
    clear h1 own1 hb1 hT
    go_wp2_with fail
    refine (hS _ _ i1).mono ?_
    rintro e w2 ⟨rfl, hb2⟩
    have hB2 := below_after_of hB1 hb2
    obtain ⟨hc0, hc1, hf0, hf1⟩ := two_cells ((hb2.block w.heap.size (by simp; omega)).trans R1)
    clear hS i1 R1 hb2 hB1
    go_wp2
    exact bodyPost_ret (v := .agg #[.int .i64 0, .int .i64 s]) (by simp [results, Try.results22, go_sem, hc0, hc1]) rfl ⟨rfl, (hB2.setCell (Nat.le_refl _) _).setCell (Nat.le_refl _) _⟩
  · rw [ts_no h0]
    generalize tgL tag xs = ys at *
    generalize tgC tag xs = code at *
    clear hv hbt
    rcases hcd with rfl | rfl | rfl
    · exact absurd rfl h0
    all_goals
      go_enter Try.func22, Try.ntmps22
      go_wp2_with fail
      refine (hT _).mono ?_
      intro e w1 h1
      obtain ⟨a1, c1, rfl, hb1, own1⟩ := h1.use
      have hB1 := below_after hb1
      have hz1 : w.heap.size < w1.heap.size := by have := hb1.size; simp at this; omega
      obtain ⟨hc0, hc1, hf0, hf1⟩ := two_cells ((hb1.block w.heap.size (by simp)).trans (heap_alloc_new w _))
      clear h1 own1 hb1 hT
      go_wp2
      exact bodyPost_ret (v := .agg #[.int .i64 _, .int .i64 0]) (by simp [results, Try.results22, go_sem, hc0, hc1, hz1]) rfl ⟨rfl, ((hB1.setCell (Nat.le_refl _) _).setCell (Nat.le_refl _) _).alloc (by simp; omega) _⟩
end U
end Go.Proofs.Ytdcfoggcepkelaa
