/- PackRecord and RecordSum: what both models answer. -/
import Derived.Test.YtdbbmclobmigdaaGreatRec2
namespace Go.Proofs.YtdbbmclobmigdaaGreat
open Go.RowKit
namespace U
theorem code_ne {c : Int} (h : ¬ c = 0) : (c != 0) = true := by simpa using h
theorem own_set2 {w w' : World} {v : Value} {n : Nat} {xs : List Value} (h : w'.ownsRow (w.heap.size + 2) 5 1 v n xs) (x y : Value) : ((w'.setCell ⟨w.heap.size + 1, 0, none⟩ x).setCell ⟨w.heap.size + 1, 1, none⟩ y).ownsRow w.heap.size 5 1 v n xs :=
  own_mono (ownsRow_setCell_below (ownsRow_setCell_below h (by simp) _) (by simp) _) (by omega)
set_option maxRecDepth 100000 in
set_option maxHeartbeats 2000000 in
theorem implPackRecord_any (l : ByteArray) (v o p : Int) (w : World) (hs : l.size ≤ 1048576) :
    Calls Tryz.prog 110 #[recV l v o p] w fun e w' => BytesAns w (recC l v o p) (pkL l v o p) e w' := by
  obtain ⟨i0, hi, hz0, hz1, hz2⟩ := info_parts Tryz.infoB
  have R0 := (RecAt.new w l v o p 37).below (one_new (.cells #[.int .i64 0, .slice none 0 0] 174))
  have hF := fun w => implRecordFault_any l v o p w hs
  by_cases h : recC l v o p = 0
  · have hok := recOk h
    have hsm := hok.small
    have hws : IntKind.u8.wrap (l.size : Int) = (l.size : Int) := wrapU8' _ (by omega) (by omega)
    have HS : Hid ([v, o, p].all sumB = true) := hok.sums
    rw [pk_ok h]
    rw [h] at hF ⊢
    have HY : Hid (numsL (headL l) [v, o, p] = packL l v o p) := packL_nums l v o p
    generalize packL l v o p = ys at *
    unfold recV at *
    go_enter Tryz.func110, Tryz.ntmps110
    go_wp2_with fail
    refine (hF _).mono ?_
    rintro e w1 ⟨rfl, hb1⟩
    have R1 := R0.below hb1
    have hsz1 : w.heap.size + 2 ≤ w1.heap.size := by have := hb1.size; simp at this; omega
    have two1 := (hb1.block (w.heap.size + 1) (by simp)).trans (heap_new2 w _ _)
    have hB1 : Below w.heap.size w w1 := below_after (below_after hb1)
    clear hb1 R0 hF
    have ⟨c0, c1, c2, c3⟩ := R1
    have d0 := (R1.below (one_new (.cells #[.int .u8 1, .int .u8 (l.size : Int)] 5))).c0
    go_wp2_with (at_builtin; (refine Lib.wpList_append_own_string _ rfl _ _ 134 9 rfl w1.heap.size 5 i0 Tryz.underlying134 Tryz.underlying9 hi hz0 hz1 hz2 (.slice (some ⟨w1.heap.size, 0, none⟩) 2 2) 2 [.int .u8 1, .int .u8 (l.size : Int)] (by rfl) (lit_own2 w1 1 l.size) l (by rfl) (by unfold maxLen; omega) (by omega) (by simp) ?_))
    intro v2 w2 own2 hgrow2 _
    have hb2 : Below w1.heap.size w1 w2 := (one_new _).grown hgrow2 (by simp) (fun k hk => by cases hk; exact Nat.le_refl _)
    have R2 := R1.below hb2
    have own2' : w2.ownsRow w1.heap.size 5 1 v2 (headL l).length ((headL l).map (Value.int .u8)) := by rw [headL_len]; simpa [headL, bl, Lib.strCells, Function.comp_def] using own2
    clear own2 hgrow2 c0 c1 c2 c3 d0
    have ⟨c0, c1, c2, c3⟩ := R2
    obtain ⟨a2, k2, rfl⟩ := own_shape own2'
    have hlt2 : ∀ k, (Value.slice a2 (headL l).length k2).ownBlock = some k → k < w2.heap.size := fun k hk => (own2'.lt k hk).2
    have hB2 := below_after_of hB1 hb2
    have two2 := (hb2.block (w.heap.size + 1) (by omega)).trans two1
    have hsz2 := hb2.size
    clear hb2 R1 two1
    go_wp2_with fail
    refine (appendNumbers_gen w1.heap.size _ _ 3 3 (headL l) [v, o, p] _ rfl (by omega) (show (headL l).length ≤ 1000 by rw [headL_len]; omega) ⟨lit3_ints w2 v o p _, fun b off e _ => ?_⟩ HS (own_below own2' (one_new _)) (by simp; omega)).mono ?_
    · cases e
      exact ⟨by simp, fun e2 => absurd (hlt2 _ e2) (Nat.lt_irrefl _)⟩
    rintro e w3 ⟨v3, rfl, ho3, hb3⟩
    rw [HY.out] at ho3
    obtain ⟨a3, k3, rfl⟩ := own_shape ho3
    have two3 := (hb3.block (w.heap.size + 1) (by omega)).trans ((Below.heap_alloc w2 _ (w.heap.size + 1) (by omega)).trans two2)
    have hB3 : Below w.heap.size w w3 := hB2.trans ((one_new _).mono (by omega) |>.trans (hb3.mono (by omega)))
    obtain ⟨hc0, hc1, hf0, hf1⟩ := two_cells two3
    have HO : Hid (w3.ownsRow (w.heap.size + 2) 5 1 (.slice a3 ys.length k3) ys.length (ys.map (Value.int .u8))) := own_mono ho3 (by omega)
    clear ho3 hb3 hB2 two2 two3 R2 own2' hlt2
    go_wp2
    exact bodyPost_ret (v := .agg #[.int .i64 0, .slice a3 ys.length k3]) (by simp [results, Tryz.results110, go_sem, hc0, hc1]) rfl ⟨(hB3.setCell (Nat.le_succ _) _).setCell (Nat.le_succ _) _, _, rfl, own_set2 HO.out _ _⟩
  · have h1 := code_ne h
    rw [pk_no h]
    generalize recC l v o p = c at *
    clear h
    unfold recV at *
    go_enter Tryz.func110, Tryz.ntmps110
    go_wp2_with fail
    refine (hF _).mono ?_
    rintro e w1 ⟨rfl, hb1⟩
    obtain ⟨hc0, hc1, hf0, hf1⟩ := two_cells ((hb1.block (w.heap.size + 1) (by simp)).trans (heap_new2 w _ _))
    have hB1 : Below w.heap.size w w1 := below_after (below_after hb1)
    clear hb1 R0 hF
    go_wp2
    exact bodyPost_ret (v := .agg #[.int .i64 c, .slice none 0 0]) (by simp [results, Tryz.results110, go_sem, hc0, hc1]) rfl ⟨(hB1.setCell (Nat.le_succ _) _).setCell (Nat.le_succ _) _, _, rfl, World.ownsRow_nil _ _ _ _⟩
end U
end Go.Proofs.YtdbbmclobmigdaaGreat
