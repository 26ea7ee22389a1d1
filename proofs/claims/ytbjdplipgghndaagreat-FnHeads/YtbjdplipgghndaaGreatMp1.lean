/- Records by their keys: the map that the program makes of a directory. -/
import Derived.Test.YtbjdplipgghndaaGreatMpM
import Derived.Test.YtbjdplipgghndaaGreatShelf
import Derived.Test.YtbjdplipgghndaaGreatHeldBy
import Derived.Deep.RegionHeld3
namespace Go.Proofs.YtbjdplipgghndaaGreat
open Go.RowKit Go.Maps
namespace U
set_option maxHeartbeats 400000 in
theorem clone_strR (s : ByteArray) (w : World) (hs : s.size ≤ 1048576) : Calls Tryz.prog 164 #[.string s] w fun e w' => e = .returned (.string s) ∧ Below w.heap.size w w' := by
  go_enter Tryz.func164, Tryz.ntmps164
  go_wp2_with fail
  refine (Tryz.stringslite_Clone s _ (by omega)).mono ?_
  rintro e w1 ⟨rfl, hb1⟩
  go_wp2
  go_ret
  exact ⟨rfl, hb1⟩
set_option maxRecDepth 100000 in
set_option maxHeartbeats 1000000 in
theorem ownRecord_any (l : ByteArray) (v o p : Int) (w : World) (hs : l.size ≤ 1048576) :
    Calls Tryz.prog 110 #[.agg #[.string l, .int .i64 v, .int .i64 o, .int .i64 p]] w fun e w' => e = .returned (.agg #[.string l, .int .i64 v, .int .i64 o, .int .i64 p]) ∧ Below w.heap.size w w' := by
  have hC := fun w => clone_strR l w hs
  go_enter Tryz.func110, Tryz.ntmps110
  go_wp2_with fail
  refine (hC _).mono ?_
  rintro e w1 ⟨rfl, hb1⟩
  have hB : Below w.heap.size w w1 := below_after (below_after hb1)
  have k0 := blk4 ((hb1.block w.heap.size (by simp; omega)).trans (heap_alloc_old' _ _ _ (heap_alloc_new w _)))
  have k1 := blk4 ((hb1.block (w.heap.size + 1) (by simp)).trans (heap_new2 w _ _))
  go_split_ands
  clear hb1 hC
  go_wp2
  refine bodyPost_ret (v := .agg #[.string l, .int .i64 v, .int .i64 o, .int .i64 p]) (by simp [results, Tryz.results110, go_sem, *]) rfl ⟨rfl, ?_⟩
  exact ((((hB.setCell (Nat.le_refl _) _).setCell (Nat.le_succ _) _).setCell (Nat.le_succ _) _).setCell (Nat.le_succ _) _).setCell (Nat.le_succ _) _
set_option maxRecDepth 100000 in
set_option maxHeartbeats 4000000 in
theorem recordsOf_core (b off c n : Nat) (l : Rcl) (w : World) (hn : n ≤ 12) (hb : b < w.heap.size) (hok : ∀ j, j < n → (rAt l j).c = 0) (hc : ∀ j, j < n → RecS w b (off + j * 4) (rAt l j)) :
    Calls Tryz.prog 107 #[.agg #[.slice (some ⟨b, off, none⟩) n c]] w fun e w' => e = .returned (.map (some (w.heap.size + 1))) ∧ Below w.heap.size w w' ∧ MpAt w' (w.heap.size + 1) n (mapTo l n) := by
  have hmm := @run_makeMap Tryz.prog
  go_enter Tryz.func107, Tryz.ntmps107
  go_wp2
  go_loopw [10] (fun i wr => ∃ k : Nat, k ≤ n ∧ i = .int .i64 k ∧ Hid (Below w.heap.size w wr) ∧ Hid (MpAt wr (w.heap.size + 1) k (mapTo l k))) (fun i _ => n - (intOf i).toNat)
  case atStart =>
    refine ⟨0, Nat.zero_le _, rfl, two_new _ _, ?_⟩
    have h := MpAt.made (w.alloc (.cells #[.slice (some ⟨b, off, none⟩) n c] 42))
    rw [World.size_alloc] at h
    exact h
  case round =>
    obtain ⟨k, hk, rfl, hB, hM⟩ := hrel
    by_cases hkn : k < n
    · have hki : (k : Int) < (n : Int) := by omega
      have hr := (hc k hkn).below hB.out hb
      have hc0 := hok k hkn
      have hKy := fun w => recordKey_any (rAt l k).l (rAt l k).v (rAt l k).o (rAt l k).p w (Rc.labelP_of hc0)
      have hOw := fun w => ownRecord_any (rAt l k).l (rAt l k).v (rAt l k).o (rAt l k).p w (by have := Rc.small_of hc0; omega)
      have e2 : keyI (rAt l k).l = (rAt l k).k := rfl
      rw [e2] at hKy
      have hkb := (rAt l k).kbd
      have HG : Hid (mapTo l (k + 1) = fun y => if y = (rAt l k).k then some (rAt l k) else mapTo l k y) := rfl
      obtain ⟨r, hre⟩ : ∃ r, r = rAt l k := ⟨_, rfl⟩
      rw [← hre] at hr hKy hOw hkb HG
      obtain ⟨d0, d1, d2, d3⟩ := hr
      obtain ⟨x0, x1, x2, x3⟩ := r
      unfold recV at hKy
      dsimp only at d0 d1 d2 d3 hKy hOw
      generalize hkz : Rc.k ⟨x0, x1, x2, x3⟩ = kz at *
      have hbr0 : b < wr.heap.size := Nat.lt_of_lt_of_le hb hB.out.size
      obtain ⟨W, hW⟩ : ∃ W, W = wr.alloc (.cells #[.string x0, .int .i64 x1, .int .i64 x2, .int .i64 x3] 56) := ⟨_, rfl⟩
      have HW : Hid (wr.alloc (.cells #[.string x0, .int .i64 x1, .int .i64 x2, .int .i64 x3] 56) = W) := hW.symm
      have HWB : Hid (Below w.heap.size w W) := (by rw [hW]; exact hB.out.alloc hB.out.size _ : Below w.heap.size w W)
      have hWH : W.heap[wr.heap.size]? = some (.cells #[.string x0, .int .i64 x1, .int .i64 x2, .int .i64 x3] 56) := by rw [hW]; exact heap_alloc_new wr _
      have HWM : Hid (∀ w', Below W.heap.size W w' → MpAt w' (w.heap.size + 1) k (mapTo l k)) := fun w' h => by
        have h1 : MpAt W (w.heap.size + 1) k (mapTo l k) := by rw [hW]; exact hM.out.below (one_new _) hM.out.lt
        exact h1.below h h1.lt
      have hlt := (Array.getElem?_eq_some_iff.1 hWH).1
      have HWC : Hid (∀ w', Below W.heap.size W w' → w'.cell? ⟨wr.heap.size, 0, none⟩ = some (.string x0) ∧ w'.cell? ⟨wr.heap.size, 1, none⟩ = some (.int .i64 x1) ∧ w'.cell? ⟨wr.heap.size, 2, none⟩ = some (.int .i64 x2) ∧ w'.cell? ⟨wr.heap.size, 3, none⟩ = some (.int .i64 x3)) := fun w' h => four_cellsV ((h.block wr.heap.size hlt).trans hWH)
      obtain ⟨g0, g1, g2, g3⟩ := four_cellsV hWH
      have hbr := Below.refl W.heap.size W
      have HKN : Hid (k < maxLen) := (by unfold maxLen; omega : k < maxLen)
      clear hc hok hre hkz hc0 e2 hW hWH
      go_wp2_with fail
      rw [HW.out]
      go_region_held3 (fun w' => w'.cell? ⟨wr.heap.size, 0, none⟩ = some (.string x0) ∧ w'.cell? ⟨wr.heap.size, 1, none⟩ = some (.int .i64 x1) ∧ w'.cell? ⟨wr.heap.size, 2, none⟩ = some (.int .i64 x2) ∧ w'.cell? ⟨wr.heap.size, 3, none⟩ = some (.int .i64 x3))
        (first | exact ⟨g0, g1, g2, g3⟩ | exact HWC.out _ hbr | exact HWC.out _ hbr.drew | exact hlast)
        (first
          | (go_at_call 82; refine (hKy _).mono ?_; rintro e w5 ⟨rfl, hb5⟩; have hbr : Below W.heap.size W w5 := (by first | exact below_after_of hbr hb5 | exact below_after_of hbr.drew hb5))
          | (go_at_call 110; refine (hOw _).mono ?_; rintro e w6 ⟨rfl, hb6⟩; have hbr : Below W.heap.size W w6 := (by first | exact below_after_of hbr hb6 | exact below_after_of hbr.drew hb6); obtain ⟨w7, hrun7, hM7, hg7⟩ := (HWM.out _ hbr).store HKN.out hkb ⟨x0, x1, x2, x3⟩; dsimp only [Rc.val] at hrun7; have hlast : w7.cell? ⟨wr.heap.size, 0, none⟩ = some (.string x0) ∧ w7.cell? ⟨wr.heap.size, 1, none⟩ = some (.int .i64 x1) ∧ w7.cell? ⟨wr.heap.size, 2, none⟩ = some (.int .i64 x2) ∧ w7.cell? ⟨wr.heap.size, 3, none⟩ = some (.int .i64 x3) := (by
              have hne : some wr.heap.size ≠ some (w.heap.size + 1) := (by have := hM.out.lt; simp; omega)
              have q := HWC.out _ hbr
              exact ⟨hg7.cell q.1 hne, hg7.cell q.2.1 hne, hg7.cell q.2.2.1 hne, hg7.cell q.2.2.2 hne⟩)))
      have HB7 : Hid (Below w.heap.size w w7) := (below_after_of HWB.out hbr).grown hg7 (Nat.le_trans HWB.out.size hbr.size) (fun j hj => by cases hj; omega)
      have HM7 : Hid (MpAt w7 (w.heap.size + 1) (k + 1) (mapTo l (k + 1))) := (by rw [HG.out]; exact hM7 : MpAt w7 (w.heap.size + 1) (k + 1) (mapTo l (k + 1)))
      clear hM7 hg7 hlast HWM HWC hrun7
      go_wp2
      go_roundw
      case rel => exact ⟨k + 1, by omega, by go_num, HB7, HM7⟩
      case measure => simp [intOf]; omega
    · have hkn : k = n := by omega
      subst hkn
      clear hc
      go_wp2
      go_ret
      exact ⟨rfl, hB.out, hM.out⟩
set_option maxRecDepth 100000 in
set_option maxHeartbeats 1000000 in
theorem recordsOf_any (v : Value) (l : Rcl) (w : World) (hv : Rcs w v l) (hok : DirOk l) :
    Calls Tryz.prog 107 #[.agg #[v]] w fun e w' => e = .returned (.map (some (w.heap.size + 1))) ∧ Below w.heap.size w w' ∧ MpAt w' (w.heap.size + 1) l.length (mapTo l l.length) := by
  obtain ⟨a, c, rfl⟩ := hv.shape
  by_cases h0 : 0 < l.length
  · obtain ⟨_, b, off, rfl, hb, hc⟩ := hv.at h0
    exact recordsOf_core b off c l.length l w hok.len hb hok.ok hc
  · have e1 : l = [] := List.eq_nil_of_length_eq_zero (by omega)
    subst e1
    simp only [List.length_nil] at *
    clear hv h0 hok
    have hmm := @run_makeMap Tryz.prog
    have h := MpAt.made (w.alloc (.cells #[.slice a 0 c] 42))
    rw [World.size_alloc] at h
    have HM : Hid (MpAt ((w.alloc (.cells #[.slice a 0 c] 42)).alloc (.map #[] 0)) (w.heap.size + 1) 0 (fun _ => none)) := h
    clear h
    go_enter Tryz.func107, Tryz.ntmps107
    go_wp2
    refine wp_loop_rounds 1 ?_; rw [rounds_succ]
    go_wp2
    go_ret
    exact ⟨rfl, two_new _ _, HM.out⟩
end U
end Go.Proofs.YtbjdplipgghndaaGreat
