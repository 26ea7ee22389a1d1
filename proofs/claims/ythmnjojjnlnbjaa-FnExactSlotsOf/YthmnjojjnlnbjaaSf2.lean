/- The slots of a directory, as the model tells them. -/
import Derived.Test.YthmnjojjnlnbjaaSf1
namespace Go.Proofs.Ythmnjojjnlnbjaa
open Go.RowKit
namespace U
set_option maxRecDepth 100000 in
set_option maxHeartbeats 4000000 in
theorem l9Slots_core (g b off c n : Nat) (l : Rcl) (w : World) (hn : n ≤ 12) (hg : g < w.heap.size) (hb : b < w.heap.size) (hok : ∀ j, j < n → (rAt l j).c = 0) (hD : w.cell? ⟨g, 0, none⟩ = some (.slice (some ⟨b, off, none⟩) n c)) (hc : ∀ j, j < n → RecS w b (off + j * 4) (rAt l j)) :
    Calls Try.prog 74 #[.pointer (some ⟨g, 0, none⟩)] w fun e w' => ∃ u, e = .returned u ∧ Below w.heap.size w w' ∧ w'.ownsRow w.heap.size 112 2 u n ((fl (slTo l n)).map (Value.int .i64)) := by
  obtain ⟨i0, hi, hz0, hz1, hz2⟩ := info_parts Try.infoSl
  have HD : Hid (∀ w', Below w.heap.size w w' → w'.cell? ⟨g, 0, none⟩ = some (.slice (some ⟨b, off, none⟩) n c)) := fun w' h => (h.cell (p := ⟨g, 0, none⟩) hg).trans hD
  go_enter Try.func74, Try.ntmps74
  go_wp2
  go_loopw [3, 4] (fun u i wr => ∃ k : Nat, k ≤ n ∧ i = .int .i64 k ∧ Hid (Below w.heap.size w wr) ∧ Hid (wr.ownsRow w.heap.size 112 2 u k ((fl (slTo l k)).map (Value.int .i64)))) (fun _ i _ => n - (intOf i).toNat)
  case atStart => exact ⟨0, Nat.zero_le _, rfl, one_new _, none_own w 112 w.heap.size (Nat.le_refl _)⟩
  case round =>
    obtain ⟨k, hk, rfl, hB, ho⟩ := hrel
    obtain ⟨a', c', rfl⟩ := own_sh ho.out
    have hDk := HD.out _ hB.out
    by_cases hkn : k < n
    · have hki : (k : Int) < (n : Int) := by omega
      have hc0 := hok k hkn
      have hKy := fun w => l2Key_any (rAt l k).l w (Rc.small_of hc0)
      have HRT : Hid (∀ w', Below w.heap.size w w' → RecT w' b (off + k * 4) (rAt l k).l (rAt l k).v (rAt l k).o (rAt l k).p) := fun w' h => ((hc k hkn).below h hb).t
      have hRs := fun w' (h : Below w.heap.size w w') => l3Sum_at b (off + k * 4) (rAt l k).l (rAt l k).v (rAt l k).o (rAt l k).p w' (HRT.out w' h) (recOk hc0) (Nat.lt_of_lt_of_le hb h.size)
      have e2 : keyI (rAt l k).l = (rAt l k).k := rfl
      have e3 : sumL (packL (rAt l k).l (rAt l k).v (rAt l k).o (rAt l k).p) = (rAt l k).s := rfl
      rw [e2] at hKy
      rw [e3] at hRs
      have HG : Hid (slTo l (k + 1) = slTo l k ++ [((rAt l k).k, (rAt l k).s)]) := rfl
      generalize (rAt l k).k = kz at *
      generalize (rAt l k).s = sz at *
      generalize (rAt l k).l = x0 at *
      generalize (rAt l k).v = x1 at *
      generalize (rAt l k).o = x2 at *
      generalize (rAt l k).p = x3 at *
      have HVC : Hid (∀ w', Below wr.heap.size wr w' → w'.cell? ⟨g, 0, none⟩ = some (.slice (some ⟨b, off, none⟩) n c) ∧ w'.cell? ⟨b, off + k * 4, none⟩ = some (.string x0)) := fun w' h => ⟨HD.out _ (below_after_of hB.out h), (HRT.out _ (below_after_of hB.out h)).c0⟩
      have HRS : Hid (∀ w', Below wr.heap.size wr w' → Calls Try.prog 110 #[.pointer (some ⟨b, off + k * 4, none⟩)] w' fun e w'' => e = .returned (.int .i64 sz) ∧ Below w'.heap.size w' w'') := fun w' h => hRs w' (below_after_of hB.out h)
      have HOW : Hid (∀ w', Below wr.heap.size wr w' → w'.ownsRow w.heap.size 112 2 (.slice a' k c') k ((fl (slTo l k)).map (Value.int .i64))) := fun w' h => own_below ho.out h
      have hoB : ∀ j, (Value.slice a' k c').ownBlock = some j → w.heap.size ≤ j ∧ j < wr.heap.size := fun j hj => ho.out.lt j hj
      obtain ⟨g0, g1⟩ := HVC.out wr (Below.refl _ _)
      have hbr := Below.refl wr.heap.size wr
      have hgb : some g ≠ (Value.slice a' k c').ownBlock := fun e => by have := hoB _ e.symm; omega
      have hbb : some b ≠ (Value.slice a' k c').ownBlock := fun e => by have := hoB _ e.symm; omega
      have HZS : Hid (w.heap.size ≤ wr.heap.size) := hB.out.size
      clear hc0 e2 e3 hc hRs hok HRT
      go_wp2_with fail
      go_region_held3 (fun w' => w'.cell? ⟨g, 0, none⟩ = some (.slice (some ⟨b, off, none⟩) n c) ∧ w'.cell? ⟨b, off + k * 4, none⟩ = some (.string x0))
        (first | with_reducible exact ⟨g0, g1⟩ | with_reducible exact HVC.out _ hbr | with_reducible exact HVC.out _ hbr.drew | with_reducible exact HVC.out _ (hbr.alloc hbr.size _) | with_reducible exact hlast)
        (first
          | (go_at_call 104; refine (hKy _).mono ?_; rintro e w5 ⟨rfl, hb5⟩; have hbr : Below wr.heap.size wr w5 := (by first | exact below_after_of hbr hb5 | exact below_after_of hbr.drew hb5))
          | (go_at_call 110; refine (HRS.out _ (by first | exact hbr | exact hbr.drew)).mono ?_; rintro e w6 ⟨rfl, hb6⟩; have hbr : Below wr.heap.size wr w6 := (by first | exact below_after_of hbr hb6 | exact below_after_of hbr.drew hb6))
          | (refine step_append_one (by rfl) _ _ _ (by rfl) w.heap.size 112 i0 (.agg #[.int .i64 0, .int .i64 0]) 2 16 Try.underlying51 hi hz0 hz1 hz2 rfl (by decide) (.slice a' k c') k _ (by rfl) (HOW.out _ (hbr.alloc hbr.size _)) ⟨w6.heap.size, 0, none⟩ 1 [.int .i64 kz, .int .i64 sz] (by rfl) (by rfl) (World.news_of_block (heap_alloc_new _ _)) (ints_oneCell .i64 [kz, sz]) (by unfold maxLen; omega) (by omega) (by have := HZS.out; have := hbr.size; simp; omega) ?_; intro g7 c7 w7 ho7 hg7; have hlast : w7.cell? ⟨g, 0, none⟩ = some (.slice (some ⟨b, off, none⟩) n c) ∧ w7.cell? ⟨b, off + k * 4, none⟩ = some (.string x0) := (by
              have q := HVC.out _ (hbr.alloc hbr.size (.cells #[.int .i64 kz, .int .i64 sz] 112))
              exact ⟨hg7.cell q.1 hgb, hg7.cell q.2 hbb⟩)))
      have HO7 : Hid (w7.ownsRow w.heap.size 112 2 (.slice (some ⟨g7, 0, none⟩) (k + 1) c7) (k + 1) ((fl (slTo l (k + 1))).map (Value.int .i64))) := (by rw [HG.out]; exact own_snocS ho7 : w7.ownsRow w.heap.size 112 2 (.slice (some ⟨g7, 0, none⟩) (k + 1) c7) (k + 1) ((fl (slTo l (k + 1))).map (Value.int .i64)))
      have hbA : Below w.heap.size w (w6.alloc (.cells #[.int .i64 kz, .int .i64 sz] 112)) := below_after_of hB.out (hbr.alloc hbr.size _)
      have HB7 : Hid (Below w.heap.size w w7) := hbA.grown hg7 hbA.size (fun j hj => (hoB j hj).1)
      clear hbA hg7 ho7 hlast HOW HVC
      go_wp2
      go_roundw
      case rel => exact ⟨k + 1, by omega, by go_num, HB7, HO7⟩
      case measure => simp [intOf]; omega
    · have hkn : k = n := by omega
      subst hkn
      clear hc hok
      go_wp2
      go_ret
      exact ⟨_, rfl, hB.out, ho.out⟩
set_option maxRecDepth 100000 in
set_option maxHeartbeats 1000000 in
theorem l9Slots_any (g : Nat) (v : Value) (l : Rcl) (w : World) (hg : g < w.heap.size) (hD : w.cell? ⟨g, 0, none⟩ = some v) (hv : Rcs w v l) (hok : DirOk l) :
    Calls Try.prog 74 #[.pointer (some ⟨g, 0, none⟩)] w fun e w' => ∃ u, e = .returned u ∧ Below w.heap.size w w' ∧ w'.ownsRow w.heap.size 112 2 u (dirSl l).length ((fl (dirSl l)).map (Value.int .i64)) := by
  obtain ⟨a, c, rfl⟩ := hv.shape
  have e1 : (dirSl l).length = l.length := slTo_len l _
  rw [e1]
  by_cases h0 : 0 < l.length
  · obtain ⟨_, b, off, rfl, hb, hc⟩ := hv.at h0
    exact l9Slots_core g b off c l.length l w hok.len hg hb hok.ok hD hc
  · have e2 : l = [] := List.eq_nil_of_length_eq_zero (by omega)
    subst e2
    have e3 : fl (dirSl []) = [] := rfl
    rw [e3]
    simp only [List.length_nil] at *
    clear hv h0 hok e1 e3
    have HN : Hid ((w.alloc (.cells #[] 112)).ownsRow w.heap.size 112 2 (.slice (some ⟨w.heap.size, 0, none⟩) 0 0) 0 []) := none_own w 112 w.heap.size (Nat.le_refl _)
    have hltA : g ≠ w.heap.size := by omega
    go_enter Try.func74, Try.ntmps74
    go_wp2
    refine wp_loop_rounds 1 ?_; rw [rounds_succ]
    go_wp2
    go_ret
    exact ⟨_, rfl, one_new _, HN.out⟩
set_option maxRecDepth 100000 in
set_option maxHeartbeats 1000000 in
theorem specSlotsOf_any (v : Value) (l : Rcl) (w : World) (hv : Rcs w v l) (hl : Lbs l) (hx : l.length ≤ 1048576) :
    Calls Try.prog 27 #[.agg #[v]] w fun e w' => SlotsAns w (dirF l) (sfL l) e w' := by
  obtain ⟨W, hW⟩ : ∃ W, W = (w.alloc (.cells #[v] 26)).alloc (.cells #[.int .i64 0, .slice none 0 0] 53) := ⟨_, rfl⟩
  have HW : Hid ((w.alloc (.cells #[v] 26)).alloc (.cells #[.int .i64 0, .slice none 0 0] 53) = W) := hW.symm
  have hB : Below w.heap.size w W := by rw [hW]; exact two_new _ _
  have h1 : W.heap[w.heap.size + 1]? = some (.cells #[.int .i64 0, .slice none 0 0] 53) := by rw [hW]; exact heap_new2 w _ _
  have h2 : W.heap[w.heap.size]? = some (.cells #[v] 26) := by rw [hW]; exact heap_alloc_old' _ _ _ (heap_alloc_new w _)
  have hlt2 := (Array.getElem?_eq_some_iff.1 h2).1
  have hlt1 := (Array.getElem?_eq_some_iff.1 h1).1
  have hcv : ∀ {w' : World}, Below W.heap.size W w' → w'.cell? ⟨w.heap.size, 0, none⟩ = some v := fun h => by unfold World.cell?; rw [(h.block _ hlt2).trans h2]; rfl
  have hF := l9Fault_any w.heap.size v l W hlt2 (hcv (Below.refl _ _)) (hv.below hB) hl (by omega)
  have hS := fun hok w' (h : Below W.heap.size W w') => l9Slots_any w.heap.size v l w' (Nat.lt_of_lt_of_le hlt2 h.size) (hcv h) ((hv.below hB).below h) hok
  have HH : Hid (∀ w', Below W.heap.size W w' → w'.heap[w.heap.size + 1]? = some (.cells #[.int .i64 0, .slice none 0 0] 53)) := fun w' h => (h.block _ hlt1).trans h1
  obtain ⟨a, c, rfl⟩ := hv.shape
  clear hcv h1 h2 hv hW
  by_cases h0 : dirF l = 0
  · have hS := hS (dirOk h0)
    have e1 : sfL l = dirSl l := by unfold sfL; rw [if_pos h0]
    rw [h0] at hF ⊢
    rw [e1]
    generalize dirSl l = ys at *
    generalize l.length = n at *
    clear e1 h0
    go_enter Try.func27, Try.ntmps27
    go_wp2_with fail
    rw [HW.out]
    refine hF.mono ?_
    rintro e w1 ⟨rfl, hb1⟩
    clear hF
    go_wp2_with fail
    refine (hS _ hb1).mono ?_
    rintro e w2 ⟨u, rfl, hb2, ho2⟩
    obtain ⟨a2, c2, rfl⟩ := own_sh ho2
    have hbW := below_after_of hb1 hb2
    obtain ⟨c0, c1, f0, f1⟩ := two_cells (HH.out _ hbW)
    have hB2 := below_after_of hB hbW
    have HO2 : Hid (w2.ownsRow w1.heap.size 112 2 (.slice a2 ys.length c2) ys.length ((fl ys).map (Value.int .i64))) := ho2
    have hz1 : w.heap.size + 1 < w1.heap.size := Nat.lt_of_lt_of_le hlt1 hb1.size
    have hz2 : w.heap.size ≤ w1.heap.size := by omega
    clear hS hb1 hb2 hbW ho2 HH
    go_wp2
    exact bodyPost_ret (v := .agg #[.int .i64 0, .slice a2 ys.length c2]) (by simp [results, Try.results27, go_sem, c0, c1]) rfl ⟨(hB2.setCell (Nat.le_succ _) _).setCell (Nat.le_succ _) _, _, rfl, own_mono (ownsRow_setCell_below (ownsRow_setCell_below HO2.out (by show w.heap.size + 1 < w1.heap.size; exact hz1) _) (by show w.heap.size + 1 < w1.heap.size; exact hz1) _) hz2⟩
  · have e1 : sfL l = [] := by unfold sfL; rw [if_neg h0]
    have hqn : (dirF l != 0) = true := by simpa using h0
    rw [e1]
    generalize dirF l = q at *
    generalize l.length = n at *
    clear e1 h0 hS
    go_enter Try.func27, Try.ntmps27
    go_wp2_with fail
    rw [HW.out]
    refine hF.mono ?_
    rintro e w1 ⟨rfl, hb1⟩
    obtain ⟨c0, c1, f0, f1⟩ := two_cells (HH.out _ hb1)
    have hB2 := below_after_of hB hb1
    clear hF hb1 HH
    go_wp2
    exact bodyPost_ret (v := .agg #[.int .i64 q, .slice none 0 0]) (by simp [results, Try.results27, go_sem, c0, c1]) rfl ⟨(hB2.setCell (Nat.le_succ _) _).setCell (Nat.le_succ _) _, _, rfl, World.ownsRow_nil _ _ _ _⟩
end U
end Go.Proofs.Ythmnjojjnlnbjaa
