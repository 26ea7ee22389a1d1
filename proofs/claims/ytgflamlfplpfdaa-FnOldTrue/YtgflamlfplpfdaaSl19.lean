/- OldPath, by the program and by the model: every way; numbers of whatever make, marked. -/
import Derived.Test.YtgflamlfplpfdaaSl18
namespace Go.Proofs.Ytgflamlfplpfdaa
open Go.RowKit
namespace U
set_option maxRecDepth 100000 in
set_option maxHeartbeats 4000000 in
theorem implOldPath_any (v : Value) (l : Prl) (x : Int) (w : World) (hv : Prs w v l) (hok : Okv v) (hx : l.length ≤ 1099511627776) :
    Calls Try.prog 23 #[v, .int .i64 x] w fun e w' => NumsAns w (opC l x) (opL l x) e w' := by
  have hF := fun w' h => implSlotsFault_any v l w' (hv.below h) hx
  have hK := fun w' => isKey_any x w'
  unfold opC opL
  obtain ⟨ad, c, rfl⟩ := hv.shape
  by_cases h0 : slF l = 0
  · rw [if_pos h0]
    rw [h0] at hF
    rcases Bool.eq_false_or_eq_true (inB x 0 255) with hb | hb
    · rw [if_pos hb, if_pos ⟨h0, hb⟩]
      rw [hb] at hK
      exact implOldPath_ok ad l.length c l x w hv hok (slF_ok h0) (inB_bd hb) hF hK
    · rw [if_neg (by rw [hb]; simp), if_neg (fun h => by rw [hb] at h; cases h.2)]
      rw [hb] at hK
      generalize l.length = n at *
      clear hv hok h0 hb
      go_enter Try.func23, Try.ntmps23
      go_wp2_with fail
      refine (hF _ (one_new _)).mono ?_
      rintro e w1 ⟨rfl, hb1⟩
      clear hF
      go_wp2_with fail
      refine (hK _).mono ?_
      rintro e w1b ⟨rfl, rfl⟩
      obtain ⟨g0, g1, f0, f1⟩ := two_cellsV ((hb1.block w.heap.size (by simp)).trans (heap_alloc_new w _))
      have hB1 := below_after hb1
      clear hK hb1
      go_wp2
      exact bodyPost_ret (v := .agg #[.int .i64 3, .slice none 0 0]) (by simp [results, Try.results23, go_sem, *]) rfl ⟨(hB1.setCell (by simp) _).setCell (by simp) _, _, 2, rfl, World.ownsRow_nil _ _ _ _⟩
  · rw [if_neg h0, if_neg (fun h => h0 h.1)]
    generalize slF l = f at *
    generalize l.length = n at *
    have hfn : (f != 0) = true := by simpa using h0
    clear hv h0 hK hok
    go_enter Try.func23, Try.ntmps23
    go_wp2_with fail
    refine (hF _ (one_new _)).mono ?_
    rintro e w1 ⟨rfl, hb1⟩
    obtain ⟨g0, g1, f0, f1⟩ := two_cellsV ((hb1.block w.heap.size (by simp)).trans (heap_alloc_new w _))
    have hB1 := below_after hb1
    clear hF hb1
    go_wp2
    exact bodyPost_ret (v := .agg #[.int .i64 f, .slice none 0 0]) (by simp [results, Try.results23, go_sem, *]) rfl ⟨(hB1.setCell (by simp) _).setCell (by simp) _, _, 2, rfl, World.ownsRow_nil _ _ _ _⟩
set_option maxRecDepth 100000 in
set_option maxHeartbeats 4000000 in
theorem specOldPath_any (v : Value) (l : Prl) (x : Int) (w : World) (hv : Prs w v l) (hx : l.length ≤ 1048576) :
    Calls Try.prog 33 #[v, .int .i64 x] w fun e w' => NumsAns w (opC l x) (opL l x) e w' := by
  have hF := fun w' h => l4Fault_any v l w' (hv.below h) (by omega)
  have hK := fun w' => l4Key_any x w'
  unfold opC opL
  by_cases h0 : slF l = 0
  · rw [if_pos h0]
    rw [h0] at hF
    have hs := slF_ok h0
    rcases Bool.eq_false_or_eq_true (inB x 0 255) with hb | hb
    · rw [if_pos hb, if_pos ⟨h0, hb⟩]
      rw [hb] at hK
      have hP := fun w' h => l4Path_any v l x w' (hv.below h) hx hs.fin (inB_bd hb)
      obtain ⟨ad, c, rfl⟩ := hv.shape
      generalize pth l x 8 = m at *
      generalize l.length = n at *
      clear hv h0 hb hs
      go_enter Try.func33, Try.ntmps33
      go_wp2_with fail
      refine (hF _ (one_new _)).mono ?_
      rintro e w1 ⟨rfl, q1, rfl⟩
      clear hF
      go_wp2_with fail
      refine (hK _).mono ?_
      rintro e w1b ⟨rfl, rfl⟩
      clear hK
      go_wp2_with fail
      refine (hP _ (below_drewN (one_new _) _)).mono ?_
      rintro e w3 ⟨v3, rfl, ho3, hb3⟩
      obtain ⟨a3, c3, rfl⟩ := own_shape ho3
      have hb3' := below_after_of (below_drewN (one_new _) q1) hb3
      obtain ⟨g0, g1, f0, f1⟩ := two_cellsV ((hb3.block w.heap.size (by simp)).trans (heap_alloc_new w _))
      have HO : Hid (w3.ownsRow (w.heap.size + 1) 2 1 (.slice a3 m.length c3) m.length (m.map (Value.int .i64))) := own_mono ho3 (by simp)
      clear hP hb3 ho3
      go_wp2
      refine bodyPost_ret (v := .agg #[.int .i64 0, .slice a3 m.length c3]) (by simp [results, Try.results33, go_sem, *]) rfl ⟨(hb3'.setCell (by simp) _).setCell (by simp) _, _, 2, rfl, ?_⟩
      exact own_mono (ownsRow_setCell_below (ownsRow_setCell_below HO.out (by show w.heap.size < w.heap.size + 1; omega) _) (by show w.heap.size < w.heap.size + 1; omega) _) (by omega)
    · rw [if_neg (by rw [hb]; simp), if_neg (fun h => by rw [hb] at h; cases h.2)]
      rw [hb] at hK
      obtain ⟨ad, c, rfl⟩ := hv.shape
      generalize l.length = n at *
      clear hv h0 hb hs
      go_enter Try.func33, Try.ntmps33
      go_wp2_with fail
      refine (hF _ (one_new _)).mono ?_
      rintro e w1 ⟨rfl, q1, rfl⟩
      clear hF
      go_wp2_with fail
      refine (hK _).mono ?_
      rintro e w1b ⟨rfl, rfl⟩
      clear hK
      go_wp2
      exact bodyPost_ret (v := .agg #[.int .i64 3, .slice none 0 0]) (by simp [results, Try.results33, go_sem]) rfl ⟨by first | exact below_drewN (one_new _) _ | exact ((below_drewN (one_new _) _).setCell (by simp) _).setCell (by simp) _, _, 2, rfl, World.ownsRow_nil _ _ _ _⟩
  · rw [if_neg h0, if_neg (fun h => h0 h.1)]
    obtain ⟨ad, c, rfl⟩ := hv.shape
    generalize slF l = f at *
    generalize l.length = n at *
    have hfn : (f != 0) = true := by simpa using h0
    clear hv h0 hK
    go_enter Try.func33, Try.ntmps33
    go_wp2_with fail
    refine (hF _ (one_new _)).mono ?_
    rintro e w1 ⟨rfl, q1, rfl⟩
    clear hF
    go_wp2
    exact bodyPost_ret (v := .agg #[.int .i64 f, .slice none 0 0]) (by simp [results, Try.results33, go_sem]) rfl ⟨by first | exact below_drewN (one_new _) _ | exact ((below_drewN (one_new _) _).setCell (by simp) _).setCell (by simp) _, _, 2, rfl, World.ownsRow_nil _ _ _ _⟩
set_option maxRecDepth 100000 in
set_option maxHeartbeats 1000000 in
theorem markNums_any (B : Nat) (t : TypeId) (v : Value) (xs : List Int) (k0 : Nat) (w : World) (hown : w.ownsRow B t 1 v xs.length (xs.map (Value.int .i64))) (hx : xs.length ≤ 1099511627776) (hk0 : k0 ≤ 1099511627776) :
    Calls Try.prog 93 #[v, .int .i64 k0] w fun e w' => e = .returned (.int .i64 ((k0 + xs.length : Nat) : Int)) ∧ w.grownBy w' v.ownBlock ∧ w'.ownsRow B t 1 v xs.length ((marks k0 xs.length).map (Value.int .i64)) := by
  by_cases h0 : xs.length = 0
  · have e1 : xs = [] := List.eq_nil_of_length_eq_zero h0
    subst e1
    obtain ⟨a, c, rfl⟩ := own_shape hown
    simp only [List.length_nil] at *
    go_enter Try.func93, Try.ntmps93
    go_wp2
    refine wp_loop_rounds 1 ?_; rw [rounds_succ]
    go_wp2
    go_ret
    exact ⟨rfl, World.grownBy.refl _ _, hown⟩
  · rcases hown.2 with ⟨_, h⟩ | ⟨g, cap, cur, rfl, hB, hg, _⟩
    · exact absurd h h0
    have hgs : g < w.heap.size := (Array.getElem?_eq_some_iff.1 hg).1
    clear hg hB
    obtain ⟨n, hn⟩ : ∃ n, n = xs.length := ⟨_, rfl⟩
    have HN : Hid (n = xs.length) := hn
    rw [← hn] at hown hx h0 ⊢
    clear hn h0
    go_enter Try.func93, Try.ntmps93
    go_wp2
    go_loopw [1, 5] (fun k i wr => ∃ j : Nat, j ≤ n ∧ i = .int .i64 j ∧ k = .int .i64 ((k0 + j : Nat) : Int) ∧ w.grownBy wr (some g) ∧ wr.ownsRow B t 1 (.slice (some ⟨g, 0, none⟩) n cap) n ((half xs k0 j).map (Value.int .i64))) (fun _ i _ => n - (intOf i).toNat)
    case atStart => exact ⟨0, Nat.zero_le _, rfl, by simp, World.grownBy.refl _ _, by rw [half_zero]; exact hown⟩
    case round =>
      obtain ⟨j, hj, rfl, rfl, hgr, ho⟩ := hrel
      by_cases hjn : j < n
      · have hji : (j : Int) < (n : Int) := by omega
        have hfz := ho.frozenAt j
        obtain ⟨x, hcl⟩ := own_some ho hjn
        obtain ⟨s1, s2⟩ := ho.stored j (.int .i64 ((k0 + j : Nat) : Int))
        have s2 := grown_trans hgr s2
        rw [← List.map_set, half_set xs k0 j (by have := HN.out; omega)] at s1
        clear ho hown hgr
        go_wp2
        go_roundw
        case rel =>
          exact ⟨j + 1, by omega, by go_num, by go_num, s2, s1⟩
        case measure => simp [intOf]; omega
      · go_wp2
        go_ret
        have hjn : j = n := by omega
        subst hjn
        refine ⟨rfl, hgr, ?_⟩
        rw [HN.out, half_all, ← HN.out] at ho
        exact ho
set_option maxRecDepth 100000 in
set_option maxHeartbeats 1000000 in
theorem markNumsResult_any (B : Nat) (t : TypeId) (c : Int) (v : Value) (xs : List Int) (k0 : Nat) (w : World) (hown : w.ownsRow B t 1 v xs.length (xs.map (Value.int .i64))) (hx : xs.length ≤ 1099511627776) (hk0 : k0 ≤ 1099511627776) :
    Calls Try.prog 50 #[.agg #[.int .i64 c, v], .int .i64 k0] w fun e w' => e = .returned (.int .i64 ((k0 + xs.length : Nat) : Int)) ∧ w.grownBy w' v.ownBlock ∧ w'.ownsRow B t 1 v xs.length ((marks k0 xs.length).map (Value.int .i64)) := by
  obtain ⟨a, c', rfl⟩ := own_shape hown
  go_enter Try.func50, Try.ntmps50
  go_wp2_with (go_at_call 93; refine (markNums_any B t _ xs k0 _ (hown.alloc _) hx hk0).mono ?_; rintro e w' ⟨rfl, hg, ho⟩)
  go_ret
  exact ⟨rfl, grown_trans (World.grownBy_alloc _ _ _) hg, ho⟩
end U
end Go.Proofs.Ytgflamlfplpfdaa
