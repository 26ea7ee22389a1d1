/- What is summed for a leaf, by the program and by the model. -/
import Derived.Test.YtljbcpkjhnbpeaaGreatDoorSl2
namespace Go.Proofs.YtljbcpkjhnbpeaaGreatDoor
open Go.RowKit
namespace U
/-- Whether a leaf is asked as it may be; its bytes. -/
def askd (k : Int) (b : Bool) (v : Int) : Bool := inB k 0 255 && (if b = true then sumB v else decide (v = 0))
def leafL (k : Int) (b : Bool) (v : Int) : List Int := if b = true then tagL 3 [k, v] else []
def lbC (k : Int) (b : Bool) (v : Int) : Int := if askd k b v = true then 0 else 3
def lbL (k : Int) (b : Bool) (v : Int) : List Int := if askd k b v = true then leafL k b v else []
theorem lb_no {k v : Int} {b : Bool} (h : askd k b v = false) : lbC k b v = 3 ∧ lbL k b v = [] := by simp [lbC, lbL, h]
theorem lb_ok {k v : Int} {b : Bool} (h : askd k b v = true) : lbC k b v = 0 ∧ lbL k b v = leafL k b v := by simp [lbC, lbL, h]
theorem lb_nokey {k v : Int} {b : Bool} (h : inB k 0 255 = false) : askd k b v = false := by simp [askd, h]
theorem lb_there {k v : Int} (h : inB k 0 255 = true) : askd k true v = sumB v := by simp [askd, h]
theorem lb_none {k v : Int} (h : inB k 0 255 = true) : askd k false v = decide (v = 0) := by simp [askd, h]
theorem askd_key {k v : Int} {b : Bool} (h : askd k b v = true) : 0 ≤ k ∧ k ≤ 255 := by
  unfold askd at h
  rw [Bool.and_eq_true] at h
  exact inB_bd h.1
theorem leaf_two {k v : Int} (hk : 0 ≤ k ∧ k ≤ 255) (hv : sumB v = true) : tgC 3 [k, v] = 0 ∧ tgL 3 [k, v] = tagL 3 [k, v] := by
  have hv' := (sumB_iff v).1 hv
  have h3 : [k, v].all sumB = true := by
    have : sumB k = true := (sumB_iff k).2 (by omega)
    simp [this, hv]
  exact tg_ok (by decide) (by simp) h3
theorem leafL_len (k : Int) (b : Bool) (v : Int) : (leafL k b v).length ≤ 5 := by
  unfold leafL
  split
  · rw [tagL_len]; simp
  · simp
theorem leafL_bts {k v : Int} {b : Bool} (h : askd k b v = true) : Bts (leafL k b v) := by
  unfold leafL
  split
  · rename_i hb
    subst hb
    have hk := askd_key h
    have hv : sumB v = true := by
      unfold askd at h
      rw [Bool.and_eq_true] at h
      simpa using h.2
    have hv' := (sumB_iff v).1 hv
    refine tagL_bts (by omega) ?_
    have : sumB k = true := (sumB_iff k).2 (by omega)
    simp [this, hv]
  · intro b hb; cases hb
theorem lbL_len (k : Int) (b : Bool) (v : Int) : (lbL k b v).length ≤ 5 := by
  unfold lbL
  split
  · exact leafL_len k b v
  · simp
set_option maxRecDepth 100000 in
set_option maxHeartbeats 1000000 in
theorem implLeafBytes_any (k : Int) (b : Bool) (v : Int) (w : World) :
    Calls Tryz.prog 162 #[.int .i64 k, .bool b, .int .i64 v] w fun e w' => BytesAns w (lbC k b v) (lbL k b v) e w' := by
  have HK := fun w => isKey_any k w
  have HV := fun w => isSum_any v w
  rcases Bool.eq_false_or_eq_true (inB k 0 255) with hk | hk
  · rw [hk] at HK
    cases b
    · by_cases h0 : v = 0
      · have e := lb_ok (k := k) (b := false) (v := v) (by rw [lb_none hk]; simp [h0])
        rw [e.1, e.2]
        subst h0
        clear e HV
        go_enter Tryz.func162, Tryz.ntmps162
        go_wp2_with fail
        refine (HK _).mono ?_
        rintro e w1 ⟨rfl, rfl⟩
        clear HK
        go_wp2
        exact bodyPost_ret (v := .agg #[.int .i64 0, .slice none 0 0]) (by simp [results, Tryz.results162, go_sem]) rfl ⟨one_new _, _, rfl, World.ownsRow_nil _ _ _ _⟩
      · have e := lb_no (k := k) (b := false) (v := v) (by rw [lb_none hk]; simp [h0])
        rw [e.1, e.2]
        clear e HV
        go_enter Tryz.func162, Tryz.ntmps162
        go_wp2_with fail
        refine (HK _).mono ?_
        rintro e w1 ⟨rfl, rfl⟩
        clear HK
        go_wp2
        exact bodyPost_ret (v := .agg #[.int .i64 3, .slice none 0 0]) (by simp [results, Tryz.results162, go_sem]) rfl ⟨one_new _, _, rfl, World.ownsRow_nil _ _ _ _⟩
    · rcases Bool.eq_false_or_eq_true (sumB v) with hs | hs
      · rw [hs] at HV
        have e := lb_ok (k := k) (b := true) (v := v) (by rw [lb_there hk]; exact hs)
        have e2 := leaf_two (inB_bd hk) hs
        have hT := fun (w : World) u hv => implTagBytes_any 3 u [k, v] w hv (by simp)
        rw [e2.1, e2.2] at hT
        have HE : Hid (leafL k true v = tagL 3 [k, v]) := rfl
        rw [e.1, e.2]
        generalize leafL k true v = zs at *
        generalize tagL 3 [k, v] = ys at *
        clear e e2
        go_enter Tryz.func162, Tryz.ntmps162
        go_wp2_with fail
        refine (HK _).mono ?_
        rintro e w1 ⟨rfl, rfl⟩
        clear HK
        go_wp2_with fail
        refine (HV _).mono ?_
        rintro e w1 ⟨rfl, rfl⟩
        clear HV
        go_wp2_with fail
        refine (hT _ _ (two_ints_at (by simp))).mono ?_
        intro e w1 h1
        obtain ⟨a', c', rfl, hb1, ho1⟩ := h1.use
        have hb0 := below_after_of (one_new (.cells #[.int .i64 k, .int .i64 v] 2)) hb1
        obtain ⟨hc0, hc1, hf0, hf1⟩ := two_cells ((hb0.block w.heap.size (by simp)).trans (heap_alloc_new w _))
        have hB1 : Below w.heap.size w w1 := below_after hb0
        have HO : Hid (w1.ownsRow (w.heap.size + 1) 5 1 (.slice a' ys.length c') ys.length (ys.map (Value.int .u8))) := by show World.ownsRow _ _ _ _ _ _ _; exact own_mono ho1 (by simp)
        clear ho1 hb1 hT hb0
        go_wp2
        exact bodyPost_ret (v := .agg #[.int .i64 0, .slice a' ys.length c']) (by simp [results, Tryz.results162, go_sem, hc0, hc1]) rfl (by rw [HE.out]; exact ⟨(hB1.setCell (Nat.le_refl _) _).setCell (Nat.le_refl _) _, _, rfl, own_mono (ownsRow_setCell_below (ownsRow_setCell_below HO.out (by simp) _) (by simp) _) (by omega)⟩)
      · rw [hs] at HV
        have e := lb_no (k := k) (b := true) (v := v) (by rw [lb_there hk]; exact hs)
        rw [e.1, e.2]
        clear e
        go_enter Tryz.func162, Tryz.ntmps162
        go_wp2_with fail
        refine (HK _).mono ?_
        rintro e w1 ⟨rfl, rfl⟩
        clear HK
        go_wp2_with fail
        refine (HV _).mono ?_
        rintro e w1 ⟨rfl, rfl⟩
        clear HV
        go_wp2
        exact bodyPost_ret (v := .agg #[.int .i64 3, .slice none 0 0]) (by simp [results, Tryz.results162, go_sem]) rfl ⟨one_new _, _, rfl, World.ownsRow_nil _ _ _ _⟩
  · have e := lb_no (k := k) (b := b) (v := v) (lb_nokey hk)
    rw [e.1, e.2]
    rw [hk] at HK
    clear e HV
    go_enter Tryz.func162, Tryz.ntmps162
    go_wp2_with fail
    refine (HK _).mono ?_
    rintro e w1 ⟨rfl, rfl⟩
    clear HK
    go_wp2
    exact bodyPost_ret (v := .agg #[.int .i64 3, .slice none 0 0]) (by simp [results, Tryz.results162, go_sem]) rfl ⟨one_new _, _, rfl, World.ownsRow_nil _ _ _ _⟩
set_option maxRecDepth 100000 in
set_option maxHeartbeats 1000000 in
theorem l5Asked_any (k : Int) (b : Bool) (v : Int) (w : World) :
    Calls Tryz.prog 186 #[.int .i64 k, .bool b, .int .i64 v] w fun e w' => e = .returned (.bool (askd k b v)) ∧ w' = w := by
  have HK := fun w => l4Key_any k w
  have HV := fun w => l2Is4 v w
  rcases Bool.eq_false_or_eq_true (inB k 0 255) with hk | hk
  · rw [hk] at HK
    cases b
    · rw [lb_none hk]
      go_enter Tryz.func186, Tryz.ntmps186
      go_wp2_with fail
      refine (HK _).mono ?_
      rintro e w1 ⟨rfl, rfl⟩
      clear HK HV
      go_wp2
      go_ret
      exact ⟨ret_bool (by first | rfl | simp), rfl⟩
    · rw [lb_there hk]
      generalize sumB v = s at *
      cases s
      · go_enter Tryz.func186, Tryz.ntmps186
        go_wp2_with fail
        refine (HK _).mono ?_
        rintro e w1 ⟨rfl, rfl⟩
        clear HK
        go_wp2_with fail
        refine (HV _).mono ?_
        rintro e w1 ⟨rfl, rfl⟩
        clear HV
        go_wp2
        go_ret
        exact ⟨rfl, rfl⟩
      · go_enter Tryz.func186, Tryz.ntmps186
        go_wp2_with fail
        refine (HK _).mono ?_
        rintro e w1 ⟨rfl, rfl⟩
        clear HK
        go_wp2_with fail
        refine (HV _).mono ?_
        rintro e w1 ⟨rfl, rfl⟩
        clear HV
        go_wp2
        go_ret
        exact ⟨rfl, rfl⟩
  · rw [lb_nokey hk]
    rw [hk] at HK
    clear HV
    go_enter Tryz.func186, Tryz.ntmps186
    go_wp2_with fail
    refine (HK _).mono ?_
    rintro e w1 ⟨rfl, rfl⟩
    clear HK
    go_wp2
    go_ret
    exact ⟨rfl, rfl⟩
set_option maxRecDepth 100000 in
set_option maxHeartbeats 1000000 in
theorem l5Leaf_any (k : Int) (b : Bool) (v : Int) (w : World) (h : askd k b v = true) :
    Calls Tryz.prog 169 #[.int .i64 k, .bool b, .int .i64 v] w fun e w' => ∃ v', e = .returned v' ∧ w'.ownsRow w.heap.size 5 1 v' (leafL k b v).length ((leafL k b v).map (Value.int .u8)) ∧ Below w.heap.size w w' := by
  have hk := askd_key h
  cases b
  · have e0 : leafL k false v = [] := rfl
    rw [e0]
    clear h hk e0
    go_enter Tryz.func169, Tryz.ntmps169
    go_wp2
    go_ret
    exact ⟨_, rfl, World.ownsRow_made w #[] 0 (Nat.le_refl _) (by decide) rfl, one_new _⟩
  · have hs : sumB v = true := by rw [← lb_there (inB_t hk.1 hk.2)]; exact h
    have hs' := (sumB_iff v).1 hs
    have e0 : leafL k true v = tagL 3 [k, v] := rfl
    have h3 : [k, v].all sumB = true := by
      have : sumB k = true := (sumB_iff k).2 (by omega)
      simp [this, hs]
    have hB := fun w u h => l2Bytes_any 3 u [k, v] w h (by simp) (by omega) h3
    rw [e0]
    generalize tagL 3 [k, v] = ys at *
    clear h hk hs hs' e0 h3
    go_enter Tryz.func169, Tryz.ntmps169
    go_wp2_with fail
    refine (hB _ _ (two_ints _ _ _ _)).mono ?_
    rintro e w1 ⟨v', rfl, own1, hb1⟩
    obtain ⟨a', c', rfl⟩ := own_shape own1
    have HO : w1.ownsRow w.heap.size 5 1 (.slice a' ys.length c') ys.length (ys.map (Value.int .u8)) := own_mono own1 (by simp)
    have hB1 := below_after hb1
    clear hB own1 hb1
    go_wp2
    go_ret
    exact ⟨_, rfl, HO, hB1⟩
end U
end Go.Proofs.YtljbcpkjhnbpeaaGreatDoor
