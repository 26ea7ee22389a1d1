/- The fault of a directory, as the model tells it. -/
import Derived.Test.YtmjbmlojcieciaaDoorDr1
namespace Go.Proofs.YtmjbmlojcieciaaDoor
open Go.RowKit
namespace U
set_option maxRecDepth 100000 in
set_option maxHeartbeats 4000000 in
theorem l3Fault_at (g off : Nat) (l : ByteArray) (v o p : Int) (w : World) (h : RecS w g off ⟨l, v, o, p⟩) (hs : l.size ≤ 1048576) :
    Calls Tryd.prog 31 #[.pointer (some ⟨g, off, none⟩)] w fun e w' => e = .returned (.int .i64 (recC l v o p)) ∧ Below w.heap.size w w' := by
  have hL := fun w => l1Label_any l w hs
  have hA := recC_label (l := l) (v := v) (o := o) (p := p)
  have hF := recC_form (l := l) (v := v) (o := o) (p := p)
  have hR := recC_range (l := l) (v := v) (o := o) (p := p)
  have hK := recC_ok (l := l) (v := v) (o := o) (p := p)
  have hsm := labelP_small (s := l)
  generalize recC l v o p = rc at *
  generalize labelP l = c at *
  by_cases h0 : c = 0
  · subst h0
    have h12 := hsm rfl
    have HF : Hid (foldsB l = false → rc = 1) := hF rfl
    have HR : Hid (foldsB l = true → fitB v o p = false → rc = 3) := hR rfl
    have HK : Hid (foldsB l = true → fitB v o p = true → rc = 0) := hK rfl
    have HFB : Hid (((foldS l).toList == l.toList) = foldsB l) := rfl
    clear hsm hF hR hK hA
    have hc0 : w.cell? ⟨g, off, none⟩ = some (.string l) := h.c0
    go_enter Tryd.func31, Tryd.ntmps31
    go_wp2_with fail
    refine (hL _).mono ?_
    rintro e w1 ⟨rfl, hb1⟩
    have h1 := h.below hb1 h.lt
    clear h hc0 hL
    have hc0 : w1.cell? ⟨g, off, none⟩ = some (.string l) := h1.c0
    have hq0 := After.cell hc0
    have hne := After.ne w1
    rcases Bool.eq_false_or_eq_true (foldsB l) with hf | hf
    · have hfb := HFB.out
      rw [hf] at hfb
      go_wp2_with fail
      refine wp_region_after (by kernel_rfl) (by kernel_rfl) ?_
      repeat (first | go_big_quiet_skip | (go_big_quiet_want; go_big_quiet_op; first | go_big_quiet_on | go_big_quiet_call (first | (go_at_call 56; refine (l1Fold_any l _ h12).mono ?_; rintro e wq ⟨rfl, hbq⟩; exact ⟨rfl, after_mk (below_after_of (After.b _) hbq)⟩))))
      refine wpQuiet_nil ?_
      rintro _ ⟨n6, rfl⟩
      have hb6 := n6.b
      have h6 := h1.below hb6 h1.lt
      have hB6 := below_after_of hb1 hb6
      generalize n6.w = w6 at *
      clear h1 hc0 hq0 hne n6
      have hc1 : w6.cell? ⟨g, off + 1, none⟩ = some (.int .i64 v) := h6.c1
      have hc2 : w6.cell? ⟨g, off + 2, none⟩ = some (.int .i64 o) := h6.c2
      have hc3 : w6.cell? ⟨g, off + 3, none⟩ = some (.int .i64 p) := h6.c3
      clear hfb HFB
      rcases Bool.eq_false_or_eq_true (inB v 1 999) with hv | hv
      · rcases Bool.eq_false_or_eq_true (sumB o) with ho | ho
        · rcases Bool.eq_false_or_eq_true (sumB p) with hp | hp
          · go_wp2_with (first | (go_at_call 54; refine (l1In_any _ _ _ _).mono ?_; rintro e wq ⟨rfl, rfl⟩) | (go_at_call 42; refine (l2Is_any _ _).mono ?_; rintro e wq ⟨rfl, rfl⟩))
            go_ret
            exact ⟨ret_int (HK.out hf (by simp [fitB, hv, ho, hp])).symm, hB6⟩
          · go_wp2_with (first | (go_at_call 54; refine (l1In_any _ _ _ _).mono ?_; rintro e wq ⟨rfl, rfl⟩) | (go_at_call 42; refine (l2Is_any _ _).mono ?_; rintro e wq ⟨rfl, rfl⟩))
            go_ret
            exact ⟨ret_int (HR.out hf (by simp [fitB, hv, ho, hp])).symm, hB6⟩
        · go_wp2_with (first | (go_at_call 54; refine (l1In_any _ _ _ _).mono ?_; rintro e wq ⟨rfl, rfl⟩) | (go_at_call 42; refine (l2Is_any _ _).mono ?_; rintro e wq ⟨rfl, rfl⟩))
          go_ret
          exact ⟨ret_int (HR.out hf (by simp [fitB, hv, ho])).symm, hB6⟩
      · go_wp2_with (first | (go_at_call 54; refine (l1In_any _ _ _ _).mono ?_; rintro e wq ⟨rfl, rfl⟩) | (go_at_call 42; refine (l2Is_any _ _).mono ?_; rintro e wq ⟨rfl, rfl⟩))
        go_ret
        exact ⟨ret_int (HR.out hf (by simp [fitB, hv])).symm, hB6⟩
    · have hfb := HFB.out
      rw [hf] at hfb
      go_wp2_with fail
      refine wp_region_after (by kernel_rfl) (by kernel_rfl) ?_
      repeat (first | go_big_quiet_skip | (go_big_quiet_want; go_big_quiet_op; first | go_big_quiet_on | go_big_quiet_call (first | (go_at_call 56; refine (l1Fold_any l _ h12).mono ?_; rintro e wq ⟨rfl, hbq⟩; exact ⟨rfl, after_mk (below_after_of (After.b _) hbq)⟩))))
      refine wpQuiet_nil ?_
      rintro _ ⟨n6, rfl⟩
      have hb6 := n6.b
      have hB6 := below_after_of hb1 hb6
      generalize n6.w = w6 at *
      clear h1 hc0 hq0 hne n6
      go_wp2
      go_ret
      exact ⟨ret_int (HF.out hf).symm, hB6⟩
  · have h1 : (c != 0) = true := by simpa using h0
    have HA : Hid (rc = c) := hA h0
    clear hA hF hR hK hsm h0
    have hc0 : w.cell? ⟨g, off, none⟩ = some (.string l) := h.c0
    go_enter Tryd.func31, Tryd.ntmps31
    go_wp2_with fail
    refine (hL _).mono ?_
    rintro e w1 ⟨rfl, hb1⟩
    go_wp2
    go_ret
    exact ⟨ret_int HA.out.symm, hb1⟩
/-- A key that the model tells. -/
structure KyAt (l : ByteArray) (k : Int) : Prop where
  c : ∀ w, Calls Tryd.prog 32 #[.string l] w fun e w' => e = .returned (.int .i64 k) ∧ Below w.heap.size w w'
theorem ahdR_lt {l : Rcl} {k : Nat} {x : Int} (h0 : 0 ≤ x) (h : k = 0) : ahdR l k < x := by subst h; show -1 < x; omega
end U
end Go.Proofs.YtmjbmlojcieciaaDoor
