/- The fault of a directory, as the model tells it. -/
import Derived.Test.YtihhigmceeabmaaGreatDr1
namespace Go.Proofs.YtihhigmceeabmaaGreat
open Go.RowKit
namespace U
set_option maxRecDepth 100000 in
set_option maxHeartbeats 4000000 in
theorem l3Fault_at (g off : Nat) (l : ByteArray) (v o p : Int) (w : World) (h : RecS w g off ⟨l, v, o, p⟩) (hs : l.size ≤ 1048576) :
    Calls Tryz.prog 86 #[.pointer (some ⟨g, off, none⟩)] w fun e w' => e = .returned (.int .i64 (recC l v o p)) ∧ Below w.heap.size w w' := by
  have hL := fun w => l1Label_any l w hs
  have hA := recC_label (l := l) (v := v) (o := o) (p := p)
  have hF := recC_form (l := l) (v := v) (o := o) (p := p)
  have hR := recC_range (l := l) (v := v) (o := o) (p := p)
  have hK := recC_ok (l := l) (v := v) (o := o) (p := p)
  have hsm := labelP_small (s := l)
  generalize recC l v o p = rc at *
  generalize labelP l = c at *
  by_cases h0 : c = 0
  · subst h0
    have h12 := hsm rfl
    have HF : Hid (foldsB l = false → rc = 1) := hF rfl
    have HR : Hid (foldsB l = true → fitB v o p = false → rc = 3) := hR rfl
    have HK : Hid (foldsB l = true → fitB v o p = true → rc = 0) := hK rfl
    have HFB : Hid (((foldS l).toList == l.toList) = foldsB l) := rfl
    clear hsm hF hR hK hA
    have hc0 : w.cell? ⟨g, off, none⟩ = some (.string l) := h.c0
    go_enter Tryz.func86, Tryz.ntmps86
    go_wp2_with fail
    refine (hL _).mono ?_
    rintro e w1 ⟨rfl, hb1⟩
    have h1 := h.below hb1 h.lt
    clear h hc0 hL
    have hc0 : w1.cell? ⟨g, off, none⟩ = some (.string l) := h1.c0
    have hq0 := After.cell hc0
    have hne := After.ne w1
    rcases Bool.eq_false_or_eq_true (foldsB l) with hf | hf
    · have hfb := HFB.out
      rw [hf] at hfb
      go_wp2_with fail
      refine wp_region_after (by kernel_rfl) (by kernel_rfl) ?_
      repeat (first | go_big_quiet_skip | (go_big_quiet_want; go_big_quiet_op; first | go_big_quiet_on | go_big_quiet_call (first | (go_at_call 44; refine (l1Fold_any l _ h12).mono ?_; rintro e wq ⟨rfl, hbq⟩; exact ⟨rfl, after_mk (below_after_of (After.b _) hbq)⟩))))
      refine wpQuiet_nil ?_
      rintro _ ⟨n6, rfl⟩
      have hb6 := n6.b
      have h6 := h1.below hb6 h1.lt
      have hB6 := below_after_of hb1 hb6
      generalize n6.w = w6 at *
      clear h1 hc0 hq0 hne n6
      have hc1 : w6.cell? ⟨g, off + 1, none⟩ = some (.int .i64 v) := h6.c1
      have hc2 : w6.cell? ⟨g, off + 2, none⟩ = some (.int .i64 o) := h6.c2
      have hc3 : w6.cell? ⟨g, off + 3, none⟩ = some (.int .i64 p) := h6.c3
      clear hfb HFB
      rcases Bool.eq_false_or_eq_true (inB v 1 999) with hv | hv
      · rcases Bool.eq_false_or_eq_true (sumB o) with ho | ho
        · rcases Bool.eq_false_or_eq_true (sumB p) with hp | hp
          · go_wp2_with (first | (go_at_call 69; refine (l1In_any _ _ _ _).mono ?_; rintro e wq ⟨rfl, rfl⟩) | (go_at_call 82; refine (l2Is_any _ _).mono ?_; rintro e wq ⟨rfl, rfl⟩))
            go_ret
            exact ⟨ret_int (HK.out hf (by simp [fitB, hv, ho, hp])).symm, hB6⟩
          · go_wp2_with (first | (go_at_call 69; refine (l1In_any _ _ _ _).mono ?_; rintro e wq ⟨rfl, rfl⟩) | (go_at_call 82; refine (l2Is_any _ _).mono ?_; rintro e wq ⟨rfl, rfl⟩))
            go_ret
            exact ⟨ret_int (HR.out hf (by simp [fitB, hv, ho, hp])).symm, hB6⟩
        · go_wp2_with (first | (go_at_call 69; refine (l1In_any _ _ _ _).mono ?_; rintro e wq ⟨rfl, rfl⟩) | (go_at_call 82; refine (l2Is_any _ _).mono ?_; rintro e wq ⟨rfl, rfl⟩))
          go_ret
          exact ⟨ret_int (HR.out hf (by simp [fitB, hv, ho])).symm, hB6⟩
      · go_wp2_with (first | (go_at_call 69; refine (l1In_any _ _ _ _).mono ?_; rintro e wq ⟨rfl, rfl⟩) | (go_at_call 82; refine (l2Is_any _ _).mono ?_; rintro e wq ⟨rfl, rfl⟩))
        go_ret
        exact ⟨ret_int (HR.out hf (by simp [fitB, hv])).symm, hB6⟩
    · have hfb := HFB.out
      rw [hf] at hfb
      go_wp2_with fail
      refine wp_region_after (by kernel_rfl) (by kernel_rfl) ?_
      repeat (first | go_big_quiet_skip | (go_big_quiet_want; go_big_quiet_op; first | go_big_quiet_on | go_big_quiet_call (first | (go_at_call 44; refine (l1Fold_any l _ h12).mono ?_; rintro e wq ⟨rfl, hbq⟩; exact ⟨rfl, after_mk (below_after_of (After.b _) hbq)⟩))))
      refine wpQuiet_nil ?_
      rintro _ ⟨n6, rfl⟩
      have hb6 := n6.b
      have hB6 := below_after_of hb1 hb6
      generalize n6.w = w6 at *
      clear h1 hc0 hq0 hne n6
      go_wp2
      go_ret
      exact ⟨ret_int (HF.out hf).symm, hB6⟩
  · have h1 : (c != 0) = true := by simpa using h0
    have HA : Hid (rc = c) := hA h0
    clear hA hF hR hK hsm h0
    have hc0 : w.cell? ⟨g, off, none⟩ = some (.string l) := h.c0
    go_enter Tryz.func86, Tryz.ntmps86
    go_wp2_with fail
    refine (hL _).mono ?_
    rintro e w1 ⟨rfl, hb1⟩
    go_wp2
    go_ret
    exact ⟨ret_int HA.out.symm, hb1⟩
/-- A key that the model tells. -/
structure KyAt (l : ByteArray) (k : Int) : Prop where
  c : ∀ w, Calls Tryz.prog 42 #[.string l] w fun e w' => e = .returned (.int .i64 k) ∧ Below w.heap.size w w'
theorem ahdR_lt {l : Rcl} {k : Nat} {x : Int} (h0 : 0 ≤ x) (h : k = 0) : ahdR l k < x := by subst h; show -1 < x; omega
set_option maxRecDepth 100000 in
set_option maxHeartbeats 4000000 in
theorem l9Fault_core (g og b off c n : Nat) (l : Rcl) (w : World) (hn : n ≤ 12) (hg : g < w.heap.size) (hb : b < w.heap.size) (hl : ∀ j, j < n → (rAt l j).l.size ≤ 1048576)
    (hD : w.cell? ⟨g, og, none⟩ = some (.slice (some ⟨b, off, none⟩) n c)) (hc : ∀ j, j < n → RecS w b (off + j * 4) (rAt l j)) :
    Calls Tryz.prog 119 #[.pointer (some ⟨g, og, none⟩)] w fun e w' => e = .returned (.int .i64 (scanR l n 0)) ∧ Below w.heap.size w w' := by
  obtain ⟨q, hq⟩ : ∃ q, q = scanR l n 0 := ⟨_, rfl⟩
  have HQ : Hid (scanR l n 0 = q) := hq.symm
  rw [← hq]
  clear hq
  have hD0 := hD
  have HD : Hid (∀ w', Below w.heap.size w w' → w'.cell? ⟨g, og, none⟩ = some (.slice (some ⟨b, off, none⟩) n c)) := fun w' h => (h.cell (p := ⟨g, og, none⟩) hg).trans hD
  go_enter Tryz.func119, Tryz.ntmps119
  go_wp2
  go_loopw [3] (fun i wr => ∃ k : Nat, k ≤ n ∧ i = .int .i64 k ∧ Hid (Below w.heap.size w wr) ∧ Hid (scanR l (n - k) k = q) ∧ Hid (0 < k → (rAt l (k - 1)).c = 0)) (fun i _ => n - (intOf i).toNat)
  case atStart => exact ⟨0, Nat.zero_le _, rfl, Below.refl _ _, HQ, fun h => absurd h (by omega)⟩
  case round =>
    obtain ⟨k, hk, rfl, hB, HS, HP⟩ := hrel
    have hDk := HD.out _ hB.out
    by_cases hkn : k < n
    · have hki : (k : Int) < (n : Int) := by omega
      have hr := (hc k hkn).below hB.out hb
      have hI := fun w' h => l3Fault_at b (off + k * 4) (rAt l k).l (rAt l k).v (rAt l k).o (rAt l k).p w' h (hl k hkn)
      have HSN : Hid (n - k = (n - k - 1) + 1) := (by omega : n - k = (n - k - 1) + 1)
      have HF : Hid (¬ (rAt l k).c = 0 → q = (rAt l k).c) := (fun h => by rw [← HS.out, HSN.out]; exact scanR_fault h : ¬ (rAt l k).c = 0 → q = (rAt l k).c)
      have HO : Hid ((rAt l k).c = 0 → (rAt l k).k ≤ ahdR l k → q = 1) := (fun h h1 => by rw [← HS.out, HSN.out]; exact scanR_form h h1 : (rAt l k).c = 0 → (rAt l k).k ≤ ahdR l k → q = 1)
      have HT : Hid ((rAt l k).c = 0 → ¬ (rAt l k).k ≤ ahdR l k → scanR l (n - k - 1) (k + 1) = q) := (fun h h1 => by rw [← HS.out, HSN.out]; exact (scanR_step h h1).symm : (rAt l k).c = 0 → ¬ (rAt l k).k ≤ ahdR l k → scanR l (n - k - 1) (k + 1) = q)
      have HI := hI wr hr
      have e1 : recC (rAt l k).l (rAt l k).v (rAt l k).o (rAt l k).p = (rAt l k).c := rfl
      rw [e1] at HI
      have HSM : Hid ((rAt l k).c = 0 → (rAt l k).l.size ≤ 12) := fun h => Rc.small_of h
      have HN : Hid (0 ≤ (rAt l k).k) := (rAt l k).kbd.1
      have HR : Hid (RecS wr b (off + k * 4) (rAt l k)) := hr
      clear hI hr e1
      by_cases hc0 : (rAt l k).c = 0
      · rw [hc0] at HI
        have HO2 := HO.out hc0
        have HT2 := HT.out hc0
        have HO3 : Hid ((rAt l k).k ≤ ahdR l k → q = 1) := HO2
        have HT3 : Hid (¬ (rAt l k).k ≤ ahdR l k → scanR l (n - k - 1) (k + 1) = q) := HT2
        have hsm := HSM.out hc0
        have HPN : Hid (0 < k + 1 → (rAt l (k + 1 - 1)).c = 0) := fun _ => hc0
        clear HO2 HT2 HO HT HF HSM
        go_wp2_with fail
        refine HI.mono ?_
        rintro e w1 ⟨rfl, hb1⟩
        have HB1 : Hid (Below w.heap.size w w1) := below_after_of hB.out hb1
        have hbr : b < wr.heap.size := Nat.lt_of_lt_of_le hb hB.out.size
        have r1 := (HR.out.below hb1 hbr).c0
        have hD1 := HD.out _ HB1.out
        clear HI hb1 hDk
        rcases k with _ | m
        · have hg0 : decide (((0 : Nat) : Int) > 0) = false := by simp
          have HT4 : Hid (scanR l (n - 0 - 1) (0 + 1) = q) := HT3.out (ahdR_lt HN.out rfl)
          clear hc HO3 HT3 HR
          go_wp2
          go_quiet (fail)
          go_wp2
          go_roundw
          case rel => exact ⟨1, by omega, by go_num, below_drewN HB1.out _, HT4, HPN⟩
          case measure => simp [intOf]; omega
        · have hp0 : (rAt l m).c = 0 := HP.out (by omega)
          have r2 := ((hc m (by omega)).below HB1.out hb).c0
          have hsm2 := Rc.small_of hp0
          have hK1 : KyAt (rAt l (m + 1)).l (keyI (rAt l (m + 1)).l) := ⟨fun w => l2Key_any (rAt l (m + 1)).l w hsm⟩
          have hK2 : KyAt (rAt l m).l (keyI (rAt l m).l) := ⟨fun w => l2Key_any (rAt l m).l w hsm2⟩
          have e2 : keyI (rAt l (m + 1)).l = (rAt l (m + 1)).k := rfl
          have e3 : keyI (rAt l m).l = ahdR l (m + 1) := rfl
          rw [e2] at hK1
          rw [e3] at hK2
          have hkg : decide (0 < ((m + 1 : Nat) : Int)) = true := by simp
          have hmi : (m : Int) < (n : Int) := by omega
          have hq1 := After.cell r1
          have hq2 := After.cell r2
          have hqD := After.cell hD1
          have hne := After.ne w1
          generalize (rAt l (m + 1)).k = kz at *
          generalize ahdR l (m + 1) = az at *
          generalize (rAt l (m + 1)).l = x0 at *
          generalize (rAt l m).l = y0 at *
          clear hc HR HP hp0 e2 e3 hl hsm hsm2 HS HN
          by_cases hle : kz ≤ az
          · have HQ2 : Hid (q = 1) := HO3.out hle
            have hd : decide (kz ≤ az) = true := by simpa using hle
            clear HO3 HT3 hle
            go_wp2_with fail
            refine wp_region_after (by kernel_rfl) (by kernel_rfl) ?_
            repeat (first | go_big_quiet_skip | (go_big_quiet_want; go_big_quiet_op; first | go_big_quiet_on | go_big_quiet_call (first | (go_at_call 42; refine (KyAt.c (by assumption) _).mono ?_; rintro e wq ⟨rfl, hbq⟩; exact ⟨rfl, after_mk (below_after_of (After.b _) hbq)⟩))))
            refine wpQuiet_nil ?_
            rintro _ ⟨n6, rfl⟩
            have HB6 : Hid (Below w.heap.size w n6.w) := below_after_of HB1.out n6.b
            go_wp2
            go_ret
            exact ⟨ret_int HQ2.out.symm, HB6.out⟩
          · have HQ2 : Hid (scanR l (n - (m + 1) - 1) (m + 1 + 1) = q) := HT3.out (by omega)
            have hd : decide (kz ≤ az) = false := by simpa using hle
            clear HO3 HT3 hle
            go_wp2_with fail
            refine wp_region_after (by kernel_rfl) (by kernel_rfl) ?_
            repeat (first | go_big_quiet_skip | (go_big_quiet_want; go_big_quiet_op; first | go_big_quiet_on | go_big_quiet_call (first | (go_at_call 42; refine (KyAt.c (by assumption) _).mono ?_; rintro e wq ⟨rfl, hbq⟩; exact ⟨rfl, after_mk (below_after_of (After.b _) hbq)⟩))))
            refine wpQuiet_nil ?_
            rintro _ ⟨n6, rfl⟩
            have HB6 : Hid (Below w.heap.size w n6.w) := below_after_of HB1.out n6.b
            generalize n6.w = w6 at *
            clear hne hq1 hq2 hqD
            go_wp2
            go_roundw
            case rel => exact ⟨m + 1 + 1, by omega, by go_num, HB6, by rw [show n - (m + 1 + 1) = n - (m + 1) - 1 by omega]; exact HQ2, HPN⟩
            case measure => simp [intOf]; omega
      · have hcn : ((rAt l k).c != 0) = true := by simpa using hc0
        have HQ2 : Hid (q = (rAt l k).c) := HF.out hc0
        generalize (rAt l k).c = cz at *
        clear HF HO HT hc0 HSM hc HR HN
        go_wp2_with fail
        refine HI.mono ?_
        rintro e w1 ⟨rfl, hb1⟩
        have HB1 : Hid (Below w.heap.size w w1) := below_after_of hB.out hb1
        clear HI hb1
        go_wp2
        go_ret
        exact ⟨ret_int HQ2.out.symm, HB1.out⟩
    · have hkn : k = n := by omega
      subst hkn
      have e0 : Hid (q = 0) := (by rw [← HS.out, Nat.sub_self]; rfl : q = 0)
      clear hc
      go_wp2
      go_ret
      exact ⟨ret_int e0.out.symm, hB.out⟩
set_option maxRecDepth 100000 in
set_option maxHeartbeats 1000000 in
theorem l9Fault_off (g og : Nat) (v : Value) (l : Rcl) (w : World) (hg : g < w.heap.size) (hD : w.cell? ⟨g, og, none⟩ = some v) (hv : Rcs w v l) (hl : Lbs l) (hx : l.length ≤ 1099511627776) :
    Calls Tryz.prog 119 #[.pointer (some ⟨g, og, none⟩)] w fun e w' => e = .returned (.int .i64 (dirF l)) ∧ Below w.heap.size w w' := by
  obtain ⟨a, c, rfl⟩ := hv.shape
  by_cases h : 12 < l.length
  · rw [dirF_many h]
    generalize l.length = n at *
    clear hv
    go_enter Tryz.func119, Tryz.ntmps119
    go_wp2
    go_ret
    exact ⟨rfl, Below.refl _ _⟩
  · rw [dirF_scan h]
    by_cases h0 : 0 < l.length
    · obtain ⟨_, b, off, rfl, hb, hc⟩ := hv.at h0
      exact l9Fault_core g og b off c l.length l w (by omega) hg hb (fun j hj => hl.at hj) hD hc
    · have e1 : l = [] := List.eq_nil_of_length_eq_zero (by omega)
      subst e1
      simp only [List.length_nil] at *
      have e2 : scanR [] 0 0 = 0 := rfl
      rw [e2]
      clear hv h0 hx h e2
      go_enter Tryz.func119, Tryz.ntmps119
      go_wp2
      refine wp_loop_rounds 1 ?_; rw [rounds_succ]
      go_wp2
      go_ret
      exact ⟨rfl, Below.refl _ _⟩
theorem l9Fault_any (g : Nat) (v : Value) (l : Rcl) (w : World) (hg : g < w.heap.size) (hD : w.cell? ⟨g, 0, none⟩ = some v) (hv : Rcs w v l) (hl : Lbs l) (hx : l.length ≤ 1099511627776) :
    Calls Tryz.prog 119 #[.pointer (some ⟨g, 0, none⟩)] w fun e w' => e = .returned (.int .i64 (dirF l)) ∧ Below w.heap.size w w' := l9Fault_off g 0 v l w hg hD hv hl hx
end U
end Go.Proofs.YtihhigmceeabmaaGreat
