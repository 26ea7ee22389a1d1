/- What both LabelFault answer: one code. -/
import Derived.Test.YtdbbmclobmigdaaGreatIntR
namespace Go.Proofs.YtdbbmclobmigdaaGreat
open Go.RowKit
namespace U
def badR (r : Int) : Bool := decide (r < 33) || inB r 127 160
def labelP (s : ByteArray) : Int := if s.size = 0 then 1 else if 12 < s.size then 2 else match runes s with | none => 5 | some xs => if xs.any badR = true then 5 else 0
theorem isEmpty_of (s : ByteArray) : s.toList.isEmpty = decide (s.size = 0) := by
  rw [Lib.toList_data, Bool.eq_iff_iff, decide_eq_true_iff, List.isEmpty_iff_length_eq_zero, Lib.size_eq]
/-- None of the first ones is bad. -/
def Good (xs : List Int) (k : Nat) : Prop := ∀ j, j < k → badR (xs.getD j 0) = false
theorem Good.succ {xs : List Int} {k : Nat} (h : Good xs k) (h1 : badR (xs.getD k 0) = false) : Good xs (k + 1) := by
  intro j hj
  by_cases e : j = k
  · subst e; exact h1
  · exact h j (by omega)
theorem Good.all {xs : List Int} (h : Good xs xs.length) : xs.any badR = false := by
  rw [List.any_eq_false]
  intro x hx
  obtain ⟨j, hj, rfl⟩ := List.getElem_of_mem hx
  have := h j hj
  rw [getD_eq hj] at this
  simp [this]
theorem bad_any {xs : List Int} {k : Nat} (hk : k < xs.length) (h : badR (xs.getD k 0) = true) : xs.any badR = true := by
  rw [List.any_eq_true]
  rw [getD_eq hk] at h
  exact ⟨_, List.getElem_mem hk, h⟩
theorem labelP_empty {s : ByteArray} (h : s.size = 0) : labelP s = 1 := by simp [labelP, h]
theorem labelP_many {s : ByteArray} (h : 12 < s.size) : labelP s = 2 := by unfold labelP; rw [if_neg (by omega), if_pos h]
theorem labelP_none {s : ByteArray} (h0 : ¬ s.size = 0) (h : ¬ 12 < s.size) (hr : runes s = none) : labelP s = 5 := by simp [labelP, h0, h, hr]
theorem labelP_bad {s : ByteArray} {xs : List Int} (h0 : ¬ s.size = 0) (h : ¬ 12 < s.size) (hr : runes s = some xs) (hb : xs.any badR = true) : labelP s = 5 := by simp [labelP, h0, h, hr, hb]
theorem labelP_ok {s : ByteArray} {xs : List Int} (h0 : ¬ s.size = 0) (h : ¬ 12 < s.size) (hr : runes s = some xs) (hb : xs.any badR = false) : labelP s = 0 := by simp [labelP, h0, h, hr, hb]
theorem badR_low {r : Int} (h : r < 33) : badR r = true := by unfold badR; simp [h]
theorem badR_mid {r : Int} (h : inB r 127 160 = true) : badR r = true := by unfold badR; simp [h]
theorem badR_no {r : Int} (h : 33 ≤ r) (h2 : inB r 127 160 = false) : badR r = false := by unfold badR; simp [h, h2]

set_option maxRecDepth 100000 in
set_option maxHeartbeats 2000000 in
theorem l1Label_any (s : ByteArray) (w : World) (hs : s.size ≤ 1048576) :
    Calls Tryz.prog 33 #[.string s] w fun e w' => e = .returned (.int .i64 (labelP s)) ∧ Below w.heap.size w w' := by
  have hem := isEmpty_of s
  by_cases h0 : s.size = 0
  · have h1 : s.toList.isEmpty = true := by rw [hem]; simp [h0]
    rw [labelP_empty h0]
    clear hem
    go_enter Tryz.func33, Tryz.ntmps33
    go_wp2
    go_ret
    exact ⟨rfl, Below.refl _ _⟩
  · have h1 : s.toList.isEmpty = false := by rw [hem]; simp [h0]
    clear hem
    by_cases h12 : 12 < s.size
    · rw [labelP_many h12]
      go_enter Tryz.func33, Tryz.ntmps33
      go_wp2
      go_ret
      exact ⟨rfl, Below.refl _ _⟩
    · rcases hr : runes s with _ | xs
      · rw [labelP_none h0 h12 hr]
        go_enter Tryz.func33, Tryz.ntmps33
        go_wp2_with (go_at_call 65; refine (l1Runes_none s _ hs hr).mono ?_; rintro e w1 ⟨rfl, hb⟩)
        go_ret
        exact ⟨rfl, hb⟩
      · have hlen := runes_length hr
        have H0 : Hid (¬ s.size = 0) := h0
        have HR : Hid (runes s = some xs) := hr
        clear h0
        go_enter Tryz.func33, Tryz.ntmps33
        go_wp2_with (go_at_call 65; refine (l1Runes_some s _ xs hs hr).mono ?_; rintro e w1 ⟨a, c, rfl, hb, hown⟩)
        have hv := own_ints hown
        clear hown hr
        by_cases hz : 0 < xs.length
        · obtain ⟨_, b, off, rfl, _, hc⟩ := hv.at hz
          clear hv
          obtain ⟨n, hn⟩ : ∃ n, n = xs.length := ⟨_, rfl⟩
          have HN : Hid (n = xs.length) := hn
          rw [← hn] at hc hlen hz ⊢
          clear hn
          go_loop [5] (fun i => ∃ k : Nat, k ≤ n ∧ i = .int .i64 k ∧ Hid (Good xs k)) (fun i => n - (intOf i).toNat)
          case atStart => exact ⟨0, Nat.zero_le _, rfl, fun j hj => by omega⟩
          case round =>
            obtain ⟨k, hk, rfl, hG⟩ := hrel
            by_cases hkn : k < n
            · have hki : (k : Int) < (n : Int) := by omega
              have hck := hc k hkn
              clear hc
              obtain ⟨x, hx⟩ : ∃ x, x = xs.getD k 0 := ⟨_, rfl⟩
              have HX : Hid (x = xs.getD k 0) := hx
              rw [← hx] at hck
              clear hx
              by_cases hx1 : x < 33
              · go_wp2_with (go_at_call 66; refine (l1In_any _ _ _ _).mono ?_; rintro e w' ⟨rfl, rfl⟩)
                go_ret
                exact ⟨ret_int (by rw [labelP_bad H0.out h12 HR.out (bad_any (by rw [← HN.out]; exact hkn) (by rw [← HX.out]; exact badR_low hx1))]), hb⟩
              · rcases Bool.eq_false_or_eq_true (inB x 127 160) with hx2 | hx2
                · go_wp2_with (go_at_call 66; refine (l1In_any _ _ _ _).mono ?_; rintro e w' ⟨rfl, rfl⟩)
                  go_ret
                  exact ⟨ret_int (by rw [labelP_bad H0.out h12 HR.out (bad_any (by rw [← HN.out]; exact hkn) (by rw [← HX.out]; exact badR_mid hx2))]), hb⟩
                · go_wp2_with (go_at_call 66; refine (l1In_any _ _ _ _).mono ?_; rintro e w' ⟨rfl, rfl⟩)
                  go_round
                  case rel => exact ⟨k + 1, by omega, by go_num, hG.out.succ (by rw [← HX.out]; exact badR_no (by omega) hx2)⟩
                  case measure => simp [intOf]; omega
            · go_wp2
              go_ret
              have hkn : k = n := by omega
              subst hkn
              exact ⟨ret_int (by rw [labelP_ok H0.out h12 HR.out (Good.all (by rw [← HN.out]; exact hG.out))]), hb⟩
        · have e : xs = [] := List.eq_nil_of_length_eq_zero (by omega)
          subst e
          simp only [List.length_nil]
          clear hv
          refine wp_loop_rounds 1 ?_; rw [rounds_succ]
          go_wp2
          go_ret
          exact ⟨ret_int (by rw [labelP_ok H0.out h12 HR.out rfl]), hb⟩

set_option maxRecDepth 100000 in
set_option maxHeartbeats 2000000 in
theorem implLabelFault_any (s : ByteArray) (w : World) (hs : s.size ≤ 1048576) :
    Calls Tryz.prog 43 #[.string s] w fun e w' => e = .returned (.int .i64 (labelP s)) ∧ Below w.heap.size w w' := by
  have hem := isEmpty_of s
  by_cases h0 : s.size = 0
  · have h1 : s.toList.isEmpty = true := by rw [hem]; simp [h0]
    rw [labelP_empty h0]
    clear hem
    go_enter Tryz.func43, Tryz.ntmps43
    go_wp2
    go_ret
    exact ⟨rfl, Below.refl _ _⟩
  · have h1 : s.toList.isEmpty = false := by rw [hem]; simp [h0]
    clear hem
    by_cases h12 : 12 < s.size
    · rw [labelP_many h12]
      go_enter Tryz.func43, Tryz.ntmps43
      go_wp2
      go_ret
      exact ⟨rfl, Below.refl _ _⟩
    · have hA := fun w => implRunesOf_any s w hs
      rcases hr : runes s with _ | xs
      · rw [labelP_none h0 h12 hr]
        rw [rP_none (by omega) hr] at hA
        go_enter Tryz.func43, Tryz.ntmps43
        go_wp2_with (go_at_call 81; refine (hA _).mono ?_; intro e w1 h9; obtain ⟨a, c, rfl, hb, _⟩ := h9.use)
        go_ret
        exact ⟨rfl, hb.alloc hb.size _⟩
      · rw [rP_some (by omega) hr] at hA
        have hlen := runes_length hr
        have H0 : Hid (¬ s.size = 0) := h0
        have HR : Hid (runes s = some xs) := hr
        clear h0 hr
        go_enter Tryz.func43, Tryz.ntmps43
        go_wp2_with (go_at_call 81; refine (hA _).mono ?_; intro e w1 h9; obtain ⟨a, c, rfl, hb, hown⟩ := h9.use; clear h9)
        have hv := (own_ints hown).below (one_new (.cells #[.int .i64 0, .slice a xs.length c] 147))
        have hB : Below w.heap.size w (w1.alloc (.cells #[.int .i64 0, .slice a xs.length c] 147)) := hb.alloc hb.size _
        clear hown hA
        by_cases hz : 0 < xs.length
        · obtain ⟨_, b, off, rfl, _, hc⟩ := hv.at hz
          clear hv
          obtain ⟨n, hn⟩ : ∃ n, n = xs.length := ⟨_, rfl⟩
          have HN : Hid (n = xs.length) := hn
          rw [← hn] at hc hlen hz hB ⊢
          clear hn
          go_loop [21] (fun i => ∃ k : Nat, k ≤ n ∧ i = .int .i64 k ∧ Hid (Good xs k)) (fun i => n - (intOf i).toNat)
          case atStart => exact ⟨0, Nat.zero_le _, rfl, fun j hj => by omega⟩
          case round =>
            obtain ⟨k, hk, rfl, hG⟩ := hrel
            by_cases hkn : k < n
            · have hki : (k : Int) < (n : Int) := by omega
              have hck := hc k hkn
              clear hc
              obtain ⟨x, hx⟩ : ∃ x, x = xs.getD k 0 := ⟨_, rfl⟩
              have HX : Hid (x = xs.getD k 0) := hx
              rw [← hx] at hck
              clear hx
              by_cases hx1 : x < 33
              · go_wp2
                go_ret
                exact ⟨ret_int (by rw [labelP_bad H0.out h12 HR.out (bad_any (by rw [← HN.out]; exact hkn) (by rw [← HX.out]; exact badR_low hx1))]), hB⟩
              · by_cases hx2 : 127 ≤ x
                · by_cases hx3 : x ≤ 160
                  · go_wp2
                    go_ret
                    exact ⟨ret_int (by rw [labelP_bad H0.out h12 HR.out (bad_any (by rw [← HN.out]; exact hkn) (by rw [← HX.out]; exact badR_mid (inB_t hx2 hx3)))]), hB⟩
                  · go_wp2
                    go_round
                    case rel => exact ⟨k + 1, by omega, by go_num, hG.out.succ (by rw [← HX.out]; exact badR_no (by omega) (inB_f (by omega)))⟩
                    case measure => simp [intOf]; omega
                · go_wp2
                  go_round
                  case rel => exact ⟨k + 1, by omega, by go_num, hG.out.succ (by rw [← HX.out]; exact badR_no (by omega) (inB_f (by omega)))⟩
                  case measure => simp [intOf]; omega
            · go_wp2
              go_ret
              have hkn : k = n := by omega
              subst hkn
              exact ⟨ret_int (by rw [labelP_ok H0.out h12 HR.out (Good.all (by rw [← HN.out]; exact hG.out))]), hB⟩
        · have e : xs = [] := List.eq_nil_of_length_eq_zero (by omega)
          subst e
          simp only [List.length_nil] at hB ⊢
          clear hv
          refine wp_loop_rounds 1 ?_; rw [rounds_succ]
          go_wp2
          go_ret
          exact ⟨ret_int (by rw [labelP_ok H0.out h12 HR.out rfl]), hB⟩
end U
end Go.Proofs.YtdbbmclobmigdaaGreat
