/- Climbing, by the model; ClimbOld and AcceptOld of both. -/
import Derived.Test.YtgflamlfplpfdaaOp4
namespace Go.Proofs.Ytgflamlfplpfdaa
open Go.RowKit
namespace U
set_option maxRecDepth 100000 in
set_option maxHeartbeats 4000000 in
theorem l5Climb_any (x s : Int) (u : Value) (p : List Int) (w : World) (hx : 0 ≤ x ∧ x ≤ 255) (hs : 0 ≤ s ∧ s ≤ 65520) (hu : Ints .i64 w u p) (hp : p.length ≤ 8) (hall : p.all sumB = true) :
    Calls Try.prog 80 #[.int .i64 x, .int .i64 s, u] w fun e w' => e = .returned (.int .i64 (clm x s p p.length)) ∧ Below w.heap.size w w' := by
  have HV : Hid (∀ w', Below w.heap.size w w' → Ints .i64 w' u p) := fun w' h => hu.below h
  obtain ⟨ua, uc, rfl⟩ := hu.shape
  have HA : Hid (∀ n, 0 ≤ p.getD n 0 ∧ p.getD n 0 ≤ 65520) := path_at hall
  have HC : Hid (∀ n, 0 ≤ clm x s p n ∧ clm x s p n ≤ 65520) := clm_bd hs
  obtain ⟨n, hn⟩ : ∃ n, n = p.length := ⟨_, rfl⟩
  rw [← hn] at HV hp ⊢
  have HN : Hid (n = p.length) := hn
  clear hn hu hall
  go_enter Try.func80, Try.ntmps80
  go_wp2
  go_loopw [1, 7] (fun c i wr => ∃ k : Nat, k ≤ n ∧ i = .int .i64 k ∧ c = .int .i64 (clm x s p k) ∧ Below w.heap.size w wr) (fun _ i _ => n - (intOf i).toNat)
  case atStart => exact ⟨0, Nat.zero_le _, rfl, rfl, Below.refl _ _⟩
  case round =>
    obtain ⟨k, hk, rfl, rfl, hB⟩ := hrel
    by_cases hkn : k < n
    · have hki : (k : Int) < (n : Int) := by omega
      have hk0 : (0 : Int) ≤ (k : Int) := by omega
      have hiw := HV.out _ hB
      obtain ⟨-, b, off, rfl, hbb, hcc⟩ := hiw.at (by rw [← HN.out]; omega)
      have ck := hcc k (by rw [← HN.out]; omega)
      have hbo := HA.out k
      have hbc := HC.out k
      clear hcc hiw
      have hx2 : x / 2 ^ k = x / (2 ^ k : Nat) := by simp
      have HX : Hid (x / 2 ^ k = x / (2 ^ k : Nat)) := hx2
      have hq0 : 0 ≤ x / 2 ^ k := by rw [hx2]; exact Int.ediv_nonneg hx.1 (Int.natCast_nonneg _)
      clear hx2
      have HE : Hid ((x / 2 ^ k) % 2 = 0 → clm x s p (k + 1) = sumL (tagL 2 [clm x s p k, p.getD k 0])) := fun h => clm_even (by rw [← HX.out]; exact h)
      have HO : Hid (¬ (x / 2 ^ k) % 2 = 0 → clm x s p (k + 1) = sumL (tagL 2 [p.getD k 0, clm x s p k])) := fun h => clm_odd (by rw [← HX.out]; exact h)
      generalize p.getD k 0 = o at *
      generalize hcc : clm x s p k = cc at *
      clear hcc
      generalize hcd : clm x s p (k + 1) = cd at *
      have HCD : Hid (clm x s p (k + 1) = cd) := hcd
      clear hcd HX
      by_cases h2 : (x / 2 ^ k) % 2 = 0
      · have ht : Int.tmod (x / 2 ^ k) 2 = 0 := by rw [Int.tmod_eq_emod_of_nonneg hq0]; exact h2
        have hT := fun w u hu => l2Tag2_any 2 cc o u w (by omega) hu hbc hbo
        rw [← HE.out h2] at hT
        go_wp2_with fail
        refine (hT _ _ (two_ints_at (by first | rfl | simp))).mono ?_
        rintro e w2 ⟨rfl, hb2⟩
        have hB2 := below_after_of hB (below_after hb2)
        clear hT hb2 hB ck
        go_wp2
        go_roundw
        case rel => exact ⟨k + 1, by omega, by go_num, by rw [HCD.out], hB2⟩
        case measure => simp [intOf]; omega
      · have ht : ¬ Int.tmod (x / 2 ^ k) 2 = 0 := by rw [Int.tmod_eq_emod_of_nonneg hq0]; exact h2
        have hT := fun w u hu => l2Tag2_any 2 o cc u w (by omega) hu hbo hbc
        rw [← HO.out h2] at hT
        go_wp2_with fail
        refine (hT _ _ (two_ints_at (by first | rfl | simp))).mono ?_
        rintro e w2 ⟨rfl, hb2⟩
        have hB2 := below_after_of hB (below_after hb2)
        clear hT hb2 hB ck
        go_wp2
        go_roundw
        case rel => exact ⟨k + 1, by omega, by go_num, by rw [HCD.out], hB2⟩
        case measure => simp [intOf]; omega
    · have : k = n := by omega
      subst this
      have hki : ¬ (k : Int) < (k : Int) := by omega
      go_wp2
      go_ret
      exact ⟨rfl, hB⟩
theorem co_no {x v : Int} {b : Bool} {p : List Int} (h : askd x b v = false) : coC x b v p = 3 ∧ coV x b v p = 0 := by simp [coC, coV, h]
theorem co_len {x v : Int} {b : Bool} {p : List Int} (h : askd x b v = true) (hp : ¬ p.length = 8) : coC x b v p = 9 ∧ coV x b v p = 0 := by simp [coC, coV, h, hp]
theorem co_sum {x v : Int} {b : Bool} {p : List Int} (h : askd x b v = true) (hp : p.length = 8) (hs : p.all sumB = false) : coC x b v p = 3 ∧ coV x b v p = 0 := by
  unfold coC coV
  rw [if_pos h, if_pos hp, hs, if_neg (by simp), if_neg (by simp)]
  exact ⟨rfl, rfl⟩
theorem co_ok {x v : Int} {b : Bool} {p : List Int} (h : askd x b v = true) (hp : p.length = 8) (hs : p.all sumB = true) : coC x b v p = 0 ∧ coV x b v p = clm x (sumL (leafL x b v)) p 8 := by
  unfold coC coV
  rw [if_pos h, if_pos hp, if_pos hs, if_pos ⟨h, hp, hs⟩]
  exact ⟨rfl, rfl⟩
set_option maxRecDepth 100000 in
set_option maxHeartbeats 4000000 in
theorem specClimbOld_any (x : Int) (b : Bool) (v : Int) (u : Value) (p : List Int) (w : World) (hu : Ints .i64 w u p) (hx : p.length ≤ 1099511627776) :
    Calls Try.prog 28 #[.int .i64 x, .bool b, .int .i64 v, u] w fun e w' => IntAns w (coC x b v p) (coV x b v p) e w' := by
  have HA := fun w => l5Asked_any x b v w
  have HV : Hid (∀ w', Below w.heap.size w w' → Ints .i64 w' u p) := fun w' h => hu.below h
  obtain ⟨ua, uc, rfl⟩ := hu.shape
  rcases Bool.eq_false_or_eq_true (askd x b v) with ha | ha
  · rw [ha] at HA
    by_cases h8 : p.length = 8
    · have HL := fun w' h => l1All_any _ p w' (HV.out w' h) hx
      rcases Bool.eq_false_or_eq_true (p.all sumB) with hs | hs
      · rw [hs] at HL
        rw [(co_ok ha h8 hs).1, (co_ok ha h8 hs).2]
        have HF := fun w => l5Leaf_any x b v w ha
        have HS := fun v' w h => l2Sum_any v' (leafL x b v) w h (leafL_bts ha) (by have := leafL_len x b v; omega)
        have HM := fun w' h => l5Climb_any x (sumL (leafL x b v)) _ p w' (askd_key ha) (sumL_bd _) (HV.out w' h) (by omega) hs
        rw [h8] at HM HL ⊢
        generalize clm x (sumL (leafL x b v)) p 8 = y at *
        generalize sumL (leafL x b v) = s at *
        generalize leafL x b v = ls at *
        clear ha hs hu h8 hx
        go_enter Try.func28, Try.ntmps28
        go_wp2_with fail
        refine (HA _).mono ?_
        rintro e w1 ⟨rfl, rfl⟩
        clear HA
        go_wp2_with fail
        refine (HL _ (one_new _)).mono ?_
        rintro e w1 ⟨rfl, rfl⟩
        clear HL
        go_wp2_with fail
        refine (HF _).mono ?_
        rintro e w1 ⟨v', rfl, own1, hb1⟩
        have hB1 := below_after hb1
        have i1 := own_ints own1
        obtain ⟨a', c', rfl⟩ := own_shape own1
        obtain ⟨hc0, hc1, hf0, hf1⟩ := two_cells ((hb1.block w.heap.size (by simp)).trans (heap_alloc_new w _))
        have hsz1 : w.heap.size < w1.heap.size := by have := hb1.size; simp at this; omega
        clear HF own1 hb1
        go_wp2_with fail
        refine (HS _ _ i1).mono ?_
        rintro e w2 ⟨rfl, rfl⟩
        clear HS i1
        go_wp2_with fail
        refine (HM _ hB1).mono ?_
        rintro e w3 ⟨rfl, hb3⟩
        have hc0 := (hb3.cell (p := ⟨w.heap.size, 0, none⟩) hsz1).trans hc0
        have hc1 := (hb3.cell (p := ⟨w.heap.size, 1, none⟩) hsz1).trans hc1
        have hf0 := (hb3.frozen (p := ⟨w.heap.size, 0, none⟩) hsz1).trans hf0
        have hf1 := (hb3.frozen (p := ⟨w.heap.size, 1, none⟩) hsz1).trans hf1
        have hB3 := below_after_of hB1 hb3
        clear HM hb3 hB1
        go_wp2
        exact bodyPost_ret (v := .agg #[.int .i64 0, .int .i64 y]) (by simp [results, Try.results28, go_sem, hc0, hc1]) rfl ⟨rfl, (hB3.setCell (Nat.le_refl _) _).setCell (Nat.le_refl _) _⟩
      · rw [hs] at HL
        rw [(co_sum ha h8 hs).1, (co_sum ha h8 hs).2]
        rw [h8] at HL ⊢
        clear ha hs hu h8 hx
        go_enter Try.func28, Try.ntmps28
        go_wp2_with fail
        refine (HA _).mono ?_
        rintro e w1 ⟨rfl, rfl⟩
        clear HA
        go_wp2_with fail
        refine (HL _ (one_new _)).mono ?_
        rintro e w1 ⟨rfl, rfl⟩
        clear HL
        go_wp2
        exact bodyPost_ret (v := .agg #[.int .i64 3, .int .i64 0]) (by simp [results, Try.results28, go_sem]) rfl ⟨rfl, one_new _⟩
    · rw [(co_len ha h8).1, (co_len ha h8).2]
      generalize p.length = n at *
      have hni : ¬ (n : Int) = 8 := by omega
      clear hu ha
      go_enter Try.func28, Try.ntmps28
      go_wp2_with fail
      refine (HA _).mono ?_
      rintro e w1 ⟨rfl, rfl⟩
      clear HA
      go_wp2
      exact bodyPost_ret (v := .agg #[.int .i64 9, .int .i64 0]) (by simp [results, Try.results28, go_sem]) rfl ⟨rfl, one_new _⟩
  · rw [ha] at HA
    rw [(co_no ha).1, (co_no ha).2]
    generalize p.length = n at *
    clear hu ha
    go_enter Try.func28, Try.ntmps28
    go_wp2_with fail
    refine (HA _).mono ?_
    rintro e w1 ⟨rfl, rfl⟩
    clear HA
    go_wp2
    exact bodyPost_ret (v := .agg #[.int .i64 3, .int .i64 0]) (by simp [results, Try.results28, go_sem]) rfl ⟨rfl, one_new _⟩
end U
end Go.Proofs.Ytgflamlfplpfdaa
