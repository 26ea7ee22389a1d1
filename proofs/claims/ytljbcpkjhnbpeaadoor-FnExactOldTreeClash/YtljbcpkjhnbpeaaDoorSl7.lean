/- The row above a row, as the program makes it. -/
import Derived.Test.YtljbcpkjhnbpeaaDoorSl6
namespace Go.Proofs.YtljbcpkjhnbpeaaDoor
open Go.RowKit
namespace U
/-- Places and sums that are so. -/
def Pls (r : Prl) : Prop := ∀ p ∈ r, (0 ≤ p.1 ∧ p.1 ≤ 255) ∧ 0 ≤ p.2 ∧ p.2 ≤ 65520
theorem Pls.at {r : Prl} (h : Pls r) {k : Nat} (hk : k < r.length) : (0 ≤ (pAt r k).1 ∧ (pAt r k).1 ≤ 255) ∧ 0 ≤ (pAt r k).2 ∧ (pAt r k).2 ≤ 65520 := by
  rw [pAt_eq hk]; exact h _ (List.getElem_mem _)
set_option maxRecDepth 100000 in
set_option maxHeartbeats 4000000 in
theorem firstPair_any (b off c n : Nat) (r : Prl) (e : Int) (w : World) (HN : Hid (n = r.length)) (hn0 : 0 < n) (hn : n ≤ 12) (hb : b < w.heap.size) (he : 0 ≤ e ∧ e ≤ 65520) (HR : Hid (Pls r))
    (hc : ∀ j, j < n → w.cell? ⟨b, off + j * 2, none⟩ = some (.int .i64 (pAt r j).1) ∧ w.cell? ⟨b, off + j * 2 + 1, none⟩ = some (.int .i64 (pAt r j).2)) :
    Calls Tryd.prog 95 #[.slice (some ⟨b, off, none⟩) n c, .int .i64 e] w fun en w' => en = .returned (.tuple #[.int .i64 (fp e r).1, .int .i64 (fp e r).2]) ∧ Below w.heap.size w w' := by
  have hr0 : 0 < r.length := by have := HN.out; omega
  obtain ⟨c0, d0⟩ := hc 0 hn0
  simp only [Nat.zero_mul, Nat.add_zero] at c0 d0
  have hb0 := HR.out.at hr0
  have hni : (0 : Int) < (n : Int) := by omega
  have h1i : ∀ h : 1 < n, 1 < r.length := fun h => by have := HN.out; omega
  have HO : Hid ((pAt r 0).1 % 2 = 1 → fp e r = (t2 e (pAt r 0).2, 1)) := fp_odd e hr0
  have HP : Hid (1 < n → ¬ (pAt r 0).1 % 2 = 1 → (pAt r 1).1 = (pAt r 0).1 + 1 → fp e r = (t2 (pAt r 0).2 (pAt r 1).2, 2)) := fun h => fp_pair e (h1i h)
  have HU : Hid (¬ (pAt r 0).1 % 2 = 1 → ¬ (1 < n ∧ (pAt r 1).1 = (pAt r 0).1 + 1) → fp e r = (t2 (pAt r 0).2 e, 1)) := fun h h2 => fp_one e hr0 h (by have := HN.out; intro hh; exact h2 ⟨by omega, hh.2⟩)
  have HC1 : Hid (1 < n → w.cell? ⟨b, off + 1 * 2, none⟩ = some (.int .i64 (pAt r 1).1) ∧ w.cell? ⟨b, off + 1 * 2 + 1, none⟩ = some (.int .i64 (pAt r 1).2)) := hc 1
  have HB1 : Hid (1 < n → (0 ≤ (pAt r 1).1 ∧ (pAt r 1).1 ≤ 255) ∧ 0 ≤ (pAt r 1).2 ∧ (pAt r 1).2 ≤ 65520) := fun h => HR.out.at (h1i h)
  generalize fp e r = F at *
  generalize (pAt r 0).1 = q at *
  generalize (pAt r 0).2 = s at *
  generalize (pAt r 1).1 = q' at *
  generalize (pAt r 1).2 = s' at *
  have hq1 : q.tmod 2 = q % 2 := by rw [Int.tmod_eq_emod_of_nonneg (by omega)]
  clear hc h1i hr0
  by_cases h1 : q % 2 = 1
  · have hF := HO.out h1
    subst hF
    have hS := fun w => pairSum_any e s w he hb0.2
    generalize t2 e s = z at *
    have h1b : (q % 2 == 1) = true := by simpa using h1
    clear HO HP HU HC1 HB1
    go_enter Tryd.func95, Tryd.ntmps95
    go_wp2_with fail
    refine (hS _).mono ?_
    rintro en w1 ⟨rfl, hb1⟩
    clear hS
    go_wp2
    go_ret2
    exact ⟨rfl, below_after hb1⟩
  · have h1b : (q % 2 == 1) = false := by simpa using h1
    by_cases h2 : 1 < n ∧ q' = q + 1
    · have hF := HP.out h2.1 h1 h2.2
      subst hF
      obtain ⟨c1, d1⟩ := HC1.out h2.1
      have hb1 := HB1.out h2.1
      simp only [Nat.one_mul] at c1 d1
      have hS := fun w => pairSum_any s s' w hb0.2 hb1.2
      generalize t2 s s' = z at *
      have h21 : 1 < n := h2.1
      have h22 : (1 : Int) < (n : Int) := by omega
      have h2b : (q' == q + 1) = true := by simpa using h2.2
      have h2d : decide ((1 : Int) < (n : Int)) = true := by simpa using h22
      have hqw : IntKind.i64.wrap (q + 1) = q + 1 := by rw [IntKind.wrap_i64]; omega
      clear HO HP HU HC1 HB1 h2
      go_enter Tryd.func95, Tryd.ntmps95
      go_wp2
      go_quiet (fail)
      go_wp2
      have W0 : Below w.heap.size w ((w.alloc (.cells #[.int .i64 q, .int .i64 s] 129)).drewN nq) := below_drewN (one_new _) _
      have a1 := After.cell (W := (w.alloc (.cells #[.int .i64 q, .int .i64 s] 129)).drewN nq) (two_cellsV (heap_alloc_new w (.cells #[.int .i64 q, .int .i64 s] 129))).2.1
      have a2 := After.cell ((W0.cell (p := ⟨b, off + 2 + 1, none⟩) hb).trans d1)
      have a3 : ∀ n : After ((w.alloc (.cells #[.int .i64 q, .int .i64 s] 129)).drewN nq), n.w.cell? ⟨b, off + 3, none⟩ = some (.int .i64 s') := a2
      have hne := After.ne ((w.alloc (.cells #[.int .i64 q, .int .i64 s] 129)).drewN nq)
      have HW0 : Hid (Below w.heap.size w ((w.alloc (.cells #[.int .i64 q, .int .i64 s] 129)).drewN nq)) := W0
      clear W0
      refine wp_region_after (by kernel_rfl) (by kernel_rfl) ?_
      repeat (first | go_big_quiet_skip | (go_big_quiet_want; go_big_quiet_op; first | go_big_quiet_on | go_big_quiet_call (first | (go_at_call 82; refine (hS _).mono ?_; rintro e wq ⟨rfl, hbq⟩; exact ⟨rfl, after_mk (below_after_of (After.b _) hbq)⟩))))
      refine wpQuiet_nil ?_
      rintro _ ⟨n2, rfl⟩
      have hB2 : Below w.heap.size w n2.w := below_after_of HW0.out n2.b
      go_wp2
      go_ret2
      exact ⟨rfl, hB2⟩
    · have hF := HU.out h1 h2
      subst hF
      have hS := fun w => pairSum_any s e w hb0.2 he
      generalize t2 s e = z at *
      by_cases h21 : 1 < n
      · obtain ⟨c1, d1⟩ := HC1.out h21
        simp only [Nat.one_mul] at c1 d1
        have h22 : (1 : Int) < (n : Int) := by omega
        have h2b : (q' == q + 1) = false := by simpa using fun h => h2 ⟨h21, h⟩
        have h2d : decide ((1 : Int) < (n : Int)) = true := by simpa using h22
        have hqw : IntKind.i64.wrap (q + 1) = q + 1 := by rw [IntKind.wrap_i64]; omega
        clear HO HP HU HC1 HB1 h2 d1
        go_enter Tryd.func95, Tryd.ntmps95
        go_wp2
        go_quiet (fail)
        go_wp2_with fail
        refine (hS _).mono ?_
        rintro en w1 ⟨rfl, hb1⟩
        clear hS
        go_wp2
        go_ret2
        exact ⟨rfl, below_after_of (below_drewN (one_new _) _) hb1⟩
      · have h22 : ¬ (1 : Int) < (n : Int) := by omega
        have h2d : decide ((1 : Int) < (n : Int)) = false := by simpa using h22
        clear HO HP HU HC1 HB1 h2
        go_enter Tryd.func95, Tryd.ntmps95
        go_wp2
        go_quiet (fail)
        go_wp2_with fail
        refine (hS _).mono ?_
        rintro en w1 ⟨rfl, hb1⟩
        clear hS
        go_wp2
        go_ret2
        exact ⟨rfl, below_after_of (below_drewN (one_new _) _) hb1⟩
theorem drop_at {r : Prl} {j k : Nat} : pAt (r.drop j) k = pAt r (j + k) := by
  unfold pAt
  rw [List.getD_eq_getElem?_getD, List.getD_eq_getElem?_getD, List.getElem?_drop]
theorem Pls.drop {r : Prl} (h : Pls r) (j : Nat) : Pls (r.drop j) := fun p hp => h p (List.mem_of_mem_drop hp)
set_option maxRecDepth 100000 in
set_option maxHeartbeats 4000000 in
theorem rowAbove_any (v : Value) (r : Prl) (e : Int) (w : World) (hv : Prs w v r) (hcap : ∀ a n c, v = .slice a n c → n ≤ c) (hn : r.length ≤ 12) (he : 0 ≤ e ∧ e ≤ 65520) (hR : Pls r) :
    Calls Tryd.prog 81 #[v, .int .i64 e] w fun en w' => ∃ v', en = .returned v' ∧ w'.ownsRow w.heap.size 129 2 v' (abv e r).length ((fl (abv e r)).map (Value.int .i64)) ∧ Below w.heap.size w w' := by
  obtain ⟨i0, hi, hz0, hz1, hz2⟩ := info_parts Tryd.infoPl
  have HV : Hid (Prs w v r) := hv
  obtain ⟨ad, c, rfl⟩ := hv.shape
  have hcp := hcap _ _ _ rfl
  have HR : Hid (Pls r) := hR
  have HC : Hid (r.length ≤ c) := hcp
  have HA0 : Hid ([] ++ abv e (r.drop 0) = abv e r) := by show _ = _; simp
  have HN : Hid (r.length ≤ 12) := hn
  have HV0 : Hid (Prs w (.slice ad r.length c) (r.drop 0)) := hv
  have e0 : Hid ((r.drop 0).length = r.length) := by show _ = _; simp
  generalize r.length = n at *
  clear hv hcap hR hcp HV hn
  go_enter Tryd.func81, Tryd.ntmps81
  go_wp2
  go_loopw [0, 5] (fun u a wr => ∃ (j : Nat) (ac : Prl) (ad : Option Addr) (m c : Nat), u = .slice ad m c ∧ m ≤ c ∧ Hid ((r.drop j).length = m) ∧ m ≤ 12 ∧ Hid (Prs w u (r.drop j)) ∧ Hid (ac ++ abv e (r.drop j) = abv e r) ∧ ac.length + m ≤ 12 ∧ Hid (Below w.heap.size w wr) ∧ Hid (wr.ownsRow w.heap.size 129 2 a ac.length ((fl ac).map (Value.int .i64)))) (fun u _ _ => (match u with | .slice _ m _ => m | _ => 0))
  case atStart => exact ⟨0, [], ad, n, c, rfl, HC.out, e0, HN.out, HV0, HA0, by have := HN.out; simp; omega, Below.refl _ _, World.ownsRow_nil _ _ _ _⟩
  case round =>
    obtain ⟨j, ac, ad, m, c, rfl, hmc, HM, hm, HP, HA, hac, HB, HO⟩ := hrel
    obtain ⟨a', c', rfl⟩ := own_shape2 HO.out
    by_cases hm0 : 0 < m
    · have hmi : (0 : Int) < (m : Int) := by omega
      obtain ⟨-, b, off, rfl, hb, hc⟩ := HP.out.at (by rw [HM.out]; exact hm0)
      rw [HM.out] at hc
      obtain ⟨HA1, hu1, hu2⟩ := abv_fp e (r := r.drop j) (by rw [HM.out]; exact hm0)
      rw [HM.out] at hu2
      have hF := fun w' h => firstPair_any b off c m (r.drop j) e w' HM.out.symm hm0 hm (Nat.lt_of_lt_of_le hb (Below.size (B := w.heap.size) h)) he (HR.out.drop j) (fun k hk => ⟨(h.cell (p := ⟨b, off + k * 2, none⟩) hb).trans (hc k hk).1, (h.cell (p := ⟨b, off + k * 2 + 1, none⟩) hb).trans (hc k hk).2⟩)
      have hb0 := (HR.out.drop j).at (k := 0) (by rw [HM.out]; exact hm0)
      have c0 : ∀ w', Below w.heap.size w w' → w'.cell? ⟨b, off, none⟩ = some (.int .i64 (pAt (r.drop j) 0).1) := fun w' h => by
        have := (h.cell (p := ⟨b, off + 0 * 2, none⟩) hb).trans (hc 0 hm0).1
        simpa using this
      have HCC : Hid (∀ k, k < m → w.cell? ⟨b, off + k * 2, none⟩ = some (.int .i64 (pAt (r.drop j) k).1) ∧ w.cell? ⟨b, off + k * 2 + 1, none⟩ = some (.int .i64 (pAt (r.drop j) k).2)) := hc
      generalize (fp e (r.drop j)).1 = z at *
      generalize (fp e (r.drop j)).2 = u at *
      generalize (pAt (r.drop j) 0).1 = q at *
      have HA2 : Hid ((ac ++ [(q / 2, z)]) ++ abv e (r.drop (j + u)) = abv e r) := by
        show _ = _
        rw [← HA.out, HA1, List.drop_drop, List.append_assoc]
        rfl
      have hq1 : q.tdiv 2 = q / 2 := by rw [Int.tdiv_eq_ediv_of_nonneg (by omega)]
      have hqw : IntKind.i64.wrap (q / 2) = q / 2 := by rw [IntKind.wrap_i64]; omega
      clear hc HA1
      go_wp2_with fail
      refine (hF _ HB.out).mono ?_
      rintro en w1 ⟨rfl, hb1⟩
      have hB1 := below_after_of HB.out hb1
      have hc0 := c0 _ hB1
      have ho1 := own_below HO.out hb1
      have hwz := hB1.size
      have hbw1 : b < w1.heap.size := by omega
      clear hF c0 hb1 HO
      have hui : (u : Int) ≤ (m : Int) := by omega
      have hu0 : (0 : Int) ≤ (u : Int) := by omega
      have hcl : ac.length ≤ 12 := by omega
      go_wp2_with (at_builtin; refine wpList_append_own _ rfl _ _ 125 rfl w.heap.size 129 i0 (.agg #[.int .i64 0, .int .i64 0]) 2 16 Tryd.underlying125 hi hz0 hz1 hz2 rfl (by decide) _ _ _ rfl (ho1.alloc _) ⟨w1.heap.size, 0, none⟩ 1 1 [.int .i64 (q / 2), .int .i64 z] rfl rfl (World.news_of_block (heap_alloc_new _ _)) (ints_oneCell .i64 [q / 2, z]) (by unfold maxLen; omega) (by omega) (by simp; omega) ?_)
      intro v' w2 hown' hgrow _
      have hb2 : Below w.heap.size w w2 := (hB1.alloc (by omega) _).grown hgrow (by simp; omega) (fun k hk => (ho1.lt k hk).1)
      have own2 := own_snoc hown'
      clear hgrow hown' ho1
      have HPn : Hid (Prs w (.slice (if c = u then some ⟨b, off, none⟩ else some ⟨b, off + u * 2, none⟩) (m - u) (c - u)) (r.drop (j + u))) := by
        have hl : (r.drop (j + u)).length = m - u := by rw [← List.drop_drop, List.length_drop, HM.out]
        by_cases hmu : m = u
        · left
          exact ⟨List.eq_nil_of_length_eq_zero (by rw [hl]; omega), _, _, by rw [hmu, Nat.sub_self]⟩
        · right
          rw [if_neg (by omega)]
          refine ⟨b, off + u * 2, c - u, by rw [hl], hb, fun k hk => ?_⟩
          rw [hl] at hk
          have h3 := HCC.out (u + k) (by omega)
          rw [drop_at] at h3
          rw [drop_at, Nat.add_assoc j u k, show off + u * 2 + k * 2 = off + (u + k) * 2 by omega]
          exact h3
      have HMn : Hid ((r.drop (j + u)).length = m - u) := by show _ = _; rw [← List.drop_drop, List.length_drop, HM.out]
      go_wp2
      go_roundw
      case rel => exact ⟨j + u, ac ++ [(q / 2, z)], _, m - u, c - u, rfl, by omega, HMn, by omega, HPn, HA2, by simp; omega, hb2, own2⟩
      case measure => show m - u < m; omega
    · have hm0 : m = 0 := by omega
      subst hm0
      have e1 : ac = abv e r := by
        have := HA.out
        rw [List.eq_nil_of_length_eq_zero HM.out] at this
        simpa [abv] using this
      subst e1
      go_wp2
      go_ret
      exact ⟨_, rfl, HO.out, HB.out⟩
end U
end Go.Proofs.YtljbcpkjhnbpeaaDoor
