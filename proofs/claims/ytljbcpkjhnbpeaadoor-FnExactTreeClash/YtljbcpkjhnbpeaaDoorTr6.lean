/- The fork bit and a side of slots, as the model makes them. -/
import Derived.Test.YtljbcpkjhnbpeaaDoorTr1
import Derived.Test.YtljbcpkjhnbpeaaDoorSl4
import Derived.Test.YtljbcpkjhnbpeaaDoorQuiet
namespace Go.Proofs.YtljbcpkjhnbpeaaDoor
open Go.RowKit
namespace U
def sdAt (l : Prl) (b : Nat) (s : Int) (k : Nat) : Prl := sd (l.take k) b s
theorem sdAt_all (l : Prl) (b : Nat) (s : Int) : sdAt l b s l.length = sd l b s := by unfold sdAt; rw [List.take_length]
theorem sdAt_in {l : Prl} {b : Nat} {s : Int} {k : Nat} (h : k < l.length) (h1 : bitN (pAt l k).1 b = s) : sdAt l b s (k + 1) = sdAt l b s k ++ [pAt l k] := by
  unfold sdAt sd
  rw [takeP h, List.filter_append, List.filter_cons_of_pos (by simp [h1])]
  rfl
theorem sdAt_out {l : Prl} {b : Nat} {s : Int} {k : Nat} (h : k < l.length) (h1 : ¬ bitN (pAt l k).1 b = s) : sdAt l b s (k + 1) = sdAt l b s k := by
  unfold sdAt sd
  rw [takeP h, List.filter_append, List.filter_cons_of_neg (by simp [h1])]
  simp
theorem sdAt_len (l : Prl) (b : Nat) (s : Int) (k : Nat) : (sdAt l b s k).length ≤ l.length := by
  have h1 := sd_len (l.take k) b s
  rw [List.length_take] at h1
  unfold sdAt
  omega
set_option maxRecDepth 100000 in
set_option maxHeartbeats 2000000 in
theorem l6Side_core (ad : Option Addr) (n c : Nat) (l : Prl) (b : Nat) (s : Int) (w : World) (HN : Hid (n = l.length)) (hn : n ≤ 12) (HS : Hid (Sls l)) (hb7 : b ≤ 7) (HV : Hid (Prs w (.slice ad n c) l)) :
    Calls Tryd.prog 39 #[.slice ad n c, .int .i64 (b : Int), .int .i64 s] w fun e w' => ∃ v', e = .returned v' ∧ w'.ownsRow w.heap.size 41 2 v' (sd l b s).length ((fl (sd l b s)).map (Value.int .i64)) ∧ Below w.heap.size w w' := by
  obtain ⟨i0, hi, hz0, hz1, hz2⟩ := info_parts Tryd.infoSl
  go_enter Tryd.func39, Tryd.ntmps39
  go_wp2
  go_loopw [7, 8] (fun u i wr => ∃ k : Nat, k ≤ n ∧ i = .int .i64 k ∧ Hid (Below w.heap.size w wr) ∧ Hid (wr.ownsRow w.heap.size 41 2 u (sdAt l b s k).length ((fl (sdAt l b s k)).map (Value.int .i64)))) (fun _ i _ => n - (intOf i).toNat)
  case atStart => exact ⟨0, Nat.zero_le _, rfl, one_new _, none_own w _ _ (Nat.le_refl _)⟩
  case round =>
    obtain ⟨k, hk, rfl, hB, ho⟩ := hrel
    obtain ⟨a', c', rfl⟩ := own_shape2 ho.out
    by_cases hkn : k < n
    · have hki : (k : Int) < (n : Int) := by omega
      have hkl : k < l.length := by have := HN.out; omega
      obtain ⟨-, bk, off, rfl, hbk, hc⟩ := HV.out.at (by omega)
      have hc1 := (hB.out.cell (p := ⟨bk, off + k * 2, none⟩) hbk).trans (hc k hkl).1
      have hc2 := (hB.out.cell (p := ⟨bk, off + k * 2 + 1, none⟩) hbk).trans (hc k hkl).2
      have HI : Hid (bitN (pAt l k).1 b = s → sdAt l b s (k + 1) = sdAt l b s k ++ [((pAt l k).1, (pAt l k).2)]) := sdAt_in hkl
      have HO : Hid (¬ bitN (pAt l k).1 b = s → sdAt l b s (k + 1) = sdAt l b s k) := sdAt_out hkl
      have hBt := fun w => l6Bit_any (pAt l k).1 b w hb7 (HS.out.at hkl).1
      have hlen := sdAt_len l b s k
      rw [← HN.out] at hlen
      generalize bitN (pAt l k).1 b = z at *
      generalize (pAt l k).1 = x at *
      generalize (pAt l k).2 = y at *
      generalize sdAt l b s k = m at *
      clear hc
      by_cases h1 : z = s
      · have HI2 := HI.out h1
        have HS : Hid (sdAt l b s (k + 1) = m ++ [(x, y)]) := HI2
        have h1' : (z == s) = true := by simpa using h1
        have ho2 := ho.out
        have hsz := hB.out.size
        clear HI HO HI2 h1
        go_wp2_with fail
        refine (hBt _).mono ?_
        rintro e w1 ⟨rfl, rfl⟩
        clear hBt
        go_wp2_with (at_builtin; refine wpList_append_own _ rfl _ _ 30 rfl w.heap.size 41 i0 (.agg #[.int .i64 0, .int .i64 0]) 2 16 Tryd.underlying30 hi hz0 hz1 hz2 rfl (by decide) _ _ _ rfl (ho2.alloc _) ⟨w1.heap.size, 0, none⟩ 1 1 [.int .i64 x, .int .i64 y] rfl rfl (World.news_of_block (heap_alloc_new _ _)) (ints_oneCell .i64 [x, y]) (by unfold maxLen; omega) (by omega) (by simp; omega) ?_)
        intro v' w2 hown' hgrow _
        have hb2 : Below w.heap.size w w2 := (hB.out.alloc (by omega) _).grown hgrow (by simp; omega) (fun k hk => (ho.out.lt k hk).1)
        have own2 := own_snoc hown'
        clear hgrow hown' ho2 ho
        go_wp2
        go_roundw
        case rel => exact ⟨k + 1, by omega, by go_num, hb2, by rw [HS.out]; exact own2⟩
        case measure => simp [intOf]; omega
      · have HS : Hid (sdAt l b s (k + 1) = m) := HO.out h1
        have h1' : (z == s) = false := by simpa using h1
        clear HI HO h1
        go_wp2_with fail
        refine (hBt _).mono ?_
        rintro e w1 ⟨rfl, rfl⟩
        clear hBt
        go_wp2
        go_roundw
        case rel => exact ⟨k + 1, by omega, by go_num, hB, by rw [HS.out]; exact ho⟩
        case measure => simp [intOf]; omega
    · have hkn : k = n := by omega
      subst hkn
      have e1 : sdAt l b s k = sd l b s := by rw [HN.out]; exact sdAt_all _ _ _
      rw [e1] at ho ⊢
      go_wp2
      go_ret
      exact ⟨_, rfl, ho.out, hB.out⟩
theorem l6Side_any (v : Value) (l : Prl) (b : Nat) (s : Int) (w : World) (hv : Prs w v l) (hs : Sls l) (hb : b ≤ 7) :
    Calls Tryd.prog 39 #[v, .int .i64 (b : Int), .int .i64 s] w fun e w' => ∃ a' c', e = .returned (.slice a' (sd l b s).length c') ∧ w'.ownsRow w.heap.size 41 2 (.slice a' (sd l b s).length c') (sd l b s).length ((fl (sd l b s)).map (Value.int .i64)) ∧ Below w.heap.size w w' := by
  obtain ⟨ad, c, rfl⟩ := hv.shape
  refine (l6Side_core ad l.length c l b s w rfl hs.len hs hb hv).mono ?_
  rintro e w' ⟨v', rfl, ho, hb⟩
  obtain ⟨a', c', rfl⟩ := own_shape2 ho
  exact ⟨a', c', rfl, ho, hb⟩
/-- All keys are the same above a bit. -/
def Top (l : Prl) (k : Nat) : Prop := ∀ p ∈ l, p.1 / (2 ^ (k + 1) : Nat) = (pAt l 0).1 / (2 ^ (k + 1) : Nat)
theorem top_seven {l : Prl} (hs : Sls l) (h0 : 0 < l.length) : Top l 7 := by
  intro p hp
  have h1 := (fine_bd (hs.fin p hp)).1
  have h2 := (hs.at h0).1
  show p.1 / 256 = _ / 256
  omega
theorem top_down {l : Prl} {k : Nat} (h : Top l (k + 1)) (hb : ∀ j, j < l.length → bitN (pAt l j).1 (k + 1) = bitN (pAt l 0).1 (k + 1)) : Top l k := by
  intro p hp
  obtain ⟨i, hi, rfl⟩ := List.getElem_of_mem hp
  have h1 := h _ hp
  have h2 := hb i hi
  rw [pAt_eq hi] at h2
  unfold bitN at h2
  rw [div_succ _ (k + 1), div_succ (pAt l 0).1 (k + 1)] at h1
  omega
theorem top_found {l : Prl} {k i : Nat} (hs : Sls l) (hk : k ≤ 7) (h : Top l k) (hi : i < l.length) (h2 : 2 ≤ l.length) (hd : bitN (pAt l i).1 k ≠ bitN (pAt l 0).1 k) : FB l k := by
  refine fb_of hs.ris hk h2 (h _ (pAt_mem (by omega))).symm ?_
  intro e
  apply hd
  have h4 := ediv_le (ris_first hs.ris (pAt_mem hi)) k
  have h5 := ediv_le (ris_last hs.ris (pAt_mem hi)) k
  unfold bitN
  rw [show (pAt l i).1 / (2 ^ k : Nat) = (pAt l 0).1 / (2 ^ k : Nat) by omega]
theorem top_zero {l : Prl} (hs : Sls l) (h : Top l 0) (h2 : 2 ≤ l.length) : FB l 0 := by
  refine fb_of hs.ris (by omega) h2 (h _ (pAt_mem (by omega))).symm ?_
  have h3 := ris_at hs.ris (show 0 < l.length - 1 by omega) (by omega)
  show _ / 1 ≠ _ / 1
  omega
/-- A bit, as the model tells it. -/
structure BtAt (k b z : Int) : Prop where
  c : ∀ w, Calls Tryd.prog 62 #[.int .i64 k, .int .i64 b] w fun e w' => e = .returned (.int .i64 z) ∧ w' = w
set_option maxRecDepth 100000 in
set_option maxHeartbeats 4000000 in
theorem l6Fork_core (bk off c n : Nat) (l : Prl) (b : Nat) (w : World) (HN : Hid (n = l.length)) (hn : n ≤ 12) (hn2 : 2 ≤ n) (HS : Hid (Sls l)) (HB : Hid (FB l b)) (hbk : bk < w.heap.size)
    (HC : Hid (∀ j, j < n → w.cell? ⟨bk, off + j * 2, none⟩ = some (.int .i64 (pAt l j).1) ∧ w.cell? ⟨bk, off + j * 2 + 1, none⟩ = some (.int .i64 (pAt l j).2))) :
    Calls Tryd.prog 38 #[.slice (some ⟨bk, off, none⟩) n c] w fun e w' => e = .returned (.int .i64 (b : Int)) ∧ Below w.heap.size w w' := by
  go_enter Tryd.func38, Tryd.ntmps38
  go_wp2
  go_loopw [3] (fun i wr => ∃ k : Nat, k ≤ 7 ∧ i = .int .i64 k ∧ Hid (Below w.heap.size w wr) ∧ Hid (Top l k)) (fun i _ => (intOf i).toNat)
  case atStart => exact ⟨7, Nat.le_refl _, rfl, Below.refl _ _, top_seven HS.out (by have := HN.out; omega)⟩
  case round =>
    obtain ⟨k, hk, rfl, hB, ht⟩ := hrel
    by_cases hk0 : 0 < k
    · have hki : (0 : Int) < (k : Int) := by omega
      go_wp2
      go_loopw [4] (fun i wr2 => ∃ j : Nat, 1 ≤ j ∧ j ≤ n ∧ i = .int .i64 j ∧ Hid (Below w.heap.size w wr2) ∧ Hid (∀ m, m < j → bitN (pAt l m).1 k = bitN (pAt l 0).1 k)) (fun i _ => n - (intOf i).toNat)
      case atStart => exact ⟨1, Nat.le_refl _, by omega, rfl, hB, fun m hm => by rw [show m = 0 by omega]⟩
      case round =>
        obtain ⟨j, hj1, hjn, rfl, hB2, hE⟩ := hrel
        by_cases hlt : j < n
        · have hji : (j : Int) < (n : Int) := by omega
          have hjl : j < l.length := by have := HN.out; omega
          have h0l : 0 < l.length := by omega
          have c0 := (hB2.out.cell (p := ⟨bk, off + 0 * 2, none⟩) hbk).trans (HC.out 0 (by omega)).1
          have cj := (hB2.out.cell (p := ⟨bk, off + j * 2, none⟩) hbk).trans (HC.out j hlt).1
          simp only [Nat.zero_mul, Nat.add_zero] at c0
          have b0 : BtAt (pAt l 0).1 (k : Int) (bitN (pAt l 0).1 k) := ⟨fun w => l6Bit_any _ k w hk (HS.out.at h0l).1⟩
          have bj : BtAt (pAt l j).1 (k : Int) (bitN (pAt l j).1 k) := ⟨fun w => l6Bit_any _ k w hk (HS.out.at hjl).1⟩
          have HF : Hid (bitN (pAt l j).1 k ≠ bitN (pAt l 0).1 k → b = k) := fun h => fb_uniq HB.out (top_found HS.out hk ht.out hjl (by omega) h) h0l
          obtain ⟨z0, hz0⟩ : ∃ z, z = bitN (pAt l 0).1 k := ⟨_, rfl⟩
          obtain ⟨zj, hzj⟩ : ∃ z, z = bitN (pAt l j).1 k := ⟨_, rfl⟩
          have HZ0 : Hid (z0 = bitN (pAt l 0).1 k) := hz0
          have HZJ : Hid (zj = bitN (pAt l j).1 k) := hzj
          rw [← hz0] at b0 HF
          rw [← hzj] at bj HF
          clear hz0 hzj hjl h0l
          obtain ⟨x0, hx0⟩ : ∃ x, x = (pAt l 0).1 := ⟨_, rfl⟩
          obtain ⟨xj, hxj⟩ : ∃ x, x = (pAt l j).1 := ⟨_, rfl⟩
          rw [← hx0] at b0 c0
          rw [← hxj] at bj cj
          clear hx0 hxj
          have q0 := After.cell c0
          have qj := After.cell cj
          have hne := After.ne wr
          clear c0 cj
          by_cases hz : zj = z0
          · have hz' : (zj != z0) = false := by simpa using hz
            have HE2 : Hid (∀ m, m < j + 1 → bitN (pAt l m).1 k = bitN (pAt l 0).1 k) := fun m hm => by
              by_cases hmj : m = j
              · rw [hmj, ← HZ0.out, ← HZJ.out, hz]
              · exact hE.out m (by omega)
            clear hz
            go_wp2_with fail
            refine wp_region_after (by kernel_rfl) (by kernel_rfl) ?_
            repeat (first | go_big_quiet_skip | (go_big_quiet_want; go_big_quiet_op; first | go_big_quiet_on | go_big_quiet_call (first
              | (go_at_call 62; refine (BtAt.c (by assumption) _).mono ?_; rintro e wq ⟨rfl, rfl⟩; exact ⟨rfl, _, rfl⟩))))
            refine wpQuiet_nil ?_
            rintro _ ⟨n3, rfl⟩
            have hB3 := below_after_of hB2.out n3.b
            generalize n3.w = w3 at *
            clear q0 qj hne n3
            go_wp2
            go_roundw
            case rel => exact ⟨j + 1, by omega, by omega, by go_num, hB3, HE2⟩
            case measure => simp [intOf]; omega
          · have hz' : (zj != z0) = true := by simpa using hz
            have e : Hid (b = k) := HF.out hz
            clear hz
            go_wp2_with fail
            refine wp_region_after (by kernel_rfl) (by kernel_rfl) ?_
            repeat (first | go_big_quiet_skip | (go_big_quiet_want; go_big_quiet_op; first | go_big_quiet_on | go_big_quiet_call (first
              | (go_at_call 62; refine (BtAt.c (by assumption) _).mono ?_; rintro e wq ⟨rfl, rfl⟩; exact ⟨rfl, _, rfl⟩))))
            refine wpQuiet_nil ?_
            rintro _ ⟨n3, rfl⟩
            have hB3 := below_after_of hB2.out n3.b
            generalize n3.w = w3 at *
            clear q0 qj hne n3
            go_wp2
            go_ret
            exact ⟨ret_int (by rw [e.out]), hB3⟩
        · have hjn : j = n := by omega
          subst hjn
          obtain ⟨m, rfl⟩ : ∃ m, k = m + 1 := ⟨k - 1, by omega⟩
          have hT : Hid (Top l m) := top_down ht.out (fun i hi => hE.out i (by have := HN.out; omega))
          go_wp2
          go_roundw
          case rel => exact ⟨m, by omega, by go_num, hB2, hT⟩
          case measure => simp [intOf]
    · have hk0 : k = 0 := by omega
      subst hk0
      have e : Hid (b = 0) := fb_uniq HB.out (top_zero HS.out ht.out (by have := HN.out; omega)) (by have := HN.out; omega)
      go_wp2
      go_ret
      exact ⟨ret_int (by rw [e.out]; rfl), hB.out⟩
theorem l6Fork_any (v : Value) (l : Prl) (b : Nat) (w : World) (hv : Prs w v l) (hs : Sls l) (h2 : 2 ≤ l.length) (hb : FB l b) :
    Calls Tryd.prog 38 #[v] w fun e w' => e = .returned (.int .i64 (b : Int)) ∧ Below w.heap.size w w' := by
  obtain ⟨a, c, rfl⟩ := hv.shape
  obtain ⟨-, bb, off, rfl, hlt, hc⟩ := hv.at (by omega)
  exact l6Fork_core bb off c l.length l b w rfl hs.len h2 hs hb hlt hc
end U
end Go.Proofs.YtljbcpkjhnbpeaaDoor
