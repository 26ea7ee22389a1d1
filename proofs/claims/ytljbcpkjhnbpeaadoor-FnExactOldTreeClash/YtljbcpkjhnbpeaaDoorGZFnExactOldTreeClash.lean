/- Joined: what the texts behind it need. -/
import Derived.Test.YtljbcpkjhnbpeaaDoorGYFnExactOldTreeClash
import Derived.Test.YtljbcpkjhnbpeaaDoorSl4
import Derived.Test.YtljbcpkjhnbpeaaDoorQuiet
import Derived.Test.YtljbcpkjhnbpeaaDoorOp7
import Derived.Test.YtljbcpkjhnbpeaaDoorSl11
import Derived.Test.YtljbcpkjhnbpeaaDoorSl8
import Derived.Test.YtljbcpkjhnbpeaaDoorClash2
import Derived.Test.YtljbcpkjhnbpeaaDoorOwn
import Derived.Test.YtljbcpkjhnbpeaaDoorSlL
import Derived.Test.YtljbcpkjhnbpeaaDoorIntR
import Derived.Test.YtljbcpkjhnbpeaaDoorSlR
import Derived.Test.YtljbcpkjhnbpeaaDoorTo
import Derived.Test.YtljbcpkjhnbpeaaDoorRows
import Derived.WalkKit
import Derived.ProofKit
import Derived.OpenShut
import Derived.ShutString
import Derived.WalkSmall
import Derived.Test.YtljbcpkjhnbpeaaDoorSl1
import Derived.Deep.SlicePairs
import Derived.Lib.SmallJoins
import Derived.Test.YtljbcpkjhnbpeaaDoorCards
import Derived.Test.YtljbcpkjhnbpeaaDoorTie
import Derived.Deep.DeepHandedRow
import Derived.LaidHandle
import Derived.LaidMore
/- The fork bit and a side of slots, as the model makes them. -/
namespace Go.Proofs.YtljbcpkjhnbpeaaDoor
open Go.RowKit
namespace U
def sdAt (l : Prl) (b : Nat) (s : Int) (k : Nat) : Prl := sd (l.take k) b s
theorem sdAt_all (l : Prl) (b : Nat) (s : Int) : sdAt l b s l.length = sd l b s := by unfold sdAt; rw [List.take_length]
theorem sdAt_in {l : Prl} {b : Nat} {s : Int} {k : Nat} (h : k < l.length) (h1 : bitN (pAt l k).1 b = s) : sdAt l b s (k + 1) = sdAt l b s k ++ [pAt l k] := by
  unfold sdAt sd
  rw [takeP h, List.filter_append, List.filter_cons_of_pos (by simp [h1])]
  rfl
theorem sdAt_out {l : Prl} {b : Nat} {s : Int} {k : Nat} (h : k < l.length) (h1 : ¬ bitN (pAt l k).1 b = s) : sdAt l b s (k + 1) = sdAt l b s k := by
  unfold sdAt sd
  rw [takeP h, List.filter_append, List.filter_cons_of_neg (by simp [h1])]
  simp
theorem sdAt_len (l : Prl) (b : Nat) (s : Int) (k : Nat) : (sdAt l b s k).length ≤ l.length := by
  have h1 := sd_len (l.take k) b s
  rw [List.length_take] at h1
  unfold sdAt
  omega
set_option maxRecDepth 100000 in
set_option maxHeartbeats 2000000 in
theorem l6Side_core (ad : Option Addr) (n c : Nat) (l : Prl) (b : Nat) (s : Int) (w : World) (HN : Hid (n = l.length)) (hn : n ≤ 12) (HS : Hid (Sls l)) (hb7 : b ≤ 7) (HV : Hid (Prs w (.slice ad n c) l)) :
    Calls Tryd.prog 39 #[.slice ad n c, .int .i64 (b : Int), .int .i64 s] w fun e w' => ∃ v', e = .returned v' ∧ w'.ownsRow w.heap.size 41 2 v' (sd l b s).length ((fl (sd l b s)).map (Value.int .i64)) ∧ Below w.heap.size w w' := by
  obtain ⟨i0, hi, hz0, hz1, hz2⟩ := info_parts Tryd.infoSl
  go_enter Tryd.func39, Tryd.ntmps39
  go_wp2
  go_loopw [7, 8] (fun u i wr => ∃ k : Nat, k ≤ n ∧ i = .int .i64 k ∧ Hid (Below w.heap.size w wr) ∧ Hid (wr.ownsRow w.heap.size 41 2 u (sdAt l b s k).length ((fl (sdAt l b s k)).map (Value.int .i64)))) (fun _ i _ => n - (intOf i).toNat)
  case atStart => exact ⟨0, Nat.zero_le _, rfl, one_new _, none_own w _ _ (Nat.le_refl _)⟩
  case round =>
    obtain ⟨k, hk, rfl, hB, ho⟩ := hrel
    obtain ⟨a', c', rfl⟩ := own_shape2 ho.out
    by_cases hkn : k < n
    · have hki : (k : Int) < (n : Int) := by omega
      have hkl : k < l.length := by have := HN.out; omega
      obtain ⟨-, bk, off, rfl, hbk, hc⟩ := HV.out.at (by omega)
      have hc1 := (hB.out.cell (p := ⟨bk, off + k * 2, none⟩) hbk).trans (hc k hkl).1
      have hc2 := (hB.out.cell (p := ⟨bk, off + k * 2 + 1, none⟩) hbk).trans (hc k hkl).2
      have HI : Hid (bitN (pAt l k).1 b = s → sdAt l b s (k + 1) = sdAt l b s k ++ [((pAt l k).1, (pAt l k).2)]) := sdAt_in hkl
      have HO : Hid (¬ bitN (pAt l k).1 b = s → sdAt l b s (k + 1) = sdAt l b s k) := sdAt_out hkl
      have hBt := fun w => l6Bit_any (pAt l k).1 b w hb7 (HS.out.at hkl).1
      have hlen := sdAt_len l b s k
      rw [← HN.out] at hlen
      generalize bitN (pAt l k).1 b = z at *
      generalize (pAt l k).1 = x at *
      generalize (pAt l k).2 = y at *
      generalize sdAt l b s k = m at *
      clear hc
      by_cases h1 : z = s
      · have HI2 := HI.out h1
        have HS : Hid (sdAt l b s (k + 1) = m ++ [(x, y)]) := HI2
        have h1' : (z == s) = true := by simpa using h1
        have ho2 := ho.out
        have hsz := hB.out.size
        clear HI HO HI2 h1
        go_wp2_with fail
        refine (hBt _).mono ?_
        rintro e w1 ⟨rfl, rfl⟩
        clear hBt
        go_wp2_with (at_builtin; refine wpList_append_own _ rfl _ _ 30 rfl w.heap.size 41 i0 (.agg #[.int .i64 0, .int .i64 0]) 2 16 Tryd.underlying30 hi hz0 hz1 hz2 rfl (by decide) _ _ _ rfl (ho2.alloc _) ⟨w1.heap.size, 0, none⟩ 1 1 [.int .i64 x, .int .i64 y] rfl rfl (World.news_of_block (heap_alloc_new _ _)) (ints_oneCell .i64 [x, y]) (by unfold maxLen; omega) (by omega) (by simp; omega) ?_)
        intro v' w2 hown' hgrow _
        have hb2 : Below w.heap.size w w2 := (hB.out.alloc (by omega) _).grown hgrow (by simp; omega) (fun k hk => (ho.out.lt k hk).1)
        have own2 := own_snoc hown'
        clear hgrow hown' ho2 ho
        go_wp2
        go_roundw
        case rel => exact ⟨k + 1, by omega, by go_num, hb2, by rw [HS.out]; exact own2⟩
        case measure => simp [intOf]; omega
      · have HS : Hid (sdAt l b s (k + 1) = m) := HO.out h1
        have h1' : (z == s) = false := by simpa using h1
        clear HI HO h1
        go_wp2_with fail
        refine (hBt _).mono ?_
        rintro e w1 ⟨rfl, rfl⟩
        clear hBt
        go_wp2
        go_roundw
        case rel => exact ⟨k + 1, by omega, by go_num, hB, by rw [HS.out]; exact ho⟩
        case measure => simp [intOf]; omega
    · have hkn : k = n := by omega
      subst hkn
      have e1 : sdAt l b s k = sd l b s := by rw [HN.out]; exact sdAt_all _ _ _
      rw [e1] at ho ⊢
      go_wp2
      go_ret
      exact ⟨_, rfl, ho.out, hB.out⟩
theorem l6Side_any (v : Value) (l : Prl) (b : Nat) (s : Int) (w : World) (hv : Prs w v l) (hs : Sls l) (hb : b ≤ 7) :
    Calls Tryd.prog 39 #[v, .int .i64 (b : Int), .int .i64 s] w fun e w' => ∃ a' c', e = .returned (.slice a' (sd l b s).length c') ∧ w'.ownsRow w.heap.size 41 2 (.slice a' (sd l b s).length c') (sd l b s).length ((fl (sd l b s)).map (Value.int .i64)) ∧ Below w.heap.size w w' := by
  obtain ⟨ad, c, rfl⟩ := hv.shape
  refine (l6Side_core ad l.length c l b s w rfl hs.len hs hb hv).mono ?_
  rintro e w' ⟨v', rfl, ho, hb⟩
  obtain ⟨a', c', rfl⟩ := own_shape2 ho
  exact ⟨a', c', rfl, ho, hb⟩
/-- All keys are the same above a bit. -/
def Top (l : Prl) (k : Nat) : Prop := ∀ p ∈ l, p.1 / (2 ^ (k + 1) : Nat) = (pAt l 0).1 / (2 ^ (k + 1) : Nat)
theorem top_seven {l : Prl} (hs : Sls l) (h0 : 0 < l.length) : Top l 7 := by
  intro p hp
  have h1 := (fine_bd (hs.fin p hp)).1
  have h2 := (hs.at h0).1
  show p.1 / 256 = _ / 256
  omega
theorem top_down {l : Prl} {k : Nat} (h : Top l (k + 1)) (hb : ∀ j, j < l.length → bitN (pAt l j).1 (k + 1) = bitN (pAt l 0).1 (k + 1)) : Top l k := by
  intro p hp
  obtain ⟨i, hi, rfl⟩ := List.getElem_of_mem hp
  have h1 := h _ hp
  have h2 := hb i hi
  rw [pAt_eq hi] at h2
  unfold bitN at h2
  rw [div_succ _ (k + 1), div_succ (pAt l 0).1 (k + 1)] at h1
  omega
theorem top_found {l : Prl} {k i : Nat} (hs : Sls l) (hk : k ≤ 7) (h : Top l k) (hi : i < l.length) (h2 : 2 ≤ l.length) (hd : bitN (pAt l i).1 k ≠ bitN (pAt l 0).1 k) : FB l k := by
  refine fb_of hs.ris hk h2 (h _ (pAt_mem (by omega))).symm ?_
  intro e
  apply hd
  have h4 := ediv_le (ris_first hs.ris (pAt_mem hi)) k
  have h5 := ediv_le (ris_last hs.ris (pAt_mem hi)) k
  unfold bitN
  rw [show (pAt l i).1 / (2 ^ k : Nat) = (pAt l 0).1 / (2 ^ k : Nat) by omega]
theorem top_zero {l : Prl} (hs : Sls l) (h : Top l 0) (h2 : 2 ≤ l.length) : FB l 0 := by
  refine fb_of hs.ris (by omega) h2 (h _ (pAt_mem (by omega))).symm ?_
  have h3 := ris_at hs.ris (show 0 < l.length - 1 by omega) (by omega)
  show _ / 1 ≠ _ / 1
  omega
/-- A bit, as the model tells it. -/
structure BtAt (k b z : Int) : Prop where
  c : ∀ w, Calls Tryd.prog 62 #[.int .i64 k, .int .i64 b] w fun e w' => e = .returned (.int .i64 z) ∧ w' = w
set_option maxRecDepth 100000 in
set_option maxHeartbeats 4000000 in
theorem l6Fork_core (bk off c n : Nat) (l : Prl) (b : Nat) (w : World) (HN : Hid (n = l.length)) (hn : n ≤ 12) (hn2 : 2 ≤ n) (HS : Hid (Sls l)) (HB : Hid (FB l b)) (hbk : bk < w.heap.size)
    (HC : Hid (∀ j, j < n → w.cell? ⟨bk, off + j * 2, none⟩ = some (.int .i64 (pAt l j).1) ∧ w.cell? ⟨bk, off + j * 2 + 1, none⟩ = some (.int .i64 (pAt l j).2))) :
    Calls Tryd.prog 38 #[.slice (some ⟨bk, off, none⟩) n c] w fun e w' => e = .returned (.int .i64 (b : Int)) ∧ Below w.heap.size w w' := by
  go_enter Tryd.func38, Tryd.ntmps38
  go_wp2
  go_loopw [3] (fun i wr => ∃ k : Nat, k ≤ 7 ∧ i = .int .i64 k ∧ Hid (Below w.heap.size w wr) ∧ Hid (Top l k)) (fun i _ => (intOf i).toNat)
  case atStart => exact ⟨7, Nat.le_refl _, rfl, Below.refl _ _, top_seven HS.out (by have := HN.out; omega)⟩
  case round =>
    obtain ⟨k, hk, rfl, hB, ht⟩ := hrel
    by_cases hk0 : 0 < k
    · have hki : (0 : Int) < (k : Int) := by omega
      go_wp2
      go_loopw [4] (fun i wr2 => ∃ j : Nat, 1 ≤ j ∧ j ≤ n ∧ i = .int .i64 j ∧ Hid (Below w.heap.size w wr2) ∧ Hid (∀ m, m < j → bitN (pAt l m).1 k = bitN (pAt l 0).1 k)) (fun i _ => n - (intOf i).toNat)
      case atStart => exact ⟨1, Nat.le_refl _, by omega, rfl, hB, fun m hm => by rw [show m = 0 by omega]⟩
      case round =>
        obtain ⟨j, hj1, hjn, rfl, hB2, hE⟩ := hrel
        by_cases hlt : j < n
        · have hji : (j : Int) < (n : Int) := by omega
          have hjl : j < l.length := by have := HN.out; omega
          have h0l : 0 < l.length := by omega
          have c0 := (hB2.out.cell (p := ⟨bk, off + 0 * 2, none⟩) hbk).trans (HC.out 0 (by omega)).1
          have cj := (hB2.out.cell (p := ⟨bk, off + j * 2, none⟩) hbk).trans (HC.out j hlt).1
          simp only [Nat.zero_mul, Nat.add_zero] at c0
          have b0 : BtAt (pAt l 0).1 (k : Int) (bitN (pAt l 0).1 k) := ⟨fun w => l6Bit_any _ k w hk (HS.out.at h0l).1⟩
          have bj : BtAt (pAt l j).1 (k : Int) (bitN (pAt l j).1 k) := ⟨fun w => l6Bit_any _ k w hk (HS.out.at hjl).1⟩
          have HF : Hid (bitN (pAt l j).1 k ≠ bitN (pAt l 0).1 k → b = k) := fun h => fb_uniq HB.out (top_found HS.out hk ht.out hjl (by omega) h) h0l
          obtain ⟨z0, hz0⟩ : ∃ z, z = bitN (pAt l 0).1 k := ⟨_, rfl⟩
          obtain ⟨zj, hzj⟩ : ∃ z, z = bitN (pAt l j).1 k := ⟨_, rfl⟩
          have HZ0 : Hid (z0 = bitN (pAt l 0).1 k) := hz0
          have HZJ : Hid (zj = bitN (pAt l j).1 k) := hzj
          rw [← hz0] at b0 HF
          rw [← hzj] at bj HF
          clear hz0 hzj hjl h0l
          obtain ⟨x0, hx0⟩ : ∃ x, x = (pAt l 0).1 := ⟨_, rfl⟩
          obtain ⟨xj, hxj⟩ : ∃ x, x = (pAt l j).1 := ⟨_, rfl⟩
          rw [← hx0] at b0 c0
          rw [← hxj] at bj cj
          clear hx0 hxj
          have q0 := After.cell c0
          have qj := After.cell cj
          have hne := After.ne wr
          clear c0 cj
          by_cases hz : zj = z0
          · have hz' : (zj != z0) = false := by simpa using hz
            have HE2 : Hid (∀ m, m < j + 1 → bitN (pAt l m).1 k = bitN (pAt l 0).1 k) := fun m hm => by
              by_cases hmj : m = j
              · rw [hmj, ← HZ0.out, ← HZJ.out, hz]
              · exact hE.out m (by omega)
            clear hz
            go_wp2_with fail
            refine wp_region_after (by kernel_rfl) (by kernel_rfl) ?_
            repeat (first | go_big_quiet_skip | (go_big_quiet_want; go_big_quiet_op; first | go_big_quiet_on | go_big_quiet_call (first
              | (go_at_call 62; refine (BtAt.c (by assumption) _).mono ?_; rintro e wq ⟨rfl, rfl⟩; exact ⟨rfl, _, rfl⟩))))
            refine wpQuiet_nil ?_
            rintro _ ⟨n3, rfl⟩
            have hB3 := below_after_of hB2.out n3.b
            generalize n3.w = w3 at *
            clear q0 qj hne n3
            go_wp2
            go_roundw
            case rel => exact ⟨j + 1, by omega, by omega, by go_num, hB3, HE2⟩
            case measure => simp [intOf]; omega
          · have hz' : (zj != z0) = true := by simpa using hz
            have e : Hid (b = k) := HF.out hz
            clear hz
            go_wp2_with fail
            refine wp_region_after (by kernel_rfl) (by kernel_rfl) ?_
            repeat (first | go_big_quiet_skip | (go_big_quiet_want; go_big_quiet_op; first | go_big_quiet_on | go_big_quiet_call (first
              | (go_at_call 62; refine (BtAt.c (by assumption) _).mono ?_; rintro e wq ⟨rfl, rfl⟩; exact ⟨rfl, _, rfl⟩))))
            refine wpQuiet_nil ?_
            rintro _ ⟨n3, rfl⟩
            have hB3 := below_after_of hB2.out n3.b
            generalize n3.w = w3 at *
            clear q0 qj hne n3
            go_wp2
            go_ret
            exact ⟨ret_int (by rw [e.out]), hB3⟩
        · have hjn : j = n := by omega
          subst hjn
          obtain ⟨m, rfl⟩ : ∃ m, k = m + 1 := ⟨k - 1, by omega⟩
          have hT : Hid (Top l m) := top_down ht.out (fun i hi => hE.out i (by have := HN.out; omega))
          go_wp2
          go_roundw
          case rel => exact ⟨m, by omega, by go_num, hB2, hT⟩
          case measure => simp [intOf]
    · have hk0 : k = 0 := by omega
      subst hk0
      have e : Hid (b = 0) := fb_uniq HB.out (top_zero HS.out ht.out (by have := HN.out; omega)) (by have := HN.out; omega)
      go_wp2
      go_ret
      exact ⟨ret_int (by rw [e.out]; rfl), hB.out⟩
theorem l6Fork_any (v : Value) (l : Prl) (b : Nat) (w : World) (hv : Prs w v l) (hs : Sls l) (h2 : 2 ≤ l.length) (hb : FB l b) :
    Calls Tryd.prog 38 #[v] w fun e w' => e = .returned (.int .i64 (b : Int)) ∧ Below w.heap.size w w' := by
  obtain ⟨a, c, rfl⟩ := hv.shape
  obtain ⟨-, bb, off, rfl, hlt, hc⟩ := hv.at (by omega)
  exact l6Fork_core bb off c l.length l b w rfl hs.len h2 hs hb hlt hc
end U
end Go.Proofs.YtljbcpkjhnbpeaaDoor

/- What is summed for slots, their root and their forks, as the model makes them. -/
namespace Go.Proofs.YtljbcpkjhnbpeaaDoor
open Go.RowKit
namespace U
/-- The piece of slots, as the model makes it. -/
structure ByAt (l : Prl) (t : Tr) : Prop where
  c : ∀ (v : Value) (w : World), Prs w v l → Calls Tryd.prog 36 #[v] w fun e w' => ∃ v', e = .returned v' ∧ w'.ownsRow w.heap.size 5 1 v' t.bts.length (t.bts.map (Value.int .u8)) ∧ Below w.heap.size w w'
/-- The root of slots, as the model makes it. -/
structure RtAt (l : Prl) (x : Int) : Prop where
  c : ∀ (v : Value) (w : World), Prs w v l → Calls Tryd.prog 17 #[v] w fun e w' => e = .returned (.int .i64 x) ∧ Below w.heap.size w w'
set_option maxRecDepth 100000 in
set_option maxHeartbeats 1000000 in
theorem l6Root_of {l : Prl} {t : Tr} (h : ByAt l t) (hok : t.Ok) : RtAt l t.sum := by
  refine ⟨fun v w hv => ?_⟩
  have hB := h.c v w hv
  have hS := fun u w hu => l2Sum_any u t.bts w hu hok.bts (by have := t.len; omega)
  obtain ⟨ad, c, rfl⟩ := hv.shape
  have e1 : sumL t.bts = t.sum := rfl
  rw [e1] at hS
  generalize t.sum = x at *
  generalize t.bts = ys at *
  generalize l.length = n at *
  clear hv h hok e1
  go_enter Tryd.func17, Tryd.ntmps17
  go_wp2_with fail
  refine hB.mono ?_
  rintro e w1 ⟨u, rfl, own1, hb1⟩
  have HI := own_ints own1
  obtain ⟨a1, c1, rfl⟩ := own_shape own1
  clear hB own1
  go_wp2_with fail
  refine (hS _ _ HI).mono ?_
  rintro e w2 ⟨rfl, rfl⟩
  clear hS HI
  go_wp2
  go_ret
  exact ⟨rfl, hb1⟩
set_option maxRecDepth 100000 in
set_option maxHeartbeats 1000000 in
theorem l6Bytes_none : ByAt [] .none := by
  refine ⟨fun v w hv => ?_⟩
  have hT := fun w => l2Bytes_any 9 (.slice none 0 0) [] w (Or.inl ⟨rfl, _, _, rfl⟩) (by simp) (by omega) rfl
  obtain ⟨ad, c, rfl⟩ := hv.shape
  have e1 : tagL 9 [] = Tr.none.bts := rfl
  rw [e1] at hT
  generalize Tr.bts _ = ys at *
  clear hv e1
  go_enter Tryd.func36, Tryd.ntmps36
  go_wp2_with fail
  refine (hT _).mono ?_
  rintro e w2 ⟨u, rfl, own2, hb2⟩
  obtain ⟨a2, c2, rfl⟩ := own_shape own2
  clear hT
  go_wp2
  go_ret
  exact ⟨_, rfl, own2, hb2⟩
set_option maxRecDepth 100000 in
set_option maxHeartbeats 1000000 in
theorem l6Bytes_leaf {k y : Int} (h : (Tr.leaf k y).Ok) : ByAt [(k, y)] (.leaf k y) := by
  refine ⟨fun v w hv => ?_⟩
  have hT := fun u w hu => l2Bytes_any 4 u [k, y] w hu (by simp) (by omega) (Tr.Ok.nums2 h.1 h.2)
  obtain ⟨ad, c, rfl⟩ := hv.shape
  obtain ⟨-, b, off, rfl, hlt, hc⟩ := hv.at (by simp)
  have c0 : w.cell? ⟨b, off, none⟩ = some (.int .i64 k) := by simpa [pAt] using (hc 0 (by simp)).1
  have c1 : w.cell? ⟨b, off + 1, none⟩ = some (.int .i64 y) := by simpa [pAt] using (hc 0 (by simp)).2
  have e1 : tagL 4 [k, y] = (Tr.leaf k y).bts := rfl
  rw [e1] at hT
  generalize Tr.bts _ = ys at *
  have HG : Hid (∀ w', Below w.heap.size w w' → w'.cell? ⟨b, off, none⟩ = some (.int .i64 k) ∧ w'.cell? ⟨b, off + 1, none⟩ = some (.int .i64 y)) := fun w' h => ⟨(h.cell (p := ⟨b, off, none⟩) hlt).trans c0, (h.cell (p := ⟨b, off + 1, none⟩) hlt).trans c1⟩
  clear hv e1 h hc
  have hbr := Below.refl w.heap.size w
  go_enter Tryd.func36, Tryd.ntmps36
  go_wp2
  go_region_held3 (fun w' => w'.cell? ⟨b, off, none⟩ = some (.int .i64 k) ∧ w'.cell? ⟨b, off + 1, none⟩ = some (.int .i64 y))
    (first | exact ⟨c0, c1⟩ | exact HG.out _ hbr | exact HG.out _ hbr.drew | exact HG.out _ (one_new _) | exact HG.out _ (hbr.drew.alloc hbr.drew.size _))
    (first
      | (go_at_call 60; refine (hT _ _ ((two_ints w k y 2).below (Below.refl _ _).drew)).mono ?_; rintro e wt ⟨u, rfl, own2, hbt⟩; obtain ⟨a2, c2, rfl⟩ := own_shape own2; have hbd : Below w.heap.size w (w.alloc (.cells #[.int .i64 k, .int .i64 y] 2)).drew := (one_new _).drew; have own3 := own_mono own2 hbd.size; have hbr : Below w.heap.size w wt := below_after_of hbd hbt))
  go_wp2
  go_ret
  exact ⟨_, rfl, own3, hbr⟩
set_option maxRecDepth 100000 in
set_option maxHeartbeats 1000000 in
theorem l6Bytes_fork {l : Prl} {b : Nat} {L R : Tr} (hs : Sls l) (h2 : 2 ≤ l.length) (hb : FB l b) (r0 : RtAt (sd l b 0) L.sum) (r1 : RtAt (sd l b 1) R.sum) : ByAt l (.fork b L R) := by
  refine ⟨fun v w hv => ?_⟩
  have hF := fun w' h => l6Fork_any v l b w' (hv.below h) hs h2 hb
  have hS := fun s w' h => l6Side_any v l b s w' (hv.below h) hs hb.le
  have hT := fun u w hu => l2Bytes_any 5 u [(b : Int), L.sum, R.sum] w hu (by simp) (by omega) (Tr.Ok.nums3 hb.le L R)
  have e1 : tagL 5 [(b : Int), L.sum, R.sum] = (Tr.fork b L R).bts := rfl
  rw [e1] at hT
  have hn := hs.len
  obtain ⟨ad, c, rfl⟩ := hv.shape
  have R0 := fun a c w h => r0.c (.slice a (sd l b 0).length c) w h
  have R1 := fun a c w h => r1.c (.slice a (sd l b 1).length c) w h
  have S0 := hS 0
  have S1 := hS 1
  generalize L.sum = x at *
  generalize R.sum = y at *
  generalize Tr.bts _ = ys at *
  generalize sd l b 0 = m0 at *
  generalize sd l b 1 = m1 at *
  generalize l.length = n at *
  clear hv e1 hs hS r0 r1 hb
  have d1 : ¬ ((n : Int) = 0) := by omega
  have d2 : ¬ ((n : Int) = 1) := by omega
  have d1' : ((n : Int) == 0) = false := by simpa using d1
  have d2' : ((n : Int) == 1) = false := by simpa using d2
  go_enter Tryd.func36, Tryd.ntmps36
  go_wp2_with fail
  refine (hF _ (Below.refl _ _)).mono ?_
  rintro e w1 ⟨rfl, hb1⟩
  clear hF
  go_wp2_with fail
  refine (S0 _ hb1).mono ?_
  rintro e w2 ⟨a2, c2, rfl, own2, hb2⟩
  have hB2 := below_after_of hb1 hb2
  clear S0 hb1 hb2
  go_wp2_with fail
  refine (R0 _ _ _ (own_prs' own2)).mono ?_
  rintro e w3 ⟨rfl, hb3⟩
  have hB3 := below_after_of hB2 hb3
  clear R0 hB2 hb3 own2
  go_wp2_with fail
  refine (S1 _ hB3).mono ?_
  rintro e w4 ⟨a4, c4, rfl, own4, hb4⟩
  have hB4 := below_after_of hB3 hb4
  clear S1 hB3 hb4
  go_wp2_with fail
  refine (R1 _ _ _ (own_prs' own4)).mono ?_
  rintro e w5 ⟨rfl, hb5⟩
  have hB5 := below_after_of hB4 hb5
  clear R1 hB4 hb5 own4
  go_wp2_with fail
  refine (hT _ _ (three_ints _ _ _ _ _)).mono ?_
  rintro e w6 ⟨u, rfl, own6, hb6⟩
  rw [World.size_alloc] at own6
  have own7 := own_mono own6 (Nat.le_succ_of_le hB5.size)
  have hB6 := below_after_of (hB5.alloc hB5.size _) hb6
  obtain ⟨a6, c6, rfl⟩ := own_shape own7
  clear hT own6 hb6 hB5
  go_wp2
  go_ret
  exact ⟨_, rfl, own7, hB6⟩
theorem l6Bytes_any {l : Prl} {t : Tr} (h : IsTr l t) : Sls l → ByAt l t := by
  induction h using IsTr.ind with
  | none => intro _; exact l6Bytes_none
  | leaf k y => intro hs; exact l6Bytes_leaf ((IsTr.leaf k y).ok hs)
  | fork h2 hb h3 h4 ih1 ih2 =>
    intro hs
    exact l6Bytes_fork hs h2 hb (l6Root_of (ih1 (sd_sls hs _ _)) (h3.ok (sd_sls hs _ _))) (l6Root_of (ih2 (sd_sls hs _ _)) (h4.ok (sd_sls hs _ _)))
theorem l6Root_any {l : Prl} {t : Tr} (h : IsTr l t) (hs : Sls l) : RtAt l t.sum := l6Root_of (l6Bytes_any h hs) (h.ok hs)
end U
end Go.Proofs.YtljbcpkjhnbpeaaDoor

/- Two nodes held against each other, by the model. -/
namespace Go.Proofs.YtljbcpkjhnbpeaaDoor
open Go.RowKit
namespace U
/-- A clash that is handed back. -/
def ClAns (w : World) (f : Bool) (ls bs : List Int) (e : Ending) (w' : World) : Prop :=
  Below w.heap.size w w' ∧ ∃ a1 n1 c1 a2 n2 c2, e = .returned (.agg #[.bool f, .slice a1 n1 c1, .slice a2 n2 c2]) ∧ Rows2 w w' (.slice a1 n1 c1) (.slice a2 n2 c2) f ls bs
theorem Rows2.to3 {w w3 w' : World} {v1 v2 : Value} {f : Bool} {ls bs : List Int} (h : Rows2 w3 w' v1 v2 f ls bs) (hs : w.heap.size + 1 ≤ w3.heap.size) : Rows3 w w' v1 v2 (pick f ls) (pick f bs) := ⟨own_mono h.1 hs, own_mono h.2.1 hs, h.2.2⟩
theorem Rows3.below {w w1 w2 : World} {v1 v2 : Value} {xs ys : List Int} (h : Rows3 w w1 v1 v2 xs ys) (hb : Below w1.heap.size w1 w2) : Rows3 w w2 v1 v2 xs ys := ⟨own_below h.1 hb, own_below h.2.1 hb, h.2.2⟩
theorem clAns_of {w w' : World} {f : Bool} {ls bs : List Int} {e : Ending} (h : Below w.heap.size w w' ∧ ∃ v1 v2, e = .returned (.agg #[.bool f, v1, v2]) ∧ Rows2 w w' v1 v2 f ls bs) : ClAns w f ls bs e w' := by
  obtain ⟨hb, v1, v2, rfl, hr⟩ := h
  obtain ⟨⟨a1, c1, rfl⟩, a2, c2, rfl⟩ := hr.shape
  exact ⟨hb, _, _, _, _, _, _, rfl, hr⟩
set_option maxRecDepth 100000 in
set_option maxHeartbeats 2000000 in
theorem l5Nodes_any (a b c d : Int) (w : World) (ha : 0 ≤ a ∧ a ≤ 65520) (hb : 0 ≤ b ∧ b ≤ 65520) (hc : 0 ≤ c ∧ c ≤ 65520) (hd : 0 ≤ d ∧ d ≤ 65520) :
    Calls Tryd.prog 52 #[.int .i64 a, .int .i64 b, .int .i64 c, .int .i64 d] w fun e w' => ClAns w (l2B (tagL 2 [a, b]) (tagL 2 [c, d])) (tagL 2 [a, b]) (tagL 2 [c, d]) e w' := by
  have h1 := nd_two_bts ha hb
  have h2 := nd_two_bts hc hd
  have l1 := nd_two_len a b
  have l2 := nd_two_len c d
  have hB1 := fun w u h => l2Bytes_any 2 u [a, b] w h (by simp) (by omega) (by simp [sumB_iff, ha, hb])
  have hB2 := fun w u h => l2Bytes_any 2 u [c, d] w h (by simp) (by omega) (by simp [sumB_iff, hc, hd])
  have hC := fun A B v u w hv hu => l2Clash_any A B v u (tagL 2 [a, b]) (tagL 2 [c, d]) w hv hu h1 h2 (by omega) (by omega)
  generalize l2B (tagL 2 [a, b]) (tagL 2 [c, d]) = f at *
  generalize tagL 2 [a, b] = ls at *
  generalize tagL 2 [c, d] = bs at *
  have HL : Hid (ls.length = 5 ∧ bs.length = 5) := ⟨l1, l2⟩
  clear h1 h2 l1 l2 ha hb hc hd
  go_enter Tryd.func52, Tryd.ntmps52
  go_wp2_with fail
  refine (hB1 _ _ (two_ints_at (by simp))).mono ?_
  rintro e w1 ⟨v1, rfl, own1, hb1⟩
  rw [HL.out.1] at own1
  obtain ⟨a1, c1, rfl⟩ := own_shape own1
  have hb1' := below_after_of (one_new (.cells #[.int .i64 a, .int .i64 b] 2)) hb1
  clear hB1 hb1
  go_wp2_with fail
  refine (hB2 _ _ (two_ints_at (by first | rfl | simp))).mono ?_
  rintro e w2 ⟨v2, rfl, own2, hb2⟩
  rw [HL.out.2] at own2
  obtain ⟨a2, c2, rfl⟩ := own_shape own2
  have hb2' := below_after_of (one_new (.cells #[.int .i64 c, .int .i64 d] 2)) hb2
  have own1 := own_below own1 hb2'
  have hb3 := below_after_of hb1' hb2'
  have hsz : w.heap.size + 1 ≤ w2.heap.size := by have := hb3.size; simp at this; omega
  have own1 : w2.ownsRow 0 5 1 (.slice a1 5 c1) ls.length (ls.map (Value.int .u8)) := by rw [HL.out.1]; exact own_mono own1 (Nat.zero_le _)
  have own2 : w2.ownsRow 0 5 1 (.slice a2 5 c2) bs.length (bs.map (Value.int .u8)) := by rw [HL.out.2]; exact own_mono own2 (Nat.zero_le _)
  obtain ⟨q0, q1, q2, f0, f1, f2⟩ := three_cellsV ((hb3.block w.heap.size (by simp)).trans (heap_alloc_new w _))
  have hB3 := below_after hb3
  clear hB2 hb2 hb2' hb1' hb3
  go_wp2_with fail
  refine (hC _ _ _ _ _ own1 own2).mono ?_
  rintro e w4 h4
  obtain ⟨hb4, a3, n3, c3, a4, n4, c4, rfl, hr⟩ := clAns_of h4
  have q0 := (hb4.cell (p := ⟨w.heap.size, 0, none⟩) (by exact hsz)).trans q0
  have q1 := (hb4.cell (p := ⟨w.heap.size, 1, none⟩) (by exact hsz)).trans q1
  have q2 := (hb4.cell (p := ⟨w.heap.size, 2, none⟩) (by exact hsz)).trans q2
  have f0 := (hb4.frozen (p := ⟨w.heap.size, 0, none⟩) (by exact hsz)).trans f0
  have f1 := (hb4.frozen (p := ⟨w.heap.size, 1, none⟩) (by exact hsz)).trans f1
  have f2 := (hb4.frozen (p := ⟨w.heap.size, 2, none⟩) (by exact hsz)).trans f2
  have hB4 := below_after_of hB3 hb4
  have HR : Hid (Rows3 w w4 (.slice a3 n3 c3) (.slice a4 n4 c4) (pick f ls) (pick f bs)) := hr.to3 hsz
  clear h4 hr hb4 hB3 own1 own2 hC
  go_wp2
  exact bodyPost_ret (v := .agg #[.bool f, .slice a3 n3 c3, .slice a4 n4 c4]) (by simp [results, Tryd.results52, go_sem, q0, q1, q2]) rfl ⟨((hB4.setCell (Nat.le_refl _) _).setCell (Nat.le_refl _) _).setCell (Nat.le_refl _) _, _, _, _, _, _, _, rfl, Rows3.rows (((HR.out.set 0 _).set 1 _).set 2 _)⟩
end U
end Go.Proofs.YtljbcpkjhnbpeaaDoor

/- A clash in two new trees of one root, by the model. -/
namespace Go.Proofs.YtljbcpkjhnbpeaaDoor
open Go.RowKit
namespace U
def l8C (l m : Prl) : Int := if slF l = 0 then slF m else slF l
theorem l8C_no {l m : Prl} (h : slF l ≠ 0) : l8C l m = slF l := if_neg h
theorem l8C_ok {l m : Prl} (h : slF l = 0) : l8C l m = slF m := if_pos h
set_option maxRecDepth 100000 in
set_option maxHeartbeats 1000000 in
theorem l8Two_any (v u : Value) (l m : Prl) (w : World) (hv : Prs w v l) (hu : Prs w u m) (hx : l.length ≤ 1048576) (hy : m.length ≤ 1048576) :
    Calls Tryd.prog 16 #[v, u] w fun e w' => e = .returned (.int .i64 (l8C l m)) ∧ Below w.heap.size w w' := by
  have hF1 := l4Fault_any v l w hv (by omega)
  have hF2 := fun w' h => l4Fault_any u m w' (hu.below (w' := w') h) (by omega)
  obtain ⟨a, c, rfl⟩ := hv.shape
  obtain ⟨a', c', rfl⟩ := hu.shape
  by_cases h : slF l = 0
  · rw [l8C_ok h]
    rw [h] at hF1
    generalize slF m = q at *
    generalize l.length = n at *
    generalize m.length = n' at *
    clear hv hu h
    go_enter Tryd.func16, Tryd.ntmps16
    go_wp2_with fail
    refine hF1.mono ?_
    rintro e w1 ⟨rfl, q1, hw1⟩
    have hb1 : Below w.heap.size w w1 := by rw [hw1]; exact below_drewN (Below.refl _ _) q1
    clear hF1 hw1
    go_wp2_with fail
    refine (hF2 _ hb1).mono ?_
    rintro e w2 ⟨rfl, q2, hw2⟩
    have hb2 : Below w.heap.size w w2 := by rw [hw2]; exact below_drewN hb1 q2
    clear hF2 hw2
    go_wp2
    go_ret
    exact ⟨rfl, hb2⟩
  · rw [l8C_no h]
    generalize slF l = q at *
    generalize l.length = n at *
    generalize m.length = n' at *
    have hq : (q != 0) = true := by simpa using h
    clear hv hu h hF2
    go_enter Tryd.func16, Tryd.ntmps16
    go_wp2_with fail
    refine hF1.mono ?_
    rintro e w1 ⟨rfl, q1, hw1⟩
    have hb1 : Below w.heap.size w w1 := by rw [hw1]; exact below_drewN (Below.refl _ _) q1
    clear hF1 hw1
    go_wp2
    go_ret
    exact ⟨rfl, hb1⟩
/-- A clash that is handed back, where there is one. -/
def OkAns (w : World) (o : Ck) (e : Ending) (w' : World) : Prop := ClAns w (opF o) (op1 o) (op2 o) e w'
/-- The clash of two sets of slots, by the model. -/
structure L8At (l m : Prl) (o : Ck) : Prop where
  c : ∀ v u w, Prs w v l → Prs w u m → Calls Tryd.prog 18 #[v, u] w fun e w' => OkAns w o e w'
/-- The box of a clash that is empty. -/
structure R0 (w : World) (g : Nat) : Prop where
  h : w.heap[g]? = some (.cells #[.bool false, .slice none 0 0, .slice none 0 0] 26)
theorem R0.below {w w' : World} {g : Nat} (h : R0 w g) (hb : Below w.heap.size w w') : R0 w' g := ⟨(hb.block g (Array.getElem?_eq_some_iff.1 h.h).1).trans h.h⟩
theorem R0.lt {w : World} {g : Nat} (h : R0 w g) : g < w.heap.size := (Array.getElem?_eq_some_iff.1 h.h).1
theorem R0.new (w : World) : R0 (w.alloc (.cells #[.bool false, .slice none 0 0, .slice none 0 0] 26)) w.heap.size := ⟨heap_alloc_new w _⟩
set_option maxRecDepth 100000 in
set_option maxHeartbeats 2000000 in
theorem l8_hit {l m : Prl} {xs ys : List Int} (hA : ∀ v w, Prs w v l → Calls Tryd.prog 36 #[v] w fun e w' => ∃ v', e = .returned v' ∧ w'.ownsRow w.heap.size 5 1 v' xs.length (xs.map (Value.int .u8)) ∧ Below w.heap.size w w')
    (hB : ∀ v w, Prs w v m → Calls Tryd.prog 36 #[v] w fun e w' => ∃ v', e = .returned v' ∧ w'.ownsRow w.heap.size 5 1 v' ys.length (ys.map (Value.int .u8)) ∧ Below w.heap.size w w') (hxs : Bts xs ∧ xs.length ≤ 200) (hys : Bts ys ∧ ys.length ≤ 200) (hf : l2B xs ys = true) : L8At l m (some (xs, ys)) := by
  refine ⟨fun v u w hv hu => ?_⟩
  have hA := fun w' h => hA v w' (hv.below (w' := w') h)
  have hB := fun w' h => hB u w' (hu.below (w' := w') h)
  have hL := fun A B v u w hv hu => l2Clash_any A B v u xs ys w hv hu hxs.1 hys.1 (by omega) (by omega)
  rw [hf] at hL
  obtain ⟨a, c, rfl⟩ := hv.shape
  obtain ⟨a', c', rfl⟩ := hu.shape
  generalize l.length = n at *
  generalize m.length = n' at *
  clear hv hu hf
  have hr0 := R0.new w
  go_enter Tryd.func18, Tryd.ntmps18
  go_wp2_with fail
  refine (hA _ (one_new _)).mono ?_
  rintro e w1 ⟨v1, rfl, own1, hb1⟩
  have hB1 := below_after_of (one_new _) hb1
  have hr1 := hr0.below hb1
  obtain ⟨a1, c1, rfl⟩ := own_shape own1
  clear hA hb1 hr0
  go_wp2_with fail
  refine (hB _ hB1).mono ?_
  rintro e w2 ⟨v2, rfl, own2, hb2⟩
  have hB2 := below_after_of hB1 hb2
  have hr2 := hr1.below hb2
  have own1 := own_below own1 hb2
  obtain ⟨a2, c2, rfl⟩ := own_shape own2
  clear hB hb2 hr1 hB1
  go_wp2_with fail
  refine (hL _ _ _ _ _ own1 own2).mono ?_
  rintro e w3 ⟨hb3, v3, v3', rfl, hr3⟩
  have hB3 := below_after_of hB2 hb3
  have hR3 := hr2.below hb3
  obtain ⟨⟨a3, c3, rfl⟩, a4, c4, rfl⟩ := hr3.shape
  have HR3 : Hid (Rows2 w2 w3 (.slice a3 (pick true xs).length c3) (.slice a4 (pick true ys).length c4) true xs ys) := hr3
  generalize (pick true xs).length = p at *
  generalize (pick true ys).length = q at *
  have hz := hr2.lt
  have hlt := hR3.lt
  obtain ⟨k0, k1, k2, f0, f1, f2⟩ := three_cellsV hR3.h
  have hNW := one_new (w := w3) (.cells #[.bool true, .slice a3 p c3, .slice a4 q c4] 26)
  obtain ⟨k0', k1', k2', f0', f1', f2'⟩ := three_cellsV (hR3.below hNW).h
  clear hL hb3 hr2 own1 own2 hr3
  go_wp2
  exact bodyPost_ret (v := .agg #[.bool true, .slice a3 p c3, .slice a4 q c4]) (by simp [results, Tryd.results18, go_sem, *]) rfl ⟨(((hB3.setCell (Nat.le_refl _) _).setCell (Nat.le_refl _) _).setCell (Nat.le_refl _) _).alloc (((hB3.setCell (Nat.le_refl _) _).setCell (Nat.le_refl _) _).setCell (Nat.le_refl _) _).size _, _, _, _, _, _, _, rfl, ((((HR3.out.set hz _ _).set hz _ _).set hz _ _).below (one_new _)).under hB2.size⟩
set_option maxRecDepth 100000 in
set_option maxHeartbeats 2000000 in
theorem l8_shortA {l m : Prl} {xs ys : List Int} (hA : ∀ v w, Prs w v l → Calls Tryd.prog 36 #[v] w fun e w' => ∃ v', e = .returned v' ∧ w'.ownsRow w.heap.size 5 1 v' xs.length (xs.map (Value.int .u8)) ∧ Below w.heap.size w w')
    (hB : ∀ v w, Prs w v m → Calls Tryd.prog 36 #[v] w fun e w' => ∃ v', e = .returned v' ∧ w'.ownsRow w.heap.size 5 1 v' ys.length (ys.map (Value.int .u8)) ∧ Below w.heap.size w w') (hxs : Bts xs ∧ xs.length ≤ 200) (hys : Bts ys ∧ ys.length ≤ 200) (hf : l2B xs ys = false) (hn : l.length < 2) : L8At l m none := by
  refine ⟨fun v u w hv hu => ?_⟩
  have hA := fun w' h => hA v w' (hv.below (w' := w') h)
  have hB := fun w' h => hB u w' (hu.below (w' := w') h)
  have hL := fun A B v u w hv hu => l2Clash_any A B v u xs ys w hv hu hxs.1 hys.1 (by omega) (by omega)
  rw [hf] at hL
  have hn2 : (l.length : Int) < 2 := by omega
  obtain ⟨a, c, rfl⟩ := hv.shape
  obtain ⟨a', c', rfl⟩ := hu.shape
  generalize l.length = n at *
  generalize m.length = n' at *
  clear hv hu hf
  have hr0 := R0.new w
  go_enter Tryd.func18, Tryd.ntmps18
  go_wp2_with fail
  refine (hA _ (one_new _)).mono ?_
  rintro e w1 ⟨v1, rfl, own1, hb1⟩
  have hB1 := below_after_of (one_new _) hb1
  have hr1 := hr0.below hb1
  obtain ⟨a1, c1, rfl⟩ := own_shape own1
  clear hA hb1 hr0
  go_wp2_with fail
  refine (hB _ hB1).mono ?_
  rintro e w2 ⟨v2, rfl, own2, hb2⟩
  have hB2 := below_after_of hB1 hb2
  have hr2 := hr1.below hb2
  have own1 := own_below own1 hb2
  obtain ⟨a2, c2, rfl⟩ := own_shape own2
  clear hB hb2 hr1 hB1
  go_wp2_with fail
  refine (hL _ _ _ _ _ own1 own2).mono ?_
  rintro e w3 ⟨hb3, v3, v3', rfl, hr3⟩
  have hB3 := below_after_of hB2 hb3
  have hR3 := hr2.below hb3
  obtain ⟨⟨a3, c3, rfl⟩, a4, c4, rfl⟩ := hr3.shape
  obtain ⟨p, hp⟩ : ∃ p, p = (pick false xs).length := ⟨_, rfl⟩
  obtain ⟨q, hq⟩ : ∃ q, q = (pick false ys).length := ⟨_, rfl⟩
  rw [← hp, ← hq]
  have hz := hr2.lt
  have hlt := hR3.lt
  have hNW := one_new (w := w3) (.cells #[.bool false, .slice a3 p c3, .slice a4 q c4] 26)
  have hRW := hR3.below hNW
  obtain ⟨k0', k1', k2', f0', f1', f2'⟩ := three_cellsV hRW.h
  obtain ⟨k0, k1, k2, f0, f1, f2⟩ := three_cellsV hR3.h
  have hBW := below_after_of hB3 hNW
  clear hL hb3 hr2 own1 own2 hr3 hp hq
  go_wp2
  exact bodyPost_ret (v := .agg #[.bool false, .slice none 0 0, .slice none 0 0]) (by simp [results, Tryd.results18, go_sem, *]) rfl ⟨(((hB3.setCell (Nat.le_refl _) _).setCell (Nat.le_refl _) _).setCell (Nat.le_refl _) _).alloc (((hB3.setCell (Nat.le_refl _) _).setCell (Nat.le_refl _) _).setCell (Nat.le_refl _) _).size _, _, _, _, _, _, _, rfl, Rows2.nil _ _ _ _⟩
set_option maxRecDepth 100000 in
set_option maxHeartbeats 2000000 in
theorem l8_shortB {l m : Prl} {xs ys : List Int} (hA : ∀ v w, Prs w v l → Calls Tryd.prog 36 #[v] w fun e w' => ∃ v', e = .returned v' ∧ w'.ownsRow w.heap.size 5 1 v' xs.length (xs.map (Value.int .u8)) ∧ Below w.heap.size w w')
    (hB : ∀ v w, Prs w v m → Calls Tryd.prog 36 #[v] w fun e w' => ∃ v', e = .returned v' ∧ w'.ownsRow w.heap.size 5 1 v' ys.length (ys.map (Value.int .u8)) ∧ Below w.heap.size w w') (hxs : Bts xs ∧ xs.length ≤ 200) (hys : Bts ys ∧ ys.length ≤ 200) (hf : l2B xs ys = false) (hn1 : 2 ≤ l.length) (hn : m.length < 2) : L8At l m none := by
  refine ⟨fun v u w hv hu => ?_⟩
  have hA := fun w' h => hA v w' (hv.below (w' := w') h)
  have hB := fun w' h => hB u w' (hu.below (w' := w') h)
  have hL := fun A B v u w hv hu => l2Clash_any A B v u xs ys w hv hu hxs.1 hys.1 (by omega) (by omega)
  rw [hf] at hL
  have hn2 : (m.length : Int) < 2 := by omega
  have hn3 : ¬ (l.length : Int) < 2 := by omega
  obtain ⟨a, c, rfl⟩ := hv.shape
  obtain ⟨a', c', rfl⟩ := hu.shape
  generalize l.length = n at *
  generalize m.length = n' at *
  clear hv hu hf
  have hr0 := R0.new w
  go_enter Tryd.func18, Tryd.ntmps18
  go_wp2_with fail
  refine (hA _ (one_new _)).mono ?_
  rintro e w1 ⟨v1, rfl, own1, hb1⟩
  have hB1 := below_after_of (one_new _) hb1
  have hr1 := hr0.below hb1
  obtain ⟨a1, c1, rfl⟩ := own_shape own1
  clear hA hb1 hr0
  go_wp2_with fail
  refine (hB _ hB1).mono ?_
  rintro e w2 ⟨v2, rfl, own2, hb2⟩
  have hB2 := below_after_of hB1 hb2
  have hr2 := hr1.below hb2
  have own1 := own_below own1 hb2
  obtain ⟨a2, c2, rfl⟩ := own_shape own2
  clear hB hb2 hr1 hB1
  go_wp2_with fail
  refine (hL _ _ _ _ _ own1 own2).mono ?_
  rintro e w3 ⟨hb3, v3, v3', rfl, hr3⟩
  have hB3 := below_after_of hB2 hb3
  have hR3 := hr2.below hb3
  obtain ⟨⟨a3, c3, rfl⟩, a4, c4, rfl⟩ := hr3.shape
  obtain ⟨p, hp⟩ : ∃ p, p = (pick false xs).length := ⟨_, rfl⟩
  obtain ⟨q, hq⟩ : ∃ q, q = (pick false ys).length := ⟨_, rfl⟩
  rw [← hp, ← hq]
  have hz := hr2.lt
  have hlt := hR3.lt
  have hNW := one_new (w := w3) (.cells #[.bool false, .slice a3 p c3, .slice a4 q c4] 26)
  have hRW := hR3.below hNW
  obtain ⟨k0', k1', k2', f0', f1', f2'⟩ := three_cellsV hRW.h
  obtain ⟨k0, k1, k2, f0, f1, f2⟩ := three_cellsV hR3.h
  have hBW := below_after_of hB3 hNW
  clear hL hb3 hr2 own1 own2 hr3 hp hq
  go_wp2
  exact bodyPost_ret (v := .agg #[.bool false, .slice none 0 0, .slice none 0 0]) (by simp [results, Tryd.results18, go_sem, *]) rfl ⟨(((hB3.setCell (Nat.le_refl _) _).setCell (Nat.le_refl _) _).setCell (Nat.le_refl _) _).alloc (((hB3.setCell (Nat.le_refl _) _).setCell (Nat.le_refl _) _).setCell (Nat.le_refl _) _).size _, _, _, _, _, _, _, rfl, Rows2.nil _ _ _ _⟩
end U
end Go.Proofs.YtljbcpkjhnbpeaaDoor

/- A clash in the parts of two old trees, by the model. -/
namespace Go.Proofs.YtljbcpkjhnbpeaaDoor
open Go.RowKit
namespace U
structure O8At (l m : Prl) (n : Nat) (f : Int) (o : Ck) : Prop where
  c : ∀ v u w, Prs w v l → Prs w u m → Calls Tryd.prog 31 #[v, u, .int .i64 f, .int .i64 (n : Int)] w fun e w' => OkAns w o e w'
set_option maxRecDepth 100000 in
set_option maxHeartbeats 2000000 in
theorem o8_0 {l m : Prl} {q : Int} (h0 : slF l = 0) (h1 : slF m = 0) (hq : 0 ≤ q ∧ q ≤ 255) : O8At l m 0 q (ckO (ptL l 0 q) (ptL m 0 q)) := by
  refine ⟨fun v u w hv hu => ?_⟩
  have oA := ptL_ok (l := l) h0 0 (q := q) (fun _ => hq)
  have oB := ptL_ok (l := m) h1 0 (q := q) (fun _ => hq)
  have hA := fun w' h => l5There_any v l q w' (hv.below (w' := w') h) h0 hq
  have hB := fun w' h => l5There_any u m q w' (hu.below (w' := w') h) h1 hq
  have hL := fun A B v u w hv hu => l2Clash_any A B v u (ptL l 0 q) (ptL m 0 q) w hv hu oA.1 oB.1 (by omega) (by omega)
  rw [show lfT l q = ptL l 0 q from rfl] at hA
  rw [show lfT m q = ptL m 0 q from rfl] at hB
  have HO : Hid (∀ f, l2B (ptL l 0 q) (ptL m 0 q) = f → opF (ckO (ptL l 0 q) (ptL m 0 q)) = f ∧ pick f (op1 (ckO (ptL l 0 q) (ptL m 0 q))) = pick f (ptL l 0 q) ∧ pick f (op2 (ckO (ptL l 0 q) (ptL m 0 q))) = pick f (ptL m 0 q)) := (fun f hf => by
    cases f
    · rw [ckO_no hf]; exact ⟨rfl, rfl, rfl⟩
    · rw [ckO_yes hf]; exact ⟨rfl, rfl, rfl⟩ : ∀ f, l2B (ptL l 0 q) (ptL m 0 q) = f → _)
  obtain ⟨f, hf⟩ : ∃ f, l2B (ptL l 0 q) (ptL m 0 q) = f := ⟨_, rfl⟩
  have HF : Hid (opF (ckO (ptL l 0 q) (ptL m 0 q)) = f ∧ pick f (op1 (ckO (ptL l 0 q) (ptL m 0 q))) = pick f (ptL l 0 q) ∧ pick f (op2 (ckO (ptL l 0 q) (ptL m 0 q))) = pick f (ptL m 0 q)) := HO.out f hf
  rw [hf] at hL
  generalize ckO (ptL l 0 q) (ptL m 0 q) = o at *
  generalize ptL l 0 q = xs at *
  generalize ptL m 0 q = ys at *
  obtain ⟨a, c, rfl⟩ := hv.shape
  obtain ⟨a', c', rfl⟩ := hu.shape
  generalize l.length = n at *
  generalize m.length = n' at *
  clear hv hu hf HO oA oB
  have hr0 := R0.new w
  go_enter Tryd.func31, Tryd.ntmps31
  go_wp2_with fail
  refine (hA _ (one_new _)).mono ?_
  rintro e w1 ⟨v1, rfl, own1, hb1⟩
  have hB1 := below_after_of (one_new _) hb1
  have hr1 := hr0.below hb1
  obtain ⟨a1, c1, rfl⟩ := own_shape own1
  clear hA hb1 hr0
  go_wp2_with fail
  refine (hB _ hB1).mono ?_
  rintro e w2 ⟨v2, rfl, own2, hb2⟩
  have hB2 := below_after_of hB1 hb2
  have hr2 := hr1.below hb2
  have own1 := own_below own1 hb2
  obtain ⟨a2, c2, rfl⟩ := own_shape own2
  clear hB hb2 hr1 hB1
  go_wp2_with fail
  refine (hL _ _ _ _ _ own1 own2).mono ?_
  rintro e w3 ⟨hb3, v3, v3', rfl, hr3⟩
  have hB3 := below_after_of hB2 hb3
  have hR3 := hr2.below hb3
  obtain ⟨⟨a3, c3, rfl⟩, a4, c4, rfl⟩ := hr3.shape
  have HR3 : Hid (Rows2 w2 w3 (.slice a3 (pick f xs).length c3) (.slice a4 (pick f ys).length c4) f xs ys) := hr3
  generalize (pick f xs).length = p at *
  generalize (pick f ys).length = q at *
  have hz := hr2.lt
  obtain ⟨k0, k1, k2, f0, f1, f2⟩ := three_cellsV hR3.h
  clear hL hb3 hr2 own1 own2 hr3
  go_wp2
  refine bodyPost_ret (v := .agg #[.bool f, .slice a3 p c3, .slice a4 q c4]) (by simp [results, Tryd.results31, go_sem, *]) rfl ?_
  show ClAns w (opF o) (op1 o) (op2 o) _ _
  rw [HF.out.1]
  refine ⟨((hB3.setCell (Nat.le_refl _) _).setCell (Nat.le_refl _) _).setCell (Nat.le_refl _) _, _, _, _, _, _, _, rfl, ?_⟩
  have hh := (((HR3.out.set hz 0 (.bool f)).set hz 1 (.slice a3 p c3)).set hz 2 (.slice a4 q c4)).under (w := w) hB2.size
  unfold Rows2 at hh ⊢
  rw [HF.out.2.1, HF.out.2.2]
  exact hh
set_option maxRecDepth 100000 in
set_option maxHeartbeats 2000000 in
theorem o8_hit_1 {l m : Prl} {f q : Int} (h0 : slF l = 0) (h1 : slF m = 0) (HF : Hid (f = q * 2)) (hq : 0 ≤ f ∧ f ≤ 255) (hf : l2B (ptL l 1 q) (ptL m 1 q) = true) : O8At l m 1 f (some (ptL l 1 q, ptL m 1 q)) := by
  refine ⟨fun v u w hv hu => ?_⟩
  have hs := slF_ok h0
  have ht := slF_ok h1
  have hN1 := fun w' h => l4Node_0 v l f (2 * q) w' (hv.below (w' := w') h) (by have := hs.len; omega) hs.fin (by have := HF.out; show f = 2 * q * 1; omega) (by omega)
  have hN2 := fun w' h => l4Node_0 v l (f + 1) (2 * q + 1) w' (hv.below (w' := w') h) (by have := hs.len; omega) hs.fin (by have := HF.out; show f + 1 = (2 * q + 1) * 1; omega) (by omega)
  have hN3 := fun w' h => l4Node_0 u m f (2 * q) w' (hu.below (w' := w') h) (by have := ht.len; omega) ht.fin (by have := HF.out; show f = 2 * q * 1; omega) (by omega)
  have hN4 := fun w' h => l4Node_0 u m (f + 1) (2 * q + 1) w' (hu.below (w' := w') h) (by have := ht.len; omega) ht.fin (by have := HF.out; show f + 1 = (2 * q + 1) * 1; omega) (by omega)
  have hL := fun w => l5Nodes_any (nd l 0 (2 * q)) (nd l 0 (2 * q + 1)) (nd m 0 (2 * q)) (nd m 0 (2 * q + 1)) w (nd_bd _ _ _) (nd_bd _ _ _) (nd_bd _ _ _) (nd_bd _ _ _)
  rw [show tagL 2 [nd l 0 (2 * q), nd l 0 (2 * q + 1)] = ptL l 1 q from rfl, show tagL 2 [nd m 0 (2 * q), nd m 0 (2 * q + 1)] = ptL m 1 q from rfl, hf] at hL
  generalize ptL l 1 q = xs at *
  generalize ptL m 1 q = ys at *
  generalize nd l 0 (2 * q) = x1 at *
  generalize nd l 0 (2 * q + 1) = x2 at *
  generalize nd m 0 (2 * q) = x3 at *
  generalize nd m 0 (2 * q + 1) = x4 at *
  obtain ⟨a, c, rfl⟩ := hv.shape
  obtain ⟨a', c', rfl⟩ := hu.shape
  generalize l.length = ln at *
  generalize m.length = mn at *
  have hr0 := R0.new w
  clear hv hu hs ht h0 h1
  go_enter Tryd.func31, Tryd.ntmps31
  go_wp2_with fail
  refine (hN1 _ (one_new _)).mono ?_
  rintro e w1 ⟨rfl, hb1⟩
  have hB1 := below_after_of (one_new _) hb1
  have hr1 := hr0.below hb1
  clear hN1 hb1 hr0
  go_wp2_with fail
  refine (hN2 _ hB1).mono ?_
  rintro e w2 ⟨rfl, hb2⟩
  have hB2 := below_after_of hB1 hb2
  have hr2 := hr1.below hb2
  clear hN2 hb2 hr1 hB1
  go_wp2_with fail
  refine (hN3 _ hB2).mono ?_
  rintro e w3 ⟨rfl, hb3⟩
  have hB3 := below_after_of hB2 hb3
  have hr3 := hr2.below hb3
  clear hN3 hb3 hr2 hB2
  go_wp2_with fail
  refine (hN4 _ hB3).mono ?_
  rintro e w4 ⟨rfl, hb4⟩
  have hB4 := below_after_of hB3 hb4
  have hr4 := hr3.below hb4
  clear hN4 hb4 hr3 hB3
  go_wp2_with fail
  refine (hL _).mono ?_
  rintro e w5 ⟨hb5, a5, n5, c5, a6, n6, c6, rfl, hr5⟩
  have hB5 := below_after_of hB4 hb5
  have hR5 := hr4.below hb5
  have hlt4 := hr4.lt
  have HR5 : Hid (Rows2 w4 w5 (.slice a5 n5 c5) (.slice a6 n6 c6) true xs ys) := hr5
  have hlt5 := hR5.lt
  have hNW := one_new (w := w5) (.cells #[.bool true, .slice a5 n5 c5, .slice a6 n6 c6] 26)
  have hRW := hR5.below hNW
  have hCW : (w5.alloc (.cells #[.bool true, .slice a5 n5 c5, .slice a6 n6 c6] 26)).heap[w5.heap.size]? = some (.cells #[.bool true, .slice a5 n5 c5, .slice a6 n6 c6] 26) := heap_alloc_new w5 _
  obtain ⟨k0, k1, k2, f0, f1, f2⟩ := three_cellsV hR5.h
  obtain ⟨k0', k1', k2', f0', f1', f2'⟩ := three_cellsV hRW.h
  have hBW := below_after_of hB5 hNW
  clear hL hb5 hr4 hr5
  go_wp2
  exact bodyPost_ret (v := .agg #[.bool true, .slice a5 n5 c5, .slice a6 n6 c6]) (by simp [results, Tryd.results31, go_sem, *]) rfl ⟨(((hB5.setCell (Nat.le_refl _) _).setCell (Nat.le_refl _) _).setCell (Nat.le_refl _) _).alloc (((hB5.setCell (Nat.le_refl _) _).setCell (Nat.le_refl _) _).setCell (Nat.le_refl _) _).size _, _, _, _, _, _, _, rfl, ((((HR5.out.set hlt4 _ _).set hlt4 _ _).set hlt4 _ _).below (one_new _)).under hB4.size⟩
set_option maxRecDepth 100000 in
set_option maxHeartbeats 2000000 in
theorem o8_miss_1 {l m : Prl} {f q : Int} (h0 : slF l = 0) (h1 : slF m = 0) (HF : Hid (f = q * 2)) (hq : 0 ≤ f ∧ f ≤ 255) (hf : l2B (ptL l 1 q) (ptL m 1 q) = false) (o0 o1 : Ck) (r0 : O8At l m 0 f o0) (r1 : O8At l m 0 (f + 1) o1) : O8At l m 1 f (ckOr o0 o1) := by
  refine ⟨fun v u w hv hu => ?_⟩
  have hs := slF_ok h0
  have ht := slF_ok h1
  have hN1 := fun w' h => l4Node_0 v l f (2 * q) w' (hv.below (w' := w') h) (by have := hs.len; omega) hs.fin (by have := HF.out; show f = 2 * q * 1; omega) (by omega)
  have hN2 := fun w' h => l4Node_0 v l (f + 1) (2 * q + 1) w' (hv.below (w' := w') h) (by have := hs.len; omega) hs.fin (by have := HF.out; show f + 1 = (2 * q + 1) * 1; omega) (by omega)
  have hN3 := fun w' h => l4Node_0 u m f (2 * q) w' (hu.below (w' := w') h) (by have := ht.len; omega) ht.fin (by have := HF.out; show f = 2 * q * 1; omega) (by omega)
  have hN4 := fun w' h => l4Node_0 u m (f + 1) (2 * q + 1) w' (hu.below (w' := w') h) (by have := ht.len; omega) ht.fin (by have := HF.out; show f + 1 = (2 * q + 1) * 1; omega) (by omega)
  have hL := fun w => l5Nodes_any (nd l 0 (2 * q)) (nd l 0 (2 * q + 1)) (nd m 0 (2 * q)) (nd m 0 (2 * q + 1)) w (nd_bd _ _ _) (nd_bd _ _ _) (nd_bd _ _ _) (nd_bd _ _ _)
  rw [show tagL 2 [nd l 0 (2 * q), nd l 0 (2 * q + 1)] = ptL l 1 q from rfl, show tagL 2 [nd m 0 (2 * q), nd m 0 (2 * q + 1)] = ptL m 1 q from rfl, hf] at hL
  generalize ptL l 1 q = xs at *
  generalize ptL m 1 q = ys at *
  generalize nd l 0 (2 * q) = x1 at *
  generalize nd l 0 (2 * q + 1) = x2 at *
  generalize nd m 0 (2 * q) = x3 at *
  generalize nd m 0 (2 * q + 1) = x4 at *
  have hR0 : ∀ w', Below w.heap.size w w' → Calls Tryd.prog 31 #[v, u, .int .i64 f, .int .i64 0] w' fun e w'' => OkAns w' o0 e w'' := fun w' h => r0.c v u w' (hv.below (w' := w') h) (hu.below h)
  have hR1 : ∀ w', Below w.heap.size w w' → Calls Tryd.prog 31 #[v, u, .int .i64 (f + 1), .int .i64 0] w' fun e w'' => OkAns w' o1 e w'' := fun w' h => r1.c v u w' (hv.below (w' := w') h) (hu.below h)
  obtain ⟨a, c, rfl⟩ := hv.shape
  obtain ⟨a', c', rfl⟩ := hu.shape
  generalize l.length = ln at *
  generalize m.length = mn at *
  have hr0 := R0.new w
  clear hv hu hs ht h0 h1
  go_enter Tryd.func31, Tryd.ntmps31
  go_wp2_with fail
  refine (hN1 _ (one_new _)).mono ?_
  rintro e w1 ⟨rfl, hb1⟩
  have hB1 := below_after_of (one_new _) hb1
  have hr1 := hr0.below hb1
  clear hN1 hb1 hr0
  go_wp2_with fail
  refine (hN2 _ hB1).mono ?_
  rintro e w2 ⟨rfl, hb2⟩
  have hB2 := below_after_of hB1 hb2
  have hr2 := hr1.below hb2
  clear hN2 hb2 hr1 hB1
  go_wp2_with fail
  refine (hN3 _ hB2).mono ?_
  rintro e w3 ⟨rfl, hb3⟩
  have hB3 := below_after_of hB2 hb3
  have hr3 := hr2.below hb3
  clear hN3 hb3 hr2 hB2
  go_wp2_with fail
  refine (hN4 _ hB3).mono ?_
  rintro e w4 ⟨rfl, hb4⟩
  have hB4 := below_after_of hB3 hb4
  have hr4 := hr3.below hb4
  clear hN4 hb4 hr3 hB3
  go_wp2_with fail
  refine (hL _).mono ?_
  rintro e w5 ⟨hb5, a5, n5, c5, a6, n6, c6, rfl, hr5⟩
  have hB5 := below_after_of hB4 hb5
  have hR5 := hr4.below hb5
  have hlt4 := hr4.lt
  have HR5 : Hid (Rows2 w4 w5 (.slice a5 n5 c5) (.slice a6 n6 c6) false xs ys) := hr5
  have hlt5 := hR5.lt
  have hNW := one_new (w := w5) (.cells #[.bool false, .slice a5 n5 c5, .slice a6 n6 c6] 26)
  have hRW := hR5.below hNW
  have hCW : (w5.alloc (.cells #[.bool false, .slice a5 n5 c5, .slice a6 n6 c6] 26)).heap[w5.heap.size]? = some (.cells #[.bool false, .slice a5 n5 c5, .slice a6 n6 c6] 26) := heap_alloc_new w5 _
  obtain ⟨k0, k1, k2, f0, f1, f2⟩ := three_cellsV hR5.h
  obtain ⟨k0', k1', k2', f0', f1', f2'⟩ := three_cellsV hRW.h
  have hBW := below_after_of hB5 hNW
  clear hL hb5 hr4 hr5
  go_wp2_with fail
  refine (hR0 _ hBW).mono ?_
  rintro e w7 ⟨hb7, a7, n7, c7, a8, n8, c8, rfl, hr7⟩
  have hB7 := below_after_of hBW hb7
  have hR7 := hRW.below hb7
  have hltW := hRW.lt
  have hC7 := (hb7.block w5.heap.size (by simp)).trans hCW
  have hz5 : w5.heap.size < (w5.alloc (.cells #[.bool false, .slice a5 n5 c5, .slice a6 n6 c6] 26)).heap.size := by simp
  have hlw : w.heap.size < w5.heap.size := hlt5
  obtain ⟨W, hW⟩ : ∃ W, W = w5.alloc (.cells #[.bool false, .slice a5 n5 c5, .slice a6 n6 c6] 26) := ⟨_, rfl⟩
  rw [← hW] at hb7 hr7 hltW hz5
  have hBW' : Below w.heap.size w W := by rw [hW]; exact hBW
  have HR7 : Hid (Rows2 W w7 (.slice a7 n7 c7) (.slice a8 n8 c8) (opF o0) (op1 o0) (op2 o0)) := hr7
  obtain ⟨j0, j1, j2, g0, g1, g2⟩ := three_cellsV hR7.h
  obtain ⟨t0, t1, t2, s0, s1, s2⟩ := three_cellsV hC7
  have hlt7 : w5.heap.size < w7.heap.size := Nat.lt_of_lt_of_le hz5 hb7.size
  clear hR0 hr7 hb7 hW k0 k1 k2 f0 f1 f2 k0' k1' k2' f0' f1' f2' hCW hNW
  rcases o0 with _ | ⟨ls, bs⟩
  · have eo : opF (none : Ck) = false := rfl
    rw [eo]
    have hB8 : Below w.heap.size w (((w7.setCell ⟨w5.heap.size, 0, none⟩ (.bool false)).setCell ⟨w5.heap.size, 1, none⟩ (.slice a7 n7 c7)).setCell ⟨w5.heap.size, 2, none⟩ (.slice a8 n8 c8)) := ((hB7.setCell (by show w.heap.size ≤ w5.heap.size; omega) _).setCell (by show w.heap.size ≤ w5.heap.size; omega) _).setCell (by show w.heap.size ≤ w5.heap.size; omega) _
    have hR8 : R0 (((w7.setCell ⟨w5.heap.size, 0, none⟩ (.bool false)).setCell ⟨w5.heap.size, 1, none⟩ (.slice a7 n7 c7)).setCell ⟨w5.heap.size, 2, none⟩ (.slice a8 n8 c8)) w.heap.size := by
      refine ⟨?_⟩
      rw [heap_setCell_other _ _ _ _ (by show w.heap.size ≠ w5.heap.size; omega), heap_setCell_other _ _ _ _ (by show w.heap.size ≠ w5.heap.size; omega), heap_setCell_other _ _ _ _ (by show w.heap.size ≠ w5.heap.size; omega)]
      exact hR7.h
    go_wp2_with fail
    refine (hR1 _ hB8).mono ?_
    rintro e x7 ⟨hb11, a11, n11, c11, a12, n12, c12, rfl, hr11⟩
    have hB11 := below_after_of hB8 hb11
    have hR11 := hR8.below hb11
    have hlt8 := hR8.lt
    have HR11 : Hid (Rows2 _ x7 (.slice a11 n11 c11) (.slice a12 n12 c12) (opF o1) (op1 o1) (op2 o1)) := hr11
    have HZ8 := hB8.size
    obtain ⟨i0, i1, i2, y0, y1, y2⟩ := three_cellsV hR11.h
    generalize hof : opF o1 = fo at *
    clear hr11 hb11 hR1 j0 j1 j2 g0 g1 g2 t0 t1 t2 s0 s1 s2
    go_wp2
    refine bodyPost_ret (v := .agg #[.bool fo, .slice a11 n11 c11, .slice a12 n12 c12]) (by simp [results, Tryd.results31, go_sem, *]) rfl ?_
    show ClAns w (opF o1) (op1 o1) (op2 o1) _ _
    rw [hof]
    exact ⟨((hB11.setCell (Nat.le_refl _) _).setCell (Nat.le_refl _) _).setCell (Nat.le_refl _) _, _, _, _, _, _, _, rfl, (((HR11.out.set hlt8 _ _).set hlt8 _ _).set hlt8 _ _).under HZ8⟩
  · have eo : opF (some (ls, bs) : Ck) = true := rfl
    rw [eo]
    clear hR1
    have hle : w.heap.size ≤ w5.heap.size := by omega
    go_wp2
    exact bodyPost_ret (v := .agg #[.bool true, .slice a7 n7 c7, .slice a8 n8 c8]) (by simp [results, Tryd.results31, go_sem, *]) rfl ⟨(((((hB7.setCell hle _).setCell hle _).setCell hle _).setCell (Nat.le_refl _) _).setCell (Nat.le_refl _) _).setCell (Nat.le_refl _) _, _, _, _, _, _, _, rfl, ((((((HR7.out.set hz5 _ _).set hz5 _ _).set hz5 _ _).set hltW _ _).set hltW _ _).set hltW _ _).under hBW'.size⟩
set_option maxRecDepth 100000 in
set_option maxHeartbeats 2000000 in
theorem o8_hit_2 {l m : Prl} {f q : Int} (h0 : slF l = 0) (h1 : slF m = 0) (HF : Hid (f = q * 4)) (hq : 0 ≤ f ∧ f ≤ 255) (hf : l2B (ptL l 2 q) (ptL m 2 q) = true) : O8At l m 2 f (some (ptL l 2 q, ptL m 2 q)) := by
  refine ⟨fun v u w hv hu => ?_⟩
  have hs := slF_ok h0
  have ht := slF_ok h1
  have hN1 := fun w' h => l4Node_1 v l f (2 * q) w' (hv.below (w' := w') h) (by have := hs.len; omega) hs.fin (by have := HF.out; show f = 2 * q * 2; omega) (by omega)
  have hN2 := fun w' h => l4Node_1 v l (f + 2) (2 * q + 1) w' (hv.below (w' := w') h) (by have := hs.len; omega) hs.fin (by have := HF.out; show f + 2 = (2 * q + 1) * 2; omega) (by omega)
  have hN3 := fun w' h => l4Node_1 u m f (2 * q) w' (hu.below (w' := w') h) (by have := ht.len; omega) ht.fin (by have := HF.out; show f = 2 * q * 2; omega) (by omega)
  have hN4 := fun w' h => l4Node_1 u m (f + 2) (2 * q + 1) w' (hu.below (w' := w') h) (by have := ht.len; omega) ht.fin (by have := HF.out; show f + 2 = (2 * q + 1) * 2; omega) (by omega)
  have hL := fun w => l5Nodes_any (nd l 1 (2 * q)) (nd l 1 (2 * q + 1)) (nd m 1 (2 * q)) (nd m 1 (2 * q + 1)) w (nd_bd _ _ _) (nd_bd _ _ _) (nd_bd _ _ _) (nd_bd _ _ _)
  rw [show tagL 2 [nd l 1 (2 * q), nd l 1 (2 * q + 1)] = ptL l 2 q from rfl, show tagL 2 [nd m 1 (2 * q), nd m 1 (2 * q + 1)] = ptL m 2 q from rfl, hf] at hL
  generalize ptL l 2 q = xs at *
  generalize ptL m 2 q = ys at *
  generalize nd l 1 (2 * q) = x1 at *
  generalize nd l 1 (2 * q + 1) = x2 at *
  generalize nd m 1 (2 * q) = x3 at *
  generalize nd m 1 (2 * q + 1) = x4 at *
  obtain ⟨a, c, rfl⟩ := hv.shape
  obtain ⟨a', c', rfl⟩ := hu.shape
  generalize l.length = ln at *
  generalize m.length = mn at *
  have hr0 := R0.new w
  clear hv hu hs ht h0 h1
  go_enter Tryd.func31, Tryd.ntmps31
  go_wp2_with fail
  refine (hN1 _ (one_new _)).mono ?_
  rintro e w1 ⟨rfl, hb1⟩
  have hB1 := below_after_of (one_new _) hb1
  have hr1 := hr0.below hb1
  clear hN1 hb1 hr0
  go_wp2_with fail
  refine (hN2 _ hB1).mono ?_
  rintro e w2 ⟨rfl, hb2⟩
  have hB2 := below_after_of hB1 hb2
  have hr2 := hr1.below hb2
  clear hN2 hb2 hr1 hB1
  go_wp2_with fail
  refine (hN3 _ hB2).mono ?_
  rintro e w3 ⟨rfl, hb3⟩
  have hB3 := below_after_of hB2 hb3
  have hr3 := hr2.below hb3
  clear hN3 hb3 hr2 hB2
  go_wp2_with fail
  refine (hN4 _ hB3).mono ?_
  rintro e w4 ⟨rfl, hb4⟩
  have hB4 := below_after_of hB3 hb4
  have hr4 := hr3.below hb4
  clear hN4 hb4 hr3 hB3
  go_wp2_with fail
  refine (hL _).mono ?_
  rintro e w5 ⟨hb5, a5, n5, c5, a6, n6, c6, rfl, hr5⟩
  have hB5 := below_after_of hB4 hb5
  have hR5 := hr4.below hb5
  have hlt4 := hr4.lt
  have HR5 : Hid (Rows2 w4 w5 (.slice a5 n5 c5) (.slice a6 n6 c6) true xs ys) := hr5
  have hlt5 := hR5.lt
  have hNW := one_new (w := w5) (.cells #[.bool true, .slice a5 n5 c5, .slice a6 n6 c6] 26)
  have hRW := hR5.below hNW
  have hCW : (w5.alloc (.cells #[.bool true, .slice a5 n5 c5, .slice a6 n6 c6] 26)).heap[w5.heap.size]? = some (.cells #[.bool true, .slice a5 n5 c5, .slice a6 n6 c6] 26) := heap_alloc_new w5 _
  obtain ⟨k0, k1, k2, f0, f1, f2⟩ := three_cellsV hR5.h
  obtain ⟨k0', k1', k2', f0', f1', f2'⟩ := three_cellsV hRW.h
  have hBW := below_after_of hB5 hNW
  clear hL hb5 hr4 hr5
  go_wp2
  exact bodyPost_ret (v := .agg #[.bool true, .slice a5 n5 c5, .slice a6 n6 c6]) (by simp [results, Tryd.results31, go_sem, *]) rfl ⟨(((hB5.setCell (Nat.le_refl _) _).setCell (Nat.le_refl _) _).setCell (Nat.le_refl _) _).alloc (((hB5.setCell (Nat.le_refl _) _).setCell (Nat.le_refl _) _).setCell (Nat.le_refl _) _).size _, _, _, _, _, _, _, rfl, ((((HR5.out.set hlt4 _ _).set hlt4 _ _).set hlt4 _ _).below (one_new _)).under hB4.size⟩
set_option maxRecDepth 100000 in
set_option maxHeartbeats 2000000 in
theorem o8_miss_2 {l m : Prl} {f q : Int} (h0 : slF l = 0) (h1 : slF m = 0) (HF : Hid (f = q * 4)) (hq : 0 ≤ f ∧ f ≤ 255) (hf : l2B (ptL l 2 q) (ptL m 2 q) = false) (o0 o1 : Ck) (r0 : O8At l m 1 f o0) (r1 : O8At l m 1 (f + 2) o1) : O8At l m 2 f (ckOr o0 o1) := by
  refine ⟨fun v u w hv hu => ?_⟩
  have hs := slF_ok h0
  have ht := slF_ok h1
  have hN1 := fun w' h => l4Node_1 v l f (2 * q) w' (hv.below (w' := w') h) (by have := hs.len; omega) hs.fin (by have := HF.out; show f = 2 * q * 2; omega) (by omega)
  have hN2 := fun w' h => l4Node_1 v l (f + 2) (2 * q + 1) w' (hv.below (w' := w') h) (by have := hs.len; omega) hs.fin (by have := HF.out; show f + 2 = (2 * q + 1) * 2; omega) (by omega)
  have hN3 := fun w' h => l4Node_1 u m f (2 * q) w' (hu.below (w' := w') h) (by have := ht.len; omega) ht.fin (by have := HF.out; show f = 2 * q * 2; omega) (by omega)
  have hN4 := fun w' h => l4Node_1 u m (f + 2) (2 * q + 1) w' (hu.below (w' := w') h) (by have := ht.len; omega) ht.fin (by have := HF.out; show f + 2 = (2 * q + 1) * 2; omega) (by omega)
  have hL := fun w => l5Nodes_any (nd l 1 (2 * q)) (nd l 1 (2 * q + 1)) (nd m 1 (2 * q)) (nd m 1 (2 * q + 1)) w (nd_bd _ _ _) (nd_bd _ _ _) (nd_bd _ _ _) (nd_bd _ _ _)
  rw [show tagL 2 [nd l 1 (2 * q), nd l 1 (2 * q + 1)] = ptL l 2 q from rfl, show tagL 2 [nd m 1 (2 * q), nd m 1 (2 * q + 1)] = ptL m 2 q from rfl, hf] at hL
  generalize ptL l 2 q = xs at *
  generalize ptL m 2 q = ys at *
  generalize nd l 1 (2 * q) = x1 at *
  generalize nd l 1 (2 * q + 1) = x2 at *
  generalize nd m 1 (2 * q) = x3 at *
  generalize nd m 1 (2 * q + 1) = x4 at *
  have hR0 : ∀ w', Below w.heap.size w w' → Calls Tryd.prog 31 #[v, u, .int .i64 f, .int .i64 1] w' fun e w'' => OkAns w' o0 e w'' := fun w' h => r0.c v u w' (hv.below (w' := w') h) (hu.below h)
  have hR1 : ∀ w', Below w.heap.size w w' → Calls Tryd.prog 31 #[v, u, .int .i64 (f + 2), .int .i64 1] w' fun e w'' => OkAns w' o1 e w'' := fun w' h => r1.c v u w' (hv.below (w' := w') h) (hu.below h)
  obtain ⟨a, c, rfl⟩ := hv.shape
  obtain ⟨a', c', rfl⟩ := hu.shape
  generalize l.length = ln at *
  generalize m.length = mn at *
  have hr0 := R0.new w
  clear hv hu hs ht h0 h1
  go_enter Tryd.func31, Tryd.ntmps31
  go_wp2_with fail
  refine (hN1 _ (one_new _)).mono ?_
  rintro e w1 ⟨rfl, hb1⟩
  have hB1 := below_after_of (one_new _) hb1
  have hr1 := hr0.below hb1
  clear hN1 hb1 hr0
  go_wp2_with fail
  refine (hN2 _ hB1).mono ?_
  rintro e w2 ⟨rfl, hb2⟩
  have hB2 := below_after_of hB1 hb2
  have hr2 := hr1.below hb2
  clear hN2 hb2 hr1 hB1
  go_wp2_with fail
  refine (hN3 _ hB2).mono ?_
  rintro e w3 ⟨rfl, hb3⟩
  have hB3 := below_after_of hB2 hb3
  have hr3 := hr2.below hb3
  clear hN3 hb3 hr2 hB2
  go_wp2_with fail
  refine (hN4 _ hB3).mono ?_
  rintro e w4 ⟨rfl, hb4⟩
  have hB4 := below_after_of hB3 hb4
  have hr4 := hr3.below hb4
  clear hN4 hb4 hr3 hB3
  go_wp2_with fail
  refine (hL _).mono ?_
  rintro e w5 ⟨hb5, a5, n5, c5, a6, n6, c6, rfl, hr5⟩
  have hB5 := below_after_of hB4 hb5
  have hR5 := hr4.below hb5
  have hlt4 := hr4.lt
  have HR5 : Hid (Rows2 w4 w5 (.slice a5 n5 c5) (.slice a6 n6 c6) false xs ys) := hr5
  have hlt5 := hR5.lt
  have hNW := one_new (w := w5) (.cells #[.bool false, .slice a5 n5 c5, .slice a6 n6 c6] 26)
  have hRW := hR5.below hNW
  have hCW : (w5.alloc (.cells #[.bool false, .slice a5 n5 c5, .slice a6 n6 c6] 26)).heap[w5.heap.size]? = some (.cells #[.bool false, .slice a5 n5 c5, .slice a6 n6 c6] 26) := heap_alloc_new w5 _
  obtain ⟨k0, k1, k2, f0, f1, f2⟩ := three_cellsV hR5.h
  obtain ⟨k0', k1', k2', f0', f1', f2'⟩ := three_cellsV hRW.h
  have hBW := below_after_of hB5 hNW
  clear hL hb5 hr4 hr5
  go_wp2_with fail
  refine (hR0 _ hBW).mono ?_
  rintro e w7 ⟨hb7, a7, n7, c7, a8, n8, c8, rfl, hr7⟩
  have hB7 := below_after_of hBW hb7
  have hR7 := hRW.below hb7
  have hltW := hRW.lt
  have hC7 := (hb7.block w5.heap.size (by simp)).trans hCW
  have hz5 : w5.heap.size < (w5.alloc (.cells #[.bool false, .slice a5 n5 c5, .slice a6 n6 c6] 26)).heap.size := by simp
  have hlw : w.heap.size < w5.heap.size := hlt5
  obtain ⟨W, hW⟩ : ∃ W, W = w5.alloc (.cells #[.bool false, .slice a5 n5 c5, .slice a6 n6 c6] 26) := ⟨_, rfl⟩
  rw [← hW] at hb7 hr7 hltW hz5
  have hBW' : Below w.heap.size w W := by rw [hW]; exact hBW
  have HR7 : Hid (Rows2 W w7 (.slice a7 n7 c7) (.slice a8 n8 c8) (opF o0) (op1 o0) (op2 o0)) := hr7
  obtain ⟨j0, j1, j2, g0, g1, g2⟩ := three_cellsV hR7.h
  obtain ⟨t0, t1, t2, s0, s1, s2⟩ := three_cellsV hC7
  have hlt7 : w5.heap.size < w7.heap.size := Nat.lt_of_lt_of_le hz5 hb7.size
  clear hR0 hr7 hb7 hW k0 k1 k2 f0 f1 f2 k0' k1' k2' f0' f1' f2' hCW hNW
  rcases o0 with _ | ⟨ls, bs⟩
  · have eo : opF (none : Ck) = false := rfl
    rw [eo]
    have hB8 : Below w.heap.size w (((w7.setCell ⟨w5.heap.size, 0, none⟩ (.bool false)).setCell ⟨w5.heap.size, 1, none⟩ (.slice a7 n7 c7)).setCell ⟨w5.heap.size, 2, none⟩ (.slice a8 n8 c8)) := ((hB7.setCell (by show w.heap.size ≤ w5.heap.size; omega) _).setCell (by show w.heap.size ≤ w5.heap.size; omega) _).setCell (by show w.heap.size ≤ w5.heap.size; omega) _
    have hR8 : R0 (((w7.setCell ⟨w5.heap.size, 0, none⟩ (.bool false)).setCell ⟨w5.heap.size, 1, none⟩ (.slice a7 n7 c7)).setCell ⟨w5.heap.size, 2, none⟩ (.slice a8 n8 c8)) w.heap.size := by
      refine ⟨?_⟩
      rw [heap_setCell_other _ _ _ _ (by show w.heap.size ≠ w5.heap.size; omega), heap_setCell_other _ _ _ _ (by show w.heap.size ≠ w5.heap.size; omega), heap_setCell_other _ _ _ _ (by show w.heap.size ≠ w5.heap.size; omega)]
      exact hR7.h
    go_wp2_with fail
    refine (hR1 _ hB8).mono ?_
    rintro e x7 ⟨hb11, a11, n11, c11, a12, n12, c12, rfl, hr11⟩
    have hB11 := below_after_of hB8 hb11
    have hR11 := hR8.below hb11
    have hlt8 := hR8.lt
    have HR11 : Hid (Rows2 _ x7 (.slice a11 n11 c11) (.slice a12 n12 c12) (opF o1) (op1 o1) (op2 o1)) := hr11
    have HZ8 := hB8.size
    obtain ⟨i0, i1, i2, y0, y1, y2⟩ := three_cellsV hR11.h
    generalize hof : opF o1 = fo at *
    clear hr11 hb11 hR1 j0 j1 j2 g0 g1 g2 t0 t1 t2 s0 s1 s2
    go_wp2
    refine bodyPost_ret (v := .agg #[.bool fo, .slice a11 n11 c11, .slice a12 n12 c12]) (by simp [results, Tryd.results31, go_sem, *]) rfl ?_
    show ClAns w (opF o1) (op1 o1) (op2 o1) _ _
    rw [hof]
    exact ⟨((hB11.setCell (Nat.le_refl _) _).setCell (Nat.le_refl _) _).setCell (Nat.le_refl _) _, _, _, _, _, _, _, rfl, (((HR11.out.set hlt8 _ _).set hlt8 _ _).set hlt8 _ _).under HZ8⟩
  · have eo : opF (some (ls, bs) : Ck) = true := rfl
    rw [eo]
    clear hR1
    have hle : w.heap.size ≤ w5.heap.size := by omega
    go_wp2
    exact bodyPost_ret (v := .agg #[.bool true, .slice a7 n7 c7, .slice a8 n8 c8]) (by simp [results, Tryd.results31, go_sem, *]) rfl ⟨(((((hB7.setCell hle _).setCell hle _).setCell hle _).setCell (Nat.le_refl _) _).setCell (Nat.le_refl _) _).setCell (Nat.le_refl _) _, _, _, _, _, _, _, rfl, ((((((HR7.out.set hz5 _ _).set hz5 _ _).set hz5 _ _).set hltW _ _).set hltW _ _).set hltW _ _).under hBW'.size⟩
set_option maxRecDepth 100000 in
set_option maxHeartbeats 2000000 in
theorem o8_hit_3 {l m : Prl} {f q : Int} (h0 : slF l = 0) (h1 : slF m = 0) (HF : Hid (f = q * 8)) (hq : 0 ≤ f ∧ f ≤ 255) (hf : l2B (ptL l 3 q) (ptL m 3 q) = true) : O8At l m 3 f (some (ptL l 3 q, ptL m 3 q)) := by
  refine ⟨fun v u w hv hu => ?_⟩
  have hs := slF_ok h0
  have ht := slF_ok h1
  have hN1 := fun w' h => l4Node_2 v l f (2 * q) w' (hv.below (w' := w') h) (by have := hs.len; omega) hs.fin (by have := HF.out; show f = 2 * q * 4; omega) (by omega)
  have hN2 := fun w' h => l4Node_2 v l (f + 4) (2 * q + 1) w' (hv.below (w' := w') h) (by have := hs.len; omega) hs.fin (by have := HF.out; show f + 4 = (2 * q + 1) * 4; omega) (by omega)
  have hN3 := fun w' h => l4Node_2 u m f (2 * q) w' (hu.below (w' := w') h) (by have := ht.len; omega) ht.fin (by have := HF.out; show f = 2 * q * 4; omega) (by omega)
  have hN4 := fun w' h => l4Node_2 u m (f + 4) (2 * q + 1) w' (hu.below (w' := w') h) (by have := ht.len; omega) ht.fin (by have := HF.out; show f + 4 = (2 * q + 1) * 4; omega) (by omega)
  have hL := fun w => l5Nodes_any (nd l 2 (2 * q)) (nd l 2 (2 * q + 1)) (nd m 2 (2 * q)) (nd m 2 (2 * q + 1)) w (nd_bd _ _ _) (nd_bd _ _ _) (nd_bd _ _ _) (nd_bd _ _ _)
  rw [show tagL 2 [nd l 2 (2 * q), nd l 2 (2 * q + 1)] = ptL l 3 q from rfl, show tagL 2 [nd m 2 (2 * q), nd m 2 (2 * q + 1)] = ptL m 3 q from rfl, hf] at hL
  generalize ptL l 3 q = xs at *
  generalize ptL m 3 q = ys at *
  generalize nd l 2 (2 * q) = x1 at *
  generalize nd l 2 (2 * q + 1) = x2 at *
  generalize nd m 2 (2 * q) = x3 at *
  generalize nd m 2 (2 * q + 1) = x4 at *
  obtain ⟨a, c, rfl⟩ := hv.shape
  obtain ⟨a', c', rfl⟩ := hu.shape
  generalize l.length = ln at *
  generalize m.length = mn at *
  have hr0 := R0.new w
  clear hv hu hs ht h0 h1
  go_enter Tryd.func31, Tryd.ntmps31
  go_wp2_with fail
  refine (hN1 _ (one_new _)).mono ?_
  rintro e w1 ⟨rfl, hb1⟩
  have hB1 := below_after_of (one_new _) hb1
  have hr1 := hr0.below hb1
  clear hN1 hb1 hr0
  go_wp2_with fail
  refine (hN2 _ hB1).mono ?_
  rintro e w2 ⟨rfl, hb2⟩
  have hB2 := below_after_of hB1 hb2
  have hr2 := hr1.below hb2
  clear hN2 hb2 hr1 hB1
  go_wp2_with fail
  refine (hN3 _ hB2).mono ?_
  rintro e w3 ⟨rfl, hb3⟩
  have hB3 := below_after_of hB2 hb3
  have hr3 := hr2.below hb3
  clear hN3 hb3 hr2 hB2
  go_wp2_with fail
  refine (hN4 _ hB3).mono ?_
  rintro e w4 ⟨rfl, hb4⟩
  have hB4 := below_after_of hB3 hb4
  have hr4 := hr3.below hb4
  clear hN4 hb4 hr3 hB3
  go_wp2_with fail
  refine (hL _).mono ?_
  rintro e w5 ⟨hb5, a5, n5, c5, a6, n6, c6, rfl, hr5⟩
  have hB5 := below_after_of hB4 hb5
  have hR5 := hr4.below hb5
  have hlt4 := hr4.lt
  have HR5 : Hid (Rows2 w4 w5 (.slice a5 n5 c5) (.slice a6 n6 c6) true xs ys) := hr5
  have hlt5 := hR5.lt
  have hNW := one_new (w := w5) (.cells #[.bool true, .slice a5 n5 c5, .slice a6 n6 c6] 26)
  have hRW := hR5.below hNW
  have hCW : (w5.alloc (.cells #[.bool true, .slice a5 n5 c5, .slice a6 n6 c6] 26)).heap[w5.heap.size]? = some (.cells #[.bool true, .slice a5 n5 c5, .slice a6 n6 c6] 26) := heap_alloc_new w5 _
  obtain ⟨k0, k1, k2, f0, f1, f2⟩ := three_cellsV hR5.h
  obtain ⟨k0', k1', k2', f0', f1', f2'⟩ := three_cellsV hRW.h
  have hBW := below_after_of hB5 hNW
  clear hL hb5 hr4 hr5
  go_wp2
  exact bodyPost_ret (v := .agg #[.bool true, .slice a5 n5 c5, .slice a6 n6 c6]) (by simp [results, Tryd.results31, go_sem, *]) rfl ⟨(((hB5.setCell (Nat.le_refl _) _).setCell (Nat.le_refl _) _).setCell (Nat.le_refl _) _).alloc (((hB5.setCell (Nat.le_refl _) _).setCell (Nat.le_refl _) _).setCell (Nat.le_refl _) _).size _, _, _, _, _, _, _, rfl, ((((HR5.out.set hlt4 _ _).set hlt4 _ _).set hlt4 _ _).below (one_new _)).under hB4.size⟩
set_option maxRecDepth 100000 in
set_option maxHeartbeats 2000000 in
theorem o8_miss_3 {l m : Prl} {f q : Int} (h0 : slF l = 0) (h1 : slF m = 0) (HF : Hid (f = q * 8)) (hq : 0 ≤ f ∧ f ≤ 255) (hf : l2B (ptL l 3 q) (ptL m 3 q) = false) (o0 o1 : Ck) (r0 : O8At l m 2 f o0) (r1 : O8At l m 2 (f + 4) o1) : O8At l m 3 f (ckOr o0 o1) := by
  refine ⟨fun v u w hv hu => ?_⟩
  have hs := slF_ok h0
  have ht := slF_ok h1
  have hN1 := fun w' h => l4Node_2 v l f (2 * q) w' (hv.below (w' := w') h) (by have := hs.len; omega) hs.fin (by have := HF.out; show f = 2 * q * 4; omega) (by omega)
  have hN2 := fun w' h => l4Node_2 v l (f + 4) (2 * q + 1) w' (hv.below (w' := w') h) (by have := hs.len; omega) hs.fin (by have := HF.out; show f + 4 = (2 * q + 1) * 4; omega) (by omega)
  have hN3 := fun w' h => l4Node_2 u m f (2 * q) w' (hu.below (w' := w') h) (by have := ht.len; omega) ht.fin (by have := HF.out; show f = 2 * q * 4; omega) (by omega)
  have hN4 := fun w' h => l4Node_2 u m (f + 4) (2 * q + 1) w' (hu.below (w' := w') h) (by have := ht.len; omega) ht.fin (by have := HF.out; show f + 4 = (2 * q + 1) * 4; omega) (by omega)
  have hL := fun w => l5Nodes_any (nd l 2 (2 * q)) (nd l 2 (2 * q + 1)) (nd m 2 (2 * q)) (nd m 2 (2 * q + 1)) w (nd_bd _ _ _) (nd_bd _ _ _) (nd_bd _ _ _) (nd_bd _ _ _)
  rw [show tagL 2 [nd l 2 (2 * q), nd l 2 (2 * q + 1)] = ptL l 3 q from rfl, show tagL 2 [nd m 2 (2 * q), nd m 2 (2 * q + 1)] = ptL m 3 q from rfl, hf] at hL
  generalize ptL l 3 q = xs at *
  generalize ptL m 3 q = ys at *
  generalize nd l 2 (2 * q) = x1 at *
  generalize nd l 2 (2 * q + 1) = x2 at *
  generalize nd m 2 (2 * q) = x3 at *
  generalize nd m 2 (2 * q + 1) = x4 at *
  have hR0 : ∀ w', Below w.heap.size w w' → Calls Tryd.prog 31 #[v, u, .int .i64 f, .int .i64 2] w' fun e w'' => OkAns w' o0 e w'' := fun w' h => r0.c v u w' (hv.below (w' := w') h) (hu.below h)
  have hR1 : ∀ w', Below w.heap.size w w' → Calls Tryd.prog 31 #[v, u, .int .i64 (f + 4), .int .i64 2] w' fun e w'' => OkAns w' o1 e w'' := fun w' h => r1.c v u w' (hv.below (w' := w') h) (hu.below h)
  obtain ⟨a, c, rfl⟩ := hv.shape
  obtain ⟨a', c', rfl⟩ := hu.shape
  generalize l.length = ln at *
  generalize m.length = mn at *
  have hr0 := R0.new w
  clear hv hu hs ht h0 h1
  go_enter Tryd.func31, Tryd.ntmps31
  go_wp2_with fail
  refine (hN1 _ (one_new _)).mono ?_
  rintro e w1 ⟨rfl, hb1⟩
  have hB1 := below_after_of (one_new _) hb1
  have hr1 := hr0.below hb1
  clear hN1 hb1 hr0
  go_wp2_with fail
  refine (hN2 _ hB1).mono ?_
  rintro e w2 ⟨rfl, hb2⟩
  have hB2 := below_after_of hB1 hb2
  have hr2 := hr1.below hb2
  clear hN2 hb2 hr1 hB1
  go_wp2_with fail
  refine (hN3 _ hB2).mono ?_
  rintro e w3 ⟨rfl, hb3⟩
  have hB3 := below_after_of hB2 hb3
  have hr3 := hr2.below hb3
  clear hN3 hb3 hr2 hB2
  go_wp2_with fail
  refine (hN4 _ hB3).mono ?_
  rintro e w4 ⟨rfl, hb4⟩
  have hB4 := below_after_of hB3 hb4
  have hr4 := hr3.below hb4
  clear hN4 hb4 hr3 hB3
  go_wp2_with fail
  refine (hL _).mono ?_
  rintro e w5 ⟨hb5, a5, n5, c5, a6, n6, c6, rfl, hr5⟩
  have hB5 := below_after_of hB4 hb5
  have hR5 := hr4.below hb5
  have hlt4 := hr4.lt
  have HR5 : Hid (Rows2 w4 w5 (.slice a5 n5 c5) (.slice a6 n6 c6) false xs ys) := hr5
  have hlt5 := hR5.lt
  have hNW := one_new (w := w5) (.cells #[.bool false, .slice a5 n5 c5, .slice a6 n6 c6] 26)
  have hRW := hR5.below hNW
  have hCW : (w5.alloc (.cells #[.bool false, .slice a5 n5 c5, .slice a6 n6 c6] 26)).heap[w5.heap.size]? = some (.cells #[.bool false, .slice a5 n5 c5, .slice a6 n6 c6] 26) := heap_alloc_new w5 _
  obtain ⟨k0, k1, k2, f0, f1, f2⟩ := three_cellsV hR5.h
  obtain ⟨k0', k1', k2', f0', f1', f2'⟩ := three_cellsV hRW.h
  have hBW := below_after_of hB5 hNW
  clear hL hb5 hr4 hr5
  go_wp2_with fail
  refine (hR0 _ hBW).mono ?_
  rintro e w7 ⟨hb7, a7, n7, c7, a8, n8, c8, rfl, hr7⟩
  have hB7 := below_after_of hBW hb7
  have hR7 := hRW.below hb7
  have hltW := hRW.lt
  have hC7 := (hb7.block w5.heap.size (by simp)).trans hCW
  have hz5 : w5.heap.size < (w5.alloc (.cells #[.bool false, .slice a5 n5 c5, .slice a6 n6 c6] 26)).heap.size := by simp
  have hlw : w.heap.size < w5.heap.size := hlt5
  obtain ⟨W, hW⟩ : ∃ W, W = w5.alloc (.cells #[.bool false, .slice a5 n5 c5, .slice a6 n6 c6] 26) := ⟨_, rfl⟩
  rw [← hW] at hb7 hr7 hltW hz5
  have hBW' : Below w.heap.size w W := by rw [hW]; exact hBW
  have HR7 : Hid (Rows2 W w7 (.slice a7 n7 c7) (.slice a8 n8 c8) (opF o0) (op1 o0) (op2 o0)) := hr7
  obtain ⟨j0, j1, j2, g0, g1, g2⟩ := three_cellsV hR7.h
  obtain ⟨t0, t1, t2, s0, s1, s2⟩ := three_cellsV hC7
  have hlt7 : w5.heap.size < w7.heap.size := Nat.lt_of_lt_of_le hz5 hb7.size
  clear hR0 hr7 hb7 hW k0 k1 k2 f0 f1 f2 k0' k1' k2' f0' f1' f2' hCW hNW
  rcases o0 with _ | ⟨ls, bs⟩
  · have eo : opF (none : Ck) = false := rfl
    rw [eo]
    have hB8 : Below w.heap.size w (((w7.setCell ⟨w5.heap.size, 0, none⟩ (.bool false)).setCell ⟨w5.heap.size, 1, none⟩ (.slice a7 n7 c7)).setCell ⟨w5.heap.size, 2, none⟩ (.slice a8 n8 c8)) := ((hB7.setCell (by show w.heap.size ≤ w5.heap.size; omega) _).setCell (by show w.heap.size ≤ w5.heap.size; omega) _).setCell (by show w.heap.size ≤ w5.heap.size; omega) _
    have hR8 : R0 (((w7.setCell ⟨w5.heap.size, 0, none⟩ (.bool false)).setCell ⟨w5.heap.size, 1, none⟩ (.slice a7 n7 c7)).setCell ⟨w5.heap.size, 2, none⟩ (.slice a8 n8 c8)) w.heap.size := by
      refine ⟨?_⟩
      rw [heap_setCell_other _ _ _ _ (by show w.heap.size ≠ w5.heap.size; omega), heap_setCell_other _ _ _ _ (by show w.heap.size ≠ w5.heap.size; omega), heap_setCell_other _ _ _ _ (by show w.heap.size ≠ w5.heap.size; omega)]
      exact hR7.h
    go_wp2_with fail
    refine (hR1 _ hB8).mono ?_
    rintro e x7 ⟨hb11, a11, n11, c11, a12, n12, c12, rfl, hr11⟩
    have hB11 := below_after_of hB8 hb11
    have hR11 := hR8.below hb11
    have hlt8 := hR8.lt
    have HR11 : Hid (Rows2 _ x7 (.slice a11 n11 c11) (.slice a12 n12 c12) (opF o1) (op1 o1) (op2 o1)) := hr11
    have HZ8 := hB8.size
    obtain ⟨i0, i1, i2, y0, y1, y2⟩ := three_cellsV hR11.h
    generalize hof : opF o1 = fo at *
    clear hr11 hb11 hR1 j0 j1 j2 g0 g1 g2 t0 t1 t2 s0 s1 s2
    go_wp2
    refine bodyPost_ret (v := .agg #[.bool fo, .slice a11 n11 c11, .slice a12 n12 c12]) (by simp [results, Tryd.results31, go_sem, *]) rfl ?_
    show ClAns w (opF o1) (op1 o1) (op2 o1) _ _
    rw [hof]
    exact ⟨((hB11.setCell (Nat.le_refl _) _).setCell (Nat.le_refl _) _).setCell (Nat.le_refl _) _, _, _, _, _, _, _, rfl, (((HR11.out.set hlt8 _ _).set hlt8 _ _).set hlt8 _ _).under HZ8⟩
  · have eo : opF (some (ls, bs) : Ck) = true := rfl
    rw [eo]
    clear hR1
    have hle : w.heap.size ≤ w5.heap.size := by omega
    go_wp2
    exact bodyPost_ret (v := .agg #[.bool true, .slice a7 n7 c7, .slice a8 n8 c8]) (by simp [results, Tryd.results31, go_sem, *]) rfl ⟨(((((hB7.setCell hle _).setCell hle _).setCell hle _).setCell (Nat.le_refl _) _).setCell (Nat.le_refl _) _).setCell (Nat.le_refl _) _, _, _, _, _, _, _, rfl, ((((((HR7.out.set hz5 _ _).set hz5 _ _).set hz5 _ _).set hltW _ _).set hltW _ _).set hltW _ _).under hBW'.size⟩
set_option maxRecDepth 100000 in
set_option maxHeartbeats 2000000 in
theorem o8_hit_4 {l m : Prl} {f q : Int} (h0 : slF l = 0) (h1 : slF m = 0) (HF : Hid (f = q * 16)) (hq : 0 ≤ f ∧ f ≤ 255) (hf : l2B (ptL l 4 q) (ptL m 4 q) = true) : O8At l m 4 f (some (ptL l 4 q, ptL m 4 q)) := by
  refine ⟨fun v u w hv hu => ?_⟩
  have hs := slF_ok h0
  have ht := slF_ok h1
  have hN1 := fun w' h => l4Node_3 v l f (2 * q) w' (hv.below (w' := w') h) (by have := hs.len; omega) hs.fin (by have := HF.out; show f = 2 * q * 8; omega) (by omega)
  have hN2 := fun w' h => l4Node_3 v l (f + 8) (2 * q + 1) w' (hv.below (w' := w') h) (by have := hs.len; omega) hs.fin (by have := HF.out; show f + 8 = (2 * q + 1) * 8; omega) (by omega)
  have hN3 := fun w' h => l4Node_3 u m f (2 * q) w' (hu.below (w' := w') h) (by have := ht.len; omega) ht.fin (by have := HF.out; show f = 2 * q * 8; omega) (by omega)
  have hN4 := fun w' h => l4Node_3 u m (f + 8) (2 * q + 1) w' (hu.below (w' := w') h) (by have := ht.len; omega) ht.fin (by have := HF.out; show f + 8 = (2 * q + 1) * 8; omega) (by omega)
  have hL := fun w => l5Nodes_any (nd l 3 (2 * q)) (nd l 3 (2 * q + 1)) (nd m 3 (2 * q)) (nd m 3 (2 * q + 1)) w (nd_bd _ _ _) (nd_bd _ _ _) (nd_bd _ _ _) (nd_bd _ _ _)
  rw [show tagL 2 [nd l 3 (2 * q), nd l 3 (2 * q + 1)] = ptL l 4 q from rfl, show tagL 2 [nd m 3 (2 * q), nd m 3 (2 * q + 1)] = ptL m 4 q from rfl, hf] at hL
  generalize ptL l 4 q = xs at *
  generalize ptL m 4 q = ys at *
  generalize nd l 3 (2 * q) = x1 at *
  generalize nd l 3 (2 * q + 1) = x2 at *
  generalize nd m 3 (2 * q) = x3 at *
  generalize nd m 3 (2 * q + 1) = x4 at *
  obtain ⟨a, c, rfl⟩ := hv.shape
  obtain ⟨a', c', rfl⟩ := hu.shape
  generalize l.length = ln at *
  generalize m.length = mn at *
  have hr0 := R0.new w
  clear hv hu hs ht h0 h1
  go_enter Tryd.func31, Tryd.ntmps31
  go_wp2_with fail
  refine (hN1 _ (one_new _)).mono ?_
  rintro e w1 ⟨rfl, hb1⟩
  have hB1 := below_after_of (one_new _) hb1
  have hr1 := hr0.below hb1
  clear hN1 hb1 hr0
  go_wp2_with fail
  refine (hN2 _ hB1).mono ?_
  rintro e w2 ⟨rfl, hb2⟩
  have hB2 := below_after_of hB1 hb2
  have hr2 := hr1.below hb2
  clear hN2 hb2 hr1 hB1
  go_wp2_with fail
  refine (hN3 _ hB2).mono ?_
  rintro e w3 ⟨rfl, hb3⟩
  have hB3 := below_after_of hB2 hb3
  have hr3 := hr2.below hb3
  clear hN3 hb3 hr2 hB2
  go_wp2_with fail
  refine (hN4 _ hB3).mono ?_
  rintro e w4 ⟨rfl, hb4⟩
  have hB4 := below_after_of hB3 hb4
  have hr4 := hr3.below hb4
  clear hN4 hb4 hr3 hB3
  go_wp2_with fail
  refine (hL _).mono ?_
  rintro e w5 ⟨hb5, a5, n5, c5, a6, n6, c6, rfl, hr5⟩
  have hB5 := below_after_of hB4 hb5
  have hR5 := hr4.below hb5
  have hlt4 := hr4.lt
  have HR5 : Hid (Rows2 w4 w5 (.slice a5 n5 c5) (.slice a6 n6 c6) true xs ys) := hr5
  have hlt5 := hR5.lt
  have hNW := one_new (w := w5) (.cells #[.bool true, .slice a5 n5 c5, .slice a6 n6 c6] 26)
  have hRW := hR5.below hNW
  have hCW : (w5.alloc (.cells #[.bool true, .slice a5 n5 c5, .slice a6 n6 c6] 26)).heap[w5.heap.size]? = some (.cells #[.bool true, .slice a5 n5 c5, .slice a6 n6 c6] 26) := heap_alloc_new w5 _
  obtain ⟨k0, k1, k2, f0, f1, f2⟩ := three_cellsV hR5.h
  obtain ⟨k0', k1', k2', f0', f1', f2'⟩ := three_cellsV hRW.h
  have hBW := below_after_of hB5 hNW
  clear hL hb5 hr4 hr5
  go_wp2
  exact bodyPost_ret (v := .agg #[.bool true, .slice a5 n5 c5, .slice a6 n6 c6]) (by simp [results, Tryd.results31, go_sem, *]) rfl ⟨(((hB5.setCell (Nat.le_refl _) _).setCell (Nat.le_refl _) _).setCell (Nat.le_refl _) _).alloc (((hB5.setCell (Nat.le_refl _) _).setCell (Nat.le_refl _) _).setCell (Nat.le_refl _) _).size _, _, _, _, _, _, _, rfl, ((((HR5.out.set hlt4 _ _).set hlt4 _ _).set hlt4 _ _).below (one_new _)).under hB4.size⟩
set_option maxRecDepth 100000 in
set_option maxHeartbeats 2000000 in
theorem o8_miss_4 {l m : Prl} {f q : Int} (h0 : slF l = 0) (h1 : slF m = 0) (HF : Hid (f = q * 16)) (hq : 0 ≤ f ∧ f ≤ 255) (hf : l2B (ptL l 4 q) (ptL m 4 q) = false) (o0 o1 : Ck) (r0 : O8At l m 3 f o0) (r1 : O8At l m 3 (f + 8) o1) : O8At l m 4 f (ckOr o0 o1) := by
  refine ⟨fun v u w hv hu => ?_⟩
  have hs := slF_ok h0
  have ht := slF_ok h1
  have hN1 := fun w' h => l4Node_3 v l f (2 * q) w' (hv.below (w' := w') h) (by have := hs.len; omega) hs.fin (by have := HF.out; show f = 2 * q * 8; omega) (by omega)
  have hN2 := fun w' h => l4Node_3 v l (f + 8) (2 * q + 1) w' (hv.below (w' := w') h) (by have := hs.len; omega) hs.fin (by have := HF.out; show f + 8 = (2 * q + 1) * 8; omega) (by omega)
  have hN3 := fun w' h => l4Node_3 u m f (2 * q) w' (hu.below (w' := w') h) (by have := ht.len; omega) ht.fin (by have := HF.out; show f = 2 * q * 8; omega) (by omega)
  have hN4 := fun w' h => l4Node_3 u m (f + 8) (2 * q + 1) w' (hu.below (w' := w') h) (by have := ht.len; omega) ht.fin (by have := HF.out; show f + 8 = (2 * q + 1) * 8; omega) (by omega)
  have hL := fun w => l5Nodes_any (nd l 3 (2 * q)) (nd l 3 (2 * q + 1)) (nd m 3 (2 * q)) (nd m 3 (2 * q + 1)) w (nd_bd _ _ _) (nd_bd _ _ _) (nd_bd _ _ _) (nd_bd _ _ _)
  rw [show tagL 2 [nd l 3 (2 * q), nd l 3 (2 * q + 1)] = ptL l 4 q from rfl, show tagL 2 [nd m 3 (2 * q), nd m 3 (2 * q + 1)] = ptL m 4 q from rfl, hf] at hL
  generalize ptL l 4 q = xs at *
  generalize ptL m 4 q = ys at *
  generalize nd l 3 (2 * q) = x1 at *
  generalize nd l 3 (2 * q + 1) = x2 at *
  generalize nd m 3 (2 * q) = x3 at *
  generalize nd m 3 (2 * q + 1) = x4 at *
  have hR0 : ∀ w', Below w.heap.size w w' → Calls Tryd.prog 31 #[v, u, .int .i64 f, .int .i64 3] w' fun e w'' => OkAns w' o0 e w'' := fun w' h => r0.c v u w' (hv.below (w' := w') h) (hu.below h)
  have hR1 : ∀ w', Below w.heap.size w w' → Calls Tryd.prog 31 #[v, u, .int .i64 (f + 8), .int .i64 3] w' fun e w'' => OkAns w' o1 e w'' := fun w' h => r1.c v u w' (hv.below (w' := w') h) (hu.below h)
  obtain ⟨a, c, rfl⟩ := hv.shape
  obtain ⟨a', c', rfl⟩ := hu.shape
  generalize l.length = ln at *
  generalize m.length = mn at *
  have hr0 := R0.new w
  clear hv hu hs ht h0 h1
  go_enter Tryd.func31, Tryd.ntmps31
  go_wp2_with fail
  refine (hN1 _ (one_new _)).mono ?_
  rintro e w1 ⟨rfl, hb1⟩
  have hB1 := below_after_of (one_new _) hb1
  have hr1 := hr0.below hb1
  clear hN1 hb1 hr0
  go_wp2_with fail
  refine (hN2 _ hB1).mono ?_
  rintro e w2 ⟨rfl, hb2⟩
  have hB2 := below_after_of hB1 hb2
  have hr2 := hr1.below hb2
  clear hN2 hb2 hr1 hB1
  go_wp2_with fail
  refine (hN3 _ hB2).mono ?_
  rintro e w3 ⟨rfl, hb3⟩
  have hB3 := below_after_of hB2 hb3
  have hr3 := hr2.below hb3
  clear hN3 hb3 hr2 hB2
  go_wp2_with fail
  refine (hN4 _ hB3).mono ?_
  rintro e w4 ⟨rfl, hb4⟩
  have hB4 := below_after_of hB3 hb4
  have hr4 := hr3.below hb4
  clear hN4 hb4 hr3 hB3
  go_wp2_with fail
  refine (hL _).mono ?_
  rintro e w5 ⟨hb5, a5, n5, c5, a6, n6, c6, rfl, hr5⟩
  have hB5 := below_after_of hB4 hb5
  have hR5 := hr4.below hb5
  have hlt4 := hr4.lt
  have HR5 : Hid (Rows2 w4 w5 (.slice a5 n5 c5) (.slice a6 n6 c6) false xs ys) := hr5
  have hlt5 := hR5.lt
  have hNW := one_new (w := w5) (.cells #[.bool false, .slice a5 n5 c5, .slice a6 n6 c6] 26)
  have hRW := hR5.below hNW
  have hCW : (w5.alloc (.cells #[.bool false, .slice a5 n5 c5, .slice a6 n6 c6] 26)).heap[w5.heap.size]? = some (.cells #[.bool false, .slice a5 n5 c5, .slice a6 n6 c6] 26) := heap_alloc_new w5 _
  obtain ⟨k0, k1, k2, f0, f1, f2⟩ := three_cellsV hR5.h
  obtain ⟨k0', k1', k2', f0', f1', f2'⟩ := three_cellsV hRW.h
  have hBW := below_after_of hB5 hNW
  clear hL hb5 hr4 hr5
  go_wp2_with fail
  refine (hR0 _ hBW).mono ?_
  rintro e w7 ⟨hb7, a7, n7, c7, a8, n8, c8, rfl, hr7⟩
  have hB7 := below_after_of hBW hb7
  have hR7 := hRW.below hb7
  have hltW := hRW.lt
  have hC7 := (hb7.block w5.heap.size (by simp)).trans hCW
  have hz5 : w5.heap.size < (w5.alloc (.cells #[.bool false, .slice a5 n5 c5, .slice a6 n6 c6] 26)).heap.size := by simp
  have hlw : w.heap.size < w5.heap.size := hlt5
  obtain ⟨W, hW⟩ : ∃ W, W = w5.alloc (.cells #[.bool false, .slice a5 n5 c5, .slice a6 n6 c6] 26) := ⟨_, rfl⟩
  rw [← hW] at hb7 hr7 hltW hz5
  have hBW' : Below w.heap.size w W := by rw [hW]; exact hBW
  have HR7 : Hid (Rows2 W w7 (.slice a7 n7 c7) (.slice a8 n8 c8) (opF o0) (op1 o0) (op2 o0)) := hr7
  obtain ⟨j0, j1, j2, g0, g1, g2⟩ := three_cellsV hR7.h
  obtain ⟨t0, t1, t2, s0, s1, s2⟩ := three_cellsV hC7
  have hlt7 : w5.heap.size < w7.heap.size := Nat.lt_of_lt_of_le hz5 hb7.size
  clear hR0 hr7 hb7 hW k0 k1 k2 f0 f1 f2 k0' k1' k2' f0' f1' f2' hCW hNW
  rcases o0 with _ | ⟨ls, bs⟩
  · have eo : opF (none : Ck) = false := rfl
    rw [eo]
    have hB8 : Below w.heap.size w (((w7.setCell ⟨w5.heap.size, 0, none⟩ (.bool false)).setCell ⟨w5.heap.size, 1, none⟩ (.slice a7 n7 c7)).setCell ⟨w5.heap.size, 2, none⟩ (.slice a8 n8 c8)) := ((hB7.setCell (by show w.heap.size ≤ w5.heap.size; omega) _).setCell (by show w.heap.size ≤ w5.heap.size; omega) _).setCell (by show w.heap.size ≤ w5.heap.size; omega) _
    have hR8 : R0 (((w7.setCell ⟨w5.heap.size, 0, none⟩ (.bool false)).setCell ⟨w5.heap.size, 1, none⟩ (.slice a7 n7 c7)).setCell ⟨w5.heap.size, 2, none⟩ (.slice a8 n8 c8)) w.heap.size := by
      refine ⟨?_⟩
      rw [heap_setCell_other _ _ _ _ (by show w.heap.size ≠ w5.heap.size; omega), heap_setCell_other _ _ _ _ (by show w.heap.size ≠ w5.heap.size; omega), heap_setCell_other _ _ _ _ (by show w.heap.size ≠ w5.heap.size; omega)]
      exact hR7.h
    go_wp2_with fail
    refine (hR1 _ hB8).mono ?_
    rintro e x7 ⟨hb11, a11, n11, c11, a12, n12, c12, rfl, hr11⟩
    have hB11 := below_after_of hB8 hb11
    have hR11 := hR8.below hb11
    have hlt8 := hR8.lt
    have HR11 : Hid (Rows2 _ x7 (.slice a11 n11 c11) (.slice a12 n12 c12) (opF o1) (op1 o1) (op2 o1)) := hr11
    have HZ8 := hB8.size
    obtain ⟨i0, i1, i2, y0, y1, y2⟩ := three_cellsV hR11.h
    generalize hof : opF o1 = fo at *
    clear hr11 hb11 hR1 j0 j1 j2 g0 g1 g2 t0 t1 t2 s0 s1 s2
    go_wp2
    refine bodyPost_ret (v := .agg #[.bool fo, .slice a11 n11 c11, .slice a12 n12 c12]) (by simp [results, Tryd.results31, go_sem, *]) rfl ?_
    show ClAns w (opF o1) (op1 o1) (op2 o1) _ _
    rw [hof]
    exact ⟨((hB11.setCell (Nat.le_refl _) _).setCell (Nat.le_refl _) _).setCell (Nat.le_refl _) _, _, _, _, _, _, _, rfl, (((HR11.out.set hlt8 _ _).set hlt8 _ _).set hlt8 _ _).under HZ8⟩
  · have eo : opF (some (ls, bs) : Ck) = true := rfl
    rw [eo]
    clear hR1
    have hle : w.heap.size ≤ w5.heap.size := by omega
    go_wp2
    exact bodyPost_ret (v := .agg #[.bool true, .slice a7 n7 c7, .slice a8 n8 c8]) (by simp [results, Tryd.results31, go_sem, *]) rfl ⟨(((((hB7.setCell hle _).setCell hle _).setCell hle _).setCell (Nat.le_refl _) _).setCell (Nat.le_refl _) _).setCell (Nat.le_refl _) _, _, _, _, _, _, _, rfl, ((((((HR7.out.set hz5 _ _).set hz5 _ _).set hz5 _ _).set hltW _ _).set hltW _ _).set hltW _ _).under hBW'.size⟩
end U
end Go.Proofs.YtljbcpkjhnbpeaaDoor

/- A clash in the parts of two old trees, by the model: more levels. -/
namespace Go.Proofs.YtljbcpkjhnbpeaaDoor
open Go.RowKit
namespace U
set_option maxRecDepth 100000 in
set_option maxHeartbeats 2000000 in
theorem o8_hit_5 {l m : Prl} {f q : Int} (h0 : slF l = 0) (h1 : slF m = 0) (HF : Hid (f = q * 32)) (hq : 0 ≤ f ∧ f ≤ 255) (hf : l2B (ptL l 5 q) (ptL m 5 q) = true) : O8At l m 5 f (some (ptL l 5 q, ptL m 5 q)) := by
  refine ⟨fun v u w hv hu => ?_⟩
  have hs := slF_ok h0
  have ht := slF_ok h1
  have hN1 := fun w' h => l4Node_4 v l f (2 * q) w' (hv.below (w' := w') h) (by have := hs.len; omega) hs.fin (by have := HF.out; show f = 2 * q * 16; omega) (by omega)
  have hN2 := fun w' h => l4Node_4 v l (f + 16) (2 * q + 1) w' (hv.below (w' := w') h) (by have := hs.len; omega) hs.fin (by have := HF.out; show f + 16 = (2 * q + 1) * 16; omega) (by omega)
  have hN3 := fun w' h => l4Node_4 u m f (2 * q) w' (hu.below (w' := w') h) (by have := ht.len; omega) ht.fin (by have := HF.out; show f = 2 * q * 16; omega) (by omega)
  have hN4 := fun w' h => l4Node_4 u m (f + 16) (2 * q + 1) w' (hu.below (w' := w') h) (by have := ht.len; omega) ht.fin (by have := HF.out; show f + 16 = (2 * q + 1) * 16; omega) (by omega)
  have hL := fun w => l5Nodes_any (nd l 4 (2 * q)) (nd l 4 (2 * q + 1)) (nd m 4 (2 * q)) (nd m 4 (2 * q + 1)) w (nd_bd _ _ _) (nd_bd _ _ _) (nd_bd _ _ _) (nd_bd _ _ _)
  rw [show tagL 2 [nd l 4 (2 * q), nd l 4 (2 * q + 1)] = ptL l 5 q from rfl, show tagL 2 [nd m 4 (2 * q), nd m 4 (2 * q + 1)] = ptL m 5 q from rfl, hf] at hL
  generalize ptL l 5 q = xs at *
  generalize ptL m 5 q = ys at *
  generalize nd l 4 (2 * q) = x1 at *
  generalize nd l 4 (2 * q + 1) = x2 at *
  generalize nd m 4 (2 * q) = x3 at *
  generalize nd m 4 (2 * q + 1) = x4 at *
  obtain ⟨a, c, rfl⟩ := hv.shape
  obtain ⟨a', c', rfl⟩ := hu.shape
  generalize l.length = ln at *
  generalize m.length = mn at *
  have hr0 := R0.new w
  clear hv hu hs ht h0 h1
  go_enter Tryd.func31, Tryd.ntmps31
  go_wp2_with fail
  refine (hN1 _ (one_new _)).mono ?_
  rintro e w1 ⟨rfl, hb1⟩
  have hB1 := below_after_of (one_new _) hb1
  have hr1 := hr0.below hb1
  clear hN1 hb1 hr0
  go_wp2_with fail
  refine (hN2 _ hB1).mono ?_
  rintro e w2 ⟨rfl, hb2⟩
  have hB2 := below_after_of hB1 hb2
  have hr2 := hr1.below hb2
  clear hN2 hb2 hr1 hB1
  go_wp2_with fail
  refine (hN3 _ hB2).mono ?_
  rintro e w3 ⟨rfl, hb3⟩
  have hB3 := below_after_of hB2 hb3
  have hr3 := hr2.below hb3
  clear hN3 hb3 hr2 hB2
  go_wp2_with fail
  refine (hN4 _ hB3).mono ?_
  rintro e w4 ⟨rfl, hb4⟩
  have hB4 := below_after_of hB3 hb4
  have hr4 := hr3.below hb4
  clear hN4 hb4 hr3 hB3
  go_wp2_with fail
  refine (hL _).mono ?_
  rintro e w5 ⟨hb5, a5, n5, c5, a6, n6, c6, rfl, hr5⟩
  have hB5 := below_after_of hB4 hb5
  have hR5 := hr4.below hb5
  have hlt4 := hr4.lt
  have HR5 : Hid (Rows2 w4 w5 (.slice a5 n5 c5) (.slice a6 n6 c6) true xs ys) := hr5
  have hlt5 := hR5.lt
  have hNW := one_new (w := w5) (.cells #[.bool true, .slice a5 n5 c5, .slice a6 n6 c6] 26)
  have hRW := hR5.below hNW
  have hCW : (w5.alloc (.cells #[.bool true, .slice a5 n5 c5, .slice a6 n6 c6] 26)).heap[w5.heap.size]? = some (.cells #[.bool true, .slice a5 n5 c5, .slice a6 n6 c6] 26) := heap_alloc_new w5 _
  obtain ⟨k0, k1, k2, f0, f1, f2⟩ := three_cellsV hR5.h
  obtain ⟨k0', k1', k2', f0', f1', f2'⟩ := three_cellsV hRW.h
  have hBW := below_after_of hB5 hNW
  clear hL hb5 hr4 hr5
  go_wp2
  exact bodyPost_ret (v := .agg #[.bool true, .slice a5 n5 c5, .slice a6 n6 c6]) (by simp [results, Tryd.results31, go_sem, *]) rfl ⟨(((hB5.setCell (Nat.le_refl _) _).setCell (Nat.le_refl _) _).setCell (Nat.le_refl _) _).alloc (((hB5.setCell (Nat.le_refl _) _).setCell (Nat.le_refl _) _).setCell (Nat.le_refl _) _).size _, _, _, _, _, _, _, rfl, ((((HR5.out.set hlt4 _ _).set hlt4 _ _).set hlt4 _ _).below (one_new _)).under hB4.size⟩
set_option maxRecDepth 100000 in
set_option maxHeartbeats 2000000 in
theorem o8_miss_5 {l m : Prl} {f q : Int} (h0 : slF l = 0) (h1 : slF m = 0) (HF : Hid (f = q * 32)) (hq : 0 ≤ f ∧ f ≤ 255) (hf : l2B (ptL l 5 q) (ptL m 5 q) = false) (o0 o1 : Ck) (r0 : O8At l m 4 f o0) (r1 : O8At l m 4 (f + 16) o1) : O8At l m 5 f (ckOr o0 o1) := by
  refine ⟨fun v u w hv hu => ?_⟩
  have hs := slF_ok h0
  have ht := slF_ok h1
  have hN1 := fun w' h => l4Node_4 v l f (2 * q) w' (hv.below (w' := w') h) (by have := hs.len; omega) hs.fin (by have := HF.out; show f = 2 * q * 16; omega) (by omega)
  have hN2 := fun w' h => l4Node_4 v l (f + 16) (2 * q + 1) w' (hv.below (w' := w') h) (by have := hs.len; omega) hs.fin (by have := HF.out; show f + 16 = (2 * q + 1) * 16; omega) (by omega)
  have hN3 := fun w' h => l4Node_4 u m f (2 * q) w' (hu.below (w' := w') h) (by have := ht.len; omega) ht.fin (by have := HF.out; show f = 2 * q * 16; omega) (by omega)
  have hN4 := fun w' h => l4Node_4 u m (f + 16) (2 * q + 1) w' (hu.below (w' := w') h) (by have := ht.len; omega) ht.fin (by have := HF.out; show f + 16 = (2 * q + 1) * 16; omega) (by omega)
  have hL := fun w => l5Nodes_any (nd l 4 (2 * q)) (nd l 4 (2 * q + 1)) (nd m 4 (2 * q)) (nd m 4 (2 * q + 1)) w (nd_bd _ _ _) (nd_bd _ _ _) (nd_bd _ _ _) (nd_bd _ _ _)
  rw [show tagL 2 [nd l 4 (2 * q), nd l 4 (2 * q + 1)] = ptL l 5 q from rfl, show tagL 2 [nd m 4 (2 * q), nd m 4 (2 * q + 1)] = ptL m 5 q from rfl, hf] at hL
  generalize ptL l 5 q = xs at *
  generalize ptL m 5 q = ys at *
  generalize nd l 4 (2 * q) = x1 at *
  generalize nd l 4 (2 * q + 1) = x2 at *
  generalize nd m 4 (2 * q) = x3 at *
  generalize nd m 4 (2 * q + 1) = x4 at *
  have hR0 : ∀ w', Below w.heap.size w w' → Calls Tryd.prog 31 #[v, u, .int .i64 f, .int .i64 4] w' fun e w'' => OkAns w' o0 e w'' := fun w' h => r0.c v u w' (hv.below (w' := w') h) (hu.below h)
  have hR1 : ∀ w', Below w.heap.size w w' → Calls Tryd.prog 31 #[v, u, .int .i64 (f + 16), .int .i64 4] w' fun e w'' => OkAns w' o1 e w'' := fun w' h => r1.c v u w' (hv.below (w' := w') h) (hu.below h)
  obtain ⟨a, c, rfl⟩ := hv.shape
  obtain ⟨a', c', rfl⟩ := hu.shape
  generalize l.length = ln at *
  generalize m.length = mn at *
  have hr0 := R0.new w
  clear hv hu hs ht h0 h1
  go_enter Tryd.func31, Tryd.ntmps31
  go_wp2_with fail
  refine (hN1 _ (one_new _)).mono ?_
  rintro e w1 ⟨rfl, hb1⟩
  have hB1 := below_after_of (one_new _) hb1
  have hr1 := hr0.below hb1
  clear hN1 hb1 hr0
  go_wp2_with fail
  refine (hN2 _ hB1).mono ?_
  rintro e w2 ⟨rfl, hb2⟩
  have hB2 := below_after_of hB1 hb2
  have hr2 := hr1.below hb2
  clear hN2 hb2 hr1 hB1
  go_wp2_with fail
  refine (hN3 _ hB2).mono ?_
  rintro e w3 ⟨rfl, hb3⟩
  have hB3 := below_after_of hB2 hb3
  have hr3 := hr2.below hb3
  clear hN3 hb3 hr2 hB2
  go_wp2_with fail
  refine (hN4 _ hB3).mono ?_
  rintro e w4 ⟨rfl, hb4⟩
  have hB4 := below_after_of hB3 hb4
  have hr4 := hr3.below hb4
  clear hN4 hb4 hr3 hB3
  go_wp2_with fail
  refine (hL _).mono ?_
  rintro e w5 ⟨hb5, a5, n5, c5, a6, n6, c6, rfl, hr5⟩
  have hB5 := below_after_of hB4 hb5
  have hR5 := hr4.below hb5
  have hlt4 := hr4.lt
  have HR5 : Hid (Rows2 w4 w5 (.slice a5 n5 c5) (.slice a6 n6 c6) false xs ys) := hr5
  have hlt5 := hR5.lt
  have hNW := one_new (w := w5) (.cells #[.bool false, .slice a5 n5 c5, .slice a6 n6 c6] 26)
  have hRW := hR5.below hNW
  have hCW : (w5.alloc (.cells #[.bool false, .slice a5 n5 c5, .slice a6 n6 c6] 26)).heap[w5.heap.size]? = some (.cells #[.bool false, .slice a5 n5 c5, .slice a6 n6 c6] 26) := heap_alloc_new w5 _
  obtain ⟨k0, k1, k2, f0, f1, f2⟩ := three_cellsV hR5.h
  obtain ⟨k0', k1', k2', f0', f1', f2'⟩ := three_cellsV hRW.h
  have hBW := below_after_of hB5 hNW
  clear hL hb5 hr4 hr5
  go_wp2_with fail
  refine (hR0 _ hBW).mono ?_
  rintro e w7 ⟨hb7, a7, n7, c7, a8, n8, c8, rfl, hr7⟩
  have hB7 := below_after_of hBW hb7
  have hR7 := hRW.below hb7
  have hltW := hRW.lt
  have hC7 := (hb7.block w5.heap.size (by simp)).trans hCW
  have hz5 : w5.heap.size < (w5.alloc (.cells #[.bool false, .slice a5 n5 c5, .slice a6 n6 c6] 26)).heap.size := by simp
  have hlw : w.heap.size < w5.heap.size := hlt5
  obtain ⟨W, hW⟩ : ∃ W, W = w5.alloc (.cells #[.bool false, .slice a5 n5 c5, .slice a6 n6 c6] 26) := ⟨_, rfl⟩
  rw [← hW] at hb7 hr7 hltW hz5
  have hBW' : Below w.heap.size w W := by rw [hW]; exact hBW
  have HR7 : Hid (Rows2 W w7 (.slice a7 n7 c7) (.slice a8 n8 c8) (opF o0) (op1 o0) (op2 o0)) := hr7
  obtain ⟨j0, j1, j2, g0, g1, g2⟩ := three_cellsV hR7.h
  obtain ⟨t0, t1, t2, s0, s1, s2⟩ := three_cellsV hC7
  have hlt7 : w5.heap.size < w7.heap.size := Nat.lt_of_lt_of_le hz5 hb7.size
  clear hR0 hr7 hb7 hW k0 k1 k2 f0 f1 f2 k0' k1' k2' f0' f1' f2' hCW hNW
  rcases o0 with _ | ⟨ls, bs⟩
  · have eo : opF (none : Ck) = false := rfl
    rw [eo]
    have hB8 : Below w.heap.size w (((w7.setCell ⟨w5.heap.size, 0, none⟩ (.bool false)).setCell ⟨w5.heap.size, 1, none⟩ (.slice a7 n7 c7)).setCell ⟨w5.heap.size, 2, none⟩ (.slice a8 n8 c8)) := ((hB7.setCell (by show w.heap.size ≤ w5.heap.size; omega) _).setCell (by show w.heap.size ≤ w5.heap.size; omega) _).setCell (by show w.heap.size ≤ w5.heap.size; omega) _
    have hR8 : R0 (((w7.setCell ⟨w5.heap.size, 0, none⟩ (.bool false)).setCell ⟨w5.heap.size, 1, none⟩ (.slice a7 n7 c7)).setCell ⟨w5.heap.size, 2, none⟩ (.slice a8 n8 c8)) w.heap.size := by
      refine ⟨?_⟩
      rw [heap_setCell_other _ _ _ _ (by show w.heap.size ≠ w5.heap.size; omega), heap_setCell_other _ _ _ _ (by show w.heap.size ≠ w5.heap.size; omega), heap_setCell_other _ _ _ _ (by show w.heap.size ≠ w5.heap.size; omega)]
      exact hR7.h
    go_wp2_with fail
    refine (hR1 _ hB8).mono ?_
    rintro e x7 ⟨hb11, a11, n11, c11, a12, n12, c12, rfl, hr11⟩
    have hB11 := below_after_of hB8 hb11
    have hR11 := hR8.below hb11
    have hlt8 := hR8.lt
    have HR11 : Hid (Rows2 _ x7 (.slice a11 n11 c11) (.slice a12 n12 c12) (opF o1) (op1 o1) (op2 o1)) := hr11
    have HZ8 := hB8.size
    obtain ⟨i0, i1, i2, y0, y1, y2⟩ := three_cellsV hR11.h
    generalize hof : opF o1 = fo at *
    clear hr11 hb11 hR1 j0 j1 j2 g0 g1 g2 t0 t1 t2 s0 s1 s2
    go_wp2
    refine bodyPost_ret (v := .agg #[.bool fo, .slice a11 n11 c11, .slice a12 n12 c12]) (by simp [results, Tryd.results31, go_sem, *]) rfl ?_
    show ClAns w (opF o1) (op1 o1) (op2 o1) _ _
    rw [hof]
    exact ⟨((hB11.setCell (Nat.le_refl _) _).setCell (Nat.le_refl _) _).setCell (Nat.le_refl _) _, _, _, _, _, _, _, rfl, (((HR11.out.set hlt8 _ _).set hlt8 _ _).set hlt8 _ _).under HZ8⟩
  · have eo : opF (some (ls, bs) : Ck) = true := rfl
    rw [eo]
    clear hR1
    have hle : w.heap.size ≤ w5.heap.size := by omega
    go_wp2
    exact bodyPost_ret (v := .agg #[.bool true, .slice a7 n7 c7, .slice a8 n8 c8]) (by simp [results, Tryd.results31, go_sem, *]) rfl ⟨(((((hB7.setCell hle _).setCell hle _).setCell hle _).setCell (Nat.le_refl _) _).setCell (Nat.le_refl _) _).setCell (Nat.le_refl _) _, _, _, _, _, _, _, rfl, ((((((HR7.out.set hz5 _ _).set hz5 _ _).set hz5 _ _).set hltW _ _).set hltW _ _).set hltW _ _).under hBW'.size⟩
set_option maxRecDepth 100000 in
set_option maxHeartbeats 2000000 in
theorem o8_hit_6 {l m : Prl} {f q : Int} (h0 : slF l = 0) (h1 : slF m = 0) (HF : Hid (f = q * 64)) (hq : 0 ≤ f ∧ f ≤ 255) (hf : l2B (ptL l 6 q) (ptL m 6 q) = true) : O8At l m 6 f (some (ptL l 6 q, ptL m 6 q)) := by
  refine ⟨fun v u w hv hu => ?_⟩
  have hs := slF_ok h0
  have ht := slF_ok h1
  have hN1 := fun w' h => l4Node_5 v l f (2 * q) w' (hv.below (w' := w') h) (by have := hs.len; omega) hs.fin (by have := HF.out; show f = 2 * q * 32; omega) (by omega)
  have hN2 := fun w' h => l4Node_5 v l (f + 32) (2 * q + 1) w' (hv.below (w' := w') h) (by have := hs.len; omega) hs.fin (by have := HF.out; show f + 32 = (2 * q + 1) * 32; omega) (by omega)
  have hN3 := fun w' h => l4Node_5 u m f (2 * q) w' (hu.below (w' := w') h) (by have := ht.len; omega) ht.fin (by have := HF.out; show f = 2 * q * 32; omega) (by omega)
  have hN4 := fun w' h => l4Node_5 u m (f + 32) (2 * q + 1) w' (hu.below (w' := w') h) (by have := ht.len; omega) ht.fin (by have := HF.out; show f + 32 = (2 * q + 1) * 32; omega) (by omega)
  have hL := fun w => l5Nodes_any (nd l 5 (2 * q)) (nd l 5 (2 * q + 1)) (nd m 5 (2 * q)) (nd m 5 (2 * q + 1)) w (nd_bd _ _ _) (nd_bd _ _ _) (nd_bd _ _ _) (nd_bd _ _ _)
  rw [show tagL 2 [nd l 5 (2 * q), nd l 5 (2 * q + 1)] = ptL l 6 q from rfl, show tagL 2 [nd m 5 (2 * q), nd m 5 (2 * q + 1)] = ptL m 6 q from rfl, hf] at hL
  generalize ptL l 6 q = xs at *
  generalize ptL m 6 q = ys at *
  generalize nd l 5 (2 * q) = x1 at *
  generalize nd l 5 (2 * q + 1) = x2 at *
  generalize nd m 5 (2 * q) = x3 at *
  generalize nd m 5 (2 * q + 1) = x4 at *
  obtain ⟨a, c, rfl⟩ := hv.shape
  obtain ⟨a', c', rfl⟩ := hu.shape
  generalize l.length = ln at *
  generalize m.length = mn at *
  have hr0 := R0.new w
  clear hv hu hs ht h0 h1
  go_enter Tryd.func31, Tryd.ntmps31
  go_wp2_with fail
  refine (hN1 _ (one_new _)).mono ?_
  rintro e w1 ⟨rfl, hb1⟩
  have hB1 := below_after_of (one_new _) hb1
  have hr1 := hr0.below hb1
  clear hN1 hb1 hr0
  go_wp2_with fail
  refine (hN2 _ hB1).mono ?_
  rintro e w2 ⟨rfl, hb2⟩
  have hB2 := below_after_of hB1 hb2
  have hr2 := hr1.below hb2
  clear hN2 hb2 hr1 hB1
  go_wp2_with fail
  refine (hN3 _ hB2).mono ?_
  rintro e w3 ⟨rfl, hb3⟩
  have hB3 := below_after_of hB2 hb3
  have hr3 := hr2.below hb3
  clear hN3 hb3 hr2 hB2
  go_wp2_with fail
  refine (hN4 _ hB3).mono ?_
  rintro e w4 ⟨rfl, hb4⟩
  have hB4 := below_after_of hB3 hb4
  have hr4 := hr3.below hb4
  clear hN4 hb4 hr3 hB3
  go_wp2_with fail
  refine (hL _).mono ?_
  rintro e w5 ⟨hb5, a5, n5, c5, a6, n6, c6, rfl, hr5⟩
  have hB5 := below_after_of hB4 hb5
  have hR5 := hr4.below hb5
  have hlt4 := hr4.lt
  have HR5 : Hid (Rows2 w4 w5 (.slice a5 n5 c5) (.slice a6 n6 c6) true xs ys) := hr5
  have hlt5 := hR5.lt
  have hNW := one_new (w := w5) (.cells #[.bool true, .slice a5 n5 c5, .slice a6 n6 c6] 26)
  have hRW := hR5.below hNW
  have hCW : (w5.alloc (.cells #[.bool true, .slice a5 n5 c5, .slice a6 n6 c6] 26)).heap[w5.heap.size]? = some (.cells #[.bool true, .slice a5 n5 c5, .slice a6 n6 c6] 26) := heap_alloc_new w5 _
  obtain ⟨k0, k1, k2, f0, f1, f2⟩ := three_cellsV hR5.h
  obtain ⟨k0', k1', k2', f0', f1', f2'⟩ := three_cellsV hRW.h
  have hBW := below_after_of hB5 hNW
  clear hL hb5 hr4 hr5
  go_wp2
  exact bodyPost_ret (v := .agg #[.bool true, .slice a5 n5 c5, .slice a6 n6 c6]) (by simp [results, Tryd.results31, go_sem, *]) rfl ⟨(((hB5.setCell (Nat.le_refl _) _).setCell (Nat.le_refl _) _).setCell (Nat.le_refl _) _).alloc (((hB5.setCell (Nat.le_refl _) _).setCell (Nat.le_refl _) _).setCell (Nat.le_refl _) _).size _, _, _, _, _, _, _, rfl, ((((HR5.out.set hlt4 _ _).set hlt4 _ _).set hlt4 _ _).below (one_new _)).under hB4.size⟩
set_option maxRecDepth 100000 in
set_option maxHeartbeats 2000000 in
theorem o8_miss_6 {l m : Prl} {f q : Int} (h0 : slF l = 0) (h1 : slF m = 0) (HF : Hid (f = q * 64)) (hq : 0 ≤ f ∧ f ≤ 255) (hf : l2B (ptL l 6 q) (ptL m 6 q) = false) (o0 o1 : Ck) (r0 : O8At l m 5 f o0) (r1 : O8At l m 5 (f + 32) o1) : O8At l m 6 f (ckOr o0 o1) := by
  refine ⟨fun v u w hv hu => ?_⟩
  have hs := slF_ok h0
  have ht := slF_ok h1
  have hN1 := fun w' h => l4Node_5 v l f (2 * q) w' (hv.below (w' := w') h) (by have := hs.len; omega) hs.fin (by have := HF.out; show f = 2 * q * 32; omega) (by omega)
  have hN2 := fun w' h => l4Node_5 v l (f + 32) (2 * q + 1) w' (hv.below (w' := w') h) (by have := hs.len; omega) hs.fin (by have := HF.out; show f + 32 = (2 * q + 1) * 32; omega) (by omega)
  have hN3 := fun w' h => l4Node_5 u m f (2 * q) w' (hu.below (w' := w') h) (by have := ht.len; omega) ht.fin (by have := HF.out; show f = 2 * q * 32; omega) (by omega)
  have hN4 := fun w' h => l4Node_5 u m (f + 32) (2 * q + 1) w' (hu.below (w' := w') h) (by have := ht.len; omega) ht.fin (by have := HF.out; show f + 32 = (2 * q + 1) * 32; omega) (by omega)
  have hL := fun w => l5Nodes_any (nd l 5 (2 * q)) (nd l 5 (2 * q + 1)) (nd m 5 (2 * q)) (nd m 5 (2 * q + 1)) w (nd_bd _ _ _) (nd_bd _ _ _) (nd_bd _ _ _) (nd_bd _ _ _)
  rw [show tagL 2 [nd l 5 (2 * q), nd l 5 (2 * q + 1)] = ptL l 6 q from rfl, show tagL 2 [nd m 5 (2 * q), nd m 5 (2 * q + 1)] = ptL m 6 q from rfl, hf] at hL
  generalize ptL l 6 q = xs at *
  generalize ptL m 6 q = ys at *
  generalize nd l 5 (2 * q) = x1 at *
  generalize nd l 5 (2 * q + 1) = x2 at *
  generalize nd m 5 (2 * q) = x3 at *
  generalize nd m 5 (2 * q + 1) = x4 at *
  have hR0 : ∀ w', Below w.heap.size w w' → Calls Tryd.prog 31 #[v, u, .int .i64 f, .int .i64 5] w' fun e w'' => OkAns w' o0 e w'' := fun w' h => r0.c v u w' (hv.below (w' := w') h) (hu.below h)
  have hR1 : ∀ w', Below w.heap.size w w' → Calls Tryd.prog 31 #[v, u, .int .i64 (f + 32), .int .i64 5] w' fun e w'' => OkAns w' o1 e w'' := fun w' h => r1.c v u w' (hv.below (w' := w') h) (hu.below h)
  obtain ⟨a, c, rfl⟩ := hv.shape
  obtain ⟨a', c', rfl⟩ := hu.shape
  generalize l.length = ln at *
  generalize m.length = mn at *
  have hr0 := R0.new w
  clear hv hu hs ht h0 h1
  go_enter Tryd.func31, Tryd.ntmps31
  go_wp2_with fail
  refine (hN1 _ (one_new _)).mono ?_
  rintro e w1 ⟨rfl, hb1⟩
  have hB1 := below_after_of (one_new _) hb1
  have hr1 := hr0.below hb1
  clear hN1 hb1 hr0
  go_wp2_with fail
  refine (hN2 _ hB1).mono ?_
  rintro e w2 ⟨rfl, hb2⟩
  have hB2 := below_after_of hB1 hb2
  have hr2 := hr1.below hb2
  clear hN2 hb2 hr1 hB1
  go_wp2_with fail
  refine (hN3 _ hB2).mono ?_
  rintro e w3 ⟨rfl, hb3⟩
  have hB3 := below_after_of hB2 hb3
  have hr3 := hr2.below hb3
  clear hN3 hb3 hr2 hB2
  go_wp2_with fail
  refine (hN4 _ hB3).mono ?_
  rintro e w4 ⟨rfl, hb4⟩
  have hB4 := below_after_of hB3 hb4
  have hr4 := hr3.below hb4
  clear hN4 hb4 hr3 hB3
  go_wp2_with fail
  refine (hL _).mono ?_
  rintro e w5 ⟨hb5, a5, n5, c5, a6, n6, c6, rfl, hr5⟩
  have hB5 := below_after_of hB4 hb5
  have hR5 := hr4.below hb5
  have hlt4 := hr4.lt
  have HR5 : Hid (Rows2 w4 w5 (.slice a5 n5 c5) (.slice a6 n6 c6) false xs ys) := hr5
  have hlt5 := hR5.lt
  have hNW := one_new (w := w5) (.cells #[.bool false, .slice a5 n5 c5, .slice a6 n6 c6] 26)
  have hRW := hR5.below hNW
  have hCW : (w5.alloc (.cells #[.bool false, .slice a5 n5 c5, .slice a6 n6 c6] 26)).heap[w5.heap.size]? = some (.cells #[.bool false, .slice a5 n5 c5, .slice a6 n6 c6] 26) := heap_alloc_new w5 _
  obtain ⟨k0, k1, k2, f0, f1, f2⟩ := three_cellsV hR5.h
  obtain ⟨k0', k1', k2', f0', f1', f2'⟩ := three_cellsV hRW.h
  have hBW := below_after_of hB5 hNW
  clear hL hb5 hr4 hr5
  go_wp2_with fail
  refine (hR0 _ hBW).mono ?_
  rintro e w7 ⟨hb7, a7, n7, c7, a8, n8, c8, rfl, hr7⟩
  have hB7 := below_after_of hBW hb7
  have hR7 := hRW.below hb7
  have hltW := hRW.lt
  have hC7 := (hb7.block w5.heap.size (by simp)).trans hCW
  have hz5 : w5.heap.size < (w5.alloc (.cells #[.bool false, .slice a5 n5 c5, .slice a6 n6 c6] 26)).heap.size := by simp
  have hlw : w.heap.size < w5.heap.size := hlt5
  obtain ⟨W, hW⟩ : ∃ W, W = w5.alloc (.cells #[.bool false, .slice a5 n5 c5, .slice a6 n6 c6] 26) := ⟨_, rfl⟩
  rw [← hW] at hb7 hr7 hltW hz5
  have hBW' : Below w.heap.size w W := by rw [hW]; exact hBW
  have HR7 : Hid (Rows2 W w7 (.slice a7 n7 c7) (.slice a8 n8 c8) (opF o0) (op1 o0) (op2 o0)) := hr7
  obtain ⟨j0, j1, j2, g0, g1, g2⟩ := three_cellsV hR7.h
  obtain ⟨t0, t1, t2, s0, s1, s2⟩ := three_cellsV hC7
  have hlt7 : w5.heap.size < w7.heap.size := Nat.lt_of_lt_of_le hz5 hb7.size
  clear hR0 hr7 hb7 hW k0 k1 k2 f0 f1 f2 k0' k1' k2' f0' f1' f2' hCW hNW
  rcases o0 with _ | ⟨ls, bs⟩
  · have eo : opF (none : Ck) = false := rfl
    rw [eo]
    have hB8 : Below w.heap.size w (((w7.setCell ⟨w5.heap.size, 0, none⟩ (.bool false)).setCell ⟨w5.heap.size, 1, none⟩ (.slice a7 n7 c7)).setCell ⟨w5.heap.size, 2, none⟩ (.slice a8 n8 c8)) := ((hB7.setCell (by show w.heap.size ≤ w5.heap.size; omega) _).setCell (by show w.heap.size ≤ w5.heap.size; omega) _).setCell (by show w.heap.size ≤ w5.heap.size; omega) _
    have hR8 : R0 (((w7.setCell ⟨w5.heap.size, 0, none⟩ (.bool false)).setCell ⟨w5.heap.size, 1, none⟩ (.slice a7 n7 c7)).setCell ⟨w5.heap.size, 2, none⟩ (.slice a8 n8 c8)) w.heap.size := by
      refine ⟨?_⟩
      rw [heap_setCell_other _ _ _ _ (by show w.heap.size ≠ w5.heap.size; omega), heap_setCell_other _ _ _ _ (by show w.heap.size ≠ w5.heap.size; omega), heap_setCell_other _ _ _ _ (by show w.heap.size ≠ w5.heap.size; omega)]
      exact hR7.h
    go_wp2_with fail
    refine (hR1 _ hB8).mono ?_
    rintro e x7 ⟨hb11, a11, n11, c11, a12, n12, c12, rfl, hr11⟩
    have hB11 := below_after_of hB8 hb11
    have hR11 := hR8.below hb11
    have hlt8 := hR8.lt
    have HR11 : Hid (Rows2 _ x7 (.slice a11 n11 c11) (.slice a12 n12 c12) (opF o1) (op1 o1) (op2 o1)) := hr11
    have HZ8 := hB8.size
    obtain ⟨i0, i1, i2, y0, y1, y2⟩ := three_cellsV hR11.h
    generalize hof : opF o1 = fo at *
    clear hr11 hb11 hR1 j0 j1 j2 g0 g1 g2 t0 t1 t2 s0 s1 s2
    go_wp2
    refine bodyPost_ret (v := .agg #[.bool fo, .slice a11 n11 c11, .slice a12 n12 c12]) (by simp [results, Tryd.results31, go_sem, *]) rfl ?_
    show ClAns w (opF o1) (op1 o1) (op2 o1) _ _
    rw [hof]
    exact ⟨((hB11.setCell (Nat.le_refl _) _).setCell (Nat.le_refl _) _).setCell (Nat.le_refl _) _, _, _, _, _, _, _, rfl, (((HR11.out.set hlt8 _ _).set hlt8 _ _).set hlt8 _ _).under HZ8⟩
  · have eo : opF (some (ls, bs) : Ck) = true := rfl
    rw [eo]
    clear hR1
    have hle : w.heap.size ≤ w5.heap.size := by omega
    go_wp2
    exact bodyPost_ret (v := .agg #[.bool true, .slice a7 n7 c7, .slice a8 n8 c8]) (by simp [results, Tryd.results31, go_sem, *]) rfl ⟨(((((hB7.setCell hle _).setCell hle _).setCell hle _).setCell (Nat.le_refl _) _).setCell (Nat.le_refl _) _).setCell (Nat.le_refl _) _, _, _, _, _, _, _, rfl, ((((((HR7.out.set hz5 _ _).set hz5 _ _).set hz5 _ _).set hltW _ _).set hltW _ _).set hltW _ _).under hBW'.size⟩
set_option maxRecDepth 100000 in
set_option maxHeartbeats 2000000 in
theorem o8_hit_7 {l m : Prl} {f q : Int} (h0 : slF l = 0) (h1 : slF m = 0) (HF : Hid (f = q * 128)) (hq : 0 ≤ f ∧ f ≤ 255) (hf : l2B (ptL l 7 q) (ptL m 7 q) = true) : O8At l m 7 f (some (ptL l 7 q, ptL m 7 q)) := by
  refine ⟨fun v u w hv hu => ?_⟩
  have hs := slF_ok h0
  have ht := slF_ok h1
  have hN1 := fun w' h => l4Node_6 v l f (2 * q) w' (hv.below (w' := w') h) (by have := hs.len; omega) hs.fin (by have := HF.out; show f = 2 * q * 64; omega) (by omega)
  have hN2 := fun w' h => l4Node_6 v l (f + 64) (2 * q + 1) w' (hv.below (w' := w') h) (by have := hs.len; omega) hs.fin (by have := HF.out; show f + 64 = (2 * q + 1) * 64; omega) (by omega)
  have hN3 := fun w' h => l4Node_6 u m f (2 * q) w' (hu.below (w' := w') h) (by have := ht.len; omega) ht.fin (by have := HF.out; show f = 2 * q * 64; omega) (by omega)
  have hN4 := fun w' h => l4Node_6 u m (f + 64) (2 * q + 1) w' (hu.below (w' := w') h) (by have := ht.len; omega) ht.fin (by have := HF.out; show f + 64 = (2 * q + 1) * 64; omega) (by omega)
  have hL := fun w => l5Nodes_any (nd l 6 (2 * q)) (nd l 6 (2 * q + 1)) (nd m 6 (2 * q)) (nd m 6 (2 * q + 1)) w (nd_bd _ _ _) (nd_bd _ _ _) (nd_bd _ _ _) (nd_bd _ _ _)
  rw [show tagL 2 [nd l 6 (2 * q), nd l 6 (2 * q + 1)] = ptL l 7 q from rfl, show tagL 2 [nd m 6 (2 * q), nd m 6 (2 * q + 1)] = ptL m 7 q from rfl, hf] at hL
  generalize ptL l 7 q = xs at *
  generalize ptL m 7 q = ys at *
  generalize nd l 6 (2 * q) = x1 at *
  generalize nd l 6 (2 * q + 1) = x2 at *
  generalize nd m 6 (2 * q) = x3 at *
  generalize nd m 6 (2 * q + 1) = x4 at *
  obtain ⟨a, c, rfl⟩ := hv.shape
  obtain ⟨a', c', rfl⟩ := hu.shape
  generalize l.length = ln at *
  generalize m.length = mn at *
  have hr0 := R0.new w
  clear hv hu hs ht h0 h1
  go_enter Tryd.func31, Tryd.ntmps31
  go_wp2_with fail
  refine (hN1 _ (one_new _)).mono ?_
  rintro e w1 ⟨rfl, hb1⟩
  have hB1 := below_after_of (one_new _) hb1
  have hr1 := hr0.below hb1
  clear hN1 hb1 hr0
  go_wp2_with fail
  refine (hN2 _ hB1).mono ?_
  rintro e w2 ⟨rfl, hb2⟩
  have hB2 := below_after_of hB1 hb2
  have hr2 := hr1.below hb2
  clear hN2 hb2 hr1 hB1
  go_wp2_with fail
  refine (hN3 _ hB2).mono ?_
  rintro e w3 ⟨rfl, hb3⟩
  have hB3 := below_after_of hB2 hb3
  have hr3 := hr2.below hb3
  clear hN3 hb3 hr2 hB2
  go_wp2_with fail
  refine (hN4 _ hB3).mono ?_
  rintro e w4 ⟨rfl, hb4⟩
  have hB4 := below_after_of hB3 hb4
  have hr4 := hr3.below hb4
  clear hN4 hb4 hr3 hB3
  go_wp2_with fail
  refine (hL _).mono ?_
  rintro e w5 ⟨hb5, a5, n5, c5, a6, n6, c6, rfl, hr5⟩
  have hB5 := below_after_of hB4 hb5
  have hR5 := hr4.below hb5
  have hlt4 := hr4.lt
  have HR5 : Hid (Rows2 w4 w5 (.slice a5 n5 c5) (.slice a6 n6 c6) true xs ys) := hr5
  have hlt5 := hR5.lt
  have hNW := one_new (w := w5) (.cells #[.bool true, .slice a5 n5 c5, .slice a6 n6 c6] 26)
  have hRW := hR5.below hNW
  have hCW : (w5.alloc (.cells #[.bool true, .slice a5 n5 c5, .slice a6 n6 c6] 26)).heap[w5.heap.size]? = some (.cells #[.bool true, .slice a5 n5 c5, .slice a6 n6 c6] 26) := heap_alloc_new w5 _
  obtain ⟨k0, k1, k2, f0, f1, f2⟩ := three_cellsV hR5.h
  obtain ⟨k0', k1', k2', f0', f1', f2'⟩ := three_cellsV hRW.h
  have hBW := below_after_of hB5 hNW
  clear hL hb5 hr4 hr5
  go_wp2
  exact bodyPost_ret (v := .agg #[.bool true, .slice a5 n5 c5, .slice a6 n6 c6]) (by simp [results, Tryd.results31, go_sem, *]) rfl ⟨(((hB5.setCell (Nat.le_refl _) _).setCell (Nat.le_refl _) _).setCell (Nat.le_refl _) _).alloc (((hB5.setCell (Nat.le_refl _) _).setCell (Nat.le_refl _) _).setCell (Nat.le_refl _) _).size _, _, _, _, _, _, _, rfl, ((((HR5.out.set hlt4 _ _).set hlt4 _ _).set hlt4 _ _).below (one_new _)).under hB4.size⟩
set_option maxRecDepth 100000 in
set_option maxHeartbeats 2000000 in
theorem o8_miss_7 {l m : Prl} {f q : Int} (h0 : slF l = 0) (h1 : slF m = 0) (HF : Hid (f = q * 128)) (hq : 0 ≤ f ∧ f ≤ 255) (hf : l2B (ptL l 7 q) (ptL m 7 q) = false) (o0 o1 : Ck) (r0 : O8At l m 6 f o0) (r1 : O8At l m 6 (f + 64) o1) : O8At l m 7 f (ckOr o0 o1) := by
  refine ⟨fun v u w hv hu => ?_⟩
  have hs := slF_ok h0
  have ht := slF_ok h1
  have hN1 := fun w' h => l4Node_6 v l f (2 * q) w' (hv.below (w' := w') h) (by have := hs.len; omega) hs.fin (by have := HF.out; show f = 2 * q * 64; omega) (by omega)
  have hN2 := fun w' h => l4Node_6 v l (f + 64) (2 * q + 1) w' (hv.below (w' := w') h) (by have := hs.len; omega) hs.fin (by have := HF.out; show f + 64 = (2 * q + 1) * 64; omega) (by omega)
  have hN3 := fun w' h => l4Node_6 u m f (2 * q) w' (hu.below (w' := w') h) (by have := ht.len; omega) ht.fin (by have := HF.out; show f = 2 * q * 64; omega) (by omega)
  have hN4 := fun w' h => l4Node_6 u m (f + 64) (2 * q + 1) w' (hu.below (w' := w') h) (by have := ht.len; omega) ht.fin (by have := HF.out; show f + 64 = (2 * q + 1) * 64; omega) (by omega)
  have hL := fun w => l5Nodes_any (nd l 6 (2 * q)) (nd l 6 (2 * q + 1)) (nd m 6 (2 * q)) (nd m 6 (2 * q + 1)) w (nd_bd _ _ _) (nd_bd _ _ _) (nd_bd _ _ _) (nd_bd _ _ _)
  rw [show tagL 2 [nd l 6 (2 * q), nd l 6 (2 * q + 1)] = ptL l 7 q from rfl, show tagL 2 [nd m 6 (2 * q), nd m 6 (2 * q + 1)] = ptL m 7 q from rfl, hf] at hL
  generalize ptL l 7 q = xs at *
  generalize ptL m 7 q = ys at *
  generalize nd l 6 (2 * q) = x1 at *
  generalize nd l 6 (2 * q + 1) = x2 at *
  generalize nd m 6 (2 * q) = x3 at *
  generalize nd m 6 (2 * q + 1) = x4 at *
  have hR0 : ∀ w', Below w.heap.size w w' → Calls Tryd.prog 31 #[v, u, .int .i64 f, .int .i64 6] w' fun e w'' => OkAns w' o0 e w'' := fun w' h => r0.c v u w' (hv.below (w' := w') h) (hu.below h)
  have hR1 : ∀ w', Below w.heap.size w w' → Calls Tryd.prog 31 #[v, u, .int .i64 (f + 64), .int .i64 6] w' fun e w'' => OkAns w' o1 e w'' := fun w' h => r1.c v u w' (hv.below (w' := w') h) (hu.below h)
  obtain ⟨a, c, rfl⟩ := hv.shape
  obtain ⟨a', c', rfl⟩ := hu.shape
  generalize l.length = ln at *
  generalize m.length = mn at *
  have hr0 := R0.new w
  clear hv hu hs ht h0 h1
  go_enter Tryd.func31, Tryd.ntmps31
  go_wp2_with fail
  refine (hN1 _ (one_new _)).mono ?_
  rintro e w1 ⟨rfl, hb1⟩
  have hB1 := below_after_of (one_new _) hb1
  have hr1 := hr0.below hb1
  clear hN1 hb1 hr0
  go_wp2_with fail
  refine (hN2 _ hB1).mono ?_
  rintro e w2 ⟨rfl, hb2⟩
  have hB2 := below_after_of hB1 hb2
  have hr2 := hr1.below hb2
  clear hN2 hb2 hr1 hB1
  go_wp2_with fail
  refine (hN3 _ hB2).mono ?_
  rintro e w3 ⟨rfl, hb3⟩
  have hB3 := below_after_of hB2 hb3
  have hr3 := hr2.below hb3
  clear hN3 hb3 hr2 hB2
  go_wp2_with fail
  refine (hN4 _ hB3).mono ?_
  rintro e w4 ⟨rfl, hb4⟩
  have hB4 := below_after_of hB3 hb4
  have hr4 := hr3.below hb4
  clear hN4 hb4 hr3 hB3
  go_wp2_with fail
  refine (hL _).mono ?_
  rintro e w5 ⟨hb5, a5, n5, c5, a6, n6, c6, rfl, hr5⟩
  have hB5 := below_after_of hB4 hb5
  have hR5 := hr4.below hb5
  have hlt4 := hr4.lt
  have HR5 : Hid (Rows2 w4 w5 (.slice a5 n5 c5) (.slice a6 n6 c6) false xs ys) := hr5
  have hlt5 := hR5.lt
  have hNW := one_new (w := w5) (.cells #[.bool false, .slice a5 n5 c5, .slice a6 n6 c6] 26)
  have hRW := hR5.below hNW
  have hCW : (w5.alloc (.cells #[.bool false, .slice a5 n5 c5, .slice a6 n6 c6] 26)).heap[w5.heap.size]? = some (.cells #[.bool false, .slice a5 n5 c5, .slice a6 n6 c6] 26) := heap_alloc_new w5 _
  obtain ⟨k0, k1, k2, f0, f1, f2⟩ := three_cellsV hR5.h
  obtain ⟨k0', k1', k2', f0', f1', f2'⟩ := three_cellsV hRW.h
  have hBW := below_after_of hB5 hNW
  clear hL hb5 hr4 hr5
  go_wp2_with fail
  refine (hR0 _ hBW).mono ?_
  rintro e w7 ⟨hb7, a7, n7, c7, a8, n8, c8, rfl, hr7⟩
  have hB7 := below_after_of hBW hb7
  have hR7 := hRW.below hb7
  have hltW := hRW.lt
  have hC7 := (hb7.block w5.heap.size (by simp)).trans hCW
  have hz5 : w5.heap.size < (w5.alloc (.cells #[.bool false, .slice a5 n5 c5, .slice a6 n6 c6] 26)).heap.size := by simp
  have hlw : w.heap.size < w5.heap.size := hlt5
  obtain ⟨W, hW⟩ : ∃ W, W = w5.alloc (.cells #[.bool false, .slice a5 n5 c5, .slice a6 n6 c6] 26) := ⟨_, rfl⟩
  rw [← hW] at hb7 hr7 hltW hz5
  have hBW' : Below w.heap.size w W := by rw [hW]; exact hBW
  have HR7 : Hid (Rows2 W w7 (.slice a7 n7 c7) (.slice a8 n8 c8) (opF o0) (op1 o0) (op2 o0)) := hr7
  obtain ⟨j0, j1, j2, g0, g1, g2⟩ := three_cellsV hR7.h
  obtain ⟨t0, t1, t2, s0, s1, s2⟩ := three_cellsV hC7
  have hlt7 : w5.heap.size < w7.heap.size := Nat.lt_of_lt_of_le hz5 hb7.size
  clear hR0 hr7 hb7 hW k0 k1 k2 f0 f1 f2 k0' k1' k2' f0' f1' f2' hCW hNW
  rcases o0 with _ | ⟨ls, bs⟩
  · have eo : opF (none : Ck) = false := rfl
    rw [eo]
    have hB8 : Below w.heap.size w (((w7.setCell ⟨w5.heap.size, 0, none⟩ (.bool false)).setCell ⟨w5.heap.size, 1, none⟩ (.slice a7 n7 c7)).setCell ⟨w5.heap.size, 2, none⟩ (.slice a8 n8 c8)) := ((hB7.setCell (by show w.heap.size ≤ w5.heap.size; omega) _).setCell (by show w.heap.size ≤ w5.heap.size; omega) _).setCell (by show w.heap.size ≤ w5.heap.size; omega) _
    have hR8 : R0 (((w7.setCell ⟨w5.heap.size, 0, none⟩ (.bool false)).setCell ⟨w5.heap.size, 1, none⟩ (.slice a7 n7 c7)).setCell ⟨w5.heap.size, 2, none⟩ (.slice a8 n8 c8)) w.heap.size := by
      refine ⟨?_⟩
      rw [heap_setCell_other _ _ _ _ (by show w.heap.size ≠ w5.heap.size; omega), heap_setCell_other _ _ _ _ (by show w.heap.size ≠ w5.heap.size; omega), heap_setCell_other _ _ _ _ (by show w.heap.size ≠ w5.heap.size; omega)]
      exact hR7.h
    go_wp2_with fail
    refine (hR1 _ hB8).mono ?_
    rintro e x7 ⟨hb11, a11, n11, c11, a12, n12, c12, rfl, hr11⟩
    have hB11 := below_after_of hB8 hb11
    have hR11 := hR8.below hb11
    have hlt8 := hR8.lt
    have HR11 : Hid (Rows2 _ x7 (.slice a11 n11 c11) (.slice a12 n12 c12) (opF o1) (op1 o1) (op2 o1)) := hr11
    have HZ8 := hB8.size
    obtain ⟨i0, i1, i2, y0, y1, y2⟩ := three_cellsV hR11.h
    generalize hof : opF o1 = fo at *
    clear hr11 hb11 hR1 j0 j1 j2 g0 g1 g2 t0 t1 t2 s0 s1 s2
    go_wp2
    refine bodyPost_ret (v := .agg #[.bool fo, .slice a11 n11 c11, .slice a12 n12 c12]) (by simp [results, Tryd.results31, go_sem, *]) rfl ?_
    show ClAns w (opF o1) (op1 o1) (op2 o1) _ _
    rw [hof]
    exact ⟨((hB11.setCell (Nat.le_refl _) _).setCell (Nat.le_refl _) _).setCell (Nat.le_refl _) _, _, _, _, _, _, _, rfl, (((HR11.out.set hlt8 _ _).set hlt8 _ _).set hlt8 _ _).under HZ8⟩
  · have eo : opF (some (ls, bs) : Ck) = true := rfl
    rw [eo]
    clear hR1
    have hle : w.heap.size ≤ w5.heap.size := by omega
    go_wp2
    exact bodyPost_ret (v := .agg #[.bool true, .slice a7 n7 c7, .slice a8 n8 c8]) (by simp [results, Tryd.results31, go_sem, *]) rfl ⟨(((((hB7.setCell hle _).setCell hle _).setCell hle _).setCell (Nat.le_refl _) _).setCell (Nat.le_refl _) _).setCell (Nat.le_refl _) _, _, _, _, _, _, _, rfl, ((((((HR7.out.set hz5 _ _).set hz5 _ _).set hz5 _ _).set hltW _ _).set hltW _ _).set hltW _ _).under hBW'.size⟩
set_option maxRecDepth 100000 in
set_option maxHeartbeats 2000000 in
theorem o8_hit_8 {l m : Prl} {f q : Int} (h0 : slF l = 0) (h1 : slF m = 0) (HF : Hid (f = q * 256)) (hq : 0 ≤ f ∧ f ≤ 255) (hf : l2B (ptL l 8 q) (ptL m 8 q) = true) : O8At l m 8 f (some (ptL l 8 q, ptL m 8 q)) := by
  refine ⟨fun v u w hv hu => ?_⟩
  have hs := slF_ok h0
  have ht := slF_ok h1
  have hN1 := fun w' h => l4Node_7 v l f (2 * q) w' (hv.below (w' := w') h) (by have := hs.len; omega) hs.fin (by have := HF.out; show f = 2 * q * 128; omega) (by omega)
  have hN2 := fun w' h => l4Node_7 v l (f + 128) (2 * q + 1) w' (hv.below (w' := w') h) (by have := hs.len; omega) hs.fin (by have := HF.out; show f + 128 = (2 * q + 1) * 128; omega) (by omega)
  have hN3 := fun w' h => l4Node_7 u m f (2 * q) w' (hu.below (w' := w') h) (by have := ht.len; omega) ht.fin (by have := HF.out; show f = 2 * q * 128; omega) (by omega)
  have hN4 := fun w' h => l4Node_7 u m (f + 128) (2 * q + 1) w' (hu.below (w' := w') h) (by have := ht.len; omega) ht.fin (by have := HF.out; show f + 128 = (2 * q + 1) * 128; omega) (by omega)
  have hL := fun w => l5Nodes_any (nd l 7 (2 * q)) (nd l 7 (2 * q + 1)) (nd m 7 (2 * q)) (nd m 7 (2 * q + 1)) w (nd_bd _ _ _) (nd_bd _ _ _) (nd_bd _ _ _) (nd_bd _ _ _)
  rw [show tagL 2 [nd l 7 (2 * q), nd l 7 (2 * q + 1)] = ptL l 8 q from rfl, show tagL 2 [nd m 7 (2 * q), nd m 7 (2 * q + 1)] = ptL m 8 q from rfl, hf] at hL
  generalize ptL l 8 q = xs at *
  generalize ptL m 8 q = ys at *
  generalize nd l 7 (2 * q) = x1 at *
  generalize nd l 7 (2 * q + 1) = x2 at *
  generalize nd m 7 (2 * q) = x3 at *
  generalize nd m 7 (2 * q + 1) = x4 at *
  obtain ⟨a, c, rfl⟩ := hv.shape
  obtain ⟨a', c', rfl⟩ := hu.shape
  generalize l.length = ln at *
  generalize m.length = mn at *
  have hr0 := R0.new w
  clear hv hu hs ht h0 h1
  go_enter Tryd.func31, Tryd.ntmps31
  go_wp2_with fail
  refine (hN1 _ (one_new _)).mono ?_
  rintro e w1 ⟨rfl, hb1⟩
  have hB1 := below_after_of (one_new _) hb1
  have hr1 := hr0.below hb1
  clear hN1 hb1 hr0
  go_wp2_with fail
  refine (hN2 _ hB1).mono ?_
  rintro e w2 ⟨rfl, hb2⟩
  have hB2 := below_after_of hB1 hb2
  have hr2 := hr1.below hb2
  clear hN2 hb2 hr1 hB1
  go_wp2_with fail
  refine (hN3 _ hB2).mono ?_
  rintro e w3 ⟨rfl, hb3⟩
  have hB3 := below_after_of hB2 hb3
  have hr3 := hr2.below hb3
  clear hN3 hb3 hr2 hB2
  go_wp2_with fail
  refine (hN4 _ hB3).mono ?_
  rintro e w4 ⟨rfl, hb4⟩
  have hB4 := below_after_of hB3 hb4
  have hr4 := hr3.below hb4
  clear hN4 hb4 hr3 hB3
  go_wp2_with fail
  refine (hL _).mono ?_
  rintro e w5 ⟨hb5, a5, n5, c5, a6, n6, c6, rfl, hr5⟩
  have hB5 := below_after_of hB4 hb5
  have hR5 := hr4.below hb5
  have hlt4 := hr4.lt
  have HR5 : Hid (Rows2 w4 w5 (.slice a5 n5 c5) (.slice a6 n6 c6) true xs ys) := hr5
  have hlt5 := hR5.lt
  have hNW := one_new (w := w5) (.cells #[.bool true, .slice a5 n5 c5, .slice a6 n6 c6] 26)
  have hRW := hR5.below hNW
  have hCW : (w5.alloc (.cells #[.bool true, .slice a5 n5 c5, .slice a6 n6 c6] 26)).heap[w5.heap.size]? = some (.cells #[.bool true, .slice a5 n5 c5, .slice a6 n6 c6] 26) := heap_alloc_new w5 _
  obtain ⟨k0, k1, k2, f0, f1, f2⟩ := three_cellsV hR5.h
  obtain ⟨k0', k1', k2', f0', f1', f2'⟩ := three_cellsV hRW.h
  have hBW := below_after_of hB5 hNW
  clear hL hb5 hr4 hr5
  go_wp2
  exact bodyPost_ret (v := .agg #[.bool true, .slice a5 n5 c5, .slice a6 n6 c6]) (by simp [results, Tryd.results31, go_sem, *]) rfl ⟨(((hB5.setCell (Nat.le_refl _) _).setCell (Nat.le_refl _) _).setCell (Nat.le_refl _) _).alloc (((hB5.setCell (Nat.le_refl _) _).setCell (Nat.le_refl _) _).setCell (Nat.le_refl _) _).size _, _, _, _, _, _, _, rfl, ((((HR5.out.set hlt4 _ _).set hlt4 _ _).set hlt4 _ _).below (one_new _)).under hB4.size⟩
set_option maxRecDepth 100000 in
set_option maxHeartbeats 2000000 in
theorem o8_miss_8 {l m : Prl} {f q : Int} (h0 : slF l = 0) (h1 : slF m = 0) (HF : Hid (f = q * 256)) (hq : 0 ≤ f ∧ f ≤ 255) (hf : l2B (ptL l 8 q) (ptL m 8 q) = false) (o0 o1 : Ck) (r0 : O8At l m 7 f o0) (r1 : O8At l m 7 (f + 128) o1) : O8At l m 8 f (ckOr o0 o1) := by
  refine ⟨fun v u w hv hu => ?_⟩
  have hs := slF_ok h0
  have ht := slF_ok h1
  have hN1 := fun w' h => l4Node_7 v l f (2 * q) w' (hv.below (w' := w') h) (by have := hs.len; omega) hs.fin (by have := HF.out; show f = 2 * q * 128; omega) (by omega)
  have hN2 := fun w' h => l4Node_7 v l (f + 128) (2 * q + 1) w' (hv.below (w' := w') h) (by have := hs.len; omega) hs.fin (by have := HF.out; show f + 128 = (2 * q + 1) * 128; omega) (by omega)
  have hN3 := fun w' h => l4Node_7 u m f (2 * q) w' (hu.below (w' := w') h) (by have := ht.len; omega) ht.fin (by have := HF.out; show f = 2 * q * 128; omega) (by omega)
  have hN4 := fun w' h => l4Node_7 u m (f + 128) (2 * q + 1) w' (hu.below (w' := w') h) (by have := ht.len; omega) ht.fin (by have := HF.out; show f + 128 = (2 * q + 1) * 128; omega) (by omega)
  have hL := fun w => l5Nodes_any (nd l 7 (2 * q)) (nd l 7 (2 * q + 1)) (nd m 7 (2 * q)) (nd m 7 (2 * q + 1)) w (nd_bd _ _ _) (nd_bd _ _ _) (nd_bd _ _ _) (nd_bd _ _ _)
  rw [show tagL 2 [nd l 7 (2 * q), nd l 7 (2 * q + 1)] = ptL l 8 q from rfl, show tagL 2 [nd m 7 (2 * q), nd m 7 (2 * q + 1)] = ptL m 8 q from rfl, hf] at hL
  generalize ptL l 8 q = xs at *
  generalize ptL m 8 q = ys at *
  generalize nd l 7 (2 * q) = x1 at *
  generalize nd l 7 (2 * q + 1) = x2 at *
  generalize nd m 7 (2 * q) = x3 at *
  generalize nd m 7 (2 * q + 1) = x4 at *
  have hR0 : ∀ w', Below w.heap.size w w' → Calls Tryd.prog 31 #[v, u, .int .i64 f, .int .i64 7] w' fun e w'' => OkAns w' o0 e w'' := fun w' h => r0.c v u w' (hv.below (w' := w') h) (hu.below h)
  have hR1 : ∀ w', Below w.heap.size w w' → Calls Tryd.prog 31 #[v, u, .int .i64 (f + 128), .int .i64 7] w' fun e w'' => OkAns w' o1 e w'' := fun w' h => r1.c v u w' (hv.below (w' := w') h) (hu.below h)
  obtain ⟨a, c, rfl⟩ := hv.shape
  obtain ⟨a', c', rfl⟩ := hu.shape
  generalize l.length = ln at *
  generalize m.length = mn at *
  have hr0 := R0.new w
  clear hv hu hs ht h0 h1
  go_enter Tryd.func31, Tryd.ntmps31
  go_wp2_with fail
  refine (hN1 _ (one_new _)).mono ?_
  rintro e w1 ⟨rfl, hb1⟩
  have hB1 := below_after_of (one_new _) hb1
  have hr1 := hr0.below hb1
  clear hN1 hb1 hr0
  go_wp2_with fail
  refine (hN2 _ hB1).mono ?_
  rintro e w2 ⟨rfl, hb2⟩
  have hB2 := below_after_of hB1 hb2
  have hr2 := hr1.below hb2
  clear hN2 hb2 hr1 hB1
  go_wp2_with fail
  refine (hN3 _ hB2).mono ?_
  rintro e w3 ⟨rfl, hb3⟩
  have hB3 := below_after_of hB2 hb3
  have hr3 := hr2.below hb3
  clear hN3 hb3 hr2 hB2
  go_wp2_with fail
  refine (hN4 _ hB3).mono ?_
  rintro e w4 ⟨rfl, hb4⟩
  have hB4 := below_after_of hB3 hb4
  have hr4 := hr3.below hb4
  clear hN4 hb4 hr3 hB3
  go_wp2_with fail
  refine (hL _).mono ?_
  rintro e w5 ⟨hb5, a5, n5, c5, a6, n6, c6, rfl, hr5⟩
  have hB5 := below_after_of hB4 hb5
  have hR5 := hr4.below hb5
  have hlt4 := hr4.lt
  have HR5 : Hid (Rows2 w4 w5 (.slice a5 n5 c5) (.slice a6 n6 c6) false xs ys) := hr5
  have hlt5 := hR5.lt
  have hNW := one_new (w := w5) (.cells #[.bool false, .slice a5 n5 c5, .slice a6 n6 c6] 26)
  have hRW := hR5.below hNW
  have hCW : (w5.alloc (.cells #[.bool false, .slice a5 n5 c5, .slice a6 n6 c6] 26)).heap[w5.heap.size]? = some (.cells #[.bool false, .slice a5 n5 c5, .slice a6 n6 c6] 26) := heap_alloc_new w5 _
  obtain ⟨k0, k1, k2, f0, f1, f2⟩ := three_cellsV hR5.h
  obtain ⟨k0', k1', k2', f0', f1', f2'⟩ := three_cellsV hRW.h
  have hBW := below_after_of hB5 hNW
  clear hL hb5 hr4 hr5
  go_wp2_with fail
  refine (hR0 _ hBW).mono ?_
  rintro e w7 ⟨hb7, a7, n7, c7, a8, n8, c8, rfl, hr7⟩
  have hB7 := below_after_of hBW hb7
  have hR7 := hRW.below hb7
  have hltW := hRW.lt
  have hC7 := (hb7.block w5.heap.size (by simp)).trans hCW
  have hz5 : w5.heap.size < (w5.alloc (.cells #[.bool false, .slice a5 n5 c5, .slice a6 n6 c6] 26)).heap.size := by simp
  have hlw : w.heap.size < w5.heap.size := hlt5
  obtain ⟨W, hW⟩ : ∃ W, W = w5.alloc (.cells #[.bool false, .slice a5 n5 c5, .slice a6 n6 c6] 26) := ⟨_, rfl⟩
  rw [← hW] at hb7 hr7 hltW hz5
  have hBW' : Below w.heap.size w W := by rw [hW]; exact hBW
  have HR7 : Hid (Rows2 W w7 (.slice a7 n7 c7) (.slice a8 n8 c8) (opF o0) (op1 o0) (op2 o0)) := hr7
  obtain ⟨j0, j1, j2, g0, g1, g2⟩ := three_cellsV hR7.h
  obtain ⟨t0, t1, t2, s0, s1, s2⟩ := three_cellsV hC7
  have hlt7 : w5.heap.size < w7.heap.size := Nat.lt_of_lt_of_le hz5 hb7.size
  clear hR0 hr7 hb7 hW k0 k1 k2 f0 f1 f2 k0' k1' k2' f0' f1' f2' hCW hNW
  rcases o0 with _ | ⟨ls, bs⟩
  · have eo : opF (none : Ck) = false := rfl
    rw [eo]
    have hB8 : Below w.heap.size w (((w7.setCell ⟨w5.heap.size, 0, none⟩ (.bool false)).setCell ⟨w5.heap.size, 1, none⟩ (.slice a7 n7 c7)).setCell ⟨w5.heap.size, 2, none⟩ (.slice a8 n8 c8)) := ((hB7.setCell (by show w.heap.size ≤ w5.heap.size; omega) _).setCell (by show w.heap.size ≤ w5.heap.size; omega) _).setCell (by show w.heap.size ≤ w5.heap.size; omega) _
    have hR8 : R0 (((w7.setCell ⟨w5.heap.size, 0, none⟩ (.bool false)).setCell ⟨w5.heap.size, 1, none⟩ (.slice a7 n7 c7)).setCell ⟨w5.heap.size, 2, none⟩ (.slice a8 n8 c8)) w.heap.size := by
      refine ⟨?_⟩
      rw [heap_setCell_other _ _ _ _ (by show w.heap.size ≠ w5.heap.size; omega), heap_setCell_other _ _ _ _ (by show w.heap.size ≠ w5.heap.size; omega), heap_setCell_other _ _ _ _ (by show w.heap.size ≠ w5.heap.size; omega)]
      exact hR7.h
    go_wp2_with fail
    refine (hR1 _ hB8).mono ?_
    rintro e x7 ⟨hb11, a11, n11, c11, a12, n12, c12, rfl, hr11⟩
    have hB11 := below_after_of hB8 hb11
    have hR11 := hR8.below hb11
    have hlt8 := hR8.lt
    have HR11 : Hid (Rows2 _ x7 (.slice a11 n11 c11) (.slice a12 n12 c12) (opF o1) (op1 o1) (op2 o1)) := hr11
    have HZ8 := hB8.size
    obtain ⟨i0, i1, i2, y0, y1, y2⟩ := three_cellsV hR11.h
    generalize hof : opF o1 = fo at *
    clear hr11 hb11 hR1 j0 j1 j2 g0 g1 g2 t0 t1 t2 s0 s1 s2
    go_wp2
    refine bodyPost_ret (v := .agg #[.bool fo, .slice a11 n11 c11, .slice a12 n12 c12]) (by simp [results, Tryd.results31, go_sem, *]) rfl ?_
    show ClAns w (opF o1) (op1 o1) (op2 o1) _ _
    rw [hof]
    exact ⟨((hB11.setCell (Nat.le_refl _) _).setCell (Nat.le_refl _) _).setCell (Nat.le_refl _) _, _, _, _, _, _, _, rfl, (((HR11.out.set hlt8 _ _).set hlt8 _ _).set hlt8 _ _).under HZ8⟩
  · have eo : opF (some (ls, bs) : Ck) = true := rfl
    rw [eo]
    clear hR1
    have hle : w.heap.size ≤ w5.heap.size := by omega
    go_wp2
    exact bodyPost_ret (v := .agg #[.bool true, .slice a7 n7 c7, .slice a8 n8 c8]) (by simp [results, Tryd.results31, go_sem, *]) rfl ⟨(((((hB7.setCell hle _).setCell hle _).setCell hle _).setCell (Nat.le_refl _) _).setCell (Nat.le_refl _) _).setCell (Nat.le_refl _) _, _, _, _, _, _, _, rfl, ((((((HR7.out.set hz5 _ _).set hz5 _ _).set hz5 _ _).set hltW _ _).set hltW _ _).set hltW _ _).under hBW'.size⟩
end U
end Go.Proofs.YtljbcpkjhnbpeaaDoor

/- A clash in two new trees of one root, by the model: at a fork. -/
namespace Go.Proofs.YtljbcpkjhnbpeaaDoor
open Go.RowKit
namespace U
set_option maxRecDepth 100000 in
set_option maxHeartbeats 4000000 in
theorem l8_fork {l m : Prl} {xs ys : List Int} (hA : ∀ v w, Prs w v l → Calls Tryd.prog 36 #[v] w fun e w' => ∃ v', e = .returned v' ∧ w'.ownsRow w.heap.size 5 1 v' xs.length (xs.map (Value.int .u8)) ∧ Below w.heap.size w w')
    (hB : ∀ v w, Prs w v m → Calls Tryd.prog 36 #[v] w fun e w' => ∃ v', e = .returned v' ∧ w'.ownsRow w.heap.size 5 1 v' ys.length (ys.map (Value.int .u8)) ∧ Below w.heap.size w w') (hxs : Bts xs ∧ xs.length ≤ 200) (hys : Bts ys ∧ ys.length ≤ 200) (hf : l2B xs ys = false) (hsl : Sls l) (hsm : Sls m) (cb : Nat) (h2 : 2 ≤ l.length) (h3 : 2 ≤ m.length) (hcb : FB l cb) (o0 o1 : Ck) (i0 : L8At (sd l cb 0) (sd m cb 0) o0) (i1 : L8At (sd l cb 1) (sd m cb 1) o1) : L8At l m (ckOr o0 o1) := by
  refine ⟨fun v u w hv hu => ?_⟩
  have hA := fun w' h => hA v w' (hv.below (w' := w') h)
  have hB := fun w' h => hB u w' (hu.below (w' := w') h)
  have hL := fun A B v u w hv hu => l2Clash_any A B v u xs ys w hv hu hxs.1 hys.1 (by omega) (by omega)
  rw [hf] at hL
  have hn2 : ¬ (l.length : Int) < 2 := by omega
  have hn3 : ¬ (m.length : Int) < 2 := by omega
  have hFk := fun w' h => l6Fork_any v l cb w' (hv.below (w' := w') h) hsl h2 hcb
  have hSa := fun s w' h => l6Side_any v l cb s w' (hv.below (w' := w') h) hsl hcb.le
  have hSb := fun s w' h => l6Side_any u m cb s w' (hu.below (w' := w') h) hsm hcb.le
  obtain ⟨a, c, rfl⟩ := hv.shape
  obtain ⟨a', c', rfl⟩ := hu.shape
  generalize l.length = n at *
  generalize m.length = n' at *
  clear hv hu hf
  have hr0 := R0.new w
  go_enter Tryd.func18, Tryd.ntmps18
  go_wp2_with fail
  refine (hA _ (one_new _)).mono ?_
  rintro e w1 ⟨v1, rfl, own1, hb1⟩
  have hB1 := below_after_of (one_new _) hb1
  have hr1 := hr0.below hb1
  obtain ⟨a1, c1, rfl⟩ := own_shape own1
  clear hA hb1 hr0
  go_wp2_with fail
  refine (hB _ hB1).mono ?_
  rintro e w2 ⟨v2, rfl, own2, hb2⟩
  have hB2 := below_after_of hB1 hb2
  have hr2 := hr1.below hb2
  have own1 := own_below own1 hb2
  obtain ⟨a2, c2, rfl⟩ := own_shape own2
  clear hB hb2 hr1 hB1
  go_wp2_with fail
  refine (hL _ _ _ _ _ own1 own2).mono ?_
  rintro e w3 ⟨hb3, v3, v3', rfl, hr3⟩
  have hB3 := below_after_of hB2 hb3
  have hR3 := hr2.below hb3
  obtain ⟨⟨a3, c3, rfl⟩, a4, c4, rfl⟩ := hr3.shape
  obtain ⟨p, hp⟩ : ∃ p, p = (pick false xs).length := ⟨_, rfl⟩
  obtain ⟨q, hq⟩ : ∃ q, q = (pick false ys).length := ⟨_, rfl⟩
  rw [← hp, ← hq]
  have hz := hr2.lt
  have hlt := hR3.lt
  have hNW := one_new (w := w3) (.cells #[.bool false, .slice a3 p c3, .slice a4 q c4] 26)
  have hRW := hR3.below hNW
  obtain ⟨k0', k1', k2', f0', f1', f2'⟩ := three_cellsV hRW.h
  obtain ⟨k0, k1, k2, f0, f1, f2⟩ := three_cellsV hR3.h
  have hBW := below_after_of hB3 hNW
  clear hL hb3 hr2 own1 own2 hr3 hp hq
  go_wp2_with fail
  refine (hFk _ hBW).mono ?_
  rintro e w4 ⟨rfl, hb4⟩
  have hB4 := below_after_of hBW hb4
  have hR4 := hRW.below hb4
  clear hFk hb4
  go_wp2_with fail
  refine (hSa 0 _ hB4).mono ?_
  rintro e w5 ⟨a5, c5, rfl, own5, hb5⟩
  have hB5 := below_after_of hB4 hb5
  have hR5 := hR4.below hb5
  clear hb5 hR4
  go_wp2_with fail
  refine (hSb 0 _ hB5).mono ?_
  rintro e w6 ⟨a6, c6, rfl, own6, hb6⟩
  have hB6 := below_after_of hB5 hb6
  have hR6 := hR5.below hb6
  have own5 := own_below own5 hb6
  clear hb6 hR5 hB5
  go_wp2_with fail
  refine (i0.c _ _ _ (own_prs own5) (own_prs own6)).mono ?_
  rintro e w7 ⟨hb7, a7, n7, c7, a8, n8, c8, rfl, hr7⟩
  have hB7 := below_after_of hB6 hb7
  have hR7 := hR6.below hb7
  have hlt6 := hR6.lt
  have HR7 : Hid (Rows2 w6 w7 (.slice a7 n7 c7) (.slice a8 n8 c8) (opF o0) (op1 o0) (op2 o0)) := hr7
  clear own5 own6 hr7 hb7 hR6
  rcases o0 with _ | ⟨ls, bs⟩
  · have hNW7 := one_new (w := w7) (.cells #[.bool false, .slice a7 n7 c7, .slice a8 n8 c8] 26)
    have hBW7 := below_after_of hB7 hNW7
    have hRW7 := hR7.below hNW7
    have eo : opF (none : Ck) = false := rfl
    rw [eo]
    go_wp2_with fail
    refine (hSa 1 _ hBW7).mono ?_
    rintro e x5 ⟨a9, c9, rfl, own9, hb9⟩
    have hB9 := below_after_of hBW7 hb9
    have hR9 := hRW7.below hb9
    clear hb9 hRW7 hSa
    go_wp2_with fail
    refine (hSb 1 _ hB9).mono ?_
    rintro e x6 ⟨a10, c10, rfl, own10, hb10⟩
    have hB10 := below_after_of hB9 hb10
    have hR10 := hR9.below hb10
    have own9 := own_below own9 hb10
    clear hb10 hR9 hSb
    go_wp2_with fail
    refine (i1.c _ _ _ (own_prs own9) (own_prs own10)).mono ?_
    rintro e x7 ⟨hb11, a11, n11, c11, a12, n12, c12, rfl, hr11⟩
    have hB11 := below_after_of hB10 hb11
    have hR11 := hR10.below hb11
    have hlt10 := hR10.lt
    have HR11 : Hid (Rows2 x6 x7 (.slice a11 n11 c11) (.slice a12 n12 c12) (opF o1) (op1 o1) (op2 o1)) := hr11
    obtain ⟨j0, j1, j2, g0, g1, g2⟩ := three_cellsV hR11.h
    have HO : Hid (ckOr none o1 = o1) := rfl
    generalize hof : opF o1 = fo at *
    clear own9 own10 hr11 hb11 hR10
    go_wp2
    refine bodyPost_ret (v := .agg #[.bool fo, .slice a11 n11 c11, .slice a12 n12 c12]) (by simp [results, Tryd.results18, go_sem, *]) rfl ?_
    rw [HO.out]
    show ClAns w (opF o1) (op1 o1) (op2 o1) _ _
    rw [hof]
    exact ⟨((hB11.setCell (Nat.le_refl _) _).setCell (Nat.le_refl _) _).setCell (Nat.le_refl _) _, _, _, _, _, _, _, rfl, (((HR11.out.set hlt10 _ _).set hlt10 _ _).set hlt10 _ _).under hB10.size⟩
  · have hNW7 := one_new (w := w7) (.cells #[.bool true, .slice a7 n7 c7, .slice a8 n8 c8] 26)
    have hBW7 := below_after_of hB7 hNW7
    have hRW7 := hR7.below hNW7
    have hlt7 := hR7.lt
    obtain ⟨j0, j1, j2, g0, g1, g2⟩ := three_cellsV hRW7.h
    obtain ⟨i00, i01, i02, g00, g01, g02⟩ := three_cellsV hR7.h
    have eo : opF (some (ls, bs) : Ck) = true := rfl
    rw [eo]
    clear hSa hSb
    go_wp2
    exact bodyPost_ret (v := .agg #[.bool true, .slice a7 n7 c7, .slice a8 n8 c8]) (by simp [results, Tryd.results18, go_sem, *]) rfl ⟨(((hB7.setCell (Nat.le_refl _) _).setCell (Nat.le_refl _) _).setCell (Nat.le_refl _) _).alloc (((hB7.setCell (Nat.le_refl _) _).setCell (Nat.le_refl _) _).setCell (Nat.le_refl _) _).size _, _, _, _, _, _, _, rfl, ((((HR7.out.set hlt6 _ _).set hlt6 _ _).set hlt6 _ _).below (one_new _)).under hB6.size⟩
end U
end Go.Proofs.YtljbcpkjhnbpeaaDoor

/- The new tree of slots, as the program makes it. -/
namespace Go.Proofs.YtljbcpkjhnbpeaaDoor
open Go.RowKit
namespace U
set_option maxRecDepth 100000 in
theorem trieOf_none (a : Option Addr) (c : Nat) (w : World) : Calls Tryd.prog 25 #[.slice a 0 c] w fun e w' => e = .returned Tr.none.val ∧ Below w.heap.size w w' := by
  rw [Tr.val_none]
  go_enter Tryd.func25, Tryd.ntmps25
  go_wp2
  go_ret
  exact ⟨rfl, Below.refl _ _⟩
set_option maxRecDepth 100000 in
theorem trieOf_leaf (b off c : Nat) (k v : Int) (w : World) (c0 : w.cell? ⟨b, off, none⟩ = some (.int .i64 k)) (c1 : w.cell? ⟨b, off + 1, none⟩ = some (.int .i64 v)) :
    Calls Tryd.prog 25 #[.slice (some ⟨b, off, none⟩) 1 c] w fun e w' => e = .returned (Tr.leaf k v).val ∧ Below w.heap.size w w' := by
  rw [Tr.val_leaf]
  go_enter Tryd.func25, Tryd.ntmps25
  go_wp2
  go_ret
  exact ⟨rfl, Below.refl _ _⟩
/-- What the program makes of a slice, from a world on. -/
structure TrAt (W : World) (v x : Value) : Prop where
  c : ∀ w', Below W.heap.size W w' → Calls Tryd.prog 25 #[v] w' fun e w'' => e = .returned x ∧ Below w'.heap.size w' w''
set_option maxRecDepth 100000 in
set_option maxHeartbeats 1000000 in
theorem trieOf_fork (l : Prl) (b : Nat) (L R : Tr) (h2 : 2 ≤ l.length) (hb : FB l b)
    (ih1 : ∀ (v : Value) (w : World), Prs w v (sd l b 0) → Okv v → Calls Tryd.prog 25 #[v] w fun e w' => e = .returned L.val ∧ Below w.heap.size w w')
    (ih2 : ∀ (v : Value) (w : World), Prs w v (sd l b 1) → Okv v → Calls Tryd.prog 25 #[v] w fun e w' => e = .returned R.val ∧ Below w.heap.size w w')
    (v : Value) (w : World) (hv : Prs w v l) (hcap : Okv v) (hs : Sls l) :
    Calls Tryd.prog 25 #[v] w fun e w' => e = .returned (Tr.fork b L R).val ∧ Below w.heap.size w w' := by
  have hF := fun w' h => forkBitOf_any v l b w' (hv.below h) hs h2 hb
  have hP := fun w' h => placeOf_any v l (ones l b) w' (hv.below h) hs.len hs.ris
  obtain ⟨a, c, rfl⟩ := hv.shape
  obtain ⟨-, bb, off, rfl, hlt, hc⟩ := hv.at (by omega)
  have hcp := (hcap _ _ _ rfl).1
  have hn := hs.len
  have hb7 := hb.le
  have c1 := (hc (l.length - 1) (by omega)).1
  have hK := (hs.at (show l.length - 1 < l.length by omega)).1
  have e0 := sd_zero hs.ris hb (by omega)
  have e1 := sd_one hs.ris hb (by omega)
  have hlo : 0 < low l (ones l b) ∧ low l (ones l b) < l.length := by
    have s0 := fb_some (s := 0) hb (by omega) (Or.inl rfl)
    have s1 := fb_some (s := 1) hb (by omega) (Or.inr rfl)
    rw [e0, List.length_take] at s0
    rw [e1, List.length_drop] at s1
    omega
  have hp1 : ∀ cc, Prs w (.slice (some ⟨bb, off, none⟩) (low l (ones l b)) cc) (sd l b 0) := fun cc => by
    rw [e0]
    exact prs_part (i := 0) rfl hlt (Nat.zero_le _) (Nat.le_of_lt hlo.2) hc
  have hp2 : ∀ cc, Prs w (.slice (some ⟨bb, off + low l (ones l b) * 2, none⟩) (l.length - low l (ones l b)) cc) (sd l b 1) := fun cc => by
    have := prs_part (c := cc) rfl hlt (show low l (ones l b) ≤ l.length by omega) (Nat.le_refl _) hc
    rw [List.take_length] at this
    rw [e1]
    exact this
  have hX : wrap64 ((pAt l (l.length - 1)).1 / 2 ^ b * 2 ^ b) = ones l b := by
    have h1 := Int.ediv_mul_le (pAt l (l.length - 1)).1 (Int.ne_of_gt (pow_pos b))
    have h3 : 0 ≤ ones l b := Int.mul_nonneg (Int.ediv_nonneg hK.1 (Int.le_of_lt (pow_pos b))) (Int.le_of_lt (pow_pos b))
    have e : (pAt l (l.length - 1)).1 / 2 ^ b * 2 ^ b = ones l b := by unfold ones; rw [Int.natCast_pow]; rfl
    rw [e]
    have h4 : ones l b ≤ (pAt l (l.length - 1)).1 := h1
    generalize ones l b = z at *
    generalize (pAt l (l.length - 1)).1 = y at *
    go_arith
  generalize (pAt l (l.length - 1)).1 = q at *
  generalize ones l b = X at *
  generalize low l X = lo at *
  generalize thr l X = th at *
  have T1 : TrAt w (.slice (some ⟨bb, off, none⟩) lo c) L.val := ⟨fun w' h => ih1 _ w' ((hp1 c).below (w' := w') h) (by intro a n c' e; cases e; exact ⟨by omega, fun h => by cases h⟩)⟩
  have T2 : TrAt w (.slice (some ⟨bb, off + lo * 2, none⟩) (l.length - lo) (c - lo)) R.val := ⟨fun w' h => ih2 _ w' ((hp2 (c - lo)).below (w' := w') h) (by intro a n c' e; cases e; exact ⟨by omega, fun h => by cases h⟩)⟩
  clear ih1 ih2 hp1 hp2 e0 e1 hc hv hs hcap hb
  generalize l.length = n at *
  obtain ⟨m, rfl⟩ : ∃ m, n = m + 1 := ⟨n - 1, by omega⟩
  rw [Nat.add_sub_cancel] at c1
  rw [Tr.val_fork]
  obtain ⟨tL, xL, eL⟩ := L.isIface
  obtain ⟨tR, xR, eR⟩ := R.isIface
  rw [eL] at T1 ⊢
  rw [eR] at T2 ⊢
  clear eL eR
  have hm1 : 1 ≤ m := by omega
  have hm2 : m ≤ 11 := by omega
  have hb0 : (0 : Int) ≤ (b : Int) := by omega
  have hb8 : (b : Int) ≤ 64 := by omega
  have d1 : ¬ ((m : Int) + 1 = 0) := by omega
  have d2 : ¬ ((m : Int) + 1 = 1) := by omega
  have d3 : ¬ (m = 0) := by omega
  go_enter Tryd.func25, Tryd.ntmps25
  go_wp2_with fail
  refine (hF _ (Below.refl _ _)).mono ?_
  rintro e w1 ⟨rfl, k1, rfl⟩
  have hb1 : Below w.heap.size w (w.drewN k1) := below_drewN (Below.refl _ _) _
  clear hF
  go_wp2_with fail
  refine (hP _ hb1).mono ?_
  rintro e w2 ⟨rfl, hb2⟩
  have hB2 := below_after_of hb1 hb2
  have hne := After.ne w2
  clear hP hb1 hb2
  go_wp2_with fail
  refine wp_region_after (by kernel_rfl) (by kernel_rfl) ?_
  repeat (first | go_big_quiet_skip | (go_big_quiet_want; go_big_quiet_op; first | go_big_quiet_on | go_big_quiet_call (first
    | (go_at_call 25; refine (TrAt.c (by assumption) _ (below_after_of hB2 (After.b _))).mono ?_; rintro e wq ⟨rfl, hbq⟩; exact ⟨rfl, after_mk (below_after_of (After.b _) hbq)⟩))))
  refine wpQuiet_nil ?_
  rintro _ ⟨n3, rfl⟩
  have hB3 := below_after_of hB2 n3.b
  generalize n3.w = w3 at *
  clear hne n3 hB2 T1 T2
  go_wp2
  go_ret
  exact ⟨rfl, hB3⟩
theorem trieOf_any {l : Prl} {t : Tr} (h : IsTr l t) : ∀ (v : Value) (w : World), Sls l → Prs w v l → Okv v → Calls Tryd.prog 25 #[v] w fun e w' => e = .returned t.val ∧ Below w.heap.size w w' := by
  induction h using IsTr.ind with
  | none =>
    intro v w _ hv _
    obtain ⟨a, c, rfl⟩ := hv.shape
    exact trieOf_none a c w
  | leaf k y =>
    intro v w _ hv _
    obtain ⟨a, c, rfl⟩ := hv.shape
    obtain ⟨-, b, off, rfl, -, hc⟩ := hv.at (by simp)
    have h0 := hc 0 (by simp)
    exact trieOf_leaf b off c k y w (by simpa [pAt] using h0.1) (by simpa [pAt] using h0.2)
  | fork h2 hb h3 h4 ih1 ih2 =>
    intro v w hs hv ho
    exact trieOf_fork _ _ _ _ h2 hb (fun v w hp ho => ih1 v w (sd_sls hs _ _) hp ho) (fun v w hp ho => ih2 v w (sd_sls hs _ _) hp ho) v w hv ho hs
end U
end Go.Proofs.YtljbcpkjhnbpeaaDoor

/- How many forks the new tree has, as the program counts them. -/
namespace Go.Proofs.YtljbcpkjhnbpeaaDoor
open Go.RowKit
namespace U
end U
end Go.Proofs.YtljbcpkjhnbpeaaDoor

/- The fork bit, the root, the forks and the piece of slots, as the program answers them. -/
namespace Go.Proofs.YtljbcpkjhnbpeaaDoor
open Go.RowKit
namespace U
/-- The code and the value of the fork bit of a tree. -/
def Tr.fbC (t : Tr) : Int := t.fo 4 (fun _ _ => 4) (fun _ _ _ _ _ => 0)
def Tr.fbV (t : Tr) : Int := t.fo 0 (fun _ _ => 0) (fun b _ _ _ _ => (b : Int))
theorem Tr.fbC_none : Tr.none.fbC = 4 := rfl
theorem Tr.fbC_leaf (k v : Int) : (Tr.leaf k v).fbC = 4 := rfl
theorem Tr.fbC_fork (b : Nat) (l r : Tr) : (Tr.fork b l r).fbC = 0 := rfl
theorem Tr.fbV_none : Tr.none.fbV = 0 := rfl
theorem Tr.fbV_leaf (k v : Int) : (Tr.leaf k v).fbV = 0 := rfl
theorem Tr.fbV_fork (b : Nat) (l r : Tr) : (Tr.fork b l r).fbV = (b : Int) := rfl
set_option maxRecDepth 100000 in
set_option maxHeartbeats 1000000 in
theorem implNewRoot_no (v : Value) (l : Prl) (w : World) (hv : Prs w v l) (hx : l.length ≤ 1099511627776) (h0 : slF l ≠ 0) :
    Calls Tryd.prog 22 #[v] w fun e w' => IntAns w (slF l) 0 e w' := by
  have hF := fun w' h => implSlotsFault_any v l w' (hv.below h) hx
  obtain ⟨ad, c, rfl⟩ := hv.shape
  generalize slF l = f at *
  generalize l.length = n at *
  have hfn : (f != 0) = true := by simpa using h0
  clear hv h0
  go_enter Tryd.func22, Tryd.ntmps22
  go_wp2_with fail
  refine (hF _ (one_new _)).mono ?_
  rintro e w1 ⟨rfl, hb1⟩
  obtain ⟨g0, g1, f0, f1⟩ := two_cellsV ((hb1.block w.heap.size (by simp)).trans (heap_alloc_new w _))
  have hB1 := below_after hb1
  clear hF hb1
  go_wp2
  exact bodyPost_ret (v := .agg #[.int .i64 f, .int .i64 0]) (by simp [results, Tryd.results22, go_sem, *]) rfl ⟨rfl, (hB1.setCell (by simp) _).setCell (by simp) _⟩
set_option maxRecDepth 100000 in
set_option maxHeartbeats 1000000 in
theorem implNewRoot_ok (v : Value) (l : Prl) (t : Tr) (w : World) (hv : Prs w v l) (ho : Okv v) (h0 : slF l = 0) (ht : IsTr l t) :
    Calls Tryd.prog 22 #[v] w fun e w' => IntAns w 0 t.sum e w' := by
  have hs := slF_ok h0
  have hF := fun w' h => implSlotsFault_any v l w' (hv.below h) (by have := hs.len; omega)
  have hT := fun w' h => trieOf_any ht v w' hs (hv.below h) ho
  have hfk : t.forks ≤ 1000 := by have := ht.forks; have := hs.len; omega
  have hQ := (SmAt.c (trieSum_any (ht.ok hs)))
  rw [h0] at hF
  obtain ⟨tT, xT, eT⟩ := t.isIface
  rw [eT] at hT hQ
  obtain ⟨ad, c, rfl⟩ := hv.shape
  generalize t.sum = x at *
  generalize l.length = n at *
  clear hv h0 hs ht ho eT hfk
  go_enter Tryd.func22, Tryd.ntmps22
  go_wp2_with fail
  refine (hF _ (one_new _)).mono ?_
  rintro e w1 ⟨rfl, hb1⟩
  clear hF
  go_wp2_with fail
  refine (hT _ (below_after hb1)).mono ?_
  rintro e w2 ⟨rfl, hb2⟩
  have hb2' := below_after_of hb1 hb2
  clear hT hb1 hb2
  go_wp2_with fail
  refine (hQ _).mono ?_
  rintro e w3 ⟨rfl, hb3⟩
  have hb3' := below_after_of hb2' hb3
  obtain ⟨g0, g1, f0, f1⟩ := two_cellsV ((hb3'.block w.heap.size (by simp)).trans (heap_alloc_new w _))
  have hB3 := below_after hb3'
  clear hQ hb2' hb3 hb3'
  go_wp2
  exact bodyPost_ret (v := .agg #[.int .i64 0, .int .i64 x]) (by simp [results, Tryd.results22, go_sem, *]) rfl ⟨rfl, (hB3.setCell (by simp) _).setCell (by simp) _⟩
end U
end Go.Proofs.YtljbcpkjhnbpeaaDoor

/- A clash in two new trees: what the program and the model answer at every two sets of slots. -/
namespace Go.Proofs.YtljbcpkjhnbpeaaDoor
open Go.RowKit
namespace U
theorem tcl_out {a : Tr} : ∀ {b : Tr} {xs ys : List Int}, a.Ok → b.Ok → tcl a b = some (xs, ys) → l2B xs ys = true ∧ (Bts xs ∧ xs.length ≤ 200) ∧ (Bts ys ∧ ys.length ≤ 200) := by
  have top : ∀ {a b : Tr} {xs ys : List Int}, a.Ok → b.Ok → l2B a.bts b.bts = true → tcl a b = some (xs, ys) → l2B xs ys = true ∧ (Bts xs ∧ xs.length ≤ 200) ∧ (Bts ys ∧ ys.length ≤ 200) := by
    intro a b xs ys ha hb h e
    rw [tcl_hit h] at e
    cases e
    exact ⟨h, ha.two, hb.two⟩
  induction a using Tr.ind with
  | none =>
    intro b xs ys ha hb e
    rcases Bool.eq_false_or_eq_true (l2B Tr.none.bts b.bts) with h | h
    · exact top ha hb h e
    · rw [tcl_n h] at e; cases e
  | leaf k v =>
    intro b xs ys ha hb e
    rcases Bool.eq_false_or_eq_true (l2B (Tr.leaf k v).bts b.bts) with h | h
    · exact top ha hb h e
    · rw [tcl_l h] at e; cases e
  | fork c l r ih1 ih2 =>
    intro b xs ys ha hb e
    rcases Bool.eq_false_or_eq_true (l2B (Tr.fork c l r).bts b.bts) with h | h
    · exact top ha hb h e
    · rcases b.three with rfl | ⟨k, v, rfl⟩ | ⟨c', l', r', rfl⟩
      · rw [tcl_fn h] at e; cases e
      · rw [tcl_fl h] at e; cases e
      · rw [tcl_fork h] at e
        rcases hh : tcl l l' with _ | x
        · rw [hh] at e
          exact ih2 ha.2.2 hb.2.2 e
        · rw [hh] at e
          obtain ⟨x1, x2⟩ := x
          have e2 : (some (x1, x2) : Ck) = some (xs, ys) := e
          cases e2
          exact ih1 ha.2.1 hb.2.1 hh
theorem l8_any {l : Prl} {a : Tr} (ha : IsTr l a) : ∀ {m : Prl} {b : Tr}, IsTr m b → Sls l → Sls m → a.sum = b.sum → L8At l m (tcl a b) := by
  induction ha using IsTr.ind with
  | none =>
    intro m b hb hl hm hs
    have hA := l6Bytes_any IsTr.none hl
    have hB := l6Bytes_any hb hm
    have oA := (IsTr.none.ok hl).two
    have oB := (hb.ok hm).two
    rcases Bool.eq_false_or_eq_true (l2B Tr.none.bts b.bts) with h | h
    · rw [tcl_hit h]; exact l8_hit hA.c hB.c oA oB h
    · rw [tcl_n h]; exact l8_shortA hA.c hB.c oA oB h (by simp)
  | leaf k v =>
    intro m b hb hl hm hs
    have hA := l6Bytes_any (IsTr.leaf k v) hl
    have hB := l6Bytes_any hb hm
    have oA := ((IsTr.leaf k v).ok hl).two
    have oB := (hb.ok hm).two
    rcases Bool.eq_false_or_eq_true (l2B (Tr.leaf k v).bts b.bts) with h | h
    · rw [tcl_hit h]; exact l8_hit hA.c hB.c oA oB h
    · rw [tcl_l h]; exact l8_shortA hA.c hB.c oA oB h (by simp)
  | fork h2 hb2 h3 h4 ih1 ih2 =>
    rename_i l c L R
    intro m b hb hl hm hs
    have hA := l6Bytes_any (IsTr.fork h2 hb2 h3 h4) hl
    have hB := l6Bytes_any hb hm
    have oA := ((IsTr.fork h2 hb2 h3 h4).ok hl).two
    have oB := (hb.ok hm).two
    rcases Bool.eq_false_or_eq_true (l2B (Tr.fork c L R).bts b.bts) with h | h
    · rw [tcl_hit h]; exact l8_hit hA.c hB.c oA oB h
    · have e := l2B_same8 h hs
      rw [Tr.bts_fork] at e
      induction hb using IsTr.cs with
      | none => rw [Tr.bts_none] at e; have := tag_head e; omega
      | leaf k' v' => rw [Tr.bts_leaf] at e; have := tag_head e; omega
      | fork k2 kb k3 k4 =>
        rename_i m c' L' R'
        rw [Tr.bts_fork] at e
        obtain ⟨e1, e2, e3⟩ := tag3_inj8 e
        have ec : c' = c := by omega
        subst ec
        rw [tcl_fork h]
        exact l8_fork hA.c hB.c oA oB h hl hm c' h2 k2 hb2 _ _ (ih1 k3 (sd_sls hl _ _) (sd_sls hm _ _) e2) (ih2 k4 (sd_sls hl _ _) (sd_sls hm _ _) e3)
/-- What is known of what comes of two sets of slots. -/
structure TcOut (l m : Prl) (code : Int) (o : Ck) : Prop where
  same : code = 0 → o = none → l = m
  hit : ∀ xs ys, o = some (xs, ys) → code = 0 ∧ l2B xs ys = true ∧ (Bts xs ∧ xs.length ≤ 200) ∧ (Bts ys ∧ ys.length ≤ 200)
set_option maxRecDepth 100000 in
set_option maxHeartbeats 2000000 in
theorem specTreeClash_bad (v u : Value) (l m : Prl) (w : World) (hv : Prs w v l) (hu : Prs w u m) (hx : l.length ≤ 1048576) (hy : m.length ≤ 1048576) (h : l8C l m ≠ 0) :
    Calls Tryd.prog 6 #[v, u] w fun e w' => ClashAns w (l8C l m) false [] [] e w' := by
  have hT := fun w' h => l8Two_any v u l m w' (hv.below (w' := w') h) (hu.below h) hx hy
  obtain ⟨a, c, rfl⟩ := hv.shape
  obtain ⟨a', c', rfl⟩ := hu.shape
  generalize l8C l m = q at *
  generalize l.length = n at *
  generalize m.length = n' at *
  have hq : (q != 0) = true := by simpa using h
  clear hv hu h
  go_enter Tryd.func6, Tryd.ntmps6
  go_wp2_with fail
  refine (hT _ (one_new _)).mono ?_
  rintro e w1 ⟨rfl, hb1⟩
  obtain ⟨q0, q1, q2, q3, f0, f1, f2, f3⟩ := four_cells ((hb1.block w.heap.size (by simp)).trans (heap_alloc_new w _))
  have hB1 := below_after hb1
  clear hT hb1
  go_wp2
  exact bodyPost_ret (v := .agg #[.int .i64 q, .bool false, .slice none 0 0, .slice none 0 0]) (by simp [results, Tryd.results6, go_sem, *]) rfl ⟨(((hB1.setCell (Nat.le_refl _) _).setCell (Nat.le_refl _) _).setCell (Nat.le_refl _) _).setCell (Nat.le_refl _) _, _, _, rfl, Rows2.nil _ _ _ _⟩
set_option maxRecDepth 100000 in
set_option maxHeartbeats 2000000 in
theorem specTreeClash_root (v u : Value) (l m : Prl) (x y : Int) (w : World) (hv : Prs w v l) (hu : Prs w u m) (hx : l.length ≤ 1048576) (hy : m.length ≤ 1048576) (h : l8C l m = 0) (ra : RtAt l x) (rb : RtAt m y) (hxy : x ≠ y) :
    Calls Tryd.prog 6 #[v, u] w fun e w' => ClashAns w 9 false [] [] e w' := by
  have hT := fun w' h => l8Two_any v u l m w' (hv.below (w' := w') h) (hu.below h) hx hy
  have hA := fun w' h => ra.c v w' (hv.below (w' := w') h)
  have hB := fun w' h => rb.c u w' (hu.below (w' := w') h)
  rw [h] at hT
  obtain ⟨a, c, rfl⟩ := hv.shape
  obtain ⟨a', c', rfl⟩ := hu.shape
  generalize l.length = n at *
  generalize m.length = n' at *
  have hq : (x != y) = true := by simpa using hxy
  clear hv hu h hxy
  go_enter Tryd.func6, Tryd.ntmps6
  go_wp2_with fail
  refine (hT _ (one_new _)).mono ?_
  rintro e w1 ⟨rfl, hb1⟩
  have hB1 := below_after hb1
  clear hT
  go_wp2_with fail
  refine (hA _ hB1).mono ?_
  rintro e w2 ⟨rfl, hb2⟩
  have hB2 := below_after_of hB1 hb2
  have hb2 := below_after_of hb1 hb2
  clear hA
  go_wp2_with fail
  refine (hB _ hB2).mono ?_
  rintro e w3 ⟨rfl, hb3⟩
  have hB3 := below_after_of hB2 hb3
  obtain ⟨q0, q1, q2, q3, f0, f1, f2, f3⟩ := four_cells (((below_after_of hb2 hb3).block w.heap.size (by simp)).trans (heap_alloc_new w _))
  clear hB hb3 hb2 hb1 hB1 hB2
  go_wp2
  exact bodyPost_ret (v := .agg #[.int .i64 9, .bool false, .slice none 0 0, .slice none 0 0]) (by simp [results, Tryd.results6, go_sem, *]) rfl ⟨(((hB3.setCell (Nat.le_refl _) _).setCell (Nat.le_refl _) _).setCell (Nat.le_refl _) _).setCell (Nat.le_refl _) _, _, _, rfl, Rows2.nil _ _ _ _⟩
set_option maxRecDepth 100000 in
set_option maxHeartbeats 2000000 in
theorem specTreeClash_ok (v u : Value) (l m : Prl) (x : Int) (o : Ck) (w : World) (hv : Prs w v l) (hu : Prs w u m) (hx : l.length ≤ 1048576) (hy : m.length ≤ 1048576) (h : l8C l m = 0) (ra : RtAt l x) (rb : RtAt m x) (ho : L8At l m o) :
    Calls Tryd.prog 6 #[v, u] w fun e w' => ClashAns w 0 (opF o) (op1 o) (op2 o) e w' := by
  have hT := fun w' h => l8Two_any v u l m w' (hv.below (w' := w') h) (hu.below h) hx hy
  have hA := fun w' h => ra.c v w' (hv.below (w' := w') h)
  have hB := fun w' h => rb.c u w' (hu.below (w' := w') h)
  have hO := fun w' h => ho.c v u w' (hv.below (w' := w') h) (hu.below h)
  rw [h] at hT
  obtain ⟨a, c, rfl⟩ := hv.shape
  obtain ⟨a', c', rfl⟩ := hu.shape
  generalize l.length = n at *
  generalize m.length = n' at *
  clear hv hu h
  go_enter Tryd.func6, Tryd.ntmps6
  go_wp2_with fail
  refine (hT _ (one_new _)).mono ?_
  rintro e w1 ⟨rfl, hb1⟩
  have hB1 := below_after hb1
  clear hT
  go_wp2_with fail
  refine (hA _ hB1).mono ?_
  rintro e w2 ⟨rfl, hb2⟩
  have hB2 := below_after_of hB1 hb2
  have hb2 := below_after_of hb1 hb2
  clear hA
  go_wp2_with fail
  refine (hB _ hB2).mono ?_
  rintro e w3 ⟨rfl, hb3⟩
  have hB3 := below_after_of hB2 hb3
  have hb3 := below_after_of hb2 hb3
  clear hB hb2 hB2 hB1 hb1
  go_wp2_with fail
  refine (hO _ hB3).mono ?_
  rintro e w4 ⟨hb4, a1, n1, c1, a2, n2, c2, rfl, hr⟩
  have hB4 := below_after_of hB3 hb4
  have HR : Hid (Rows2 w3 w4 (.slice a1 n1 c1) (.slice a2 n2 c2) (opF o) (op1 o) (op2 o)) := hr
  obtain ⟨q0, q1, q2, q3, f0, f1, f2, f3⟩ := four_cells (((below_after_of hb3 hb4).block w.heap.size (by simp)).trans (heap_alloc_new w _))
  have hz : w.heap.size < w3.heap.size := Nat.lt_of_lt_of_le (by simp) hb3.size
  generalize hf : opF o = f at *
  clear hO hb4 hb3 hr
  go_wp2
  refine bodyPost_ret (v := .agg #[.int .i64 0, .bool f, .slice a1 n1 c1, .slice a2 n2 c2]) (by simp [results, Tryd.results6, go_sem, *]) rfl ?_
  show ClashAns w 0 (opF o) (op1 o) (op2 o) _ _
  rw [hf]
  exact ⟨(((hB4.setCell (Nat.le_refl _) _).setCell (Nat.le_refl _) _).setCell (Nat.le_refl _) _).setCell (Nat.le_refl _) _, _, _, rfl, ((((HR.out.set hz _ _).set hz _ _).set hz _ _).set hz _ _).under hB3.size⟩
end U
end Go.Proofs.YtljbcpkjhnbpeaaDoor

/- A clash in two old trees: the walk whole, by the program and by the model. -/
namespace Go.Proofs.YtljbcpkjhnbpeaaDoor
open Go.RowKit
namespace U
theorem box1_cellO {w : World} {b : Nat} {v : Value} {t : TypeId} (h : w.heap[b]? = some (.cells #[v] t (0, 0))) : w.cell? ⟨b, 0, none⟩ = some v := by unfold World.cell?; rw [h]; rfl
theorem otc_zero (l m : Prl) (q : Int) : otc l m 0 q = ckO (ptL l 0 q) (ptL m 0 q) := rfl
theorem otc_hit {l m : Prl} {n : Nat} {q : Int} (h : l2B (ptL l (n + 1) q) (ptL m (n + 1) q) = true) : otc l m (n + 1) q = some (ptL l (n + 1) q, ptL m (n + 1) q) := by
  show (if l2B (optL l n q) (optL m n q) = true then _ else _) = _
  rw [if_pos (show l2B (optL l n q) (optL m n q) = true from h)]
  rfl
theorem otc_miss {l m : Prl} {n : Nat} {q : Int} (h : l2B (ptL l (n + 1) q) (ptL m (n + 1) q) = false) : otc l m (n + 1) q = ckOr (otc l m n (2 * q)) (otc l m n (2 * q + 1)) := by
  show (if l2B (optL l n q) (optL m n q) = true then _ else _) = _
  rw [if_neg (by rw [show l2B (optL l n q) (optL m n q) = false from h]; decide)]
  rfl
theorem otc_out {l m : Prl} (h0 : slF l = 0) (h1 : slF m = 0) : ∀ (n : Nat) (q : Int) {xs ys : List Int}, 0 ≤ q → (q + 1) * (2 ^ n : Nat) ≤ 256 → otc l m n q = some (xs, ys) → l2B xs ys = true ∧ (Bts xs ∧ xs.length ≤ 200) ∧ (Bts ys ∧ ys.length ≤ 200) := by
  intro n
  induction n with
  | zero =>
    intro q xs ys hq hb e
    have hq2 : 0 ≤ q ∧ q ≤ 255 := by simp at hb; omega
    rw [otc_zero] at e
    rcases Bool.eq_false_or_eq_true (l2B (ptL l 0 q) (ptL m 0 q)) with h | h
    · rw [ckO_yes h] at e
      cases e
      exact ⟨h, ptL_ok h0 0 (fun _ => hq2), ptL_ok h1 0 (fun _ => hq2)⟩
    · rw [ckO_no h] at e; cases e
  | succ n ih =>
    intro q xs ys hq hb e
    rcases Bool.eq_false_or_eq_true (l2B (ptL l (n + 1) q) (ptL m (n + 1) q)) with h | h
    · rw [otc_hit h] at e
      cases e
      exact ⟨h, ptL_ok h0 (n + 1) (fun h => by cases h), ptL_ok h1 (n + 1) (fun h => by cases h)⟩
    · rw [otc_miss h] at e
      have hp : ((2 ^ (n + 1) : Nat) : Int) = 2 * ((2 ^ n : Nat) : Int) := by rw [Nat.pow_succ]; omega
      have hp0 : (0 : Int) < ((2 ^ n : Nat) : Int) := pow_pos n
      rw [hp] at hb
      generalize ((2 ^ n : Nat) : Int) = P at *
      have hb2 : 2 * (q * P) + 2 * P ≤ 256 := by
        have : (q + 1) * (2 * P) = 2 * (q * P) + 2 * P := by rw [Int.add_mul, Int.one_mul, Int.mul_left_comm]
        omega
      rcases hh : otc l m n (2 * q) with _ | ⟨x1, x2⟩
      · rw [hh, ckOr_none] at e
        refine ih (2 * q + 1) (by omega) ?_ e
        have : (2 * q + 1 + 1) * P = 2 * (q * P) + 2 * P := by rw [show 2 * q + 1 + 1 = 2 * (q + 1) by omega, Int.mul_assoc, Int.add_mul, Int.one_mul, Int.mul_add]
        omega
      · rw [hh, ckOr_some] at e
        cases e
        refine ih (2 * q) (by omega) ?_ hh
        have : (2 * q + 1) * P = 2 * (q * P) + P := by rw [Int.add_mul, Int.one_mul, Int.mul_assoc]
        omega
theorem ow_L0 {l m : Prl} (h0 : slF l = 0) (h1 : slF m = 0) {f q : Int} (e : f = q * 1) (hq : 0 ≤ f ∧ f + 1 ≤ 256) : OwAt l m 0 f (otc l m 0 q) := by
  have ef : f = q := by omega
  subst ef
  have hq2 : 0 ≤ f ∧ f ≤ 255 := by omega
  rw [otc_zero]
  rcases Bool.eq_false_or_eq_true (l2B (ptL l 0 f) (ptL m 0 f)) with h | h
  · rw [ckO_yes h]; exact ow_hit (partBytes_0 h0 hq2) (partBytes_0 h1 hq2) (ptL_ok h0 0 (fun _ => hq2)) (ptL_ok h1 0 (fun _ => hq2)) h
  · rw [ckO_no h]; exact ow_miss_0 (partBytes_0 h0 hq2) (partBytes_0 h1 hq2) (ptL_ok h0 0 (fun _ => hq2)) (ptL_ok h1 0 (fun _ => hq2)) h
theorem o8_L0 {l m : Prl} (h0 : slF l = 0) (h1 : slF m = 0) {f q : Int} (e : f = q * 1) (hq : 0 ≤ f ∧ f + 1 ≤ 256) : O8At l m 0 f (otc l m 0 q) := by
  have ef : f = q := by omega
  subst ef
  rw [otc_zero]
  exact o8_0 h0 h1 (by omega)
theorem ow_L1 {l m : Prl} (h0 : slF l = 0) (h1 : slF m = 0) {f q : Int} (e : f = q * 2) (hq : 0 ≤ f ∧ f + 2 ≤ 256) : OwAt l m 1 f (otc l m 1 q) := by
  have pa := partBytes_1 (l := l) (f := f) (q := q) h0 e (by omega)
  have pb := partBytes_1 (l := m) (f := f) (q := q) h1 e (by omega)
  have oa := ptL_ok (l := l) h0 1 (q := q) (fun h => by cases h)
  have ob := ptL_ok (l := m) h1 1 (q := q) (fun h => by cases h)
  rcases Bool.eq_false_or_eq_true (l2B (ptL l 1 q) (ptL m 1 q)) with h | h
  · rw [otc_hit h]; exact ow_hit pa pb oa ob h
  · rw [otc_miss h]; exact ow_miss_1 pa pb oa ob h (by omega) _ _ (ow_L0 h0 h1 (by omega) (by omega)) (ow_L0 h0 h1 (by omega) (by omega))
theorem o8_L1 {l m : Prl} (h0 : slF l = 0) (h1 : slF m = 0) {f q : Int} (e : f = q * 2) (hq : 0 ≤ f ∧ f + 2 ≤ 256) : O8At l m 1 f (otc l m 1 q) := by
  rcases Bool.eq_false_or_eq_true (l2B (ptL l 1 q) (ptL m 1 q)) with h | h
  · rw [otc_hit h]; exact o8_hit_1 h0 h1 e (by omega) h
  · rw [otc_miss h]; exact o8_miss_1 h0 h1 e (by omega) h _ _ (o8_L0 h0 h1 (by omega) (by omega)) (o8_L0 h0 h1 (by omega) (by omega))
theorem ow_L2 {l m : Prl} (h0 : slF l = 0) (h1 : slF m = 0) {f q : Int} (e : f = q * 4) (hq : 0 ≤ f ∧ f + 4 ≤ 256) : OwAt l m 2 f (otc l m 2 q) := by
  have pa := partBytes_2 (l := l) (f := f) (q := q) h0 e (by omega)
  have pb := partBytes_2 (l := m) (f := f) (q := q) h1 e (by omega)
  have oa := ptL_ok (l := l) h0 2 (q := q) (fun h => by cases h)
  have ob := ptL_ok (l := m) h1 2 (q := q) (fun h => by cases h)
  rcases Bool.eq_false_or_eq_true (l2B (ptL l 2 q) (ptL m 2 q)) with h | h
  · rw [otc_hit h]; exact ow_hit pa pb oa ob h
  · rw [otc_miss h]; exact ow_miss_2 pa pb oa ob h (by omega) _ _ (ow_L1 h0 h1 (by omega) (by omega)) (ow_L1 h0 h1 (by omega) (by omega))
theorem o8_L2 {l m : Prl} (h0 : slF l = 0) (h1 : slF m = 0) {f q : Int} (e : f = q * 4) (hq : 0 ≤ f ∧ f + 4 ≤ 256) : O8At l m 2 f (otc l m 2 q) := by
  rcases Bool.eq_false_or_eq_true (l2B (ptL l 2 q) (ptL m 2 q)) with h | h
  · rw [otc_hit h]; exact o8_hit_2 h0 h1 e (by omega) h
  · rw [otc_miss h]; exact o8_miss_2 h0 h1 e (by omega) h _ _ (o8_L1 h0 h1 (by omega) (by omega)) (o8_L1 h0 h1 (by omega) (by omega))
theorem ow_L3 {l m : Prl} (h0 : slF l = 0) (h1 : slF m = 0) {f q : Int} (e : f = q * 8) (hq : 0 ≤ f ∧ f + 8 ≤ 256) : OwAt l m 3 f (otc l m 3 q) := by
  have pa := partBytes_3 (l := l) (f := f) (q := q) h0 e (by omega)
  have pb := partBytes_3 (l := m) (f := f) (q := q) h1 e (by omega)
  have oa := ptL_ok (l := l) h0 3 (q := q) (fun h => by cases h)
  have ob := ptL_ok (l := m) h1 3 (q := q) (fun h => by cases h)
  rcases Bool.eq_false_or_eq_true (l2B (ptL l 3 q) (ptL m 3 q)) with h | h
  · rw [otc_hit h]; exact ow_hit pa pb oa ob h
  · rw [otc_miss h]; exact ow_miss_3 pa pb oa ob h (by omega) _ _ (ow_L2 h0 h1 (by omega) (by omega)) (ow_L2 h0 h1 (by omega) (by omega))
theorem o8_L3 {l m : Prl} (h0 : slF l = 0) (h1 : slF m = 0) {f q : Int} (e : f = q * 8) (hq : 0 ≤ f ∧ f + 8 ≤ 256) : O8At l m 3 f (otc l m 3 q) := by
  rcases Bool.eq_false_or_eq_true (l2B (ptL l 3 q) (ptL m 3 q)) with h | h
  · rw [otc_hit h]; exact o8_hit_3 h0 h1 e (by omega) h
  · rw [otc_miss h]; exact o8_miss_3 h0 h1 e (by omega) h _ _ (o8_L2 h0 h1 (by omega) (by omega)) (o8_L2 h0 h1 (by omega) (by omega))
theorem ow_L4 {l m : Prl} (h0 : slF l = 0) (h1 : slF m = 0) {f q : Int} (e : f = q * 16) (hq : 0 ≤ f ∧ f + 16 ≤ 256) : OwAt l m 4 f (otc l m 4 q) := by
  have pa := partBytes_4 (l := l) (f := f) (q := q) h0 e (by omega)
  have pb := partBytes_4 (l := m) (f := f) (q := q) h1 e (by omega)
  have oa := ptL_ok (l := l) h0 4 (q := q) (fun h => by cases h)
  have ob := ptL_ok (l := m) h1 4 (q := q) (fun h => by cases h)
  rcases Bool.eq_false_or_eq_true (l2B (ptL l 4 q) (ptL m 4 q)) with h | h
  · rw [otc_hit h]; exact ow_hit pa pb oa ob h
  · rw [otc_miss h]; exact ow_miss_4 pa pb oa ob h (by omega) _ _ (ow_L3 h0 h1 (by omega) (by omega)) (ow_L3 h0 h1 (by omega) (by omega))
theorem o8_L4 {l m : Prl} (h0 : slF l = 0) (h1 : slF m = 0) {f q : Int} (e : f = q * 16) (hq : 0 ≤ f ∧ f + 16 ≤ 256) : O8At l m 4 f (otc l m 4 q) := by
  rcases Bool.eq_false_or_eq_true (l2B (ptL l 4 q) (ptL m 4 q)) with h | h
  · rw [otc_hit h]; exact o8_hit_4 h0 h1 e (by omega) h
  · rw [otc_miss h]; exact o8_miss_4 h0 h1 e (by omega) h _ _ (o8_L3 h0 h1 (by omega) (by omega)) (o8_L3 h0 h1 (by omega) (by omega))
theorem ow_L5 {l m : Prl} (h0 : slF l = 0) (h1 : slF m = 0) {f q : Int} (e : f = q * 32) (hq : 0 ≤ f ∧ f + 32 ≤ 256) : OwAt l m 5 f (otc l m 5 q) := by
  have pa := partBytes_5 (l := l) (f := f) (q := q) h0 e (by omega)
  have pb := partBytes_5 (l := m) (f := f) (q := q) h1 e (by omega)
  have oa := ptL_ok (l := l) h0 5 (q := q) (fun h => by cases h)
  have ob := ptL_ok (l := m) h1 5 (q := q) (fun h => by cases h)
  rcases Bool.eq_false_or_eq_true (l2B (ptL l 5 q) (ptL m 5 q)) with h | h
  · rw [otc_hit h]; exact ow_hit pa pb oa ob h
  · rw [otc_miss h]; exact ow_miss_5 pa pb oa ob h (by omega) _ _ (ow_L4 h0 h1 (by omega) (by omega)) (ow_L4 h0 h1 (by omega) (by omega))
theorem o8_L5 {l m : Prl} (h0 : slF l = 0) (h1 : slF m = 0) {f q : Int} (e : f = q * 32) (hq : 0 ≤ f ∧ f + 32 ≤ 256) : O8At l m 5 f (otc l m 5 q) := by
  rcases Bool.eq_false_or_eq_true (l2B (ptL l 5 q) (ptL m 5 q)) with h | h
  · rw [otc_hit h]; exact o8_hit_5 h0 h1 e (by omega) h
  · rw [otc_miss h]; exact o8_miss_5 h0 h1 e (by omega) h _ _ (o8_L4 h0 h1 (by omega) (by omega)) (o8_L4 h0 h1 (by omega) (by omega))
theorem ow_L6 {l m : Prl} (h0 : slF l = 0) (h1 : slF m = 0) {f q : Int} (e : f = q * 64) (hq : 0 ≤ f ∧ f + 64 ≤ 256) : OwAt l m 6 f (otc l m 6 q) := by
  have pa := partBytes_6 (l := l) (f := f) (q := q) h0 e (by omega)
  have pb := partBytes_6 (l := m) (f := f) (q := q) h1 e (by omega)
  have oa := ptL_ok (l := l) h0 6 (q := q) (fun h => by cases h)
  have ob := ptL_ok (l := m) h1 6 (q := q) (fun h => by cases h)
  rcases Bool.eq_false_or_eq_true (l2B (ptL l 6 q) (ptL m 6 q)) with h | h
  · rw [otc_hit h]; exact ow_hit pa pb oa ob h
  · rw [otc_miss h]; exact ow_miss_6 pa pb oa ob h (by omega) _ _ (ow_L5 h0 h1 (by omega) (by omega)) (ow_L5 h0 h1 (by omega) (by omega))
theorem o8_L6 {l m : Prl} (h0 : slF l = 0) (h1 : slF m = 0) {f q : Int} (e : f = q * 64) (hq : 0 ≤ f ∧ f + 64 ≤ 256) : O8At l m 6 f (otc l m 6 q) := by
  rcases Bool.eq_false_or_eq_true (l2B (ptL l 6 q) (ptL m 6 q)) with h | h
  · rw [otc_hit h]; exact o8_hit_6 h0 h1 e (by omega) h
  · rw [otc_miss h]; exact o8_miss_6 h0 h1 e (by omega) h _ _ (o8_L5 h0 h1 (by omega) (by omega)) (o8_L5 h0 h1 (by omega) (by omega))
theorem ow_L7 {l m : Prl} (h0 : slF l = 0) (h1 : slF m = 0) {f q : Int} (e : f = q * 128) (hq : 0 ≤ f ∧ f + 128 ≤ 256) : OwAt l m 7 f (otc l m 7 q) := by
  have pa := partBytes_7 (l := l) (f := f) (q := q) h0 e (by omega)
  have pb := partBytes_7 (l := m) (f := f) (q := q) h1 e (by omega)
  have oa := ptL_ok (l := l) h0 7 (q := q) (fun h => by cases h)
  have ob := ptL_ok (l := m) h1 7 (q := q) (fun h => by cases h)
  rcases Bool.eq_false_or_eq_true (l2B (ptL l 7 q) (ptL m 7 q)) with h | h
  · rw [otc_hit h]; exact ow_hit pa pb oa ob h
  · rw [otc_miss h]; exact ow_miss_7 pa pb oa ob h (by omega) _ _ (ow_L6 h0 h1 (by omega) (by omega)) (ow_L6 h0 h1 (by omega) (by omega))
theorem o8_L7 {l m : Prl} (h0 : slF l = 0) (h1 : slF m = 0) {f q : Int} (e : f = q * 128) (hq : 0 ≤ f ∧ f + 128 ≤ 256) : O8At l m 7 f (otc l m 7 q) := by
  rcases Bool.eq_false_or_eq_true (l2B (ptL l 7 q) (ptL m 7 q)) with h | h
  · rw [otc_hit h]; exact o8_hit_7 h0 h1 e (by omega) h
  · rw [otc_miss h]; exact o8_miss_7 h0 h1 e (by omega) h _ _ (o8_L6 h0 h1 (by omega) (by omega)) (o8_L6 h0 h1 (by omega) (by omega))
theorem ow_L8 {l m : Prl} (h0 : slF l = 0) (h1 : slF m = 0) {f q : Int} (e : f = q * 256) (hq : 0 ≤ f ∧ f + 256 ≤ 256) : OwAt l m 8 f (otc l m 8 q) := by
  have pa := partBytes_8 (l := l) (f := f) (q := q) h0 e (by omega)
  have pb := partBytes_8 (l := m) (f := f) (q := q) h1 e (by omega)
  have oa := ptL_ok (l := l) h0 8 (q := q) (fun h => by cases h)
  have ob := ptL_ok (l := m) h1 8 (q := q) (fun h => by cases h)
  rcases Bool.eq_false_or_eq_true (l2B (ptL l 8 q) (ptL m 8 q)) with h | h
  · rw [otc_hit h]; exact ow_hit pa pb oa ob h
  · rw [otc_miss h]; exact ow_miss_8 pa pb oa ob h (by omega) _ _ (ow_L7 h0 h1 (by omega) (by omega)) (ow_L7 h0 h1 (by omega) (by omega))
theorem o8_L8 {l m : Prl} (h0 : slF l = 0) (h1 : slF m = 0) {f q : Int} (e : f = q * 256) (hq : 0 ≤ f ∧ f + 256 ≤ 256) : O8At l m 8 f (otc l m 8 q) := by
  rcases Bool.eq_false_or_eq_true (l2B (ptL l 8 q) (ptL m 8 q)) with h | h
  · rw [otc_hit h]; exact o8_hit_8 h0 h1 e (by omega) h
  · rw [otc_miss h]; exact o8_miss_8 h0 h1 e (by omega) h _ _ (o8_L7 h0 h1 (by omega) (by omega)) (o8_L7 h0 h1 (by omega) (by omega))
set_option maxRecDepth 100000 in
set_option maxHeartbeats 2000000 in
theorem oldTreesWalk_box (v u : Value) (l m : Prl) (w : World) (hv : Prs w v l) (hu : Prs w u m) : Calls Tryd.prog 33 #[v, u] w fun e w' => ∃ ba be bb bd, e = .returned (.func (.func 57) #[] #[.pointer (some ⟨bd, 0, none⟩)]) ∧ Below w.heap.size w w' ∧ OwB w' ba be bb bd v u := by
  have hE := fun w => emptySums_any w
  unfold arrA at hE
  obtain ⟨a, c, rfl⟩ := hv.shape
  obtain ⟨a', c', rfl⟩ := hu.shape
  generalize l.length = n at *
  generalize m.length = n' at *
  clear hv hu
  obtain ⟨W, hW⟩ : ∃ W, W = (w.alloc (.cells #[.slice a n c] 30)).alloc (.cells #[.slice a' n' c'] 30) := ⟨_, rfl⟩
  have HW : Hid ((w.alloc (.cells #[.slice a n c] 30)).alloc (.cells #[.slice a' n' c'] 30) = W) := hW.symm
  have hTB : TwoB W w.heap.size (w.heap.size + 1) (.slice a n c) (.slice a' n' c') := by rw [hW]; exact two_boxes _ _ _ _ _
  have hBW : Below w.heap.size w W := by rw [hW]; exact two_new _ _
  clear hW
  go_enter Tryd.func33, Tryd.ntmps33
  go_wp2_with fail
  rw [HW.out]
  refine (hE _).mono ?_
  rintro e w1 ⟨rfl, hb1⟩
  have hT1 := hTB.below hb1
  have hB1 := below_after_of hBW hb1
  have kst : (store ⟨w1.heap.size + 1, 0, none⟩ (.func (.func 55) #[] #[.pointer (some ⟨w.heap.size, 0, none⟩), .pointer (some ⟨w1.heap.size, 0, none⟩), .pointer (some ⟨w.heap.size + 1, 0, none⟩), .pointer (some ⟨w1.heap.size + 1, 0, none⟩)])).run Tryd.prog ((w1.alloc (.cells #[.int .i64 (emp 0), .int .i64 (emp 1), .int .i64 (emp 2), .int .i64 (emp 3), .int .i64 (emp 4), .int .i64 (emp 5), .int .i64 (emp 6), .int .i64 (emp 7), .int .i64 (emp 8)] 93)).alloc (.cells #[.nilFunc] 95)) = .ok () (((w1.alloc (.cells #[.int .i64 (emp 0), .int .i64 (emp 1), .int .i64 (emp 2), .int .i64 (emp 3), .int .i64 (emp 4), .int .i64 (emp 5), .int .i64 (emp 6), .int .i64 (emp 7), .int .i64 (emp 8)] 93)).alloc (.cells #[.nilFunc] 95)).setCell ⟨w1.heap.size + 1, 0, none⟩ (.func (.func 55) #[] #[.pointer (some ⟨w.heap.size, 0, none⟩), .pointer (some ⟨w1.heap.size, 0, none⟩), .pointer (some ⟨w.heap.size + 1, 0, none⟩), .pointer (some ⟨w1.heap.size + 1, 0, none⟩)])) := by
    rw [run_store Tryd.prog _ _ _ _ (by rfl)]
    simp
  have hB9 : Below w1.heap.size w1 ((w1.alloc (.cells #[.int .i64 (emp 0), .int .i64 (emp 1), .int .i64 (emp 2), .int .i64 (emp 3), .int .i64 (emp 4), .int .i64 (emp 5), .int .i64 (emp 6), .int .i64 (emp 7), .int .i64 (emp 8)] 93)).alloc (.cells #[.func (.func 55) #[] #[.pointer (some ⟨w.heap.size, 0, none⟩), .pointer (some ⟨w1.heap.size, 0, none⟩), .pointer (some ⟨w.heap.size + 1, 0, none⟩), .pointer (some ⟨w1.heap.size + 1, 0, none⟩)]] 95)) := two_new _ _
  have hT9 := hT1.below hB9
  have hO : OwB ((w1.alloc (.cells #[.int .i64 (emp 0), .int .i64 (emp 1), .int .i64 (emp 2), .int .i64 (emp 3), .int .i64 (emp 4), .int .i64 (emp 5), .int .i64 (emp 6), .int .i64 (emp 7), .int .i64 (emp 8)] 93)).alloc (.cells #[.func (.func 55) #[] #[.pointer (some ⟨w.heap.size, 0, none⟩), .pointer (some ⟨w1.heap.size, 0, none⟩), .pointer (some ⟨w.heap.size + 1, 0, none⟩), .pointer (some ⟨w1.heap.size + 1, 0, none⟩)]] 95)) w.heap.size w1.heap.size (w.heap.size + 1) (w1.heap.size + 1) (.slice a n c) (.slice a' n' c') := by
    have h := heap_alloc_new (w1.alloc (.cells #[.int .i64 (emp 0), .int .i64 (emp 1), .int .i64 (emp 2), .int .i64 (emp 3), .int .i64 (emp 4), .int .i64 (emp 5), .int .i64 (emp 6), .int .i64 (emp 7), .int .i64 (emp 8)] 93)) (.cells #[.func (.func 55) #[] #[.pointer (some ⟨w.heap.size, 0, none⟩), .pointer (some ⟨w1.heap.size, 0, none⟩), .pointer (some ⟨w.heap.size + 1, 0, none⟩), .pointer (some ⟨w1.heap.size + 1, 0, none⟩)]] 95)
    rw [World.size_alloc] at h
    exact ⟨hT9.a, hT9.b, (EmB.new w1 93).below (one_new _), box1_cellO h, hT9.p, hT9.q, by simp⟩
  have HO9 : Hid (OwB ((w1.alloc (.cells #[.int .i64 (emp 0), .int .i64 (emp 1), .int .i64 (emp 2), .int .i64 (emp 3), .int .i64 (emp 4), .int .i64 (emp 5), .int .i64 (emp 6), .int .i64 (emp 7), .int .i64 (emp 8)] 93)).alloc (.cells #[.func (.func 55) #[] #[.pointer (some ⟨w.heap.size, 0, none⟩), .pointer (some ⟨w1.heap.size, 0, none⟩), .pointer (some ⟨w.heap.size + 1, 0, none⟩), .pointer (some ⟨w1.heap.size + 1, 0, none⟩)]] 95)) w.heap.size w1.heap.size (w.heap.size + 1) (w1.heap.size + 1) (.slice a n c) (.slice a' n' c')) := hO
  have hBB := below_after_of hB1 hB9
  clear hE hb1 hTB hT1 hB1 hB9 hT9 hO
  go_wp2
  go_ret
  exact ⟨_, _, _, _, rfl, hBB, HO9.out⟩
set_option maxRecDepth 100000 in
set_option maxHeartbeats 1000000 in
theorem oldWalk_any {l m : Prl} (h0 : slF l = 0) (h1 : slF m = 0) (ba be bb bd : Nat) (v u : Value) (w : World) (hB : OwB w ba be bb bd v u) (hv : Prs w v l) (hu : Prs w u m) (ho : Okv v) (ho' : Okv u) :
    Calls Tryd.prog 57 #[.pointer (some ⟨bd, 0, none⟩)] w fun e w' => WkAns w (otc l m 8 0) e w' := by
  have hC : Calls Tryd.prog 55 #[.int .i64 0, .int .i64 8, .pointer (some ⟨ba, 0, none⟩), .pointer (some ⟨be, 0, none⟩), .pointer (some ⟨bb, 0, none⟩), .pointer (some ⟨bd, 0, none⟩)] w fun e w' => WkAns w (otc l m 8 0) e w' := (ow_L8 h0 h1 (f := 0) (q := 0) rfl (by omega)).c ba be bb bd v u w hB hv hu ho ho'
  have cd := hB.d
  generalize otc l m 8 0 = o at *
  clear hB hv hu ho ho' h0 h1
  rcases o with _ | ⟨ls, bs⟩
  · go_enter Tryd.func57, Tryd.ntmps57
    go_wp2_with fail
    refine hC.mono ?_
    intro e w1 hx
    obtain rfl := hx.n rfl
    have hb := hx.b
    clear hC hx
    go_wp2
    go_ret
    exact ⟨hb, fun _ => rfl, fun _ _ e => by cases e⟩
  · go_enter Tryd.func57, Tryd.ntmps57
    go_wp2_with fail
    refine hC.mono ?_
    intro e w1 hx
    obtain ⟨a5, c5, a6, c6, rfl, hr5⟩ := hx.s _ _ rfl
    have hb := hx.b
    have HR5 : Hid (Rows2 w w1 (.slice a5 ls.length c5) (.slice a6 bs.length c6) true ls bs) := hr5
    clear hC hx hr5
    go_wp2
    go_ret
    refine ⟨hb, (fun h => by cases h), fun ls' bs' e => ?_⟩
    cases e
    exact ⟨a5, c5, a6, c6, rfl, HR5.out⟩
end U
end Go.Proofs.YtljbcpkjhnbpeaaDoor

/- A clash in two old trees: what the program and the model answer at every two sets of slots. -/
namespace Go.Proofs.YtljbcpkjhnbpeaaDoor
open Go.RowKit
namespace U
/-- The root of slots, as the model makes it. -/
structure Rt4 (l : Prl) (x : Int) : Prop where
  c : ∀ (v : Value) (w : World), Prs w v l → Calls Tryd.prog 30 #[v] w fun e w' => e = .returned (.int .i64 x) ∧ Below w.heap.size w w'
theorem rt4_ok {l : Prl} (h0 : slF l = 0) : Rt4 l (nd l 8 0) := ⟨fun v w hv => l4Root_any v l w hv (by have := (slF_ok h0).len; omega) (slF_ok h0).fin⟩
structure O8F (l m : Prl) (o : Ck) : Prop where
  c : ∀ v u w, Prs w v l → Prs w u m → Calls Tryd.prog 31 #[v, u, .int .i64 0, .int .i64 8] w fun e w' => OkAns w o e w'
theorem o8F_ok {l m : Prl} (h0 : slF l = 0) (h1 : slF m = 0) : O8F l m (otc l m 8 0) := ⟨fun v u w hv hu => (o8_L8 h0 h1 (f := 0) (q := 0) rfl (by omega)).c v u w hv hu⟩
theorem implOldRoot_ok (v : Value) (l : Prl) (w : World) (hv : Prs w v l) (h0 : slF l = 0) : Calls Tryd.prog 32 #[v] w fun e w' => IntAns w 0 (nd l 8 0) e w' := by
  have h := implOldRoot_any v l w hv (by have := (slF_ok h0).len; omega)
  have e1 : orC l = 0 := by unfold orC; exact h0
  have e2 : orV l = nd l 8 0 := by unfold orV; rw [if_pos h0]
  rw [e1, e2] at h
  exact h
set_option maxRecDepth 100000 in
set_option maxHeartbeats 2000000 in
theorem specOldTreeClash_bad (v u : Value) (l m : Prl) (w : World) (hv : Prs w v l) (hu : Prs w u m) (hx : l.length ≤ 1048576) (hy : m.length ≤ 1048576) (h : l8C l m ≠ 0) :
    Calls Tryd.prog 14 #[v, u] w fun e w' => ClashAns w (l8C l m) false [] [] e w' := by
  have hT := fun w' h => l8Two_any v u l m w' (hv.below (w' := w') h) (hu.below h) hx hy
  obtain ⟨a, c, rfl⟩ := hv.shape
  obtain ⟨a', c', rfl⟩ := hu.shape
  generalize l8C l m = q at *
  generalize l.length = n at *
  generalize m.length = n' at *
  have hq : (q != 0) = true := by simpa using h
  clear hv hu h
  go_enter Tryd.func14, Tryd.ntmps14
  go_wp2_with fail
  refine (hT _ (one_new _)).mono ?_
  rintro e w1 ⟨rfl, hb1⟩
  obtain ⟨q0, q1, q2, q3, f0, f1, f2, f3⟩ := four_cells ((hb1.block w.heap.size (by simp)).trans (heap_alloc_new w _))
  have hB1 := below_after hb1
  clear hT hb1
  go_wp2
  exact bodyPost_ret (v := .agg #[.int .i64 q, .bool false, .slice none 0 0, .slice none 0 0]) (by simp [results, Tryd.results14, go_sem, *]) rfl ⟨(((hB1.setCell (Nat.le_refl _) _).setCell (Nat.le_refl _) _).setCell (Nat.le_refl _) _).setCell (Nat.le_refl _) _, _, _, rfl, Rows2.nil _ _ _ _⟩
set_option maxRecDepth 100000 in
set_option maxHeartbeats 2000000 in
theorem specOldTreeClash_root (v u : Value) (l m : Prl) (x y : Int) (w : World) (hv : Prs w v l) (hu : Prs w u m) (hx : l.length ≤ 1048576) (hy : m.length ≤ 1048576) (h : l8C l m = 0) (ra : Rt4 l x) (rb : Rt4 m y) (hxy : x ≠ y) :
    Calls Tryd.prog 14 #[v, u] w fun e w' => ClashAns w 9 false [] [] e w' := by
  have hT := fun w' h => l8Two_any v u l m w' (hv.below (w' := w') h) (hu.below h) hx hy
  have hA := fun w' h => ra.c v w' (hv.below (w' := w') h)
  have hB := fun w' h => rb.c u w' (hu.below (w' := w') h)
  rw [h] at hT
  obtain ⟨a, c, rfl⟩ := hv.shape
  obtain ⟨a', c', rfl⟩ := hu.shape
  generalize l.length = n at *
  generalize m.length = n' at *
  have hq : (x != y) = true := by simpa using hxy
  clear hv hu h hxy
  go_enter Tryd.func14, Tryd.ntmps14
  go_wp2_with fail
  refine (hT _ (one_new _)).mono ?_
  rintro e w1 ⟨rfl, hb1⟩
  have hB1 := below_after hb1
  clear hT
  go_wp2_with fail
  refine (hA _ hB1).mono ?_
  rintro e w2 ⟨rfl, hb2⟩
  have hB2 := below_after_of hB1 hb2
  have hb2 := below_after_of hb1 hb2
  clear hA
  go_wp2_with fail
  refine (hB _ hB2).mono ?_
  rintro e w3 ⟨rfl, hb3⟩
  have hB3 := below_after_of hB2 hb3
  obtain ⟨q0, q1, q2, q3, f0, f1, f2, f3⟩ := four_cells (((below_after_of hb2 hb3).block w.heap.size (by simp)).trans (heap_alloc_new w _))
  clear hB hb3 hb2 hb1 hB1 hB2
  go_wp2
  exact bodyPost_ret (v := .agg #[.int .i64 9, .bool false, .slice none 0 0, .slice none 0 0]) (by simp [results, Tryd.results14, go_sem, *]) rfl ⟨(((hB3.setCell (Nat.le_refl _) _).setCell (Nat.le_refl _) _).setCell (Nat.le_refl _) _).setCell (Nat.le_refl _) _, _, _, rfl, Rows2.nil _ _ _ _⟩
set_option maxRecDepth 100000 in
set_option maxHeartbeats 2000000 in
theorem specOldTreeClash_ok (v u : Value) (l m : Prl) (x : Int) (o : Ck) (w : World) (hv : Prs w v l) (hu : Prs w u m) (hx : l.length ≤ 1048576) (hy : m.length ≤ 1048576) (h : l8C l m = 0) (ra : Rt4 l x) (rb : Rt4 m x) (ho : O8F l m o) :
    Calls Tryd.prog 14 #[v, u] w fun e w' => ClashAns w 0 (opF o) (op1 o) (op2 o) e w' := by
  have hT := fun w' h => l8Two_any v u l m w' (hv.below (w' := w') h) (hu.below h) hx hy
  have hA := fun w' h => ra.c v w' (hv.below (w' := w') h)
  have hB := fun w' h => rb.c u w' (hu.below (w' := w') h)
  have hO := fun w' h => ho.c v u w' (hv.below (w' := w') h) (hu.below h)
  rw [h] at hT
  obtain ⟨a, c, rfl⟩ := hv.shape
  obtain ⟨a', c', rfl⟩ := hu.shape
  generalize l.length = n at *
  generalize m.length = n' at *
  clear hv hu h
  go_enter Tryd.func14, Tryd.ntmps14
  go_wp2_with fail
  refine (hT _ (one_new _)).mono ?_
  rintro e w1 ⟨rfl, hb1⟩
  have hB1 := below_after hb1
  clear hT
  go_wp2_with fail
  refine (hA _ hB1).mono ?_
  rintro e w2 ⟨rfl, hb2⟩
  have hB2 := below_after_of hB1 hb2
  have hb2 := below_after_of hb1 hb2
  clear hA
  go_wp2_with fail
  refine (hB _ hB2).mono ?_
  rintro e w3 ⟨rfl, hb3⟩
  have hB3 := below_after_of hB2 hb3
  have hb3 := below_after_of hb2 hb3
  clear hB hb2 hB2 hB1 hb1
  go_wp2_with fail
  refine (hO _ hB3).mono ?_
  rintro e w4 ⟨hb4, a1, n1, c1, a2, n2, c2, rfl, hr⟩
  have hB4 := below_after_of hB3 hb4
  have HR : Hid (Rows2 w3 w4 (.slice a1 n1 c1) (.slice a2 n2 c2) (opF o) (op1 o) (op2 o)) := hr
  obtain ⟨q0, q1, q2, q3, f0, f1, f2, f3⟩ := four_cells (((below_after_of hb3 hb4).block w.heap.size (by simp)).trans (heap_alloc_new w _))
  have hz : w.heap.size < w3.heap.size := Nat.lt_of_lt_of_le (by simp) hb3.size
  generalize hf : opF o = f at *
  clear hO hb4 hb3 hr
  go_wp2
  refine bodyPost_ret (v := .agg #[.int .i64 0, .bool f, .slice a1 n1 c1, .slice a2 n2 c2]) (by simp [results, Tryd.results14, go_sem, *]) rfl ?_
  show ClashAns w 0 (opF o) (op1 o) (op2 o) _ _
  rw [hf]
  exact ⟨(((hB4.setCell (Nat.le_refl _) _).setCell (Nat.le_refl _) _).setCell (Nat.le_refl _) _).setCell (Nat.le_refl _) _, _, _, rfl, ((((HR.out.set hz _ _).set hz _ _).set hz _ _).set hz _ _).under hB3.size⟩
set_option maxRecDepth 100000 in
set_option maxHeartbeats 2000000 in
theorem implOldTreeClash_bad (v u : Value) (l m : Prl) (w : World) (hv : Prs w v l) (hu : Prs w u m) (hx : l.length ≤ 1048576) (hy : m.length ≤ 1048576) (h : l8C l m ≠ 0) :
    Calls Tryd.prog 15 #[v, u] w fun e w' => ClashAns w (l8C l m) false [] [] e w' := by
  have hA := fun w' h => implSlotsFault_any v l w' (hv.below (w' := w') h) (by omega)
  have hB := fun w' h => implSlotsFault_any u m w' (hu.below (w' := w') h) (by omega)
  have hO := fun v w h => cmpOr_any (slF l) (slF m) v w h
  rw [show (if slF l = 0 then slF m else slF l) = l8C l m from rfl] at hO
  obtain ⟨a, c, rfl⟩ := hv.shape
  obtain ⟨a', c', rfl⟩ := hu.shape
  generalize l8C l m = q at *
  generalize slF l = s1 at *
  generalize slF m = s2 at *
  generalize l.length = n at *
  generalize m.length = n' at *
  have hq : (q != 0) = true := by simpa using h
  clear hv hu h
  go_enter Tryd.func15, Tryd.ntmps15
  go_wp2_with fail
  refine (hA _ (one_new _)).mono ?_
  rintro e w1 ⟨rfl, hb1⟩
  have hB1 := below_after hb1
  clear hA
  go_wp2_with fail
  refine (hB _ hB1).mono ?_
  rintro e w2 ⟨rfl, hb2⟩
  have hB2 := below_after_of hB1 hb2
  have hb2 := below_after_of hb1 hb2
  clear hB hB1 hb1
  go_wp2_with fail
  refine (hO _ _ (two_ints_at rfl)).mono ?_
  rintro e w3 ⟨rfl, hw3⟩
  have hNW := one_new (w := w2) (.cells #[.int .i64 s1, .int .i64 s2] 2)
  have hB3 : Below w.heap.size w w3 := by rw [hw3]; exact below_after_of hB2 hNW
  obtain ⟨q0, q1, q2, q3, f0, f1, f2, f3⟩ := four_cells (w := w3) (b := w.heap.size) (by rw [hw3]; exact ((below_after_of hb2 hNW).block w.heap.size (by simp)).trans (heap_alloc_new w _))
  clear hO hw3 hNW hb2 hB2
  go_wp2
  exact bodyPost_ret (v := .agg #[.int .i64 q, .bool false, .slice none 0 0, .slice none 0 0]) (by simp [results, Tryd.results15, go_sem, *]) rfl ⟨(((hB3.setCell (Nat.le_refl _) _).setCell (Nat.le_refl _) _).setCell (Nat.le_refl _) _).setCell (Nat.le_refl _) _, _, _, rfl, Rows2.nil _ _ _ _⟩
set_option maxRecDepth 100000 in
set_option maxHeartbeats 2000000 in
theorem implOldTreeClash_root (v u : Value) (l m : Prl) (w : World) (hv : Prs w v l) (hu : Prs w u m) (ho : Okv v) (ho' : Okv u) (h0 : slF l = 0) (h1 : slF m = 0) (hxy : nd l 8 0 ≠ nd m 8 0) :
    Calls Tryd.prog 15 #[v, u] w fun e w' => ClashAns w 9 false [] [] e w' := by
  have hA := fun w' h => implSlotsFault_any v l w' (hv.below (w' := w') h) (by have := (slF_ok h0).len; omega)
  have hB := fun w' h => implSlotsFault_any u m w' (hu.below (w' := w') h) (by have := (slF_ok h1).len; omega)
  have hO := fun v w h => cmpOr_any 0 0 v w h
  have hRA := fun w' h => implOldRoot_ok v l w' (hv.below (w' := w') h) h0
  have hRB := fun w' h => implOldRoot_ok u m w' (hu.below (w' := w') h) h1
  rw [if_pos rfl] at hO
  rw [h0] at hA
  rw [h1] at hB
  obtain ⟨a, c, rfl⟩ := hv.shape
  obtain ⟨a', c', rfl⟩ := hu.shape
  generalize nd l 8 0 = x at *
  generalize nd m 8 0 = y at *
  generalize l.length = n at *
  generalize m.length = n' at *
  have hq : (x == y) = false := by simpa using hxy
  clear hv hu ho ho' h0 h1
  go_enter Tryd.func15, Tryd.ntmps15
  go_wp2_with fail
  refine (hA _ (one_new _)).mono ?_
  rintro e w1 ⟨rfl, hb1⟩
  have hB1 := below_after hb1
  clear hA
  go_wp2_with fail
  refine (hB _ hB1).mono ?_
  rintro e w2 ⟨rfl, hb2⟩
  have hB2 := below_after_of hB1 hb2
  have hb2 := below_after_of hb1 hb2
  clear hB hB1 hb1
  go_wp2_with fail
  refine (hO _ _ (two_ints_at rfl)).mono ?_
  rintro e w3 ⟨rfl, hw3⟩
  have hNW := one_new (w := w2) (.cells #[.int .i64 0, .int .i64 0] 2)
  have hB3 : Below w.heap.size w w3 := by rw [hw3]; exact below_after_of hB2 hNW
  have hb3 : Below (w.alloc (.cells #[.int .i64 0, .bool false, .slice none 0 0, .slice none 0 0] 28)).heap.size (w.alloc (.cells #[.int .i64 0, .bool false, .slice none 0 0, .slice none 0 0] 28)) w3 := by rw [hw3]; exact below_after_of hb2 hNW
  clear hO hw3 hNW hb2 hB2
  go_wp2_with fail
  refine (hRA _ hB3).mono ?_
  rintro e w4 ⟨rfl, hb4⟩
  have hB4 := below_after_of hB3 hb4
  have hb4 := below_after_of hb3 hb4
  clear hRA hb3 hB3
  go_wp2_with fail
  refine (hRB _ hB4).mono ?_
  rintro e w5 ⟨rfl, hb5⟩
  have hB5 := below_after_of hB4 hb5
  obtain ⟨q0, q1, q2, q3, f0, f1, f2, f3⟩ := four_cells (((below_after_of hb4 hb5).block w.heap.size (by simp)).trans (heap_alloc_new w _))
  clear hRB hb4 hB4 hb5
  go_wp2
  exact bodyPost_ret (v := .agg #[.int .i64 9, .bool false, .slice none 0 0, .slice none 0 0]) (by simp [results, Tryd.results15, go_sem, *]) rfl ⟨(((hB5.setCell (Nat.le_refl _) _).setCell (Nat.le_refl _) _).setCell (Nat.le_refl _) _).setCell (Nat.le_refl _) _, _, _, rfl, Rows2.nil _ _ _ _⟩
set_option maxRecDepth 100000 in
set_option maxHeartbeats 2000000 in
theorem implOldTreeClash_ok (v u : Value) (l m : Prl) (w : World) (hg : ErT w) (hv : Prs w v l) (hu : Prs w u m) (ho : Okv v) (ho' : Okv u) (h0 : slF l = 0) (h1 : slF m = 0) (hxy : nd l 8 0 = nd m 8 0) :
    Calls Tryd.prog 15 #[v, u] w fun e w' => ClashAns w 0 (opF (otc l m 8 0)) (op1 (otc l m 8 0)) (op2 (otc l m 8 0)) e w' := by
  have hA := fun w' h => implSlotsFault_any v l w' (hv.below (w' := w') h) (by have := (slF_ok h0).len; omega)
  have hB := fun w' h => implSlotsFault_any u m w' (hu.below (w' := w') h) (by have := (slF_ok h1).len; omega)
  have hO := fun v w h => cmpOr_any 0 0 v w h
  have hRA := fun w' h => implOldRoot_ok v l w' (hv.below (w' := w') h) h0
  have hRB := fun w' h => implOldRoot_ok u m w' (hu.below (w' := w') h) h1
  have hW := fun w' h => oldTreesWalk_box v u l m w' (hv.below (w' := w') h) (hu.below h)
  have hDD := fun ba be bb bd w' hB hw' => oldWalk_any h0 h1 ba be bb bd v u w' hB (hv.below (w' := w') hw') (hu.below hw') ho ho'
  rw [if_pos rfl] at hO
  rw [h0] at hA
  rw [h1] at hB
  rw [← hxy] at hRB
  obtain ⟨a, c, rfl⟩ := hv.shape
  obtain ⟨a', c', rfl⟩ := hu.shape
  generalize otc l m 8 0 = o at *
  generalize nd l 8 0 = x at *
  generalize l.length = n at *
  generalize m.length = n' at *
  clear hv hu h0 h1 hxy
  go_enter Tryd.func15, Tryd.ntmps15
  go_wp2_with fail
  refine (hA _ (one_new _)).mono ?_
  rintro e w1 ⟨rfl, hb1⟩
  have hB1 := below_after hb1
  clear hA
  go_wp2_with fail
  refine (hB _ hB1).mono ?_
  rintro e w2 ⟨rfl, hb2⟩
  have hB2 := below_after_of hB1 hb2
  have hb2 := below_after_of hb1 hb2
  clear hB hB1 hb1
  go_wp2_with fail
  refine (hO _ _ (two_ints_at rfl)).mono ?_
  rintro e w3 ⟨rfl, hw3⟩
  have hNA := one_new (w := w2) (.cells #[.int .i64 0, .int .i64 0] 2)
  have hB3 : Below w.heap.size w w3 := by rw [hw3]; exact below_after_of hB2 hNA
  have hb3 : Below (w.alloc (.cells #[.int .i64 0, .bool false, .slice none 0 0, .slice none 0 0] 28)).heap.size (w.alloc (.cells #[.int .i64 0, .bool false, .slice none 0 0, .slice none 0 0] 28)) w3 := by rw [hw3]; exact below_after_of hb2 hNA
  clear hO hw3 hNA hb2 hB2
  go_wp2_with fail
  refine (hRA _ hB3).mono ?_
  rintro e w4 ⟨rfl, hb4⟩
  have hB4 := below_after_of hB3 hb4
  have hb4 := below_after_of hb3 hb4
  clear hRA hb3 hB3
  go_wp2_with fail
  refine (hRB _ hB4).mono ?_
  rintro e w5 ⟨rfl, hb5⟩
  have hB5 := below_after_of hB4 hb5
  have hb5 := below_after_of hb4 hb5
  clear hRB hb4 hB4
  go_wp2_with fail
  refine (hW _ hB5).mono ?_
  rintro e w8 ⟨ba, be, bb, bd, rfl, hb8, hBX⟩
  have hB8 := below_after_of hB5 hb8
  have hb8 := below_after_of hb5 hb8
  have hC := clashOf_old #[.pointer (some ⟨bd, 0, none⟩)] o w8 (hg.below hB8) ⟨_, rfl⟩ (fun w' h => hDD ba be bb bd w' (hBX.below h) (below_after_of hB8 h))
  clear hW hb5 hB5 hDD ho ho'
  go_wp2_with fail
  refine hC.mono ?_
  rintro e w9 ⟨hb9, v1, v2, rfl, hr⟩
  have hB9 := below_after_of hB8 hb9
  obtain ⟨⟨a1, c1, rfl⟩, a2, c2, rfl⟩ := hr.shape
  have HR : Hid (Rows2 w8 w9 (.slice a1 (pick (opF o) (op1 o)).length c1) (.slice a2 (pick (opF o) (op2 o)).length c2) (opF o) (op1 o) (op2 o)) := hr
  obtain ⟨q0, q1, q2, q3, f0, f1, f2, f3⟩ := four_cells (((below_after_of hb8 hb9).block w.heap.size (by simp)).trans (heap_alloc_new w _))
  have hz : w.heap.size < w8.heap.size := Nat.lt_of_lt_of_le (by simp) hb8.size
  generalize (pick (opF o) (op1 o)).length = n1 at *
  generalize (pick (opF o) (op2 o)).length = n2 at *
  generalize hf : opF o = f at *
  clear hC hb9 hb8 hr
  go_wp2
  refine bodyPost_ret (v := .agg #[.int .i64 0, .bool f, .slice a1 n1 c1, .slice a2 n2 c2]) (by simp [results, Tryd.results15, go_sem, *]) rfl ?_
  show ClashAns w 0 (opF o) (op1 o) (op2 o) _ _
  rw [hf]
  exact ⟨(((hB9.setCell (Nat.le_refl _) _).setCell (Nat.le_refl _) _).setCell (Nat.le_refl _) _).setCell (Nat.le_refl _) _, _, _, rfl, ((((HR.out.set hz _ _).set hz _ _).set hz _ _).set hz _ _).under hB8.size⟩
/-- Both answer alike, and what is known of it. -/
theorem bothOldTreeClash (l m : Prl) (hx : l.length ≤ 1048576) (hy : m.length ≤ 1048576) : ∃ code o, TcOut l m code o ∧
    (∀ v u w, Prs w v l → Prs w u m → Calls Tryd.prog 14 #[v, u] w fun e w' => ClashAns w code (opF o) (op1 o) (op2 o) e w') ∧
    (∀ v u w, ErT w → Prs w v l → Prs w u m → Okv v → Okv u → Calls Tryd.prog 15 #[v, u] w fun e w' => ClashAns w code (opF o) (op1 o) (op2 o) e w') := by
  by_cases h : l8C l m = 0
  · have h0 : slF l = 0 := by
      by_cases q : slF l = 0
      · exact q
      · rw [l8C_no q] at h; exact h
    have h1 : slF m = 0 := by rw [l8C_ok h0] at h; exact h
    by_cases hr : nd l 8 0 = nd m 8 0
    · refine ⟨0, otc l m 8 0, ⟨fun _ e => otc_same h0 h1 hr e, fun xs ys e => ⟨rfl, otc_out h0 h1 8 0 (by omega) (by decide) e⟩⟩, fun v u w hv hu => ?_, fun v u w hg hv hu o1 o2 => implOldTreeClash_ok v u l m w hg hv hu o1 o2 h0 h1 hr⟩
      exact specOldTreeClash_ok v u l m (nd l 8 0) _ w hv hu hx hy h (rt4_ok h0) (by rw [hr]; exact rt4_ok h1) (o8F_ok h0 h1)
    · exact ⟨9, none, ⟨(fun e => absurd e (by decide)), (fun xs ys e => by cases e)⟩, fun v u w hv hu => specOldTreeClash_root v u l m _ _ w hv hu hx hy h (rt4_ok h0) (rt4_ok h1) hr, fun v u w _ hv hu o1 o2 => implOldTreeClash_root v u l m w hv hu o1 o2 h0 h1 hr⟩
  · exact ⟨l8C l m, none, ⟨(fun e => absurd e h), (fun xs ys e => by cases e)⟩, fun v u w hv hu => specOldTreeClash_bad v u l m w hv hu hx hy h, fun v u w _ hv hu _ _ => implOldTreeClash_bad v u l m w hv hu hx hy h⟩
end U
end Go.Proofs.YtljbcpkjhnbpeaaDoor

/- Clashes as the laws look at them: sizes, copies, compared, marked and looked at anew. -/
namespace Go.Proofs.YtljbcpkjhnbpeaaDoor
open Go.RowKit
namespace U
theorem three_new {w : World} (o o' o'' : Obj) : Below w.heap.size w (((w.alloc o).alloc o').alloc o'') := (two_new o o').alloc (by simp; omega) _
theorem three_lie (w : World) (o o' o'' : Obj) : (((w.alloc o).alloc o').alloc o'').heap[w.heap.size]? = some o ∧ (((w.alloc o).alloc o').alloc o'').heap[w.heap.size + 1]? = some o' ∧ (((w.alloc o).alloc o').alloc o'').heap[w.heap.size + 2]? = some o'' := by
  have h1 := heap_alloc_new (w.alloc o) o'
  have h2 := heap_alloc_new ((w.alloc o).alloc o') o''
  simp only [World.size_alloc] at h1 h2
  exact ⟨(Below.heap_alloc _ _ _ (by simp; omega)).trans ((Below.heap_alloc _ _ _ (by simp)).trans (heap_alloc_new w o)), (Below.heap_alloc _ _ _ (by simp)).trans h1, h2⟩
theorem three_size (w : World) (o o' o'' : Obj) : (((w.alloc o).alloc o').alloc o'').heap.size = w.heap.size + 3 := by simp
set_option maxHeartbeats 2000000 in
theorem eqClash_same (f : Bool) (v u v' u' : Value) (ls bs : List Int) (w : World) (hv : Ints .u8 w v ls) (hu : Ints .u8 w u bs) (hv' : Ints .u8 w v' ls) (hu' : Ints .u8 w u' bs) (hxa : ls.length ≤ 1099511627776) (hxb : bs.length ≤ 1099511627776) :
    Calls Tryd.prog 26 #[.agg #[.bool f, v, u], .agg #[.bool f, v', u']] w fun e w' => e = .returned (.bool true) ∧ Below w.heap.size w w' := by
  have hE1 := fun w1 h => eqByteS_any v v' ls ls w1 (hv.below h) (hv'.below h) hxa hxa
  have hE2 := fun w1 h => eqByteS_any u u' bs bs w1 (hu.below h) (hu'.below h) hxb hxb
  have h1 : decide (ls = ls) = true := by simp
  have h2 : decide (bs = bs) = true := by simp
  rw [h1] at hE1
  rw [h2] at hE2
  obtain ⟨a, c, rfl⟩ := hv.shape
  obtain ⟨a', c', rfl⟩ := hu.shape
  obtain ⟨a1, c1, rfl⟩ := hv'.shape
  obtain ⟨a2, c2, rfl⟩ := hu'.shape
  have hff : (f != f) = false := by simp
  generalize ls.length = n at *
  generalize bs.length = m at *
  clear hv hu hv' hu' h1 h2
  go_enter Tryd.func26, Tryd.ntmps26
  go_wp2_with fail
  refine (hE1 _ (two_new _ _)).mono ?_
  rintro e w1 ⟨rfl, n1, rfl⟩
  go_wp2_with fail
  refine (hE2 _ (below_drewN (two_new _ _) _)).mono ?_
  rintro e w2 ⟨rfl, n2, rfl⟩
  clear hE1 hE2
  go_wp2
  go_ret
  exact ⟨rfl, below_drewN (two_new _ _) _⟩
set_option maxHeartbeats 2000000 in
theorem eqClashResult_same (k : Int) (f : Bool) (v u v' u' : Value) (ls bs : List Int) (w : World) (hv : Ints .u8 w v ls) (hu : Ints .u8 w u bs) (hv' : Ints .u8 w v' ls) (hu' : Ints .u8 w u' bs) (hxa : ls.length ≤ 1099511627776) (hxb : bs.length ≤ 1099511627776) :
    Calls Tryd.prog 9 #[.agg #[.int .i64 k, .bool f, v, u], .agg #[.int .i64 k, .bool f, v', u']] w fun e w' => e = .returned (.bool true) ∧ Below w.heap.size w w' := by
  have hE := fun o o' => eqClash_same f v u v' u' ls bs _ (hv.below (two_new o o')) (hu.below (two_new o o')) (hv'.below (two_new o o')) (hu'.below (two_new o o')) hxa hxb
  obtain ⟨a, c, rfl⟩ := hv.shape
  obtain ⟨a', c', rfl⟩ := hu.shape
  obtain ⟨a1, c1, rfl⟩ := hv'.shape
  obtain ⟨a2, c2, rfl⟩ := hu'.shape
  generalize ls.length = n at *
  generalize bs.length = m at *
  clear hv hu hv' hu'
  go_enter Tryd.func9, Tryd.ntmps9
  go_wp2_with fail
  refine (hE _ _).mono ?_
  rintro e w1 ⟨rfl, hb1⟩
  clear hE
  go_wp2
  go_ret
  exact ⟨rfl, below_after_of (two_new _ _) hb1⟩
set_option maxHeartbeats 2000000 in
theorem markClash_any (A B : Nat) (f : Bool) (v u : Value) (ls bs : List Int) (k0 : Nat) (w : World) (hv : w.ownsRow A 5 1 v ls.length (ls.map (Value.int .u8))) (hu : w.ownsRow B 5 1 u bs.length (bs.map (Value.int .u8))) (hap : ∀ k, v.ownBlock = some k → ∀ j, u.ownBlock = some j → k < j) (hxa : ls.length ≤ 1048576) (hxb : bs.length ≤ 1048576) (hk0 : k0 ≤ 1048576) :
    Calls Tryd.prog 28 #[.agg #[.bool f, v, u], .int .i64 k0] w fun e w' => e = .returned (.int .i64 ((k0 + ls.length + bs.length : Nat) : Int)) ∧ ∃ wm, w.grownBy wm v.ownBlock ∧ wm.grownBy w' u.ownBlock ∧ Ints .u8 w' v (marksB k0 ls.length) ∧ Ints .u8 w' u (marksB (k0 + ls.length) bs.length) := by
  have hM1 := fun w h => markByteS_any A v ls k0 w h (by omega) (by omega)
  have hM2 := fun w h => markByteS_any B u bs (k0 + ls.length) w h (by omega) (by omega)
  obtain ⟨a, c, rfl⟩ := own_shape hv
  obtain ⟨a', c', rfl⟩ := own_shape hu
  have hvl := hv.lt
  have hul := hu.lt
  have HV : Hid (∀ o, (w.alloc o).ownsRow A 5 1 (.slice a ls.length c) ls.length (ls.map (Value.int .u8))) := fun o => hv.alloc o
  have HU : Hid (∀ o, (w.alloc o).ownsRow B 5 1 (.slice a' bs.length c') bs.length (bs.map (Value.int .u8))) := fun o => hu.alloc o
  clear hv hu
  go_enter Tryd.func28, Tryd.ntmps28
  go_wp2_with fail
  refine (hM1 _ (HV.out _)).mono ?_
  rintro e w1 ⟨rfl, hg1, own1⟩
  have hu1 := own_grown (HU.out _) hg1 (apart_gt (fun k hk j hj => hap j hj k hk))
  obtain ⟨b0, b1, b2, g0, g1, g2⟩ := three_cellsV ((hg1.block w.heap.size (by simp) (fun e => by have := (hvl _ e.symm).2; omega)).trans (heap_alloc_new w _))
  have HG : Hid (w.grownBy w1 (Value.slice a ls.length c).ownBlock) := grown_trans (World.grownBy_alloc _ _ _) hg1
  clear hM1 hg1
  go_wp2_with fail
  refine (hM2 _ hu1).mono ?_
  rintro e w2 ⟨rfl, hg2, own2⟩
  have HI : Hid (Ints .u8 w2 (.slice a ls.length c) (marksB k0 ls.length)) := (own_ints_n (marksB_len _ _).symm own1).grown hg2 (apart_lt hap)
  have HI2 : Hid (Ints .u8 w2 (.slice a' bs.length c') (marksB (k0 + ls.length) bs.length)) := own_ints_n (marksB_len _ _).symm own2
  have HG2 : Hid (w1.grownBy w2 (Value.slice a' bs.length c').ownBlock) := hg2
  clear hM2 hg2 own1 own2 hu1
  go_wp2
  go_ret
  exact ⟨rfl, w1, HG.out, HG2.out, HI.out, HI2.out⟩
set_option maxHeartbeats 2000000 in
theorem markClashResult_any (A B : Nat) (q : Int) (f : Bool) (v u : Value) (ls bs : List Int) (k0 : Nat) (w : World) (hv : w.ownsRow A 5 1 v ls.length (ls.map (Value.int .u8))) (hu : w.ownsRow B 5 1 u bs.length (bs.map (Value.int .u8))) (hap : ∀ k, v.ownBlock = some k → ∀ j, u.ownBlock = some j → k < j) (hxa : ls.length ≤ 1048576) (hxb : bs.length ≤ 1048576) (hk0 : k0 ≤ 1048576) :
    Calls Tryd.prog 12 #[.agg #[.int .i64 q, .bool f, v, u], .int .i64 k0] w fun e w' => e = .returned (.int .i64 ((k0 + ls.length + bs.length : Nat) : Int)) ∧ ∃ wm, w.grownBy wm v.ownBlock ∧ wm.grownBy w' u.ownBlock ∧ Ints .u8 w' v (marksB k0 ls.length) ∧ Ints .u8 w' u (marksB (k0 + ls.length) bs.length) := by
  have hM := fun o => markClash_any A B f v u ls bs k0 (w.alloc o) (hv.alloc o) (hu.alloc o) hap hxa hxb hk0
  obtain ⟨a, c, rfl⟩ := own_shape hv
  obtain ⟨a', c', rfl⟩ := own_shape hu
  clear hv hu
  go_enter Tryd.func12, Tryd.ntmps12
  go_wp2_with fail
  refine (hM _).mono ?_
  rintro e w1 ⟨rfl, wm, hg1, hg2, i1, i2⟩
  have HH : Hid (w.grownBy wm (Value.slice a ls.length c).ownBlock ∧ wm.grownBy w1 (Value.slice a' bs.length c').ownBlock ∧ Ints .u8 w1 (.slice a ls.length c) (marksB k0 ls.length) ∧ Ints .u8 w1 (.slice a' bs.length c') (marksB (k0 + ls.length) bs.length)) := ⟨grown_trans (World.grownBy_alloc _ _ _) hg1, hg2, i1, i2⟩
  clear hM hg1 hg2 i1 i2
  go_wp2
  go_ret
  exact ⟨rfl, wm, HH.out⟩
set_option maxHeartbeats 2000000 in
theorem heldClash_any (f : Bool) (v u : Value) (n m k0 : Nat) (w : World) (hv : Ints .u8 w v (marksB k0 n)) (hu : Ints .u8 w u (marksB (k0 + n) m)) (hxa : n ≤ 1048576) (hxb : m ≤ 1048576) (hk0 : k0 ≤ 1048576) :
    Calls Tryd.prog 29 #[.agg #[.bool f, v, u], .int .i64 k0] w fun e w' => e = .returned (.int .i64 ((k0 + n + m : Nat) : Int)) ∧ Below w.heap.size w w' := by
  have hH1 := fun o => heldByteS_any v n k0 (w.alloc o) (hv.below (one_new o)) (by omega) (by omega)
  have hH2 := fun o => heldByteS_any u m (k0 + n) (w.alloc o) (hu.below (one_new o)) (by omega) (by omega)
  obtain ⟨a, c, rfl⟩ := hv.shape
  obtain ⟨a', c', rfl⟩ := hu.shape
  rw [marksB_len] at hH1 hH2 ⊢
  rw [marksB_len]
  clear hv hu
  go_enter Tryd.func29, Tryd.ntmps29
  go_wp2_with fail
  refine (hH1 _).mono ?_
  rintro e w1 ⟨rfl, rfl⟩
  go_wp2_with fail
  refine (hH2 _).mono ?_
  rintro e w1 ⟨rfl, rfl⟩
  clear hH1 hH2
  go_wp2
  go_ret
  exact ⟨rfl, one_new _⟩
set_option maxHeartbeats 2000000 in
theorem heldClashResult_any (q : Int) (f : Bool) (v u : Value) (n m k0 : Nat) (w : World) (hv : Ints .u8 w v (marksB k0 n)) (hu : Ints .u8 w u (marksB (k0 + n) m)) (hxa : n ≤ 1048576) (hxb : m ≤ 1048576) (hk0 : k0 ≤ 1048576) :
    Calls Tryd.prog 13 #[.agg #[.int .i64 q, .bool f, v, u], .int .i64 k0] w fun e w' => e = .returned (.int .i64 ((k0 + n + m : Nat) : Int)) ∧ Below w.heap.size w w' := by
  have hH := fun o => heldClash_any f v u n m k0 (w.alloc o) (hv.below (one_new o)) (hu.below (one_new o)) hxa hxb hk0
  obtain ⟨a, c, rfl⟩ := hv.shape
  obtain ⟨a', c', rfl⟩ := hu.shape
  rw [marksB_len] at hH ⊢
  rw [marksB_len] at hH ⊢
  clear hv hu
  go_enter Tryd.func13, Tryd.ntmps13
  go_wp2_with fail
  refine (hH _).mono ?_
  rintro e w1 ⟨rfl, hb1⟩
  clear hH
  go_wp2
  go_ret
  exact ⟨rfl, below_after hb1⟩
end U
end Go.Proofs.YtljbcpkjhnbpeaaDoor

/- The law on LookClash, walked: true, and nothing that was there has turned. -/
namespace Go.Proofs.YtljbcpkjhnbpeaaDoor
open Go.RowKit
namespace U
/-- What a struct of four cells in a block of its own reads as. -/
def Quad (w : World) (b : Nat) (x y z u : Value) : Prop := b < w.heap.size ∧ w.cell? ⟨b, 0, none⟩ = some x ∧ w.cell? ⟨b, 1, none⟩ = some y ∧ w.cell? ⟨b, 2, none⟩ = some z ∧ w.cell? ⟨b, 3, none⟩ = some u
theorem Quad.below {w w' : World} {b : Nat} {x y z u : Value} (h : Quad w b x y z u) (hb : Below w.heap.size w w') : Quad w' b x y z u :=
  ⟨Nat.lt_of_lt_of_le h.1 hb.size, (hb.cell (p := ⟨b, 0, none⟩) h.1).trans h.2.1, (hb.cell (p := ⟨b, 1, none⟩) h.1).trans h.2.2.1, (hb.cell (p := ⟨b, 2, none⟩) h.1).trans h.2.2.2.1, (hb.cell (p := ⟨b, 3, none⟩) h.1).trans h.2.2.2.2⟩
theorem Quad.grown {w w' : World} {b : Nat} {x y z u : Value} {row : Option Nat} (h : Quad w b x y z u) (hg : w.grownBy w' row) (hne : some b ≠ row) : Quad w' b x y z u :=
  ⟨Nat.lt_of_lt_of_le h.1 hg.size, hg.cell h.2.1 hne, hg.cell h.2.2.1 hne, hg.cell h.2.2.2.1 hne, hg.cell h.2.2.2.2 hne⟩
theorem Quad.new (w : World) (x y z u : Value) (t : TypeId) : Quad (w.alloc (.cells #[x, y, z, u] t)) w.heap.size x y z u :=
  have h := four_cells (heap_alloc_new w (.cells #[x, y, z, u] t))
  ⟨by simp, h.1, h.2.1, h.2.2.1, h.2.2.2.1⟩
theorem pick_len (f : Bool) (ls : List Int) : (pick f ls).length ≤ ls.length := by unfold pick; split <;> simp
/-- An answer of a clash, used. -/
theorem ClashAns.use {w w' : World} {code : Int} {f : Bool} {ls bs ps qs : List Int} {e : Ending} (h : ClashAns w code f ls bs e w') (hp : ps = pick f ls) (hq : qs = pick f bs) : ∃ a c a' c', e = .returned (.agg #[.int .i64 code, .bool f, .slice a ps.length c, .slice a' qs.length c']) ∧ Below w.heap.size w w' ∧
    w'.ownsRow w.heap.size 5 1 (.slice a ps.length c) ps.length (ps.map (Value.int .u8)) ∧ w'.ownsRow w.heap.size 5 1 (.slice a' qs.length c') qs.length (qs.map (Value.int .u8)) ∧ (∀ k, (Value.slice a ps.length c).ownBlock = some k → ∀ j, (Value.slice a' qs.length c').ownBlock = some j → k < j) := by
  obtain ⟨hb, v1, v2, rfl, r⟩ := h
  subst hp hq
  obtain ⟨⟨a, c, rfl⟩, a', c', rfl⟩ := r.shape
  exact ⟨a, c, a', c', rfl, hb, r⟩
end U
end Go.Proofs.YtljbcpkjhnbpeaaDoor

/- The size of slots taken from whatever is left. -/
namespace Go.Proofs.YtljbcpkjhnbpeaaDoor
open Go.RowKit
namespace U
set_option maxHeartbeats 400000 in
theorem szSlotS_gen (z : Nat) (hz : z ≤ 1048576) (a : Option Addr) (n c : Nat) (w : World) (hn : n ≤ maxLen) :
    Calls Tryd.prog 5 #[.slice a n c, .int .i64 (z : Int)] w fun e w' => e = .returned (.int .i64 (if n ≤ z then ((z : Int) - (n : Int)) else -1)) ∧ w' = w := by
  unfold maxLen at hn
  by_cases h : n ≤ z
  · rw [if_pos h]
    have h1 : wrap64 ((z : Int) - (n : Int)) = (z : Int) - (n : Int) := by simp only [wrap64]; omega
    have h2 : ¬ ((z : Int) - (n : Int) < 0) := by omega
    go_enter Tryd.func5, Tryd.ntmps5
    go_wp2
    go_ret
    exact ⟨rfl, rfl⟩
  · rw [if_neg h]
    have h1 : wrap64 ((z : Int) - (n : Int)) = (z : Int) - (n : Int) := by simp only [wrap64]; omega
    have h2 : (z : Int) - (n : Int) < 0 := by omega
    go_enter Tryd.func5, Tryd.ntmps5
    go_wp2
    go_ret
    exact ⟨rfl, rfl⟩
end U
end Go.Proofs.YtljbcpkjhnbpeaaDoor

/- Two answers that are one are found the same. -/
namespace Go.Proofs.YtljbcpkjhnbpeaaDoor
open Go.RowKit
namespace U
end U
end Go.Proofs.YtljbcpkjhnbpeaaDoor

/- The law on OldTreeClash, walked: true, and nothing that was there has turned. -/
namespace Go.Proofs.YtljbcpkjhnbpeaaDoor
open Go.RowKit
namespace U
set_option maxRecDepth 100000 in
set_option maxHeartbeats 4000000 in
theorem fnExactOldTreeClash_small (v : Value) (l : Prl) (u : Value) (r : Prl) (w : World) (hg : ErT w) (hv : Prs w v l) (hu : Prs w u r) (hxx : l.length + r.length ≤ 1048576) :
    Calls Tryd.prog 4 #[v, u] w fun e w' => e = .returned (.bool true) ∧ Below w.heap.size w w' := by
  have hxa : l.length ≤ 1048576 := by omega
  have hxb : r.length ≤ 1048576 := by omega
  have hT1 := fun w' h => toSlotS_any v l w' (hv.below (w' := w') h) hxa
  have hT2 := fun w' h => toSlotS_any u r w' (hu.below (w' := w') h) hxb
  obtain ⟨code, o, hout, hS, hI⟩ := bothOldTreeClash l r hxa hxb
  have hM1 := fun B v k0 w h => markSlotS_any B v l k0 w h (by omega)
  have hM2 := fun B v k0 w h => markSlotS_any B v r k0 w h (by omega)
  have hE1 := fun v u w h1 h2 => eqSlotS_any v u l l w h1 h2 (by omega) (by omega)
  have hE2 := fun v u w h1 h2 => eqSlotS_any v u r r w h1 h2 (by omega) (by omega)
  rw [decide_eq_true rfl] at hE1
  rw [decide_eq_true rfl] at hE2
  obtain ⟨a, c, rfl⟩ := hv.shape
  obtain ⟨a', c', rfl⟩ := hu.shape
  have hZ := fun w => szSlotS_any a l.length c w (by unfold maxLen; omega)
  rw [if_pos hxa] at hZ
  have hZ2 := fun w => szSlotS_gen (1048576 - l.length) (by omega) a' r.length c' w (by unfold maxLen; omega)
  rw [if_pos (by omega), show ((1048576 - l.length : Nat) : Int) = (1048576 - l.length : Int) by omega] at hZ2
  have hz0 : ¬ ((1048576 - l.length : Int) < 0) := by omega
  have hz1 : ¬ ((1048576 - l.length - r.length : Int) < 0) := by omega
  generalize (1048576 - l.length - r.length : Int) = z' at *
  generalize (1048576 - l.length : Int) = z at *
  clear hv hu
  obtain ⟨ps, hps⟩ : ∃ ps, ps = pick (opF o) (op1 o) := ⟨_, rfl⟩
  obtain ⟨qs, hqs⟩ : ∃ qs, qs = pick (opF o) (op2 o) := ⟨_, rfl⟩
  have HPS : Hid (ps = pick (opF o) (op1 o)) := hps
  have HQS : Hid (qs = pick (opF o) (op2 o)) := hqs
  have hlen : ps.length ≤ 1048576 ∧ qs.length ≤ 1048576 := by
    rw [hps, hqs]
    rcases o with _ | ⟨x, y⟩
    · exact ⟨Nat.zero_le _, Nat.zero_le _⟩
    · have hh := hout.hit x y rfl
      exact ⟨Nat.le_trans hh.2.2.1.2 (by omega), Nat.le_trans hh.2.2.2.2 (by omega)⟩
  have hpl := hlen.1
  have hql := hlen.2
  clear hps hqs hlen hout
  generalize opF o = f at *
  generalize op1 o = o1 at *
  generalize op2 o = o2 at *
  obtain ⟨n, hn⟩ : ∃ n, n = l.length := ⟨_, rfl⟩
  obtain ⟨m, hm⟩ : ∃ m, m = r.length := ⟨_, rfl⟩
  have HN : Hid (n = l.length) := hn
  have HM : Hid (m = r.length) := hm
  rw [← hn] at hxa hT1 hM1 hZ hxx ⊢
  rw [← hm] at hxb hT2 hM2 hZ2 hxx ⊢
  clear hn hm
  have hk1 : decide (((1 + n * 2 + m * 2 : Nat) : Int) < 0) = false := by simp; omega
  have hk2 : decide (((1 + ps.length + qs.length : Nat) : Int) < 0) = false := by simp; omega
  go_enter Tryd.func4, Tryd.ntmps4
  go_wp2_with fail
  refine (hZ _).mono ?_
  rintro e w0 ⟨rfl, h0w⟩
  rw [h0w]
  clear hZ h0w
  go_wp2_with fail
  refine (hZ2 _).mono ?_
  rintro e w0' ⟨rfl, h0w'⟩
  rw [h0w']
  clear hZ2 h0w'
  go_wp2_with fail
  refine (hT1 _ (Below.refl _ _)).mono ?_
  rintro e w1 ⟨a1, c1, rfl, hb1, own1⟩
  go_wp2_with fail
  refine (hT2 _ hb1).mono ?_
  rintro e w2 ⟨a2, c2, rfl, hb2, own2⟩
  have own1' := own_below own1 hb2
  have hB2 := below_after_of hb1 hb2
  clear hb1 hb2 own1
  go_wp2_with fail
  -- the model's answer
  refine (hS _ _ _ (own_prs_n HN.out own1') (own_prs_n HM.out own2)).mono ?_
  intro e w3 h3
  obtain ⟨a3, c3, a3', c3', rfl, hb3, own3, own3', ap3⟩ := h3.use HPS.out HQS.out
  have hN3 := one_new (w := w3) (.cells #[.int .i64 code, .bool f, .slice a3 ps.length c3, .slice a3' qs.length c3'] 28)
  have Q3 := Quad.new w3 (.int .i64 code) (.bool f) (.slice a3 ps.length c3) (.slice a3' qs.length c3') 28
  have i3 := (own_ints own3).below hN3
  have j3 := (own_ints own3').below hN3
  have hlt3 := fun k hk => own3.lt k hk
  have hlt3' := fun k hk => own3'.lt k hk
  have hB3 := below_after_of (below_after_of hB2 hb3) hN3
  have hw3 : w.heap.size ≤ w3.heap.size := Nat.le_trans hB2.size hb3.size
  clear h3 hS own1' own2 hB2 hb3 own3 own3' ap3
  go_wp2_with fail
  -- the arguments, copied
  refine (hT1 _ hB3).mono ?_
  rintro e w4 ⟨a4, c4, rfl, hb4, own4⟩
  have Q4 := Q3.below hb4
  have i4 := i3.below hb4
  have j4 := j3.below hb4
  have hB4 := below_after_of hB3 hb4
  have hlt4 : ∀ k, (Value.slice a4 n c4).ownBlock = some k → w3.heap.size + 1 ≤ k ∧ k < w4.heap.size := fun k hk => by have := own4.lt k hk; simpa using this
  clear Q3 i3 j3 hB3 hb4 hN3
  go_wp2_with fail
  refine (hT2 _ hB4).mono ?_
  rintro e w5 ⟨a5, c5, rfl, hb5, own5⟩
  have Q5 := Q4.below hb5
  have i5 := i4.below hb5
  have j5 := j4.below hb5
  have hB5 := below_after_of hB4 hb5
  have own4 := own_below own4 hb5
  have hlt5 := fun k hk => own5.lt k hk
  have hz45 : w4.heap.size ≤ w5.heap.size := hb5.size
  have hz34 : w3.heap.size < w4.heap.size := Q4.1
  clear Q4 i4 j4 hB4 hb5
  go_wp2_with fail
  -- the program's answer
  refine (hI _ _ _ (hg.below hB5) (own_prs_n HN.out own4) (own_prs_n HM.out own5) (own_okv own4) (own_okv own5)).mono ?_
  intro e w6 h6
  obtain ⟨a6, c6, a6', c6', rfl, hb6, own6, own6', ap6⟩ := h6.use HPS.out HQS.out
  obtain ⟨W6, hW6⟩ : ∃ W6, W6 = w6.alloc (.cells #[.int .i64 code, .bool f, .slice a6 ps.length c6, .slice a6' qs.length c6'] 28) := ⟨_, rfl⟩
  have hN6 : Below w6.heap.size w6 W6 := by rw [hW6]; exact one_new _
  have hlt6 := fun k hk => own6.lt k hk
  have hlt6' := fun k hk => own6'.lt k hk
  have hz56 : w5.heap.size ≤ w6.heap.size := hb6.size
  have C6 : Hid (∀ w', Below W6.heap.size W6 w' → Quad w' w3.heap.size (.int .i64 code) (.bool f) (.slice a3 ps.length c3) (.slice a3' qs.length c3') ∧ Quad w' w6.heap.size (.int .i64 code) (.bool f) (.slice a6 ps.length c6) (.slice a6' qs.length c6') ∧ Ints .u8 w' (.slice a3 ps.length c3) ps ∧ Ints .u8 w' (.slice a3' qs.length c3') qs ∧
      w'.ownsRow w5.heap.size 5 1 (.slice a6 ps.length c6) ps.length (ps.map (Value.int .u8)) ∧ w'.ownsRow w5.heap.size 5 1 (.slice a6' qs.length c6') qs.length (qs.map (Value.int .u8)) ∧ w'.ownsRow (w3.heap.size + 1) 41 2 (.slice a4 n c4) n ((fl l).map (Value.int .i64)) ∧ w'.ownsRow w4.heap.size 41 2 (.slice a5 m c5) m ((fl r).map (Value.int .i64)) ∧ Below w.heap.size w w') := by
    intro w' h
    have h0 := below_after_of hb6 hN6
    refine ⟨(Q5.below h0).below h, ?_, (i5.below h0).below h, (j5.below h0).below h, own_below (own_below own6 hN6) h, own_below (own_below own6' hN6) h, own_below (own_below ?_ h0) h, own_below (own_below own5 h0) h, below_after_of (below_after_of hB5 h0) h⟩
    · rw [hW6] at h; exact (Quad.new w6 _ _ _ _ _).below h
    · simpa using own4
  have Q6 := Q5.below hb6
  have p0 := Q6.2.1
  have p1 := Q6.2.2.1
  have p2 := Q6.2.2.2.1
  have p3 := Q6.2.2.2.2
  have p4 := Q6.1
  have HW6 : Hid (W6 = w6.alloc (.cells #[.int .i64 code, .bool f, .slice a6 ps.length c6, .slice a6' qs.length c6'] 28)) := hW6
  clear h6 own4 own5 own6 own6' hb6 hB5 hN6 Q5 Q6 i5 j5 hW6
  go_wp2_with fail
  rw [← HW6.out]
  clear p0 p1 p2 p3 HW6
  -- the two are the same
  obtain ⟨_, _, i6, j6, o6, o6', _, _, _⟩ := C6.out W6 (Below.refl _ _)
  refine (eqClashResult_same code f _ _ _ _ ps qs _ (own_ints o6) (own_ints o6') i6 j6 (by omega) (by omega)).mono ?_
  rintro e w7 ⟨rfl, hb7⟩
  clear i6 j6 o6 o6'
  have hB7 := (C6.out _ hb7).2.2.2.2.2.2.2.2
  go_wp2_with fail
  refine (hT1 _ hB7).mono ?_
  rintro e w8 ⟨a8, c8, rfl, hb8, own8⟩
  have hb8' := below_after_of hb7 hb8
  have o4 := (C6.out _ hb8').2.2.2.2.2.2.1
  go_wp2_with fail
  refine (hE1 _ _ _ (own_prs_n HN.out o4) (own_prs_n HN.out own8)).mono ?_
  rintro e w9 ⟨rfl, hb9e⟩
  have hb9 := below_after_of hb8' hb9e
  clear hb9e
  have hB9 := (C6.out _ hb9).2.2.2.2.2.2.2.2
  clear o4 own8 hb7 hb8 hb8' hB7
  go_wp2_with fail
  refine (hT2 _ hB9).mono ?_
  rintro e w10 ⟨a10, c10, rfl, hb10, own10⟩
  have hb10' := below_after_of hb9 hb10
  have o5 := (C6.out _ hb10').2.2.2.2.2.2.2.1
  go_wp2_with fail
  refine (hE2 _ _ _ (own_prs_n HM.out o5) (own_prs_n HM.out own10)).mono ?_
  rintro e w11 ⟨rfl, hb11e⟩
  have hb11 := below_after_of hb10' hb11e
  clear hb11e
  obtain ⟨Q3, Q6, i3, j3, o6, o6', o4, o5, hB11⟩ := C6.out _ hb11
  clear own10 hb9 hb10 hb10' hB9 C6 hE1 hE2
  -- the arguments are marked
  go_wp2_with fail
  refine (hM1 _ _ 1 _ o4 (by omega)).mono ?_
  rintro e w12 ⟨rfl, hg12, own12⟩
  have Q3 := Q3.grown hg12 (fun e => by have := hlt4 _ e.symm; omega)
  have Q6 := Q6.grown hg12 (fun e => by have := hlt4 _ e.symm; omega)
  have i3 := i3.grown hg12 (apart_lt (fun k hk j hj => by have := hlt3 k hk; have := hlt4 j hj; omega))
  have j3 := j3.grown hg12 (apart_lt (fun k hk j hj => by have := hlt3' k hk; have := hlt4 j hj; omega))
  have o6 := own_grown o6 hg12 (apart_gt (fun k hk j hj => by have := hlt6 k hk; have := hlt4 j hj; omega))
  have o6' := own_grown o6' hg12 (apart_gt (fun k hk j hj => by have := hlt6' k hk; have := hlt4 j hj; omega))
  have o5 := own_grown o5 hg12 (apart_gt (fun k hk j hj => by have := hlt5 k hk; have := hlt4 j hj; omega))
  have hB12 := hB11.grown hg12 hB11.size (fun k hk => by have := hlt4 k hk; omega)
  clear hg12 own12 o4 hB11
  go_wp2_with fail
  refine (hM2 _ _ (1 + n * 2) _ o5 (by omega)).mono ?_
  rintro e w13 ⟨rfl, hg13, own13⟩
  have Q3 := Q3.grown hg13 (fun e => by have := hlt5 _ e.symm; omega)
  have Q6 := Q6.grown hg13 (fun e => by have := hlt5 _ e.symm; omega)
  have i3 := i3.grown hg13 (apart_lt (fun k hk j hj => by have := hlt3 k hk; have := hlt5 j hj; omega))
  have j3 := j3.grown hg13 (apart_lt (fun k hk j hj => by have := hlt3' k hk; have := hlt5 j hj; omega))
  have o6 := own_grown o6 hg13 (apart_gt (fun k hk j hj => by have := hlt6 k hk; have := hlt5 j hj; omega))
  have o6' := own_grown o6' hg13 (apart_gt (fun k hk j hj => by have := hlt6' k hk; have := hlt5 j hj; omega))
  have hB13 := hB12.grown hg13 hB12.size (fun k hk => by have := hlt5 k hk; omega)
  clear hg13 own13 o5 hB12 hlt4 hlt5 hM1 hM2
  have p0 := Q3.2.1
  have p1 := Q3.2.2.1
  have p2 := Q3.2.2.2.1
  have p3 := Q3.2.2.2.2
  have q0 := Q6.2.1
  have q1 := Q6.2.2.1
  have q2 := Q6.2.2.2.1
  have q3 := Q6.2.2.2.2
  go_wp2_with fail
  -- the two are still the same
  refine (eqClashResult_same code f _ _ _ _ ps qs _ (own_ints o6) (own_ints o6') i3 j3 (by omega) (by omega)).mono ?_
  rintro e w14 ⟨rfl, hb14⟩
  have Q3 := Q3.below hb14
  have Q6 := Q6.below hb14
  have i3 := i3.below hb14
  have j3 := j3.below hb14
  have o6 := own_below o6 hb14
  have o6' := own_below o6' hb14
  have hB14 := below_after_of hB13 hb14
  clear hb14 hB13 p0 p1 p2 p3 q0 q1 q2 q3
  have q0 := Q6.2.1
  have q1 := Q6.2.2.1
  have q2 := Q6.2.2.2.1
  have q3 := Q6.2.2.2.2
  go_wp2_with fail
  -- the answer is marked
  refine (markClashResult_any _ _ code f _ _ ps qs 1 _ o6 o6' ap6 (by omega) (by omega) (by omega)).mono ?_
  rintro e w15 ⟨rfl, wm, hg15, hg15', m15, m15'⟩
  have Q3 := (Q3.grown hg15 (fun e => by have := hlt6 _ e.symm; omega)).grown hg15' (fun e => by have := hlt6' _ e.symm; omega)
  have Q6 := (Q6.grown hg15 (fun e => by have := hlt6 _ e.symm; omega)).grown hg15' (fun e => by have := hlt6' _ e.symm; omega)
  have i3 := (i3.grown hg15 (apart_lt (fun k hk j hj => by have := hlt3 k hk; have := hlt6 j hj; omega))).grown hg15' (apart_lt (fun k hk j hj => by have := hlt3 k hk; have := hlt6' j hj; omega))
  have j3 := (j3.grown hg15 (apart_lt (fun k hk j hj => by have := hlt3' k hk; have := hlt6 j hj; omega))).grown hg15' (apart_lt (fun k hk j hj => by have := hlt3' k hk; have := hlt6' j hj; omega))
  have hB15 := hB14.grown hg15 hB14.size (fun k hk => by have := hlt6 k hk; omega)
  have hB15' := hB15.grown hg15' hB15.size (fun k hk => by have := hlt6' k hk; omega)
  have C15 : Hid (∀ w', Below w15.heap.size w15 w' → Quad w' w3.heap.size (.int .i64 code) (.bool f) (.slice a3 ps.length c3) (.slice a3' qs.length c3') ∧ Quad w' w6.heap.size (.int .i64 code) (.bool f) (.slice a6 ps.length c6) (.slice a6' qs.length c6') ∧ Ints .u8 w' (.slice a3 ps.length c3) ps ∧ Ints .u8 w' (.slice a3' qs.length c3') qs ∧ Ints .u8 w' (.slice a6 ps.length c6) (marksB 1 ps.length) ∧ Ints .u8 w' (.slice a6' qs.length c6') (marksB (1 + ps.length) qs.length) ∧ Below w.heap.size w w') :=
    fun w' h => ⟨Q3.below h, Q6.below h, i3.below h, j3.below h, m15.below h, m15'.below h, below_after_of hB15' h⟩
  clear hg15 hg15' o6 o6' hB14 hB15 hlt3 hlt3' hlt6 hlt6' ap6 q0 q1 q2 q3
  have q0 := Q6.2.1
  have q1 := Q6.2.2.1
  have q2 := Q6.2.2.2.1
  have q3 := Q6.2.2.2.2
  clear Q3 Q6 i3 j3 hB15'
  go_wp2_with fail
  refine (heldClashResult_any code f _ _ ps.length qs.length 1 _ m15 m15' (by omega) (by omega) (by omega)).mono ?_
  rintro e w16 ⟨rfl, hb16⟩
  have hB16 := (C15.out _ hb16).2.2.2.2.2.2
  clear q0 q1 q2 q3 m15 m15'
  go_wp2_with fail
  refine (hT1 _ hB16).mono ?_
  rintro e w17 ⟨a17, c17, rfl, hb17, own17⟩
  have hb17' := below_after_of hb16 hb17
  have hB17 := (C15.out _ hb17').2.2.2.2.2.2
  clear hb16 hb17 hB16
  go_wp2_with fail
  refine (hT2 _ hB17).mono ?_
  rintro e w18 ⟨a18, c18, rfl, hb18, own18⟩
  have hb18' := below_after_of hb17' hb18
  have own17 := own_below own17 hb18
  clear hb18 hb17' hB17
  go_wp2_with fail
  -- the program's answer, once more
  refine (hI _ _ _ (hg.below (C15.out _ hb18').2.2.2.2.2.2) (own_prs_n HN.out own17) (own_prs_n HM.out own18) (own_okv own17) (own_okv own18)).mono ?_
  intro e w19 h19
  obtain ⟨a19, c19, a19', c19', rfl, hb19, own19, own19', ap19⟩ := h19.use HPS.out HQS.out
  have hb19' := below_after_of hb18' hb19
  obtain ⟨Q3, _, _, _, _, _, _⟩ := C15.out _ hb19'
  have hN19 := one_new (w := w19) (.cells #[.int .i64 code, .bool f, .slice a19 ps.length c19, .slice a19' qs.length c19'] 28)
  have i19 := (own_ints own19).below hN19
  have j19 := (own_ints own19').below hN19
  have hb19n := below_after_of hb19' hN19
  clear h19 own19 own19' own17 own18 hb18' hb19 hb19' ap19 hI hT1 hT2 hN19
  have p0 := Q3.2.1
  have p1 := Q3.2.2.1
  have p2 := Q3.2.2.2.1
  have p3 := Q3.2.2.2.2
  have p4 := Q3.1
  go_wp2_with fail
  refine (eqClashResult_same code f _ _ _ _ ps qs _ i19 j19 (C15.out _ hb19n).2.2.1 (C15.out _ hb19n).2.2.2.1 (by omega) (by omega)).mono ?_
  rintro e w20 ⟨rfl, hb20⟩
  have hb20' := below_after_of hb19n hb20
  obtain ⟨_, Q6, _, _, m20, m20', hB20⟩ := C15.out _ hb20'
  clear Q3 p0 p1 p2 p3 i19 j19 hb19n hb20 hb20' C15
  have q0 := Q6.2.1
  have q1 := Q6.2.2.1
  have q2 := Q6.2.2.2.1
  have q3 := Q6.2.2.2.2
  go_wp2_with fail
  refine (heldClashResult_any code f _ _ ps.length qs.length 1 _ m20 m20' (by omega) (by omega) (by omega)).mono ?_
  rintro e w21 ⟨rfl, hb21⟩
  have hB21 := below_after_of hB20 hb21
  clear m20 m20' q0 q1 q2 q3 Q6 hb21 hB20
  go_wp2
  go_ret
  exact ⟨rfl, hB21⟩
set_option maxHeartbeats 1000000 in
theorem fnExactOldTreeClash_walk (v : Value) (l : Prl) (u : Value) (r : Prl) (w : World) (hg : ErT w) (hv : Prs w v l) (hxa : l.length ≤ maxLen) (hu : Prs w u r) (hxb : r.length ≤ maxLen) :
    Calls Tryd.prog 4 #[v, u] w fun e w' => e = .returned (.bool true) ∧ Below w.heap.size w w' := by
  by_cases h1 : l.length ≤ 1048576
  · by_cases h2 : l.length + r.length ≤ 1048576
    · exact fnExactOldTreeClash_small v l u r w hg hv hu h2
    · obtain ⟨a, c, rfl⟩ := hv.shape
      obtain ⟨a', c', rfl⟩ := hu.shape
      have hZ := fun w => szSlotS_any a l.length c w hxa
      rw [if_pos h1] at hZ
      have hZ2 := fun w => szSlotS_gen (1048576 - l.length) (by omega) a' r.length c' w hxb
      rw [if_neg (by omega), show ((1048576 - l.length : Nat) : Int) = (1048576 - l.length : Int) by omega] at hZ2
      have hz0 : ¬ ((1048576 - l.length : Int) < 0) := by omega
      generalize (1048576 - l.length : Int) = z at *
      generalize l.length = n at *
      generalize r.length = m at *
      clear hv hu
      go_enter Tryd.func4, Tryd.ntmps4
      go_wp2_with fail
      refine (hZ _).mono ?_
      rintro e w1 ⟨rfl, rfl⟩
      clear hZ
      go_wp2_with fail
      refine (hZ2 _).mono ?_
      rintro e w1 ⟨rfl, rfl⟩
      clear hZ2
      go_wp2
      go_ret
      exact ⟨rfl, Below.refl _ _⟩
  · obtain ⟨a, c, rfl⟩ := hv.shape
    obtain ⟨a', c', rfl⟩ := hu.shape
    have hZ := fun w => szSlotS_any a l.length c w hxa
    rw [if_neg h1] at hZ
    generalize l.length = n at *
    generalize r.length = m at *
    clear hv hu
    go_enter Tryd.func4, Tryd.ntmps4
    go_wp2_with fail
    refine (hZ _).mono ?_
    rintro e w1 ⟨rfl, rfl⟩
    clear hZ
    go_wp2
    go_ret
    exact ⟨rfl, Below.refl _ _⟩
end U
end Go.Proofs.YtljbcpkjhnbpeaaDoor

/- What every law's row asks behind its walk: the arguments and the named variables read as they did, for nothing that was there has turned. -/
namespace Go.Proofs.YtljbcpkjhnbpeaaDoor
namespace U
open Go.ChangeShapes Go.WideShapes Go.ChangeAt Go.RowKit
section
variable {H : Type} {enc : TypeId × Value → H} {P : Program} {W W' : World}
theorem all_stays (hl : laidOutB P = true) (hb : Below W.heap.size W W') : ∀ (ts : List TypeId) (vs : List Value) (ds : List (DataW H)) (ps : List MemPlace), (∀ t ∈ ts, P.readableRec t = true ∧ t < P.types.size) →
    DataW.TrodAll enc P W 0 (fun _ => true) true ts vs ds ps → (∀ x ∈ ps, x.block < W.heap.size) → DataW.TrodAll enc P W' 0 (fun b => decide (b < W.heap.size)) true ts vs ds ps
  | [], [], [], _, _, h, _ => h
  | t :: ts, v :: vs, d :: ds, ps, ht, h, hlt => by
    obtain ⟨p, q, h1, h2, rfl⟩ := h
    have hp := ht t (by simp)
    exact ⟨p, q, Below.trod hl hp.1 hp.2 h1 hb (fun x hx => hlt x (by simp [hx])), all_stays hl hb ts vs ds q (fun t h => ht t (by simp [h])) h2 (fun x hx => hlt x (by simp [hx])), rfl⟩
  | [], [], _ :: _, _, _, h, _ => h.elim
  | [], _ :: _, _, _, _, h, _ => by cases h
  | _ :: _, [], _, _, _, h, _ => by cases h
  | _ :: _, _ :: _, [], _, _, h, _ => h.elim
theorem vars_stay (hl : laidOutB P = true) (hb : Below W.heap.size W W') : ∀ (ns : List String) (ds : List (DataW H)) (ps : List MemPlace), (∀ n ∈ ns, ∀ g t, P.globalNamed n = some g → (P.globals[g]?).map (·.type) = some t → P.readableRec t = true ∧ t < P.types.size) →
    DataW.TrodVars enc P W (fun _ => true) ns ds ps → (∀ x ∈ ps, x.block < W.heap.size) → DataW.TrodVars enc P W' (fun b => decide (b < W.heap.size)) ns ds ps
  | [], [], _, _, h, _ => h
  | n :: ns, d :: ds, ps, ht, h, hlt => by
    obtain ⟨g, t, cs, fuel, p, q, h1, h2, h3, h4, h5, rfl⟩ := h
    have hp := ht n (by simp) g t h1 h2
    have hg : g < W.heap.size := by
      have h3' := h3
      simp only [World.var?, h1, Option.bind_some] at h3'
      rcases hh : W.heap[g]? with _ | o
      · rw [hh] at h3'; cases h3'
      · exact (Array.getElem?_eq_some_iff.1 hh).1
    refine ⟨g, t, cs, fuel, p, q, h1, h2, var?_below hb h1 hg h3, ?_, vars_stay hl hb ns ds q (fun m hm => ht m (by simp [hm])) h5 (fun x hx => hlt x (by simp [hx])), rfl⟩
    exact DataW.trod_stays (kids_book hl hp.1) (book_sized hp.1) (fun h => by cases h) ⟨hp.2, book_self t⟩ h4 (fun x hx => hb.same (hlt x (by simp [hx]))) (fun x hx => by simpa using hlt x (by simp [hx]))
  | [], _ :: _, _, _, h, _ => h.elim
  | _ :: _, [], _, _, h, _ => h.elim
/-- A law that answered true and turned nothing. -/
theorem law_post {f : Func} {s : ChangeSpec} {apart : Bool} {args : Array Value} {ds gs : List (DataW H)} {before : List MemPlace} {tb : TypeId}
    (hW : DataW.Whole enc P f.params.toList s.vars apart W args.toList ds gs before) (hb : Below W.heap.size W W') (hl : laidOutB P = true)
    (ht : ∀ t ∈ f.params.toList, P.readableRec t = true ∧ t < P.types.size)
    (hv : ∀ n ∈ s.vars, ∀ g t, P.globalNamed n = some g → (P.globals[g]?).map (·.type) = some t → P.readableRec t = true ∧ t < P.types.size)
    (hr : f.resultTypes = #[tb]) (htb : P.underlying tb = some .bool)
    (hf1 : (s.fn H (ds ++ gs)).results = [.lit (.bool true)]) (hf2 : (s.fn H (ds ++ gs)).args = ds) (hf3 : (s.fn H (ds ++ gs)).vars = gs) :
    s.post enc P f apart true false false W args (.bool true) W' := by
  have hlt := hW.lt
  have hW2 := hW
  obtain ⟨p, q, hA, hV, rfl, _, _⟩ := hW
  refine ⟨ds, gs, p ++ q, [], p, q, hW2, ?_, ?_, ?_, hb.frame _, fun h => by cases h⟩
  · rw [hf1, hr]
    exact trodAll_cons_mk (shut_bool htb _) trodAll_mk0
  · rw [hf2]
    exact all_stays hl hb _ _ _ _ ht hA (fun x hx => hlt x (by simp [hx]))
  · rw [hf3]
    exact vars_stay hl hb _ _ _ hv hV (fun x hx => hlt x (by simp [hx]))
end
end U
end Go.Proofs.YtljbcpkjhnbpeaaDoor

/- An argument that is a slice of pairs of numbers, opened: it reads as a list of pairs. -/
namespace Go.Proofs.YtljbcpkjhnbpeaaDoor
namespace U
open Go.ChangeShapes Go.WideShapes Go.ChangeAt Go.RowKit
def InI (p : Int × Int) : Prop := (-9223372036854775808 ≤ p.1 ∧ p.1 ≤ 9223372036854775807) ∧ -9223372036854775808 ≤ p.2 ∧ p.2 ≤ 9223372036854775807
theorem ints_of {H : Type} {enc : TypeId × Value → H} {P : Program} {W : World} {t : TypeId} {v : Value} {x : DataW H × List MemPlace} {fuel : Nat} (ht : P.underlying t = some (.int .i64))
    (h : DataW.trod enc P W 0 (fun _ => true) true fuel t [v] = some x) : ∃ n : Int, v = .int .i64 n ∧ -9223372036854775808 ≤ n ∧ n ≤ 9223372036854775807 := by
  obtain ⟨n, hn, _, hw⟩ := DataW.trod_int ht h
  exact ⟨n, by simpa using hn, bounds_i64 hw⟩
theorem prs_arg {H : Type} {enc : TypeId × Value → H} {P : Program} {W : World} {base : Nat} {t e : TypeId} {f0 f1 : Field} {v : Value} {d : DataW H} {p : List MemPlace} (ht : P.underlying t = some (.slice e)) (he : P.underlying e = some (.struct #[f0, f1]))
    (ce : P.cellsOf e = 2) (o0 : f0.offset = 0) (o1 : f1.offset = 1) (c0 : P.cellsOf f0.type = 1) (c1 : P.cellsOf f1.type = 1) (i0 : P.underlying f0.type = some (.int .i64)) (i1 : P.underlying f1.type = some (.int .i64))
    (hv : Value.okWide P W .any base t v) (h : DataW.Trod enc P W 0 (fun _ => true) true t v d p) : ∃ l, Prs W v l ∧ l.length ≤ maxLen ∧ ∀ q ∈ l, InI q := by
  obtain ⟨a0, len0, cap0, rfl⟩ := okWide_slice ht hv
  obtain ⟨fuel, hf⟩ := h
  rcases Go.Deep.open_slice_pairs ht he ce o0 o1 c0 c1 hf with ⟨hcs, hx⟩ | ⟨a, len, cap, m, n, V0, V1, D0, D1, P0, P1, hcs, h1, hl, hm, hmm, hx, hcell⟩
  · have e1 : (Value.slice a0 len0 cap0) = .slice none 0 0 := by simpa [Value.cells] using hcs
    cases e1
    exact ⟨[], Or.inl ⟨rfl, none, 0, rfl⟩, by simp, by simp⟩
  · have e1 : (Value.slice a0 len0 cap0) = .slice (some a) len cap := by simpa [Value.cells] using hcs
    cases e1
    rw [if_pos rfl] at hmm
    subst hmm
    by_cases h0 : len0 = 0
    · subst h0
      exact ⟨[], Or.inl ⟨rfl, _, _, rfl⟩, by simp, by simp⟩
    · have each : ∀ i, i < len0 → ∃ q : Int × Int, W.cell? (a.add (i * 2)) = some (.int .i64 q.1) ∧ W.cell? (a.add (i * 2 + 1)) = some (.int .i64 q.2) ∧ InI q := fun i hi => by
        obtain ⟨k0, k1, t0, t1⟩ := hcell i (by omega)
        obtain ⟨x, hx0, b0⟩ := ints_of i0 t0
        obtain ⟨y, hy0, b1⟩ := ints_of i1 t1
        exact ⟨(x, y), by rw [k0, hx0], by rw [k1, hy0], b0, b1⟩
      obtain ⟨q, hq⟩ := Go.Deep.choose_lt each
      obtain ⟨b, off, spot⟩ := a
      have hspot : spot = none := by simpa [Addr.add] using World.cell?_spot (hq 0 (by omega)).1
      subst hspot
      have hb : b < W.heap.size := by
        have h3 := (hq 0 (by omega)).1
        rw [add_plain] at h3
        rcases hh : W.heap[b]? with _ | o
        · simp [World.cell?, hh] at h3
        · exact (Array.getElem?_eq_some_iff.1 hh).1
      refine ⟨(List.range len0).map q, Or.inr ⟨b, off, _, by simp; rfl, hb, fun j hj => ?_⟩, by simp; omega, fun x hx => ?_⟩
      · have hj' : j < len0 := by simpa using hj
        have e2 : pAt ((List.range len0).map q) j = q j := by rw [pAt_eq hj]; simp
        rw [e2]
        have h3 := hq j hj'
        rw [add_plain, add_plain] at h3
        exact ⟨h3.1, by rw [Nat.add_assoc]; exact h3.2.1⟩
      · obtain ⟨i, hi, rfl⟩ := List.mem_map.1 hx
        exact (hq i (List.mem_range.1 hi)).2.2
end U
end Go.Proofs.YtljbcpkjhnbpeaaDoor

/- The law FnExactOldTreeClash holds at every argument: it answers true, and the arguments read as they did; the library's own variable errors.errorType holds what the program's text lays. -/
namespace Go.Proofs.YtljbcpkjhnbpeaaDoor
namespace fnExactOldTreeClash
open Go.ChangeShapes Go.WideShapes Go.ChangeAt Go.RowKit

theorem own : ownKnob Tryd.prog.godebug = none := by kernel_rfl
theorem laidOut : laidOutB Tryd.prog = true := by kernel_rfl
theorem gEt : Tryd.prog.globalNamed "errors.errorType" = some 0 := by kernel_rfl
theorem gRt : (Tryd.prog.cutTypes.find? (·.1 == "internal/reflectlite.rtype")).map (·.2) = some 137 := by kernel_rfl
theorem oneRow : ((List.range 184).filter fun t => Tryd.prog.rowNamed t [101, 114, 114, 111, 114]) = [71] := by kernel_rfl
theorem tsize : Tryd.prog.types.size = 184 := by kernel_rfl
/-- What the condition gives a walk: the variable's one cell. -/
theorem handle {W : World} (h : laidMetH Tryd.prog Rows.fnExactOldTreeClashRow.laid W) : U.ErT W := by
  have h' : laidMet Tryd.prog [] W ∧ handlesMet Tryd.prog [("errors.errorType", Rows.laid_errors_errorType)] W := h
  obtain ⟨name, u, ty, e1, e2, e3, e4, e5⟩ := h'.2 _ (List.mem_singleton.2 rfl)
  have en : name = [101, 114, 114, 111, 114] := (Option.some.inj e1).symm
  subst en
  obtain rfl := Option.some.inj (gRt.symm.trans e2)
  have hm : ty ∈ (List.range 184).filter fun t => Tryd.prog.rowNamed t [101, 114, 114, 111, 114] := List.mem_filter.2 ⟨List.mem_range.2 (by rw [← tsize]; exact e3), e4⟩
  rw [oneRow] at hm
  obtain rfl := List.mem_singleton.1 hm
  have hh : typeHandle Tryd.prog 71 = .pointer (some ⟨1, 71, none⟩) := by kernel_rfl
  rw [hh] at e5
  have hc : W.cell? ⟨0, 0, none⟩ = some (.iface 137 (.agg #[.pointer (some ⟨1, 71, none⟩)])) := by simpa using World.var?_cell gEt e5 0
  exact ⟨hc, World.block_lt_of_cell? W ⟨0, 0, none⟩ hc⟩
/-- A world that meets the condition. -/
def laidWorld (w0 : World) : World :=
  { w0 with heap := w0.heap.modify 0 fun
      | .cells _ t frozen => .cells #[.iface 137 (.agg #[.pointer (some ⟨1, 71, none⟩)])] t frozen
      | o => o }
theorem laid_met (os : Os) : laidMetH Tryd.prog Rows.fnExactOldTreeClashRow.laid ((laidWorld (World.holding Tryd.prog os ⟨#[], #[], []⟩)).forCall (fun _ _ => 0) ⟨#[], #[.slice none 0 0, .slice none 0 0], []⟩).memory :=
  laidMetH_of_parts (laidMet_nil _ _) (by kernel_rfl)
set_option maxRecDepth 100000 in
theorem contract (H : Type) (enc : TypeId × Value → H) (W : World) (base : Nat) (args : Array Value) (ds gs : List (DataW H)) (before : List MemPlace)
    (hval : ∀ (j : Nat) t v, Tryd.f4.params[j]? = some t → args[j]? = some v → Value.okWide Tryd.prog W .any base t v)
    (hW : DataW.Whole enc Tryd.prog Tryd.f4.params.toList Rows.fnExactOldTreeClashSpec.vars false W args.toList ds gs before) (hL : laidMetH Tryd.prog Rows.fnExactOldTreeClashRow.laid W) :
    Calls Tryd.prog 4 args W fun e W' => ∃ v, e = .returned v ∧ Rows.fnExactOldTreeClashSpec.post enc Tryd.prog Tryd.f4 false true false false W args v W' := by
  have hW' := hW
  obtain ⟨p, q, hA0, hV, rfl, hfz, hnd⟩ := hW
  have hA : DataW.TrodAll enc Tryd.prog W 0 (fun _ => true) true Tryd.f4.params.toList args.toList ds p := hA0
  rw [Tryd.params4] at hA hval
  obtain ⟨v0, vs0, d0, ds0, p0, q0, hargs0, rfl, rfl, h0, r0⟩ := trodAll_cons hA
  obtain ⟨v1, vs1, d1, ds1, p1, q1, hargs1, rfl, rfl, h1, r1⟩ := trodAll_cons r0
  obtain ⟨rfl, rfl, rfl⟩ := trodAll_nil r1
  obtain rfl : args = #[v0, v1] := by cases args; simp_all
  obtain ⟨rfl, rfl⟩ := trodVars_none hV
  obtain ⟨l0, hl0, hlen0, -⟩ := U.prs_arg Tryd.underlying22 Tryd.underlying43 (by kernel_rfl) rfl rfl (by kernel_rfl) (by kernel_rfl) Tryd.underlying2 Tryd.underlying2 (hval 0 22 v0 rfl rfl) h0
  obtain ⟨l1, hl1, hlen1, -⟩ := U.prs_arg Tryd.underlying22 Tryd.underlying43 (by kernel_rfl) rfl rfl (by kernel_rfl) (by kernel_rfl) Tryd.underlying2 Tryd.underlying2 (hval 1 22 v1 rfl rfl) h1
  clear hA0
  refine (U.fnExactOldTreeClash_walk v0 l0 v1 l1 W (handle hL) hl0 hlen0 hl1 hlen1).mono fun e W' ⟨he, hg⟩ => ?_
  subst he
  refine ⟨_, rfl, U.law_post (tb := 4) hW' hg laidOut ?_ (fun n hn => by cases hn) (by kernel_rfl) Tryd.underlying4 rfl rfl rfl⟩
  rw [Tryd.params4]; intro t ht; simp at ht; subst ht; exact ⟨by kernel_rfl, of_decide_eq_true (by kernel_rfl)⟩
theorem reads (os : Os) {H : Type} (enc : TypeId × Value → H) : DataW.whole enc Tryd.prog ((laidWorld (World.holding Tryd.prog os ⟨#[], #[], []⟩)).forCall (fun _ _ => 0) ⟨#[], #[.slice none 0 0, .slice none 0 0], []⟩).memory Tryd.f4.params.toList Rows.fnExactOldTreeClashSpec.vars false (#[.slice none 0 0, .slice none 0 0] : Array Value).toList 8 = some ([.nil, .nil], [], []) := by kernel_rfl

set_option maxRecDepth 100000 in
theorem lifted (os : Os) (started : os.Started) (H : Type) (enc : TypeId × Value → H) (F : Stop.Interp) :
    ReturnsInHanded {} Tryd.checked os 4 .any ((OpenSpec.ofChange Rows.fnExactOldTreeClashSpec).preRow enc Tryd.prog Tryd.f4 Rows.fnExactOldTreeClashRow.domain false Rows.fnExactOldTreeClashRow.laid) (((OpenSpec.ofChange Rows.fnExactOldTreeClashSpec).at F).post enc Tryd.prog Tryd.f4 false true false false) := by
  refine returnsInHanded_of_row (C := Tryd.checked) (s := OpenSpec.ofChange Rows.fnExactOldTreeClashSpec) own started (by kernel_rfl) Tryd.func4
    (witness_row_at (enc := enc) (C := Tryd.checked) false (laidWorld (World.holding Tryd.prog os ⟨#[], #[], []⟩)) #[.slice none 0 0, .slice none 0 0] rfl (by kernel_rfl) (by kernel_rfl) (by kernel_rfl)
      (OpenSpec.preRow_of_cond 8 (reads os enc) (by kernel_rfl) (fun k hk => by cases hk) (by kernel_rfl) (laid_met os))) ?_
  intro W base args ds gs before hval hW _ _ _ hL hSh _
  exact contract H enc W base args ds gs before hval hW hL

theorem said : Rows.FnExactOldTreeClashSaid :=
  OpenClaim.holds_of_cond 4 Tryd.f4 rfl rfl rfl rfl rfl rfl rfl ⟨rfl, rfl, rfl, rfl, rfl⟩ rfl rfl rfl rfl rfl (by kernel_rfl) Tryd.func4 (by kernel_rfl)
    (of_decide_eq_true (by kernel_rfl)) (by unfold Func.isWrapper; first | (rw [if_pos (by decide +kernel)]; kernel_rfl) | (rw [if_neg (by decide +kernel)]; exact ⟨rfl, rfl⟩))
    (fun os started H enc _ F => by rw [OpenClaim.pre_eq_preRow]; exact lifted os started H enc F)

theorem plain (f : FuncId) (fn : Func) (hf : Tryd.pinned.checked.prog.funcNamed "loop.example/g00602/laws.FnExactOldTreeClash" = some f) (hfn : Tryd.pinned.checked.prog.funcs[f]? = some fn) :
    true = Tryd.pinned.checked.prog.looks [] ∧ ∀ (j : Nat) t, fn.params[j]? = some t → Tryd.pinned.checked.prog.wantsStandIn t = false := by
  obtain rfl : f = 4 := Option.some.inj ((show Tryd.prog.funcNamed "loop.example/g00602/laws.FnExactOldTreeClash" = some 4 by kernel_rfl).symm.trans hf) |>.symm
  obtain rfl : fn = Tryd.f4 := (Option.some.inj (Tryd.func4.symm.trans hfn)).symm
  refine ⟨by kernel_rfl, fun j t ht => ?_⟩
  rw [Tryd.params4] at ht
  have ht := Array.mem_of_getElem? ht
  simp at ht
  subst ht
  exact (show Tryd.prog.wantsStandIn 22 = false by kernel_rfl)
end fnExactOldTreeClash
/-- The card of FnExactOldTreeClash: whatever the arguments, the call returns true and they read as before. -/
theorem fnExactOldTreeClash_holds : Rows.FnExactOldTreeClashCardSaid :=
  Claim7.holds_tied_plain_at .later [] _ _ _ _ fnExactOldTreeClash.said (fun _ h => by cases h) (by kernel_rfl) (fun _ h => by cases h) fnExactOldTreeClash_row_tie rfl ⟨rfl, rfl⟩ (by kernel_rfl) rfl fnExactOldTreeClash.plain (by kernel_rfl)
#print axioms fnExactOldTreeClash_holds
end Go.Proofs.YtljbcpkjhnbpeaaDoor
