/- Rows of sums, as the program makes them. -/
import Derived.Test.YtljbcpkjhnbpeaaDoorSl3
import Derived.Test.YtljbcpkjhnbpeaaDoorSl4
namespace Go.Proofs.YtljbcpkjhnbpeaaDoor
open Go.RowKit
namespace U
theorem Tryd.infoPl : (Tryd.prog.info? 129).map (fun i => (i.zero, i.size, i.bytes)) = some (some (.agg #[.int .i64 0, .int .i64 0]), 2, 16) := by kernel_rfl
/-- The leaves of the first slots. -/
def leaves (l : Prl) (k : Nat) : Prl := (l.take k).map fun p => (p.1, l3 p)
theorem leaves_zero (l : Prl) : leaves l 0 = [] := rfl
theorem leaves_all (l : Prl) : leaves l l.length = rows l 0 := by unfold leaves rows; rw [List.take_length]
theorem leaves_succ {l : Prl} {k : Nat} (h : k < l.length) : leaves l (k + 1) = leaves l k ++ [((pAt l k).1, l3 (pAt l k))] := by
  unfold leaves
  rw [takeP h, List.map_append]
  rfl
theorem leaves_len {l : Prl} {k : Nat} (h : k ≤ l.length) : (leaves l k).length = k := by unfold leaves; rw [List.length_map, List.length_take]; omega
set_option maxRecDepth 100000 in
set_option maxHeartbeats 2000000 in
theorem leafRow_any (v : Value) (l : Prl) (w : World) (hv : Prs w v l) (hn : l.length ≤ 12) (hf : ∀ p ∈ l, fine p = true) :
    Calls Tryd.prog 80 #[v] w fun e w' => ∃ v', e = .returned v' ∧ w'.ownsRow w.heap.size 129 2 v' (rows l 0).length ((fl (rows l 0)).map (Value.int .i64)) ∧ Below w.heap.size w w' := by
  obtain ⟨i0, hi, hz0, hz1, hz2⟩ := info_parts Tryd.infoPl
  have HV : Hid (Prs w v l) := hv
  obtain ⟨ad, c, rfl⟩ := hv.shape
  obtain ⟨n, hnl⟩ : ∃ n, n = l.length := ⟨_, rfl⟩
  have HN : Hid (n = l.length) := hnl
  have HF : Hid (∀ p ∈ l, fine p = true) := hf
  rw [← hnl] at hn HV ⊢
  clear hv hnl hf
  go_enter Tryd.func80, Tryd.ntmps80
  go_wp2
  go_loopw [3, 9] (fun u i wr => ∃ k : Nat, k ≤ n ∧ i = .int .i64 k ∧ Hid (Below w.heap.size w wr) ∧ Hid (wr.ownsRow w.heap.size 129 2 u (leaves l k).length ((fl (leaves l k)).map (Value.int .i64)))) (fun _ i _ => n - (intOf i).toNat)
  case atStart => exact ⟨0, Nat.zero_le _, rfl, Below.refl _ _, World.ownsRow_nil _ _ _ _⟩
  case round =>
    obtain ⟨k, hk, rfl, hB, ho⟩ := hrel
    obtain ⟨a', c', rfl⟩ := own_shape2 ho.out
    by_cases hkn : k < n
    · have hki : (k : Int) < (n : Int) := by omega
      have hkl : k < l.length := by have := HN.out; omega
      obtain ⟨-, bk, off, rfl, hbk, hc⟩ := HV.out.at (by omega)
      have hc1 := (hB.out.cell (p := ⟨bk, off + k * 2, none⟩) hbk).trans (hc k hkl).1
      have hc2 := (hB.out.cell (p := ⟨bk, off + k * 2 + 1, none⟩) hbk).trans (hc k hkl).2
      have hfx := fine_bd (HF.out (pAt l k) (by rw [pAt_eq hkl]; exact List.getElem_mem _))
      have hS := leaves_succ hkl
      have hlen : (leaves l k).length ≤ 12 := by rw [leaves_len (Nat.le_of_lt hkl)]; omega
      have hp := pair_tag (tag := 3) (by omega) (a := (pAt l k).1) (b := (pAt l k).2) (by omega) hfx.2
      have e0 : sumL (tagL 3 [(pAt l k).1, (pAt l k).2]) = l3 (pAt l k) := rfl
      rw [e0] at hp
      have hT := fun v w hv => implTagSum_any 3 v [(pAt l k).1, (pAt l k).2] w hv (by simp)
      rw [hp.1, hp.2] at hT
      generalize l3 (pAt l k) = z at *
      generalize (pAt l k).1 = x at *
      generalize (pAt l k).2 = y at *
      have HS : Hid (leaves l (k + 1) = leaves l k ++ [(x, z)]) := hS
      generalize leaves l k = m at *
      have kf := fun w => field_IR1 0 z w
      have hbs : bk < wr.heap.size := Nat.lt_of_lt_of_le hbk hB.out.size
      clear hc hfx hp e0 hS
      go_wp2_with fail
      refine (hT _ _ (two_ints_at (by simp))).mono ?_
      rintro e w1 ⟨rfl, hb1⟩
      clear hT
      have hb1' := below_after hb1
      obtain ⟨g0, g1, -, -⟩ := two_cellsV ((hb1'.block wr.heap.size (by simp)).trans (heap_alloc_new wr _))
      have hB1 := below_after_of (hB.out.alloc hB.out.size _) hb1'
      have ho1 := own_below (ho.out.alloc _) hb1'
      have hsz : wr.heap.size < w1.heap.size := by have := hb1'.size; simp at this; omega
      have hwz := hB1.size
      clear hb1 hb1' ho hc1 hc2
      go_wp2_with (at_builtin; refine wpList_append_own _ rfl _ _ 125 rfl w.heap.size 129 i0 (.agg #[.int .i64 0, .int .i64 0]) 2 16 Tryd.underlying125 hi hz0 hz1 hz2 rfl (by decide) _ _ _ rfl (ho1.alloc _) ⟨w1.heap.size, 0, none⟩ 1 1 [.int .i64 x, .int .i64 z] rfl rfl (World.news_of_block (heap_alloc_new _ _)) (ints_oneCell .i64 [x, z]) (by unfold maxLen; omega) (by omega) (by simp; omega) ?_)
      intro v' w2 hown' hgrow _
      have hb2 : Below w.heap.size w w2 := (hB1.alloc (by omega) _).grown hgrow (by simp; omega) (fun k hk => (ho1.lt k hk).1)
      have own2 := own_snoc hown'
      clear hgrow hown' ho1
      go_wp2
      go_roundw
      case rel => exact ⟨k + 1, by omega, by go_num, hb2, by rw [HS.out]; exact own2⟩
      case measure => simp [intOf]; omega
    · have hkn : k = n := by omega
      subst hkn
      have e1 : leaves l k = rows l 0 := by rw [HN.out]; exact leaves_all _
      rw [e1] at ho ⊢
      go_wp2
      go_ret
      exact ⟨_, rfl, ho.out, hB.out⟩
/-- The sum above the first one of a row, and how many are in it. -/
def fp (e : Int) : Prl → Int × Nat
  | [] => (0, 1)
  | [(q, s)] => (if q % 2 = 1 then t2 e s else t2 s e, 1)
  | (q, s) :: (q', s') :: _ => if q % 2 = 1 then (t2 e s, 1) else if q' = q + 1 then (t2 s s', 2) else (t2 s e, 1)
theorem abv_fp (e : Int) {r : Prl} (h : 0 < r.length) : abv e r = ((pAt r 0).1 / 2, (fp e r).1) :: abv e (r.drop (fp e r).2) ∧ 1 ≤ (fp e r).2 ∧ (fp e r).2 ≤ r.length := by
  match r, h with
  | [(q, s)], _ => refine ⟨?_, by simp [fp], by simp [fp]⟩; simp [abv, fp, pAt]
  | (q, s) :: (q', s') :: t, _ =>
    by_cases h1 : q % 2 = 1
    · have e1 : fp e ((q, s) :: (q', s') :: t) = (t2 e s, 1) := by simp [fp, h1]
      rw [e1]
      refine ⟨?_, by simp, by simp⟩
      rw [abv, if_pos h1]
      simp [pAt]
    · by_cases h2 : q' = q + 1
      · have e1 : fp e ((q, s) :: (q', s') :: t) = (t2 s s', 2) := by simp [fp, h1, h2]
        rw [e1]
        refine ⟨?_, by simp, by simp⟩
        rw [abv, if_neg h1, if_pos h2]
        simp [pAt]
      · have e1 : fp e ((q, s) :: (q', s') :: t) = (t2 s e, 1) := by simp [fp, h1, h2]
        rw [e1]
        refine ⟨?_, by simp, by simp⟩
        rw [abv, if_neg h1, if_neg h2]
        simp [pAt]
theorem fp_odd (e : Int) {r : Prl} (h : 0 < r.length) (h1 : (pAt r 0).1 % 2 = 1) : fp e r = (t2 e (pAt r 0).2, 1) := by
  match r, h with
  | [(q, s)], _ => simp [pAt] at h1; simp [fp, pAt, h1]
  | (q, s) :: (q', s') :: t, _ => simp [pAt] at h1; simp [fp, pAt, h1]
theorem fp_pair (e : Int) {r : Prl} (h : 1 < r.length) (h1 : ¬ (pAt r 0).1 % 2 = 1) (h2 : (pAt r 1).1 = (pAt r 0).1 + 1) : fp e r = (t2 (pAt r 0).2 (pAt r 1).2, 2) := by
  match r, h with
  | (q, s) :: (q', s') :: t, _ => simp [pAt] at h1 h2; simp [fp, pAt, h1, h2]
theorem fp_one (e : Int) {r : Prl} (h : 0 < r.length) (h1 : ¬ (pAt r 0).1 % 2 = 1) (h2 : ¬ (1 < r.length ∧ (pAt r 1).1 = (pAt r 0).1 + 1)) : fp e r = (t2 (pAt r 0).2 e, 1) := by
  match r, h with
  | [(q, s)], _ => simp [pAt] at h1; simp [fp, pAt, h1]
  | (q, s) :: (q', s') :: t, _ => simp [pAt] at h1 h2; simp [fp, pAt, h1, h2]
end U
end Go.Proofs.YtljbcpkjhnbpeaaDoor
