/- Directories as the laws look at them: copied. -/
import Derived.Test.YtihhigmceeabmaaGreatDrL
namespace Go.Proofs.YtihhigmceeabmaaGreat
open Go.RowKit
namespace U
theorem flR_set (l : Rcl) (r : Rc) : ∀ (k : Nat), k < l.length → flR (l.set k r) = ((((flR l).set (k * 4) (.string r.l)).set (k * 4 + 1) (.int .i64 r.v)).set (k * 4 + 2) (.int .i64 r.o)).set (k * 4 + 3) (.int .i64 r.p) := by
  induction l with
  | nil => intro k h; simp at h
  | cons x t ih =>
    intro k h
    have e : ∀ t : Rcl, ∀ x : Rc, flR (x :: t) = .string x.l :: .int .i64 x.v :: .int .i64 x.o :: .int .i64 x.p :: flR t := fun t x => rfl
    cases k with
    | zero => simp [e]
    | succ k =>
      have h1 := ih k (by simpa using h)
      rw [List.set_cons_succ, e, e, h1, show (k + 1) * 4 = k * 4 + 1 + 1 + 1 + 1 by omega]
      simp
/-- The first records, nothing behind them. -/
def rset (l : Rcl) (k : Nat) : Rcl := l.take k ++ List.replicate (l.length - k) rcZ
theorem rset_len (l : Rcl) {k : Nat} (h : k ≤ l.length) : (rset l k).length = l.length := by unfold rset; rw [List.length_append, List.length_take, List.length_replicate]; omega
theorem rset_all (l : Rcl) : rset l l.length = l := by unfold rset; simp
theorem rset_at (l : Rcl) {k : Nat} (h : k ≤ l.length) (i : Nat) : (rset l k)[i]? = if i < k then l[i]? else if i < l.length then some rcZ else none := by
  unfold rset
  rw [List.getElem?_append, List.length_take, List.getElem?_take, List.getElem?_replicate]
  by_cases h1 : i < k
  · rw [if_pos (by omega), if_pos h1]
    simp [h1]
  · rw [if_neg (by omega), if_neg h1]
    by_cases h2 : i < l.length
    · rw [if_pos h2, if_pos (by omega)]
    · rw [if_neg h2, if_neg (by omega)]
theorem rset_set (l : Rcl) {k : Nat} (h : k < l.length) : (rset l k).set k (rAt l k) = rset l (k + 1) := by
  apply List.ext_getElem?
  intro i
  rw [List.getElem?_set, rset_at l (by omega), rset_at l (by omega), rset_len l (by omega)]
  by_cases e : k = i
  · subst e
    rw [if_pos rfl, if_pos h, if_pos (by omega), rAt_eq h, List.getElem?_eq_getElem h]
  · rw [if_neg e]
    by_cases h1 : i < k
    · rw [if_pos h1, if_pos (by omega)]
    · have h2 : ¬ i < k + 1 := by omega
      rw [if_neg h1, if_neg h2]
theorem made_four (n : Nat) : (madeCells #[Value.string ⟨#[]⟩, Value.int .i64 0, Value.int .i64 0, Value.int .i64 0] (n * 4)).toList = flR (List.replicate n rcZ) := by
  apply List.ext_getElem?
  intro i
  by_cases hi : i < n * 4
  · have h4 := flR_at (List.replicate n rcZ) (i / 4) (by rw [List.length_replicate]; omega)
    have hz : rAt (List.replicate n rcZ) (i / 4) = rcZ := by rw [rAt_eq (by rw [List.length_replicate]; omega), List.getElem_replicate]
    rw [hz] at h4
    have hm : (madeCells #[Value.string ⟨#[]⟩, Value.int .i64 0, Value.int .i64 0, Value.int .i64 0] (n * 4)).toList[i]? = some (#[Value.string ⟨#[]⟩, Value.int .i64 0, Value.int .i64 0, Value.int .i64 0][i % 4]!) := by
      simp only [madeCells, Array.toList_map, List.getElem?_map]
      rw [show (Array.range (n * 4)).toList[i]? = some i by simp [hi]]
      rfl
    rw [hm]
    have hd : i = i / 4 * 4 + i % 4 := by omega
    rcases (by omega : i % 4 = 0 ∨ i % 4 = 1 ∨ i % 4 = 2 ∨ i % 4 = 3) with h | h | h | h
    · rw [h, Nat.add_zero] at hd
      rw [h, hd, h4.1]
      rfl
    · rw [h] at hd
      rw [h, hd, h4.2.1]
      rfl
    · rw [h] at hd
      rw [h, hd, h4.2.2.1]
      rfl
    · rw [h] at hd
      rw [h, hd, h4.2.2.2]
      rfl
  · rw [List.getElem?_eq_none (by simp [madeCells]; omega), List.getElem?_eq_none (by rw [flR_len, List.length_replicate]; omega)]
theorem made_rcs {w1 w : World} {n : Nat} {l : Rcl} (HN : n = l.length) (h : w1.ownsRow w.heap.size 37 4 (.slice (some ⟨w.heap.size, 0, none⟩) n n) n (madeCells #[Value.string ⟨#[]⟩, Value.int .i64 0, Value.int .i64 0, Value.int .i64 0] (n * 4)).toList) :
    w1.ownsRow w.heap.size 37 4 (.slice (some ⟨w.heap.size, 0, none⟩) n n) n (flR (rset l 0)) := by
  have e : rset l 0 = List.replicate n rcZ := by unfold rset; simp [HN]
  rw [e, ← made_four]
  exact h
theorem own_some4 {w : World} {B g n cap : Nat} {e : TypeId} {xs : List Value} (h : w.ownsRow B e 4 (.slice (some ⟨g, 0, none⟩) n cap) n xs) {j : Nat} (hj : j < n * 4) : ∃ x, w.cell? ⟨g, j, none⟩ = some x :=
  ⟨_, (h.cellAt j (by omega)).trans (List.getElem?_eq_getElem (by rw [h.1]; omega))⟩
set_option maxRecDepth 100000 in
set_option maxHeartbeats 4000000 in
theorem toRecordS_core (b off c n : Nat) (l : Rcl) (w : World) (HN : Hid (n = l.length)) (hx : n ≤ 1048576) (hb : b < w.heap.size) (hc : ∀ j, j < n → RecS w b (off + j * 4) (rAt l j)) :
    Calls Tryz.prog 125 #[.slice (some ⟨b, off, none⟩) n c] w fun e w' => e = .returned (.slice (some ⟨w.heap.size, 0, none⟩) n n) ∧ Below w.heap.size w w' ∧ w'.ownsRow w.heap.size 37 4 (.slice (some ⟨w.heap.size, 0, none⟩) n n) n (flR l) := by
  obtain ⟨i0, hi, hz0, hz1, hz2⟩ := info_parts Tryz.infoRc
  go_enter Tryz.func125, Tryz.ntmps125
  go_wp2_with (at_make; refine wpList_make_full _ rfl _ _ 92 rfl w.heap.size 37 i0 (.agg #[.string ⟨#[]⟩, .int .i64 0, .int .i64 0, .int .i64 0]) 4 Tryz.underlying92 hi hz0 hz1 _ _ _ _ n rfl rfl rfl rfl (by rw [hz2]; omega) (by unfold maxLen; omega) (Nat.le_refl _) ?_)
  intro w1 hown1 hg1
  have own1 := made_rcs HN.out hown1
  have hB1 : Below w.heap.size w w1 := (Below.refl _ _).grown hg1 (Nat.le_refl _) (fun k hk => by cases hk)
  clear hown1 hg1
  go_wp2
  go_loopw [4] (fun i wr => ∃ k : Nat, k ≤ n ∧ i = .int .i64 k ∧ Below w.heap.size w wr ∧ w.heap.size < wr.heap.size ∧ wr.ownsRow w.heap.size 37 4 (.slice (some ⟨w.heap.size, 0, none⟩) n n) n (flR (rset l k))) (fun i _ => n - (intOf i).toNat)
  case atStart => exact ⟨0, Nat.zero_le _, rfl, hB1, (own1.lt _ rfl).2, own1⟩
  case round =>
    obtain ⟨k, hk, rfl, hB, hsz, ho⟩ := hrel
    by_cases hkn : k < n
    · have hki : (k : Int) < (n : Int) := by omega
      obtain ⟨d0, d1, d2, d3⟩ := (hc k hkn).below hB hb
      have hbr : b < wr.heap.size := Nat.lt_of_lt_of_le hb hB.size
      have hlk : k < l.length := by have := HN.out; omega
      have hts : ((((flR (rset l k)).set (k * 4) (.string (rAt l k).l)).set (k * 4 + 1) (.int .i64 (rAt l k).v)).set (k * 4 + 2) (.int .i64 (rAt l k).o)).set (k * 4 + 3) (.int .i64 (rAt l k).p) = flR (rset l (k + 1)) := by
        rw [← flR_set _ _ k (by rw [rset_len l (by omega)]; exact hlk), rset_set l hlk]
      have hT := fun w => toRecord_any (rAt l k).l (rAt l k).v (rAt l k).o (rAt l k).p w
      unfold recV at hT
      generalize (rAt l k).l = x0 at *
      generalize (rAt l k).v = x1 at *
      generalize (rAt l k).o = x2 at *
      generalize (rAt l k).p = x3 at *
      have HT : Hid (((((flR (rset l k)).set (k * 4) (.string x0)).set (k * 4 + 1) (.int .i64 x1)).set (k * 4 + 2) (.int .i64 x2)).set (k * 4 + 3) (.int .i64 x3) = flR (rset l (k + 1))) := hts
      have HB : Hid (Below w.heap.size w wr) := hB
      have HO : Hid (wr.ownsRow w.heap.size 37 4 (.slice (some ⟨w.heap.size, 0, none⟩) n n) n (flR (rset l k))) := ho
      clear hc hts own1 hB1 ho hB
      go_wp2_with fail
      refine (hT _).mono ?_
      rintro e w2 ⟨rfl, hb2⟩
      have ho2 := own_below HO.out hb2
      have f0 := ho2.frozenAt (k * 4)
      have f1 := ho2.frozenAt (k * 4 + 1)
      have f2 := ho2.frozenAt (k * 4 + 2)
      have f3 := ho2.frozenAt (k * 4 + 3)
      obtain ⟨z0, g0⟩ := own_some4 ho2 (j := k * 4) (by omega)
      obtain ⟨z1, g1⟩ := own_some4 ho2 (j := k * 4 + 1) (by omega)
      obtain ⟨z2, g2⟩ := own_some4 ho2 (j := k * 4 + 2) (by omega)
      obtain ⟨z3, g3⟩ := own_some4 ho2 (j := k * 4 + 3) (by omega)
      have s1 := (ho2.stored (k * 4) (.string x0)).1
      have s2 := (s1.stored (k * 4 + 1) (.int .i64 x1)).1
      have s3 := (s2.stored (k * 4 + 2) (.int .i64 x2)).1
      have s4 := (s3.stored (k * 4 + 3) (.int .i64 x3)).1
      rw [HT.out] at s4
      have hB2 : Below w.heap.size w ((((w2.setCell ⟨w.heap.size, k * 4, none⟩ (.string x0)).setCell ⟨w.heap.size, k * 4 + 1, none⟩ (.int .i64 x1)).setCell ⟨w.heap.size, k * 4 + 2, none⟩ (.int .i64 x2)).setCell ⟨w.heap.size, k * 4 + 3, none⟩ (.int .i64 x3)) := ((((below_after_of HB.out hb2).setCell (Nat.le_refl _) _).setCell (Nat.le_refl _) _).setCell (Nat.le_refl _) _).setCell (Nat.le_refl _) _
      have hsz2 : w.heap.size < w2.heap.size := by have := hb2.size; omega
      have HB2 : Hid (Below w.heap.size w ((((w2.setCell ⟨w.heap.size, k * 4, none⟩ (.string x0)).setCell ⟨w.heap.size, k * 4 + 1, none⟩ (.int .i64 x1)).setCell ⟨w.heap.size, k * 4 + 2, none⟩ (.int .i64 x2)).setCell ⟨w.heap.size, k * 4 + 3, none⟩ (.int .i64 x3))) := hB2
      have HS2 : Hid (((((w2.setCell ⟨w.heap.size, k * 4, none⟩ (.string x0)).setCell ⟨w.heap.size, k * 4 + 1, none⟩ (.int .i64 x1)).setCell ⟨w.heap.size, k * 4 + 2, none⟩ (.int .i64 x2)).setCell ⟨w.heap.size, k * 4 + 3, none⟩ (.int .i64 x3)).ownsRow w.heap.size 37 4 (.slice (some ⟨w.heap.size, 0, none⟩) n n) n (flR (rset l (k + 1)))) := s4
      clear ho2 s1 s2 s3 s4 hB2 hb2 hT
      go_wp2
      go_roundw
      case rel => exact ⟨k + 1, by omega, by go_num, HB2.out, by simp; omega, HS2.out⟩
      case measure => simp [intOf]; omega
    · have hkn : k = n := by omega
      subst hkn
      have e1 : rset l k = l := by rw [HN.out]; exact rset_all _
      rw [e1] at ho
      go_wp2
      go_ret
      exact ⟨rfl, hB, ho⟩
set_option maxRecDepth 100000 in
set_option maxHeartbeats 1000000 in
theorem toRecordS_any (v : Value) (l : Rcl) (w : World) (hv : Rcs w v l) (hx : l.length ≤ 1048576) :
    Calls Tryz.prog 125 #[v] w fun e w' => ∃ a c, e = .returned (.slice a l.length c) ∧ Below w.heap.size w w' ∧ w'.ownsRow w.heap.size 37 4 (.slice a l.length c) l.length (flR l) := by
  obtain ⟨a, c, rfl⟩ := hv.shape
  by_cases h0 : 0 < l.length
  · obtain ⟨_, b, off, rfl, hb, hc⟩ := hv.at h0
    refine (toRecordS_core b off c l.length l w rfl hx hb hc).mono ?_
    rintro e w' ⟨rfl, hB, ho⟩
    exact ⟨_, _, rfl, hB, ho⟩
  · have e1 : l = [] := List.eq_nil_of_length_eq_zero (by omega)
    subst e1
    obtain ⟨i0, hi, hz0, hz1, hz2⟩ := info_parts Tryz.infoRc
    simp only [List.length_nil] at *
    clear hv h0
    go_enter Tryz.func125, Tryz.ntmps125
    go_wp2_with (at_make; refine wpList_make_full _ rfl _ _ 92 rfl w.heap.size 37 i0 (.agg #[.string ⟨#[]⟩, .int .i64 0, .int .i64 0, .int .i64 0]) 4 Tryz.underlying92 hi hz0 hz1 _ _ _ _ 0 rfl rfl rfl rfl (by rw [hz2]; omega) (by unfold maxLen; omega) (Nat.le_refl _) ?_)
    intro w1 hown1 hg1
    have hB1 : Below w.heap.size w w1 := (Below.refl _ _).grown hg1 (Nat.le_refl _) (fun k hk => by cases hk)
    have own1 := made_rcs (l := []) rfl hown1
    clear hown1 hg1
    go_wp2
    refine wp_loop_rounds 1 ?_; rw [rounds_succ]
    go_wp2
    go_ret
    exact ⟨_, _, rfl, hB1, own1⟩
set_option maxRecDepth 100000 in
set_option maxHeartbeats 1000000 in
theorem toDirectory_any (v : Value) (l : Rcl) (w : World) (hv : Rcs w v l) (hx : l.length ≤ 1048576) :
    Calls Tryz.prog 71 #[.agg #[v]] w fun e w' => ∃ a c, e = .returned (.agg #[.slice a l.length c]) ∧ Below w.heap.size w w' ∧ w'.ownsRow w.heap.size 37 4 (.slice a l.length c) l.length (flR l) := by
  obtain ⟨a, c, rfl⟩ := hv.shape
  obtain ⟨W, hW⟩ : ∃ W, W = ((w.alloc (.cells #[.slice a l.length c] 85)).alloc (.cells #[.slice none 0 0] 94)).alloc (.cells #[.slice none 0 0] 94) := ⟨_, rfl⟩
  have HW : Hid (((w.alloc (.cells #[.slice a l.length c] 85)).alloc (.cells #[.slice none 0 0] 94)).alloc (.cells #[.slice none 0 0] 94) = W) := hW.symm
  have hB : Below w.heap.size w W := by rw [hW]; exact ((one_new _).alloc (one_new _).size _).alloc ((one_new _).alloc (one_new _).size _).size _
  have HH : Hid (W.heap[w.heap.size + 1]? = some (.cells #[.slice none 0 0] 94) ∧ W.heap[w.heap.size + 1 + 1]? = some (.cells #[.slice none 0 0] 94)) := (by
    rw [hW]
    have h1 := heap_alloc_new (w.alloc (.cells #[.slice a l.length c] 85)) (.cells #[.slice none 0 0] 94)
    have h2 := heap_alloc_new ((w.alloc (.cells #[.slice a l.length c] 85)).alloc (.cells #[.slice none 0 0] 94)) (.cells #[.slice none 0 0] 94)
    simp only [World.size_alloc] at h1 h2
    exact ⟨((one_new _).block (w.heap.size + 1) (by simp)).trans h1, h2⟩ : _ ∧ _)
  have hT := toRecordS_any _ l W (hv.below hB) hx
  have hzW : w.heap.size + 1 + 1 < W.heap.size := (Array.getElem?_eq_some_iff.1 HH.out.2).1
  generalize l.length = n at *
  clear hW hv
  go_enter Tryz.func71, Tryz.ntmps71
  go_wp2_with fail
  rw [HW.out]
  refine hT.mono ?_
  rintro e w1 ⟨a1, c1, rfl, hb1, o1⟩
  have HO : Hid (w1.ownsRow W.heap.size 37 4 (.slice a1 n c1) n (flR l)) := o1
  have q1 := (hb1.block (w.heap.size + 1) (by omega)).trans HH.out.1
  have q2 := (hb1.block (w.heap.size + 1 + 1) hzW).trans HH.out.2
  have k1 : w1.cell? ⟨w.heap.size + 1, 0, none⟩ = some (.slice none 0 0) := by unfold World.cell?; rw [q1]; rfl
  have k2 : w1.cell? ⟨w.heap.size + 1 + 1, 0, none⟩ = some (.slice none 0 0) := by unfold World.cell?; rw [q2]; rfl
  have f1 : w1.frozen? ⟨w.heap.size + 1, 0, none⟩ = false := by unfold World.frozen?; rw [q1]; rfl
  have f2 : w1.frozen? ⟨w.heap.size + 1 + 1, 0, none⟩ = false := by unfold World.frozen?; rw [q2]; rfl
  have HB1 : Hid (Below w.heap.size w w1) := below_after_of hB hb1
  have hz1 : w.heap.size + 1 + 1 < w1.heap.size := Nat.lt_of_lt_of_le hzW hb1.size
  clear hT hb1 o1 q1 q2
  go_wp2
  refine bodyPost_ret (v := .agg #[.slice a1 n c1]) (by simp [results, Tryz.results71, go_sem, *]) rfl ⟨a1, c1, rfl, (HB1.out.setCell (by show w.heap.size ≤ w.heap.size + 1 + 1; omega) _).setCell (by show w.heap.size ≤ w.heap.size + 1; omega) _, ?_⟩
  exact own_mono (ownsRow_setCell_below (ownsRow_setCell_below HO.out (by show w.heap.size + 1 + 1 < W.heap.size; omega) _) (by show w.heap.size + 1 < W.heap.size; omega) _) hB.size
end U
end Go.Proofs.YtihhigmceeabmaaGreat
