/- Joined: what the texts behind it need. -/
import Derived.Test.YtdchnanihceeeaaGAA
import Derived.Lib.AppendStr
import Derived.Deep.RegionLaw
import Derived.Deep.DrawnRows
/- Directories as the laws look at them: copied. -/
namespace Go.Proofs.Ytdchnanihceeeaa
open Go.RowKit
namespace U
theorem flR_set (l : Rcl) (r : Rc) : ∀ (k : Nat), k < l.length → flR (l.set k r) = ((((flR l).set (k * 4) (.string r.l)).set (k * 4 + 1) (.int .i64 r.v)).set (k * 4 + 2) (.int .i64 r.o)).set (k * 4 + 3) (.int .i64 r.p) := by
  induction l with
  | nil => intro k h; simp at h
  | cons x t ih =>
    intro k h
    have e : ∀ t : Rcl, ∀ x : Rc, flR (x :: t) = .string x.l :: .int .i64 x.v :: .int .i64 x.o :: .int .i64 x.p :: flR t := fun t x => rfl
    cases k with
    | zero => simp [e]
    | succ k =>
      have h1 := ih k (by simpa using h)
      rw [List.set_cons_succ, e, e, h1, show (k + 1) * 4 = k * 4 + 1 + 1 + 1 + 1 by omega]
      simp
/-- The first records, nothing behind them. -/
def rset (l : Rcl) (k : Nat) : Rcl := l.take k ++ List.replicate (l.length - k) rcZ
theorem rset_len (l : Rcl) {k : Nat} (h : k ≤ l.length) : (rset l k).length = l.length := by unfold rset; rw [List.length_append, List.length_take, List.length_replicate]; omega
theorem rset_all (l : Rcl) : rset l l.length = l := by unfold rset; simp
theorem rset_at (l : Rcl) {k : Nat} (h : k ≤ l.length) (i : Nat) : (rset l k)[i]? = if i < k then l[i]? else if i < l.length then some rcZ else none := by
  unfold rset
  rw [List.getElem?_append, List.length_take, List.getElem?_take, List.getElem?_replicate]
  by_cases h1 : i < k
  · rw [if_pos (by omega), if_pos h1]
    simp [h1]
  · rw [if_neg (by omega), if_neg h1]
    by_cases h2 : i < l.length
    · rw [if_pos h2, if_pos (by omega)]
    · rw [if_neg h2, if_neg (by omega)]
theorem rset_set (l : Rcl) {k : Nat} (h : k < l.length) : (rset l k).set k (rAt l k) = rset l (k + 1) := by
  apply List.ext_getElem?
  intro i
  rw [List.getElem?_set, rset_at l (by omega), rset_at l (by omega), rset_len l (by omega)]
  by_cases e : k = i
  · subst e
    rw [if_pos rfl, if_pos h, if_pos (by omega), rAt_eq h, List.getElem?_eq_getElem h]
  · rw [if_neg e]
    by_cases h1 : i < k
    · rw [if_pos h1, if_pos (by omega)]
    · have h2 : ¬ i < k + 1 := by omega
      rw [if_neg h1, if_neg h2]
theorem made_four (n : Nat) : (madeCells #[Value.string ⟨#[]⟩, Value.int .i64 0, Value.int .i64 0, Value.int .i64 0] (n * 4)).toList = flR (List.replicate n rcZ) := by
  apply List.ext_getElem?
  intro i
  by_cases hi : i < n * 4
  · have h4 := flR_at (List.replicate n rcZ) (i / 4) (by rw [List.length_replicate]; omega)
    have hz : rAt (List.replicate n rcZ) (i / 4) = rcZ := by rw [rAt_eq (by rw [List.length_replicate]; omega), List.getElem_replicate]
    rw [hz] at h4
    have hm : (madeCells #[Value.string ⟨#[]⟩, Value.int .i64 0, Value.int .i64 0, Value.int .i64 0] (n * 4)).toList[i]? = some (#[Value.string ⟨#[]⟩, Value.int .i64 0, Value.int .i64 0, Value.int .i64 0][i % 4]!) := by
      simp only [madeCells, Array.toList_map, List.getElem?_map]
      rw [show (Array.range (n * 4)).toList[i]? = some i by simp [hi]]
      rfl
    rw [hm]
    have hd : i = i / 4 * 4 + i % 4 := by omega
    rcases (by omega : i % 4 = 0 ∨ i % 4 = 1 ∨ i % 4 = 2 ∨ i % 4 = 3) with h | h | h | h
    · rw [h, Nat.add_zero] at hd
      rw [h, hd, h4.1]
      rfl
    · rw [h] at hd
      rw [h, hd, h4.2.1]
      rfl
    · rw [h] at hd
      rw [h, hd, h4.2.2.1]
      rfl
    · rw [h] at hd
      rw [h, hd, h4.2.2.2]
      rfl
  · rw [List.getElem?_eq_none (by simp [madeCells]; omega), List.getElem?_eq_none (by rw [flR_len, List.length_replicate]; omega)]
theorem made_rcs {w1 w : World} {n : Nat} {l : Rcl} (HN : n = l.length) (h : w1.ownsRow w.heap.size 51 4 (.slice (some ⟨w.heap.size, 0, none⟩) n n) n (madeCells #[Value.string ⟨#[]⟩, Value.int .i64 0, Value.int .i64 0, Value.int .i64 0] (n * 4)).toList) :
    w1.ownsRow w.heap.size 51 4 (.slice (some ⟨w.heap.size, 0, none⟩) n n) n (flR (rset l 0)) := by
  have e : rset l 0 = List.replicate n rcZ := by unfold rset; simp [HN]
  rw [e, ← made_four]
  exact h
theorem own_some4 {w : World} {B g n cap : Nat} {e : TypeId} {xs : List Value} (h : w.ownsRow B e 4 (.slice (some ⟨g, 0, none⟩) n cap) n xs) {j : Nat} (hj : j < n * 4) : ∃ x, w.cell? ⟨g, j, none⟩ = some x :=
  ⟨_, (h.cellAt j (by omega)).trans (List.getElem?_eq_getElem (by rw [h.1]; omega))⟩
set_option maxRecDepth 100000 in
set_option maxHeartbeats 4000000 in
theorem toRecordS_core (b off c n : Nat) (l : Rcl) (w : World) (HN : Hid (n = l.length)) (hx : n ≤ 1048576) (hb : b < w.heap.size) (hc : ∀ j, j < n → RecS w b (off + j * 4) (rAt l j)) :
    Calls Try.prog 98 #[.slice (some ⟨b, off, none⟩) n c] w fun e w' => e = .returned (.slice (some ⟨w.heap.size, 0, none⟩) n n) ∧ Below w.heap.size w w' ∧ w'.ownsRow w.heap.size 51 4 (.slice (some ⟨w.heap.size, 0, none⟩) n n) n (flR l) := by
  obtain ⟨i0, hi, hz0, hz1, hz2⟩ := info_parts Try.infoRc
  go_enter Try.func98, Try.ntmps98
  go_wp2_with (at_make; refine wpList_make_full _ rfl _ _ 22 rfl w.heap.size 51 i0 (.agg #[.string ⟨#[]⟩, .int .i64 0, .int .i64 0, .int .i64 0]) 4 Try.underlying22 hi hz0 hz1 _ _ _ _ n rfl rfl rfl rfl (by rw [hz2]; omega) (by unfold maxLen; omega) (Nat.le_refl _) ?_)
  intro w1 hown1 hg1
  have own1 := made_rcs HN.out hown1
  have hB1 : Below w.heap.size w w1 := (Below.refl _ _).grown hg1 (Nat.le_refl _) (fun k hk => by cases hk)
  clear hown1 hg1
  go_wp2
  go_loopw [4] (fun i wr => ∃ k : Nat, k ≤ n ∧ i = .int .i64 k ∧ Below w.heap.size w wr ∧ w.heap.size < wr.heap.size ∧ wr.ownsRow w.heap.size 51 4 (.slice (some ⟨w.heap.size, 0, none⟩) n n) n (flR (rset l k))) (fun i _ => n - (intOf i).toNat)
  case atStart => exact ⟨0, Nat.zero_le _, rfl, hB1, (own1.lt _ rfl).2, own1⟩
  case round =>
    obtain ⟨k, hk, rfl, hB, hsz, ho⟩ := hrel
    by_cases hkn : k < n
    · have hki : (k : Int) < (n : Int) := by omega
      obtain ⟨d0, d1, d2, d3⟩ := (hc k hkn).below hB hb
      have hbr : b < wr.heap.size := Nat.lt_of_lt_of_le hb hB.size
      have hlk : k < l.length := by have := HN.out; omega
      have hts : ((((flR (rset l k)).set (k * 4) (.string (rAt l k).l)).set (k * 4 + 1) (.int .i64 (rAt l k).v)).set (k * 4 + 2) (.int .i64 (rAt l k).o)).set (k * 4 + 3) (.int .i64 (rAt l k).p) = flR (rset l (k + 1)) := by
        rw [← flR_set _ _ k (by rw [rset_len l (by omega)]; exact hlk), rset_set l hlk]
      have hT := fun w => toRecord_any (rAt l k).l (rAt l k).v (rAt l k).o (rAt l k).p w
      unfold recV at hT
      generalize (rAt l k).l = x0 at *
      generalize (rAt l k).v = x1 at *
      generalize (rAt l k).o = x2 at *
      generalize (rAt l k).p = x3 at *
      have HT : Hid (((((flR (rset l k)).set (k * 4) (.string x0)).set (k * 4 + 1) (.int .i64 x1)).set (k * 4 + 2) (.int .i64 x2)).set (k * 4 + 3) (.int .i64 x3) = flR (rset l (k + 1))) := hts
      have HB : Hid (Below w.heap.size w wr) := hB
      have HO : Hid (wr.ownsRow w.heap.size 51 4 (.slice (some ⟨w.heap.size, 0, none⟩) n n) n (flR (rset l k))) := ho
      clear hc hts own1 hB1 ho hB
      go_wp2_with fail
      refine (hT _).mono ?_
      rintro e w2 ⟨rfl, hb2⟩
      have ho2 := own_below HO.out hb2
      have f0 := ho2.frozenAt (k * 4)
      have f1 := ho2.frozenAt (k * 4 + 1)
      have f2 := ho2.frozenAt (k * 4 + 2)
      have f3 := ho2.frozenAt (k * 4 + 3)
      obtain ⟨z0, g0⟩ := own_some4 ho2 (j := k * 4) (by omega)
      obtain ⟨z1, g1⟩ := own_some4 ho2 (j := k * 4 + 1) (by omega)
      obtain ⟨z2, g2⟩ := own_some4 ho2 (j := k * 4 + 2) (by omega)
      obtain ⟨z3, g3⟩ := own_some4 ho2 (j := k * 4 + 3) (by omega)
      have s1 := (ho2.stored (k * 4) (.string x0)).1
      have s2 := (s1.stored (k * 4 + 1) (.int .i64 x1)).1
      have s3 := (s2.stored (k * 4 + 2) (.int .i64 x2)).1
      have s4 := (s3.stored (k * 4 + 3) (.int .i64 x3)).1
      rw [HT.out] at s4
      have hB2 : Below w.heap.size w ((((w2.setCell ⟨w.heap.size, k * 4, none⟩ (.string x0)).setCell ⟨w.heap.size, k * 4 + 1, none⟩ (.int .i64 x1)).setCell ⟨w.heap.size, k * 4 + 2, none⟩ (.int .i64 x2)).setCell ⟨w.heap.size, k * 4 + 3, none⟩ (.int .i64 x3)) := ((((below_after_of HB.out hb2).setCell (Nat.le_refl _) _).setCell (Nat.le_refl _) _).setCell (Nat.le_refl _) _).setCell (Nat.le_refl _) _
      have hsz2 : w.heap.size < w2.heap.size := by have := hb2.size; omega
      have HB2 : Hid (Below w.heap.size w ((((w2.setCell ⟨w.heap.size, k * 4, none⟩ (.string x0)).setCell ⟨w.heap.size, k * 4 + 1, none⟩ (.int .i64 x1)).setCell ⟨w.heap.size, k * 4 + 2, none⟩ (.int .i64 x2)).setCell ⟨w.heap.size, k * 4 + 3, none⟩ (.int .i64 x3))) := hB2
      have HS2 : Hid (((((w2.setCell ⟨w.heap.size, k * 4, none⟩ (.string x0)).setCell ⟨w.heap.size, k * 4 + 1, none⟩ (.int .i64 x1)).setCell ⟨w.heap.size, k * 4 + 2, none⟩ (.int .i64 x2)).setCell ⟨w.heap.size, k * 4 + 3, none⟩ (.int .i64 x3)).ownsRow w.heap.size 51 4 (.slice (some ⟨w.heap.size, 0, none⟩) n n) n (flR (rset l (k + 1)))) := s4
      clear ho2 s1 s2 s3 s4 hB2 hb2 hT
      go_wp2
      go_roundw
      case rel => exact ⟨k + 1, by omega, by go_num, HB2.out, by simp; omega, HS2.out⟩
      case measure => simp [intOf]; omega
    · have hkn : k = n := by omega
      subst hkn
      have e1 : rset l k = l := by rw [HN.out]; exact rset_all _
      rw [e1] at ho
      go_wp2
      go_ret
      exact ⟨rfl, hB, ho⟩
set_option maxRecDepth 100000 in
set_option maxHeartbeats 1000000 in
theorem toRecordS_any (v : Value) (l : Rcl) (w : World) (hv : Rcs w v l) (hx : l.length ≤ 1048576) :
    Calls Try.prog 98 #[v] w fun e w' => ∃ a c, e = .returned (.slice a l.length c) ∧ Below w.heap.size w w' ∧ w'.ownsRow w.heap.size 51 4 (.slice a l.length c) l.length (flR l) := by
  obtain ⟨a, c, rfl⟩ := hv.shape
  by_cases h0 : 0 < l.length
  · obtain ⟨_, b, off, rfl, hb, hc⟩ := hv.at h0
    refine (toRecordS_core b off c l.length l w rfl hx hb hc).mono ?_
    rintro e w' ⟨rfl, hB, ho⟩
    exact ⟨_, _, rfl, hB, ho⟩
  · have e1 : l = [] := List.eq_nil_of_length_eq_zero (by omega)
    subst e1
    obtain ⟨i0, hi, hz0, hz1, hz2⟩ := info_parts Try.infoRc
    simp only [List.length_nil] at *
    clear hv h0
    go_enter Try.func98, Try.ntmps98
    go_wp2_with (at_make; refine wpList_make_full _ rfl _ _ 22 rfl w.heap.size 51 i0 (.agg #[.string ⟨#[]⟩, .int .i64 0, .int .i64 0, .int .i64 0]) 4 Try.underlying22 hi hz0 hz1 _ _ _ _ 0 rfl rfl rfl rfl (by rw [hz2]; omega) (by unfold maxLen; omega) (Nat.le_refl _) ?_)
    intro w1 hown1 hg1
    have hB1 : Below w.heap.size w w1 := (Below.refl _ _).grown hg1 (Nat.le_refl _) (fun k hk => by cases hk)
    have own1 := made_rcs (l := []) rfl hown1
    clear hown1 hg1
    go_wp2
    refine wp_loop_rounds 1 ?_; rw [rounds_succ]
    go_wp2
    go_ret
    exact ⟨_, _, rfl, hB1, own1⟩
set_option maxRecDepth 100000 in
set_option maxHeartbeats 1000000 in
theorem toDirectory_any (v : Value) (l : Rcl) (w : World) (hv : Rcs w v l) (hx : l.length ≤ 1048576) :
    Calls Try.prog 49 #[.agg #[v]] w fun e w' => ∃ a c, e = .returned (.agg #[.slice a l.length c]) ∧ Below w.heap.size w w' ∧ w'.ownsRow w.heap.size 51 4 (.slice a l.length c) l.length (flR l) := by
  obtain ⟨a, c, rfl⟩ := hv.shape
  obtain ⟨W, hW⟩ : ∃ W, W = ((w.alloc (.cells #[.slice a l.length c] 38)).alloc (.cells #[.slice none 0 0] 24)).alloc (.cells #[.slice none 0 0] 24) := ⟨_, rfl⟩
  have HW : Hid (((w.alloc (.cells #[.slice a l.length c] 38)).alloc (.cells #[.slice none 0 0] 24)).alloc (.cells #[.slice none 0 0] 24) = W) := hW.symm
  have hB : Below w.heap.size w W := by rw [hW]; exact ((one_new _).alloc (one_new _).size _).alloc ((one_new _).alloc (one_new _).size _).size _
  have HH : Hid (W.heap[w.heap.size + 1]? = some (.cells #[.slice none 0 0] 24) ∧ W.heap[w.heap.size + 1 + 1]? = some (.cells #[.slice none 0 0] 24)) := (by
    rw [hW]
    have h1 := heap_alloc_new (w.alloc (.cells #[.slice a l.length c] 38)) (.cells #[.slice none 0 0] 24)
    have h2 := heap_alloc_new ((w.alloc (.cells #[.slice a l.length c] 38)).alloc (.cells #[.slice none 0 0] 24)) (.cells #[.slice none 0 0] 24)
    simp only [World.size_alloc] at h1 h2
    exact ⟨((one_new _).block (w.heap.size + 1) (by simp)).trans h1, h2⟩ : _ ∧ _)
  have hT := toRecordS_any _ l W (hv.below hB) hx
  have hzW : w.heap.size + 1 + 1 < W.heap.size := (Array.getElem?_eq_some_iff.1 HH.out.2).1
  generalize l.length = n at *
  clear hW hv
  go_enter Try.func49, Try.ntmps49
  go_wp2_with fail
  rw [HW.out]
  refine hT.mono ?_
  rintro e w1 ⟨a1, c1, rfl, hb1, o1⟩
  have HO : Hid (w1.ownsRow W.heap.size 51 4 (.slice a1 n c1) n (flR l)) := o1
  have q1 := (hb1.block (w.heap.size + 1) (by omega)).trans HH.out.1
  have q2 := (hb1.block (w.heap.size + 1 + 1) hzW).trans HH.out.2
  have k1 : w1.cell? ⟨w.heap.size + 1, 0, none⟩ = some (.slice none 0 0) := by unfold World.cell?; rw [q1]; rfl
  have k2 : w1.cell? ⟨w.heap.size + 1 + 1, 0, none⟩ = some (.slice none 0 0) := by unfold World.cell?; rw [q2]; rfl
  have f1 : w1.frozen? ⟨w.heap.size + 1, 0, none⟩ = false := by unfold World.frozen?; rw [q1]; rfl
  have f2 : w1.frozen? ⟨w.heap.size + 1 + 1, 0, none⟩ = false := by unfold World.frozen?; rw [q2]; rfl
  have HB1 : Hid (Below w.heap.size w w1) := below_after_of hB hb1
  have hz1 : w.heap.size + 1 + 1 < w1.heap.size := Nat.lt_of_lt_of_le hzW hb1.size
  clear hT hb1 o1 q1 q2
  go_wp2
  refine bodyPost_ret (v := .agg #[.slice a1 n c1]) (by simp [results, Try.results49, go_sem, *]) rfl ⟨a1, c1, rfl, (HB1.out.setCell (by show w.heap.size ≤ w.heap.size + 1 + 1; omega) _).setCell (by show w.heap.size ≤ w.heap.size + 1; omega) _, ?_⟩
  exact own_mono (ownsRow_setCell_below (ownsRow_setCell_below HO.out (by show w.heap.size + 1 + 1 < W.heap.size; omega) _) (by show w.heap.size + 1 < W.heap.size; omega) _) hB.size
end U
end Go.Proofs.Ytdchnanihceeeaa

/- Directories as the laws look at them: compared. -/
namespace Go.Proofs.Ytdchnanihceeeaa
open Go.RowKit
namespace U
theorem one_cellV {w : World} {g : Nat} {x : Value} {t : TypeId} (h : w.heap[g]? = some (.cells #[x] t)) : w.cell? ⟨g, 0, none⟩ = some x := by unfold World.cell?; rw [h]; rfl
set_option maxRecDepth 100000 in
set_option maxHeartbeats 4000000 in
theorem eqRecordS_core (b off c b' off' c' n : Nat) (l : Rcl) (w : World) (hx : n ≤ 1048576) (hb : b < w.heap.size) (hb' : b' < w.heap.size) (hc : ∀ j, j < n → RecS w b (off + j * 4) (rAt l j)) (hc' : ∀ j, j < n → RecS w b' (off' + j * 4) (rAt l j)) :
    Calls Try.prog 101 #[.slice (some ⟨b, off, none⟩) n c, .slice (some ⟨b', off', none⟩) n c'] w fun e w' => e = .returned (.bool true) ∧ Below w.heap.size w w' := by
  have hnn := hne_all
  go_enter Try.func101, Try.ntmps101
  go_wp2
  go_loopw [5] (fun i wr => ∃ k : Nat, k ≤ n ∧ i = .int .i64 k ∧ Hid (Below w.heap.size w wr)) (fun i _ => n - (intOf i).toNat)
  case atStart => exact ⟨0, Nat.zero_le _, rfl, Below.refl _ _⟩
  case round =>
    obtain ⟨k, hk, rfl, hB⟩ := hrel
    by_cases hkn : k < n
    · have hki : (k : Int) < (n : Int) := by omega
      obtain ⟨d0, d1, d2, d3⟩ := (hc k hkn).below hB.out hb
      obtain ⟨d0', d1', d2', d3'⟩ := (hc' k hkn).below hB.out hb'
      have hE := fun w => eqRecord_same (rAt l k).l (rAt l k).v (rAt l k).o (rAt l k).p w
      unfold recV at hE
      generalize (rAt l k).l = x0 at *
      generalize (rAt l k).v = x1 at *
      generalize (rAt l k).o = x2 at *
      generalize (rAt l k).p = x3 at *
      have q0 := After.cell d0
      have q1 := After.cell d1
      have q2 := After.cell d2
      have q3 := After.cell d3
      have p0 := After.cell d0'
      have p1 := After.cell d1'
      have p2 := After.cell d2'
      have p3 := After.cell d3'
      have hne := After.ne wr
      clear hc hc' d0 d1 d2 d3 d0' d1' d2' d3'
      go_wp2_with fail
      refine wp_region_after (by kernel_rfl) (by kernel_rfl) ?_
      repeat (first | go_big_quiet_skip | (go_big_quiet_want; go_big_quiet_op; first | go_big_quiet_on | go_big_quiet_call (first | (go_at_call 134; refine (hE _).mono ?_; rintro e wq ⟨rfl, hbq⟩; exact ⟨rfl, after_mk (below_after_of (After.b _) hbq)⟩))))
      refine wpQuiet_nil ?_
      rintro _ ⟨n6, rfl⟩
      have HB6 : Hid (Below w.heap.size w n6.w) := below_after_of hB.out n6.b
      generalize n6.w = w6 at *
      clear hne q0 q1 q2 q3 p0 p1 p2 p3 n6 hE
      go_wp2
      go_roundw
      case rel => exact ⟨k + 1, by omega, by go_num, HB6⟩
      case measure => simp [intOf]; omega
    · have hkn : k = n := by omega
      subst hkn
      clear hc hc'
      go_wp2
      go_ret
      exact ⟨rfl, hB.out⟩
set_option maxRecDepth 100000 in
set_option maxHeartbeats 1000000 in
theorem eqRecordS_same (v u : Value) (l : Rcl) (w : World) (hv : Rcs w v l) (hu : Rcs w u l) (hx : l.length ≤ 1048576) :
    Calls Try.prog 101 #[v, u] w fun e w' => e = .returned (.bool true) ∧ Below w.heap.size w w' := by
  obtain ⟨a, c, rfl⟩ := hv.shape
  obtain ⟨a', c', rfl⟩ := hu.shape
  by_cases h0 : 0 < l.length
  · obtain ⟨_, b, off, rfl, hb, hc⟩ := hv.at h0
    obtain ⟨_, b', off', rfl, hb', hc'⟩ := hu.at h0
    exact eqRecordS_core b off c b' off' c' l.length l w hx hb hb' hc hc'
  · have e1 : l = [] := List.eq_nil_of_length_eq_zero (by omega)
    subst e1
    simp only [List.length_nil] at *
    clear hv hu h0
    go_enter Try.func101, Try.ntmps101
    go_wp2
    refine wp_loop_rounds 1 ?_; rw [rounds_succ]
    go_wp2
    go_ret
    exact ⟨rfl, Below.refl _ _⟩
set_option maxRecDepth 100000 in
set_option maxHeartbeats 1000000 in
theorem eqDirectory_same (v u : Value) (l : Rcl) (w : World) (hv : Rcs w v l) (hu : Rcs w u l) (hx : l.length ≤ 1048576) :
    Calls Try.prog 56 #[.agg #[v], .agg #[u]] w fun e w' => e = .returned (.bool true) ∧ Below w.heap.size w w' := by
  have hE := fun o o' => eqRecordS_same v u l ((w.alloc o).alloc o') (hv.below (two_new _ _)) (hu.below (two_new _ _)) hx
  obtain ⟨a, c, rfl⟩ := hv.shape
  obtain ⟨a', c', rfl⟩ := hu.shape
  generalize l.length = n at *
  clear hv hu
  go_enter Try.func56, Try.ntmps56
  go_wp2_with fail
  refine (hE _ _).mono ?_
  rintro e w1 ⟨rfl, hb1⟩
  clear hE
  go_wp2
  go_ret
  exact ⟨rfl, below_after (below_after hb1)⟩
end U
end Go.Proofs.Ytdchnanihceeeaa

/- Directories that are the same, by the program and by the model. -/
namespace Go.Proofs.Ytdchnanihceeeaa
open Go.RowKit
namespace U
def rcB (r s : Rc) : Bool := (r.l.toList == s.l.toList) && ((r.v == s.v) && ((r.o == s.o) && (r.p == s.p)))
theorem rcB_iff (r s : Rc) : rcB r s = true ↔ r = s := by
  obtain ⟨l, v, o, p⟩ := r
  obtain ⟨l', v', o', p'⟩ := s
  unfold rcB
  simp only [Bool.and_eq_true, beq_iff_eq, Rc.mk.injEq, toList_iff]
theorem rcB_same (r : Rc) : rcB r r = true := (rcB_iff r r).2 rfl
def sameL (l m : Rcl) : Bool := (l.length == m.length) && (List.range l.length).all fun j => rcB (rAt l j) (rAt m j)
theorem sameL_len {l m : Rcl} (h : ¬ l.length = m.length) : sameL l m = false := by unfold sameL; rw [beq_eq_false_iff_ne.2 h]; rfl
theorem sameL_no {l m : Rcl} {k : Nat} (hk : k < l.length) (h : rcB (rAt l k) (rAt m k) = false) : sameL l m = false := by
  unfold sameL
  rw [Bool.and_eq_false_iff]
  right
  rw [List.all_eq_false]
  exact ⟨k, List.mem_range.2 hk, by rw [h]; decide⟩
theorem sameL_yes {l m : Rcl} (h : l.length = m.length) (ha : ∀ j, j < l.length → rcB (rAt l j) (rAt m j) = true) : sameL l m = true := by
  unfold sameL
  rw [h, beq_self_eq_true, Bool.true_and, List.all_eq_true]
  intro j hj
  exact ha j (by rw [h]; exact List.mem_range.1 hj)
theorem sameL_iff (l m : Rcl) : sameL l m = true ↔ l = m := by
  constructor
  · intro h
    have hl : l.length = m.length := by
      by_cases h1 : l.length = m.length
      · exact h1
      · rw [sameL_len h1] at h; cases h
    apply List.ext_getElem hl
    intro j h1 h2
    rw [← rAt_eq h1, ← rAt_eq h2, ← rcB_iff]
    cases hb : rcB (rAt l j) (rAt m j)
    · rw [sameL_no h1 hb] at h; cases h
    · rfl
  · rintro rfl
    exact sameL_yes rfl (fun j _ => rcB_same _)
theorem rec_neq_any (r s : Rc) (w : World) : (binOp .neq 51 (recV r.l r.v r.o r.p) (recV s.l s.v s.o s.p)).run Try.prog w = .ok (.bool (!rcB r s)) w := by
  unfold recV rcB
  simp [go_sem]
  by_cases h : r.l.toList = s.l.toList <;> by_cases h1 : r.v = s.v <;> by_cases h2 : r.o = s.o <;> by_cases h3 : r.p = s.p <;> simp [h, h1, h2, h3]
set_option maxRecDepth 100000 in
set_option maxHeartbeats 4000000 in
theorem sliceEqual_core (b off c b' off' c' n : Nat) (l m : Rcl) (w : World) (HN : Hid (n = l.length ∧ n = m.length)) (hx : n ≤ 1048576) (hb : b < w.heap.size) (hb' : b' < w.heap.size) (hc : ∀ j, j < n → RecS w b (off + j * 4) (rAt l j)) (hc' : ∀ j, j < n → RecS w b' (off' + j * 4) (rAt m j)) :
    Calls Try.prog 77 #[.slice (some ⟨b, off, none⟩) n c, .slice (some ⟨b', off', none⟩) n c'] w fun e w' => e = .returned (.bool (sameL l m)) ∧ Below w.heap.size w w' := by
  have hnn := hne_all
  go_enter Try.func77, Try.ntmps77
  go_wp2
  go_loopw [13] (fun i wr => ∃ k : Nat, k ≤ n ∧ i = .int .i64 k ∧ Hid (Below w.heap.size w wr) ∧ Hid (∀ j, j < k → rcB (rAt l j) (rAt m j) = true)) (fun i _ => n - (intOf i).toNat)
  case atStart => exact ⟨0, Nat.zero_le _, rfl, Below.refl _ _, fun j hj => by omega⟩
  case round =>
    obtain ⟨k, hk, rfl, hB, HA⟩ := hrel
    by_cases hkn : k < n
    · have hki : (k : Int) < (n : Int) := by omega
      obtain ⟨d0, d1, d2, d3⟩ := (hc k hkn).below hB.out hb
      obtain ⟨d0', d1', d2', d3'⟩ := (hc' k hkn).below hB.out hb'
      have hE := rec_neq_any (rAt l k) (rAt m k)
      unfold recV at hE
      have HNO : Hid (rcB (rAt l k) (rAt m k) = false → sameL l m = false) := sameL_no (by have := HN.out; omega)
      have HYE : Hid (rcB (rAt l k) (rAt m k) = true → ∀ j, j < k + 1 → rcB (rAt l j) (rAt m j) = true) := (fun h j hj => by
        by_cases e : j = k
        · subst e; exact h
        · exact HA.out j (by omega) : rcB (rAt l k) (rAt m k) = true → ∀ j, j < k + 1 → rcB (rAt l j) (rAt m j) = true)
      generalize rcB (rAt l k) (rAt m k) = rb at *
      generalize (rAt l k).l = x0 at *
      generalize (rAt l k).v = x1 at *
      generalize (rAt l k).o = x2 at *
      generalize (rAt l k).p = x3 at *
      generalize (rAt m k).l = y0 at *
      generalize (rAt m k).v = y1 at *
      generalize (rAt m k).o = y2 at *
      generalize (rAt m k).p = y3 at *
      clear hc hc'
      cases rb
      · have HQ : Hid (sameL l m = false) := HNO.out rfl
        clear HNO HYE
        go_wp2
        go_quiet (fail)
        go_wp2
        go_ret
        exact ⟨ret_bool HQ.out.symm, below_drewN hB.out _⟩
      · have HQ : Hid (∀ j, j < k + 1 → rcB (rAt l j) (rAt m j) = true) := HYE.out rfl
        clear HNO HYE
        go_wp2
        go_quiet (fail)
        go_wp2
        go_roundw
        case rel => exact ⟨k + 1, by omega, by go_num, below_drewN hB.out _, HQ⟩
        case measure => simp [intOf]; omega
    · have hkn : k = n := by omega
      subst hkn
      have HQ : Hid (sameL l m = true) := sameL_yes (by rw [← HN.out.1, ← HN.out.2]) (fun j hj => HA.out j (by rw [HN.out.1]; exact hj))
      clear hc hc'
      go_wp2
      go_ret
      exact ⟨ret_bool HQ.out.symm, hB.out⟩
set_option maxRecDepth 100000 in
set_option maxHeartbeats 1000000 in
theorem sliceEqual_any (v u : Value) (l m : Rcl) (w : World) (hv : Rcs w v l) (hu : Rcs w u m) (hx : l.length ≤ 1048576) (hy : m.length ≤ 1048576) :
    Calls Try.prog 77 #[v, u] w fun e w' => e = .returned (.bool (sameL l m)) ∧ Below w.heap.size w w' := by
  obtain ⟨a, c, rfl⟩ := hv.shape
  obtain ⟨a', c', rfl⟩ := hu.shape
  by_cases hlm : l.length = m.length
  · rw [← hlm] at hu ⊢
    by_cases h0 : 0 < l.length
    · obtain ⟨_, b, off, rfl, hb, hc⟩ := hv.at h0
      obtain ⟨_, b', off', rfl, hb', hc'⟩ := hu.at (by omega)
      exact sliceEqual_core b off c b' off' c' l.length l m w ⟨rfl, hlm⟩ hx hb hb' hc (fun j hj => hc' j (by omega))
    · have e1 : l = [] := List.eq_nil_of_length_eq_zero (by omega)
      have e2 : m = [] := List.eq_nil_of_length_eq_zero (by omega)
      subst e1 e2
      have e3 : sameL [] [] = true := rfl
      rw [e3]
      simp only [List.length_nil] at *
      clear hv hu h0 hlm
      go_enter Try.func77, Try.ntmps77
      go_wp2
      refine wp_loop_rounds 1 ?_; rw [rounds_succ]
      go_wp2
      go_ret
      exact ⟨rfl, Below.refl _ _⟩
  · rw [sameL_len hlm]
    have hnb : (((l.length : Nat) : Int) != ((m.length : Nat) : Int)) = true := by simp; omega
    generalize l.length = n at *
    generalize m.length = k at *
    clear hv hu hlm
    go_enter Try.func77, Try.ntmps77
    go_wp2
    go_ret
    exact ⟨rfl, Below.refl _ _⟩
set_option maxRecDepth 100000 in
set_option maxHeartbeats 1000000 in
theorem implSameDirectories_any (v u : Value) (l m : Rcl) (w : World) (hv : Rcs w v l) (hu : Rcs w u m) (hx : l.length ≤ 1048576) (hy : m.length ≤ 1048576) :
    Calls Try.prog 25 #[.agg #[v], .agg #[u]] w fun e w' => e = .returned (.bool (sameL l m)) ∧ Below w.heap.size w w' := by
  have hE := fun o o' => sliceEqual_any v u l m ((w.alloc o).alloc o') (hv.below (two_new _ _)) (hu.below (two_new _ _)) hx hy
  obtain ⟨a, c, rfl⟩ := hv.shape
  obtain ⟨a', c', rfl⟩ := hu.shape
  generalize sameL l m = q at *
  generalize l.length = n at *
  generalize m.length = k at *
  clear hv hu
  go_enter Try.func25, Try.ntmps25
  go_wp2_with fail
  refine (hE _ _).mono ?_
  rintro e w1 ⟨rfl, hb1⟩
  clear hE
  go_wp2
  go_ret
  exact ⟨rfl, below_after (below_after hb1)⟩
set_option maxRecDepth 100000 in
set_option maxHeartbeats 4000000 in
theorem l9Same_core (g og g' og' b off c b' off' c' n : Nat) (l m : Rcl) (w : World) (HN : Hid (n = l.length ∧ n = m.length)) (hx : n ≤ 1048576) (hg : g < w.heap.size) (hg' : g' < w.heap.size) (hb : b < w.heap.size) (hb' : b' < w.heap.size) (hD : w.cell? ⟨g, og, none⟩ = some (.slice (some ⟨b, off, none⟩) n c)) (hD' : w.cell? ⟨g', og', none⟩ = some (.slice (some ⟨b', off', none⟩) n c'))
    (hc : ∀ j, j < n → RecS w b (off + j * 4) (rAt l j)) (hc' : ∀ j, j < n → RecS w b' (off' + j * 4) (rAt m j)) :
    Calls Try.prog 47 #[.pointer (some ⟨g, og, none⟩), .pointer (some ⟨g', og', none⟩)] w fun e w' => e = .returned (.bool (sameL l m)) ∧ Below w.heap.size w w' := by
  have hnn := hne_all
  have HD : Hid (∀ w', Below w.heap.size w w' → w'.cell? ⟨g, og, none⟩ = some (.slice (some ⟨b, off, none⟩) n c) ∧ w'.cell? ⟨g', og', none⟩ = some (.slice (some ⟨b', off', none⟩) n c')) := fun w' h => ⟨(h.cell (p := ⟨g, og, none⟩) hg).trans hD, (h.cell (p := ⟨g', og', none⟩) hg').trans hD'⟩
  go_enter Try.func47, Try.ntmps47
  go_wp2
  go_quiet (fail)
  go_wp2
  go_loopw [5] (fun i wr => ∃ k : Nat, k ≤ n ∧ i = .int .i64 k ∧ Hid (Below w.heap.size w wr) ∧ Hid (∀ j, j < k → rcB (rAt l j) (rAt m j) = true)) (fun i _ => n - (intOf i).toNat)
  case atStart => exact ⟨0, Nat.zero_le _, rfl, below_drewN (Below.refl _ _) _, fun j hj => by omega⟩
  case round =>
    obtain ⟨k, hk, rfl, hB, HA⟩ := hrel
    obtain ⟨hDk, hDk'⟩ := HD.out _ hB.out
    by_cases hkn : k < n
    · have hki : (k : Int) < (n : Int) := by omega
      obtain ⟨d0, d1, d2, d3⟩ := (hc k hkn).below hB.out hb
      obtain ⟨d0', d1', d2', d3'⟩ := (hc' k hkn).below hB.out hb'
      have hE := rec_neq_any (rAt l k) (rAt m k)
      unfold recV at hE
      have HNO : Hid (rcB (rAt l k) (rAt m k) = false → sameL l m = false) := sameL_no (by have := HN.out; omega)
      have HYE : Hid (rcB (rAt l k) (rAt m k) = true → ∀ j, j < k + 1 → rcB (rAt l j) (rAt m j) = true) := (fun h j hj => by
        by_cases e : j = k
        · subst e; exact h
        · exact HA.out j (by omega) : rcB (rAt l k) (rAt m k) = true → ∀ j, j < k + 1 → rcB (rAt l j) (rAt m j) = true)
      generalize rcB (rAt l k) (rAt m k) = rb at *
      generalize (rAt l k).l = x0 at *
      generalize (rAt l k).v = x1 at *
      generalize (rAt l k).o = x2 at *
      generalize (rAt l k).p = x3 at *
      generalize (rAt m k).l = y0 at *
      generalize (rAt m k).v = y1 at *
      generalize (rAt m k).o = y2 at *
      generalize (rAt m k).p = y3 at *
      clear hc hc'
      cases rb
      · have HQ : Hid (sameL l m = false) := HNO.out rfl
        clear HNO HYE
        go_wp2
        go_quiet (fail)
        go_wp2
        go_ret
        exact ⟨ret_bool HQ.out.symm, below_drewN hB.out _⟩
      · have HQ : Hid (∀ j, j < k + 1 → rcB (rAt l j) (rAt m j) = true) := HYE.out rfl
        clear HNO HYE
        go_wp2
        go_quiet (fail)
        go_wp2
        go_roundw
        case rel => exact ⟨k + 1, by omega, by go_num, below_drewN hB.out _, HQ⟩
        case measure => simp [intOf]; omega
    · have hkn : k = n := by omega
      subst hkn
      have HQ : Hid (sameL l m = true) := sameL_yes (by rw [← HN.out.1, ← HN.out.2]) (fun j hj => HA.out j (by rw [HN.out.1]; exact hj))
      clear hc hc'
      go_wp2
      go_ret
      exact ⟨ret_bool HQ.out.symm, hB.out⟩
set_option maxRecDepth 100000 in
set_option maxHeartbeats 1000000 in
theorem l9Same_off (g og g' og' : Nat) (v u : Value) (l m : Rcl) (w : World) (hg : g < w.heap.size) (hg' : g' < w.heap.size) (hD : w.cell? ⟨g, og, none⟩ = some v) (hD' : w.cell? ⟨g', og', none⟩ = some u) (hv : Rcs w v l) (hu : Rcs w u m) (hx : l.length ≤ 1048576) (hy : m.length ≤ 1048576) :
    Calls Try.prog 47 #[.pointer (some ⟨g, og, none⟩), .pointer (some ⟨g', og', none⟩)] w fun e w' => e = .returned (.bool (sameL l m)) ∧ Below w.heap.size w w' := by
  obtain ⟨a, c, rfl⟩ := hv.shape
  obtain ⟨a', c', rfl⟩ := hu.shape
  by_cases hlm : l.length = m.length
  · rw [← hlm] at hu hD'
    by_cases h0 : 0 < l.length
    · obtain ⟨_, b, off, rfl, hb, hc⟩ := hv.at h0
      obtain ⟨_, b', off', rfl, hb', hc'⟩ := hu.at (by omega)
      exact l9Same_core g og g' og' b off c b' off' c' l.length l m w ⟨rfl, hlm⟩ hx hg hg' hb hb' hD hD' hc (fun j hj => hc' j (by omega))
    · have e1 : l = [] := List.eq_nil_of_length_eq_zero (by omega)
      have e2 : m = [] := List.eq_nil_of_length_eq_zero (by omega)
      subst e1 e2
      have e3 : sameL [] [] = true := rfl
      rw [e3]
      simp only [List.length_nil] at *
      clear hv hu h0 hlm
      go_enter Try.func47, Try.ntmps47
      go_wp2
      go_quiet (fail)
      go_wp2
      refine wp_loop_rounds 1 ?_; rw [rounds_succ]
      go_wp2
      go_ret
      exact ⟨rfl, below_drewN (Below.refl _ _) _⟩
  · rw [sameL_len hlm]
    have hnb : (((l.length : Nat) : Int) != ((m.length : Nat) : Int)) = true := by simp; omega
    generalize l.length = n at *
    generalize m.length = k at *
    clear hv hu hlm
    go_enter Try.func47, Try.ntmps47
    go_wp2
    go_quiet (fail)
    go_wp2
    go_ret
    exact ⟨rfl, below_drewN (Below.refl _ _) _⟩
theorem l9Same_any (g g' : Nat) (v u : Value) (l m : Rcl) (w : World) (hg : g < w.heap.size) (hg' : g' < w.heap.size) (hD : w.cell? ⟨g, 0, none⟩ = some v) (hD' : w.cell? ⟨g', 0, none⟩ = some u) (hv : Rcs w v l) (hu : Rcs w u m) (hx : l.length ≤ 1048576) (hy : m.length ≤ 1048576) :
    Calls Try.prog 47 #[.pointer (some ⟨g, 0, none⟩), .pointer (some ⟨g', 0, none⟩)] w fun e w' => e = .returned (.bool (sameL l m)) ∧ Below w.heap.size w w' := l9Same_off g 0 g' 0 v u l m w hg hg' hD hD' hv hu hx hy
end U
end Go.Proofs.Ytdchnanihceeeaa

/- Slots, and the old tree, by mathematics alone: the sum of a part, rows of sums, levels. -/
namespace Go.Proofs.Ytdchnanihceeeaa
namespace U
abbrev Prl := List (Int × Int)
/-- The sum above two, of a leaf, and of what is empty. -/
def t2 (a b : Int) : Int := sumL (tagL 2 [a, b])
def l3 (p : Int × Int) : Int := sumL (tagL 3 [p.1, p.2])
def emp : Nat → Int
  | 0 => 13
  | n + 1 => t2 (emp n) (emp n)
theorem t2_bd (a b : Int) : 0 ≤ t2 a b ∧ t2 a b ≤ 65520 := sumL_bd _
theorem l3_bd (p : Int × Int) : 0 ≤ l3 p ∧ l3 p ≤ 65520 := sumL_bd _
theorem emp_bd (n : Nat) : 0 ≤ emp n ∧ emp n ≤ 65520 := by
  cases n with
  | zero => simp [emp]
  | succ n => exact t2_bd _ _
/-- Whether a part has a slot. -/
abbrev has (l : Prl) (n : Nat) (q : Int) : Prop := ∃ p ∈ l, p.1 / (2 ^ n : Nat) = q
/-- The sum of a part, by its level and its place. -/
def nd (l : Prl) : Nat → Int → Int
  | 0, q => match l.find? (fun p => p.1 == q) with | some p => l3 p | none => 13
  | n + 1, q => if has l (n + 1) q then t2 (nd l n (2 * q)) (nd l n (2 * q + 1)) else emp (n + 1)
theorem nd_bd (l : Prl) (n : Nat) (q : Int) : 0 ≤ nd l n q ∧ nd l n q ≤ 65520 := by
  cases n with
  | zero =>
    unfold nd
    split
    · exact l3_bd _
    · omega
  | succ n =>
    unfold nd
    split
    · exact t2_bd _ _
    · exact emp_bd _
theorem nd_none {l : Prl} {n : Nat} {q : Int} (h : ¬ has l n q) : nd l n q = emp n := by
  cases n with
  | zero =>
    unfold nd emp
    have : l.find? (fun p => p.1 == q) = none := by
      rw [List.find?_eq_none]
      intro p hp e
      exact h ⟨p, hp, by have := (beq_iff_eq).1 e; simp [this]⟩
    rw [this]
  | succ n => unfold nd; rw [if_neg h]
theorem div_succ (x : Int) (n : Nat) : x / (2 ^ (n + 1) : Nat) = x / (2 ^ n : Nat) / 2 := by
  rw [Nat.pow_succ, Int.natCast_mul, Int.ediv_ediv_of_nonneg (Int.natCast_nonneg _)]
  rfl
theorem has_succ (l : Prl) (n : Nat) (q : Int) : has l (n + 1) q ↔ has l n (2 * q) ∨ has l n (2 * q + 1) := by
  unfold has
  constructor
  · rintro ⟨p, hp, e⟩
    rw [div_succ] at e
    rcases (by omega : p.1 / (2 ^ n : Nat) = 2 * q ∨ p.1 / (2 ^ n : Nat) = 2 * q + 1) with h | h
    · exact Or.inl ⟨p, hp, h⟩
    · exact Or.inr ⟨p, hp, h⟩
  · rintro (⟨p, hp, e⟩ | ⟨p, hp, e⟩)
    · exact ⟨p, hp, by rw [div_succ]; omega⟩
    · exact ⟨p, hp, by rw [div_succ]; omega⟩
theorem nd_succ (l : Prl) (n : Nat) (q : Int) : nd l (n + 1) q = if has l (n + 1) q then t2 (nd l n (2 * q)) (nd l n (2 * q + 1)) else emp (n + 1) := by rw [nd]
/-- The keys rise. -/
def Ris (l : Prl) : Prop := l.Pairwise fun a b => a.1 < b.1
/-- The row above a row; what is not there is empty. -/
def abv (e : Int) : Prl → Prl
  | [] => []
  | [(q, s)] => [(q / 2, if q % 2 = 1 then t2 e s else t2 s e)]
  | (q, s) :: (q', s') :: r =>
    if q % 2 = 1 then (q / 2, t2 e s) :: abv e ((q', s') :: r)
    else if q' = q + 1 then (q / 2, t2 s s') :: abv e r
    else (q / 2, t2 s e) :: abv e ((q', s') :: r)
def plc (r : Prl) (x : Int) : Prop := ∃ s, (x, s) ∈ r
structure Row (N : Int → Int) (e b : Int) (r : Prl) : Prop where
  ris : Ris r
  lo : ∀ p ∈ r, 2 * b ≤ p.1
  val : ∀ p ∈ r, p.2 = N p.1
  none : ∀ x, 2 * b ≤ x → ¬ plc r x → N x = e
structure Abv (N : Int → Int) (b : Int) (r a : Prl) : Prop where
  ris : Ris a
  lo : ∀ p ∈ a, b ≤ p.1
  val : ∀ p ∈ a, p.2 = t2 (N (2 * p.1)) (N (2 * p.1 + 1))
  pl : ∀ x, b ≤ x → (plc a x ↔ plc r (2 * x) ∨ plc r (2 * x + 1))
theorem plc_cons {q s x : Int} {r : Prl} : plc ((q, s) :: r) x ↔ x = q ∨ plc r x := by
  unfold plc
  simp only [List.mem_cons, Prod.mk.injEq]
  constructor
  · rintro ⟨t, (⟨h, _⟩ | h)⟩
    · exact Or.inl h
    · exact Or.inr ⟨t, h⟩
  · rintro (h | ⟨t, h⟩)
    · exact ⟨s, Or.inl ⟨h, rfl⟩⟩
    · exact ⟨t, Or.inr h⟩
theorem plc_nil {x : Int} : ¬ plc [] x := by rintro ⟨s, h⟩; cases h
theorem Abv.step {N : Int → Int} {b q : Int} {r r' a : Prl} (hb : 2 * b ≤ q) (h : Abv N (q / 2 + 1) r' a)
    (h1 : ∀ x, 2 * b ≤ x → (plc r x ↔ (x / 2 = q / 2 ∧ plc r x) ∨ plc r' x)) (h2 : plc r q) (h3 : ∀ x, plc r' x → q / 2 < x / 2) :
    Abv N b r ((q / 2, t2 (N (2 * (q / 2))) (N (2 * (q / 2) + 1))) :: a) := by
  refine ⟨List.pairwise_cons.2 ⟨fun p hp => ?_, h.ris⟩, ?_, ?_, ?_⟩
  · have := h.lo p hp
    show q / 2 < p.1
    omega
  · intro p hp
    rcases List.mem_cons.1 hp with rfl | hp
    · show b ≤ q / 2
      omega
    · have := h.lo p hp
      omega
  · intro p hp
    rcases List.mem_cons.1 hp with rfl | hp
    · rfl
    · exact h.val p hp
  · intro x hx
    rw [plc_cons]
    by_cases e : x = q / 2
    · constructor
      · intro _
        rcases (by omega : q = 2 * x ∨ q = 2 * x + 1) with e2 | e2
        · left; rw [← e2]; exact h2
        · right; rw [← e2]; exact h2
      · intro _; exact Or.inl e
    · constructor
      · rintro (h' | h')
        · exact absurd h' e
        · have hx2 : q / 2 + 1 ≤ x := by obtain ⟨s, hs⟩ := h'; exact h.lo _ hs
          rcases (h.pl x hx2).1 h' with h4 | h4
          · exact Or.inl ((h1 _ (by omega)).2 (Or.inr h4))
          · exact Or.inr ((h1 _ (by omega)).2 (Or.inr h4))
      · rintro (h' | h')
        · rcases (h1 _ (by omega)).1 h' with h4 | h4
          · exact absurd h4.1 (by omega)
          · have := h3 _ h4
            exact Or.inr ((h.pl x (by omega)).2 (Or.inl h4))
        · rcases (h1 _ (by omega)).1 h' with h4 | h4
          · exact absurd h4.1 (by omega)
          · have := h3 _ h4
            exact Or.inr ((h.pl x (by omega)).2 (Or.inr h4))
theorem ris_lt {q s : Int} {r : Prl} (h : Ris ((q, s) :: r)) {x : Int} (hx : plc r x) : q < x := by
  obtain ⟨t, ht⟩ := hx
  exact (List.pairwise_cons.1 h).1 _ ht
theorem abv_row (N : Int → Int) (e : Int) : ∀ (k : Nat) (r : Prl) (b : Int), r.length ≤ k → Row N e b r → Abv N b r (abv e r) := by
  intro k
  induction k with
  | zero =>
    intro r b hk h
    have : r = [] := List.eq_nil_of_length_eq_zero (by omega)
    subst this
    refine ⟨List.Pairwise.nil, (fun p hp => by cases hp), (fun p hp => by cases hp), fun x _ => ⟨fun hh => absurd hh plc_nil, fun hh => ?_⟩⟩
    rcases hh with hh | hh <;> exact absurd hh plc_nil
  | succ k ih =>
    intro r b hk h
    match r, h, hk with
    | [], h, hk =>
      refine ⟨List.Pairwise.nil, (fun p hp => by cases hp), (fun p hp => by cases hp), fun x _ => ⟨fun hh => absurd hh plc_nil, fun hh => ?_⟩⟩
      rcases hh with hh | hh <;> exact absurd hh plc_nil
    | [(q, s)], h, hk =>
      have hq := h.lo (q, s) (by simp)
      have hv := h.val (q, s) (by simp)
      dsimp only at hq hv
      have e0 : Abv N (q / 2 + 1) [] [] := ⟨List.Pairwise.nil, (fun p hp => by cases hp), (fun p hp => by cases hp), fun x _ => ⟨fun hh => absurd hh plc_nil, fun hh => by rcases hh with hh | hh <;> exact absurd hh plc_nil⟩⟩
      have st := Abv.step (r := [(q, s)]) hq e0 (fun x _ => by
        rw [plc_cons]
        constructor
        · rintro (rfl | h)
          · exact Or.inl ⟨rfl, Or.inl rfl⟩
          · exact absurd h plc_nil
        · rintro (⟨_, h⟩ | h)
          · exact h
          · exact absurd h plc_nil) (plc_cons.2 (Or.inl rfl)) (fun x hx => absurd hx plc_nil)
      unfold abv
      by_cases h1 : q % 2 = 1
      · rw [if_pos h1]
        have e1 : N (2 * (q / 2)) = e := h.none _ (by omega) (fun hh => by rcases plc_cons.1 hh with hh | hh; · omega
                                                                           · exact absurd hh plc_nil)
        rw [e1, (by omega : 2 * (q / 2) + 1 = q), ← hv] at st
        exact st
      · rw [if_neg h1]
        have e1 : N (2 * (q / 2) + 1) = e := h.none _ (by omega) (fun hh => by rcases plc_cons.1 hh with hh | hh; · omega
                                                                               · exact absurd hh plc_nil)
        rw [e1, (by omega : 2 * (q / 2) = q), ← hv] at st
        exact st
    | (q, s) :: (q', s') :: r, h, hk =>
      have hq := h.lo (q, s) (by simp)
      have hv := h.val (q, s) (by simp)
      have hv' := h.val (q', s') (by simp)
      have hqq : q < q' := ris_lt h.ris (plc_cons.2 (Or.inl rfl))
      dsimp only at hq hv hv'
      have hris' : Ris ((q', s') :: r) := (List.pairwise_cons.1 h.ris).2
      have hge : ∀ x, plc ((q', s') :: r) x → q' ≤ x := fun x hx => by
        rcases plc_cons.1 hx with hx | hx
        · omega
        · have := ris_lt hris' hx; omega
      have tail : ∀ b', (∀ x, plc ((q', s') :: r) x → 2 * b' ≤ x) → 2 * b ≤ 2 * b' → q < 2 * b' → Row N e b' ((q', s') :: r) := fun b' h1 h2 h3 =>
        ⟨hris', fun p hp => h1 p.1 ⟨p.2, hp⟩, fun p hp => h.val p (List.mem_cons_of_mem _ hp), fun x hx hn => h.none x (by omega) (fun hh => by
          rcases plc_cons.1 hh with hh | hh
          · omega
          · exact hn hh)⟩
      have sp : ∀ x, 2 * b ≤ x → (plc ((q, s) :: (q', s') :: r) x ↔ (x / 2 = q / 2 ∧ plc ((q, s) :: (q', s') :: r) x) ∨ plc ((q', s') :: r) x) := fun x _ => by
        constructor
        · intro hh
          rcases plc_cons.1 hh with h1 | h1
          · exact Or.inl ⟨by rw [h1], hh⟩
          · exact Or.inr h1
        · rintro (⟨_, hh⟩ | hh)
          · exact hh
          · exact plc_cons.2 (Or.inr hh)
      unfold abv
      by_cases h1 : q % 2 = 1
      · rw [if_pos h1]
        have t := ih ((q', s') :: r) (q / 2 + 1) (by simp at hk ⊢; omega) (tail _ (fun x hx => by have := hge x hx; omega) (by omega) (by omega))
        have st := Abv.step hq t sp (plc_cons.2 (Or.inl rfl)) (fun x hx => by have := hge x hx; omega)
        have e1 : N (2 * (q / 2)) = e := h.none _ (by omega) (fun hh => by
          rcases plc_cons.1 hh with hh | hh
          · omega
          · have := hge _ hh; omega)
        rw [e1, (by omega : 2 * (q / 2) + 1 = q), ← hv] at st
        exact st
      · rw [if_neg h1]
        by_cases h2 : q' = q + 1
        · rw [if_pos h2]
          have hr : Row N e (q / 2 + 1) r := ⟨(List.pairwise_cons.1 hris').2, fun p hp => by have := ris_lt hris' (x := p.1) ⟨p.2, hp⟩; omega, fun p hp => h.val p (List.mem_cons_of_mem _ (List.mem_cons_of_mem _ hp)), fun x hx hn => h.none x (by omega) (fun hh => by
            rcases plc_cons.1 hh with hh | hh
            · omega
            · rcases plc_cons.1 hh with hh | hh
              · omega
              · exact hn hh)⟩
          have t := ih r (q / 2 + 1) (by simp at hk ⊢; omega) hr
          have st := Abv.step (r := (q, s) :: (q', s') :: r) hq t (fun x _ => by
            constructor
            · intro hh
              rcases plc_cons.1 hh with h3 | h3
              · exact Or.inl ⟨by rw [h3], hh⟩
              · rcases plc_cons.1 h3 with h4 | h4
                · exact Or.inl ⟨by omega, hh⟩
                · exact Or.inr h4
            · rintro (⟨_, hh⟩ | hh)
              · exact hh
              · exact plc_cons.2 (Or.inr (plc_cons.2 (Or.inr hh)))) (plc_cons.2 (Or.inl rfl)) (fun x hx => by have := ris_lt hris' hx; omega)
          rw [(by omega : 2 * (q / 2) + 1 = q'), (by omega : 2 * (q / 2) = q), ← hv, ← hv'] at st
          exact st
        · rw [if_neg h2]
          have t := ih ((q', s') :: r) (q / 2 + 1) (by simp at hk ⊢; omega) (tail _ (fun x hx => by have := hge x hx; omega) (by omega) (by omega))
          have st := Abv.step hq t sp (plc_cons.2 (Or.inl rfl)) (fun x hx => by have := hge x hx; omega)
          have e1 : N (2 * (q / 2) + 1) = e := h.none _ (by omega) (fun hh => by
            rcases plc_cons.1 hh with hh | hh
            · omega
            · have := hge _ hh; omega)
          rw [e1, (by omega : 2 * (q / 2) = q), ← hv] at st
          exact st
/-- The rows, from the leaves on. -/
def rows (l : Prl) : Nat → Prl
  | 0 => l.map fun p => (p.1, l3 p)
  | n + 1 => abv (emp n) (rows l n)
theorem rows_row {l : Prl} (h : Ris l) (h0 : ∀ p ∈ l, 0 ≤ p.1) (n : Nat) : Row (nd l n) (emp n) 0 (rows l n) ∧ ∀ x, plc (rows l n) x ↔ has l n x := by
  induction n with
  | zero =>
    have hp : ∀ x, plc (rows l 0) x ↔ has l 0 x := by
      intro x
      unfold plc rows has
      simp only [List.mem_map, Prod.mk.injEq]
      constructor
      · rintro ⟨s, p, hp, e, _⟩
        exact ⟨p, hp, by simpa using e⟩
      · rintro ⟨p, hp, e⟩
        exact ⟨l3 p, p, hp, by simpa using e, rfl⟩
    refine ⟨⟨?_, ?_, ?_, fun x _ hn => nd_none (fun hh => hn ((hp x).2 hh))⟩, hp⟩
    · show List.Pairwise _ (l.map _)
      rw [List.pairwise_map]
      exact h
    · intro p hp
      obtain ⟨p', hp', rfl⟩ := List.mem_map.1 hp
      have := h0 p' hp'
      dsimp only
      omega
    · intro p hp
      obtain ⟨p', hp', rfl⟩ := List.mem_map.1 hp
      dsimp only
      unfold nd
      rcases hf : l.find? (fun p => p.1 == p'.1) with _ | p2
      · rw [List.find?_eq_none] at hf
        exact absurd (by simp) (hf p' hp')
      · have h1 := List.mem_of_find?_eq_some hf
        have h2 : p2.1 = p'.1 := by have := List.find?_some hf; simpa using this
        have : p2 = p' := by
          rcases List.mem_iff_getElem.1 h1 with ⟨i, hi, rfl⟩
          rcases List.mem_iff_getElem.1 hp' with ⟨j, hj, rfl⟩
          have hh := List.pairwise_iff_getElem.1 h
          rcases Nat.lt_trichotomy i j with c | c | c
          · have := hh i j hi hj c; omega
          · subst c; rfl
          · have := hh j i hj hi c; omega
        rw [hf, this]
  | succ n ih =>
    have a := abv_row (nd l n) (emp n) _ _ 0 (Nat.le_refl _) ih.1
    have hp : ∀ x, plc (rows l (n + 1)) x ↔ has l (n + 1) x := by
      intro x
      rw [has_succ, ← ih.2, ← ih.2]
      by_cases hx : 0 ≤ x
      · exact a.pl x hx
      · constructor
        · rintro ⟨s, hs⟩
          exact absurd (a.lo _ hs) hx
        · rintro (⟨s, hs⟩ | ⟨s, hs⟩)
          · have := ih.1.lo _ hs; dsimp only at this; omega
          · have := ih.1.lo _ hs; dsimp only at this; omega
    refine ⟨⟨a.ris, fun p hp => by have := a.lo p hp; omega, fun p hp' => ?_, fun x _ hn => nd_none (fun hh => hn ((hp x).2 hh))⟩, hp⟩
    rw [nd_succ, if_pos ((hp p.1).1 ⟨p.2, hp'⟩)]
    exact a.val p hp'
theorem rows_bd {l : Prl} (h : Ris l) (h0 : ∀ p ∈ l, 0 ≤ p.1) (n : Nat) : ∀ p ∈ rows l n, 0 ≤ p.1 ∧ 0 ≤ p.2 ∧ p.2 ≤ 65520 := by
  intro p hp
  have h1 := (rows_row h h0 n).1
  have h2 := h1.lo p hp
  rw [h1.val p hp]
  exact ⟨by omega, nd_bd _ _ _⟩
/-- A part whose slots all lie at one place: one row of one sum, or none. -/
theorem rows_one {l : Prl} (h : Ris l) (h0 : ∀ p ∈ l, 0 ≤ p.1) {n : Nat} {q : Int} (hq : ∀ p ∈ l, p.1 / (2 ^ n : Nat) = q) (hne : l ≠ []) : rows l n = [(q, nd l n q)] := by
  have h1 := rows_row h h0 n
  have hm : ∀ p ∈ rows l n, p.1 = q := fun p hp => by
    obtain ⟨p', hp', e⟩ := (h1.2 p.1).1 ⟨p.2, hp⟩
    rw [← e, hq p' hp']
  obtain ⟨p0, t, rfl⟩ := List.exists_cons_of_ne_nil hne
  have hx : has (p0 :: t) n q := ⟨p0, by simp, hq p0 (by simp)⟩
  obtain ⟨s, hs⟩ := (h1.2 q).2 hx
  rcases hr : rows (p0 :: t) n with _ | ⟨a, _ | ⟨b, r⟩⟩
  · rw [hr] at hs; cases hs
  · have e1 := hm a (by rw [hr]; simp)
    have e2 := h1.1.val a (by rw [hr]; simp)
    obtain ⟨a1, a2⟩ := a
    dsimp only at e1 e2
    rw [e2, e1]
  · have e1 := hm a (by rw [hr]; simp)
    have e2 := hm b (by rw [hr]; simp)
    have := h1.1.ris
    rw [hr] at this
    have := (List.pairwise_cons.1 this).1 b (by simp)
    omega
theorem rows_nil (n : Nat) : rows [] n = [] := by
  induction n with
  | zero => rfl
  | succ n ih => unfold rows; rw [ih]; rfl
theorem abv_len (e : Int) : ∀ (k : Nat) (r : Prl), r.length ≤ k → (abv e r).length ≤ r.length := by
  intro k
  induction k with
  | zero =>
    intro r hk
    have : r = [] := List.eq_nil_of_length_eq_zero (by omega)
    subst this
    simp [abv]
  | succ k ih =>
    intro r hk
    match r, hk with
    | [], _ => simp [abv]
    | [(q, s)], _ => simp [abv]
    | (q, s) :: (q', s') :: r, hk =>
      have h1 := ih ((q', s') :: r) (by simp at hk ⊢; omega)
      have h2 := ih r (by simp at hk ⊢; omega)
      simp only [List.length_cons] at h1 hk ⊢
      unfold abv
      split
      · simp only [List.length_cons]; omega
      · split
        · simp only [List.length_cons]; omega
        · simp only [List.length_cons]; omega
theorem rows_len (l : Prl) (n : Nat) : (rows l n).length ≤ l.length := by
  induction n with
  | zero => simp [rows]
  | succ n ih =>
    have := abv_len (emp n) _ (rows l n) (Nat.le_refl _)
    unfold rows
    omega
/-- What is cut out of slots: keys from one on, below another. -/
def cut (l : Prl) (a b : Int) : Prl := l.filter fun p => decide (a ≤ p.1) && decide (p.1 < b)
theorem cut_mem {l : Prl} {a b : Int} {p : Int × Int} : p ∈ cut l a b ↔ p ∈ l ∧ a ≤ p.1 ∧ p.1 < b := by
  unfold cut; rw [List.mem_filter]; simp
theorem pow_pos (n : Nat) : (0 : Int) < (2 ^ n : Nat) := by have := Nat.two_pow_pos n; omega
theorem in_part {x q : Int} {n : Nat} : x / (2 ^ n : Nat) = q ↔ q * (2 ^ n : Nat) ≤ x ∧ x < q * (2 ^ n : Nat) + (2 ^ n : Nat) := by
  have hp := pow_pos n
  constructor
  · rintro rfl
    exact ⟨Int.ediv_mul_le _ (by omega), by have := Int.lt_ediv_add_one_mul_self x hp; rw [Int.add_mul] at this; omega⟩
  · rintro ⟨h1, h2⟩
    have a1 : q ≤ x / (2 ^ n : Nat) := (Int.le_ediv_iff_mul_le hp).2 h1
    have a2 : x / (2 ^ n : Nat) < q + 1 := (Int.ediv_lt_iff_lt_mul hp).2 (by rw [Int.add_mul]; omega)
    omega
/-- The sum of a part hangs on its own slots alone. -/
theorem nd_local {l l' : Prl} : ∀ (n : Nat) (q : Int), (l.filter fun p => decide (p.1 / (2 ^ n : Nat) = q)) = (l'.filter fun p => decide (p.1 / (2 ^ n : Nat) = q)) → nd l n q = nd l' n q := by
  intro n
  induction n with
  | zero =>
    intro q h
    unfold nd
    have : ∀ m : Prl, m.find? (fun p => p.1 == q) = (m.filter fun p => decide (p.1 / (2 ^ 0 : Nat) = q)).head? := by
      intro m
      rw [List.head?_filter]
      congr 1
      funext p
      rw [Nat.pow_zero, Int.natCast_one, Int.ediv_one]
      rfl
    rw [this, this, h]
  | succ n ih =>
    intro q h
    have hm : ∀ x : Int, x / 2 = q → (l.filter fun p => decide (p.1 / (2 ^ n : Nat) = x)) = (l'.filter fun p => decide (p.1 / (2 ^ n : Nat) = x)) := by
      intro x hx
      have e : ∀ m : Prl, (m.filter fun p => decide (p.1 / (2 ^ n : Nat) = x)) = ((m.filter fun p => decide (p.1 / (2 ^ (n + 1) : Nat) = q)).filter fun p => decide (p.1 / (2 ^ n : Nat) = x)) := by
        intro m
        rw [List.filter_filter]
        congr 1
        funext p
        rw [div_succ]
        generalize p.1 / (2 ^ n : Nat) = y
        by_cases h1 : y = x
        · subst h1; simp [hx]
        · simp [h1]
      rw [e l, e l', h]
    have hh : has l (n + 1) q ↔ has l' (n + 1) q := by
      have e : ∀ m : Prl, has m (n + 1) q ↔ (m.filter fun p => decide (p.1 / (2 ^ (n + 1) : Nat) = q)) ≠ [] := by
        intro m
        unfold has
        constructor
        · rintro ⟨p, hp, e⟩ h0
          have := (List.filter_eq_nil_iff.1 h0) p hp
          exact this (decide_eq_true e)
        · intro h0
          obtain ⟨p, t, ht⟩ := List.exists_cons_of_ne_nil h0
          have hp : p ∈ (m.filter fun p => decide (p.1 / (2 ^ (n + 1) : Nat) = q)) := by rw [ht]; simp
          rw [List.mem_filter] at hp
          exact ⟨p, hp.1, of_decide_eq_true hp.2⟩
      rw [e l, e l', h]
    rw [nd_succ, nd_succ, ih _ (hm (2 * q) (by omega)), ih _ (hm (2 * q + 1) (by omega))]
    by_cases hx : has l (n + 1) q
    · rw [if_pos hx, if_pos (hh.1 hx)]
    · rw [if_neg hx, if_neg (fun h => hx (hh.2 h))]
theorem cut_part (l : Prl) (n : Nat) (q : Int) : cut l (q * (2 ^ n : Nat)) (q * (2 ^ n : Nat) + (2 ^ n : Nat)) = l.filter fun p => decide (p.1 / (2 ^ n : Nat) = q) := by
  unfold cut
  congr 1
  funext p
  have := in_part (x := p.1) (q := q) (n := n)
  by_cases h : p.1 / (2 ^ n : Nat) = q
  · have h2 := this.1 h
    rw [decide_eq_true h, decide_eq_true h2.1, decide_eq_true h2.2]; rfl
  · simp only [h, decide_false]
    have : ¬ (q * (2 ^ n : Nat) ≤ p.1 ∧ p.1 < q * (2 ^ n : Nat) + (2 ^ n : Nat)) := fun hh => h (this.2 hh)
    simp only [Bool.and_eq_false_iff, decide_eq_false_iff_not]
    omega
theorem nd_cut (l : Prl) (n : Nat) (q : Int) : nd (cut l (q * (2 ^ n : Nat)) (q * (2 ^ n : Nat) + (2 ^ n : Nat))) n q = nd l n q := by
  rw [cut_part]
  apply nd_local
  rw [List.filter_filter]
  congr 1
  funext p
  simp
/-- What is cut out of slots that rise, rises. -/
theorem cut_ris {l : Prl} (h : Ris l) (a b : Int) : Ris (cut l a b) := List.Pairwise.filter _ h
theorem cut_len (l : Prl) (a b : Int) : (cut l a b).length ≤ l.length := List.length_filter_le _ _
/-- The sum of a part, as rows tell it. -/
def prt (l : Prl) (n : Nat) : Int := match rows l n with | [] => emp n | p :: _ => p.2
theorem prt_nd {l : Prl} (h : Ris l) (h0 : ∀ p ∈ l, 0 ≤ p.1) {n : Nat} {q : Int} (hq : ∀ p ∈ l, p.1 / (2 ^ n : Nat) = q) : prt l n = nd l n q := by
  unfold prt
  by_cases hne : l = []
  · subst hne
    rw [rows_nil, nd_none]
    rintro ⟨p, hp, _⟩
    cases hp
  · rw [rows_one h h0 hq hne]
end U
end Go.Proofs.Ytdchnanihceeeaa

/- Slots by mathematics alone: their faults, where a key stands, what is cut out, put and found. -/
namespace Go.Proofs.Ytdchnanihceeeaa
namespace U
def fine (p : Int × Int) : Bool := inB p.1 0 255 && sumB p.2
theorem fine_bd {p : Int × Int} (h : fine p = true) : (0 ≤ p.1 ∧ p.1 ≤ 255) ∧ 0 ≤ p.2 ∧ p.2 ≤ 65520 := by
  unfold fine at h
  rw [Bool.and_eq_true] at h
  exact ⟨inB_bd h.1, (sumB_iff _).1 h.2⟩
def pAt (l : Prl) (i : Nat) : Int × Int := l.getD i (0, 0)
theorem pAt_eq {l : Prl} {i : Nat} (h : i < l.length) : pAt l i = l[i] := by simp [pAt, h]
/-- The first fault from a place on. -/
def scan (l : Prl) : Nat → Nat → Int
  | 0, _ => 0
  | f + 1, i => if fine (pAt l i) = false then 3 else if 0 < i ∧ (pAt l i).1 ≤ (pAt l (i - 1)).1 then 1 else scan l f (i + 1)
def slF (l : Prl) : Int := if 12 < l.length then 2 else scan l l.length 0
theorem scan_ok {l : Prl} : ∀ (f i : Nat), scan l f i = 0 → ∀ j, i ≤ j → j < i + f → fine (pAt l j) = true ∧ (0 < j → (pAt l (j - 1)).1 < (pAt l j).1) := by
  intro f
  induction f with
  | zero => intro i _ j h1 h2; omega
  | succ f ih =>
    intro i h j h1 h2
    unfold scan at h
    split at h
    · cases h
    · split at h
      · cases h
      · rename_i g1 g2
        by_cases e : j = i
        · subst e
          exact ⟨by simpa using g1, fun h0 => by omega⟩
        · exact ih (i + 1) h j (by omega) (by omega)
theorem scan_all {l : Prl} : ∀ (f i : Nat), (∀ j, i ≤ j → j < i + f → fine (pAt l j) = true ∧ (0 < j → (pAt l (j - 1)).1 < (pAt l j).1)) → scan l f i = 0 := by
  intro f
  induction f with
  | zero => intro i _; rfl
  | succ f ih =>
    intro i h
    have h0 := h i (Nat.le_refl _) (by omega)
    unfold scan
    rw [if_neg (by rw [h0.1]; simp), if_neg (by intro hh; have := h0.2 hh.1; omega)]
    exact ih (i + 1) fun j h1 h2 => h j (by omega) (by omega)
structure Sls (l : Prl) : Prop where
  len : l.length ≤ 12
  ris : Ris l
  fin : ∀ p ∈ l, fine p = true
theorem ris_of {l : Prl} (h : ∀ j, j < l.length → 0 < j → (pAt l (j - 1)).1 < (pAt l j).1) : Ris l := by
  have h2 : ∀ d i, i + d + 1 < l.length → (pAt l i).1 < (pAt l (i + d + 1)).1 := by
    intro d
    induction d with
    | zero => intro i hi; exact h (i + 0 + 1) hi (by omega)
    | succ d ih =>
      intro i hi
      have h3 := ih i (by omega)
      have h4 := h (i + d + 1 + 1) hi (by omega)
      simp only [Nat.add_sub_cancel] at h4
      rw [show i + (d + 1) + 1 = i + d + 1 + 1 by omega]
      omega
  unfold Ris
  rw [List.pairwise_iff_getElem]
  intro i j hi hj hij
  have := h2 (j - i - 1) i (by omega)
  rw [show i + (j - i - 1) + 1 = j by omega, pAt_eq hi, pAt_eq hj] at this
  exact this
theorem slF_ok {l : Prl} (h : slF l = 0) : Sls l := by
  unfold slF at h
  split at h
  · cases h
  · rename_i h12
    have hs := scan_ok _ _ h
    refine ⟨by omega, ris_of fun j hj h0 => (hs j (Nat.zero_le _) (by omega)).2 h0, fun p hp => ?_⟩
    obtain ⟨j, hj, rfl⟩ := List.mem_iff_getElem.1 hp
    have := (hs j (Nat.zero_le _) (by omega)).1
    rwa [pAt_eq hj] at this
theorem slF_all {l : Prl} (h : Sls l) : slF l = 0 := by
  unfold slF
  have := h.len
  rw [if_neg (by omega)]
  apply scan_all
  intro j _ hj
  rw [pAt_eq (by omega : j < l.length)]
  refine ⟨h.fin _ (List.getElem_mem _), fun h0 => ?_⟩
  rw [pAt_eq (by omega : j - 1 < l.length)]
  have hr := h.ris
  unfold Ris at hr
  exact (List.pairwise_iff_getElem.1 hr) (j - 1) j (by omega) (by omega) (by omega)
theorem scan_bd (l : Prl) : ∀ (f i : Nat), 0 ≤ scan l f i ∧ scan l f i ≤ 3 := by
  intro f
  induction f with
  | zero => intro i; simp [scan]
  | succ f ih =>
    intro i
    unfold scan
    split
    · omega
    · split
      · omega
      · exact ih _
theorem slF_bd (l : Prl) : 0 ≤ slF l ∧ slF l ≤ 3 := by
  unfold slF
  split
  · omega
  · exact scan_bd _ _ _
theorem Sls.at {l : Prl} (h : Sls l) {i : Nat} (hi : i < l.length) : (0 ≤ (pAt l i).1 ∧ (pAt l i).1 ≤ 255) ∧ 0 ≤ (pAt l i).2 ∧ (pAt l i).2 ≤ 65520 := by
  rw [pAt_eq hi]; exact fine_bd (h.fin _ (List.getElem_mem _))
theorem Sls.pos {l : Prl} (h : Sls l) : ∀ p ∈ l, 0 ≤ p.1 := fun p hp => (fine_bd (h.fin p hp)).1.1
theorem ris_at {l : Prl} (h : Ris l) {i j : Nat} (hij : i < j) (hj : j < l.length) : (pAt l i).1 < (pAt l j).1 := by
  rw [pAt_eq hj, pAt_eq (by omega : i < l.length)]
  exact (List.pairwise_iff_getElem.1 h) i j (by omega) hj hij
/-- How many keys are below one. -/
def low (l : Prl) (k : Int) : Nat := l.countP fun p => decide (p.1 < k)
theorem low_le (l : Prl) (k : Int) : low l k ≤ l.length := List.countP_le_length
theorem low_take {l : Prl} (h : Ris l) (k : Int) : (l.filter fun p => decide (p.1 < k)) = l.take (low l k) := by
  induction l with
  | nil => rfl
  | cons p t ih =>
    have ht := List.pairwise_cons.1 h
    unfold low
    by_cases hp : p.1 < k
    · rw [List.filter_cons_of_pos (by simpa using hp), List.countP_cons_of_pos (by simpa using hp), List.take_succ_cons]
      rw [ih ht.2]
      rfl
    · have h0 : t.filter (fun p => decide (p.1 < k)) = [] := by
        rw [List.filter_eq_nil_iff]
        intro x hx
        have := ht.1 x hx
        simp
        omega
      rw [List.filter_cons_of_neg (by simpa using hp), List.countP_cons_of_neg (by simpa using hp), h0]
      rw [List.countP_eq_length_filter, h0]
      rfl
theorem low_drop {l : Prl} (h : Ris l) (k : Int) : (l.filter fun p => decide (k ≤ p.1)) = l.drop (low l k) := by
  induction l with
  | nil => rfl
  | cons p t ih =>
    have ht := List.pairwise_cons.1 h
    unfold low
    by_cases hp : p.1 < k
    · rw [List.filter_cons_of_neg (by simp; omega), List.countP_cons_of_pos (by simpa using hp), List.drop_succ_cons]
      rw [ih ht.2]
      rfl
    · have h0 : t.filter (fun p => decide (p.1 < k)) = [] := by
        rw [List.filter_eq_nil_iff]
        intro x hx
        have := ht.1 x hx
        simp
        omega
      have h1 : t.filter (fun p => decide (k ≤ p.1)) = t := by
        rw [List.filter_eq_self]
        intro x hx
        have := ht.1 x hx
        simp
        omega
      rw [List.filter_cons_of_pos (by simp; omega), List.countP_cons_of_neg (by simpa using hp), h1]
      rw [List.countP_eq_length_filter, h0]
      rfl
theorem low_iff {l : Prl} (h : Ris l) (k : Int) {i : Nat} (hi : i < l.length) : (pAt l i).1 < k ↔ i < low l k := by
  have h1 := low_take h k
  have h2 := low_drop h k
  rw [pAt_eq hi]
  constructor
  · intro hk
    by_cases hc : i < low l k
    · exact hc
    · have hm : l[i] ∈ l.drop (low l k) := by
        rw [List.mem_drop_iff_getElem]
        exact ⟨i - low l k, by omega, by congr 1; omega⟩
      rw [← h2, List.mem_filter] at hm
      have := hm.2
      simp at this
      omega
  · intro hc
    have hm : l[i] ∈ l.take (low l k) := by
      rw [List.mem_take_iff_getElem]
      exact ⟨i, by omega, rfl⟩
    rw [← h1, List.mem_filter] at hm
    simpa using hm.2
theorem low_mono (l : Prl) {a b : Int} (h : a ≤ b) : low l a ≤ low l b := by
  unfold low
  apply List.countP_mono_left
  intro x _ hx
  simp at hx ⊢
  omega
theorem cut_eq {l : Prl} (h : Ris l) (a b : Int) : cut l a b = (l.take (low l b)).drop (low l a) := by
  have e1 : cut l a b = (l.filter fun p => decide (p.1 < b)).filter fun p => decide (a ≤ p.1) := by
    unfold cut
    rw [List.filter_filter]
  have h2 : Ris (l.filter fun p => decide (p.1 < b)) := List.Pairwise.filter _ h
  rw [e1, low_drop h2, low_take h]
  by_cases hab : a ≤ b
  · have : low (l.take (low l b)) a = low l a := by
      rw [← low_take h b]
      unfold low
      rw [List.countP_filter]
      congr 1
      funext p
      by_cases hp : p.1 < a
      · simp [hp]; omega
      · simp [hp]
    rw [this]
  · have e2 : low (l.take (low l b)) a = (l.take (low l b)).length := by
      rw [← low_take h b]
      unfold low
      rw [List.countP_eq_length]
      intro p hp
      rw [List.mem_filter] at hp
      have := hp.2
      simp at this ⊢
      omega
    have e3 := low_mono l (by omega : b ≤ a)
    rw [e2, List.drop_length, List.drop_eq_nil_of_le]
    rw [List.length_take]
    omega
/-- Whether a key is there, at its place. -/
def thr (l : Prl) (k : Int) : Bool := decide (low l k < l.length) && decide ((pAt l (low l k)).1 = k)
theorem thr_iff {l : Prl} (h : Ris l) (k : Int) : thr l k = true ↔ ∃ p ∈ l, p.1 = k := by
  unfold thr
  rw [Bool.and_eq_true, decide_eq_true_iff, decide_eq_true_iff]
  constructor
  · rintro ⟨h1, h2⟩
    exact ⟨_, List.getElem_mem h1, by rw [pAt_eq h1] at h2; exact h2⟩
  · rintro ⟨p, hp, e⟩
    obtain ⟨i, hi, rfl⟩ := List.mem_iff_getElem.1 hp
    have h3 : ¬ i < low l k := by rw [← low_iff h k hi, pAt_eq hi]; omega
    have h4 : low l k < l.length := by omega
    refine ⟨h4, ?_⟩
    by_cases e2 : low l k = i
    · rw [e2, pAt_eq hi]; exact e
    · have h5 := ris_at h (by omega : low l k < i) hi
      rw [pAt_eq hi] at h5
      have := (low_iff h k h4).1 (by omega)
      omega
theorem at_low {l : Prl} (h : Ris l) {k : Int} {i : Nat} (hi : i < l.length) (e : (pAt l i).1 = k) : i = low l k := by
  have h3 : ¬ i < low l k := by rw [← low_iff h k hi]; omega
  by_cases e2 : low l k = i
  · exact e2.symm
  · have h5 := ris_at h (by omega : low l k < i) hi
    have := (low_iff h k (by omega : low l k < l.length)).1 (by omega)
    omega
/-- What was put. -/
def put (l : Prl) (s : Int × Int) : Prl := l.take (low l s.1) ++ [s] ++ l.drop (if thr l s.1 = true then low l s.1 + 1 else low l s.1)
def putF (s : Int × Int) (st : Prl × Bool) (p : Int × Int) : Prl × Bool :=
  let o := if st.2 = false ∧ s.1 ≤ p.1 then (st.1 ++ [s], true) else st
  if p.1 = s.1 then o else (o.1 ++ [p], o.2)
def putS (l : Prl) (s : Int × Int) : Prl × Bool := l.foldl (putF s) ([], false)
theorem putF_done {s : Int × Int} : ∀ (l : Prl) (out : Prl), (∀ p ∈ l, s.1 < p.1) → l.foldl (putF s) (out, true) = (out ++ l, true) := by
  intro l
  induction l with
  | nil => intro out _; simp
  | cons p t ih =>
    intro out h
    have hp := h p (by simp)
    rw [List.foldl_cons]
    have : putF s (out, true) p = (out ++ [p], true) := by
      unfold putF
      simp only [Bool.true_eq_false, false_and, if_false]
      rw [if_neg (by omega)]
    rw [this, ih _ (fun x hx => h x (List.mem_cons_of_mem _ hx))]
    simp
theorem putF_not {s : Int × Int} : ∀ (l : Prl) (out : Prl), Ris l → (l.foldl (putF s) (out, false)) = (if (∃ p ∈ l, s.1 ≤ p.1) then (out ++ (l.filter (fun p => decide (p.1 < s.1)) ++ [s] ++ l.filter (fun p => decide (s.1 < p.1))), true) else (out ++ l, false)) := by
  intro l
  induction l with
  | nil => intro out _; simp
  | cons p t ih =>
    intro out h
    have ht := List.pairwise_cons.1 h
    rw [List.foldl_cons]
    by_cases hp : p.1 < s.1
    · have : putF s (out, false) p = (out ++ [p], false) := by
        unfold putF
        rw [if_neg (by omega), if_neg (by omega)]
      rw [this, ih _ ht.2]
      have e : (∃ q ∈ t, s.1 ≤ q.1) ↔ (∃ q ∈ p :: t, s.1 ≤ q.1) := by
        constructor
        · rintro ⟨q, hq, e⟩; exact ⟨q, List.mem_cons_of_mem _ hq, e⟩
        · rintro ⟨q, hq, e⟩
          rcases List.mem_cons.1 hq with rfl | hq
          · omega
          · exact ⟨q, hq, e⟩
      by_cases hx : ∃ q ∈ t, s.1 ≤ q.1
      · rw [if_pos hx, if_pos (e.1 hx), List.filter_cons_of_pos (by simpa using hp), List.filter_cons_of_neg (by simp; omega)]
        simp
      · rw [if_neg hx, if_neg (fun h => hx (e.2 h))]
        simp
    · have hgt : ∀ q ∈ t, s.1 < q.1 := fun q hq => by have := ht.1 q hq; omega
      have h0 : t.filter (fun p => decide (p.1 < s.1)) = [] := by
        rw [List.filter_eq_nil_iff]
        intro x hx
        have := hgt x hx
        simp
        omega
      have h1 : t.filter (fun p => decide (s.1 < p.1)) = t := by
        rw [List.filter_eq_self]
        intro x hx
        have := hgt x hx
        simp
        omega
      rw [if_pos ⟨p, by simp, by omega⟩, List.filter_cons_of_neg (by simpa using hp), h0]
      by_cases he : p.1 = s.1
      · have : putF s (out, false) p = (out ++ [s], true) := by
          unfold putF
          rw [if_pos he, if_pos ⟨rfl, by omega⟩]
        rw [this, putF_done _ _ hgt, List.filter_cons_of_neg (by simp; omega), h1]
        simp
      · have : putF s (out, false) p = (out ++ [s] ++ [p], true) := by
          unfold putF
          rw [if_neg he, if_pos ⟨rfl, by omega⟩]
        rw [this, putF_done _ _ hgt, List.filter_cons_of_pos (by simp; omega), h1]
        simp
theorem put_eq {l : Prl} (h : Ris l) (s : Int × Int) : put l s = l.filter (fun p => decide (p.1 < s.1)) ++ [s] ++ l.filter (fun p => decide (s.1 < p.1)) := by
  unfold put
  rw [← low_take h]
  congr 1
  have e1 : l.filter (fun p => decide (s.1 < p.1)) = (l.drop (low l s.1)).filter (fun p => decide (s.1 < p.1)) := by
    rw [← low_drop h, List.filter_filter]
    congr 1
    funext p
    by_cases hp : s.1 < p.1
    · simp [hp]; omega
    · simp [hp]
  rw [e1]
  by_cases ht : thr l s.1 = true
  · rw [if_pos ht]
    have h2 := ht
    unfold thr at h2
    rw [Bool.and_eq_true, decide_eq_true_iff, decide_eq_true_iff] at h2
    rw [List.drop_eq_getElem_cons h2.1]
    rw [pAt_eq h2.1] at h2
    rw [List.filter_cons_of_neg (by simp; omega)]
    symm
    rw [List.filter_eq_self]
    intro x hx
    rw [List.mem_drop_iff_getElem] at hx
    obtain ⟨j, hj, rfl⟩ := hx
    have := ris_at h (by omega : low l s.1 < low l s.1 + 1 + j) (by omega)
    rw [pAt_eq h2.1, pAt_eq (by omega : low l s.1 + 1 + j < l.length)] at this
    simp
    omega
  · rw [if_neg ht]
    symm
    rw [List.filter_eq_self]
    intro x hx
    have hm : x ∈ l := List.mem_of_mem_drop hx
    rw [← low_drop h, List.mem_filter] at hx
    have h3 := hx.2
    simp at h3 ⊢
    have : x.1 ≠ s.1 := fun e => ht ((thr_iff h s.1).2 ⟨x, hm, e⟩)
    omega
theorem putS_put {l : Prl} (h : Ris l) (s : Int × Int) : (if (putS l s).2 = true then (putS l s).1 else (putS l s).1 ++ [s]) = put l s := by
  unfold putS
  rw [putF_not l [] h, put_eq h]
  by_cases hx : ∃ p ∈ l, s.1 ≤ p.1
  · rw [if_pos hx]; simp
  · rw [if_neg hx]
    have h0 : l.filter (fun p => decide (s.1 < p.1)) = [] := by
      rw [List.filter_eq_nil_iff]
      intro p hp hh
      exact hx ⟨p, hp, by simp at hh; omega⟩
    have h1 : l.filter (fun p => decide (p.1 < s.1)) = l := by
      rw [List.filter_eq_self]
      intro p hp
      have : ¬ s.1 ≤ p.1 := fun e => hx ⟨p, hp, e⟩
      simp
      omega
    rw [h0, h1]
    simp
theorem put_len {l : Prl} (s : Int × Int) : (put l s).length = if thr l s.1 = true then l.length else l.length + 1 := by
  unfold put
  have h1 := low_le l s.1
  simp only [List.length_append, List.length_take, List.length_drop, List.length_cons, List.length_nil]
  by_cases ht : thr l s.1 = true
  · rw [if_pos ht, if_pos ht]
    unfold thr at ht
    rw [Bool.and_eq_true, decide_eq_true_iff] at ht
    omega
  · rw [if_neg ht, if_neg ht]
    omega
theorem put_mem {l : Prl} (h : Ris l) (s : Int × Int) {p : Int × Int} : p ∈ put l s ↔ p = s ∨ (p ∈ l ∧ p.1 ≠ s.1) := by
  rw [put_eq h]
  simp only [List.mem_append, List.mem_filter, List.mem_cons, List.not_mem_nil, or_false, decide_eq_true_eq]
  constructor
  · rintro ((⟨h1, h2⟩ | h1) | ⟨h1, h2⟩)
    · exact Or.inr ⟨h1, by omega⟩
    · exact Or.inl h1
    · exact Or.inr ⟨h1, by omega⟩
  · rintro (h1 | ⟨h1, h2⟩)
    · exact Or.inl (Or.inr h1)
    · rcases Int.lt_or_gt_of_ne h2 with h3 | h3
      · exact Or.inl (Or.inl ⟨h1, h3⟩)
      · exact Or.inr ⟨h1, h3⟩
theorem put_ris {l : Prl} (h : Ris l) (s : Int × Int) : Ris (put l s) := by
  rw [put_eq h]
  unfold Ris
  rw [List.pairwise_append, List.pairwise_append]
  refine ⟨⟨List.Pairwise.filter _ h, List.pairwise_singleton _ _, ?_⟩, List.Pairwise.filter _ h, ?_⟩
  · intro a ha b hb
    rw [List.mem_filter] at ha
    have := ha.2
    simp at hb this
    subst hb
    exact this
  · intro a ha b hb
    rw [List.mem_filter] at hb
    have h2 := hb.2
    simp at h2
    rcases List.mem_append.1 ha with ha | ha
    · rw [List.mem_filter] at ha
      have h3 := ha.2
      simp at h3
      omega
    · simp at ha
      subst ha
      exact h2
end U
end Go.Proofs.Ytdchnanihceeeaa

/- Slots in memory: how they read; their faults, by the program and by the model. -/
namespace Go.Proofs.Ytdchnanihceeeaa
open Go.RowKit
namespace U
/-- A slice value reads as a list of pairs of numbers. -/
def Prs (w : World) (v : Value) (l : Prl) : Prop :=
  (l = [] ∧ ∃ a c, v = .slice a 0 c) ∨ ∃ b off c, v = .slice (some ⟨b, off, none⟩) l.length c ∧ b < w.heap.size ∧ ∀ j, j < l.length → w.cell? ⟨b, off + j * 2, none⟩ = some (.int .i64 (pAt l j).1) ∧ w.cell? ⟨b, off + j * 2 + 1, none⟩ = some (.int .i64 (pAt l j).2)
theorem Prs.below {w w' : World} {v : Value} {l : Prl} (h : Prs w v l) (hb : Below w.heap.size w w') : Prs w' v l := by
  rcases h with h | ⟨b, off, c, rfl, hlt, hc⟩
  · exact Or.inl h
  · exact Or.inr ⟨b, off, c, rfl, Nat.lt_of_lt_of_le hlt hb.size, fun j hj => ⟨(hb.cell (p := ⟨b, off + j * 2, none⟩) hlt).trans (hc j hj).1, (hb.cell (p := ⟨b, off + j * 2 + 1, none⟩) hlt).trans (hc j hj).2⟩⟩
theorem Prs.shape {w : World} {v : Value} {l : Prl} (h : Prs w v l) : ∃ a c, v = .slice a l.length c := by
  rcases h with ⟨rfl, a, c, rfl⟩ | ⟨b, off, c, rfl, _⟩
  · exact ⟨a, c, rfl⟩
  · exact ⟨_, c, rfl⟩
theorem Prs.at {w : World} {a : Option Addr} {n c : Nat} {l : Prl} (h : Prs w (.slice a n c) l) (h0 : 0 < l.length) : n = l.length ∧ ∃ b off, a = some ⟨b, off, none⟩ ∧ b < w.heap.size ∧ ∀ j, j < l.length → w.cell? ⟨b, off + j * 2, none⟩ = some (.int .i64 (pAt l j).1) ∧ w.cell? ⟨b, off + j * 2 + 1, none⟩ = some (.int .i64 (pAt l j).2) := by
  rcases h with ⟨rfl, _⟩ | ⟨b, off, c', e, h1, h2⟩
  · simp at h0
  · cases e
    exact ⟨rfl, b, off, rfl, h1, h2⟩
/-- The cells of slots. -/
def fl (l : Prl) : List Int := l.flatMap fun p => [p.1, p.2]
theorem fl_len (l : Prl) : (fl l).length = l.length * 2 := by
  unfold fl
  induction l with
  | nil => rfl
  | cons p t ih => rw [List.flatMap_cons, List.length_append, ih]; simp; omega
theorem fl_app (l m : Prl) : fl (l ++ m) = fl l ++ fl m := by unfold fl; rw [List.flatMap_append]
theorem fl_at (l : Prl) : ∀ (j : Nat), j < l.length → (fl l)[j * 2]? = some (pAt l j).1 ∧ (fl l)[j * 2 + 1]? = some (pAt l j).2 := by
  induction l with
  | nil => intro j h; simp at h
  | cons p t ih =>
    intro j h
    unfold fl
    rw [List.flatMap_cons]
    cases j with
    | zero => simp [pAt]
    | succ j =>
      have := ih j (by simpa using h)
      unfold fl at this
      rw [show (j + 1) * 2 = j * 2 + 1 + 1 by omega]
      simpa [pAt] using this
theorem own_prs {w : World} {B : Nat} {e : TypeId} {v : Value} {l : Prl} (h : w.ownsRow B e 2 v l.length ((fl l).map (Value.int .i64))) : Prs w v l := by
  have h0 := h
  rcases h.2 with ⟨rfl, hn⟩ | ⟨g, cap, cur, rfl, hB, hg, _⟩
  · left; exact ⟨List.eq_nil_of_length_eq_zero hn, none, 0, rfl⟩
  · right
    refine ⟨g, 0, cap, rfl, (Array.getElem?_eq_some_iff.1 hg).1, fun j hj => ?_⟩
    rw [Nat.zero_add, h0.cellAt (j * 2) (by omega), h0.cellAt (j * 2 + 1) (by omega)]
    have := fl_at l j hj
    rw [List.getElem?_map, List.getElem?_map, this.1, this.2]
    exact ⟨rfl, rfl⟩
theorem own_prs' {w : World} {B n : Nat} {e : TypeId} {a : Option Addr} {c : Nat} {l : Prl} (h : w.ownsRow B e 2 (.slice a n c) n ((fl l).map (Value.int .i64))) : Prs w (.slice a n c) l := by
  have h1 := h.1
  rw [List.length_map, fl_len] at h1
  have : n = l.length := by omega
  subst this
  exact own_prs h
set_option maxRecDepth 100000 in
theorem isKey_any (n : Int) (w : World) : Calls Try.prog 123 #[.int .i64 n] w fun e w' => e = .returned (.bool (inB n 0 255)) ∧ w' = w := by
  rcases Bool.eq_false_or_eq_true (inB n 0 255) with h | h
  · have h1 := inB_bd h
    rw [h]
    go_enter Try.func123, Try.ntmps123
    go_wp2
    go_ret
    exact ⟨ret_bool (by simp; omega), rfl⟩
  · rw [h]
    rcases inB_nb h with h1 | h1
    · go_enter Try.func123, Try.ntmps123
      go_wp2
      go_ret
      exact ⟨ret_bool (by first | rfl | (simp; omega)), rfl⟩
    · go_enter Try.func123, Try.ntmps123
      go_wp2
      go_ret
      exact ⟨ret_bool (by first | rfl | (simp; omega)), rfl⟩
set_option maxRecDepth 100000 in
theorem isSlot_any (p : Int × Int) (w : World) : Calls Try.prog 83 #[.agg #[.int .i64 p.1, .int .i64 p.2]] w fun e w' => e = .returned (.bool (fine p)) ∧ Below w.heap.size w w' := by
  obtain ⟨k, v⟩ := p
  unfold fine
  have HK := fun w => isKey_any k w
  have HV := fun w => isSum_any v w
  dsimp only
  generalize sumB v = y at *
  generalize inB k 0 255 = x at *
  cases x
  · go_enter Try.func83, Try.ntmps83
    go_wp2_with fail
    refine (HK _).mono ?_
    rintro e w1 ⟨rfl, rfl⟩
    clear HK HV
    go_wp2
    go_ret
    exact ⟨rfl, one_new _⟩
  · go_enter Try.func83, Try.ntmps83
    go_wp2_with fail
    refine (HK _).mono ?_
    rintro e w1 ⟨rfl, rfl⟩
    clear HK
    go_wp2_with fail
    refine (HV _).mono ?_
    rintro e w1 ⟨rfl, rfl⟩
    clear HV
    go_wp2
    go_ret
    exact ⟨rfl, one_new _⟩
set_option maxRecDepth 100000 in
theorem l2Is4 (n : Int) (w : World) : Calls Try.prog 142 #[.int .i64 n] w fun e w' => e = .returned (.bool (sumB n)) ∧ w' = w := by
  go_enter Try.func142, Try.ntmps142
  go_wp2_with (go_at_call 80; refine (l1In_any _ _ _ _).mono ?_; rintro e w1 ⟨rfl, rfl⟩)
  go_ret
  exact ⟨ret_bool (by unfold sumB inB; simp), rfl⟩
theorem two_cellsV {w : World} {g : Nat} {x y : Value} {t : TypeId} (h : w.heap[g]? = some (.cells #[x, y] t)) : w.cell? ⟨g, 0, none⟩ = some x ∧ w.cell? ⟨g, 1, none⟩ = some y ∧ w.frozen? ⟨g, 0, none⟩ = false ∧ w.frozen? ⟨g, 1, none⟩ = false := by
  refine ⟨?_, ?_, ?_, ?_⟩
  · unfold World.cell?; rw [h]; rfl
  · unfold World.cell?; rw [h]; rfl
  · unfold World.frozen?; rw [h]; rfl
  · unfold World.frozen?; rw [h]; rfl
theorem scan_step {l : Prl} {f i : Nat} (h : fine (pAt l i) = true) (h2 : 0 < i → (pAt l (i - 1)).1 < (pAt l i).1) : scan l (f + 1) i = scan l f (i + 1) := by
  rw [scan, if_neg (by rw [h]; simp), if_neg (by intro hh; have := h2 hh.1; omega)]
theorem scan_range {l : Prl} {f i : Nat} (h : fine (pAt l i) = false) : scan l (f + 1) i = 3 := by rw [scan, if_pos h]
theorem scan_form {l : Prl} {f i : Nat} (h : fine (pAt l i) = true) (h1 : 0 < i) (h2 : (pAt l i).1 ≤ (pAt l (i - 1)).1) : scan l (f + 1) i = 1 := by
  rw [scan, if_neg (by rw [h]; simp), if_pos ⟨h1, h2⟩]
set_option maxRecDepth 100000 in
set_option maxHeartbeats 2000000 in
theorem implSlotsFault_core (b off c n : Nat) (l : Prl) (w : World) (hn : n ≤ 12) (hb : b < w.heap.size)
    (hc : ∀ j, j < n → w.cell? ⟨b, off + j * 2, none⟩ = some (.int .i64 (pAt l j).1) ∧ w.cell? ⟨b, off + j * 2 + 1, none⟩ = some (.int .i64 (pAt l j).2)) :
    Calls Try.prog 33 #[.slice (some ⟨b, off, none⟩) n c] w fun e w' => e = .returned (.int .i64 (scan l n 0)) ∧ Below w.heap.size w w' := by
  go_enter Try.func33, Try.ntmps33
  go_wp2
  go_loopw [10] (fun i wr => ∃ k : Nat, k ≤ n ∧ i = .int .i64 k ∧ Below w.heap.size w wr ∧ Hid (scan l (n - k) k = scan l n 0)) (fun i _ => n - (intOf i).toNat)
  case atStart => exact ⟨0, Nat.zero_le _, rfl, Below.refl _ _, rfl⟩
  case round =>
    obtain ⟨k, hk, rfl, hB, HS⟩ := hrel
    by_cases hkn : k < n
    · have hki : (k : Int) < (n : Int) := by omega
      have hc1 := (hB.cell (p := ⟨b, off + k * 2, none⟩) hb).trans (hc k hkn).1
      have hc2 := (hB.cell (p := ⟨b, off + k * 2 + 1, none⟩) hb).trans (hc k hkn).2
      have HC : Hid (∀ j, j < n → w.cell? ⟨b, off + j * 2, none⟩ = some (.int .i64 (pAt l j).1) ∧ w.cell? ⟨b, off + j * 2 + 1, none⟩ = some (.int .i64 (pAt l j).2)) := hc
      have hI := fun w => isSlot_any (pAt l k) w
      obtain ⟨x, hx⟩ : ∃ x, x = (pAt l k).1 := ⟨_, rfl⟩
      obtain ⟨y, hy⟩ : ∃ y, y = (pAt l k).2 := ⟨_, rfl⟩
      obtain ⟨f, hf⟩ : ∃ f, f = fine (pAt l k) := ⟨_, rfl⟩
      have HX : Hid (x = (pAt l k).1) := hx
      have HF : Hid (f = fine (pAt l k)) := hf
      rw [← hx] at hc1 hI
      rw [← hy] at hc2 hI
      rw [← hf] at hI
      have hbr : b < wr.heap.size := Nat.lt_of_lt_of_le hb hB.size
      clear hx hy hf hc
      go_wp2_with fail
      refine (hI _).mono ?_
      rintro e w1 ⟨rfl, hb1⟩
      clear hI
      have hB1 : Below w.heap.size w w1 := below_after_of (hB.alloc hB.size _) hb1
      have hwr : wr.heap.size < w1.heap.size := by have := hb1.size; simp at this; omega
      obtain ⟨g0, g1, -, -⟩ := two_cellsV ((hb1.block wr.heap.size (by simp)).trans (heap_alloc_new wr _))
      have HB1 : Hid (Below w.heap.size w w1) := hB1
      have hbw := hB1.size
      cases f
      · have e3 : Hid (scan l n 0 = 3) := by show _ = _; rw [← HS.out, show n - k = (n - k - 1) + 1 by omega]; exact scan_range HF.out.symm
        clear hB1 hb1 hB
        go_wp2
        go_ret
        exact ⟨ret_int e3.out.symm, HB1.out⟩
      · by_cases hk0 : k = 0
        · subst hk0
          have HS2 : Hid (scan l (n - 1) 1 = scan l n 0) := by
            show _ = _
            rw [show n = (n - 1) + 1 by omega]
            exact (scan_step HF.out.symm (by omega)).symm
          clear hB1 hb1 hB HS
          go_wp2
          go_quiet (fail)
          go_wp2
          go_roundw
          case rel => exact ⟨1, by omega, by go_num, below_drewN HB1.out _, HS2⟩
          case measure => simp [intOf]; omega
        · have hk1 : 0 < k := by omega
          have hkp := (hB1.cell (p := ⟨b, off + (k - 1) * 2, none⟩) hb).trans (HC.out (k - 1) (by omega)).1
          obtain ⟨z, hz⟩ : ∃ z, z = (pAt l (k - 1)).1 := ⟨_, rfl⟩
          have HZ : Hid (z = (pAt l (k - 1)).1) := hz
          rw [← hz] at hkp
          obtain ⟨m, rfl⟩ : ∃ m, k = m + 1 := ⟨k - 1, by omega⟩
          simp only [Nat.add_sub_cancel] at hkp
          have hkg : decide (0 < ((m + 1 : Nat) : Int)) = true := by simp
          clear hz hB1 hb1 hB
          by_cases hle : x ≤ z
          · have hd : decide (x ≤ z) = true := by simpa using hle
            have e1 : Hid (scan l n 0 = 1) := by
              show _ = _
              rw [← HS.out, show n - (m + 1) = (n - (m + 1) - 1) + 1 by omega]
              exact scan_form HF.out.symm hk1 (by rw [← HX.out, ← HZ.out]; exact hle)
            go_wp2
            go_quiet (fail)
            go_wp2
            go_ret
            exact ⟨ret_int e1.out.symm, below_drewN HB1.out _⟩
          · have hd : decide (x ≤ z) = false := by simpa using hle
            have HS2 : Hid (scan l (n - (m + 1) - 1) (m + 1 + 1) = scan l n 0) := by
              show _ = _
              rw [← HS.out, show n - (m + 1) = (n - (m + 1) - 1) + 1 by omega]
              exact (scan_step HF.out.symm (fun _ => by rw [← HX.out, ← HZ.out]; omega)).symm
            go_wp2
            go_quiet (fail)
            go_wp2
            go_roundw
            case rel => exact ⟨m + 1 + 1, by omega, by go_num, below_drewN HB1.out _, by rw [show n - (m + 1 + 1) = n - (m + 1) - 1 by omega]; exact HS2⟩
            case measure => simp [intOf]; omega
    · have hkn : k = n := by omega
      subst hkn
      have e0 : Hid (scan l k 0 = 0) := by show _ = _; rw [← HS.out, Nat.sub_self]; rfl
      clear hc
      go_wp2
      go_ret
      exact ⟨ret_int e0.out.symm, hB⟩
theorem slF_many {l : Prl} (h : 12 < l.length) : slF l = 2 := by unfold slF; rw [if_pos h]
theorem slF_scan {l : Prl} (h : ¬ 12 < l.length) : slF l = scan l l.length 0 := by unfold slF; rw [if_neg h]
set_option maxRecDepth 100000 in
set_option maxHeartbeats 1000000 in
theorem implSlotsFault_any (v : Value) (l : Prl) (w : World) (hv : Prs w v l) (hx : l.length ≤ 1099511627776) :
    Calls Try.prog 33 #[v] w fun e w' => e = .returned (.int .i64 (slF l)) ∧ Below w.heap.size w w' := by
  obtain ⟨a, c, rfl⟩ := hv.shape
  by_cases h : 12 < l.length
  · rw [slF_many h]
    generalize l.length = n at *
    clear hv
    go_enter Try.func33, Try.ntmps33
    go_wp2
    go_ret
    exact ⟨rfl, Below.refl _ _⟩
  · rw [slF_scan h]
    by_cases h0 : 0 < l.length
    · obtain ⟨_, b, off, rfl, hb, hc⟩ := hv.at h0
      exact implSlotsFault_core b off c l.length l w (by omega) hb hc
    · have e1 : l = [] := List.eq_nil_of_length_eq_zero (by omega)
      subst e1
      simp only [List.length_nil]
      have e2 : scan [] 0 0 = 0 := rfl
      rw [e2]
      clear hv h0 hx h e2
      go_enter Try.func33, Try.ntmps33
      go_wp2
      refine wp_loop_rounds 1 ?_; rw [rounds_succ]
      go_wp2
      go_ret
      exact ⟨rfl, Below.refl _ _⟩
end U
end Go.Proofs.Ytdchnanihceeeaa

/- A state, as mathematics: what it is, and compared. -/
namespace Go.Proofs.Ytdchnanihceeeaa
open Go.RowKit
namespace U
abbrev Pst := List Rcl
def dAt (p : Pst) (j : Nat) : Rcl := p.getD j []
theorem dAt_eq {p : Pst} {j : Nat} (h : j < p.length) : dAt p j = p[j] := by simp [dAt, List.getD_eq_getElem?_getD, List.getElem?_eq_getElem h]
theorem dAt_mem {p : Pst} {j : Nat} (h : j < p.length) : dAt p j ∈ p := by rw [dAt_eq h]; exact List.getElem_mem h
/-- A state. -/
structure St where
  ph : Int
  cu : Int
  d : Rcl
  n : Prl
  h : Hdl
  p : Pst
/-- Slots compared. -/
def eqP (l m : Prl) : Bool := decide (l = m)
theorem eqP_len {l m : Prl} (h : ¬ l.length = m.length) : eqP l m = false := decide_eq_false fun e => h (by rw [e])
theorem eqP_no {l m : Prl} {k : Nat} (h : ¬ pAt l k = pAt m k) : eqP l m = false := decide_eq_false fun e => h (by rw [e])
theorem eqP_yes {l m : Prl} (h : l.length = m.length) (ha : ∀ j, j < l.length → pAt l j = pAt m j) : eqP l m = true := decide_eq_true (by
  apply List.ext_getElem h
  intro j h1 h2
  rw [← pAt_eq h1, ← pAt_eq h2]
  exact ha j h1)
theorem eqP_iff {l m : Prl} : eqP l m = true ↔ l = m := decide_eq_true_iff
/-- Heads compared. -/
def hdQ (a b : Hd) : Bool := (a.e == b.e) && ((a.p == b.p) && ((a.o == b.o) && ((a.n == b.n) && (a.v == b.v))))
theorem hdQ_iff (a b : Hd) : hdQ a b = true ↔ a = b := by
  obtain ⟨e, p, o, n, v⟩ := a
  obtain ⟨e', p', o', n', v'⟩ := b
  unfold hdQ
  simp only [Bool.and_eq_true, beq_iff_eq, Hd.mk.injEq]
theorem hdQ_same (a : Hd) : hdQ a a = true := (hdQ_iff a a).2 rfl
def eqH (l m : Hdl) : Bool := (l.length == m.length) && (List.range l.length).all fun j => hdQ (hAt l j) (hAt m j)
theorem eqH_len {l m : Hdl} (h : ¬ l.length = m.length) : eqH l m = false := by unfold eqH; rw [beq_eq_false_iff_ne.2 h]; rfl
theorem eqH_no {l m : Hdl} {k : Nat} (hk : k < l.length) (h : hdQ (hAt l k) (hAt m k) = false) : eqH l m = false := by
  unfold eqH
  rw [Bool.and_eq_false_iff]
  right
  rw [List.all_eq_false]
  exact ⟨k, List.mem_range.2 hk, by rw [h]; decide⟩
theorem eqH_yes {l m : Hdl} (h : l.length = m.length) (ha : ∀ j, j < l.length → hdQ (hAt l j) (hAt m j) = true) : eqH l m = true := by
  unfold eqH
  rw [h, beq_self_eq_true, Bool.true_and, List.all_eq_true]
  intro j hj
  exact ha j (by rw [h]; exact List.mem_range.1 hj)
/-- The directories of the past compared. -/
def eqD (l m : Pst) : Bool := (l.length == m.length) && (List.range l.length).all fun j => sameL (dAt l j) (dAt m j)
theorem eqD_len {l m : Pst} (h : ¬ l.length = m.length) : eqD l m = false := by unfold eqD; rw [beq_eq_false_iff_ne.2 h]; rfl
theorem eqD_no {l m : Pst} {k : Nat} (hk : k < l.length) (h : sameL (dAt l k) (dAt m k) = false) : eqD l m = false := by
  unfold eqD
  rw [Bool.and_eq_false_iff]
  right
  rw [List.all_eq_false]
  exact ⟨k, List.mem_range.2 hk, by rw [h]; decide⟩
theorem eqD_yes {l m : Pst} (h : l.length = m.length) (ha : ∀ j, j < l.length → sameL (dAt l j) (dAt m j) = true) : eqD l m = true := by
  unfold eqD
  rw [h, beq_self_eq_true, Bool.true_and, List.all_eq_true]
  intro j hj
  exact ha j (by rw [h]; exact List.mem_range.1 hj)
end U
end Go.Proofs.Ytdchnanihceeeaa

/- States in memory: how they read. -/
namespace Go.Proofs.Ytdchnanihceeeaa
open Go.RowKit
namespace U
/-- A slice value reads as a list of directories. -/
def Dss (w : World) (v : Value) (p : Pst) : Prop :=
  (p = [] ∧ ∃ a c, v = .slice a 0 c) ∨ ∃ b off c, v = .slice (some ⟨b, off, none⟩) p.length c ∧ b < w.heap.size ∧ ∀ j, j < p.length → ∃ u, w.cell? ⟨b, off + j, none⟩ = some u ∧ Rcs w u (dAt p j)
theorem Dss.below {w w' : World} {v : Value} {p : Pst} (h : Dss w v p) (hb : Below w.heap.size w w') : Dss w' v p := by
  rcases h with h | ⟨b, off, c, rfl, hlt, hc⟩
  · exact Or.inl h
  · refine Or.inr ⟨b, off, c, rfl, Nat.lt_of_lt_of_le hlt hb.size, fun j hj => ?_⟩
    obtain ⟨u, h1, h2⟩ := hc j hj
    exact ⟨u, (hb.cell (p := ⟨b, off + j, none⟩) hlt).trans h1, h2.below hb⟩
theorem Dss.shape {w : World} {v : Value} {p : Pst} (h : Dss w v p) : ∃ a c, v = .slice a p.length c := by
  rcases h with ⟨rfl, a, c, rfl⟩ | ⟨b, off, c, rfl, _⟩
  · exact ⟨a, c, rfl⟩
  · exact ⟨_, c, rfl⟩
theorem Dss.at {w : World} {a : Option Addr} {n c : Nat} {p : Pst} (h : Dss w (.slice a n c) p) (h0 : 0 < p.length) : n = p.length ∧ ∃ b off, a = some ⟨b, off, none⟩ ∧ b < w.heap.size ∧ ∀ j, j < p.length → ∃ u, w.cell? ⟨b, off + j, none⟩ = some u ∧ Rcs w u (dAt p j) := by
  rcases h with ⟨rfl, _⟩ | ⟨b, off, c', e, h1, h2⟩
  · simp at h0
  · cases e
    exact ⟨rfl, b, off, rfl, h1, h2⟩
theorem Dss.nil (w : World) (a : Option Addr) (c : Nat) : Dss w (.slice a 0 c) [] := Or.inl ⟨rfl, a, c, rfl⟩
/-- The values of a state's lists. -/
structure Sv where
  d : Value
  n : Value
  h : Value
  p : Value
/-- They read as a state. -/
structure Sts (w : World) (v : Sv) (s : St) : Prop where
  d : Rcs w v.d s.d
  n : Prs w v.n s.n
  h : Hds w v.h s.h
  p : Dss w v.p s.p
theorem Sts.below {w w' : World} {v : Sv} {s : St} (h : Sts w v s) (hb : Below w.heap.size w w') : Sts w' v s := ⟨h.d.below hb, h.n.below hb, h.h.below hb, h.p.below hb⟩
/-- A state's value, its cells. -/
def stV (s : St) (v : Sv) : Value := .agg #[.int .i64 s.ph, .int .i64 s.cu, v.d, v.n, v.h, v.p]
def srV (c : Int) (s : St) (v : Sv) : Value := .agg #[.int .i64 c, .int .i64 s.ph, .int .i64 s.cu, v.d, v.n, v.h, v.p]
def stC (s : St) (v : Sv) (t : TypeId) : Obj := .cells #[.int .i64 s.ph, .int .i64 s.cu, v.d, v.n, v.h, v.p] t
structure StC (w : World) (b : Nat) (s : St) (v : Sv) : Prop where
  lt : b < w.heap.size
  c0 : w.cell? ⟨b, 0, none⟩ = some (.int .i64 s.ph)
  c1 : w.cell? ⟨b, 1, none⟩ = some (.int .i64 s.cu)
  c2 : w.cell? ⟨b, 2, none⟩ = some v.d
  c3 : w.cell? ⟨b, 3, none⟩ = some v.n
  c4 : w.cell? ⟨b, 4, none⟩ = some v.h
  c5 : w.cell? ⟨b, 5, none⟩ = some v.p
theorem StC.below {w w' : World} {b N : Nat} {s : St} {v : Sv} (h : StC w b s v) (hb : Below N w w') (hlt : b < N) : StC w' b s v :=
  ⟨Nat.lt_of_lt_of_le h.lt hb.size, (hb.cell (p := ⟨b, 0, none⟩) hlt).trans h.c0, (hb.cell (p := ⟨b, 1, none⟩) hlt).trans h.c1, (hb.cell (p := ⟨b, 2, none⟩) hlt).trans h.c2, (hb.cell (p := ⟨b, 3, none⟩) hlt).trans h.c3, (hb.cell (p := ⟨b, 4, none⟩) hlt).trans h.c4, (hb.cell (p := ⟨b, 5, none⟩) hlt).trans h.c5⟩
theorem StC.of {w : World} {b : Nat} {s : St} {v : Sv} {t : TypeId} (h : w.heap[b]? = some (stC s v t)) : StC w b s v := by
  refine ⟨(Array.getElem?_eq_some_iff.1 h).1, ?_, ?_, ?_, ?_, ?_, ?_⟩ <;> (unfold World.cell?; rw [h]; rfl)
theorem StC.new (w : World) (s : St) (v : Sv) (t : TypeId) : StC (w.alloc (stC s v t)) w.heap.size s v := StC.of (heap_alloc_new w _)
/-- How many records the first directories have. -/
def tot (p : Pst) : Nat → Nat
  | 0 => 0
  | k + 1 => tot p k + (dAt p k).length
/-- Bounds of a state that a law goes into. -/
structure StB (s : St) : Prop where
  d : s.d.length ≤ 1048576
  dl : Lbs s.d
  n : s.n.length ≤ 1048576
  h : s.h.length ≤ 1048576
  p : s.p.length ≤ 1048576
  pd : ∀ j, j < s.p.length → (dAt s.p j).length ≤ 1048576 ∧ Lbs (dAt s.p j)
  t : ∀ j, j ≤ s.p.length → tot s.p j ≤ 1048576
/-- Bounds of a state that is an argument. -/
structure StA (s : St) : Prop where
  d : s.d.length ≤ maxLen
  dl : LbM s.d
  n : s.n.length ≤ maxLen
  h : s.h.length ≤ maxLen
  p : s.p.length ≤ maxLen
  pd : ∀ j, j < s.p.length → (dAt s.p j).length ≤ maxLen ∧ LbM (dAt s.p j)
end U
end Go.Proofs.Ytdchnanihceeeaa

/- Structs of two cells, and lists, carried over what does not touch them. -/
namespace Go.Proofs.Ytdchnanihceeeaa
open Go.RowKit
namespace U
/-- What a struct of two cells in a block of its own reads as. -/
def Pair (w : World) (b : Nat) (x y : Value) : Prop := b < w.heap.size ∧ w.cell? ⟨b, 0, none⟩ = some x ∧ w.cell? ⟨b, 1, none⟩ = some y
theorem Pair.below {w w' : World} {b : Nat} {x y : Value} (h : Pair w b x y) (hb : Below w.heap.size w w') : Pair w' b x y :=
  ⟨Nat.lt_of_lt_of_le h.1 hb.size, (hb.cell (p := ⟨b, 0, none⟩) h.1).trans h.2.1, (hb.cell (p := ⟨b, 1, none⟩) h.1).trans h.2.2⟩
theorem Pair.grown {w w' : World} {b : Nat} {x y : Value} {row : Option Nat} (h : Pair w b x y) (hg : w.grownBy w' row) (hne : some b ≠ row) : Pair w' b x y :=
  ⟨Nat.lt_of_lt_of_le h.1 hg.size, hg.cell h.2.1 hne, hg.cell h.2.2 hne⟩
theorem Pair.new (w : World) (x y : Value) (t : TypeId) : Pair (w.alloc (.cells #[x, y] t)) w.heap.size x y :=
  have h := two_cells (heap_alloc_new w (.cells #[x, y] t))
  ⟨by simp, h.1, h.2.1⟩
theorem Ints.grown {k : IntKind} {w w' : World} {v : Value} {xs : List Int} {row : Option Nat} (h : Ints k w v xs) (hg : w.grownBy w' row) (hne : v.ownBlock = none ∨ v.ownBlock ≠ row) : Ints k w' v xs := by
  rcases h with h | ⟨b, off, c, rfl, hlt, hc⟩
  · exact Or.inl h
  · refine Or.inr ⟨b, off, c, rfl, Nat.lt_of_lt_of_le hlt hg.size, fun j hj => hg.cell (hc j hj) ?_⟩
    rcases hne with hne | hne
    · simp [Value.ownBlock] at hne
    · exact hne
end U
end Go.Proofs.Ytdchnanihceeeaa

/- Rows of one's own over what grows elsewhere. -/
namespace Go.Proofs.Ytdchnanihceeeaa
open Go.RowKit
namespace U
theorem own_ints_n {k : IntKind} {w : World} {B n : Nat} {e : TypeId} {v : Value} {xs : List Int} (HN : n = xs.length) (h : w.ownsRow B e 1 v n (xs.map (Value.int k))) : Ints k w v xs := by
  subst HN; exact own_ints h
theorem own_grown {w w' : World} {B n size : Nat} {e : TypeId} {v : Value} {xs : List Value} {row : Option Nat} (h : w.ownsRow B e size v n xs) (hg : w.grownBy w' row) (hne : v.ownBlock = none ∨ v.ownBlock ≠ row) : w'.ownsRow B e size v n xs := by
  refine ⟨h.1, ?_⟩
  rcases h.2 with h2 | ⟨g, cap, cur, rfl, h3, h4, h5⟩
  · exact Or.inl h2
  · refine Or.inr ⟨g, cap, cur, rfl, h3, (hg.block g (Array.getElem?_eq_some_iff.1 h4).1 ?_).trans h4, h5⟩
    rcases hne with hne | hne
    · simp [Value.ownBlock] at hne
    · exact hne
theorem apart_lt {v u : Value} (h : ∀ k, v.ownBlock = some k → ∀ j, u.ownBlock = some j → k < j) : v.ownBlock = none ∨ v.ownBlock ≠ u.ownBlock := by
  rcases hk : v.ownBlock with _ | k
  · exact Or.inl rfl
  · right
    intro e
    have := h k hk k e.symm
    omega
theorem apart_gt {v u : Value} (h : ∀ k, v.ownBlock = some k → ∀ j, u.ownBlock = some j → j < k) : v.ownBlock = none ∨ v.ownBlock ≠ u.ownBlock := by
  rcases hk : v.ownBlock with _ | k
  · exact Or.inl rfl
  · right
    intro e
    have := h k hk k e.symm
    omega
end U
end Go.Proofs.Ytdchnanihceeeaa

/- Rows of one's own, several at once; what is touched between two places alone. -/
namespace Go.Proofs.Ytdchnanihceeeaa
open Go.RowKit
namespace U
/-- Nothing but blocks from a to b has turned. -/
structure Tch (a b : Nat) (w w' : World) : Prop where
  os : w'.os = w.os
  tape : w'.tape = w.tape
  output : w'.output = w.output
  size : w.heap.size ≤ w'.heap.size
  block : ∀ k, k < w.heap.size → (k < a ∨ b ≤ k) → w'.heap[k]? = w.heap[k]?
theorem Tch.refl (a b : Nat) (w : World) : Tch a b w w := ⟨rfl, rfl, rfl, Nat.le_refl _, fun _ _ _ => rfl⟩
theorem Tch.trans {a b : Nat} {x y z : World} (h : Tch a b x y) (k : Tch a b y z) : Tch a b x z :=
  ⟨k.os.trans h.os, k.tape.trans h.tape, k.output.trans h.output, Nat.le_trans h.size k.size, fun i hi hn => (k.block i (Nat.lt_of_lt_of_le hi h.size) hn).trans (h.block i hi hn)⟩
theorem Tch.of_grown {a b : Nat} {w w' : World} {row : Option Nat} (h : w.grownBy w' row) (hr : ∀ g, row = some g → a ≤ g ∧ g < b) : Tch a b w w' :=
  ⟨h.os, h.tape, h.output, h.size, fun k hk hn => h.block k hk (fun e => by have := hr k e.symm; omega)⟩
theorem Tch.of_below {a b : Nat} {w w' : World} (h : Below w.heap.size w w') : Tch a b w w' := ⟨h.os, h.tape, h.output, h.size, fun k hk _ => h.block k hk⟩
theorem Tch.below {a b : Nat} {w w' : World} (h : Tch a b w w') (ha : a ≤ w.heap.size) : Below a w w' := ⟨h.os, h.tape, h.output, h.size, fun k hk => h.block k (by omega) (Or.inl hk)⟩
/-- A row: the element's type and size, the value, how many, the cells. -/
structure Rw where
  e : TypeId
  z : Nat
  v : Value
  n : Nat
  xs : List Value
def blks (R : List Rw) : List Nat := R.filterMap fun r => r.v.ownBlock
theorem blks_app (R S : List Rw) : blks (R ++ S) = blks R ++ blks S := List.filterMap_append
theorem blks_mem {R : List Rw} {g : Nat} (h : g ∈ blks R) : ∃ r ∈ R, r.v.ownBlock = some g := by simpa [blks] using h
theorem mem_blks {R : List Rw} {r : Rw} {g : Nat} (h : r ∈ R) (hg : r.v.ownBlock = some g) : g ∈ blks R := by
  unfold blks
  rw [List.mem_filterMap]
  exact ⟨r, h, hg⟩
structure Own (lo hi : Nat) (w : World) (R : List Rw) : Prop where
  own : ∀ r ∈ R, w.ownsRow lo r.e r.z r.v r.n r.xs
  hi : ∀ g ∈ blks R, g < hi
  nd : (blks R).Nodup
theorem own_blk {w : World} {lo n z g : Nat} {e : TypeId} {v : Value} {xs : List Value} (h : w.ownsRow lo e z v n xs) (hg : v.ownBlock = some g) : lo ≤ g ∧ g < w.heap.size := by
  rcases h.2 with ⟨rfl, _⟩ | ⟨g', cap, cur, rfl, h1, h2, _⟩
  · cases hg
  · cases hg
    exact ⟨h1, (Array.getElem?_eq_some_iff.1 h2).1⟩
theorem own_same {w w' : World} {lo n z : Nat} {e : TypeId} {v : Value} {xs : List Value} (h : w.ownsRow lo e z v n xs) (hb : ∀ g, v.ownBlock = some g → w'.heap[g]? = w.heap[g]?) : w'.ownsRow lo e z v n xs := by
  refine ⟨h.1, ?_⟩
  rcases h.2 with h2 | ⟨g, cap, cur, rfl, h3, h4, h5⟩
  · exact Or.inl h2
  · exact Or.inr ⟨g, cap, cur, rfl, h3, (hb g rfl).trans h4, h5⟩
theorem Own.lo {lo hi : Nat} {w : World} {R : List Rw} (h : Own lo hi w R) : ∀ g ∈ blks R, lo ≤ g := fun g hg => by
  obtain ⟨r, hr, e⟩ := blks_mem hg
  exact (own_blk (h.own r hr) e).1
theorem Own.nil (lo hi : Nat) (w : World) : Own lo hi w [] := ⟨fun r hr => by simp at hr, fun g hg => by simp [blks] at hg, by simp [blks]⟩
theorem Own.single {lo hi : Nat} {w : World} {r : Rw} (h : w.ownsRow lo r.e r.z r.v r.n r.xs) (hh : w.heap.size ≤ hi) : Own lo hi w [r] := by
  refine ⟨fun s hs => ?_, fun g hg => ?_, ?_⟩
  · rw [List.mem_singleton] at hs
    subst hs
    exact h
  · obtain ⟨s, hs, e⟩ := blks_mem hg
    rw [List.mem_singleton] at hs
    subst hs
    have := (own_blk h e).2
    omega
  · unfold blks
    cases hb : r.v.ownBlock <;> simp [hb]
theorem Own.wide {lo lo' hi hi' : Nat} {w : World} {R : List Rw} (h : Own lo hi w R) (h1 : lo' ≤ lo) (h2 : hi ≤ hi') : Own lo' hi' w R :=
  ⟨fun r hr => own_mono (h.own r hr) h1, fun g hg => Nat.lt_of_lt_of_le (h.hi g hg) h2, h.nd⟩
theorem Own.app {lo mid hi : Nat} {w : World} {R S : List Rw} (h : Own lo mid w R) (k : Own mid hi w S) (h1 : lo ≤ mid) (h2 : mid ≤ hi) : Own lo hi w (R ++ S) := by
  refine ⟨fun r hr => ?_, fun g hg => ?_, ?_⟩
  · rcases List.mem_append.1 hr with hr | hr
    · exact h.own r hr
    · exact own_mono (k.own r hr) h1
  · rw [blks_app] at hg
    rcases List.mem_append.1 hg with hg | hg
    · have := h.hi g hg; omega
    · exact k.hi g hg
  · rw [blks_app, List.nodup_append]
    refine ⟨h.nd, k.nd, fun a ha b hb e => ?_⟩
    have := h.hi a ha
    have := k.lo b hb
    omega
theorem Own.perm {lo hi : Nat} {w : World} {R S : List Rw} (h : Own lo hi w R) (p : R.Perm S) : Own lo hi w S := by
  have hp : (blks R).Perm (blks S) := p.filterMap _
  exact ⟨fun r hr => h.own r (p.mem_iff.2 hr), fun g hg => h.hi g (hp.mem_iff.2 hg), hp.nodup_iff.1 h.nd⟩
theorem Own.left {lo hi : Nat} {w : World} {R S : List Rw} (h : Own lo hi w (R ++ S)) : Own lo hi w R :=
  ⟨fun r hr => h.own r (List.mem_append_left _ hr), fun g hg => h.hi g (by rw [blks_app]; exact List.mem_append_left _ hg), by
    have := h.nd
    rw [blks_app, List.nodup_append] at this
    exact this.1⟩
theorem Own.right {lo hi : Nat} {w : World} {R S : List Rw} (h : Own lo hi w (R ++ S)) : Own lo hi w S :=
  ⟨fun r hr => h.own r (List.mem_append_right _ hr), fun g hg => h.hi g (by rw [blks_app]; exact List.mem_append_right _ hg), by
    have := h.nd
    rw [blks_app, List.nodup_append] at this
    exact this.2.1⟩
theorem Own.blocks {lo hi : Nat} {w w' : World} {R : List Rw} (h : Own lo hi w R) (hb : ∀ g ∈ blks R, w'.heap[g]? = w.heap[g]?) : Own lo hi w' R :=
  ⟨fun r hr => own_same (h.own r hr) (fun g hg => hb g (mem_blks hr hg)), h.hi, h.nd⟩
theorem Own.lt {lo hi : Nat} {w : World} {R : List Rw} (h : Own lo hi w R) : ∀ g ∈ blks R, g < w.heap.size := fun g hg => by
  obtain ⟨r, hr, e⟩ := blks_mem hg
  exact (own_blk (h.own r hr) e).2
theorem Own.below {lo hi : Nat} {w w' : World} {R : List Rw} (h : Own lo hi w R) (hb : Below w.heap.size w w') : Own lo hi w' R :=
  h.blocks fun g hg => hb.block g (h.lt g hg)
theorem Own.grown {lo hi : Nat} {w w' : World} {R : List Rw} {row : Option Nat} (h : Own lo hi w R) (hg : w.grownBy w' row) (hr : ∀ g ∈ blks R, some g ≠ row) : Own lo hi w' R :=
  h.blocks fun g hm => hg.block g (h.lt g hm) (hr g hm)
theorem Own.tch {lo hi a b : Nat} {w w' : World} {R : List Rw} (h : Own lo hi w R) (ht : Tch a b w w') (hb : b ≤ lo) : Own lo hi w' R :=
  h.blocks fun g hm => ht.block g (h.lt g hm) (Or.inr (by have := h.lo g hm; omega))
/-- One row is written anew. -/
theorem Own.set {lo hi : Nat} {w w' : World} {A B : List Rw} {r r' : Rw} (h : Own lo hi w (A ++ r :: B)) (hv : r'.v = r.v) (hg : w.grownBy w' r.v.ownBlock) (ho : w'.ownsRow lo r'.e r'.z r'.v r'.n r'.xs) : Own lo hi w' (A ++ r' :: B) := by
  have hbl : blks (A ++ r' :: B) = blks (A ++ r :: B) := by
    unfold blks
    rw [List.filterMap_append, List.filterMap_append, List.filterMap_cons, List.filterMap_cons, hv]
  have hn := h.nd
  have key : ∀ s, (s ∈ A ∨ s ∈ B) → ∀ g, s.v.ownBlock = some g → some g ≠ r.v.ownBlock := fun s hs g hsg e => by
    rw [blks_app] at hn
    have e2 : blks (r :: B) = g :: blks B := by unfold blks; rw [List.filterMap_cons, ← e]
    rw [e2] at hn
    rcases hs with hs | hs
    · exact (List.nodup_append.1 hn).2.2 g (mem_blks hs hsg) g (by simp) rfl
    · have := (List.nodup_append.1 hn).2.1
      rw [List.nodup_cons] at this
      exact this.1 (mem_blks hs hsg)
  refine ⟨fun s hs => ?_, by rw [hbl]; exact h.hi, by rw [hbl]; exact h.nd⟩
  rcases List.mem_append.1 hs with hs | hs
  · have ho := h.own s (List.mem_append_left _ hs)
    exact own_same ho fun g e => hg.block g (own_blk ho e).2 (key s (Or.inl hs) g e)
  · rcases List.mem_cons.1 hs with rfl | hs
    · exact ho
    · have ho := h.own s (List.mem_append_right _ (List.mem_cons_of_mem _ hs))
      exact own_same ho fun g e => hg.block g (own_blk ho e).2 (key s (Or.inr hs) g e)
/-- The rows of directories. -/
def nilV : Value := .slice none 0 0
def dRow (v : Value) (l : Rcl) : Rw := ⟨51, 4, v, l.length, flR l⟩
def nRow (v : Value) (l : Prl) : Rw := ⟨100, 2, v, l.length, (fl l).map (Value.int .i64)⟩
def hRow (v : Value) (l : Hdl) : Rw := ⟨94, 5, v, l.length, flH l⟩
def oRow (v : Value) (us : List Value) : Rw := ⟨24, 1, v, us.length, us⟩
def uAt (us : List Value) (j : Nat) : Value := us.getD j nilV
def pRows (us : List Value) (p : Pst) : Nat → List Rw
  | 0 => []
  | k + 1 => pRows us p k ++ [dRow (uAt us k) (dAt p k)]
theorem pRows_mem (us : List Value) (p : Pst) : ∀ k j, j < k → dRow (uAt us j) (dAt p j) ∈ pRows us p k
  | k + 1, j, h => by
    show _ ∈ pRows us p k ++ [dRow (uAt us k) (dAt p k)]
    by_cases e : j = k
    · subst e; simp
    · exact List.mem_append_left _ (pRows_mem us p k j (by omega))
theorem uAt_app {us : List Value} {u : Value} {j : Nat} (h : j < us.length) : uAt (us ++ [u]) j = uAt us j := by
  unfold uAt
  rw [List.getD_eq_getElem?_getD, List.getD_eq_getElem?_getD, List.getElem?_append_left h]
theorem uAt_last (us : List Value) (u : Value) : uAt (us ++ [u]) us.length = u := by
  unfold uAt
  rw [List.getD_eq_getElem?_getD, List.getElem?_append_right (Nat.le_refl _)]
  simp
theorem pRows_us {us us' : List Value} {p p' : Pst} : ∀ k, (∀ j, j < k → uAt us j = uAt us' j ∧ dAt p j = dAt p' j) → pRows us p k = pRows us' p' k
  | 0, _ => rfl
  | k + 1, h => by
    show pRows us p k ++ [dRow (uAt us k) (dAt p k)] = pRows us' p' k ++ [dRow (uAt us' k) (dAt p' k)]
    rw [pRows_us k (fun j hj => h j (by omega)), (h k (by omega)).1, (h k (by omega)).2]
/-- The rows of a state. -/
def sRows (v : Sv) (us : List Value) (s : St) : List Rw := [dRow v.d s.d] ++ ([nRow v.n s.n] ++ ([hRow v.h s.h] ++ ([oRow v.p us] ++ pRows us s.p s.p.length)))
/-- A state that owns its memory. -/
structure StOwn (lo hi : Nat) (w : World) (v : Sv) (us : List Value) (s : St) : Prop where
  own : Own lo hi w (sRows v us s)
  len : us.length = s.p.length
theorem own_dss {lo hi : Nat} {w : World} {v : Value} {us : List Value} {p : Pst} (h : Own lo hi w ([oRow v us] ++ pRows us p p.length)) (hl : us.length = p.length) : Dss w v p := by
  have h0 := h.own (oRow v us) (by simp)
  have h1 : w.ownsRow lo 24 1 v us.length us := h0
  rcases h1.2 with ⟨rfl, hn⟩ | ⟨g, cap, cur, rfl, hB, hg, _⟩
  · left
    exact ⟨List.eq_nil_of_length_eq_zero (by omega), none, 0, rfl⟩
  · right
    refine ⟨g, 0, cap, by rw [hl], (Array.getElem?_eq_some_iff.1 hg).1, fun j hj => ?_⟩
    have hr := h.own _ (List.mem_append_right _ (pRows_mem us p p.length j hj))
    have hr : w.ownsRow lo 51 4 (uAt us j) (dAt p j).length (flR (dAt p j)) := hr
    refine ⟨uAt us j, ?_, own_rcs hr⟩
    rw [Nat.zero_add]
    have := h1.cellAt j (by omega)
    rw [this]
    unfold uAt
    rw [List.getD_eq_getElem?_getD, List.getElem?_eq_getElem (by omega)]
    rfl
theorem StOwn.sts {lo hi : Nat} {w : World} {v : Sv} {us : List Value} {s : St} (h : StOwn lo hi w v us s) : Sts w v s := by
  have h1 := h.own.own (dRow v.d s.d) (by simp [sRows])
  have h2 := h.own.own (nRow v.n s.n) (by simp [sRows])
  have h3 := h.own.own (hRow v.h s.h) (by simp [sRows])
  refine ⟨own_rcs (B := lo) (e := 51) h1, own_prs (B := lo) (e := 100) h2, own_hds (B := lo) (e := 94) h3, own_dss (lo := lo) (hi := hi) (us := us) ?_ h.len⟩
  exact h.own.right.right.right
theorem StOwn.below {lo hi : Nat} {w w' : World} {v : Sv} {us : List Value} {s : St} (h : StOwn lo hi w v us s) (hb : Below w.heap.size w w') : StOwn lo hi w' v us s := ⟨h.own.below hb, h.len⟩
theorem StOwn.tch {lo hi a b : Nat} {w w' : World} {v : Sv} {us : List Value} {s : St} (h : StOwn lo hi w v us s) (ht : Tch a b w w') (hb : b ≤ lo) : StOwn lo hi w' v us s := ⟨h.own.tch ht hb, h.len⟩
theorem StOwn.wide {lo lo' hi hi' : Nat} {w : World} {v : Sv} {us : List Value} {s : St} (h : StOwn lo hi w v us s) (h1 : lo' ≤ lo) (h2 : hi ≤ hi') : StOwn lo' hi' w v us s := ⟨h.own.wide h1 h2, h.len⟩
end U
end Go.Proofs.Ytdchnanihceeeaa

/- Slots as the laws look at them: sizes, copies, compared, marked and looked at anew. -/
namespace Go.Proofs.Ytdchnanihceeeaa
open Go.RowKit
namespace U
theorem Try.infoSl : (Try.prog.info? 100).map (fun i => (i.zero, i.size, i.bytes)) = some (some (.agg #[.int .i64 0, .int .i64 0]), 2, 16) := by kernel_rfl
set_option maxHeartbeats 400000 in
theorem szSlotS_any (a : Option Addr) (n c : Nat) (w : World) (hn : n ≤ maxLen) :
    Calls Try.prog 44 #[.slice a n c, .int .i64 1048576] w fun e w' => e = .returned (.int .i64 (if n ≤ 1048576 then (1048576 - n : Int) else -1)) ∧ w' = w := by
  unfold maxLen at hn
  by_cases h : n ≤ 1048576
  · rw [if_pos h]
    go_enter Try.func44, Try.ntmps44
    go_wp2
    go_ret
    exact ⟨rfl, rfl⟩
  · rw [if_neg h]
    go_enter Try.func44, Try.ntmps44
    go_wp2
    go_ret
    exact ⟨rfl, rfl⟩
set_option maxRecDepth 100000 in
theorem toSlot_any (x y : Int) (w : World) :
    Calls Try.prog 99 #[.agg #[.int .i64 x, .int .i64 y]] w fun e w' => e = .returned (.agg #[.int .i64 x, .int .i64 y]) ∧ Below w.heap.size w w' := by
  go_enter Try.func99, Try.ntmps99
  go_wp2
  refine bodyPost_ret (v := .agg #[.int .i64 x, .int .i64 y]) (by simp [results, Try.results99, go_sem]) rfl ⟨rfl, ?_⟩
  exact (two_new _ _).alloc (by simp; omega) _
theorem made_two (n : Nat) : (madeCells #[Value.int .i64 0, Value.int .i64 0] n).toList = List.replicate n (Value.int .i64 0) := by
  apply List.ext_getElem
  · simp [madeCells]
  · intro i h1 h2
    simp only [madeCells, Array.toList_map, List.getElem_map, List.getElem_replicate]
    rcases (by omega : (Array.range n).toList[i]'(by simpa [madeCells] using h1) % 2 = 0 ∨ (Array.range n).toList[i]'(by simpa [madeCells] using h1) % 2 = 1) with h | h <;> (show #[Value.int .i64 0, Value.int .i64 0][_ % 2]! = _; rw [h]; rfl)
theorem made_slots {w1 w : World} {n : Nat} {l : Prl} (HN : n = l.length) (h : w1.ownsRow w.heap.size 100 2 (.slice (some ⟨w.heap.size, 0, none⟩) n n) n (madeCells #[Value.int .i64 0, Value.int .i64 0] (n * 2)).toList) :
    w1.ownsRow w.heap.size 100 2 (.slice (some ⟨w.heap.size, 0, none⟩) n n) n ((copied (fl l) 0).map (Value.int .i64)) := by
  rw [copied_zero, fl_len, ← HN, List.map_replicate, ← made_two]
  exact h
theorem own_some2 {w : World} {B g n cap : Nat} {e : TypeId} {xs : List Value} (h : w.ownsRow B e 2 (.slice (some ⟨g, 0, none⟩) n cap) n xs) {j : Nat} (hj : j < n * 2) : ∃ x, w.cell? ⟨g, j, none⟩ = some x :=
  ⟨_, (h.cellAt j (by omega)).trans (List.getElem?_eq_getElem (by rw [h.1]; omega))⟩
theorem fl_getD (l : Prl) {j : Nat} (h : j < l.length) : (fl l).getD (j * 2) 0 = (pAt l j).1 ∧ (fl l).getD (j * 2 + 1) 0 = (pAt l j).2 := by
  have := fl_at l j h
  rw [List.getD_eq_getElem?_getD, List.getD_eq_getElem?_getD, this.1, this.2]
  exact ⟨rfl, rfl⟩
theorem two_set (l : Prl) {k : Nat} (h : k < l.length) : ((copied (fl l) (k * 2)).set (k * 2) (pAt l k).1).set (k * 2 + 1) (pAt l k).2 = copied (fl l) ((k + 1) * 2) := by
  have hl := fl_len l
  rw [← (fl_getD l h).1, copied_set _ _ (by omega), ← (fl_getD l h).2, copied_set _ _ (by omega)]
  congr 1
  omega
set_option maxRecDepth 100000 in
set_option maxHeartbeats 2000000 in
theorem toSlotS_core (b off c n : Nat) (l : Prl) (w : World) (HN : Hid (n = l.length)) (hx : n ≤ 1048576) (hb : b < w.heap.size)
    (hc : ∀ j, j < n → w.cell? ⟨b, off + j * 2, none⟩ = some (.int .i64 (pAt l j).1) ∧ w.cell? ⟨b, off + j * 2 + 1, none⟩ = some (.int .i64 (pAt l j).2)) :
    Calls Try.prog 50 #[.slice (some ⟨b, off, none⟩) n c] w fun e w' => e = .returned (.slice (some ⟨w.heap.size, 0, none⟩) n n) ∧ Below w.heap.size w w' ∧ w'.ownsRow w.heap.size 100 2 (.slice (some ⟨w.heap.size, 0, none⟩) n n) n ((fl l).map (Value.int .i64)) := by
  obtain ⟨i0, hi, hz0, hz1, hz2⟩ := info_parts Try.infoSl
  go_enter Try.func50, Try.ntmps50
  go_wp2_with (at_make; refine wpList_make_full _ rfl _ _ 25 rfl w.heap.size 100 i0 (.agg #[.int .i64 0, .int .i64 0]) 2 Try.underlying25 hi hz0 hz1 _ _ _ _ n rfl rfl rfl rfl (by rw [hz2]; omega) (by unfold maxLen; omega) (Nat.le_refl _) ?_)
  intro w1 hown1 hg1
  have own1 := made_slots HN.out hown1
  have hB1 : Below w.heap.size w w1 := (Below.refl _ _).grown hg1 (Nat.le_refl _) (fun k hk => by cases hk)
  clear hown1 hg1
  go_wp2
  go_loopw [4] (fun i wr => ∃ k : Nat, k ≤ n ∧ i = .int .i64 k ∧ Below w.heap.size w wr ∧ w.heap.size < wr.heap.size ∧ wr.ownsRow w.heap.size 100 2 (.slice (some ⟨w.heap.size, 0, none⟩) n n) n ((copied (fl l) (k * 2)).map (Value.int .i64))) (fun i _ => n - (intOf i).toNat)
  case atStart => exact ⟨0, Nat.zero_le _, rfl, hB1, (own1.lt _ rfl).2, own1⟩
  case round =>
    obtain ⟨k, hk, rfl, hB, hsz, ho⟩ := hrel
    by_cases hkn : k < n
    · have hki : (k : Int) < (n : Int) := by omega
      have hc1 := (hB.cell (p := ⟨b, off + k * 2, none⟩) hb).trans (hc k hkn).1
      have hc2 := (hB.cell (p := ⟨b, off + k * 2 + 1, none⟩) hb).trans (hc k hkn).2
      have hlk : k < l.length := by have := HN.out; omega
      have hts := two_set l hlk
      obtain ⟨x, hx⟩ : ∃ x, x = (pAt l k).1 := ⟨_, rfl⟩
      obtain ⟨y, hy⟩ : ∃ y, y = (pAt l k).2 := ⟨_, rfl⟩
      rw [← hx] at hc1 hts
      rw [← hy] at hc2 hts
      have HT : Hid (((copied (fl l) (k * 2)).set (k * 2) x).set (k * 2 + 1) y = copied (fl l) ((k + 1) * 2)) := hts
      have HB : Hid (Below w.heap.size w wr) := hB
      have HO : Hid (wr.ownsRow w.heap.size 100 2 (.slice (some ⟨w.heap.size, 0, none⟩) n n) n ((copied (fl l) (k * 2)).map (Value.int .i64))) := ho
      clear hx hy hc hts own1 hB1 ho hB
      go_wp2_with fail
      refine (toSlot_any x y _).mono ?_
      rintro e w2 ⟨rfl, hb2⟩
      have ho2 := own_below HO.out hb2
      have f0 := ho2.frozenAt (k * 2)
      have f1 := ho2.frozenAt (k * 2 + 1)
      obtain ⟨z0, g0⟩ := own_some2 ho2 (j := k * 2) (by omega)
      obtain ⟨z1, g1⟩ := own_some2 ho2 (j := k * 2 + 1) (by omega)
      have s1 := (ho2.stored (k * 2) (.int .i64 x)).1
      have s2 := (s1.stored (k * 2 + 1) (.int .i64 y)).1
      rw [← List.map_set, ← List.map_set, HT.out] at s2
      have hB2 : Below w.heap.size w ((w2.setCell ⟨w.heap.size, k * 2, none⟩ (.int .i64 x)).setCell ⟨w.heap.size, k * 2 + 1, none⟩ (.int .i64 y)) := ((below_after_of HB.out hb2).setCell (Nat.le_refl _) _).setCell (Nat.le_refl _) _
      have hsz2 : w.heap.size < w2.heap.size := by have := hb2.size; omega
      have HB2 : Hid (Below w.heap.size w ((w2.setCell ⟨w.heap.size, k * 2, none⟩ (.int .i64 x)).setCell ⟨w.heap.size, k * 2 + 1, none⟩ (.int .i64 y))) := hB2
      have HS2 : Hid (((w2.setCell ⟨w.heap.size, k * 2, none⟩ (.int .i64 x)).setCell ⟨w.heap.size, k * 2 + 1, none⟩ (.int .i64 y)).ownsRow w.heap.size 100 2 (.slice (some ⟨w.heap.size, 0, none⟩) n n) n ((copied (fl l) ((k + 1) * 2)).map (Value.int .i64))) := s2
      clear ho2 s1 s2 hB2 hb2
      go_wp2
      go_roundw
      case rel => exact ⟨k + 1, by omega, by go_num, HB2.out, by simp; omega, HS2.out⟩
      case measure => simp [intOf]; omega
    · have hkn : k = n := by omega
      subst hkn
      have e1 : copied (fl l) (k * 2) = fl l := by rw [HN.out, ← fl_len]; exact copied_all _
      rw [e1] at ho
      go_wp2
      go_ret
      exact ⟨rfl, hB, ho⟩
set_option maxRecDepth 100000 in
set_option maxHeartbeats 1000000 in
theorem toSlotS_any (v : Value) (l : Prl) (w : World) (hv : Prs w v l) (hx : l.length ≤ 1048576) :
    Calls Try.prog 50 #[v] w fun e w' => ∃ a c, e = .returned (.slice a l.length c) ∧ Below w.heap.size w w' ∧ w'.ownsRow w.heap.size 100 2 (.slice a l.length c) l.length ((fl l).map (Value.int .i64)) := by
  obtain ⟨a, c, rfl⟩ := hv.shape
  by_cases h0 : 0 < l.length
  · obtain ⟨_, b, off, rfl, hb, hc⟩ := hv.at h0
    refine (toSlotS_core b off c l.length l w rfl hx hb hc).mono ?_
    rintro e w' ⟨rfl, hB, ho⟩
    exact ⟨_, _, rfl, hB, ho⟩
  · have e1 : l = [] := List.eq_nil_of_length_eq_zero (by omega)
    subst e1
    obtain ⟨i0, hi, hz0, hz1, hz2⟩ := info_parts Try.infoSl
    simp only [List.length_nil]
    clear hv h0 hx
    go_enter Try.func50, Try.ntmps50
    go_wp2_with (at_make; refine wpList_make_full _ rfl _ _ 25 rfl w.heap.size 100 i0 (.agg #[.int .i64 0, .int .i64 0]) 2 Try.underlying25 hi hz0 hz1 _ _ _ _ 0 rfl rfl rfl rfl (by rw [hz2]; omega) (by unfold maxLen; omega) (Nat.le_refl _) ?_)
    intro w1 hown1 hg1
    have hB1 : Below w.heap.size w w1 := (Below.refl _ _).grown hg1 (Nat.le_refl _) (fun k hk => by cases hk)
    have HO : Hid (w1.ownsRow w.heap.size 100 2 (.slice (some ⟨w.heap.size, 0, none⟩) 0 0) 0 []) := by
      have := hown1
      rw [made_two] at this
      exact this
    clear hown1 hg1
    go_wp2
    refine wp_loop_rounds 1 ?_; rw [rounds_succ]
    go_wp2
    go_ret
    exact ⟨_, _, rfl, hB1, HO.out⟩
set_option maxRecDepth 100000 in
theorem eqSlot_any (x y x' y' : Int) (w : World) :
    Calls Try.prog 102 #[.agg #[.int .i64 x, .int .i64 y], .agg #[.int .i64 x', .int .i64 y']] w fun e w' => e = .returned (.bool (decide ((x, y) = (x', y')))) ∧ Below w.heap.size w w' := by
  by_cases h1 : x = x'
  · by_cases h2 : y = y'
    · subst h1 h2
      rw [decide_eq_true rfl]
      go_enter Try.func102, Try.ntmps102
      go_wp2
      go_ret
      exact ⟨rfl, two_new _ _⟩
    · subst h1
      have e1 : (y != y') = true := by simpa using h2
      rw [decide_eq_false (fun h => h2 (by cases h; rfl))]
      clear h2
      go_enter Try.func102, Try.ntmps102
      go_wp2
      go_ret
      exact ⟨rfl, two_new _ _⟩
  · have e1 : (x != x') = true := by simpa using h1
    rw [decide_eq_false (fun h => h1 (by cases h; rfl))]
    clear h1
    go_enter Try.func102, Try.ntmps102
    go_wp2
    go_ret
    exact ⟨rfl, two_new _ _⟩
/-- Two lists that agree below a place. -/
def AgreeP (l m : Prl) (k : Nat) : Prop := ∀ j, j < k → pAt l j = pAt m j
theorem AgreeP.all {l m : Prl} (h : AgreeP l m l.length) (hl : l.length = m.length) : l = m := by
  apply List.ext_getElem hl
  intro j h1 h2
  have := h j h1
  rwa [pAt_eq h1, pAt_eq h2] at this
theorem AgreeP.succ {l m : Prl} {k : Nat} (h : AgreeP l m k) (h1 : pAt l k = pAt m k) : AgreeP l m (k + 1) := by
  intro j hj
  by_cases e : j = k
  · subst e; exact h1
  · exact h j (by omega)
set_option maxRecDepth 100000 in
set_option maxHeartbeats 2000000 in
theorem eqSlotS_core (b off c b' off' c' n : Nat) (l m : Prl) (w : World) (HL : Hid (l.length = n)) (HM : Hid (m.length = n)) (hn : n ≤ 1099511627776) (hb : b < w.heap.size) (hb' : b' < w.heap.size)
    (hc : ∀ j, j < n → w.cell? ⟨b, off + j * 2, none⟩ = some (.int .i64 (pAt l j).1) ∧ w.cell? ⟨b, off + j * 2 + 1, none⟩ = some (.int .i64 (pAt l j).2))
    (hc' : ∀ j, j < n → w.cell? ⟨b', off' + j * 2, none⟩ = some (.int .i64 (pAt m j).1) ∧ w.cell? ⟨b', off' + j * 2 + 1, none⟩ = some (.int .i64 (pAt m j).2)) :
    Calls Try.prog 57 #[.slice (some ⟨b, off, none⟩) n c, .slice (some ⟨b', off', none⟩) n c'] w fun e w' => e = .returned (.bool (decide (l = m))) ∧ Below w.heap.size w w' := by
  go_enter Try.func57, Try.ntmps57
  go_wp2
  go_loopw [5] (fun i wr => ∃ k : Nat, k ≤ n ∧ i = .int .i64 k ∧ Hid (AgreeP l m k) ∧ Below w.heap.size w wr) (fun i _ => n - (intOf i).toNat)
  case atStart => exact ⟨0, Nat.zero_le _, rfl, fun j hj => by omega, Below.refl _ _⟩
  case round =>
    obtain ⟨k, hk, rfl, hA, hB⟩ := hrel
    by_cases hkn : k < n
    · have hki : (k : Int) < (n : Int) := by omega
      have c1 := After.cell ((hB.cell (p := ⟨b, off + k * 2, none⟩) hb).trans (hc k hkn).1)
      have c2 := After.cell ((hB.cell (p := ⟨b, off + k * 2 + 1, none⟩) hb).trans (hc k hkn).2)
      have c3 := After.cell ((hB.cell (p := ⟨b', off' + k * 2, none⟩) hb').trans (hc' k hkn).1)
      have c4 := After.cell ((hB.cell (p := ⟨b', off' + k * 2 + 1, none⟩) hb').trans (hc' k hkn).2)
      have hne := After.ne wr
      have hE := fun w => eqSlot_any (pAt l k).1 (pAt l k).2 (pAt m k).1 (pAt m k).2 w
      have HL2 : Hid (l.length = n) := HL
      generalize hx : (pAt l k).1 = x at *
      generalize hy : (pAt l k).2 = y at *
      generalize hx' : (pAt m k).1 = x' at *
      generalize hy' : (pAt m k).2 = y' at *
      have HP : Hid (pAt l k = (x, y) ∧ pAt m k = (x', y')) := ⟨by rw [← hx, ← hy], by rw [← hx', ← hy']⟩
      obtain ⟨d, hd⟩ : ∃ d, d = decide ((x, y) = (x', y')) := ⟨_, rfl⟩
      have HD : Hid (d = decide ((x, y) = (x', y'))) := hd
      rw [← hd] at hE
      have HB : Hid (Below w.heap.size w wr) := hB
      clear hx hy hx' hy' hc hc' hd hB
      go_wp2
      refine wp_region_after (by kernel_rfl) (by kernel_rfl) ?_
      repeat (first | go_big_quiet_skip | (go_big_quiet_want; go_big_quiet_op; first | go_big_quiet_on | go_big_quiet_call (first | (go_at_call 102; refine (hE _).mono ?_; rintro e wq ⟨rfl, hbq⟩; exact ⟨rfl, after_mk (below_after_of (After.b _) hbq)⟩))))
      refine wpQuiet_nil ?_
      rintro _ ⟨n2, rfl⟩
      have hB2 : Below w.heap.size w n2.w := below_after_of HB.out n2.b
      cases d
      · have e1 : Hid (¬ l = m) := fun e => by
          have := HD.out.symm
          rw [decide_eq_false_iff_not] at this
          exact this (by rw [← HP.out.1, ← HP.out.2, e])
        go_wp2
        go_ret
        exact ⟨ret_bool (by symm; rw [decide_eq_false_iff_not]; exact e1.out), hB2⟩
      · go_wp2
        go_roundw
        case rel => exact ⟨k + 1, by omega, by go_num, hA.out.succ (by rw [HP.out.1, HP.out.2]; exact of_decide_eq_true HD.out.symm), hB2⟩
        case measure => simp [intOf]; omega
    · clear hc hc'
      go_wp2
      go_ret
      refine ⟨ret_bool ?_, hB⟩
      symm
      rw [decide_eq_true_iff]
      have hkn : k = n := by omega
      subst hkn
      have hxl := HL.out
      exact AgreeP.all (by rw [hxl]; exact hA.out) (HL.out.trans HM.out.symm)
set_option maxRecDepth 100000 in
set_option maxHeartbeats 1000000 in
theorem eqSlotS_any (v u : Value) (l m : Prl) (w : World) (hv : Prs w v l) (hu : Prs w u m) (hx : l.length ≤ 1099511627776) (hy : m.length ≤ 1099511627776) :
    Calls Try.prog 57 #[v, u] w fun e w' => e = .returned (.bool (decide (l = m))) ∧ Below w.heap.size w w' := by
  obtain ⟨a, c, rfl⟩ := hv.shape
  obtain ⟨a', c', rfl⟩ := hu.shape
  by_cases hl : l.length = m.length
  · by_cases h0 : 0 < l.length
    · obtain ⟨_, b, off, rfl, hb, hc⟩ := hv.at h0
      obtain ⟨_, b', off', rfl, hb', hc'⟩ := hu.at (by omega)
      rw [← hl] at hc' ⊢
      exact eqSlotS_core b off c b' off' c' l.length l m w rfl hl.symm hx hb hb' hc hc'
    · have e1 : l = [] := List.eq_nil_of_length_eq_zero (by omega)
      have e2 : m = [] := List.eq_nil_of_length_eq_zero (by omega)
      subst e1 e2
      simp only [List.length_nil]
      clear hv hu hl h0 hx hy
      go_enter Try.func57, Try.ntmps57
      go_wp2
      refine wp_loop_rounds 1 ?_; rw [rounds_succ]
      go_wp2
      go_ret
      exact ⟨rfl, Below.refl _ _⟩
  · have hne : decide (l = m) = false := by rw [decide_eq_false_iff_not]; intro e; exact hl (by rw [e])
    rw [hne]
    obtain ⟨n, hn⟩ : ∃ n, n = l.length := ⟨_, rfl⟩
    obtain ⟨k, hk⟩ : ∃ n, n = m.length := ⟨_, rfl⟩
    rw [← hn, ← hk] at hl ⊢
    have h1 : ((n : Int) != (k : Int)) = true := by simp; omega
    clear hv hu hl hne hn hk
    go_enter Try.func57, Try.ntmps57
    go_wp2
    go_ret
    exact ⟨rfl, Below.refl _ _⟩
end U
end Go.Proofs.Ytdchnanihceeeaa

/- The fault of a head, as both models tell it. -/
namespace Go.Proofs.Ytdchnanihceeeaa
open Go.RowKit
namespace U
/-- What is left of the roots in a phase. -/
def kepO (p o : Int) : Int := if hasO p = true then o else 0
def kepN (p n : Int) : Int := if hasN p = true then n else 0
def trV (o n : Int) : Value := .agg #[.int .i64 o, .int .i64 n]
theorem below_in {w : World} {o o' : Obj} : Below w.heap.size w ((w.alloc o).alloc o') := two_new _ _
end U
end Go.Proofs.Ytdchnanihceeeaa

/- The fault of a head, as both models tell it. -/
namespace Go.Proofs.Ytdchnanihceeeaa
open Go.RowKit
namespace U
theorem five_cells {w : World} {b : Nat} {x0 x1 x2 x3 x4 : Value} {t : TypeId} (h : w.heap[b]? = some (.cells #[x0, x1, x2, x3, x4] t (0, 0))) : w.cell? ⟨b, 0, none⟩ = some x0 ∧ w.cell? ⟨b, 1, none⟩ = some x1 ∧ w.cell? ⟨b, 2, none⟩ = some x2 ∧ w.cell? ⟨b, 3, none⟩ = some x3 ∧ w.cell? ⟨b, 4, none⟩ = some x4 := by
  simp [World.cell?, h]
theorem kep_same (p o n : Int) : ((kepO p o == o) && (kepN p n == n)) = hdF p o n := by
  unfold kepO kepN hdF
  rcases Bool.eq_false_or_eq_true (hasO p) with h1 | h1 <;> rcases Bool.eq_false_or_eq_true (hasN p) with h2 | h2 <;> simp [h1, h2] <;> (rw [Bool.eq_iff_iff]; simp) <;> omega
end U
end Go.Proofs.Ytdchnanihceeeaa

/- The bytes of a record: what both models answer. -/
namespace Go.Proofs.Ytdchnanihceeeaa
open Go.RowKit
namespace U
theorem RecAt.grown {w w' : World} {g : Nat} {l : ByteArray} {v o p : Int} {row : Option Nat} (h : RecAt w g l v o p) (hg : w.grownBy w' row) (hne : some g ≠ row) : RecAt w' g l v o p :=
  ⟨hg.cell h.c0 hne, hg.cell h.c1 hne, hg.cell h.c2 hne, hg.cell h.c3 hne⟩
theorem lit_own2 (w : World) (x y : Int) : (w.alloc (.cells #[.int .u8 x, .int .u8 y] 5)).ownsRow w.heap.size 5 1 (.slice (some ⟨w.heap.size, 0, none⟩) 2 2) 2 [.int .u8 x, .int .u8 y] := by
  have := World.ownsRow_lit (base := w.heap.size) (e := 5) (size := 1) w #[.int .u8 x, .int .u8 y] 2 (by simp) (by decide) rfl
  simpa using this
theorem row_news {w : World} {g : Nat} {s : ByteArray} (h : ∀ j, j < s.size → w.cell? ⟨g, j, none⟩ = some (.int .u8 (bt s j))) : ∀ j u, ((bl s).map (Value.int .u8))[j]? = some u → w.cell? ((⟨g, 0, none⟩ : Addr).add j) = some u :=
  bts_news (fun j hj => by rw [bl_len] at hj; rw [Nat.zero_add, h j hj, bl_at s hj])
def rowO (s : ByteArray) (cap : Nat) (e : TypeId) : Obj := .cells (bytesRow s cap) e ((bytesRow s cap).size, (bytesRow s cap).size + 1)
theorem row_le (s : ByteArray) (cap : Nat) : s.size ≤ (bytesRow s cap).size := by simp [bytesRow]
theorem rowA (w : World) (o : Obj) (s : ByteArray) (cap : Nat) (e : TypeId) : ∀ j, j < s.size → ((w.alloc o).alloc (rowO s cap e)).drew.drew.cell? ⟨w.heap.size + 1, j, none⟩ = some (.int .u8 (bt s j)) := fun j hj => by
  have := (bytes_row (w.alloc o) e s cap ((bytesRow s cap).size, (bytesRow s cap).size + 1) (row_le s cap) j hj).1
  rw [World.size_alloc] at this
  exact this
theorem rowB (w : World) (o : Obj) (s : ByteArray) (cap : Nat) (e : TypeId) : ∀ j, j < s.size → ((w.alloc (rowO s cap e)).alloc o).drew.drew.cell? ⟨w.heap.size, j, none⟩ = some (.int .u8 (bt s j)) := fun j hj => by
  have h := (bytes_row w e s cap ((bytesRow s cap).size, (bytesRow s cap).size + 1) (row_le s cap) j hj).1
  have h2 := (one_new (w := w.alloc (rowO s cap e)) o).cell (p := ⟨w.heap.size, j, none⟩) (by simp)
  exact h2.trans h
theorem ownB (w : World) (o : Obj) (x y : Int) : ((w.alloc o).alloc (.cells #[.int .u8 x, .int .u8 y] 5)).drew.drew.ownsRow w.heap.size 5 1 (.slice (some ⟨w.heap.size + 1, 0, none⟩) 2 2) 2 [.int .u8 x, .int .u8 y] := by
  have := own_mono (lit_own2 (w.alloc o) x y) (B := w.heap.size) (by simp)
  simpa using this.drew.drew
theorem own_open {w : World} {B n : Nat} {e : TypeId} {v : Value} {xs : List Value} (h : w.ownsRow B e 1 v n xs) (h0 : 0 < n) :
    ∃ g cap, v = .slice (some ⟨g, 0, none⟩) n cap ∧ n ≤ cap ∧ cap ≤ maxLen ∧ B ≤ g ∧ g < w.heap.size ∧ ∀ j, j < n → w.cell? ⟨g, j, none⟩ = xs[j]? := by
  rcases h.2 with ⟨-, hn⟩ | ⟨g, cap, cur, rfl, hB, hg, hc, hm, _⟩
  · omega
  · exact ⟨g, cap, rfl, hc, hm, hB, (Array.getElem?_eq_some_iff.1 hg).1, fun j hj => h.cellAt j (by omega)⟩
theorem lit3_ints (w : World) (x y z : Int) (t : TypeId) : Ints .i64 (w.alloc (.cells #[.int .i64 x, .int .i64 y, .int .i64 z] t)) (.slice (some ⟨w.heap.size, 0, none⟩) 3 3) [x, y, z] := by
  refine Or.inr ⟨w.heap.size, 0, 3, rfl, by simp, fun j hj => ?_⟩
  have hh := heap_alloc_new w (.cells #[.int .i64 x, .int .i64 y, .int .i64 z] t)
  simp only [List.length_cons, List.length_nil] at hj
  rcases (show j = 0 ∨ j = 1 ∨ j = 2 by omega) with rfl | rfl | rfl <;> (unfold World.cell?; rw [hh]; rfl)
/-- Three numbers, two bytes each. -/
def six (v o p : Int) : List Int := [v / 256, v % 256, o / 256, o % 256, p / 256, p % 256]
set_option maxHeartbeats 400000 in
theorem l2Bytes3 (x : Value) (v o p : Int) (w : World) (hv : Ints .i64 w x [v, o, p]) (hs : [v, o, p].all sumB = true) :
    Calls Try.prog 145 #[.int .i64 0, x] w fun e w' => ∃ g c, e = .returned (.slice (some ⟨g, 0, none⟩) 7 c) ∧ 7 ≤ c ∧ w.heap.size ≤ g ∧ g < w'.heap.size ∧ (∀ j u, ((six v o p).map (Value.int .u8))[j]? = some u → w'.cell? ((⟨g, 1, none⟩ : Addr).add j) = some u) ∧ Below w.heap.size w w' := by
  refine (l2Bytes_any 0 x [v, o, p] w hv (by simp) (by omega) hs).mono ?_
  rintro e w' ⟨v', rfl, hown, hb⟩
  have hl : (tagL 0 [v, o, p]).length = 7 := by simp [tagL, numB]
  rw [hl] at hown
  obtain ⟨g, c, rfl, hc, -, hB, hg, hcell⟩ := own_open hown (by omega)
  refine ⟨g, c, rfl, hc, hB, hg, fun j u hu => ?_, hb⟩
  have hj : j < 6 := by
    have := (List.getElem?_eq_some_iff.1 hu).1
    simpa [six] using this
  rw [Addr.add_lit, hcell (1 + j) (by omega)]
  have e1 : tagL 0 [v, o, p] = 0 :: six v o p := by simp [tagL, numB, six]
  rw [e1, List.map_cons, Nat.add_comm, List.getElem?_cons_succ]
  exact hu
attribute [local go_sem] Go.wp_at_zero Go.wp_at_succ
set_option maxRecDepth 100000 in
set_option maxHeartbeats 4000000 in
theorem l3Pack_fit (g : Nat) (l : ByteArray) (v o p : Int) (w : World) (h : RecAt w g l v o p) (hsm : l.size ≤ 12) (hl0 : 0 < l.size) (hSS : [v, o, p].all sumB = true) (hg : g < w.heap.size) :
    Calls Try.prog 146 #[.pointer (some ⟨g, 0, none⟩)] w fun e w' => ∃ v', e = .returned v' ∧ w'.ownsRow w.heap.size 5 1 v' (packL l v o p).length ((packL l v o p).map (Value.int .u8)) ∧ Below w.heap.size w w' := by
  obtain ⟨i0, hi, hz0, hz1, hz2⟩ := info_parts Try.infoB
  have hws : IntKind.u8.wrap (l.size : Int) = (l.size : Int) := wrapU8' _ (by omega) (by omega)
  have kc := fun (w : World) => run_bytes_of_string (P := Try.prog) w 9 48 5 l Try.underlying9 Try.underlying48 Try.underlying5
  have hc0 := h.c0
  obtain ⟨n, hn⟩ : ∃ n, n = l.size := ⟨_, rfl⟩
  have hbn := bl_len l
  go_enter Try.func146, Try.ntmps146
  go_wp2
  go_region_law (first
    | (refine step_append_lies _ (by rfl) _ _ _ (by rfl) w.heap.size 5 i0 _ 1 1 Try.underlying48 hi hz0 hz1 hz2 rfl (by omega) (.slice (some ⟨w.heap.size, 0, none⟩) 2 2) 2 [.int .u8 1, .int .u8 (l.size : Int)] (by rfl) ((((lit_own2 w 1 l.size).alloc _).drew).drew) ⟨w.heap.size + 1, 0, none⟩ l.size _ ((bl l).map (Value.int .u8)) (by rfl) (by simp [hbn]) (row_news (rowA w _ l _ _)) (ints_oneCell .u8 (bl l)) (by omega) (by unfold maxLen; omega) (by omega) (by simp; try omega) (w.heap.size + 2) (by simp) ?_; intro g1 cap1 w1 hown1 hgrow hat hlt)
    | (refine step_append_lies _ (by rfl) _ _ _ (by rfl) w.heap.size 5 i0 _ 1 1 Try.underlying48 hi hz0 hz1 hz2 rfl (by omega) (.slice (some ⟨w.heap.size + 1, 0, none⟩) 2 2) 2 [.int .u8 1, .int .u8 (l.size : Int)] (by rfl) (ownB w _ 1 l.size) ⟨w.heap.size, 0, none⟩ l.size _ ((bl l).map (Value.int .u8)) (by rfl) (by simp [hbn]) (row_news (rowB w _ l _ _)) (ints_oneCell .u8 (bl l)) (by omega) (by unfold maxLen; omega) (by omega) (by simp; try omega) (w.heap.size + 2) (by simp) ?_; intro g1 cap1 w1 hown1 hgrow hat hlt))
  all_goals (
    have hb1 : Below w.heap.size w w1 := ((two_new _ _).drew.drew).grown hgrow (by simp; try omega) (fun k hk => by simp [Value.ownBlock] at hk; omega)
    have own1 : w1.ownsRow w.heap.size 5 1 (.slice (some ⟨g1, 0, none⟩) (2 + l.size) cap1) (2 + l.size) ((headL l).map (Value.int .u8)) := hown1
    have hge1 : w.heap.size ≤ g1 := (own1.lt g1 rfl).1
    clear hgrow hown1 hat
    have R1 := h.below hb1
    have hg1 : g < w1.heap.size := Nat.lt_of_lt_of_le hg hb1.size
    have ⟨c0, c1, c2, c3⟩ := R1
    have hS := hSS
    have HS : Hid ([v, o, p].all sumB = true) := hS
    clear hS hc0 kc
    have h6 : (six v o p).length = 6 := rfl
    go_wp2
    go_region_held3 (fun w' => w'.cell? ⟨g, 1, none⟩ = some (.int .i64 v) ∧ w'.cell? ⟨g, 2, none⟩ = some (.int .i64 o) ∧ w'.cell? ⟨g, 3, none⟩ = some (.int .i64 p)) (first | go_keep | (have R2 := R1.below hb2'; exact ⟨R2.c1, R2.c2, R2.c3⟩) | (have R3 := (R1.below hb2').grown hgrow3 (by simp [Value.ownBlock]; omega); exact ⟨R3.c1, R3.c2, R3.c3⟩) | exact True.intro) (first
      | (go_at_call 145; refine (l2Bytes3 _ v o p _ ?_ HS.out).mono ?_; (first | exact lit3_ints w1 v o p _ | exact lit3_ints w1.drew v o p _ | (trace_state; fail)); rintro e w2 ⟨g2, cap2, rfl, hcap2, hg2, hg2', hnews2, hb2⟩; have hb2' : Below w1.heap.size w1 w2 := (by first | exact below_after_of (one_new _).drew hb2 | exact below_after_of (one_new _) hb2); have own2 := own_below own1 hb2'; clear hb2)
      | (refine step_append_lies _ (by rfl) _ _ _ (by rfl) w.heap.size 5 i0 _ 1 1 Try.underlying48 hi hz0 hz1 hz2 rfl (by omega) (.slice (some ⟨g1, 0, none⟩) (2 + l.size) cap1) (2 + l.size) ((headL l).map (Value.int .u8)) (by rfl) own2 ⟨g2, 1, none⟩ 6 (cap2 - 1) ((six v o p).map (Value.int .u8)) (by simp [Act.eval]; omega) (by simp [h6]) hnews2 (ints_oneCell .u8 (six v o p)) (by omega) (by unfold maxLen; omega) (by omega) (by have q1 := hb1.size; have q2 := hb2'.size; simp; omega) w2.heap.size (by simp) ?_; intro g3 cap3 w3 hown3 hgrow3 hat3 hlt3))
    have hb3 : Below w.heap.size w w3 := (below_after_of hb1 hb2').grown hgrow3 (by have q1 := hb1.size; have q2 := hb2'.size; omega) (fun k hk => by simp [Value.ownBlock] at hk; omega)
    clear hgrow3 hat3 own2 own1 hb2' hnews2 R1 c0 c1 c2 c3
    go_wp2
    go_ret
    refine ⟨_, rfl, ?_, hb3⟩
    have e1 : packL l v o p = headL l ++ six v o p := rfl
    have e2 : (packL l v o p).length = 2 + l.size + 6 := by rw [packL_len]; omega
    rw [e2, e1, List.map_append]
    exact hown3)
theorem l3Pack_any (g : Nat) (l : ByteArray) (v o p : Int) (w : World) (h : RecAt w g l v o p) (hR : RecOk l v o p) (hg : g < w.heap.size) :
    Calls Try.prog 146 #[.pointer (some ⟨g, 0, none⟩)] w fun e w' => ∃ v', e = .returned v' ∧ w'.ownsRow w.heap.size 5 1 v' (packL l v o p).length ((packL l v o p).map (Value.int .u8)) ∧ Below w.heap.size w w' := l3Pack_fit g l v o p w h hR.small hR.pos hR.sums hg
/-- Bytes of one's own, with numbers behind them. -/
theorem own_pair2 {w : World} {B : Nat} {e : TypeId} {k : IntKind} {v : Value} {zs : List Int} {b d : Int} (h : w.ownsRow B e 1 v (zs.length + 2) (zs.map (Value.int k) ++ [.int k b, .int k d])) : w.ownsRow B e 1 v (zs ++ [b, d]).length ((zs ++ [b, d]).map (Value.int k)) := by
  rw [List.map_append, List.length_append]; exact h
/-- The numbers that are handed in stay apart from the row that grows. -/
def Stay (w : World) (a : Option Addr) (n c : Nat) (xs : List Int) (u : Value) : Prop := Ints .i64 w (.slice a n c) xs ∧ ∀ b off, a = some ⟨b, off, none⟩ → 0 < n → b < w.heap.size ∧ u.ownBlock ≠ some b
set_option maxRecDepth 100000 in
set_option maxHeartbeats 1000000 in
theorem appendNumbers_gen (B : Nat) (v : Value) (a : Option Addr) (n c : Nat) (zs xs : List Int) (w : World) (HN : Hid (n = xs.length)) (hx : n ≤ 1000) (hzn : Hid (zs.length ≤ 1000)) (hv : Hid (Stay w a n c xs v)) (hs : Hid (xs.all sumB = true))
    (hown : w.ownsRow B 5 1 v zs.length (zs.map (Value.int .u8))) (hB : B ≤ w.heap.size) :
    Calls Try.prog 129 #[v, .slice a n c] w fun e w' => ∃ v', e = .returned v' ∧ w'.ownsRow B 5 1 v' (numsL zs xs).length ((numsL zs xs).map (Value.int .u8)) ∧ Below B w w' := by
  obtain ⟨i0, hi, hz0, hz1, hz2⟩ := info_parts Try.infoB
  go_enter Try.func129, Try.ntmps129
  go_wp2
  go_loopw [0, 9] (fun u i wr => ∃ k : Nat, k ≤ n ∧ i = .int .i64 k ∧ Below B w wr ∧ wr.ownsRow B 5 1 u (numsAt zs xs k).length ((numsAt zs xs k).map (Value.int .u8)) ∧ Hid (Stay wr a n c xs u)) (fun _ i _ => n - (intOf i).toNat)
  case atStart => exact ⟨0, Nat.zero_le _, rfl, Below.refl _ _, by rw [numsAt_zero]; exact hown, hv.out⟩
  case round =>
    obtain ⟨k, hk, rfl, hb, ho, hst⟩ := hrel
    by_cases hkn : k < n
    · have hki : (k : Int) < (n : Int) := by omega
      have hkx : k < xs.length := by have := HN.out; omega
      obtain ⟨-, b, off, rfl, hbl, hc⟩ := hst.out.1.at (by omega)
      have hfar := (hst.out.2 b off rfl (by omega)).2
      have HC : Hid (Ints .i64 wr (.slice (some ⟨b, off, none⟩) n c) xs) := hst.out.1
      have hcj := hc k hkx
      have hxr := all_at hs.out hkx
      have hlen := numsAt_len zs (Nat.le_of_lt hkx)
      have hzl := hzn.out
      have hsc := numsAt_succ zs hkx
      obtain ⟨x, hxx⟩ : ∃ x, x = xs.getD k 0 := ⟨_, rfl⟩
      obtain ⟨ys, hys⟩ : ∃ ys, ys = numsAt zs xs k := ⟨_, rfl⟩
      rw [← hxx] at hcj hxr hsc
      rw [← hys] at ho hlen hsc
      have HS : Hid (numsAt zs xs (k + 1) = ys ++ [x / 256, x % 256]) := hsc
      have hyl : ys.length ≤ 3000 := by omega
      have hw1 := wrapU8' (x / 256) (by omega) (by omega)
      have hw2 := IntKind.wrap_u8 x
      have Hfar : Hid (_ ≠ some b) := hfar
      clear hxx hys hsc hc hown hst hfar hlen hzl
      go_wp2_with (at_builtin; refine wpList_append_lies _ rfl _ _ 48 rfl B 5 i0 (.int .u8 0) 1 1 Try.underlying48 hi hz0 hz1 hz2 rfl (by decide) _ _ _ rfl (ho.alloc _) ⟨wr.heap.size, 0, none⟩ 2 2 [.int .u8 (x / 256), .int .u8 (x % 256)] rfl rfl (World.news_of_block (heap_alloc_new _ _)) (ints_oneCell .u8 [x / 256, x % 256]) (by omega) (by unfold maxLen; omega) (by omega) (by have := hb.size; simp; omega) (wr.heap.size + 1) (by simp) ?_)
      intro g' cap' w2 hown' hgrow hat hlt
      have hb2 : Below B w w2 := (hb.alloc (by have := hb.size; omega) _).grown hgrow (by have := hb.size; simp; omega) (fun k hk => (ho.lt k hk).1)
      have own2 := own_pair2 hown'
      have hst2 : Stay w2 (some ⟨b, off, none⟩) n c xs (.slice (some ⟨g', 0, none⟩) (ys.length + 2) cap') := by
        refine ⟨(HC.out.below (one_new _)).grown hgrow (Or.inr (fun e => Hfar.out e.symm)), fun b1 off1 e1 _ => ?_⟩
        cases e1
        refine ⟨Nat.lt_of_lt_of_le hbl (Nat.le_trans (by simp) hgrow.size), fun e2 => ?_⟩
        have e3 : g' = b := by simpa [Value.ownBlock] using e2
        rcases hat with h | h
        · exact Hfar.out (by rw [h, e3])
        · omega
      have HST : Hid (Stay w2 (some ⟨b, off, none⟩) n c xs (.slice (some ⟨g', 0, none⟩) (ys.length + 2) cap')) := hst2
      clear hgrow hown' ho hst2 hat hlt
      go_wp2
      go_roundw
      case rel => exact ⟨k + 1, by omega, by go_num, hb2, by rw [HS.out]; exact own2, HST.out⟩
      case measure => simp [intOf]; omega
    · have hkn : k = n := by omega
      subst hkn
      obtain ⟨a', c', rfl⟩ := own_shape ho
      go_wp2
      go_ret
      rw [HN.out, numsAt_all] at ho
      rw [HN.out, numsAt_all]
      exact ⟨_, rfl, ho, hb⟩
end U
end Go.Proofs.Ytdchnanihceeeaa

/- PackRecord and RecordSum: what both models answer. -/
namespace Go.Proofs.Ytdchnanihceeeaa
open Go.RowKit
namespace U
theorem code_ne {c : Int} (h : ¬ c = 0) : (c != 0) = true := by simpa using h
theorem own_set2 {w w' : World} {v : Value} {n : Nat} {xs : List Value} (h : w'.ownsRow (w.heap.size + 2) 5 1 v n xs) (x y : Value) : ((w'.setCell ⟨w.heap.size + 1, 0, none⟩ x).setCell ⟨w.heap.size + 1, 1, none⟩ y).ownsRow w.heap.size 5 1 v n xs :=
  own_mono (ownsRow_setCell_below (ownsRow_setCell_below h (by simp) _) (by simp) _) (by omega)
set_option maxRecDepth 100000 in
set_option maxHeartbeats 2000000 in
theorem implPackRecord_any (l : ByteArray) (v o p : Int) (w : World) (hs : l.size ≤ 1048576) :
    Calls Try.prog 88 #[recV l v o p] w fun e w' => BytesAns w (recC l v o p) (pkL l v o p) e w' := by
  obtain ⟨i0, hi, hz0, hz1, hz2⟩ := info_parts Try.infoB
  have R0 := (RecAt.new w l v o p 51).below (one_new (.cells #[.int .i64 0, .slice none 0 0] 139))
  have hF := fun w => implRecordFault_any l v o p w hs
  by_cases h : recC l v o p = 0
  · have hok := recOk h
    have hsm := hok.small
    have hws : IntKind.u8.wrap (l.size : Int) = (l.size : Int) := wrapU8' _ (by omega) (by omega)
    have HS : Hid ([v, o, p].all sumB = true) := hok.sums
    rw [pk_ok h]
    rw [h] at hF ⊢
    have HY : Hid (numsL (headL l) [v, o, p] = packL l v o p) := packL_nums l v o p
    generalize packL l v o p = ys at *
    unfold recV at *
    go_enter Try.func88, Try.ntmps88
    go_wp2_with fail
    refine (hF _).mono ?_
    rintro e w1 ⟨rfl, hb1⟩
    have R1 := R0.below hb1
    have hsz1 : w.heap.size + 2 ≤ w1.heap.size := by have := hb1.size; simp at this; omega
    have two1 := (hb1.block (w.heap.size + 1) (by simp)).trans (heap_new2 w _ _)
    have hB1 : Below w.heap.size w w1 := below_after (below_after hb1)
    clear hb1 R0 hF
    have ⟨c0, c1, c2, c3⟩ := R1
    have d0 := (R1.below (one_new (.cells #[.int .u8 1, .int .u8 (l.size : Int)] 5))).c0
    go_wp2_with (at_builtin; (refine Lib.wpList_append_own_string _ rfl _ _ 48 9 rfl w1.heap.size 5 i0 Try.underlying48 Try.underlying9 hi hz0 hz1 hz2 (.slice (some ⟨w1.heap.size, 0, none⟩) 2 2) 2 [.int .u8 1, .int .u8 (l.size : Int)] (by rfl) (lit_own2 w1 1 l.size) l (by rfl) (by unfold maxLen; omega) (by omega) (by simp) ?_))
    intro v2 w2 own2 hgrow2 _
    have hb2 : Below w1.heap.size w1 w2 := (one_new _).grown hgrow2 (by simp) (fun k hk => by cases hk; exact Nat.le_refl _)
    have R2 := R1.below hb2
    have own2' : w2.ownsRow w1.heap.size 5 1 v2 (headL l).length ((headL l).map (Value.int .u8)) := by rw [headL_len]; simpa [headL, bl, Lib.strCells, Function.comp_def] using own2
    clear own2 hgrow2 c0 c1 c2 c3 d0
    have ⟨c0, c1, c2, c3⟩ := R2
    obtain ⟨a2, k2, rfl⟩ := own_shape own2'
    have hlt2 : ∀ k, (Value.slice a2 (headL l).length k2).ownBlock = some k → k < w2.heap.size := fun k hk => (own2'.lt k hk).2
    have hB2 := below_after_of hB1 hb2
    have two2 := (hb2.block (w.heap.size + 1) (by omega)).trans two1
    have hsz2 := hb2.size
    clear hb2 R1 two1
    go_wp2_with fail
    refine (appendNumbers_gen w1.heap.size _ _ 3 3 (headL l) [v, o, p] _ rfl (by omega) (show (headL l).length ≤ 1000 by rw [headL_len]; omega) ⟨lit3_ints w2 v o p _, fun b off e _ => ?_⟩ HS (own_below own2' (one_new _)) (by simp; omega)).mono ?_
    · cases e
      exact ⟨by simp, fun e2 => absurd (hlt2 _ e2) (Nat.lt_irrefl _)⟩
    rintro e w3 ⟨v3, rfl, ho3, hb3⟩
    rw [HY.out] at ho3
    obtain ⟨a3, k3, rfl⟩ := own_shape ho3
    have two3 := (hb3.block (w.heap.size + 1) (by omega)).trans ((Below.heap_alloc w2 _ (w.heap.size + 1) (by omega)).trans two2)
    have hB3 : Below w.heap.size w w3 := hB2.trans ((one_new _).mono (by omega) |>.trans (hb3.mono (by omega)))
    obtain ⟨hc0, hc1, hf0, hf1⟩ := two_cells two3
    have HO : Hid (w3.ownsRow (w.heap.size + 2) 5 1 (.slice a3 ys.length k3) ys.length (ys.map (Value.int .u8))) := own_mono ho3 (by omega)
    clear ho3 hb3 hB2 two2 two3 R2 own2' hlt2
    go_wp2
    exact bodyPost_ret (v := .agg #[.int .i64 0, .slice a3 ys.length k3]) (by simp [results, Try.results88, go_sem, hc0, hc1]) rfl ⟨(hB3.setCell (Nat.le_succ _) _).setCell (Nat.le_succ _) _, _, rfl, own_set2 HO.out _ _⟩
  · have h1 := code_ne h
    rw [pk_no h]
    generalize recC l v o p = c at *
    clear h
    unfold recV at *
    go_enter Try.func88, Try.ntmps88
    go_wp2_with fail
    refine (hF _).mono ?_
    rintro e w1 ⟨rfl, hb1⟩
    obtain ⟨hc0, hc1, hf0, hf1⟩ := two_cells ((hb1.block (w.heap.size + 1) (by simp)).trans (heap_new2 w _ _))
    have hB1 : Below w.heap.size w w1 := below_after (below_after hb1)
    clear hb1 R0 hF
    go_wp2
    exact bodyPost_ret (v := .agg #[.int .i64 c, .slice none 0 0]) (by simp [results, Try.results88, go_sem, hc0, hc1]) rfl ⟨(hB1.setCell (Nat.le_succ _) _).setCell (Nat.le_succ _) _, _, rfl, World.ownsRow_nil _ _ _ _⟩
end U
end Go.Proofs.Ytdchnanihceeeaa

/- RecordSum: what both models answer. -/
namespace Go.Proofs.Ytdchnanihceeeaa
open Go.RowKit
namespace U
def rsV (l : ByteArray) (v o p : Int) : Int := if recC l v o p = 0 then sumL (packL l v o p) else 0
theorem rs_ok {l : ByteArray} {v o p : Int} (h : recC l v o p = 0) : rsV l v o p = sumL (packL l v o p) := by unfold rsV; rw [if_pos h]
theorem rs_no {l : ByteArray} {v o p : Int} (h : ¬ recC l v o p = 0) : rsV l v o p = 0 := by unfold rsV; rw [if_neg h]
set_option maxRecDepth 100000 in
set_option maxHeartbeats 1000000 in
theorem l3Sum_any (g : Nat) (l : ByteArray) (v o p : Int) (w : World) (h : RecAt w g l v o p) (hR : RecOk l v o p) (hg : g < w.heap.size) :
    Calls Try.prog 122 #[.pointer (some ⟨g, 0, none⟩)] w fun e w' => e = .returned (.int .i64 (sumL (packL l v o p))) ∧ Below w.heap.size w w' := by
  have hbt := packL_bts hR
  have hln : (packL l v o p).length ≤ 1099511627776 := by rw [packL_len]; have := hR.small; omega
  have hP := l3Pack_any g l v o p w h hR hg
  generalize packL l v o p = ys at *
  go_enter Try.func122, Try.ntmps122
  go_wp2_with fail
  refine hP.mono ?_
  rintro e w1 ⟨v', rfl, ho1, hb1⟩
  have hI := own_ints ho1
  obtain ⟨a', c', rfl⟩ := own_shape ho1
  clear ho1 hP
  go_wp2_with fail
  refine (l2Sum_any _ ys _ hI hbt hln).mono ?_
  rintro e w2 ⟨rfl, rfl⟩
  go_wp2
  go_ret
  exact ⟨rfl, hb1⟩
set_option maxRecDepth 100000 in
set_option maxHeartbeats 2000000 in
theorem implRecordSum_any (l : ByteArray) (v o p : Int) (w : World) (hs : l.size ≤ 1048576) :
    Calls Try.prog 39 #[recV l v o p] w fun e w' => IntAns w (recC l v o p) (rsV l v o p) e w' := by
  have hF := fun w => implPackRecord_any l v o p w hs
  by_cases h : recC l v o p = 0
  · have hok := recOk h
    rw [rs_ok h]
    rw [pk_ok h] at hF
    rw [h] at hF ⊢
    have hbt := packL_bts hok
    have hln : (packL l v o p).length ≤ 200 := by rw [packL_len]; have := hok.small; omega
    have hsm := sm_ok (bs := packL l v o p) (by omega)
    have hSO := fun (u : Value) (w : World) hI => implSumOf_any u (packL l v o p) w hI hbt (by omega)
    rw [hsm.1, hsm.2] at hSO
    generalize sumL (packL l v o p) = x at *
    generalize packL l v o p = ys at *
    clear hsm hbt
    unfold recV at *
    go_enter Try.func39, Try.ntmps39
    go_wp2_with fail
    refine (hF _).mono ?_
    intro e w1 h9
    obtain ⟨a, c, rfl, hb1, ho1⟩ := h9.use
    have two1 := (hb1.block (w.heap.size + 1) (by simp)).trans (heap_new2 w _ _)
    have hB1 : Below w.heap.size w w1 := below_after (below_after hb1)
    have hsz1 : w.heap.size + 2 ≤ w1.heap.size := by have := hb1.size; simp at this; omega
    have P1 := Pair.new w1 (.int .i64 0) (.slice a ys.length c) 139
    have hI := (own_ints ho1).below (one_new (.cells #[.int .i64 0, .slice a ys.length c] 139))
    clear hF h9 ho1 hb1
    go_wp2_with fail
    refine (hSO _ _ hI).mono ?_
    rintro e w2 ⟨rfl, hb2⟩
    have hB2 : Below w.heap.size w w2 := below_after_of hB1 (below_after hb2)
    obtain ⟨hc0, hc1, hf0, hf1⟩ := two_cells (((below_after hb2).block (w.heap.size + 1) (by omega)).trans two1)
    clear hb2 hI P1 two1 hSO
    go_wp2
    exact bodyPost_ret (v := .agg #[.int .i64 0, .int .i64 x]) (by simp [results, Try.results39, go_sem, hc0, hc1]) rfl ⟨rfl, (hB2.setCell (Nat.le_succ _) _).setCell (Nat.le_succ _) _⟩
  · have h1 := code_ne h
    rw [rs_no h]
    rw [pk_no h] at hF
    generalize recC l v o p = c at *
    clear h
    unfold recV at *
    go_enter Try.func39, Try.ntmps39
    go_wp2_with fail
    refine (hF _).mono ?_
    intro e w1 h9
    obtain ⟨a, cc, rfl, hb1, ho1⟩ := h9.use
    simp only [List.length_nil]
    have two1 := (hb1.block (w.heap.size + 1) (by simp)).trans (heap_new2 w _ _)
    have hB1 : Below w.heap.size w w1 := below_after (below_after hb1)
    have hsz1 : w.heap.size + 2 ≤ w1.heap.size := by have := hb1.size; simp at this; omega
    have hB2 := below_after_of hB1 (one_new (.cells #[.int .i64 c, .slice a 0 cc] 139))
    obtain ⟨hc0, hc1, hf0, hf1⟩ := two_cells (((one_new (.cells #[.int .i64 c, .slice a 0 cc] 139)).block (w.heap.size + 1) (by omega)).trans two1)
    clear hF h9 ho1 hb1
    go_wp2
    exact bodyPost_ret (v := .agg #[.int .i64 c, .int .i64 0]) (by simp [results, Try.results39, go_sem, hc0, hc1]) rfl ⟨rfl, (hB2.setCell (Nat.le_succ _) _).setCell (Nat.le_succ _) _⟩
end U
end Go.Proofs.Ytdchnanihceeeaa

/- The bytes and the sum of a head, phases that may follow: as both models tell them. -/
namespace Go.Proofs.Ytdchnanihceeeaa
open Go.RowKit
namespace U
theorem lit5_ints (w : World) (x0 x1 x2 x3 x4 : Int) (t : TypeId) : Ints .i64 (w.alloc (.cells #[.int .i64 x0, .int .i64 x1, .int .i64 x2, .int .i64 x3, .int .i64 x4] t)) (.slice (some ⟨w.heap.size, 0, none⟩) 5 5) [x0, x1, x2, x3, x4] := by
  refine Or.inr ⟨w.heap.size, 0, 5, rfl, by simp, fun j hj => ?_⟩
  have hh := heap_alloc_new w (.cells #[.int .i64 x0, .int .i64 x1, .int .i64 x2, .int .i64 x3, .int .i64 x4] t)
  simp only [List.length_cons, List.length_nil] at hj
  rcases (show j = 0 ∨ j = 1 ∨ j = 2 ∨ j = 3 ∨ j = 4 by omega) with rfl | rfl | rfl | rfl | rfl <;> (unfold World.cell?; rw [hh]; rfl)
theorem heap_at2 {w w' : World} {o o' : Obj} (hb : Below ((w.alloc o).alloc o').heap.size ((w.alloc o).alloc o') w') : w'.heap[w.heap.size]? = some o ∧ w'.heap[w.heap.size + 1]? = some o' :=
  ⟨(hb.block w.heap.size (by simp; omega)).trans (heap_alloc_old' _ _ _ (heap_alloc_new w _)), (hb.block (w.heap.size + 1) (by simp)).trans (heap_new2 w _ _)⟩
theorem HdS.of {w : World} {b : Nat} {e p o n v : Int} {t : TypeId} (h : w.heap[b]? = some (.cells #[.int .i64 e, .int .i64 p, .int .i64 o, .int .i64 n, .int .i64 v] t (0, 0))) : HdS w b 0 ⟨e, p, o, n, v⟩ := by
  obtain ⟨h0, h1, h2, h3, h4⟩ := five_cells h
  exact ⟨h0, h1, h2, h3, h4⟩
theorem own_set1 {w w' : World} {v : Value} {n : Nat} {xs : List Value} (h : w'.ownsRow (w.heap.size + 2) 5 1 v n xs) (x y : Value) : ((w'.setCell ⟨w.heap.size + 1, 0, none⟩ x).setCell ⟨w.heap.size + 1, 1, none⟩ y).ownsRow w.heap.size 5 1 v n xs := own_set2 h x y
end U
end Go.Proofs.Ytdchnanihceeeaa

/- Two answers that are one are found the same. -/
namespace Go.Proofs.Ytdchnanihceeeaa
open Go.RowKit
namespace U
end U
end Go.Proofs.Ytdchnanihceeeaa

/- Heads as the laws look at them: copied, compared. -/
namespace Go.Proofs.Ytdchnanihceeeaa
open Go.RowKit
namespace U
set_option maxRecDepth 100000 in
set_option maxHeartbeats 1000000 in
theorem toHead_any (e p o n v : Int) (w : World) :
    Calls Try.prog 100 #[hdV e p o n v] w fun x w' => x = .returned (hdV e p o n v) ∧ Below w.heap.size w w' := by
  unfold hdV
  go_enter Try.func100, Try.ntmps100
  go_wp2
  refine bodyPost_ret (v := hdV e p o n v) (by simp [results, Try.results100, go_sem, hdV]) rfl ⟨rfl, ?_⟩
  exact (two_new _ _).alloc (by simp; omega) _
set_option maxRecDepth 100000 in
set_option maxHeartbeats 1000000 in
theorem eqHead_same (e p o n v : Int) (w : World) :
    Calls Try.prog 103 #[hdV e p o n v, hdV e p o n v] w fun x w' => x = .returned (.bool true) ∧ Below w.heap.size w w' := by
  have h0 := hne_all e
  have h1 := hne_all p
  have h2 := hne_all o
  have h3 := hne_all n
  have h4 := hne_all v
  unfold hdV
  go_enter Try.func103, Try.ntmps103
  go_wp2
  go_ret
  exact ⟨rfl, two_new _ _⟩
end U
end Go.Proofs.Ytdchnanihceeeaa

/- Rows of heads as the laws look at them: measured, copied, compared. -/
namespace Go.Proofs.Ytdchnanihceeeaa
open Go.RowKit
namespace U
theorem Try.infoHd : (Try.prog.info? 94).map (fun i => (i.zero, i.size, i.bytes)) = some (some (.agg #[.int .i64 0, .int .i64 0, .int .i64 0, .int .i64 0, .int .i64 0]), 5, 40) := by kernel_rfl
theorem flH_set (l : Hdl) (r : Hd) : ∀ (k : Nat), k < l.length → flH (l.set k r) = (((((flH l).set (k * 5) (.int .i64 r.e)).set (k * 5 + 1) (.int .i64 r.p)).set (k * 5 + 2) (.int .i64 r.o)).set (k * 5 + 3) (.int .i64 r.n)).set (k * 5 + 4) (.int .i64 r.v) := by
  induction l with
  | nil => intro k h; simp at h
  | cons x t ih =>
    intro k h
    have e : ∀ t : Hdl, ∀ x : Hd, flH (x :: t) = .int .i64 x.e :: .int .i64 x.p :: .int .i64 x.o :: .int .i64 x.n :: .int .i64 x.v :: flH t := fun t x => rfl
    cases k with
    | zero => simp [e]
    | succ k =>
      have h1 := ih k (by simpa using h)
      rw [List.set_cons_succ, e, e, h1, show (k + 1) * 5 = k * 5 + 1 + 1 + 1 + 1 + 1 by omega]
      simp
/-- The first heads, nothing behind them. -/
def hset (l : Hdl) (k : Nat) : Hdl := l.take k ++ List.replicate (l.length - k) hdZ
theorem hset_len (l : Hdl) {k : Nat} (h : k ≤ l.length) : (hset l k).length = l.length := by unfold hset; rw [List.length_append, List.length_take, List.length_replicate]; omega
theorem hset_all (l : Hdl) : hset l l.length = l := by unfold hset; simp
theorem hset_at (l : Hdl) {k : Nat} (h : k ≤ l.length) (i : Nat) : (hset l k)[i]? = if i < k then l[i]? else if i < l.length then some hdZ else none := by
  unfold hset
  rw [List.getElem?_append, List.length_take, List.getElem?_take, List.getElem?_replicate]
  by_cases h1 : i < k
  · rw [if_pos (by omega), if_pos h1]
    simp [h1]
  · rw [if_neg (by omega), if_neg h1]
    by_cases h2 : i < l.length
    · rw [if_pos h2, if_pos (by omega)]
    · rw [if_neg h2, if_neg (by omega)]
theorem hset_set (l : Hdl) {k : Nat} (h : k < l.length) : (hset l k).set k (hAt l k) = hset l (k + 1) := by
  apply List.ext_getElem?
  intro i
  rw [List.getElem?_set, hset_at l (by omega), hset_at l (by omega), hset_len l (by omega)]
  by_cases e : k = i
  · subst e
    rw [if_pos rfl, if_pos h, if_pos (by omega), hAt_eq h, List.getElem?_eq_getElem h]
  · rw [if_neg e]
    by_cases h1 : i < k
    · rw [if_pos h1, if_pos (by omega)]
    · have h2 : ¬ i < k + 1 := by omega
      rw [if_neg h1, if_neg h2]
theorem made_five (n : Nat) : (madeCells #[Value.int .i64 0, Value.int .i64 0, Value.int .i64 0, Value.int .i64 0, Value.int .i64 0] (n * 5)).toList = flH (List.replicate n hdZ) := by
  apply List.ext_getElem?
  intro i
  by_cases hi : i < n * 5
  · have h4 := flH_at (List.replicate n hdZ) (i / 5) (by rw [List.length_replicate]; omega)
    have hz : hAt (List.replicate n hdZ) (i / 5) = hdZ := by rw [hAt_eq (by rw [List.length_replicate]; omega), List.getElem_replicate]
    rw [hz] at h4
    have hm : (madeCells #[Value.int .i64 0, Value.int .i64 0, Value.int .i64 0, Value.int .i64 0, Value.int .i64 0] (n * 5)).toList[i]? = some (#[Value.int .i64 0, Value.int .i64 0, Value.int .i64 0, Value.int .i64 0, Value.int .i64 0][i % 5]!) := by
      simp only [madeCells, Array.toList_map, List.getElem?_map]
      rw [show (Array.range (n * 5)).toList[i]? = some i by simp [hi]]
      rfl
    rw [hm]
    have hd : i = i / 5 * 5 + i % 5 := by omega
    rcases (by omega : i % 5 = 0 ∨ i % 5 = 1 ∨ i % 5 = 2 ∨ i % 5 = 3 ∨ i % 5 = 4) with h | h | h | h | h
    · rw [h, Nat.add_zero] at hd
      rw [h, hd, h4.1]
      rfl
    · rw [h] at hd
      rw [h, hd, h4.2.1]
      rfl
    · rw [h] at hd
      rw [h, hd, h4.2.2.1]
      rfl
    · rw [h] at hd
      rw [h, hd, h4.2.2.2.1]
      rfl
    · rw [h] at hd
      rw [h, hd, h4.2.2.2.2]
      rfl
  · rw [List.getElem?_eq_none (by simp [madeCells]; omega), List.getElem?_eq_none (by rw [flH_len, List.length_replicate]; omega)]
theorem made_hds {w1 w : World} {n : Nat} {l : Hdl} (HN : n = l.length) (h : w1.ownsRow w.heap.size 94 5 (.slice (some ⟨w.heap.size, 0, none⟩) n n) n (madeCells #[Value.int .i64 0, Value.int .i64 0, Value.int .i64 0, Value.int .i64 0, Value.int .i64 0] (n * 5)).toList) :
    w1.ownsRow w.heap.size 94 5 (.slice (some ⟨w.heap.size, 0, none⟩) n n) n (flH (hset l 0)) := by
  have e : hset l 0 = List.replicate n hdZ := by unfold hset; simp [HN]
  rw [e, ← made_five]
  exact h
theorem own_some5 {w : World} {B g n cap : Nat} {e : TypeId} {xs : List Value} (h : w.ownsRow B e 5 (.slice (some ⟨g, 0, none⟩) n cap) n xs) {j : Nat} (hj : j < n * 5) : ∃ x, w.cell? ⟨g, j, none⟩ = some x :=
  ⟨_, (h.cellAt j (by omega)).trans (List.getElem?_eq_getElem (by rw [h.1]; omega))⟩
set_option maxRecDepth 100000 in
set_option maxHeartbeats 4000000 in
theorem toHeadS_core (b off c n : Nat) (l : Hdl) (w : World) (HN : Hid (n = l.length)) (hx : n ≤ 1048576) (hb : b < w.heap.size) (hc : ∀ j, j < n → HdS w b (off + j * 5) (hAt l j)) :
    Calls Try.prog 51 #[.slice (some ⟨b, off, none⟩) n c] w fun e w' => e = .returned (.slice (some ⟨w.heap.size, 0, none⟩) n n) ∧ Below w.heap.size w w' ∧ w'.ownsRow w.heap.size 94 5 (.slice (some ⟨w.heap.size, 0, none⟩) n n) n (flH l) := by
  obtain ⟨i0, hi, hz0, hz1, hz2⟩ := info_parts Try.infoHd
  go_enter Try.func51, Try.ntmps51
  go_wp2_with (at_make; refine wpList_make_full _ rfl _ _ 26 rfl w.heap.size 94 i0 (.agg #[.int .i64 0, .int .i64 0, .int .i64 0, .int .i64 0, .int .i64 0]) 5 Try.underlying26 hi hz0 hz1 _ _ _ _ n rfl rfl rfl rfl (by rw [hz2]; omega) (by unfold maxLen; omega) (Nat.le_refl _) ?_)
  intro w1 hown1 hg1
  have own1 := made_hds HN.out hown1
  have hB1 : Below w.heap.size w w1 := (Below.refl _ _).grown hg1 (Nat.le_refl _) (fun k hk => by cases hk)
  clear hown1 hg1
  go_wp2
  go_loopw [4] (fun i wr => ∃ k : Nat, k ≤ n ∧ i = .int .i64 k ∧ Below w.heap.size w wr ∧ w.heap.size < wr.heap.size ∧ wr.ownsRow w.heap.size 94 5 (.slice (some ⟨w.heap.size, 0, none⟩) n n) n (flH (hset l k))) (fun i _ => n - (intOf i).toNat)
  case atStart => exact ⟨0, Nat.zero_le _, rfl, hB1, (own1.lt _ rfl).2, own1⟩
  case round =>
    obtain ⟨k, hk, rfl, hB, hsz, ho⟩ := hrel
    by_cases hkn : k < n
    · have hki : (k : Int) < (n : Int) := by omega
      obtain ⟨d0, d1, d2, d3, d4⟩ := (hc k hkn).below hB hb
      have hbr : b < wr.heap.size := Nat.lt_of_lt_of_le hb hB.size
      have hlk : k < l.length := by have := HN.out; omega
      have hts : (((((flH (hset l k)).set (k * 5) (.int .i64 (hAt l k).e)).set (k * 5 + 1) (.int .i64 (hAt l k).p)).set (k * 5 + 2) (.int .i64 (hAt l k).o)).set (k * 5 + 3) (.int .i64 (hAt l k).n)).set (k * 5 + 4) (.int .i64 (hAt l k).v) = flH (hset l (k + 1)) := by
        rw [← flH_set _ _ k (by rw [hset_len l (by omega)]; exact hlk), hset_set l hlk]
      have hT := fun w => toHead_any (hAt l k).e (hAt l k).p (hAt l k).o (hAt l k).n (hAt l k).v w
      unfold hdV at hT
      generalize (hAt l k).e = x0 at *
      generalize (hAt l k).p = x1 at *
      generalize (hAt l k).o = x2 at *
      generalize (hAt l k).n = x3 at *
      generalize (hAt l k).v = x4 at *
      have HT : Hid ((((((flH (hset l k)).set (k * 5) (.int .i64 x0)).set (k * 5 + 1) (.int .i64 x1)).set (k * 5 + 2) (.int .i64 x2)).set (k * 5 + 3) (.int .i64 x3)).set (k * 5 + 4) (.int .i64 x4) = flH (hset l (k + 1))) := hts
      have HB : Hid (Below w.heap.size w wr) := hB
      have HO : Hid (wr.ownsRow w.heap.size 94 5 (.slice (some ⟨w.heap.size, 0, none⟩) n n) n (flH (hset l k))) := ho
      clear hc hts own1 hB1 ho hB
      go_wp2_with fail
      refine (hT _).mono ?_
      rintro e w2 ⟨rfl, hb2⟩
      have ho2 := own_below HO.out hb2
      have f0 := ho2.frozenAt (k * 5)
      have f1 := ho2.frozenAt (k * 5 + 1)
      have f2 := ho2.frozenAt (k * 5 + 2)
      have f3 := ho2.frozenAt (k * 5 + 3)
      have f4 := ho2.frozenAt (k * 5 + 4)
      obtain ⟨z0, g0⟩ := own_some5 ho2 (j := k * 5) (by omega)
      obtain ⟨z1, g1⟩ := own_some5 ho2 (j := k * 5 + 1) (by omega)
      obtain ⟨z2, g2⟩ := own_some5 ho2 (j := k * 5 + 2) (by omega)
      obtain ⟨z3, g3⟩ := own_some5 ho2 (j := k * 5 + 3) (by omega)
      obtain ⟨z4, g4⟩ := own_some5 ho2 (j := k * 5 + 4) (by omega)
      have s1 := (ho2.stored (k * 5) (.int .i64 x0)).1
      have s2 := (s1.stored (k * 5 + 1) (.int .i64 x1)).1
      have s3 := (s2.stored (k * 5 + 2) (.int .i64 x2)).1
      have s4 := (s3.stored (k * 5 + 3) (.int .i64 x3)).1
      have s5 := (s4.stored (k * 5 + 4) (.int .i64 x4)).1
      rw [HT.out] at s5
      have hsz2 : w.heap.size < w2.heap.size := by have := hb2.size; omega
      have HB2 : Hid (Below w.heap.size w (((((w2.setCell ⟨w.heap.size, k * 5, none⟩ (.int .i64 x0)).setCell ⟨w.heap.size, k * 5 + 1, none⟩ (.int .i64 x1)).setCell ⟨w.heap.size, k * 5 + 2, none⟩ (.int .i64 x2)).setCell ⟨w.heap.size, k * 5 + 3, none⟩ (.int .i64 x3)).setCell ⟨w.heap.size, k * 5 + 4, none⟩ (.int .i64 x4))) := (((((below_after_of HB.out hb2).setCell (Nat.le_refl _) _).setCell (Nat.le_refl _) _).setCell (Nat.le_refl _) _).setCell (Nat.le_refl _) _).setCell (Nat.le_refl _) _
      have HS2 : Hid ((((((w2.setCell ⟨w.heap.size, k * 5, none⟩ (.int .i64 x0)).setCell ⟨w.heap.size, k * 5 + 1, none⟩ (.int .i64 x1)).setCell ⟨w.heap.size, k * 5 + 2, none⟩ (.int .i64 x2)).setCell ⟨w.heap.size, k * 5 + 3, none⟩ (.int .i64 x3)).setCell ⟨w.heap.size, k * 5 + 4, none⟩ (.int .i64 x4)).ownsRow w.heap.size 94 5 (.slice (some ⟨w.heap.size, 0, none⟩) n n) n (flH (hset l (k + 1)))) := s5
      clear ho2 s1 s2 s3 s4 s5 hb2 hT
      go_wp2
      go_roundw
      case rel => exact ⟨k + 1, by omega, by go_num, HB2.out, by simp; omega, HS2.out⟩
      case measure => simp [intOf]; omega
    · have hkn : k = n := by omega
      subst hkn
      have e1 : hset l k = l := by rw [HN.out]; exact hset_all _
      rw [e1] at ho
      go_wp2
      go_ret
      exact ⟨rfl, hB, ho⟩
set_option maxRecDepth 100000 in
set_option maxHeartbeats 1000000 in
theorem toHeadS_any (v : Value) (l : Hdl) (w : World) (hv : Hds w v l) (hx : l.length ≤ 1048576) :
    Calls Try.prog 51 #[v] w fun e w' => ∃ a c, e = .returned (.slice a l.length c) ∧ Below w.heap.size w w' ∧ w'.ownsRow w.heap.size 94 5 (.slice a l.length c) l.length (flH l) := by
  obtain ⟨a, c, rfl⟩ := hv.shape
  by_cases h0 : 0 < l.length
  · obtain ⟨_, b, off, rfl, hb, hc⟩ := hv.at h0
    refine (toHeadS_core b off c l.length l w rfl hx hb hc).mono ?_
    rintro e w' ⟨rfl, hB, ho⟩
    exact ⟨_, _, rfl, hB, ho⟩
  · have e1 : l = [] := List.eq_nil_of_length_eq_zero (by omega)
    subst e1
    obtain ⟨i0, hi, hz0, hz1, hz2⟩ := info_parts Try.infoHd
    simp only [List.length_nil] at *
    clear hv h0
    go_enter Try.func51, Try.ntmps51
    go_wp2_with (at_make; refine wpList_make_full _ rfl _ _ 26 rfl w.heap.size 94 i0 (.agg #[.int .i64 0, .int .i64 0, .int .i64 0, .int .i64 0, .int .i64 0]) 5 Try.underlying26 hi hz0 hz1 _ _ _ _ 0 rfl rfl rfl rfl (by rw [hz2]; omega) (by unfold maxLen; omega) (Nat.le_refl _) ?_)
    intro w1 hown1 hg1
    have hB1 : Below w.heap.size w w1 := (Below.refl _ _).grown hg1 (Nat.le_refl _) (fun k hk => by cases hk)
    have own1 := made_hds (l := []) rfl hown1
    clear hown1 hg1
    go_wp2
    refine wp_loop_rounds 1 ?_; rw [rounds_succ]
    go_wp2
    go_ret
    exact ⟨_, _, rfl, hB1, own1⟩
set_option maxRecDepth 100000 in
set_option maxHeartbeats 4000000 in
theorem eqHeadS_core (b off c b' off' c' n : Nat) (l : Hdl) (w : World) (hx : n ≤ 1048576) (hb : b < w.heap.size) (hb' : b' < w.heap.size) (hc : ∀ j, j < n → HdS w b (off + j * 5) (hAt l j)) (hc' : ∀ j, j < n → HdS w b' (off' + j * 5) (hAt l j)) :
    Calls Try.prog 58 #[.slice (some ⟨b, off, none⟩) n c, .slice (some ⟨b', off', none⟩) n c'] w fun e w' => e = .returned (.bool true) ∧ Below w.heap.size w w' := by
  have hnn := hne_all
  go_enter Try.func58, Try.ntmps58
  go_wp2
  go_loopw [5] (fun i wr => ∃ k : Nat, k ≤ n ∧ i = .int .i64 k ∧ Hid (Below w.heap.size w wr)) (fun i _ => n - (intOf i).toNat)
  case atStart => exact ⟨0, Nat.zero_le _, rfl, Below.refl _ _⟩
  case round =>
    obtain ⟨k, hk, rfl, hB⟩ := hrel
    by_cases hkn : k < n
    · have hki : (k : Int) < (n : Int) := by omega
      obtain ⟨d0, d1, d2, d3, d4⟩ := (hc k hkn).below hB.out hb
      obtain ⟨d0', d1', d2', d3', d4'⟩ := (hc' k hkn).below hB.out hb'
      have hE := fun w => eqHead_same (hAt l k).e (hAt l k).p (hAt l k).o (hAt l k).n (hAt l k).v w
      unfold hdV at hE
      generalize (hAt l k).e = x0 at *
      generalize (hAt l k).p = x1 at *
      generalize (hAt l k).o = x2 at *
      generalize (hAt l k).n = x3 at *
      generalize (hAt l k).v = x4 at *
      have q0 := After.cell d0
      have q1 := After.cell d1
      have q2 := After.cell d2
      have q3 := After.cell d3
      have q4 := After.cell d4
      have p0 := After.cell d0'
      have p1 := After.cell d1'
      have p2 := After.cell d2'
      have p3 := After.cell d3'
      have p4 := After.cell d4'
      have hne := After.ne wr
      clear hc hc' d0 d1 d2 d3 d4 d0' d1' d2' d3' d4'
      go_wp2_with fail
      refine wp_region_after (by kernel_rfl) (by kernel_rfl) ?_
      repeat (first | go_big_quiet_skip | (go_big_quiet_want; go_big_quiet_op; first | go_big_quiet_on | go_big_quiet_call (first | (go_at_call 103; refine (hE _).mono ?_; rintro e wq ⟨rfl, hbq⟩; exact ⟨rfl, after_mk (below_after_of (After.b _) hbq)⟩))))
      refine wpQuiet_nil ?_
      rintro _ ⟨n6, rfl⟩
      have HB6 : Hid (Below w.heap.size w n6.w) := below_after_of hB.out n6.b
      generalize n6.w = w6 at *
      clear hne q0 q1 q2 q3 q4 p0 p1 p2 p3 p4 n6 hE
      go_wp2
      go_roundw
      case rel => exact ⟨k + 1, by omega, by go_num, HB6⟩
      case measure => simp [intOf]; omega
    · have hkn : k = n := by omega
      subst hkn
      clear hc hc'
      go_wp2
      go_ret
      exact ⟨rfl, hB.out⟩
set_option maxRecDepth 100000 in
set_option maxHeartbeats 1000000 in
theorem eqHeadS_same (v u : Value) (l : Hdl) (w : World) (hv : Hds w v l) (hu : Hds w u l) (hx : l.length ≤ 1048576) :
    Calls Try.prog 58 #[v, u] w fun e w' => e = .returned (.bool true) ∧ Below w.heap.size w w' := by
  obtain ⟨a, c, rfl⟩ := hv.shape
  obtain ⟨a', c', rfl⟩ := hu.shape
  by_cases h0 : 0 < l.length
  · obtain ⟨_, b, off, rfl, hb, hc⟩ := hv.at h0
    obtain ⟨_, b', off', rfl, hb', hc'⟩ := hu.at h0
    exact eqHeadS_core b off c b' off' c' l.length l w hx hb hb' hc hc'
  · have e1 : l = [] := List.eq_nil_of_length_eq_zero (by omega)
    subst e1
    simp only [List.length_nil] at *
    clear hv hu h0
    go_enter Try.func58, Try.ntmps58
    go_wp2
    refine wp_loop_rounds 1 ?_; rw [rounds_succ]
    go_wp2
    go_ret
    exact ⟨rfl, Below.refl _ _⟩
set_option maxRecDepth 100000 in
set_option maxHeartbeats 1000000 in
theorem szHeadS_any (a : Option Addr) (n c : Nat) (w : World) (hn : n ≤ maxLen) :
    Calls Try.prog 45 #[.slice a n c, .int .i64 1048576] w fun e w' => e = .returned (.int .i64 (if n ≤ 1048576 then (1048576 - n : Int) else -1)) ∧ w' = w := by
  unfold maxLen at hn
  by_cases h1 : n ≤ 1048576
  · rw [if_pos h1]
    go_enter Try.func45, Try.ntmps45
    go_wp2
    go_ret
    exact ⟨rfl, rfl⟩
  · rw [if_neg h1]
    go_enter Try.func45, Try.ntmps45
    go_wp2
    go_ret
    exact ⟨rfl, rfl⟩
end U
end Go.Proofs.Ytdchnanihceeeaa

/- States as the laws look at them: sizes. -/
namespace Go.Proofs.Ytdchnanihceeeaa
open Go.RowKit
namespace U
set_option maxRecDepth 100000 in
set_option maxHeartbeats 1000000 in
theorem szSlotS_z (a : Option Addr) (n c : Nat) (z : Int) (w : World) (hn : n ≤ maxLen) (hz : 0 ≤ z ∧ z ≤ 1048576) :
    Calls Try.prog 44 #[.slice a n c, .int .i64 z] w fun e w' => e = .returned (.int .i64 (if z - n < 0 then -1 else z - n)) ∧ Below w.heap.size w w' := by
  unfold maxLen at hn
  by_cases h : z - n < 0
  · rw [if_pos h]
    go_enter Try.func44, Try.ntmps44
    go_wp2
    go_ret
    exact ⟨rfl, Below.refl _ _⟩
  · rw [if_neg h]
    go_enter Try.func44, Try.ntmps44
    go_wp2
    go_ret
    exact ⟨rfl, Below.refl _ _⟩
set_option maxRecDepth 100000 in
set_option maxHeartbeats 1000000 in
theorem szHeadS_z (a : Option Addr) (n c : Nat) (z : Int) (w : World) (hn : n ≤ maxLen) (hz : 0 ≤ z ∧ z ≤ 1048576) :
    Calls Try.prog 45 #[.slice a n c, .int .i64 z] w fun e w' => e = .returned (.int .i64 (if z - n < 0 then -1 else z - n)) ∧ Below w.heap.size w w' := by
  unfold maxLen at hn
  by_cases h : z - n < 0
  · rw [if_pos h]
    go_enter Try.func45, Try.ntmps45
    go_wp2
    go_ret
    exact ⟨rfl, Below.refl _ _⟩
  · rw [if_neg h]
    go_enter Try.func45, Try.ntmps45
    go_wp2
    go_ret
    exact ⟨rfl, Below.refl _ _⟩
/-- What is left of a size behind some directories; all small if anything is. -/
def szD (p : Pst) (z : Int) : Nat → Int
  | 0 => z - p.length
  | k + 1 => if szD p z k < 0 then -1 else szR (dAt p k) (szD p z k)
theorem szR_neg {l : Rcl} {z : Int} (h : szR l z < 0) : szR l z = -1 := by
  unfold szR at h ⊢
  by_cases h1 : szT l z l.length < 0 <;> simp [h1] at h ⊢
theorem szR_le {l : Rcl} {z : Int} (h0 : 0 ≤ z) : szR l z ≤ z := by
  unfold szR
  split
  · omega
  · exact szT_le
theorem szD_neg {p : Pst} {z : Int} {k : Nat} (h : szD p z k < 0) : ∀ d, szD p z (k + d) < 0
  | 0 => h
  | d + 1 => by
    have := szD_neg h d
    show (if szD p z (k + d) < 0 then -1 else szR (dAt p (k + d)) (szD p z (k + d))) < 0
    rw [if_pos this]
    omega
theorem szD_le {p : Pst} {z : Int} (hz : 0 ≤ z) : ∀ k, szD p z k ≤ z
  | 0 => by show z - p.length ≤ z; omega
  | k + 1 => by
    have := szD_le (p := p) hz k
    show (if szD p z k < 0 then -1 else szR (dAt p k) (szD p z k)) ≤ z
    split
    · omega
    · have := szR_le (l := dAt p k) (z := szD p z k) (by omega)
      omega
def szP (p : Pst) (z : Int) : Int := if szD p z p.length < 0 then -1 else szD p z p.length
theorem szR_cut {l : Rcl} {z : Int} (hz : z ≤ 1048576) (h : ¬ szR l z < 0) : szR l z ≤ z - l.length := by
  have h1 := (szR_ok hz h).2.2.2
  have h2 := szT_mono l z 0 l.length
  rw [Nat.zero_add] at h2
  have h3 : szT l z 0 = z - l.length := rfl
  omega
theorem szD_tot {p : Pst} {z : Int} (hz : z ≤ 1048576) (h0 : 0 ≤ z) : ∀ k, ¬ szD p z k < 0 → szD p z k ≤ z - tot p k
  | 0, _ => by
    show z - p.length ≤ z - ((0 : Nat) : Int)
    omega
  | k + 1, h => by
    have e : szD p z (k + 1) = if szD p z k < 0 then -1 else szR (dAt p k) (szD p z k) := rfl
    by_cases h1 : szD p z k < 0
    · rw [e, if_pos h1] at h; omega
    · have h2 := szD_tot hz h0 k h1
      rw [e, if_neg h1] at h ⊢
      have h3 := szD_le (p := p) h0 k
      have h4 := szR_cut (by omega) h
      have e2 : tot p (k + 1) = tot p k + (dAt p k).length := rfl
      rw [e2]
      omega
theorem szP_ok {p : Pst} {z : Int} (hz : z ≤ 1048576) (h0 : 0 ≤ z) (h : ¬ szP p z < 0) : p.length ≤ 1048576 ∧ (∀ j, j < p.length → (dAt p j).length ≤ 1048576 ∧ Lbs (dAt p j)) ∧ ∀ j, j ≤ p.length → tot p j ≤ 1048576 := by
  unfold szP at h
  by_cases h1 : szD p z p.length < 0
  · rw [if_pos h1] at h; omega
  · have hk : ∀ k, k ≤ p.length → ¬ szD p z k < 0 := fun k hk hn => by
      have := szD_neg hn (p.length - k)
      rw [show k + (p.length - k) = p.length by omega] at this
      exact h1 this
    refine ⟨?_, fun j hj => ?_, fun j hj => ?_⟩
    · have h2 := hk 0 (Nat.zero_le _)
      have e : szD p z 0 = z - p.length := rfl
      rw [e] at h2
      omega
    · have h2 := hk (j + 1) hj
      have h3 := hk j (by omega)
      have e : szD p z (j + 1) = if szD p z j < 0 then -1 else szR (dAt p j) (szD p z j) := rfl
      rw [e, if_neg h3] at h2
      have := szD_le (p := p) h0 j
      have := szR_ok (l := dAt p j) (z := szD p z j) (by omega) h2
      exact ⟨this.1, this.2.1⟩
    · have := szD_tot hz h0 j (hk j hj)
      have := hk j hj
      omega
set_option maxRecDepth 100000 in
set_option maxHeartbeats 2000000 in
theorem szDirectoryS_core (b off c n : Nat) (p : Pst) (z : Int) (w : World) (HN : Hid (n = p.length)) (hn : n ≤ 1048576) (hz : 0 ≤ z ∧ z ≤ 1048576) (hnz : ¬ z - n < 0) (hb : b < w.heap.size) (hM : ∀ j, j < n → (dAt p j).length ≤ maxLen ∧ LbM (dAt p j)) (hc : ∀ j, j < n → ∃ u, w.cell? ⟨b, off + j, none⟩ = some u ∧ Rcs w u (dAt p j)) :
    Calls Try.prog 46 #[.slice (some ⟨b, off, none⟩) n c, .int .i64 z] w fun e w' => e = .returned (.int .i64 (szP p z)) ∧ Below w.heap.size w w' := by
  have e0 : szD p z 0 = z - n := by rw [HN.out]; rfl
  have HZ : Hid (szP p z = if szD p z n < 0 then -1 else szD p z n) := (by rw [HN.out]; rfl : szP p z = if szD p z n < 0 then -1 else szD p z n)
  have HM : Hid (∀ k d, szD p z k < 0 → szD p z (k + d) < 0) := fun k d h => szD_neg h d
  have HL : Hid (∀ k, szD p z k ≤ z) := fun k => szD_le hz.1 k
  generalize szP p z = q at *
  go_enter Try.func46, Try.ntmps46
  go_wp2
  go_loopw [1, 5] (fun u i wr => ∃ k : Nat, k ≤ n ∧ i = .int .i64 k ∧ u = .int .i64 (szD p z k) ∧ 0 ≤ szD p z k ∧ Hid (Below w.heap.size w wr)) (fun _ i _ => n - (intOf i).toNat)
  case atStart => exact ⟨0, Nat.zero_le _, rfl, by rw [e0], by omega, Below.refl _ _⟩
  case round =>
    obtain ⟨k, hk, rfl, rfl, h0, hB⟩ := hrel
    by_cases hkn : k < n
    · have hki : (k : Int) < (n : Int) := by omega
      obtain ⟨u, hu, hr⟩ := hc k hkn
      have d0 := (hB.out.cell (p := ⟨b, off + k, none⟩) hb).trans hu
      have hbr : b < wr.heap.size := Nat.lt_of_lt_of_le hb hB.out.size
      have hS := szDirectory_any u (dAt p k) (szD p z k) wr (hr.below hB.out) (hM k hkn).2 (hM k hkn).1 ⟨h0, by have := HL.out k; omega⟩
      have HX : Hid (szD p z (k + 1) = szR (dAt p k) (szD p z k)) := (by show (if szD p z k < 0 then -1 else szR (dAt p k) (szD p z k)) = _; rw [if_neg (by omega)] : szD p z (k + 1) = szR (dAt p k) (szD p z k))
      have HQ : Hid (szR (dAt p k) (szD p z k) < 0 → q = -1) := (fun h => by
        have := HM.out (k + 1) (n - (k + 1)) (by rw [HX.out]; exact h)
        rw [show k + 1 + (n - (k + 1)) = n by omega] at this
        rw [HZ.out, if_pos this] : szR (dAt p k) (szD p z k) < 0 → q = -1)
      have HNE : Hid (szR (dAt p k) (szD p z k) < 0 → szR (dAt p k) (szD p z k) = -1) := szR_neg
      obtain ⟨a, c', rfl⟩ := hr.shape
      generalize (dAt p k).length = m at *
      generalize szR (dAt p k) (szD p z k) = s1 at *
      have HS1 : Hid (szD p z (k + 1) = s1) := HX
      generalize szD p z k = s0 at *
      clear hc hM HX hr hu
      by_cases hlt : s1 < 0
      · have HQ2 : Hid (q = -1) := HQ.out hlt
        clear HQ
        go_wp2_with fail
        refine hS.mono ?_
        rintro e w1 ⟨rfl, hb1⟩
        have HB1 : Hid (Below w.heap.size w w1) := below_after_of hB.out hb1
        clear hS hb1
        go_wp2
        go_ret
        exact ⟨ret_int HQ2.out.symm, HB1.out⟩
      · clear HQ
        go_wp2_with fail
        refine hS.mono ?_
        rintro e w1 ⟨rfl, hb1⟩
        have HB1 : Hid (Below w.heap.size w w1) := below_after_of hB.out hb1
        clear hS hb1
        go_wp2
        go_roundw
        case rel => exact ⟨k + 1, by omega, by go_num, by rw [HS1.out], by rw [HS1.out]; omega, HB1⟩
        case measure => simp [intOf]; omega
    · have hkn : k = n := by omega
      subst hkn
      have HQ2 : Hid (q = szD p z k) := (by rw [HZ.out, if_neg (by omega)] : q = szD p z k)
      generalize szD p z k = s0 at *
      clear hc
      go_wp2
      go_ret
      exact ⟨ret_int HQ2.out.symm, hB.out⟩
set_option maxRecDepth 100000 in
set_option maxHeartbeats 1000000 in
theorem szDirectoryS_any (v : Value) (p : Pst) (z : Int) (w : World) (hv : Dss w v p) (hM : ∀ j, j < p.length → (dAt p j).length ≤ maxLen ∧ LbM (dAt p j)) (hx : p.length ≤ maxLen) (hz : 0 ≤ z ∧ z ≤ 1048576) :
    Calls Try.prog 46 #[v, .int .i64 z] w fun e w' => e = .returned (.int .i64 (szP p z)) ∧ Below w.heap.size w w' := by
  obtain ⟨a, c, rfl⟩ := hv.shape
  by_cases h : z - p.length < 0
  · have HQ : szP p z = -1 := by
      have h2 := szD_neg (p := p) (z := z) (k := 0) h p.length
      rw [Nat.zero_add] at h2
      unfold szP
      rw [if_pos h2]
    rw [HQ]
    generalize p.length = n at *
    unfold maxLen at hx
    clear hv HQ hM
    go_enter Try.func46, Try.ntmps46
    go_wp2
    go_ret
    exact ⟨rfl, Below.refl _ _⟩
  · by_cases h0 : 0 < p.length
    · obtain ⟨_, b, off, rfl, hb, hc⟩ := hv.at h0
      exact szDirectoryS_core b off c p.length p z w rfl (by omega) hz h hb hM hc
    · have e1 : p = [] := List.eq_nil_of_length_eq_zero (by omega)
      subst e1
      have e2 : szP [] z = z := by
        have e3 : szD [] z 0 = z := by show z - 0 = z; omega
        show (if szD [] z 0 < 0 then -1 else szD [] z 0) = z
        rw [e3, if_neg (by omega)]
      rw [e2]
      simp only [List.length_nil]
      have hzn : ¬ z < 0 := by omega
      clear hv h0 hx h e2 hM
      go_enter Try.func46, Try.ntmps46
      go_wp2
      refine wp_loop_rounds 1 ?_; rw [rounds_succ]
      go_wp2
      go_ret
      exact ⟨rfl, Below.refl _ _⟩
/-- What is left of a size behind a state. -/
def szN (n : Nat) (z : Int) : Int := if z - n < 0 then -1 else z - n
def szS (s : St) (z : Int) : Int :=
  if szR s.d z < 0 then -1 else if szN s.n.length (szR s.d z) < 0 then -1 else if szN s.h.length (szN s.n.length (szR s.d z)) < 0 then -1 else szP s.p (szN s.h.length (szN s.n.length (szR s.d z)))
theorem szN_ok {n : Nat} {z : Int} (hz : z ≤ 1048576) (h : ¬ szN n z < 0) : n ≤ 1048576 ∧ 0 ≤ szN n z ∧ szN n z ≤ z := by
  unfold szN at h ⊢
  by_cases h1 : z - n < 0
  · rw [if_pos h1] at h; omega
  · rw [if_neg h1]; omega
theorem szP_le {p : Pst} {z : Int} (h0 : 0 ≤ z) : szP p z ≤ z := by
  unfold szP
  split
  · omega
  · exact szD_le h0 _
theorem szS_ok {s : St} {z : Int} (h0 : 0 ≤ z) (hz : z ≤ 1048576) (h : ¬ szS s z < 0) : StB s ∧ 0 ≤ szS s z ∧ szS s z ≤ z := by
  unfold szS at h ⊢
  by_cases h1 : szR s.d z < 0
  · rw [if_pos h1] at h; omega
  · rw [if_neg h1] at h ⊢
    have k1 := szR_ok hz h1
    by_cases h2 : szN s.n.length (szR s.d z) < 0
    · rw [if_pos h2] at h; omega
    · rw [if_neg h2] at h ⊢
      have k2 := szN_ok (by omega) h2
      by_cases h3 : szN s.h.length (szN s.n.length (szR s.d z)) < 0
      · rw [if_pos h3] at h; omega
      · rw [if_neg h3] at h ⊢
        have k3 := szN_ok (by omega) h3
        have k4 := szP_ok (by omega) (by omega) h
        have k5 := szP_le (p := s.p) (z := szN s.h.length (szN s.n.length (szR s.d z))) (by omega)
        exact ⟨⟨k1.1, k1.2.1, k2.1, k3.1, k4.1, k4.2.1, k4.2.2⟩, by omega, by omega⟩
set_option maxRecDepth 100000 in
set_option maxHeartbeats 2000000 in
theorem szState_any (s : St) (v : Sv) (z : Int) (w : World) (hv : Sts w v s) (hA : StA s) (hz : 0 ≤ z ∧ z ≤ 1048576) :
    Calls Try.prog 12 #[stV s v, .int .i64 z] w fun e w' => e = .returned (.int .i64 (szS s z)) ∧ Below w.heap.size w w' := by
  obtain ⟨W, hW⟩ : ∃ W, W = w.alloc (stC s v 43) := ⟨_, rfl⟩
  have hBW : Below w.heap.size w W := by rw [hW]; exact one_new _
  have HC : Hid (StC W w.heap.size s v) := (by rw [hW]; exact StC.new w s v _ : StC W w.heap.size s v)
  have hvW := hv.below hBW
  have hD := szDirectory_any v.d s.d z W hvW.d hA.dl hA.d hz
  have HP : Hid (∀ z w', 0 ≤ z ∧ z ≤ 1048576 → Below W.heap.size W w' → Calls Try.prog 46 #[v.p, .int .i64 z] w' fun e w'' => e = .returned (.int .i64 (szP s.p z)) ∧ Below w'.heap.size w' w'') := fun z w' hz h => szDirectoryS_any v.p s.p z w' (hvW.p.below h) hA.pd hA.p hz
  have hok1 := fun h => szR_ok (l := s.d) (z := z) hz.2 h
  have HPN : Hid (∀ z, szP s.p z < 0 → szP s.p z = -1) := fun z h => by
    unfold szP at h ⊢
    by_cases h1 : szD s.p z s.p.length < 0 <;> simp [h1] at h ⊢
  have hlN := hA.n
  have hlH := hA.h
  obtain ⟨a1, c1, e1⟩ := hv.d.shape
  obtain ⟨a2, c2, e2⟩ := hv.n.shape
  obtain ⟨a3, c3, e3⟩ := hv.h.shape
  obtain ⟨a4, c4, e4⟩ := hv.p.shape
  obtain ⟨ph, cu, d, n, h, p⟩ := s
  obtain ⟨vd, vn, vh, vp⟩ := v
  dsimp only at *
  subst e1 e2 e3 e4
  unfold stV szS
  dsimp only
  have HW : Hid (w.alloc (.cells #[.int .i64 ph, .int .i64 cu, .slice a1 d.length c1, .slice a2 n.length c2, .slice a3 h.length c3, .slice a4 p.length c4] 43) = W) := hW.symm
  clear hW
  have HC2 : Hid (∀ w', Below W.heap.size W w' → StC w' w.heap.size ⟨ph, cu, d, n, h, p⟩ ⟨.slice a1 d.length c1, .slice a2 n.length c2, .slice a3 h.length c3, .slice a4 p.length c4⟩) := fun w' hb => HC.out.below hb HC.out.lt
  have HNN : Hid (∀ k : Nat, ∀ z, szN k z < 0 → szN k z = -1) := fun k z h => by
    unfold szN at h ⊢
    by_cases h1 : z - k < 0
    · rw [if_pos h1]
    · rw [if_neg h1] at h; omega
  have HD1 : Hid (szR d z < 0 → szR d z = -1) := szR_neg
  generalize szR d z = z1 at *
  clear hv hvW hA HC
  by_cases h1 : z1 < 0
  · rw [if_pos h1]
    have e := HD1.out h1
    subst e
    generalize d.length = dn at *
    generalize n.length = nn at *
    generalize h.length = hn at *
    generalize p.length = pn at *
    clear hok1 HP HPN HC2
    go_enter Try.func12, Try.ntmps12
    go_wp2_with fail
    rw [HW.out]
    refine hD.mono ?_
    rintro e w1 ⟨rfl, hb1⟩
    have HB : Hid (Below w.heap.size w w1) := below_after_of hBW hb1
    clear hD hb1
    go_wp2
    go_ret
    exact ⟨rfl, HB.out⟩
  · rw [if_neg h1]
    obtain ⟨-, -, k1, -⟩ := hok1 h1
    clear hok1 HD1
    have hN := fun w => szSlotS_z a2 n.length c2 z1 w hlN ⟨by omega, by omega⟩
    have e5 : (if z1 - (n.length : Int) < 0 then -1 else z1 - (n.length : Int)) = szN n.length z1 := rfl
    rw [e5] at hN
    have hok2 := fun h => szN_ok (n := n.length) (z := z1) (by omega) h
    have HN1 := HNN.out n.length z1
    generalize szN n.length z1 = z2 at *
    clear e5
    by_cases h2 : z2 < 0
    · rw [if_pos h2]
      have e := HN1 h2
      subst e
      generalize d.length = dn at *
      generalize n.length = nn at *
      generalize h.length = hn at *
      generalize p.length = pn at *
      clear hok2 HP HPN HNN HN1
      go_enter Try.func12, Try.ntmps12
      go_wp2_with fail
      rw [HW.out]
      refine hD.mono ?_
      rintro e w1 ⟨rfl, hb1⟩
      have HB : Hid (Below w.heap.size w w1) := below_after_of hBW hb1
      have k3 := (HC2.out _ hb1).c3
      dsimp only at k3
      clear hD hb1
      go_wp2_with fail
      refine (hN _).mono ?_
      rintro e w2 ⟨rfl, hb2⟩
      have HB2 : Hid (Below w.heap.size w w2) := below_after_of HB.out hb2
      clear hN hb2
      go_wp2
      go_ret
      exact ⟨rfl, HB2.out⟩
    · rw [if_neg h2]
      obtain ⟨-, k2, k3⟩ := hok2 h2
      clear hok2 HN1
      have hH := fun w => szHeadS_z a3 h.length c3 z2 w hlH ⟨by omega, by omega⟩
      have e5 : (if z2 - (h.length : Int) < 0 then -1 else z2 - (h.length : Int)) = szN h.length z2 := rfl
      rw [e5] at hH
      have hok3 := fun h' => szN_ok (n := h.length) (z := z2) (by omega) h'
      have HN1 := HNN.out h.length z2
      generalize szN h.length z2 = z3 at *
      clear e5
      by_cases h3 : z3 < 0
      · rw [if_pos h3]
        have e := HN1 h3
        subst e
        generalize d.length = dn at *
        generalize n.length = nn at *
        generalize h.length = hn at *
        generalize p.length = pn at *
        clear hok3 HP HPN HNN HN1
        go_enter Try.func12, Try.ntmps12
        go_wp2_with fail
        rw [HW.out]
        refine hD.mono ?_
        rintro e w1 ⟨rfl, hb1⟩
        have HB : Hid (Below W.heap.size W w1) := hb1
        have q3 := (HC2.out _ hb1).c3
        dsimp only at q3
        clear hD hb1
        go_wp2_with fail
        refine (hN _).mono ?_
        rintro e w2 ⟨rfl, hb2⟩
        have HB2 : Hid (Below W.heap.size W w2) := below_after_of HB.out hb2
        have q4 := (HC2.out _ HB2.out).c4
        dsimp only at q4
        clear hN hb2
        go_wp2_with fail
        refine (hH _).mono ?_
        rintro e w3 ⟨rfl, hb3⟩
        have HB3 : Hid (Below w.heap.size w w3) := below_after_of hBW (below_after_of HB2.out hb3)
        clear hH hb3
        go_wp2
        go_ret
        exact ⟨rfl, HB3.out⟩
      · rw [if_neg h3]
        obtain ⟨-, k4, k5⟩ := hok3 h3
        clear hok3 HN1
        have HP1 := HP.out z3
        have HPN1 := HPN.out z3
        generalize szP p z3 = z4 at *
        generalize d.length = dn at *
        generalize n.length = nn at *
        generalize h.length = hn at *
        generalize p.length = pn at *
        clear HP HPN HNN
        by_cases h4 : z4 < 0
        · have e := HPN1 h4
          subst e
          clear HPN1
          go_enter Try.func12, Try.ntmps12
          go_wp2_with fail
          rw [HW.out]
          refine hD.mono ?_
          rintro e w1 ⟨rfl, hb1⟩
          have HB : Hid (Below W.heap.size W w1) := hb1
          have q3 := (HC2.out _ hb1).c3
          dsimp only at q3
          clear hD hb1
          go_wp2_with fail
          refine (hN _).mono ?_
          rintro e w2 ⟨rfl, hb2⟩
          have HB2 : Hid (Below W.heap.size W w2) := below_after_of HB.out hb2
          have q4 := (HC2.out _ HB2.out).c4
          dsimp only at q4
          clear hN hb2
          go_wp2_with fail
          refine (hH _).mono ?_
          rintro e w3 ⟨rfl, hb3⟩
          have HB3 : Hid (Below W.heap.size W w3) := below_after_of HB2.out hb3
          have q5 := (HC2.out _ HB3.out).c5
          dsimp only at q5
          have hP := HP1 w3 ⟨by omega, by omega⟩ HB3.out
          clear hH hb3 HP1
          go_wp2_with fail
          refine hP.mono ?_
          rintro e w4 ⟨rfl, hb4⟩
          have HB4 : Hid (Below w.heap.size w w4) := below_after_of hBW (below_after_of HB3.out hb4)
          clear hP hb4
          go_wp2
          go_ret
          exact ⟨rfl, HB4.out⟩
        · clear HPN1
          go_enter Try.func12, Try.ntmps12
          go_wp2_with fail
          rw [HW.out]
          refine hD.mono ?_
          rintro e w1 ⟨rfl, hb1⟩
          have HB : Hid (Below W.heap.size W w1) := hb1
          have q3 := (HC2.out _ hb1).c3
          dsimp only at q3
          clear hD hb1
          go_wp2_with fail
          refine (hN _).mono ?_
          rintro e w2 ⟨rfl, hb2⟩
          have HB2 : Hid (Below W.heap.size W w2) := below_after_of HB.out hb2
          have q4 := (HC2.out _ HB2.out).c4
          dsimp only at q4
          clear hN hb2
          go_wp2_with fail
          refine (hH _).mono ?_
          rintro e w3 ⟨rfl, hb3⟩
          have HB3 : Hid (Below W.heap.size W w3) := below_after_of HB2.out hb3
          have q5 := (HC2.out _ HB3.out).c5
          dsimp only at q5
          have hP := HP1 w3 ⟨by omega, by omega⟩ HB3.out
          clear hH hb3 HP1
          go_wp2_with fail
          refine hP.mono ?_
          rintro e w4 ⟨rfl, hb4⟩
          have HB4 : Hid (Below w.heap.size w w4) := below_after_of hBW (below_after_of HB3.out hb4)
          clear hP hb4
          go_wp2
          go_ret
          exact ⟨rfl, HB4.out⟩
end U
end Go.Proofs.Ytdchnanihceeeaa
