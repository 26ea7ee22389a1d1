/- Rows of heads as the laws look at them: measured, copied, compared. -/
import Derived.Test.YtcdodpcdennemaaHdL
import Derived.Test.YtcdodpcdennemaaHdS
import Derived.Test.YtcdodpcdennemaaDrL
namespace Go.Proofs.Ytcdodpcdennemaa
open Go.RowKit
namespace U
theorem Try.infoHd : (Try.prog.info? 147).map (fun i => (i.zero, i.size, i.bytes)) = some (some (.agg #[.int .i64 0, .int .i64 0, .int .i64 0, .int .i64 0, .int .i64 0]), 5, 40) := by kernel_rfl
theorem flH_set (l : Hdl) (r : Hd) : ∀ (k : Nat), k < l.length → flH (l.set k r) = (((((flH l).set (k * 5) (.int .i64 r.e)).set (k * 5 + 1) (.int .i64 r.p)).set (k * 5 + 2) (.int .i64 r.o)).set (k * 5 + 3) (.int .i64 r.n)).set (k * 5 + 4) (.int .i64 r.v) := by
  induction l with
  | nil => intro k h; simp at h
  | cons x t ih =>
    intro k h
    have e : ∀ t : Hdl, ∀ x : Hd, flH (x :: t) = .int .i64 x.e :: .int .i64 x.p :: .int .i64 x.o :: .int .i64 x.n :: .int .i64 x.v :: flH t := fun t x => rfl
    cases k with
    | zero => simp [e]
    | succ k =>
      have h1 := ih k (by simpa using h)
      rw [List.set_cons_succ, e, e, h1, show (k + 1) * 5 = k * 5 + 1 + 1 + 1 + 1 + 1 by omega]
      simp
/-- The first heads, nothing behind them. -/
def hset (l : Hdl) (k : Nat) : Hdl := l.take k ++ List.replicate (l.length - k) hdZ
theorem hset_len (l : Hdl) {k : Nat} (h : k ≤ l.length) : (hset l k).length = l.length := by unfold hset; rw [List.length_append, List.length_take, List.length_replicate]; omega
theorem hset_all (l : Hdl) : hset l l.length = l := by unfold hset; simp
theorem hset_at (l : Hdl) {k : Nat} (h : k ≤ l.length) (i : Nat) : (hset l k)[i]? = if i < k then l[i]? else if i < l.length then some hdZ else none := by
  unfold hset
  rw [List.getElem?_append, List.length_take, List.getElem?_take, List.getElem?_replicate]
  by_cases h1 : i < k
  · rw [if_pos (by omega), if_pos h1]
    simp [h1]
  · rw [if_neg (by omega), if_neg h1]
    by_cases h2 : i < l.length
    · rw [if_pos h2, if_pos (by omega)]
    · rw [if_neg h2, if_neg (by omega)]
theorem hset_set (l : Hdl) {k : Nat} (h : k < l.length) : (hset l k).set k (hAt l k) = hset l (k + 1) := by
  apply List.ext_getElem?
  intro i
  rw [List.getElem?_set, hset_at l (by omega), hset_at l (by omega), hset_len l (by omega)]
  by_cases e : k = i
  · subst e
    rw [if_pos rfl, if_pos h, if_pos (by omega), hAt_eq h, List.getElem?_eq_getElem h]
  · rw [if_neg e]
    by_cases h1 : i < k
    · rw [if_pos h1, if_pos (by omega)]
    · have h2 : ¬ i < k + 1 := by omega
      rw [if_neg h1, if_neg h2]
theorem made_five (n : Nat) : (madeCells #[Value.int .i64 0, Value.int .i64 0, Value.int .i64 0, Value.int .i64 0, Value.int .i64 0] (n * 5)).toList = flH (List.replicate n hdZ) := by
  apply List.ext_getElem?
  intro i
  by_cases hi : i < n * 5
  · have h4 := flH_at (List.replicate n hdZ) (i / 5) (by rw [List.length_replicate]; omega)
    have hz : hAt (List.replicate n hdZ) (i / 5) = hdZ := by rw [hAt_eq (by rw [List.length_replicate]; omega), List.getElem_replicate]
    rw [hz] at h4
    have hm : (madeCells #[Value.int .i64 0, Value.int .i64 0, Value.int .i64 0, Value.int .i64 0, Value.int .i64 0] (n * 5)).toList[i]? = some (#[Value.int .i64 0, Value.int .i64 0, Value.int .i64 0, Value.int .i64 0, Value.int .i64 0][i % 5]!) := by
      simp only [madeCells, Array.toList_map, List.getElem?_map]
      rw [show (Array.range (n * 5)).toList[i]? = some i by simp [hi]]
      rfl
    rw [hm]
    have hd : i = i / 5 * 5 + i % 5 := by omega
    rcases (by omega : i % 5 = 0 ∨ i % 5 = 1 ∨ i % 5 = 2 ∨ i % 5 = 3 ∨ i % 5 = 4) with h | h | h | h | h
    · rw [h, Nat.add_zero] at hd
      rw [h, hd, h4.1]
      rfl
    · rw [h] at hd
      rw [h, hd, h4.2.1]
      rfl
    · rw [h] at hd
      rw [h, hd, h4.2.2.1]
      rfl
    · rw [h] at hd
      rw [h, hd, h4.2.2.2.1]
      rfl
    · rw [h] at hd
      rw [h, hd, h4.2.2.2.2]
      rfl
  · rw [List.getElem?_eq_none (by simp [madeCells]; omega), List.getElem?_eq_none (by rw [flH_len, List.length_replicate]; omega)]
theorem made_hds {w1 w : World} {n : Nat} {l : Hdl} (HN : n = l.length) (h : w1.ownsRow w.heap.size 147 5 (.slice (some ⟨w.heap.size, 0, none⟩) n n) n (madeCells #[Value.int .i64 0, Value.int .i64 0, Value.int .i64 0, Value.int .i64 0, Value.int .i64 0] (n * 5)).toList) :
    w1.ownsRow w.heap.size 147 5 (.slice (some ⟨w.heap.size, 0, none⟩) n n) n (flH (hset l 0)) := by
  have e : hset l 0 = List.replicate n hdZ := by unfold hset; simp [HN]
  rw [e, ← made_five]
  exact h
theorem own_some5 {w : World} {B g n cap : Nat} {e : TypeId} {xs : List Value} (h : w.ownsRow B e 5 (.slice (some ⟨g, 0, none⟩) n cap) n xs) {j : Nat} (hj : j < n * 5) : ∃ x, w.cell? ⟨g, j, none⟩ = some x :=
  ⟨_, (h.cellAt j (by omega)).trans (List.getElem?_eq_getElem (by rw [h.1]; omega))⟩
set_option maxRecDepth 100000 in
set_option maxHeartbeats 4000000 in
theorem toHeadS_core (b off c n : Nat) (l : Hdl) (w : World) (HN : Hid (n = l.length)) (hx : n ≤ 1048576) (hb : b < w.heap.size) (hc : ∀ j, j < n → HdS w b (off + j * 5) (hAt l j)) :
    Calls Try.prog 39 #[.slice (some ⟨b, off, none⟩) n c] w fun e w' => e = .returned (.slice (some ⟨w.heap.size, 0, none⟩) n n) ∧ Below w.heap.size w w' ∧ w'.ownsRow w.heap.size 147 5 (.slice (some ⟨w.heap.size, 0, none⟩) n n) n (flH l) := by
  obtain ⟨i0, hi, hz0, hz1, hz2⟩ := info_parts Try.infoHd
  go_enter Try.func39, Try.ntmps39
  go_wp2_with (at_make; refine wpList_make_full _ rfl _ _ 49 rfl w.heap.size 147 i0 (.agg #[.int .i64 0, .int .i64 0, .int .i64 0, .int .i64 0, .int .i64 0]) 5 Try.underlying49 hi hz0 hz1 _ _ _ _ n rfl rfl rfl rfl (by rw [hz2]; omega) (by unfold maxLen; omega) (Nat.le_refl _) ?_)
  intro w1 hown1 hg1
  have own1 := made_hds HN.out hown1
  have hB1 : Below w.heap.size w w1 := (Below.refl _ _).grown hg1 (Nat.le_refl _) (fun k hk => by cases hk)
  clear hown1 hg1
  go_wp2
  go_loopw [4] (fun i wr => ∃ k : Nat, k ≤ n ∧ i = .int .i64 k ∧ Below w.heap.size w wr ∧ w.heap.size < wr.heap.size ∧ wr.ownsRow w.heap.size 147 5 (.slice (some ⟨w.heap.size, 0, none⟩) n n) n (flH (hset l k))) (fun i _ => n - (intOf i).toNat)
  case atStart => exact ⟨0, Nat.zero_le _, rfl, hB1, (own1.lt _ rfl).2, own1⟩
  case round =>
    obtain ⟨k, hk, rfl, hB, hsz, ho⟩ := hrel
    by_cases hkn : k < n
    · have hki : (k : Int) < (n : Int) := by omega
      obtain ⟨d0, d1, d2, d3, d4⟩ := (hc k hkn).below hB hb
      have hbr : b < wr.heap.size := Nat.lt_of_lt_of_le hb hB.size
      have hlk : k < l.length := by have := HN.out; omega
      have hts : (((((flH (hset l k)).set (k * 5) (.int .i64 (hAt l k).e)).set (k * 5 + 1) (.int .i64 (hAt l k).p)).set (k * 5 + 2) (.int .i64 (hAt l k).o)).set (k * 5 + 3) (.int .i64 (hAt l k).n)).set (k * 5 + 4) (.int .i64 (hAt l k).v) = flH (hset l (k + 1)) := by
        rw [← flH_set _ _ k (by rw [hset_len l (by omega)]; exact hlk), hset_set l hlk]
      have hT := fun w => toHead_any (hAt l k).e (hAt l k).p (hAt l k).o (hAt l k).n (hAt l k).v w
      unfold hdV at hT
      generalize (hAt l k).e = x0 at *
      generalize (hAt l k).p = x1 at *
      generalize (hAt l k).o = x2 at *
      generalize (hAt l k).n = x3 at *
      generalize (hAt l k).v = x4 at *
      have HT : Hid ((((((flH (hset l k)).set (k * 5) (.int .i64 x0)).set (k * 5 + 1) (.int .i64 x1)).set (k * 5 + 2) (.int .i64 x2)).set (k * 5 + 3) (.int .i64 x3)).set (k * 5 + 4) (.int .i64 x4) = flH (hset l (k + 1))) := hts
      have HB : Hid (Below w.heap.size w wr) := hB
      have HO : Hid (wr.ownsRow w.heap.size 147 5 (.slice (some ⟨w.heap.size, 0, none⟩) n n) n (flH (hset l k))) := ho
      clear hc hts own1 hB1 ho hB
      go_wp2_with fail
      refine (hT _).mono ?_
      rintro e w2 ⟨rfl, hb2⟩
      have ho2 := own_below HO.out hb2
      have f0 := ho2.frozenAt (k * 5)
      have f1 := ho2.frozenAt (k * 5 + 1)
      have f2 := ho2.frozenAt (k * 5 + 2)
      have f3 := ho2.frozenAt (k * 5 + 3)
      have f4 := ho2.frozenAt (k * 5 + 4)
      obtain ⟨z0, g0⟩ := own_some5 ho2 (j := k * 5) (by omega)
      obtain ⟨z1, g1⟩ := own_some5 ho2 (j := k * 5 + 1) (by omega)
      obtain ⟨z2, g2⟩ := own_some5 ho2 (j := k * 5 + 2) (by omega)
      obtain ⟨z3, g3⟩ := own_some5 ho2 (j := k * 5 + 3) (by omega)
      obtain ⟨z4, g4⟩ := own_some5 ho2 (j := k * 5 + 4) (by omega)
      have s1 := (ho2.stored (k * 5) (.int .i64 x0)).1
      have s2 := (s1.stored (k * 5 + 1) (.int .i64 x1)).1
      have s3 := (s2.stored (k * 5 + 2) (.int .i64 x2)).1
      have s4 := (s3.stored (k * 5 + 3) (.int .i64 x3)).1
      have s5 := (s4.stored (k * 5 + 4) (.int .i64 x4)).1
      rw [HT.out] at s5
      have hsz2 : w.heap.size < w2.heap.size := by have := hb2.size; omega
      have HB2 : Hid (Below w.heap.size w (((((w2.setCell ⟨w.heap.size, k * 5, none⟩ (.int .i64 x0)).setCell ⟨w.heap.size, k * 5 + 1, none⟩ (.int .i64 x1)).setCell ⟨w.heap.size, k * 5 + 2, none⟩ (.int .i64 x2)).setCell ⟨w.heap.size, k * 5 + 3, none⟩ (.int .i64 x3)).setCell ⟨w.heap.size, k * 5 + 4, none⟩ (.int .i64 x4))) := (((((below_after_of HB.out hb2).setCell (Nat.le_refl _) _).setCell (Nat.le_refl _) _).setCell (Nat.le_refl _) _).setCell (Nat.le_refl _) _).setCell (Nat.le_refl _) _
      have HS2 : Hid ((((((w2.setCell ⟨w.heap.size, k * 5, none⟩ (.int .i64 x0)).setCell ⟨w.heap.size, k * 5 + 1, none⟩ (.int .i64 x1)).setCell ⟨w.heap.size, k * 5 + 2, none⟩ (.int .i64 x2)).setCell ⟨w.heap.size, k * 5 + 3, none⟩ (.int .i64 x3)).setCell ⟨w.heap.size, k * 5 + 4, none⟩ (.int .i64 x4)).ownsRow w.heap.size 147 5 (.slice (some ⟨w.heap.size, 0, none⟩) n n) n (flH (hset l (k + 1)))) := s5
      clear ho2 s1 s2 s3 s4 s5 hb2 hT
      go_wp2
      go_roundw
      case rel => exact ⟨k + 1, by omega, by go_num, HB2.out, by simp; omega, HS2.out⟩
      case measure => simp [intOf]; omega
    · have hkn : k = n := by omega
      subst hkn
      have e1 : hset l k = l := by rw [HN.out]; exact hset_all _
      rw [e1] at ho
      go_wp2
      go_ret
      exact ⟨rfl, hB, ho⟩
set_option maxRecDepth 100000 in
set_option maxHeartbeats 1000000 in
theorem toHeadS_any (v : Value) (l : Hdl) (w : World) (hv : Hds w v l) (hx : l.length ≤ 1048576) :
    Calls Try.prog 39 #[v] w fun e w' => ∃ a c, e = .returned (.slice a l.length c) ∧ Below w.heap.size w w' ∧ w'.ownsRow w.heap.size 147 5 (.slice a l.length c) l.length (flH l) := by
  obtain ⟨a, c, rfl⟩ := hv.shape
  by_cases h0 : 0 < l.length
  · obtain ⟨_, b, off, rfl, hb, hc⟩ := hv.at h0
    refine (toHeadS_core b off c l.length l w rfl hx hb hc).mono ?_
    rintro e w' ⟨rfl, hB, ho⟩
    exact ⟨_, _, rfl, hB, ho⟩
  · have e1 : l = [] := List.eq_nil_of_length_eq_zero (by omega)
    subst e1
    obtain ⟨i0, hi, hz0, hz1, hz2⟩ := info_parts Try.infoHd
    simp only [List.length_nil] at *
    clear hv h0
    go_enter Try.func39, Try.ntmps39
    go_wp2_with (at_make; refine wpList_make_full _ rfl _ _ 49 rfl w.heap.size 147 i0 (.agg #[.int .i64 0, .int .i64 0, .int .i64 0, .int .i64 0, .int .i64 0]) 5 Try.underlying49 hi hz0 hz1 _ _ _ _ 0 rfl rfl rfl rfl (by rw [hz2]; omega) (by unfold maxLen; omega) (Nat.le_refl _) ?_)
    intro w1 hown1 hg1
    have hB1 : Below w.heap.size w w1 := (Below.refl _ _).grown hg1 (Nat.le_refl _) (fun k hk => by cases hk)
    have own1 := made_hds (l := []) rfl hown1
    clear hown1 hg1
    go_wp2
    refine wp_loop_rounds 1 ?_; rw [rounds_succ]
    go_wp2
    go_ret
    exact ⟨_, _, rfl, hB1, own1⟩
set_option maxRecDepth 100000 in
set_option maxHeartbeats 4000000 in
theorem eqHeadS_core (b off c b' off' c' n : Nat) (l : Hdl) (w : World) (hx : n ≤ 1048576) (hb : b < w.heap.size) (hb' : b' < w.heap.size) (hc : ∀ j, j < n → HdS w b (off + j * 5) (hAt l j)) (hc' : ∀ j, j < n → HdS w b' (off' + j * 5) (hAt l j)) :
    Calls Try.prog 41 #[.slice (some ⟨b, off, none⟩) n c, .slice (some ⟨b', off', none⟩) n c'] w fun e w' => e = .returned (.bool true) ∧ Below w.heap.size w w' := by
  have hnn := hne_all
  go_enter Try.func41, Try.ntmps41
  go_wp2
  go_loopw [5] (fun i wr => ∃ k : Nat, k ≤ n ∧ i = .int .i64 k ∧ Hid (Below w.heap.size w wr)) (fun i _ => n - (intOf i).toNat)
  case atStart => exact ⟨0, Nat.zero_le _, rfl, Below.refl _ _⟩
  case round =>
    obtain ⟨k, hk, rfl, hB⟩ := hrel
    by_cases hkn : k < n
    · have hki : (k : Int) < (n : Int) := by omega
      obtain ⟨d0, d1, d2, d3, d4⟩ := (hc k hkn).below hB.out hb
      obtain ⟨d0', d1', d2', d3', d4'⟩ := (hc' k hkn).below hB.out hb'
      have hE := fun w => eqHead_same (hAt l k).e (hAt l k).p (hAt l k).o (hAt l k).n (hAt l k).v w
      unfold hdV at hE
      generalize (hAt l k).e = x0 at *
      generalize (hAt l k).p = x1 at *
      generalize (hAt l k).o = x2 at *
      generalize (hAt l k).n = x3 at *
      generalize (hAt l k).v = x4 at *
      have q0 := After.cell d0
      have q1 := After.cell d1
      have q2 := After.cell d2
      have q3 := After.cell d3
      have q4 := After.cell d4
      have p0 := After.cell d0'
      have p1 := After.cell d1'
      have p2 := After.cell d2'
      have p3 := After.cell d3'
      have p4 := After.cell d4'
      have hne := After.ne wr
      clear hc hc' d0 d1 d2 d3 d4 d0' d1' d2' d3' d4'
      go_wp2_with fail
      refine wp_region_after (by kernel_rfl) (by kernel_rfl) ?_
      repeat (first | go_big_quiet_skip | (go_big_quiet_want; go_big_quiet_op; first | go_big_quiet_on | go_big_quiet_call (first | (go_at_call 84; refine (hE _).mono ?_; rintro e wq ⟨rfl, hbq⟩; exact ⟨rfl, after_mk (below_after_of (After.b _) hbq)⟩))))
      refine wpQuiet_nil ?_
      rintro _ ⟨n6, rfl⟩
      have HB6 : Hid (Below w.heap.size w n6.w) := below_after_of hB.out n6.b
      generalize n6.w = w6 at *
      clear hne q0 q1 q2 q3 q4 p0 p1 p2 p3 p4 n6 hE
      go_wp2
      go_roundw
      case rel => exact ⟨k + 1, by omega, by go_num, HB6⟩
      case measure => simp [intOf]; omega
    · have hkn : k = n := by omega
      subst hkn
      clear hc hc'
      go_wp2
      go_ret
      exact ⟨rfl, hB.out⟩
set_option maxRecDepth 100000 in
set_option maxHeartbeats 1000000 in
theorem eqHeadS_same (v u : Value) (l : Hdl) (w : World) (hv : Hds w v l) (hu : Hds w u l) (hx : l.length ≤ 1048576) :
    Calls Try.prog 41 #[v, u] w fun e w' => e = .returned (.bool true) ∧ Below w.heap.size w w' := by
  obtain ⟨a, c, rfl⟩ := hv.shape
  obtain ⟨a', c', rfl⟩ := hu.shape
  by_cases h0 : 0 < l.length
  · obtain ⟨_, b, off, rfl, hb, hc⟩ := hv.at h0
    obtain ⟨_, b', off', rfl, hb', hc'⟩ := hu.at h0
    exact eqHeadS_core b off c b' off' c' l.length l w hx hb hb' hc hc'
  · have e1 : l = [] := List.eq_nil_of_length_eq_zero (by omega)
    subst e1
    simp only [List.length_nil] at *
    clear hv hu h0
    go_enter Try.func41, Try.ntmps41
    go_wp2
    refine wp_loop_rounds 1 ?_; rw [rounds_succ]
    go_wp2
    go_ret
    exact ⟨rfl, Below.refl _ _⟩
set_option maxRecDepth 100000 in
set_option maxHeartbeats 1000000 in
theorem szHeadS_any (a : Option Addr) (n c : Nat) (w : World) (hn : n ≤ maxLen) :
    Calls Try.prog 37 #[.slice a n c, .int .i64 1048576] w fun e w' => e = .returned (.int .i64 (if n ≤ 1048576 then (1048576 - n : Int) else -1)) ∧ w' = w := by
  unfold maxLen at hn
  by_cases h1 : n ≤ 1048576
  · rw [if_pos h1]
    go_enter Try.func37, Try.ntmps37
    go_wp2
    go_ret
    exact ⟨rfl, rfl⟩
  · rw [if_neg h1]
    go_enter Try.func37, Try.ntmps37
    go_wp2
    go_ret
    exact ⟨rfl, rfl⟩
end U
end Go.Proofs.Ytcdodpcdennemaa
