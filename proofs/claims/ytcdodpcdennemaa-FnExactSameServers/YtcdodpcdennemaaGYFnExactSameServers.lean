/- Joined: what the texts behind it need. -/
import Derived.Test.YtcdodpcdennemaaIntR
import Derived.Test.YtcdodpcdennemaaHd3
import Derived.Test.YtcdodpcdennemaaHdS
import Derived.Test.YtcdodpcdennemaaDrL
import Derived.Test.YtcdodpcdennemaaStS
import Derived.Test.YtcdodpcdennemaaSlL
import Derived.Test.YtcdodpcdennemaaLgM
import Derived.Test.YtcdodpcdennemaaStO
import Derived.Test.YtcdodpcdennemaaDrE
import Derived.Test.YtcdodpcdennemaaSlN
import Derived.Deep.Trees
import Derived.Test.YtcdodpcdennemaaSl1
import Derived.Test.YtcdodpcdennemaaQuiet
import Derived.Test.YtcdodpcdennemaaTag
import Derived.Test.YtcdodpcdennemaaTo
import Derived.Test.YtcdodpcdennemaaLgT
import Derived.Test.YtcdodpcdennemaaLgE
/- Two answers that are one are found the same. -/
namespace Go.Proofs.Ytcdodpcdennemaa
open Go.RowKit
namespace U
end U
end Go.Proofs.Ytcdodpcdennemaa

/- Heads as the laws look at them: copied, compared. -/
namespace Go.Proofs.Ytcdodpcdennemaa
open Go.RowKit
namespace U
set_option maxRecDepth 100000 in
set_option maxHeartbeats 1000000 in
theorem toHead_any (e p o n v : Int) (w : World) :
    Calls Try.prog 81 #[hdV e p o n v] w fun x w' => x = .returned (hdV e p o n v) ∧ Below w.heap.size w w' := by
  unfold hdV
  go_enter Try.func81, Try.ntmps81
  go_wp2
  refine bodyPost_ret (v := hdV e p o n v) (by simp [results, Try.results81, go_sem, hdV]) rfl ⟨rfl, ?_⟩
  exact (two_new _ _).alloc (by simp; omega) _
set_option maxRecDepth 100000 in
set_option maxHeartbeats 1000000 in
theorem eqHead_same (e p o n v : Int) (w : World) :
    Calls Try.prog 84 #[hdV e p o n v, hdV e p o n v] w fun x w' => x = .returned (.bool true) ∧ Below w.heap.size w w' := by
  have h0 := hne_all e
  have h1 := hne_all p
  have h2 := hne_all o
  have h3 := hne_all n
  have h4 := hne_all v
  unfold hdV
  go_enter Try.func84, Try.ntmps84
  go_wp2
  go_ret
  exact ⟨rfl, two_new _ _⟩
end U
end Go.Proofs.Ytcdodpcdennemaa

/- Rows of heads as the laws look at them: measured, copied, compared. -/
namespace Go.Proofs.Ytcdodpcdennemaa
open Go.RowKit
namespace U
theorem Try.infoHd : (Try.prog.info? 147).map (fun i => (i.zero, i.size, i.bytes)) = some (some (.agg #[.int .i64 0, .int .i64 0, .int .i64 0, .int .i64 0, .int .i64 0]), 5, 40) := by kernel_rfl
theorem flH_set (l : Hdl) (r : Hd) : ∀ (k : Nat), k < l.length → flH (l.set k r) = (((((flH l).set (k * 5) (.int .i64 r.e)).set (k * 5 + 1) (.int .i64 r.p)).set (k * 5 + 2) (.int .i64 r.o)).set (k * 5 + 3) (.int .i64 r.n)).set (k * 5 + 4) (.int .i64 r.v) := by
  induction l with
  | nil => intro k h; simp at h
  | cons x t ih =>
    intro k h
    have e : ∀ t : Hdl, ∀ x : Hd, flH (x :: t) = .int .i64 x.e :: .int .i64 x.p :: .int .i64 x.o :: .int .i64 x.n :: .int .i64 x.v :: flH t := fun t x => rfl
    cases k with
    | zero => simp [e]
    | succ k =>
      have h1 := ih k (by simpa using h)
      rw [List.set_cons_succ, e, e, h1, show (k + 1) * 5 = k * 5 + 1 + 1 + 1 + 1 + 1 by omega]
      simp
/-- The first heads, nothing behind them. -/
def hset (l : Hdl) (k : Nat) : Hdl := l.take k ++ List.replicate (l.length - k) hdZ
theorem hset_len (l : Hdl) {k : Nat} (h : k ≤ l.length) : (hset l k).length = l.length := by unfold hset; rw [List.length_append, List.length_take, List.length_replicate]; omega
theorem hset_all (l : Hdl) : hset l l.length = l := by unfold hset; simp
theorem hset_at (l : Hdl) {k : Nat} (h : k ≤ l.length) (i : Nat) : (hset l k)[i]? = if i < k then l[i]? else if i < l.length then some hdZ else none := by
  unfold hset
  rw [List.getElem?_append, List.length_take, List.getElem?_take, List.getElem?_replicate]
  by_cases h1 : i < k
  · rw [if_pos (by omega), if_pos h1]
    simp [h1]
  · rw [if_neg (by omega), if_neg h1]
    by_cases h2 : i < l.length
    · rw [if_pos h2, if_pos (by omega)]
    · rw [if_neg h2, if_neg (by omega)]
theorem hset_set (l : Hdl) {k : Nat} (h : k < l.length) : (hset l k).set k (hAt l k) = hset l (k + 1) := by
  apply List.ext_getElem?
  intro i
  rw [List.getElem?_set, hset_at l (by omega), hset_at l (by omega), hset_len l (by omega)]
  by_cases e : k = i
  · subst e
    rw [if_pos rfl, if_pos h, if_pos (by omega), hAt_eq h, List.getElem?_eq_getElem h]
  · rw [if_neg e]
    by_cases h1 : i < k
    · rw [if_pos h1, if_pos (by omega)]
    · have h2 : ¬ i < k + 1 := by omega
      rw [if_neg h1, if_neg h2]
theorem made_five (n : Nat) : (madeCells #[Value.int .i64 0, Value.int .i64 0, Value.int .i64 0, Value.int .i64 0, Value.int .i64 0] (n * 5)).toList = flH (List.replicate n hdZ) := by
  apply List.ext_getElem?
  intro i
  by_cases hi : i < n * 5
  · have h4 := flH_at (List.replicate n hdZ) (i / 5) (by rw [List.length_replicate]; omega)
    have hz : hAt (List.replicate n hdZ) (i / 5) = hdZ := by rw [hAt_eq (by rw [List.length_replicate]; omega), List.getElem_replicate]
    rw [hz] at h4
    have hm : (madeCells #[Value.int .i64 0, Value.int .i64 0, Value.int .i64 0, Value.int .i64 0, Value.int .i64 0] (n * 5)).toList[i]? = some (#[Value.int .i64 0, Value.int .i64 0, Value.int .i64 0, Value.int .i64 0, Value.int .i64 0][i % 5]!) := by
      simp only [madeCells, Array.toList_map, List.getElem?_map]
      rw [show (Array.range (n * 5)).toList[i]? = some i by simp [hi]]
      rfl
    rw [hm]
    have hd : i = i / 5 * 5 + i % 5 := by omega
    rcases (by omega : i % 5 = 0 ∨ i % 5 = 1 ∨ i % 5 = 2 ∨ i % 5 = 3 ∨ i % 5 = 4) with h | h | h | h | h
    · rw [h, Nat.add_zero] at hd
      rw [h, hd, h4.1]
      rfl
    · rw [h] at hd
      rw [h, hd, h4.2.1]
      rfl
    · rw [h] at hd
      rw [h, hd, h4.2.2.1]
      rfl
    · rw [h] at hd
      rw [h, hd, h4.2.2.2.1]
      rfl
    · rw [h] at hd
      rw [h, hd, h4.2.2.2.2]
      rfl
  · rw [List.getElem?_eq_none (by simp [madeCells]; omega), List.getElem?_eq_none (by rw [flH_len, List.length_replicate]; omega)]
theorem made_hds {w1 w : World} {n : Nat} {l : Hdl} (HN : n = l.length) (h : w1.ownsRow w.heap.size 147 5 (.slice (some ⟨w.heap.size, 0, none⟩) n n) n (madeCells #[Value.int .i64 0, Value.int .i64 0, Value.int .i64 0, Value.int .i64 0, Value.int .i64 0] (n * 5)).toList) :
    w1.ownsRow w.heap.size 147 5 (.slice (some ⟨w.heap.size, 0, none⟩) n n) n (flH (hset l 0)) := by
  have e : hset l 0 = List.replicate n hdZ := by unfold hset; simp [HN]
  rw [e, ← made_five]
  exact h
theorem own_some5 {w : World} {B g n cap : Nat} {e : TypeId} {xs : List Value} (h : w.ownsRow B e 5 (.slice (some ⟨g, 0, none⟩) n cap) n xs) {j : Nat} (hj : j < n * 5) : ∃ x, w.cell? ⟨g, j, none⟩ = some x :=
  ⟨_, (h.cellAt j (by omega)).trans (List.getElem?_eq_getElem (by rw [h.1]; omega))⟩
set_option maxRecDepth 100000 in
set_option maxHeartbeats 4000000 in
theorem toHeadS_core (b off c n : Nat) (l : Hdl) (w : World) (HN : Hid (n = l.length)) (hx : n ≤ 1048576) (hb : b < w.heap.size) (hc : ∀ j, j < n → HdS w b (off + j * 5) (hAt l j)) :
    Calls Try.prog 39 #[.slice (some ⟨b, off, none⟩) n c] w fun e w' => e = .returned (.slice (some ⟨w.heap.size, 0, none⟩) n n) ∧ Below w.heap.size w w' ∧ w'.ownsRow w.heap.size 147 5 (.slice (some ⟨w.heap.size, 0, none⟩) n n) n (flH l) := by
  obtain ⟨i0, hi, hz0, hz1, hz2⟩ := info_parts Try.infoHd
  go_enter Try.func39, Try.ntmps39
  go_wp2_with (at_make; refine wpList_make_full _ rfl _ _ 49 rfl w.heap.size 147 i0 (.agg #[.int .i64 0, .int .i64 0, .int .i64 0, .int .i64 0, .int .i64 0]) 5 Try.underlying49 hi hz0 hz1 _ _ _ _ n rfl rfl rfl rfl (by rw [hz2]; omega) (by unfold maxLen; omega) (Nat.le_refl _) ?_)
  intro w1 hown1 hg1
  have own1 := made_hds HN.out hown1
  have hB1 : Below w.heap.size w w1 := (Below.refl _ _).grown hg1 (Nat.le_refl _) (fun k hk => by cases hk)
  clear hown1 hg1
  go_wp2
  go_loopw [4] (fun i wr => ∃ k : Nat, k ≤ n ∧ i = .int .i64 k ∧ Below w.heap.size w wr ∧ w.heap.size < wr.heap.size ∧ wr.ownsRow w.heap.size 147 5 (.slice (some ⟨w.heap.size, 0, none⟩) n n) n (flH (hset l k))) (fun i _ => n - (intOf i).toNat)
  case atStart => exact ⟨0, Nat.zero_le _, rfl, hB1, (own1.lt _ rfl).2, own1⟩
  case round =>
    obtain ⟨k, hk, rfl, hB, hsz, ho⟩ := hrel
    by_cases hkn : k < n
    · have hki : (k : Int) < (n : Int) := by omega
      obtain ⟨d0, d1, d2, d3, d4⟩ := (hc k hkn).below hB hb
      have hbr : b < wr.heap.size := Nat.lt_of_lt_of_le hb hB.size
      have hlk : k < l.length := by have := HN.out; omega
      have hts : (((((flH (hset l k)).set (k * 5) (.int .i64 (hAt l k).e)).set (k * 5 + 1) (.int .i64 (hAt l k).p)).set (k * 5 + 2) (.int .i64 (hAt l k).o)).set (k * 5 + 3) (.int .i64 (hAt l k).n)).set (k * 5 + 4) (.int .i64 (hAt l k).v) = flH (hset l (k + 1)) := by
        rw [← flH_set _ _ k (by rw [hset_len l (by omega)]; exact hlk), hset_set l hlk]
      have hT := fun w => toHead_any (hAt l k).e (hAt l k).p (hAt l k).o (hAt l k).n (hAt l k).v w
      unfold hdV at hT
      generalize (hAt l k).e = x0 at *
      generalize (hAt l k).p = x1 at *
      generalize (hAt l k).o = x2 at *
      generalize (hAt l k).n = x3 at *
      generalize (hAt l k).v = x4 at *
      have HT : Hid ((((((flH (hset l k)).set (k * 5) (.int .i64 x0)).set (k * 5 + 1) (.int .i64 x1)).set (k * 5 + 2) (.int .i64 x2)).set (k * 5 + 3) (.int .i64 x3)).set (k * 5 + 4) (.int .i64 x4) = flH (hset l (k + 1))) := hts
      have HB : Hid (Below w.heap.size w wr) := hB
      have HO : Hid (wr.ownsRow w.heap.size 147 5 (.slice (some ⟨w.heap.size, 0, none⟩) n n) n (flH (hset l k))) := ho
      clear hc hts own1 hB1 ho hB
      go_wp2_with fail
      refine (hT _).mono ?_
      rintro e w2 ⟨rfl, hb2⟩
      have ho2 := own_below HO.out hb2
      have f0 := ho2.frozenAt (k * 5)
      have f1 := ho2.frozenAt (k * 5 + 1)
      have f2 := ho2.frozenAt (k * 5 + 2)
      have f3 := ho2.frozenAt (k * 5 + 3)
      have f4 := ho2.frozenAt (k * 5 + 4)
      obtain ⟨z0, g0⟩ := own_some5 ho2 (j := k * 5) (by omega)
      obtain ⟨z1, g1⟩ := own_some5 ho2 (j := k * 5 + 1) (by omega)
      obtain ⟨z2, g2⟩ := own_some5 ho2 (j := k * 5 + 2) (by omega)
      obtain ⟨z3, g3⟩ := own_some5 ho2 (j := k * 5 + 3) (by omega)
      obtain ⟨z4, g4⟩ := own_some5 ho2 (j := k * 5 + 4) (by omega)
      have s1 := (ho2.stored (k * 5) (.int .i64 x0)).1
      have s2 := (s1.stored (k * 5 + 1) (.int .i64 x1)).1
      have s3 := (s2.stored (k * 5 + 2) (.int .i64 x2)).1
      have s4 := (s3.stored (k * 5 + 3) (.int .i64 x3)).1
      have s5 := (s4.stored (k * 5 + 4) (.int .i64 x4)).1
      rw [HT.out] at s5
      have hsz2 : w.heap.size < w2.heap.size := by have := hb2.size; omega
      have HB2 : Hid (Below w.heap.size w (((((w2.setCell ⟨w.heap.size, k * 5, none⟩ (.int .i64 x0)).setCell ⟨w.heap.size, k * 5 + 1, none⟩ (.int .i64 x1)).setCell ⟨w.heap.size, k * 5 + 2, none⟩ (.int .i64 x2)).setCell ⟨w.heap.size, k * 5 + 3, none⟩ (.int .i64 x3)).setCell ⟨w.heap.size, k * 5 + 4, none⟩ (.int .i64 x4))) := (((((below_after_of HB.out hb2).setCell (Nat.le_refl _) _).setCell (Nat.le_refl _) _).setCell (Nat.le_refl _) _).setCell (Nat.le_refl _) _).setCell (Nat.le_refl _) _
      have HS2 : Hid ((((((w2.setCell ⟨w.heap.size, k * 5, none⟩ (.int .i64 x0)).setCell ⟨w.heap.size, k * 5 + 1, none⟩ (.int .i64 x1)).setCell ⟨w.heap.size, k * 5 + 2, none⟩ (.int .i64 x2)).setCell ⟨w.heap.size, k * 5 + 3, none⟩ (.int .i64 x3)).setCell ⟨w.heap.size, k * 5 + 4, none⟩ (.int .i64 x4)).ownsRow w.heap.size 147 5 (.slice (some ⟨w.heap.size, 0, none⟩) n n) n (flH (hset l (k + 1)))) := s5
      clear ho2 s1 s2 s3 s4 s5 hb2 hT
      go_wp2
      go_roundw
      case rel => exact ⟨k + 1, by omega, by go_num, HB2.out, by simp; omega, HS2.out⟩
      case measure => simp [intOf]; omega
    · have hkn : k = n := by omega
      subst hkn
      have e1 : hset l k = l := by rw [HN.out]; exact hset_all _
      rw [e1] at ho
      go_wp2
      go_ret
      exact ⟨rfl, hB, ho⟩
set_option maxRecDepth 100000 in
set_option maxHeartbeats 1000000 in
theorem toHeadS_any (v : Value) (l : Hdl) (w : World) (hv : Hds w v l) (hx : l.length ≤ 1048576) :
    Calls Try.prog 39 #[v] w fun e w' => ∃ a c, e = .returned (.slice a l.length c) ∧ Below w.heap.size w w' ∧ w'.ownsRow w.heap.size 147 5 (.slice a l.length c) l.length (flH l) := by
  obtain ⟨a, c, rfl⟩ := hv.shape
  by_cases h0 : 0 < l.length
  · obtain ⟨_, b, off, rfl, hb, hc⟩ := hv.at h0
    refine (toHeadS_core b off c l.length l w rfl hx hb hc).mono ?_
    rintro e w' ⟨rfl, hB, ho⟩
    exact ⟨_, _, rfl, hB, ho⟩
  · have e1 : l = [] := List.eq_nil_of_length_eq_zero (by omega)
    subst e1
    obtain ⟨i0, hi, hz0, hz1, hz2⟩ := info_parts Try.infoHd
    simp only [List.length_nil] at *
    clear hv h0
    go_enter Try.func39, Try.ntmps39
    go_wp2_with (at_make; refine wpList_make_full _ rfl _ _ 49 rfl w.heap.size 147 i0 (.agg #[.int .i64 0, .int .i64 0, .int .i64 0, .int .i64 0, .int .i64 0]) 5 Try.underlying49 hi hz0 hz1 _ _ _ _ 0 rfl rfl rfl rfl (by rw [hz2]; omega) (by unfold maxLen; omega) (Nat.le_refl _) ?_)
    intro w1 hown1 hg1
    have hB1 : Below w.heap.size w w1 := (Below.refl _ _).grown hg1 (Nat.le_refl _) (fun k hk => by cases hk)
    have own1 := made_hds (l := []) rfl hown1
    clear hown1 hg1
    go_wp2
    refine wp_loop_rounds 1 ?_; rw [rounds_succ]
    go_wp2
    go_ret
    exact ⟨_, _, rfl, hB1, own1⟩
set_option maxRecDepth 100000 in
set_option maxHeartbeats 4000000 in
theorem eqHeadS_core (b off c b' off' c' n : Nat) (l : Hdl) (w : World) (hx : n ≤ 1048576) (hb : b < w.heap.size) (hb' : b' < w.heap.size) (hc : ∀ j, j < n → HdS w b (off + j * 5) (hAt l j)) (hc' : ∀ j, j < n → HdS w b' (off' + j * 5) (hAt l j)) :
    Calls Try.prog 41 #[.slice (some ⟨b, off, none⟩) n c, .slice (some ⟨b', off', none⟩) n c'] w fun e w' => e = .returned (.bool true) ∧ Below w.heap.size w w' := by
  have hnn := hne_all
  go_enter Try.func41, Try.ntmps41
  go_wp2
  go_loopw [5] (fun i wr => ∃ k : Nat, k ≤ n ∧ i = .int .i64 k ∧ Hid (Below w.heap.size w wr)) (fun i _ => n - (intOf i).toNat)
  case atStart => exact ⟨0, Nat.zero_le _, rfl, Below.refl _ _⟩
  case round =>
    obtain ⟨k, hk, rfl, hB⟩ := hrel
    by_cases hkn : k < n
    · have hki : (k : Int) < (n : Int) := by omega
      obtain ⟨d0, d1, d2, d3, d4⟩ := (hc k hkn).below hB.out hb
      obtain ⟨d0', d1', d2', d3', d4'⟩ := (hc' k hkn).below hB.out hb'
      have hE := fun w => eqHead_same (hAt l k).e (hAt l k).p (hAt l k).o (hAt l k).n (hAt l k).v w
      unfold hdV at hE
      generalize (hAt l k).e = x0 at *
      generalize (hAt l k).p = x1 at *
      generalize (hAt l k).o = x2 at *
      generalize (hAt l k).n = x3 at *
      generalize (hAt l k).v = x4 at *
      have q0 := After.cell d0
      have q1 := After.cell d1
      have q2 := After.cell d2
      have q3 := After.cell d3
      have q4 := After.cell d4
      have p0 := After.cell d0'
      have p1 := After.cell d1'
      have p2 := After.cell d2'
      have p3 := After.cell d3'
      have p4 := After.cell d4'
      have hne := After.ne wr
      clear hc hc' d0 d1 d2 d3 d4 d0' d1' d2' d3' d4'
      go_wp2_with fail
      refine wp_region_after (by kernel_rfl) (by kernel_rfl) ?_
      repeat (first | go_big_quiet_skip | (go_big_quiet_want; go_big_quiet_op; first | go_big_quiet_on | go_big_quiet_call (first | (go_at_call 84; refine (hE _).mono ?_; rintro e wq ⟨rfl, hbq⟩; exact ⟨rfl, after_mk (below_after_of (After.b _) hbq)⟩))))
      refine wpQuiet_nil ?_
      rintro _ ⟨n6, rfl⟩
      have HB6 : Hid (Below w.heap.size w n6.w) := below_after_of hB.out n6.b
      generalize n6.w = w6 at *
      clear hne q0 q1 q2 q3 q4 p0 p1 p2 p3 p4 n6 hE
      go_wp2
      go_roundw
      case rel => exact ⟨k + 1, by omega, by go_num, HB6⟩
      case measure => simp [intOf]; omega
    · have hkn : k = n := by omega
      subst hkn
      clear hc hc'
      go_wp2
      go_ret
      exact ⟨rfl, hB.out⟩
set_option maxRecDepth 100000 in
set_option maxHeartbeats 1000000 in
theorem eqHeadS_same (v u : Value) (l : Hdl) (w : World) (hv : Hds w v l) (hu : Hds w u l) (hx : l.length ≤ 1048576) :
    Calls Try.prog 41 #[v, u] w fun e w' => e = .returned (.bool true) ∧ Below w.heap.size w w' := by
  obtain ⟨a, c, rfl⟩ := hv.shape
  obtain ⟨a', c', rfl⟩ := hu.shape
  by_cases h0 : 0 < l.length
  · obtain ⟨_, b, off, rfl, hb, hc⟩ := hv.at h0
    obtain ⟨_, b', off', rfl, hb', hc'⟩ := hu.at h0
    exact eqHeadS_core b off c b' off' c' l.length l w hx hb hb' hc hc'
  · have e1 : l = [] := List.eq_nil_of_length_eq_zero (by omega)
    subst e1
    simp only [List.length_nil] at *
    clear hv hu h0
    go_enter Try.func41, Try.ntmps41
    go_wp2
    refine wp_loop_rounds 1 ?_; rw [rounds_succ]
    go_wp2
    go_ret
    exact ⟨rfl, Below.refl _ _⟩
set_option maxRecDepth 100000 in
set_option maxHeartbeats 1000000 in
theorem szHeadS_any (a : Option Addr) (n c : Nat) (w : World) (hn : n ≤ maxLen) :
    Calls Try.prog 37 #[.slice a n c, .int .i64 1048576] w fun e w' => e = .returned (.int .i64 (if n ≤ 1048576 then (1048576 - n : Int) else -1)) ∧ w' = w := by
  unfold maxLen at hn
  by_cases h1 : n ≤ 1048576
  · rw [if_pos h1]
    go_enter Try.func37, Try.ntmps37
    go_wp2
    go_ret
    exact ⟨rfl, rfl⟩
  · rw [if_neg h1]
    go_enter Try.func37, Try.ntmps37
    go_wp2
    go_ret
    exact ⟨rfl, rfl⟩
end U
end Go.Proofs.Ytcdodpcdennemaa

/- States as the laws look at them: sizes. -/
namespace Go.Proofs.Ytcdodpcdennemaa
open Go.RowKit
namespace U
set_option maxRecDepth 100000 in
set_option maxHeartbeats 1000000 in
theorem szSlotS_z (a : Option Addr) (n c : Nat) (z : Int) (w : World) (hn : n ≤ maxLen) (hz : 0 ≤ z ∧ z ≤ 1048576) :
    Calls Try.prog 102 #[.slice a n c, .int .i64 z] w fun e w' => e = .returned (.int .i64 (if z - n < 0 then -1 else z - n)) ∧ Below w.heap.size w w' := by
  unfold maxLen at hn
  by_cases h : z - n < 0
  · rw [if_pos h]
    go_enter Try.func102, Try.ntmps102
    go_wp2
    go_ret
    exact ⟨rfl, Below.refl _ _⟩
  · rw [if_neg h]
    go_enter Try.func102, Try.ntmps102
    go_wp2
    go_ret
    exact ⟨rfl, Below.refl _ _⟩
set_option maxRecDepth 100000 in
set_option maxHeartbeats 1000000 in
theorem szHeadS_z (a : Option Addr) (n c : Nat) (z : Int) (w : World) (hn : n ≤ maxLen) (hz : 0 ≤ z ∧ z ≤ 1048576) :
    Calls Try.prog 37 #[.slice a n c, .int .i64 z] w fun e w' => e = .returned (.int .i64 (if z - n < 0 then -1 else z - n)) ∧ Below w.heap.size w w' := by
  unfold maxLen at hn
  by_cases h : z - n < 0
  · rw [if_pos h]
    go_enter Try.func37, Try.ntmps37
    go_wp2
    go_ret
    exact ⟨rfl, Below.refl _ _⟩
  · rw [if_neg h]
    go_enter Try.func37, Try.ntmps37
    go_wp2
    go_ret
    exact ⟨rfl, Below.refl _ _⟩
/-- What is left of a size behind some directories; all small if anything is. -/
def szD (p : Pst) (z : Int) : Nat → Int
  | 0 => z - p.length
  | k + 1 => if szD p z k < 0 then -1 else szR (dAt p k) (szD p z k)
theorem szR_neg {l : Rcl} {z : Int} (h : szR l z < 0) : szR l z = -1 := by
  unfold szR at h ⊢
  by_cases h1 : szT l z l.length < 0 <;> simp [h1] at h ⊢
theorem szR_le {l : Rcl} {z : Int} (h0 : 0 ≤ z) : szR l z ≤ z := by
  unfold szR
  split
  · omega
  · exact szT_le
theorem szD_neg {p : Pst} {z : Int} {k : Nat} (h : szD p z k < 0) : ∀ d, szD p z (k + d) < 0
  | 0 => h
  | d + 1 => by
    have := szD_neg h d
    show (if szD p z (k + d) < 0 then -1 else szR (dAt p (k + d)) (szD p z (k + d))) < 0
    rw [if_pos this]
    omega
theorem szD_le {p : Pst} {z : Int} (hz : 0 ≤ z) : ∀ k, szD p z k ≤ z
  | 0 => by show z - p.length ≤ z; omega
  | k + 1 => by
    have := szD_le (p := p) hz k
    show (if szD p z k < 0 then -1 else szR (dAt p k) (szD p z k)) ≤ z
    split
    · omega
    · have := szR_le (l := dAt p k) (z := szD p z k) (by omega)
      omega
def szP (p : Pst) (z : Int) : Int := if szD p z p.length < 0 then -1 else szD p z p.length
theorem szR_cut {l : Rcl} {z : Int} (hz : z ≤ 1048576) (h : ¬ szR l z < 0) : szR l z ≤ z - l.length := by
  have h1 := (szR_ok hz h).2.2.2
  have h2 := szT_mono l z 0 l.length
  rw [Nat.zero_add] at h2
  have h3 : szT l z 0 = z - l.length := rfl
  omega
theorem szD_tot {p : Pst} {z : Int} (hz : z ≤ 1048576) (h0 : 0 ≤ z) : ∀ k, ¬ szD p z k < 0 → szD p z k ≤ z - tot p k
  | 0, _ => by
    show z - p.length ≤ z - ((0 : Nat) : Int)
    omega
  | k + 1, h => by
    have e : szD p z (k + 1) = if szD p z k < 0 then -1 else szR (dAt p k) (szD p z k) := rfl
    by_cases h1 : szD p z k < 0
    · rw [e, if_pos h1] at h; omega
    · have h2 := szD_tot hz h0 k h1
      rw [e, if_neg h1] at h ⊢
      have h3 := szD_le (p := p) h0 k
      have h4 := szR_cut (by omega) h
      have e2 : tot p (k + 1) = tot p k + (dAt p k).length := rfl
      rw [e2]
      omega
theorem szP_ok {p : Pst} {z : Int} (hz : z ≤ 1048576) (h0 : 0 ≤ z) (h : ¬ szP p z < 0) : p.length ≤ 1048576 ∧ (∀ j, j < p.length → (dAt p j).length ≤ 1048576 ∧ Lbs (dAt p j)) ∧ ∀ j, j ≤ p.length → tot p j ≤ 1048576 := by
  unfold szP at h
  by_cases h1 : szD p z p.length < 0
  · rw [if_pos h1] at h; omega
  · have hk : ∀ k, k ≤ p.length → ¬ szD p z k < 0 := fun k hk hn => by
      have := szD_neg hn (p.length - k)
      rw [show k + (p.length - k) = p.length by omega] at this
      exact h1 this
    refine ⟨?_, fun j hj => ?_, fun j hj => ?_⟩
    · have h2 := hk 0 (Nat.zero_le _)
      have e : szD p z 0 = z - p.length := rfl
      rw [e] at h2
      omega
    · have h2 := hk (j + 1) hj
      have h3 := hk j (by omega)
      have e : szD p z (j + 1) = if szD p z j < 0 then -1 else szR (dAt p j) (szD p z j) := rfl
      rw [e, if_neg h3] at h2
      have := szD_le (p := p) h0 j
      have := szR_ok (l := dAt p j) (z := szD p z j) (by omega) h2
      exact ⟨this.1, this.2.1⟩
    · have := szD_tot hz h0 j (hk j hj)
      have := hk j hj
      omega
set_option maxRecDepth 100000 in
set_option maxHeartbeats 2000000 in
theorem szDirectoryS_core (b off c n : Nat) (p : Pst) (z : Int) (w : World) (HN : Hid (n = p.length)) (hn : n ≤ 1048576) (hz : 0 ≤ z ∧ z ≤ 1048576) (hnz : ¬ z - n < 0) (hb : b < w.heap.size) (hM : ∀ j, j < n → (dAt p j).length ≤ maxLen ∧ LbM (dAt p j)) (hc : ∀ j, j < n → ∃ u, w.cell? ⟨b, off + j, none⟩ = some u ∧ Rcs w u (dAt p j)) :
    Calls Try.prog 103 #[.slice (some ⟨b, off, none⟩) n c, .int .i64 z] w fun e w' => e = .returned (.int .i64 (szP p z)) ∧ Below w.heap.size w w' := by
  have e0 : szD p z 0 = z - n := by rw [HN.out]; rfl
  have HZ : Hid (szP p z = if szD p z n < 0 then -1 else szD p z n) := (by rw [HN.out]; rfl : szP p z = if szD p z n < 0 then -1 else szD p z n)
  have HM : Hid (∀ k d, szD p z k < 0 → szD p z (k + d) < 0) := fun k d h => szD_neg h d
  have HL : Hid (∀ k, szD p z k ≤ z) := fun k => szD_le hz.1 k
  generalize szP p z = q at *
  go_enter Try.func103, Try.ntmps103
  go_wp2
  go_loopw [1, 5] (fun u i wr => ∃ k : Nat, k ≤ n ∧ i = .int .i64 k ∧ u = .int .i64 (szD p z k) ∧ 0 ≤ szD p z k ∧ Hid (Below w.heap.size w wr)) (fun _ i _ => n - (intOf i).toNat)
  case atStart => exact ⟨0, Nat.zero_le _, rfl, by rw [e0], by omega, Below.refl _ _⟩
  case round =>
    obtain ⟨k, hk, rfl, rfl, h0, hB⟩ := hrel
    by_cases hkn : k < n
    · have hki : (k : Int) < (n : Int) := by omega
      obtain ⟨u, hu, hr⟩ := hc k hkn
      have d0 := (hB.out.cell (p := ⟨b, off + k, none⟩) hb).trans hu
      have hbr : b < wr.heap.size := Nat.lt_of_lt_of_le hb hB.out.size
      have hS := szDirectory_any u (dAt p k) (szD p z k) wr (hr.below hB.out) (hM k hkn).2 (hM k hkn).1 ⟨h0, by have := HL.out k; omega⟩
      have HX : Hid (szD p z (k + 1) = szR (dAt p k) (szD p z k)) := (by show (if szD p z k < 0 then -1 else szR (dAt p k) (szD p z k)) = _; rw [if_neg (by omega)] : szD p z (k + 1) = szR (dAt p k) (szD p z k))
      have HQ : Hid (szR (dAt p k) (szD p z k) < 0 → q = -1) := (fun h => by
        have := HM.out (k + 1) (n - (k + 1)) (by rw [HX.out]; exact h)
        rw [show k + 1 + (n - (k + 1)) = n by omega] at this
        rw [HZ.out, if_pos this] : szR (dAt p k) (szD p z k) < 0 → q = -1)
      have HNE : Hid (szR (dAt p k) (szD p z k) < 0 → szR (dAt p k) (szD p z k) = -1) := szR_neg
      obtain ⟨a, c', rfl⟩ := hr.shape
      generalize (dAt p k).length = m at *
      generalize szR (dAt p k) (szD p z k) = s1 at *
      have HS1 : Hid (szD p z (k + 1) = s1) := HX
      generalize szD p z k = s0 at *
      clear hc hM HX hr hu
      by_cases hlt : s1 < 0
      · have HQ2 : Hid (q = -1) := HQ.out hlt
        clear HQ
        go_wp2_with fail
        refine hS.mono ?_
        rintro e w1 ⟨rfl, hb1⟩
        have HB1 : Hid (Below w.heap.size w w1) := below_after_of hB.out hb1
        clear hS hb1
        go_wp2
        go_ret
        exact ⟨ret_int HQ2.out.symm, HB1.out⟩
      · clear HQ
        go_wp2_with fail
        refine hS.mono ?_
        rintro e w1 ⟨rfl, hb1⟩
        have HB1 : Hid (Below w.heap.size w w1) := below_after_of hB.out hb1
        clear hS hb1
        go_wp2
        go_roundw
        case rel => exact ⟨k + 1, by omega, by go_num, by rw [HS1.out], by rw [HS1.out]; omega, HB1⟩
        case measure => simp [intOf]; omega
    · have hkn : k = n := by omega
      subst hkn
      have HQ2 : Hid (q = szD p z k) := (by rw [HZ.out, if_neg (by omega)] : q = szD p z k)
      generalize szD p z k = s0 at *
      clear hc
      go_wp2
      go_ret
      exact ⟨ret_int HQ2.out.symm, hB.out⟩
set_option maxRecDepth 100000 in
set_option maxHeartbeats 1000000 in
theorem szDirectoryS_any (v : Value) (p : Pst) (z : Int) (w : World) (hv : Dss w v p) (hM : ∀ j, j < p.length → (dAt p j).length ≤ maxLen ∧ LbM (dAt p j)) (hx : p.length ≤ maxLen) (hz : 0 ≤ z ∧ z ≤ 1048576) :
    Calls Try.prog 103 #[v, .int .i64 z] w fun e w' => e = .returned (.int .i64 (szP p z)) ∧ Below w.heap.size w w' := by
  obtain ⟨a, c, rfl⟩ := hv.shape
  by_cases h : z - p.length < 0
  · have HQ : szP p z = -1 := by
      have h2 := szD_neg (p := p) (z := z) (k := 0) h p.length
      rw [Nat.zero_add] at h2
      unfold szP
      rw [if_pos h2]
    rw [HQ]
    generalize p.length = n at *
    unfold maxLen at hx
    clear hv HQ hM
    go_enter Try.func103, Try.ntmps103
    go_wp2
    go_ret
    exact ⟨rfl, Below.refl _ _⟩
  · by_cases h0 : 0 < p.length
    · obtain ⟨_, b, off, rfl, hb, hc⟩ := hv.at h0
      exact szDirectoryS_core b off c p.length p z w rfl (by omega) hz h hb hM hc
    · have e1 : p = [] := List.eq_nil_of_length_eq_zero (by omega)
      subst e1
      have e2 : szP [] z = z := by
        have e3 : szD [] z 0 = z := by show z - 0 = z; omega
        show (if szD [] z 0 < 0 then -1 else szD [] z 0) = z
        rw [e3, if_neg (by omega)]
      rw [e2]
      simp only [List.length_nil]
      have hzn : ¬ z < 0 := by omega
      clear hv h0 hx h e2 hM
      go_enter Try.func103, Try.ntmps103
      go_wp2
      refine wp_loop_rounds 1 ?_; rw [rounds_succ]
      go_wp2
      go_ret
      exact ⟨rfl, Below.refl _ _⟩
/-- What is left of a size behind a state. -/
def szN (n : Nat) (z : Int) : Int := if z - n < 0 then -1 else z - n
def szS (s : St) (z : Int) : Int :=
  if szR s.d z < 0 then -1 else if szN s.n.length (szR s.d z) < 0 then -1 else if szN s.h.length (szN s.n.length (szR s.d z)) < 0 then -1 else szP s.p (szN s.h.length (szN s.n.length (szR s.d z)))
theorem szN_ok {n : Nat} {z : Int} (hz : z ≤ 1048576) (h : ¬ szN n z < 0) : n ≤ 1048576 ∧ 0 ≤ szN n z ∧ szN n z ≤ z := by
  unfold szN at h ⊢
  by_cases h1 : z - n < 0
  · rw [if_pos h1] at h; omega
  · rw [if_neg h1]; omega
theorem szP_le {p : Pst} {z : Int} (h0 : 0 ≤ z) : szP p z ≤ z := by
  unfold szP
  split
  · omega
  · exact szD_le h0 _
theorem szS_ok {s : St} {z : Int} (h0 : 0 ≤ z) (hz : z ≤ 1048576) (h : ¬ szS s z < 0) : StB s ∧ 0 ≤ szS s z ∧ szS s z ≤ z := by
  unfold szS at h ⊢
  by_cases h1 : szR s.d z < 0
  · rw [if_pos h1] at h; omega
  · rw [if_neg h1] at h ⊢
    have k1 := szR_ok hz h1
    by_cases h2 : szN s.n.length (szR s.d z) < 0
    · rw [if_pos h2] at h; omega
    · rw [if_neg h2] at h ⊢
      have k2 := szN_ok (by omega) h2
      by_cases h3 : szN s.h.length (szN s.n.length (szR s.d z)) < 0
      · rw [if_pos h3] at h; omega
      · rw [if_neg h3] at h ⊢
        have k3 := szN_ok (by omega) h3
        have k4 := szP_ok (by omega) (by omega) h
        have k5 := szP_le (p := s.p) (z := szN s.h.length (szN s.n.length (szR s.d z))) (by omega)
        exact ⟨⟨k1.1, k1.2.1, k2.1, k3.1, k4.1, k4.2.1, k4.2.2⟩, by omega, by omega⟩
set_option maxRecDepth 100000 in
set_option maxHeartbeats 2000000 in
theorem szState_any (s : St) (v : Sv) (z : Int) (w : World) (hv : Sts w v s) (hA : StA s) (hz : 0 ≤ z ∧ z ≤ 1048576) :
    Calls Try.prog 61 #[stV s v, .int .i64 z] w fun e w' => e = .returned (.int .i64 (szS s z)) ∧ Below w.heap.size w w' := by
  obtain ⟨W, hW⟩ : ∃ W, W = w.alloc (stC s v 69) := ⟨_, rfl⟩
  have hBW : Below w.heap.size w W := by rw [hW]; exact one_new _
  have HC : Hid (StC W w.heap.size s v) := (by rw [hW]; exact StC.new w s v _ : StC W w.heap.size s v)
  have hvW := hv.below hBW
  have hD := szDirectory_any v.d s.d z W hvW.d hA.dl hA.d hz
  have HP : Hid (∀ z w', 0 ≤ z ∧ z ≤ 1048576 → Below W.heap.size W w' → Calls Try.prog 103 #[v.p, .int .i64 z] w' fun e w'' => e = .returned (.int .i64 (szP s.p z)) ∧ Below w'.heap.size w' w'') := fun z w' hz h => szDirectoryS_any v.p s.p z w' (hvW.p.below h) hA.pd hA.p hz
  have hok1 := fun h => szR_ok (l := s.d) (z := z) hz.2 h
  have HPN : Hid (∀ z, szP s.p z < 0 → szP s.p z = -1) := fun z h => by
    unfold szP at h ⊢
    by_cases h1 : szD s.p z s.p.length < 0 <;> simp [h1] at h ⊢
  have hlN := hA.n
  have hlH := hA.h
  obtain ⟨a1, c1, e1⟩ := hv.d.shape
  obtain ⟨a2, c2, e2⟩ := hv.n.shape
  obtain ⟨a3, c3, e3⟩ := hv.h.shape
  obtain ⟨a4, c4, e4⟩ := hv.p.shape
  obtain ⟨ph, cu, d, n, h, p⟩ := s
  obtain ⟨vd, vn, vh, vp⟩ := v
  dsimp only at *
  subst e1 e2 e3 e4
  unfold stV szS
  dsimp only
  have HW : Hid (w.alloc (.cells #[.int .i64 ph, .int .i64 cu, .slice a1 d.length c1, .slice a2 n.length c2, .slice a3 h.length c3, .slice a4 p.length c4] 69) = W) := hW.symm
  clear hW
  have HC2 : Hid (∀ w', Below W.heap.size W w' → StC w' w.heap.size ⟨ph, cu, d, n, h, p⟩ ⟨.slice a1 d.length c1, .slice a2 n.length c2, .slice a3 h.length c3, .slice a4 p.length c4⟩) := fun w' hb => HC.out.below hb HC.out.lt
  have HNN : Hid (∀ k : Nat, ∀ z, szN k z < 0 → szN k z = -1) := fun k z h => by
    unfold szN at h ⊢
    by_cases h1 : z - k < 0
    · rw [if_pos h1]
    · rw [if_neg h1] at h; omega
  have HD1 : Hid (szR d z < 0 → szR d z = -1) := szR_neg
  generalize szR d z = z1 at *
  clear hv hvW hA HC
  by_cases h1 : z1 < 0
  · rw [if_pos h1]
    have e := HD1.out h1
    subst e
    generalize d.length = dn at *
    generalize n.length = nn at *
    generalize h.length = hn at *
    generalize p.length = pn at *
    clear hok1 HP HPN HC2
    go_enter Try.func61, Try.ntmps61
    go_wp2_with fail
    rw [HW.out]
    refine hD.mono ?_
    rintro e w1 ⟨rfl, hb1⟩
    have HB : Hid (Below w.heap.size w w1) := below_after_of hBW hb1
    clear hD hb1
    go_wp2
    go_ret
    exact ⟨rfl, HB.out⟩
  · rw [if_neg h1]
    obtain ⟨-, -, k1, -⟩ := hok1 h1
    clear hok1 HD1
    have hN := fun w => szSlotS_z a2 n.length c2 z1 w hlN ⟨by omega, by omega⟩
    have e5 : (if z1 - (n.length : Int) < 0 then -1 else z1 - (n.length : Int)) = szN n.length z1 := rfl
    rw [e5] at hN
    have hok2 := fun h => szN_ok (n := n.length) (z := z1) (by omega) h
    have HN1 := HNN.out n.length z1
    generalize szN n.length z1 = z2 at *
    clear e5
    by_cases h2 : z2 < 0
    · rw [if_pos h2]
      have e := HN1 h2
      subst e
      generalize d.length = dn at *
      generalize n.length = nn at *
      generalize h.length = hn at *
      generalize p.length = pn at *
      clear hok2 HP HPN HNN HN1
      go_enter Try.func61, Try.ntmps61
      go_wp2_with fail
      rw [HW.out]
      refine hD.mono ?_
      rintro e w1 ⟨rfl, hb1⟩
      have HB : Hid (Below w.heap.size w w1) := below_after_of hBW hb1
      have k3 := (HC2.out _ hb1).c3
      dsimp only at k3
      clear hD hb1
      go_wp2_with fail
      refine (hN _).mono ?_
      rintro e w2 ⟨rfl, hb2⟩
      have HB2 : Hid (Below w.heap.size w w2) := below_after_of HB.out hb2
      clear hN hb2
      go_wp2
      go_ret
      exact ⟨rfl, HB2.out⟩
    · rw [if_neg h2]
      obtain ⟨-, k2, k3⟩ := hok2 h2
      clear hok2 HN1
      have hH := fun w => szHeadS_z a3 h.length c3 z2 w hlH ⟨by omega, by omega⟩
      have e5 : (if z2 - (h.length : Int) < 0 then -1 else z2 - (h.length : Int)) = szN h.length z2 := rfl
      rw [e5] at hH
      have hok3 := fun h' => szN_ok (n := h.length) (z := z2) (by omega) h'
      have HN1 := HNN.out h.length z2
      generalize szN h.length z2 = z3 at *
      clear e5
      by_cases h3 : z3 < 0
      · rw [if_pos h3]
        have e := HN1 h3
        subst e
        generalize d.length = dn at *
        generalize n.length = nn at *
        generalize h.length = hn at *
        generalize p.length = pn at *
        clear hok3 HP HPN HNN HN1
        go_enter Try.func61, Try.ntmps61
        go_wp2_with fail
        rw [HW.out]
        refine hD.mono ?_
        rintro e w1 ⟨rfl, hb1⟩
        have HB : Hid (Below W.heap.size W w1) := hb1
        have q3 := (HC2.out _ hb1).c3
        dsimp only at q3
        clear hD hb1
        go_wp2_with fail
        refine (hN _).mono ?_
        rintro e w2 ⟨rfl, hb2⟩
        have HB2 : Hid (Below W.heap.size W w2) := below_after_of HB.out hb2
        have q4 := (HC2.out _ HB2.out).c4
        dsimp only at q4
        clear hN hb2
        go_wp2_with fail
        refine (hH _).mono ?_
        rintro e w3 ⟨rfl, hb3⟩
        have HB3 : Hid (Below w.heap.size w w3) := below_after_of hBW (below_after_of HB2.out hb3)
        clear hH hb3
        go_wp2
        go_ret
        exact ⟨rfl, HB3.out⟩
      · rw [if_neg h3]
        obtain ⟨-, k4, k5⟩ := hok3 h3
        clear hok3 HN1
        have HP1 := HP.out z3
        have HPN1 := HPN.out z3
        generalize szP p z3 = z4 at *
        generalize d.length = dn at *
        generalize n.length = nn at *
        generalize h.length = hn at *
        generalize p.length = pn at *
        clear HP HPN HNN
        by_cases h4 : z4 < 0
        · have e := HPN1 h4
          subst e
          clear HPN1
          go_enter Try.func61, Try.ntmps61
          go_wp2_with fail
          rw [HW.out]
          refine hD.mono ?_
          rintro e w1 ⟨rfl, hb1⟩
          have HB : Hid (Below W.heap.size W w1) := hb1
          have q3 := (HC2.out _ hb1).c3
          dsimp only at q3
          clear hD hb1
          go_wp2_with fail
          refine (hN _).mono ?_
          rintro e w2 ⟨rfl, hb2⟩
          have HB2 : Hid (Below W.heap.size W w2) := below_after_of HB.out hb2
          have q4 := (HC2.out _ HB2.out).c4
          dsimp only at q4
          clear hN hb2
          go_wp2_with fail
          refine (hH _).mono ?_
          rintro e w3 ⟨rfl, hb3⟩
          have HB3 : Hid (Below W.heap.size W w3) := below_after_of HB2.out hb3
          have q5 := (HC2.out _ HB3.out).c5
          dsimp only at q5
          have hP := HP1 w3 ⟨by omega, by omega⟩ HB3.out
          clear hH hb3 HP1
          go_wp2_with fail
          refine hP.mono ?_
          rintro e w4 ⟨rfl, hb4⟩
          have HB4 : Hid (Below w.heap.size w w4) := below_after_of hBW (below_after_of HB3.out hb4)
          clear hP hb4
          go_wp2
          go_ret
          exact ⟨rfl, HB4.out⟩
        · clear HPN1
          go_enter Try.func61, Try.ntmps61
          go_wp2_with fail
          rw [HW.out]
          refine hD.mono ?_
          rintro e w1 ⟨rfl, hb1⟩
          have HB : Hid (Below W.heap.size W w1) := hb1
          have q3 := (HC2.out _ hb1).c3
          dsimp only at q3
          clear hD hb1
          go_wp2_with fail
          refine (hN _).mono ?_
          rintro e w2 ⟨rfl, hb2⟩
          have HB2 : Hid (Below W.heap.size W w2) := below_after_of HB.out hb2
          have q4 := (HC2.out _ HB2.out).c4
          dsimp only at q4
          clear hN hb2
          go_wp2_with fail
          refine (hH _).mono ?_
          rintro e w3 ⟨rfl, hb3⟩
          have HB3 : Hid (Below W.heap.size W w3) := below_after_of HB2.out hb3
          have q5 := (HC2.out _ HB3.out).c5
          dsimp only at q5
          have hP := HP1 w3 ⟨by omega, by omega⟩ HB3.out
          clear hH hb3 HP1
          go_wp2_with fail
          refine hP.mono ?_
          rintro e w4 ⟨rfl, hb4⟩
          have HB4 : Hid (Below w.heap.size w w4) := below_after_of hBW (below_after_of HB3.out hb4)
          clear hP hb4
          go_wp2
          go_ret
          exact ⟨rfl, HB4.out⟩
end U
end Go.Proofs.Ytcdodpcdennemaa

/- Rows of bytes as the laws look at them: how great they are. -/
namespace Go.Proofs.Ytcdodpcdennemaa
open Go.RowKit
namespace U
set_option maxHeartbeats 400000 in
theorem szByteS_lg (a : Option Addr) (n c : Nat) (l : Int) (w : World) (hn : n ≤ maxLen) (h0 : 0 ≤ l) (h1 : l ≤ 1048576) :
    Calls Try.prog 104 #[.slice a n c, .int .i64 l] w fun e w' => e = .returned (.int .i64 (if l < n then -1 else l - n)) ∧ w' = w := by
  unfold maxLen at hn
  by_cases h : l < n
  · rw [if_pos h]
    go_enter Try.func104, Try.ntmps104
    go_wp2
    go_ret
    exact ⟨rfl, rfl⟩
  · rw [if_neg h]
    go_enter Try.func104, Try.ntmps104
    go_wp2
    go_ret
    exact ⟨rfl, rfl⟩
/-- What is left of a size behind a row of bytes; behind some of the rows; behind all. -/
def zgB (n : Nat) (z : Int) : Int := if z < n then -1 else z - n
theorem zgB_neg {n : Nat} {z : Int} (h : zgB n z < 0) : zgB n z = -1 := by
  by_cases e : z < n
  · unfold zgB
    rw [if_pos e]
  · unfold zgB at h
    rw [if_neg e] at h
    omega
def zgS (p : Lgl) (z : Int) : Nat → Int
  | 0 => z - p.length
  | k + 1 => if zgS p z k < 0 then -1 else zgB (lAt p k).length (zgS p z k)
def zgL (p : Lgl) (z : Int) : Int := if zgS p z p.length < 0 then -1 else zgS p z p.length
theorem zgS_neg {p : Lgl} {z : Int} {k : Nat} (h : zgS p z k < 0) : ∀ d, zgS p z (k + d) < 0
  | 0 => h
  | d + 1 => by
    show (if zgS p z (k + d) < 0 then -1 else _) < 0
    rw [if_pos (zgS_neg h d)]
    omega
theorem zgS_le {p : Lgl} {z : Int} (hz : 0 ≤ z) : ∀ k, zgS p z k ≤ z
  | 0 => by show z - p.length ≤ z; omega
  | k + 1 => by
    have := zgS_le (p := p) hz k
    show (if zgS p z k < 0 then -1 else zgB (lAt p k).length (zgS p z k)) ≤ z
    split
    · omega
    · unfold zgB
      split <;> omega
theorem zgS_ok {p : Lgl} {z : Int} (hz : z ≤ 1048576) (h0 : 0 ≤ z) (h : ¬ zgL p z < 0) : p.length ≤ 1048576 ∧ ∀ j, j < p.length → (lAt p j).length ≤ 1048576 := by
  unfold zgL at h
  by_cases h1 : zgS p z p.length < 0
  · rw [if_pos h1] at h; omega
  · have hk : ∀ k, k ≤ p.length → ¬ zgS p z k < 0 := fun k hk hn => by
      have := zgS_neg hn (p.length - k)
      rw [show k + (p.length - k) = p.length by omega] at this
      exact h1 this
    refine ⟨?_, fun j hj => ?_⟩
    · have h2 := hk 0 (Nat.zero_le _)
      have e : zgS p z 0 = z - p.length := rfl
      rw [e] at h2
      omega
    · have h2 := hk (j + 1) hj
      have h3 := hk j (by omega)
      have e : zgS p z (j + 1) = if zgS p z j < 0 then -1 else zgB (lAt p j).length (zgS p z j) := rfl
      rw [e, if_neg h3] at h2
      have := zgS_le (p := p) h0 j
      unfold zgB at h2
      split at h2 <;> omega
set_option maxRecDepth 100000 in
set_option maxHeartbeats 2000000 in
theorem szByteSS_core (b off c n : Nat) (p : Lgl) (z : Int) (w : World) (HN : Hid (n = p.length)) (hn : n ≤ 1048576) (hz : 0 ≤ z ∧ z ≤ 1048576) (hnz : ¬ z - n < 0) (hb : b < w.heap.size) (hM : ∀ j, j < n → (lAt p j).length ≤ maxLen) (hc : ∀ j, j < n → ∃ u, w.cell? ⟨b, off + j, none⟩ = some u ∧ Ints .u8 w u (lAt p j)) :
    Calls Try.prog 62 #[.slice (some ⟨b, off, none⟩) n c, .int .i64 z] w fun e w' => e = .returned (.int .i64 (zgL p z)) ∧ Below w.heap.size w w' := by
  have e0 : zgS p z 0 = z - n := by rw [HN.out]; rfl
  have HZ : Hid (zgL p z = if zgS p z n < 0 then -1 else zgS p z n) := (by rw [HN.out]; rfl : zgL p z = if zgS p z n < 0 then -1 else zgS p z n)
  have HM : Hid (∀ k d, zgS p z k < 0 → zgS p z (k + d) < 0) := fun k d h => zgS_neg h d
  have HL : Hid (∀ k, zgS p z k ≤ z) := fun k => zgS_le hz.1 k
  generalize zgL p z = q at *
  go_enter Try.func62, Try.ntmps62
  go_wp2
  go_loopw [1, 5] (fun u i wr => ∃ k : Nat, k ≤ n ∧ i = .int .i64 k ∧ u = .int .i64 (zgS p z k) ∧ 0 ≤ zgS p z k ∧ Hid (Below w.heap.size w wr)) (fun _ i _ => n - (intOf i).toNat)
  case atStart => exact ⟨0, Nat.zero_le _, rfl, by rw [e0], by omega, Below.refl _ _⟩
  case round =>
    obtain ⟨k, hk, rfl, rfl, h0, hB⟩ := hrel
    by_cases hkn : k < n
    · have hki : (k : Int) < (n : Int) := by omega
      obtain ⟨u, hu, hr⟩ := hc k hkn
      have d0 := (hB.out.cell (p := ⟨b, off + k, none⟩) hb).trans hu
      have hbr : b < wr.heap.size := Nat.lt_of_lt_of_le hb hB.out.size
      have hS0 := fun a c => szByteS_lg a (lAt p k).length c (zgS p z k) wr (hM k hkn) h0 (by have := HL.out k; omega)
      have HX : Hid (zgS p z (k + 1) = zgB (lAt p k).length (zgS p z k)) := (by show (if zgS p z k < 0 then -1 else zgB (lAt p k).length (zgS p z k)) = _; rw [if_neg (by omega)] : zgS p z (k + 1) = zgB (lAt p k).length (zgS p z k))
      have HQ : Hid (zgB (lAt p k).length (zgS p z k) < 0 → q = -1) := (fun h => by
        have := HM.out (k + 1) (n - (k + 1)) (by rw [HX.out]; exact h)
        rw [show k + 1 + (n - (k + 1)) = n by omega] at this
        rw [HZ.out, if_pos this] : zgB (lAt p k).length (zgS p z k) < 0 → q = -1)
      have HNE : Hid (zgB (lAt p k).length (zgS p z k) < 0 → zgB (lAt p k).length (zgS p z k) = -1) := zgB_neg
      obtain ⟨a, c', rfl⟩ := hr.shape
      have hS := hS0 a c'
      clear hS0
      change Calls Try.prog 104 _ wr (fun e w' => e = .returned (.int .i64 (zgB (lAt p k).length (zgS p z k))) ∧ w' = wr) at hS
      generalize (lAt p k).length = m at *
      generalize zgB m (zgS p z k) = s1 at *
      have HS1 : Hid (zgS p z (k + 1) = s1) := HX
      generalize zgS p z k = s0 at *
      clear hc hM HX hr hu
      by_cases hlt : s1 < 0
      · have HQ2 : Hid (q = -1) := HQ.out hlt
        clear HQ
        go_wp2_with fail
        refine hS.mono ?_
        rintro e w1 ⟨rfl, hw1⟩; subst hw1
        have HB1 := hB
        clear hS
        go_wp2
        go_ret
        exact ⟨ret_int HQ2.out.symm, HB1.out⟩
      · clear HQ
        go_wp2_with fail
        refine hS.mono ?_
        rintro e w1 ⟨rfl, hw1⟩; subst hw1
        have HB1 := hB
        clear hS
        go_wp2
        go_roundw
        case rel => exact ⟨k + 1, by omega, by go_num, by rw [HS1.out], by rw [HS1.out]; omega, HB1⟩
        case measure => simp [intOf]; omega
    · have hkn : k = n := by omega
      subst hkn
      have HQ2 : Hid (q = zgS p z k) := (by rw [HZ.out, if_neg (by omega)] : q = zgS p z k)
      generalize zgS p z k = s0 at *
      clear hc
      go_wp2
      go_ret
      exact ⟨ret_int HQ2.out.symm, hB.out⟩
set_option maxRecDepth 100000 in
set_option maxHeartbeats 1000000 in
theorem szByteSS_any (v : Value) (p : Lgl) (z : Int) (w : World) (hv : Lgs w v p) (hM : ∀ j, j < p.length → (lAt p j).length ≤ maxLen) (hx : p.length ≤ maxLen) (hz : 0 ≤ z ∧ z ≤ 1048576) :
    Calls Try.prog 62 #[v, .int .i64 z] w fun e w' => e = .returned (.int .i64 (zgL p z)) ∧ Below w.heap.size w w' := by
  obtain ⟨a, c, rfl⟩ := hv.shape
  by_cases h : z - p.length < 0
  · have HQ : zgL p z = -1 := by
      have h2 := zgS_neg (p := p) (z := z) (k := 0) h p.length
      rw [Nat.zero_add] at h2
      unfold zgL
      rw [if_pos h2]
    rw [HQ]
    generalize p.length = n at *
    unfold maxLen at hx
    clear hv HQ hM
    go_enter Try.func62, Try.ntmps62
    go_wp2
    go_ret
    exact ⟨rfl, Below.refl _ _⟩
  · by_cases h0 : 0 < p.length
    · obtain ⟨_, b, off, rfl, hb, hc⟩ := hv.at h0
      exact szByteSS_core b off c p.length p z w rfl (by omega) hz h hb hM hc
    · have e1 : p = [] := List.eq_nil_of_length_eq_zero (by omega)
      subst e1
      have e2 : zgL [] z = z := by
        have e3 : zgS [] z 0 = z := by show z - 0 = z; omega
        show (if zgS [] z 0 < 0 then -1 else zgS [] z 0) = z
        rw [e3, if_neg (by omega)]
      rw [e2]
      simp only [List.length_nil]
      have hzn : ¬ z < 0 := by omega
      clear hv h0 hx h e2 hM
      go_enter Try.func62, Try.ntmps62
      go_wp2
      refine wp_loop_rounds 1 ?_; rw [rounds_succ]
      go_wp2
      go_ret
      exact ⟨rfl, Below.refl _ _⟩
end U
end Go.Proofs.Ytcdodpcdennemaa

/- States as the laws look at them: copied. -/
namespace Go.Proofs.Ytcdodpcdennemaa
open Go.RowKit
namespace U
theorem Try.infoDi : (Try.prog.info? 47).map (fun i => (i.zero, i.size, i.bytes)) = some (some (.agg #[.slice none 0 0]), 1, 24) := by kernel_rfl
theorem made_oneD (n : Nat) : (madeCells #[Value.slice none 0 0] n).toList = List.replicate n nilV := by
  apply List.ext_getElem?
  intro i
  by_cases hi : i < n
  · have hm : (madeCells #[Value.slice none 0 0] n).toList[i]? = some (#[Value.slice none 0 0][i % 1]!) := by
      simp only [madeCells, Array.toList_map, List.getElem?_map]
      rw [show (Array.range n).toList[i]? = some i by simp [hi]]
      rfl
    rw [hm, List.getElem?_replicate, if_pos hi, Nat.mod_one]
    rfl
  · rw [List.getElem?_eq_none (by simp [madeCells]; omega), List.getElem?_eq_none (by rw [List.length_replicate]; omega)]
theorem own_some1D {w : World} {B g n cap : Nat} {e : TypeId} {xs : List Value} (h : w.ownsRow B e 1 (.slice (some ⟨g, 0, none⟩) n cap) n xs) {j : Nat} (hj : j < n) : ∃ x, w.cell? ⟨g, j, none⟩ = some x :=
  ⟨_, (h.cellAt j (by omega)).trans (List.getElem?_eq_getElem (by rw [h.1]; omega))⟩
theorem set_rep {us : List Value} {n : Nat} (v : Value) (h : us.length < n) : (us ++ List.replicate (n - us.length) nilV).set us.length v = (us ++ [v]) ++ List.replicate (n - (us.length + 1)) nilV := by
  rw [List.set_append_right _ _ (Nat.le_refl _), Nat.sub_self]
  obtain ⟨m, hm⟩ : ∃ m, n - us.length = m + 1 := ⟨n - us.length - 1, by omega⟩
  rw [hm, show n - (us.length + 1) = m by omega, List.replicate_succ, List.set_cons_zero, List.append_assoc]
  rfl
theorem pRows_snoc {us : List Value} {p : Pst} (v : Value) : pRows (us ++ [v]) p (us.length + 1) = pRows us p us.length ++ [dRow v (dAt p us.length)] := by
  show pRows (us ++ [v]) p us.length ++ [dRow (uAt (us ++ [v]) us.length) (dAt p us.length)] = _
  rw [uAt_last, pRows_us (us := us ++ [v]) (us' := us) (p := p) (p' := p) us.length (fun j hj => ⟨uAt_app hj, rfl⟩)]
set_option maxRecDepth 100000 in
set_option maxHeartbeats 4000000 in
theorem toDirectoryS_core (b off c n : Nat) (p : Pst) (w : World) (HN : Hid (n = p.length)) (hx : n ≤ 1048576) (hb : b < w.heap.size) (hc : ∀ j, j < n → ∃ u, w.cell? ⟨b, off + j, none⟩ = some u ∧ Rcs w u (dAt p j)) (hpd : ∀ j, j < n → (dAt p j).length ≤ 1048576) :
    Calls Try.prog 109 #[.slice (some ⟨b, off, none⟩) n c] w fun e w' => ∃ us, e = .returned (.slice (some ⟨w.heap.size, 0, none⟩) n n) ∧ us.length = n ∧ Below w.heap.size w w' ∧ Own w.heap.size w'.heap.size w' ([oRow (.slice (some ⟨w.heap.size, 0, none⟩) n n) us] ++ pRows us p n) := by
  obtain ⟨i0, hi, hz0, hz1, hz2⟩ := info_parts Try.infoDi
  go_enter Try.func109, Try.ntmps109
  go_wp2_with (at_make; refine wpList_make_full _ rfl _ _ 50 rfl w.heap.size 47 i0 (.agg #[.slice none 0 0]) 1 Try.underlying50 hi hz0 hz1 _ _ _ _ n rfl rfl rfl rfl (by rw [hz2]; omega) (by unfold maxLen; omega) (Nat.le_refl _) ?_)
  intro w1 hown1 hg1
  have own1 : w1.ownsRow w.heap.size 47 1 (.slice (some ⟨w.heap.size, 0, none⟩) n n) n (List.replicate n nilV) := by rw [← made_oneD]; exact hown1
  have hB1 : Below w.heap.size w w1 := (Below.refl _ _).grown hg1 (Nat.le_refl _) (fun k hk => by cases hk)
  clear hown1 hg1
  go_wp2
  go_loopw [4] (fun i wr => ∃ (k : Nat) (us : List Value), k ≤ n ∧ i = .int .i64 k ∧ Hid (us.length = k) ∧ Hid (Below w.heap.size w wr) ∧ w.heap.size < wr.heap.size ∧ Hid (wr.ownsRow w.heap.size 47 1 (.slice (some ⟨w.heap.size, 0, none⟩) n n) n (us ++ List.replicate (n - k) nilV)) ∧ Hid (Own (w.heap.size + 1) wr.heap.size wr (pRows us p k))) (fun i _ => n - (intOf i).toNat)
  case atStart => exact ⟨0, [], Nat.zero_le _, rfl, rfl, hB1, (own1.lt _ rfl).2, own1, Own.nil _ _ _⟩
  case round =>
    obtain ⟨k, us, hk, rfl, HU, hB, hsz, ho, HR⟩ := hrel
    by_cases hkn : k < n
    · have hki : (k : Int) < (n : Int) := by omega
      obtain ⟨u, hu, hr⟩ := hc k hkn
      have d0 := (hB.out.cell (p := ⟨b, off + k, none⟩) hb).trans hu
      have hbr : b < wr.heap.size := Nat.lt_of_lt_of_le hb hB.out.size
      have hT := toDirectory_any u (dAt p k) wr (hr.below hB.out) (hpd k hkn)
      obtain ⟨ua, uc, rfl⟩ := hr.shape
      have HM : Hid (dAt p k = dAt p us.length) := (by rw [HU.out] : dAt p k = dAt p us.length)
      obtain ⟨m, hm⟩ : ∃ m, m = (dAt p k).length := ⟨_, rfl⟩
      have HML : Hid (m = (dAt p k).length) := hm
      rw [← hm] at hT d0
      clear hc hpd own1 hB1 hr hu hm
      go_wp2_with fail
      refine hT.mono ?_
      rintro e w2 ⟨a2, c2, rfl, hb2, o2⟩
      have ho2 := own_below ho.out hb2
      have f0 := ho2.frozenAt k
      obtain ⟨z0, g0⟩ := own_some1D ho2 (j := k) (by omega)
      obtain ⟨s1, r1⟩ := ho2.stored k (.slice a2 m c2)
      have HS1 : Hid ((w2.setCell ⟨w.heap.size, k, none⟩ (.slice a2 m c2)).ownsRow w.heap.size 47 1 (.slice (some ⟨w.heap.size, 0, none⟩) n n) n ((us ++ [.slice a2 m c2]) ++ List.replicate (n - (k + 1)) nilV)) := (by
        have := HU.out
        subst this
        rw [set_rep _ hkn] at s1
        exact s1 : (w2.setCell ⟨w.heap.size, k, none⟩ (.slice a2 m c2)).ownsRow w.heap.size 47 1 (.slice (some ⟨w.heap.size, 0, none⟩) n n) n ((us ++ [.slice a2 m c2]) ++ List.replicate (n - (k + 1)) nilV))
      have hsz2 : w.heap.size < w2.heap.size := by have := hb2.size; omega
      have HR1 : Hid (Own (w.heap.size + 1) w2.heap.size (w2.setCell ⟨w.heap.size, k, none⟩ (.slice a2 m c2)) (pRows (us ++ [.slice a2 m c2]) p (k + 1))) := (by
        have e1 := HU.out
        subst e1
        rw [pRows_snoc]
        have A := HR.out.below hb2
        have B : Own wr.heap.size w2.heap.size w2 [dRow (.slice a2 m c2) (dAt p us.length)] := Own.single (by
          show w2.ownsRow wr.heap.size 31 4 (.slice a2 m c2) (dAt p us.length).length (flR (dAt p us.length))
          rw [← HML.out]
          exact o2) (Nat.le_refl _)
        have C := A.app B (by omega) hb2.size
        exact C.grown r1 (fun g hg e => by
          have := C.lo g hg
          have e3 : some g = some w.heap.size := e
          cases e3
          omega) : Own (w.heap.size + 1) w2.heap.size (w2.setCell ⟨w.heap.size, k, none⟩ (.slice a2 m c2)) (pRows (us ++ [.slice a2 m c2]) p (k + 1)))
      have HB2 : Hid (Below w.heap.size w (w2.setCell ⟨w.heap.size, k, none⟩ (.slice a2 m c2))) := (below_after_of hB.out hb2).setCell (Nat.le_refl _) _
      have HU1 : Hid ((us ++ [Value.slice a2 m c2]).length = k + 1) := (by rw [List.length_append, HU.out]; rfl : (us ++ [Value.slice a2 m c2]).length = k + 1)
      clear ho2 s1 r1 hb2 hT o2 ho HR HU HM HML
      go_wp2
      go_roundw
      case rel => exact ⟨k + 1, us ++ [.slice a2 m c2], by omega, by go_num, HU1, HB2, by simp; omega, HS1, (by show Own _ _ _ _; simpa using HR1.out)⟩
      case measure => simp [intOf]; omega
    · have hkn : k = n := by omega
      subst hkn
      have ho1 := ho.out
      rw [Nat.sub_self, List.replicate_zero, List.append_nil] at ho1
      have HO : Hid (Own w.heap.size wr.heap.size wr ([oRow (.slice (some ⟨w.heap.size, 0, none⟩) k k) us] ++ pRows us p k)) := (by
        have A : Own w.heap.size (w.heap.size + 1) wr [oRow (.slice (some ⟨w.heap.size, 0, none⟩) k k) us] := by
          refine ⟨fun r hr => ?_, fun g hg => ?_, ?_⟩
          · rw [List.mem_singleton] at hr
            subst hr
            show wr.ownsRow w.heap.size 47 1 (.slice (some ⟨w.heap.size, 0, none⟩) k k) us.length us
            rw [HU.out]
            exact ho1
          · have e : blks [oRow (.slice (some ⟨w.heap.size, 0, none⟩) k k) us] = [w.heap.size] := rfl
            rw [e, List.mem_singleton] at hg
            omega
          · have e : blks [oRow (.slice (some ⟨w.heap.size, 0, none⟩) k k) us] = [w.heap.size] := rfl
            rw [e]
            simp
        exact A.app HR.out (by omega) (by omega) : Own w.heap.size wr.heap.size wr ([oRow (.slice (some ⟨w.heap.size, 0, none⟩) k k) us] ++ pRows us p k))
      clear hc hpd ho1 ho own1 hB1
      go_wp2
      go_ret
      exact ⟨us, rfl, HU.out, hB.out, HO.out⟩
/-- What a copy of directories is. -/
structure DsAns (w : World) (p : Pst) (v : Value) (us : List Value) (w' : World) : Prop where
  len : us.length = p.length
  below : Below w.heap.size w w'
  own : Own w.heap.size w'.heap.size w' ([oRow v us] ++ pRows us p p.length)
  sh : ∃ a c, v = .slice a p.length c
set_option maxRecDepth 100000 in
set_option maxHeartbeats 1000000 in
theorem toDirectoryS_any (v : Value) (p : Pst) (w : World) (hv : Dss w v p) (hx : p.length ≤ 1048576) (hpd : ∀ j, j < p.length → (dAt p j).length ≤ 1048576) :
    Calls Try.prog 109 #[v] w fun e w' => ∃ u us, e = .returned u ∧ DsAns w p u us w' := by
  obtain ⟨a, c, rfl⟩ := hv.shape
  by_cases h0 : 0 < p.length
  · obtain ⟨_, b, off, rfl, hb, hc⟩ := hv.at h0
    refine (toDirectoryS_core b off c p.length p w rfl hx hb hc hpd).mono ?_
    rintro e w' ⟨us, rfl, h1, h2, h3⟩
    exact ⟨_, us, rfl, h1, h2, h3, _, _, rfl⟩
  · have e1 : p = [] := List.eq_nil_of_length_eq_zero (by omega)
    subst e1
    obtain ⟨i0, hi, hz0, hz1, hz2⟩ := info_parts Try.infoDi
    simp only [List.length_nil] at *
    clear hv h0
    go_enter Try.func109, Try.ntmps109
    go_wp2_with (at_make; refine wpList_make_full _ rfl _ _ 50 rfl w.heap.size 47 i0 (.agg #[.slice none 0 0]) 1 Try.underlying50 hi hz0 hz1 _ _ _ _ 0 rfl rfl rfl rfl (by rw [hz2]; omega) (by unfold maxLen; omega) (Nat.le_refl _) ?_)
    intro w1 hown1 hg1
    have hB1 : Below w.heap.size w w1 := (Below.refl _ _).grown hg1 (Nat.le_refl _) (fun k hk => by cases hk)
    have HO : Hid (w1.ownsRow w.heap.size 47 1 (.slice (some ⟨w.heap.size, 0, none⟩) 0 0) 0 []) := (by rw [made_oneD] at hown1; exact hown1 : w1.ownsRow w.heap.size 47 1 (.slice (some ⟨w.heap.size, 0, none⟩) 0 0) 0 [])
    clear hown1 hg1
    go_wp2
    refine wp_loop_rounds 1 ?_; rw [rounds_succ]
    go_wp2
    go_ret
    exact ⟨_, [], rfl, rfl, hB1, Own.single (r := oRow _ []) HO.out (Nat.le_refl _), _, _, rfl⟩
/-- A state copied: it owns its memory. -/
structure SaAns (w : World) (s : St) (v : Sv) (us : List Value) (w' : World) : Prop where
  below : Below w.heap.size w w'
  own : StOwn w.heap.size w'.heap.size w' v us s
theorem SaAns.sts {w : World} {s : St} {v : Sv} {us : List Value} {w' : World} (h : SaAns w s v us w') : Sts w' v s := h.own.sts
theorem Own.setCell {lo hi : Nat} {w : World} {R : List Rw} (h : Own lo hi w R) (a : Addr) (ha : a.block < lo) (x : Value) : Own lo hi (w.setCell a x) R :=
  h.blocks fun g hg => heap_setCell_other w a g x (by have := h.lo g hg; omega)
theorem StOwn.setCell {lo hi : Nat} {w : World} {v : Sv} {us : List Value} {s : St} (h : StOwn lo hi w v us s) (a : Addr) (ha : a.block < lo) (x : Value) : StOwn lo hi (w.setCell a x) v us s := ⟨h.own.setCell a ha x, h.len⟩
/-- A state that is being copied. -/
structure TsI (N : Nat) (s : St) (v : Sv) (x2 x3 x4 x5 : Value) (w : World) : Prop where
  a : w.heap[N]? = some (stC s v 69)
  z : w.heap[N + 1]? = some (.cells #[.int .i64 0, .int .i64 0, .slice none 0 0, .slice none 0 0, .slice none 0 0, .slice none 0 0] 52)
  o : w.heap[N + 1 + 1]? = some (.cells #[.int .i64 s.ph, .int .i64 s.cu, x2, x3, x4, x5] 52)
theorem TsI.lt {N : Nat} {s : St} {v : Sv} {x2 x3 x4 x5 : Value} {w : World} (h : TsI N s v x2 x3 x4 x5 w) : N + 1 + 1 < w.heap.size := (Array.getElem?_eq_some_iff.1 h.o).1
theorem TsI.below {N : Nat} {s : St} {v : Sv} {x2 x3 x4 x5 : Value} {w w' : World} (h : TsI N s v x2 x3 x4 x5 w) (hb : Below w.heap.size w w') : TsI N s v x2 x3 x4 x5 w' :=
  ⟨(hb.block N (by have := h.lt; omega)).trans h.a, (hb.block (N + 1) (by have := h.lt; omega)).trans h.z, (hb.block (N + 1 + 1) h.lt).trans h.o⟩
theorem six_cellsS {w : World} {b : Nat} {x0 x1 x2 x3 x4 x5 : Value} {t : TypeId} (h : w.heap[b]? = some (.cells #[x0, x1, x2, x3, x4, x5] t)) : (w.cell? ⟨b, 0, none⟩ = some x0 ∧ w.cell? ⟨b, 1, none⟩ = some x1 ∧ w.cell? ⟨b, 2, none⟩ = some x2 ∧ w.cell? ⟨b, 3, none⟩ = some x3 ∧ w.cell? ⟨b, 4, none⟩ = some x4 ∧ w.cell? ⟨b, 5, none⟩ = some x5) ∧ w.frozen? ⟨b, 0, none⟩ = false ∧ w.frozen? ⟨b, 1, none⟩ = false ∧ w.frozen? ⟨b, 2, none⟩ = false ∧ w.frozen? ⟨b, 3, none⟩ = false ∧ w.frozen? ⟨b, 4, none⟩ = false ∧ w.frozen? ⟨b, 5, none⟩ = false := by
  simp [World.cell?, World.frozen?, h]
theorem TsI.set2 {N : Nat} {s : St} {v : Sv} {x2 x3 x4 x5 : Value} {w : World} (h : TsI N s v x2 x3 x4 x5 w) (y : Value) : TsI N s v y x3 x4 x5 (w.setCell ⟨N + 1 + 1, 2, none⟩ y) :=
  ⟨(heap_setCell_other w ⟨N + 1 + 1, 2, none⟩ N y (by simp; omega)).trans h.a, (heap_setCell_other w ⟨N + 1 + 1, 2, none⟩ (N + 1) y (by simp)).trans h.z, by simpa using heap_setCell_same w (N + 1 + 1) 2 _ _ y h.o⟩
theorem TsI.set3 {N : Nat} {s : St} {v : Sv} {x2 x3 x4 x5 : Value} {w : World} (h : TsI N s v x2 x3 x4 x5 w) (y : Value) : TsI N s v x2 y x4 x5 (w.setCell ⟨N + 1 + 1, 3, none⟩ y) :=
  ⟨(heap_setCell_other w ⟨N + 1 + 1, 3, none⟩ N y (by simp; omega)).trans h.a, (heap_setCell_other w ⟨N + 1 + 1, 3, none⟩ (N + 1) y (by simp)).trans h.z, by simpa using heap_setCell_same w (N + 1 + 1) 3 _ _ y h.o⟩
theorem TsI.set4 {N : Nat} {s : St} {v : Sv} {x2 x3 x4 x5 : Value} {w : World} (h : TsI N s v x2 x3 x4 x5 w) (y : Value) : TsI N s v x2 x3 y x5 (w.setCell ⟨N + 1 + 1, 4, none⟩ y) :=
  ⟨(heap_setCell_other w ⟨N + 1 + 1, 4, none⟩ N y (by simp; omega)).trans h.a, (heap_setCell_other w ⟨N + 1 + 1, 4, none⟩ (N + 1) y (by simp)).trans h.z, by simpa using heap_setCell_same w (N + 1 + 1) 4 _ _ y h.o⟩
theorem TsI.set5 {N : Nat} {s : St} {v : Sv} {x2 x3 x4 x5 : Value} {w : World} (h : TsI N s v x2 x3 x4 x5 w) (y : Value) : TsI N s v x2 x3 x4 y (w.setCell ⟨N + 1 + 1, 5, none⟩ y) :=
  ⟨(heap_setCell_other w ⟨N + 1 + 1, 5, none⟩ N y (by simp; omega)).trans h.a, (heap_setCell_other w ⟨N + 1 + 1, 5, none⟩ (N + 1) y (by simp)).trans h.z, by simpa using heap_setCell_same w (N + 1 + 1) 5 _ _ y h.o⟩
set_option maxRecDepth 100000 in
set_option maxHeartbeats 4000000 in
theorem toState_any (s : St) (v : Sv) (w : World) (hv : Sts w v s) (hB : StB s) :
    Calls Try.prog 64 #[stV s v] w fun e w' => ∃ u us, e = .returned (stV s u) ∧ SaAns w s u us w' := by
  obtain ⟨W, hW⟩ : ∃ W, W = ((w.alloc (stC s v 69)).alloc (.cells #[.int .i64 0, .int .i64 0, .slice none 0 0, .slice none 0 0, .slice none 0 0, .slice none 0 0] 52)).alloc (.cells #[.int .i64 s.ph, .int .i64 s.cu, .slice none 0 0, .slice none 0 0, .slice none 0 0, .slice none 0 0] 52) := ⟨_, rfl⟩
  have hBW : Below w.heap.size w W := by rw [hW]; exact ((one_new _).alloc (one_new _).size _).alloc ((one_new _).alloc (one_new _).size _).size _
  have I0 : TsI w.heap.size s v (.slice none 0 0) (.slice none 0 0) (.slice none 0 0) (.slice none 0 0) W := by
    rw [hW]
    have h1 := heap_alloc_new w (stC s v 69)
    have h2 := heap_alloc_new (w.alloc (stC s v 69)) (.cells #[.int .i64 0, .int .i64 0, .slice none 0 0, .slice none 0 0, .slice none 0 0, .slice none 0 0] 52)
    have h3 := heap_alloc_new ((w.alloc (stC s v 69)).alloc (.cells #[.int .i64 0, .int .i64 0, .slice none 0 0, .slice none 0 0, .slice none 0 0, .slice none 0 0] 52)) (.cells #[.int .i64 s.ph, .int .i64 s.cu, .slice none 0 0, .slice none 0 0, .slice none 0 0, .slice none 0 0] 52)
    simp only [World.size_alloc] at h2 h3
    exact ⟨((one_new _).block w.heap.size (by simp; omega)).trans (((one_new _).block w.heap.size (by simp)).trans h1), ((one_new _).block (w.heap.size + 1) (by simp)).trans h2, h3⟩
  have hvW := hv.below hBW
  have hT1 := toDirectory_any v.d s.d W hvW.d hB.d
  have HT2 : Hid (∀ w', Below w.heap.size w w' → Calls Try.prog 108 #[v.n] w' fun e w'' => ∃ a c, e = .returned (.slice a s.n.length c) ∧ Below w'.heap.size w' w'' ∧ w''.ownsRow w'.heap.size 88 2 (.slice a s.n.length c) s.n.length ((fl s.n).map (Value.int .i64))) := fun w' hb => toSlotS_any v.n s.n w' (hv.n.below hb) hB.n
  have HT3 : Hid (∀ w', Below w.heap.size w w' → Calls Try.prog 39 #[v.h] w' fun e w'' => ∃ a c, e = .returned (.slice a s.h.length c) ∧ Below w'.heap.size w' w'' ∧ w''.ownsRow w'.heap.size 147 5 (.slice a s.h.length c) s.h.length (flH s.h)) := fun w' hb => toHeadS_any v.h s.h w' (hv.h.below hb) hB.h
  have HT4 : Hid (∀ w', Below w.heap.size w w' → Calls Try.prog 109 #[v.p] w' fun e w'' => ∃ u us, e = .returned u ∧ DsAns w' s.p u us w'') := fun w' hb => toDirectoryS_any v.p s.p w' (hv.p.below hb) hB.p (fun j hj => (hB.pd j hj).1)
  obtain ⟨a1, c1, e1⟩ := hv.d.shape
  obtain ⟨a2, c2, e2⟩ := hv.n.shape
  obtain ⟨a3, c3, e3⟩ := hv.h.shape
  obtain ⟨a4, c4, e4⟩ := hv.p.shape
  have HLW : Hid (w.heap.size + 1 + 1 < W.heap.size) := I0.lt
  obtain ⟨ph, cu, d, n, h, p⟩ := s
  obtain ⟨vd, vn, vh, vp⟩ := v
  dsimp only at *
  subst e1 e2 e3 e4
  have HI0 : Hid (TsI w.heap.size ⟨ph, cu, d, n, h, p⟩ ⟨.slice a1 d.length c1, .slice a2 n.length c2, .slice a3 h.length c3, .slice a4 p.length c4⟩ (.slice none 0 0) (.slice none 0 0) (.slice none 0 0) (.slice none 0 0) W) := I0
  unfold stV
  dsimp only
  have HW : Hid (((w.alloc (.cells #[.int .i64 ph, .int .i64 cu, .slice a1 d.length c1, .slice a2 n.length c2, .slice a3 h.length c3, .slice a4 p.length c4] 69)).alloc (.cells #[.int .i64 0, .int .i64 0, .slice none 0 0, .slice none 0 0, .slice none 0 0, .slice none 0 0] 52)).alloc (.cells #[.int .i64 ph, .int .i64 cu, .slice none 0 0, .slice none 0 0, .slice none 0 0, .slice none 0 0] 52) = W) := hW.symm
  have HB0 : Hid (Below w.heap.size w W) := hBW
  clear hW hv hvW hB I0 hBW
  go_enter Try.func64, Try.ntmps64
  go_wp2_with fail
  rw [HW.out]
  refine hT1.mono ?_
  rintro e w1 ⟨b1, d1, rfl, hb1, o1⟩
  have I1 := HI0.out.below hb1
  obtain ⟨⟨-, -, -, j3, -, -⟩, -⟩ := six_cellsS (I1.set2 (.slice b1 d.length d1)).a
  obtain ⟨⟨-, -, k2, -, -, -⟩, -, -, f2, -⟩ := six_cellsS I1.o
  obtain ⟨W1, hW1⟩ : ∃ W1, W1 = w1.setCell ⟨w.heap.size + 1 + 1, 2, none⟩ (.slice b1 d.length d1) := ⟨_, rfl⟩
  have HI1 : Hid (TsI w.heap.size ⟨ph, cu, d, n, h, p⟩ ⟨.slice a1 d.length c1, .slice a2 n.length c2, .slice a3 h.length c3, .slice a4 p.length c4⟩ (.slice b1 d.length d1) (.slice none 0 0) (.slice none 0 0) (.slice none 0 0) W1) := (by rw [hW1]; exact I1.set2 _ : TsI w.heap.size ⟨ph, cu, d, n, h, p⟩ ⟨.slice a1 d.length c1, .slice a2 n.length c2, .slice a3 h.length c3, .slice a4 p.length c4⟩ (.slice b1 d.length d1) (.slice none 0 0) (.slice none 0 0) (.slice none 0 0) W1)
  have hsz1 : W1.heap.size = w1.heap.size := by rw [hW1]; simp
  have HO1 : Hid (Own W.heap.size W1.heap.size W1 [dRow (.slice b1 d.length d1) d]) := (by
    rw [hsz1, hW1]
    exact (Own.single (r := dRow (.slice b1 d.length d1) d) o1 (Nat.le_refl _)).setCell _ HLW.out _ : Own W.heap.size W1.heap.size W1 [dRow (.slice b1 d.length d1) d])
  have HB1 : Hid (Below w.heap.size w W1) := (by rw [hW1]; exact (below_after_of HB0.out hb1).setCell (by show w.heap.size ≤ w.heap.size + 1 + 1; omega) _ : Below w.heap.size w W1)
  have HS2 : Hid (W.heap.size ≤ W1.heap.size) := (by rw [hsz1]; have := hb1.size; omega : W.heap.size ≤ W1.heap.size)
  have HW1 : Hid (w1.setCell ⟨w.heap.size + 1 + 1, 2, none⟩ (.slice b1 d.length d1) = W1) := hW1.symm
  clear hT1 HW
  have hC := HT2.out _ HB1.out
  clear hW1 hsz1 I1 hb1 o1
  go_wp2_with fail
  rw [HW1.out]
  clear HW1 k2 f2 j3
  refine hC.mono ?_
  rintro e w2 ⟨b2, d2, rfl, hb2, o2⟩
  clear hC
  have I2 := HI1.out.below hb2
  obtain ⟨⟨-, -, -, -, j4, -⟩, -⟩ := six_cellsS (I2.set3 (.slice b2 n.length d2)).a
  obtain ⟨⟨-, -, -, k3, -, -⟩, -, -, -, f3, -⟩ := six_cellsS I2.o
  obtain ⟨W2, hW2⟩ : ∃ W2, W2 = w2.setCell ⟨w.heap.size + 1 + 1, 3, none⟩ (.slice b2 n.length d2) := ⟨_, rfl⟩
  have HI2 : Hid (TsI w.heap.size ⟨ph, cu, d, n, h, p⟩ ⟨.slice a1 d.length c1, .slice a2 n.length c2, .slice a3 h.length c3, .slice a4 p.length c4⟩ (.slice b1 d.length d1) (.slice b2 n.length d2) (.slice none 0 0) (.slice none 0 0) W2) := (by rw [hW2]; exact I2.set3 _ : TsI w.heap.size ⟨ph, cu, d, n, h, p⟩ ⟨.slice a1 d.length c1, .slice a2 n.length c2, .slice a3 h.length c3, .slice a4 p.length c4⟩ (.slice b1 d.length d1) (.slice b2 n.length d2) (.slice none 0 0) (.slice none 0 0) W2)
  have hsz2 : W2.heap.size = w2.heap.size := by rw [hW2]; simp
  have HO2 : Hid (Own W.heap.size W2.heap.size W2 ([dRow (.slice b1 d.length d1) d] ++ [nRow (.slice b2 n.length d2) n])) := (by
    rw [hsz2, hW2]
    exact ((HO1.out.below hb2).app (Own.single (r := nRow (.slice b2 n.length d2) n) o2 (Nat.le_refl _)) (by have := hb2.size; have := HS2.out; omega) hb2.size).setCell _ HLW.out _ : Own W.heap.size W2.heap.size W2 ([dRow (.slice b1 d.length d1) d] ++ [nRow (.slice b2 n.length d2) n]))
  have HB2 : Hid (Below w.heap.size w W2) := (by rw [hW2]; exact (below_after_of HB1.out hb2).setCell (by show w.heap.size ≤ w.heap.size + 1 + 1; omega) _ : Below w.heap.size w W2)
  have HS3 : Hid (W.heap.size ≤ W2.heap.size) := (by rw [hsz2]; have := hb2.size; have := HS2.out; omega : W.heap.size ≤ W2.heap.size)
  have HW2 : Hid (w2.setCell ⟨w.heap.size + 1 + 1, 3, none⟩ (.slice b2 n.length d2) = W2) := hW2.symm
  have hC := HT3.out _ HB2.out
  clear hW2 hsz2 I2 hb2 o2
  go_wp2_with fail
  rw [HW2.out]
  clear HW2 k3 f3 j4
  refine hC.mono ?_
  rintro e w3 ⟨b3, d3, rfl, hb3, o3⟩
  clear hC
  have I3 := HI2.out.below hb3
  obtain ⟨⟨-, -, -, -, -, j5⟩, -⟩ := six_cellsS (I3.set4 (.slice b3 h.length d3)).a
  obtain ⟨⟨-, -, -, -, k4, -⟩, -, -, -, -, f4, -⟩ := six_cellsS I3.o
  obtain ⟨W3, hW3⟩ : ∃ W3, W3 = w3.setCell ⟨w.heap.size + 1 + 1, 4, none⟩ (.slice b3 h.length d3) := ⟨_, rfl⟩
  have HI3 : Hid (TsI w.heap.size ⟨ph, cu, d, n, h, p⟩ ⟨.slice a1 d.length c1, .slice a2 n.length c2, .slice a3 h.length c3, .slice a4 p.length c4⟩ (.slice b1 d.length d1) (.slice b2 n.length d2) (.slice b3 h.length d3) (.slice none 0 0) W3) := (by rw [hW3]; exact I3.set4 _ : TsI w.heap.size ⟨ph, cu, d, n, h, p⟩ ⟨.slice a1 d.length c1, .slice a2 n.length c2, .slice a3 h.length c3, .slice a4 p.length c4⟩ (.slice b1 d.length d1) (.slice b2 n.length d2) (.slice b3 h.length d3) (.slice none 0 0) W3)
  have hsz3 : W3.heap.size = w3.heap.size := by rw [hW3]; simp
  have HO3 : Hid (Own W.heap.size W3.heap.size W3 (([dRow (.slice b1 d.length d1) d] ++ [nRow (.slice b2 n.length d2) n]) ++ [hRow (.slice b3 h.length d3) h])) := (by
    rw [hsz3, hW3]
    exact ((HO2.out.below hb3).app (Own.single (r := hRow (.slice b3 h.length d3) h) o3 (Nat.le_refl _)) (by have := hb3.size; have := HS3.out; omega) hb3.size).setCell _ HLW.out _ : Own W.heap.size W3.heap.size W3 (([dRow (.slice b1 d.length d1) d] ++ [nRow (.slice b2 n.length d2) n]) ++ [hRow (.slice b3 h.length d3) h]))
  have HB3 : Hid (Below w.heap.size w W3) := (by rw [hW3]; exact (below_after_of HB2.out hb3).setCell (by show w.heap.size ≤ w.heap.size + 1 + 1; omega) _ : Below w.heap.size w W3)
  have HS4 : Hid (W.heap.size ≤ W3.heap.size) := (by rw [hsz3]; have := hb3.size; have := HS3.out; omega : W.heap.size ≤ W3.heap.size)
  have HW3 : Hid (w3.setCell ⟨w.heap.size + 1 + 1, 4, none⟩ (.slice b3 h.length d3) = W3) := hW3.symm
  have hC := HT4.out _ HB3.out
  clear hW3 hsz3 I3 hb3 o3
  go_wp2_with fail
  rw [HW3.out]
  clear HW3 k4 f4 j5
  refine hC.mono ?_
  rintro e w4 ⟨u4, us, rfl, o4⟩
  clear hC
  obtain ⟨b4, d4, hu4⟩ := o4.sh
  subst hu4
  have hb4 := o4.below
  have I4 := HI3.out.below hb4
  obtain ⟨⟨-, -, -, -, -, k5⟩, -, -, -, -, -, f5⟩ := six_cellsS I4.o
  obtain ⟨W4, hW4⟩ : ∃ W4, W4 = w4.setCell ⟨w.heap.size + 1 + 1, 5, none⟩ (.slice b4 p.length d4) := ⟨_, rfl⟩
  have HI4 : Hid (TsI w.heap.size ⟨ph, cu, d, n, h, p⟩ ⟨.slice a1 d.length c1, .slice a2 n.length c2, .slice a3 h.length c3, .slice a4 p.length c4⟩ (.slice b1 d.length d1) (.slice b2 n.length d2) (.slice b3 h.length d3) (.slice b4 p.length d4) W4) := (by rw [hW4]; exact I4.set5 _ : TsI w.heap.size ⟨ph, cu, d, n, h, p⟩ ⟨.slice a1 d.length c1, .slice a2 n.length c2, .slice a3 h.length c3, .slice a4 p.length c4⟩ (.slice b1 d.length d1) (.slice b2 n.length d2) (.slice b3 h.length d3) (.slice b4 p.length d4) W4)
  have hsz4 : W4.heap.size = w4.heap.size := by rw [hW4]; simp
  have HO4 : Hid (Own W.heap.size W4.heap.size W4 ((([dRow (.slice b1 d.length d1) d] ++ [nRow (.slice b2 n.length d2) n]) ++ [hRow (.slice b3 h.length d3) h]) ++ ([oRow (.slice b4 p.length d4) us] ++ pRows us p p.length))) := (by
    rw [hsz4, hW4]
    exact ((HO3.out.below hb4).app (o4.own) (by have := hb4.size; have := HS4.out; omega) hb4.size).setCell _ HLW.out _ : Own W.heap.size W4.heap.size W4 ((([dRow (.slice b1 d.length d1) d] ++ [nRow (.slice b2 n.length d2) n]) ++ [hRow (.slice b3 h.length d3) h]) ++ ([oRow (.slice b4 p.length d4) us] ++ pRows us p p.length)))
  have HB4 : Hid (Below w.heap.size w W4) := (by rw [hW4]; exact (below_after_of HB3.out hb4).setCell (by show w.heap.size ≤ w.heap.size + 1 + 1; omega) _ : Below w.heap.size w W4)
  have HS5 : Hid (W.heap.size ≤ W4.heap.size) := (by rw [hsz4]; have := hb4.size; have := HS4.out; omega : W.heap.size ≤ W4.heap.size)
  have HW4 : Hid (w4.setCell ⟨w.heap.size + 1 + 1, 5, none⟩ (.slice b4 p.length d4) = W4) := hW4.symm
  have Z := HI4.out
  obtain ⟨⟨y0, y1, y2, y3, y4, y5⟩, -⟩ := six_cellsS Z.o
  obtain ⟨⟨z0, z1, z2, z3, z4, z5⟩, g0, g1, g2, g3, g4, g5⟩ := six_cellsS Z.z
  have HLN : Hid (us.length = p.length) := o4.len
  have hlt4 : w.heap.size + 1 + 1 < W4.heap.size := Z.lt
  rw [hW4] at y0 y1 y2 y3 y4 y5 z0 z1 z2 z3 z4 z5 g0 g1 g2 g3 g4 g5 hlt4
  clear hW4 hsz4 I4 hb4 o4 Z
  go_wp2_with fail
  refine bodyPost_ret (v := .agg #[.int .i64 ph, .int .i64 cu, .slice b1 d.length d1, .slice b2 n.length d2, .slice b3 h.length d3, .slice b4 p.length d4]) (by simp [results, Try.results64, go_sem, z0, z1, z2, z3, z4, z5]) rfl ⟨⟨.slice b1 d.length d1, .slice b2 n.length d2, .slice b3 h.length d3, .slice b4 p.length d4⟩, us, rfl, ?_, ?_⟩
  · rw [HW4.out]
    exact (((((HB4.out.setCell (Nat.le_succ _) _).setCell (Nat.le_succ _) _).setCell (Nat.le_succ _) _).setCell (Nat.le_succ _) _).setCell (Nat.le_succ _) _).setCell (Nat.le_succ _) _
  · rw [HW4.out]
    have hL1 : w.heap.size + 1 < W.heap.size := by have := HLW.out; omega
    have A : StOwn W.heap.size W4.heap.size W4 ⟨.slice b1 d.length d1, .slice b2 n.length d2, .slice b3 h.length d3, .slice b4 p.length d4⟩ us ⟨ph, cu, d, n, h, p⟩ := ⟨by
      have := HO4.out
      rw [List.append_assoc, List.append_assoc] at this
      exact this, HLN.out⟩
    have B := (((((A.setCell ⟨w.heap.size + 1, 0, none⟩ hL1 (.int .i64 ph)).setCell ⟨w.heap.size + 1, 1, none⟩ hL1 (.int .i64 cu)).setCell ⟨w.heap.size + 1, 2, none⟩ hL1 (.slice b1 d.length d1)).setCell ⟨w.heap.size + 1, 3, none⟩ hL1 (.slice b2 n.length d2)).setCell ⟨w.heap.size + 1, 4, none⟩ hL1 (.slice b3 h.length d3)).setCell ⟨w.heap.size + 1, 5, none⟩ hL1 (.slice b4 p.length d4)
    exact B.wide (by omega) (by simp)
end U
end Go.Proofs.Ytcdodpcdennemaa

/- States as the laws look at them: compared. -/
namespace Go.Proofs.Ytcdodpcdennemaa
open Go.RowKit
namespace U
set_option maxRecDepth 100000 in
set_option maxHeartbeats 4000000 in
theorem eqDirectoryS_core (b off c b' off' c' n : Nat) (p : Pst) (w : World) (hx : n ≤ 1048576) (hb : b < w.heap.size) (hb' : b' < w.heap.size) (hpd : ∀ j, j < n → (dAt p j).length ≤ 1048576) (hc : ∀ j, j < n → ∃ u, w.cell? ⟨b, off + j, none⟩ = some u ∧ Rcs w u (dAt p j)) (hc' : ∀ j, j < n → ∃ u, w.cell? ⟨b', off' + j, none⟩ = some u ∧ Rcs w u (dAt p j)) :
    Calls Try.prog 115 #[.slice (some ⟨b, off, none⟩) n c, .slice (some ⟨b', off', none⟩) n c'] w fun e w' => e = .returned (.bool true) ∧ Below w.heap.size w w' := by
  have hnn := hne_all
  go_enter Try.func115, Try.ntmps115
  go_wp2
  go_loopw [5] (fun i wr => ∃ k : Nat, k ≤ n ∧ i = .int .i64 k ∧ Hid (Below w.heap.size w wr)) (fun i _ => n - (intOf i).toNat)
  case atStart => exact ⟨0, Nat.zero_le _, rfl, Below.refl _ _⟩
  case round =>
    obtain ⟨k, hk, rfl, hB⟩ := hrel
    by_cases hkn : k < n
    · have hki : (k : Int) < (n : Int) := by omega
      obtain ⟨u, hu, hr⟩ := hc k hkn
      obtain ⟨u', hu', hr'⟩ := hc' k hkn
      have d0 := (hB.out.cell (p := ⟨b, off + k, none⟩) hb).trans hu
      have d0' := (hB.out.cell (p := ⟨b', off' + k, none⟩) hb').trans hu'
      have hE := fun w' (h : Below wr.heap.size wr w') => eqDirectory_same u u' (dAt p k) w' (hr.below (below_after_of hB.out h)) (hr'.below (below_after_of hB.out h)) (hpd k hkn)
      obtain ⟨a1, c1, rfl⟩ := hr.shape
      obtain ⟨a2, c2, rfl⟩ := hr'.shape
      generalize (dAt p k).length = m at *
      have q0 := After.cell d0
      have p0 := After.cell d0'
      have hne := After.ne wr
      clear hc hc' d0 d0' hu hu' hr hr' hpd
      go_wp2_with fail
      refine wp_region_after (by kernel_rfl) (by kernel_rfl) ?_
      repeat (first | go_big_quiet_skip | (go_big_quiet_want; go_big_quiet_op; first | go_big_quiet_on | go_big_quiet_call (first | (go_at_call 113; refine (hE _ (After.b _)).mono ?_; rintro e wq ⟨rfl, hbq⟩; exact ⟨rfl, after_mk (below_after_of (After.b _) hbq)⟩))))
      refine wpQuiet_nil ?_
      rintro _ ⟨n6, rfl⟩
      have HB6 : Hid (Below w.heap.size w n6.w) := below_after_of hB.out n6.b
      generalize n6.w = w6 at *
      clear hne q0 p0 n6 hE
      go_wp2
      go_roundw
      case rel => exact ⟨k + 1, by omega, by go_num, HB6⟩
      case measure => simp [intOf]; omega
    · have hkn : k = n := by omega
      subst hkn
      clear hc hc'
      go_wp2
      go_ret
      exact ⟨rfl, hB.out⟩
set_option maxRecDepth 100000 in
set_option maxHeartbeats 1000000 in
theorem eqDirectoryS_same (v u : Value) (p : Pst) (w : World) (hv : Dss w v p) (hu : Dss w u p) (hx : p.length ≤ 1048576) (hpd : ∀ j, j < p.length → (dAt p j).length ≤ 1048576) :
    Calls Try.prog 115 #[v, u] w fun e w' => e = .returned (.bool true) ∧ Below w.heap.size w w' := by
  obtain ⟨a, c, rfl⟩ := hv.shape
  obtain ⟨a', c', rfl⟩ := hu.shape
  by_cases h0 : 0 < p.length
  · obtain ⟨-, b, off, rfl, hb, hc⟩ := hv.at h0
    obtain ⟨-, b', off', rfl, hb', hc'⟩ := hu.at h0
    exact eqDirectoryS_core b off c b' off' c' p.length p w hx hb hb' hpd hc hc'
  · have e1 : p = [] := List.eq_nil_of_length_eq_zero (by omega)
    subst e1
    simp only [List.length_nil] at *
    clear hv hu h0
    go_enter Try.func115, Try.ntmps115
    go_wp2
    refine wp_loop_rounds 1 ?_; rw [rounds_succ]
    go_wp2
    go_ret
    exact ⟨rfl, Below.refl _ _⟩
set_option maxRecDepth 100000 in
set_option maxHeartbeats 2000000 in
theorem eqState_same (s : St) (v u : Sv) (w : World) (hv : Sts w v s) (hu : Sts w u s) (hB : StB s) :
    Calls Try.prog 68 #[stV s v, stV s u] w fun e w' => e = .returned (.bool true) ∧ Below w.heap.size w w' := by
  obtain ⟨W, hW⟩ : ∃ W, W = (w.alloc (stC s v 52)).alloc (stC s u 52) := ⟨_, rfl⟩
  have hBW : Below w.heap.size w W := by rw [hW]; exact two_new _ _
  have hC1 : StC W w.heap.size s v := by rw [hW]; exact (StC.new w s v _).below (one_new _) (by simp)
  have hC2 : StC W (w.heap.size + 1) s u := by
    have := StC.new (w.alloc (stC s v 52)) s u 52
    rw [World.size_alloc] at this
    rw [hW]
    exact this
  have hnn := hne_all
  have HC : Hid (∀ w', Below W.heap.size W w' → StC w' w.heap.size s v ∧ StC w' (w.heap.size + 1) s u) := fun w' hb => ⟨hC1.below hb hC1.lt, hC2.below hb hC2.lt⟩
  have HD : Hid (∀ w', Below W.heap.size W w' → Calls Try.prog 113 #[.agg #[v.d], .agg #[u.d]] w' fun e w'' => e = .returned (.bool true) ∧ Below w'.heap.size w' w'') := fun w' hb => eqDirectory_same v.d u.d s.d w' ((hv.d.below hBW).below hb) ((hu.d.below hBW).below hb) hB.d
  have HN : Hid (∀ w', Below W.heap.size W w' → Calls Try.prog 114 #[v.n, u.n] w' fun e w'' => e = .returned (.bool true) ∧ Below w'.heap.size w' w'') := fun w' hb => by
    have := eqSlotS_any v.n u.n s.n s.n w' ((hv.n.below hBW).below hb) ((hu.n.below hBW).below hb) (by have := hB.n; omega) (by have := hB.n; omega)
    rw [decide_eq_true rfl] at this
    exact this
  have HH : Hid (∀ w', Below W.heap.size W w' → Calls Try.prog 41 #[v.h, u.h] w' fun e w'' => e = .returned (.bool true) ∧ Below w'.heap.size w' w'') := fun w' hb => eqHeadS_same v.h u.h s.h w' ((hv.h.below hBW).below hb) ((hu.h.below hBW).below hb) hB.h
  have HP : Hid (∀ w', Below W.heap.size W w' → Calls Try.prog 115 #[v.p, u.p] w' fun e w'' => e = .returned (.bool true) ∧ Below w'.heap.size w' w'') := fun w' hb => eqDirectoryS_same v.p u.p s.p w' ((hv.p.below hBW).below hb) ((hu.p.below hBW).below hb) hB.p (fun j hj => (hB.pd j hj).1)
  obtain ⟨a1, c1, e1⟩ := hv.d.shape
  obtain ⟨a2, c2, e2⟩ := hv.n.shape
  obtain ⟨a3, c3, e3⟩ := hv.h.shape
  obtain ⟨a4, c4, e4⟩ := hv.p.shape
  obtain ⟨b1, k1, f1⟩ := hu.d.shape
  obtain ⟨b2, k2, f2⟩ := hu.n.shape
  obtain ⟨b3, k3, f3⟩ := hu.h.shape
  obtain ⟨b4, k4, f4⟩ := hu.p.shape
  obtain ⟨ph, cu, d, n, h, p⟩ := s
  obtain ⟨vd, vn, vh, vp⟩ := v
  obtain ⟨ud, un, uh, up⟩ := u
  dsimp only at *
  subst e1 e2 e3 e4 f1 f2 f3 f4
  unfold stC at hW
  unfold stV
  dsimp only at *
  have HLN : Hid (∀ w', Below W.heap.size W w' → (w'.cell? ⟨w.heap.size, 0, none⟩ = some (.int .i64 ph) ∧ w'.cell? ⟨w.heap.size, 1, none⟩ = some (.int .i64 cu) ∧ w'.cell? ⟨w.heap.size, 2, none⟩ = some (.slice a1 d.length c1) ∧ w'.cell? ⟨w.heap.size, 3, none⟩ = some (.slice a2 n.length c2) ∧ w'.cell? ⟨w.heap.size, 4, none⟩ = some (.slice a3 h.length c3) ∧ w'.cell? ⟨w.heap.size, 5, none⟩ = some (.slice a4 p.length c4)) ∧ w'.cell? ⟨w.heap.size + 1, 0, none⟩ = some (.int .i64 ph) ∧ w'.cell? ⟨w.heap.size + 1, 1, none⟩ = some (.int .i64 cu) ∧ w'.cell? ⟨w.heap.size + 1, 2, none⟩ = some (.slice b1 d.length k1) ∧ w'.cell? ⟨w.heap.size + 1, 3, none⟩ = some (.slice b2 n.length k2) ∧ w'.cell? ⟨w.heap.size + 1, 4, none⟩ = some (.slice b3 h.length k3) ∧ w'.cell? ⟨w.heap.size + 1, 5, none⟩ = some (.slice b4 p.length k4)) := fun w' hb => by
    obtain ⟨x, y⟩ := HC.out w' hb
    exact ⟨⟨x.c0, x.c1, x.c2, x.c3, x.c4, x.c5⟩, y.c0, y.c1, y.c2, y.c3, y.c4, y.c5⟩
  have HW : Hid ((w.alloc (.cells #[.int .i64 ph, .int .i64 cu, .slice a1 d.length c1, .slice a2 n.length c2, .slice a3 h.length c3, .slice a4 p.length c4] 52)).alloc (.cells #[.int .i64 ph, .int .i64 cu, .slice b1 d.length k1, .slice b2 n.length k2, .slice b3 h.length k3, .slice b4 p.length k4] 52) = W) := hW.symm
  have HBW : Hid (Below w.heap.size w W) := hBW
  generalize d.length = dn at *
  generalize n.length = nn at *
  generalize h.length = hn at *
  generalize p.length = pn at *
  clear hv hu hB hC1 hC2 HC hW hBW
  go_enter Try.func68, Try.ntmps68
  go_wp2_with fail
  rw [HW.out]
  refine (HD.out _ (Below.refl _ _)).mono ?_
  rintro e w1 ⟨rfl, hb1⟩
  obtain ⟨⟨-, -, -, x3, -, -⟩, -, -, -, y3, -, -⟩ := HLN.out _ hb1
  go_wp2_with fail
  refine (HN.out _ hb1).mono ?_
  rintro e w2 ⟨rfl, hb2⟩
  have hb2 := below_after_of hb1 hb2
  clear hb1 x3 y3
  obtain ⟨⟨-, -, -, -, x4, -⟩, -, -, -, -, y4, -⟩ := HLN.out _ hb2
  go_wp2_with fail
  refine (HH.out _ hb2).mono ?_
  rintro e w3 ⟨rfl, hb3⟩
  have hb3 := below_after_of hb2 hb3
  clear hb2 x4 y4
  obtain ⟨⟨-, -, -, -, -, x5⟩, -, -, -, -, -, y5⟩ := HLN.out _ hb3
  go_wp2_with fail
  refine (HP.out _ hb3).mono ?_
  rintro e w4 ⟨rfl, hb4⟩
  have hb4 := below_after_of hb3 hb4
  clear hb3 x5 y5
  go_wp2
  go_ret
  exact ⟨rfl, below_after_of HBW.out hb4⟩
end U
end Go.Proofs.Ytcdodpcdennemaa

/- What the laws on states share. -/
namespace Go.Proofs.Ytcdodpcdennemaa
open Go.RowKit
namespace U
/-- Four slices. -/
def sv (a1 a2 a3 a4 : Option Addr) (n1 n2 n3 n4 c1 c2 c3 c4 : Nat) : Sv := ⟨.slice a1 n1 c1, .slice a2 n2 c2, .slice a3 n3 c3, .slice a4 n4 c4⟩
theorem Sts.four {w : World} {u : Sv} {s : St} (h : Sts w u s) : ∃ a1 a2 a3 a4 c1 c2 c3 c4, u = sv a1 a2 a3 a4 s.d.length s.n.length s.h.length s.p.length c1 c2 c3 c4 := by
  obtain ⟨a1, c1, e1⟩ := h.d.shape
  obtain ⟨a2, c2, e2⟩ := h.n.shape
  obtain ⟨a3, c3, e3⟩ := h.h.shape
  obtain ⟨a4, c4, e4⟩ := h.p.shape
  obtain ⟨x, y, z, u⟩ := u
  dsimp only at e1 e2 e3 e4
  subst e1 e2 e3 e4
  exact ⟨_, _, _, _, _, _, _, _, rfl⟩
/-- The argument copied, from a world on. -/
structure ToS (w : World) (s : St) (ph cu : Int) (a1 a2 a3 a4 : Option Addr) (n1 n2 n3 n4 c1 c2 c3 c4 : Nat) : Prop where
  c : ∀ w', Below w.heap.size w w' → Calls Try.prog 64 #[.agg #[.int .i64 ph, .int .i64 cu, .slice a1 n1 c1, .slice a2 n2 c2, .slice a3 n3 c3, .slice a4 n4 c4]] w' fun e w'' => ∃ b1 b2 b3 b4 d1 d2 d3 d4 us, e = .returned (.agg #[.int .i64 ph, .int .i64 cu, .slice b1 n1 d1, .slice b2 n2 d2, .slice b3 n3 d3, .slice b4 n4 d4]) ∧ SaAns w' s (sv b1 b2 b3 b4 n1 n2 n3 n4 d1 d2 d3 d4) us w''
set_option maxRecDepth 100000 in
theorem ToS.mk' {w : World} {s : St} {a1 a2 a3 a4 : Option Addr} {c1 c2 c3 c4 : Nat} (h : Sts w (sv a1 a2 a3 a4 s.d.length s.n.length s.h.length s.p.length c1 c2 c3 c4) s) (hB : StB s) : ToS w s s.ph s.cu a1 a2 a3 a4 s.d.length s.n.length s.h.length s.p.length c1 c2 c3 c4 := ⟨fun w' hb => by
  refine (toState_any s _ w' (h.below hb) hB).mono ?_
  rintro e w'' ⟨u, us, rfl, h1⟩
  obtain ⟨b1, b2, b3, b4, d1, d2, d3, d4, rfl⟩ := h1.sts.four
  exact ⟨b1, b2, b3, b4, d1, d2, d3, d4, us, rfl, h1⟩⟩
/-- Copies compared. -/
structure EqS (s : St) (ph cu : Int) (n1 n2 n3 n4 : Nat) : Prop where
  c : ∀ (w' : World) (a1 a2 a3 a4 b1 b2 b3 b4 : Option Addr) (c1 c2 c3 c4 d1 d2 d3 d4 : Nat), Sts w' (sv a1 a2 a3 a4 n1 n2 n3 n4 c1 c2 c3 c4) s → Sts w' (sv b1 b2 b3 b4 n1 n2 n3 n4 d1 d2 d3 d4) s → Calls Try.prog 68 #[.agg #[.int .i64 ph, .int .i64 cu, .slice a1 n1 c1, .slice a2 n2 c2, .slice a3 n3 c3, .slice a4 n4 c4], .agg #[.int .i64 ph, .int .i64 cu, .slice b1 n1 d1, .slice b2 n2 d2, .slice b3 n3 d3, .slice b4 n4 d4]] w' fun e w'' => e = .returned (.bool true) ∧ Below w'.heap.size w' w''
set_option maxRecDepth 100000 in
theorem EqS.mk' {s : St} (hB : StB s) : EqS s s.ph s.cu s.d.length s.n.length s.h.length s.p.length := ⟨fun w' a1 a2 a3 a4 b1 b2 b3 b4 c1 c2 c3 c4 d1 d2 d3 d4 h1 h2 => by
  have := eqState_same s _ _ w' h1 h2 hB
  unfold stV sv at this
  exact this⟩
/-- Six cells of a state. -/
def C6 (w : World) (b : Nat) (ph cu : Int) (a1 a2 a3 a4 : Option Addr) (n1 n2 n3 n4 c1 c2 c3 c4 : Nat) : Prop :=
  w.cell? ⟨b, 0, none⟩ = some (.int .i64 ph) ∧ w.cell? ⟨b, 1, none⟩ = some (.int .i64 cu) ∧ w.cell? ⟨b, 2, none⟩ = some (.slice a1 n1 c1) ∧ w.cell? ⟨b, 3, none⟩ = some (.slice a2 n2 c2) ∧ w.cell? ⟨b, 4, none⟩ = some (.slice a3 n3 c3) ∧ w.cell? ⟨b, 5, none⟩ = some (.slice a4 n4 c4)
/-- A box of a state: it stays. -/
structure Bx (w : World) (b : Nat) (ph cu : Int) (a1 a2 a3 a4 : Option Addr) (n1 n2 n3 n4 c1 c2 c3 c4 : Nat) : Prop where
  lt : b < w.heap.size
  c : C6 w b ph cu a1 a2 a3 a4 n1 n2 n3 n4 c1 c2 c3 c4
theorem Bx.below {w w' : World} {b : Nat} {ph cu : Int} {a1 a2 a3 a4 : Option Addr} {n1 n2 n3 n4 c1 c2 c3 c4 : Nat} (h : Bx w b ph cu a1 a2 a3 a4 n1 n2 n3 n4 c1 c2 c3 c4) (hb : Below w.heap.size w w') : Bx w' b ph cu a1 a2 a3 a4 n1 n2 n3 n4 c1 c2 c3 c4 :=
  ⟨Nat.lt_of_lt_of_le h.lt hb.size, (hb.cell (p := ⟨b, 0, none⟩) h.lt).trans h.c.1, (hb.cell (p := ⟨b, 1, none⟩) h.lt).trans h.c.2.1, (hb.cell (p := ⟨b, 2, none⟩) h.lt).trans h.c.2.2.1, (hb.cell (p := ⟨b, 3, none⟩) h.lt).trans h.c.2.2.2.1, (hb.cell (p := ⟨b, 4, none⟩) h.lt).trans h.c.2.2.2.2.1, (hb.cell (p := ⟨b, 5, none⟩) h.lt).trans h.c.2.2.2.2.2⟩
theorem Bx.new (w : World) (ph cu : Int) (a1 a2 a3 a4 : Option Addr) (n1 n2 n3 n4 c1 c2 c3 c4 : Nat) (t : TypeId) : Bx (w.alloc (.cells #[.int .i64 ph, .int .i64 cu, .slice a1 n1 c1, .slice a2 n2 c2, .slice a3 n3 c3, .slice a4 n4 c4] t)) w.heap.size ph cu a1 a2 a3 a4 n1 n2 n3 n4 c1 c2 c3 c4 :=
  ⟨by simp, (six_cellsS (heap_alloc_new w _)).1⟩
theorem Bx.tch {w w' : World} {b x y : Nat} {ph cu : Int} {a1 a2 a3 a4 : Option Addr} {n1 n2 n3 n4 c1 c2 c3 c4 : Nat} (h : Bx w b ph cu a1 a2 a3 a4 n1 n2 n3 n4 c1 c2 c3 c4) (ht : Tch x y w w') (hb : b < x ∨ y ≤ b) : Bx w' b ph cu a1 a2 a3 a4 n1 n2 n3 n4 c1 c2 c3 c4 := by
  have e : w'.heap[b]? = w.heap[b]? := ht.block b h.lt hb
  have q := fun j => World.cell?_of_block (a := ⟨b, j, none⟩) e
  exact ⟨Nat.lt_of_lt_of_le h.lt ht.size, (q 0).trans h.c.1, (q 1).trans h.c.2.1, (q 2).trans h.c.2.2.1, (q 3).trans h.c.2.2.2.1, (q 4).trans h.c.2.2.2.2.1, (q 5).trans h.c.2.2.2.2.2⟩
end U
end Go.Proofs.Ytcdodpcdennemaa

/- The new tree, by mathematics alone: the fork bit of slots, both sides of it, the tree, its pieces and sums, its forks, and where a key is led. -/
namespace Go.Proofs.Ytcdodpcdennemaa
namespace U
/-- Bit number b of a number. -/
def bitN (k : Int) (b : Nat) : Int := k / (2 ^ b : Nat) % 2
theorem bitN_bd (k : Int) (b : Nat) : bitN k b = 0 ∨ bitN k b = 1 := by unfold bitN; omega
/-- The slots that have a bit. -/
def sd (l : Prl) (b : Nat) (s : Int) : Prl := l.filter fun p => decide (bitN p.1 b = s)
theorem sd_mem {l : Prl} {b : Nat} {s : Int} {p : Int × Int} : p ∈ sd l b s ↔ p ∈ l ∧ bitN p.1 b = s := by
  unfold sd; rw [List.mem_filter, decide_eq_true_iff]
theorem sd_ris {l : Prl} (h : Ris l) (b : Nat) (s : Int) : Ris (sd l b s) := List.Pairwise.filter _ h
theorem sd_len (l : Prl) (b : Nat) (s : Int) : (sd l b s).length ≤ l.length := List.length_filter_le _ _
theorem sd_lt {l : Prl} {b : Nat} {s : Int} {p : Int × Int} (hp : p ∈ l) (h : bitN p.1 b ≠ s) : (sd l b s).length < l.length := by
  unfold sd
  rw [List.length_filter_lt_length_iff_exists]
  exact ⟨p, hp, by simpa using h⟩
theorem sd_sls {l : Prl} (h : Sls l) (b : Nat) (s : Int) : Sls (sd l b s) :=
  ⟨Nat.le_trans (sd_len l b s) h.len, sd_ris h.ris b s, fun p hp => h.fin p (sd_mem.1 hp).1⟩
/-- The number of the highest bit in which not all are the same. -/
structure FB (l : Prl) (b : Nat) : Prop where
  le : b ≤ 7
  top : ∀ p ∈ l, p.1 / (2 ^ (b + 1) : Nat) = (pAt l 0).1 / (2 ^ (b + 1) : Nat)
  lo : bitN (pAt l 0).1 b = 0
  hi : bitN (pAt l (l.length - 1)).1 b = 1
theorem ris_first {l : Prl} (h : Ris l) {p : Int × Int} (hp : p ∈ l) : (pAt l 0).1 ≤ p.1 := by
  obtain ⟨i, hi, rfl⟩ := List.getElem_of_mem hp
  rw [← pAt_eq hi]
  rcases Nat.eq_zero_or_pos i with rfl | h0
  · exact Int.le_refl _
  · exact Int.le_of_lt (ris_at h h0 hi)
theorem ris_last {l : Prl} (h : Ris l) {p : Int × Int} (hp : p ∈ l) : p.1 ≤ (pAt l (l.length - 1)).1 := by
  obtain ⟨i, hi, rfl⟩ := List.getElem_of_mem hp
  rw [← pAt_eq hi]
  by_cases e : i = l.length - 1
  · rw [← e]; exact Int.le_refl _
  · exact Int.le_of_lt (ris_at h (by omega) (by omega))
theorem pAt_mem {l : Prl} {i : Nat} (h : i < l.length) : pAt l i ∈ l := by rw [pAt_eq h]; exact List.getElem_mem _
theorem ediv_le {x y : Int} (h : x ≤ y) (n : Nat) : x / (2 ^ n : Nat) ≤ y / (2 ^ n : Nat) := Int.ediv_le_ediv (pow_pos n) h
theorem fb_aux {x y : Int} (h : x < y) : ∀ n : Nat, x / (2 ^ n : Nat) = y / (2 ^ n : Nat) → ∃ b, b < n ∧ x / (2 ^ (b + 1) : Nat) = y / (2 ^ (b + 1) : Nat) ∧ x / (2 ^ b : Nat) ≠ y / (2 ^ b : Nat) := by
  intro n
  induction n with
  | zero => intro h1; simp at h1; omega
  | succ n ih =>
    intro h1
    by_cases e : x / (2 ^ n : Nat) = y / (2 ^ n : Nat)
    · obtain ⟨b, h2, h3⟩ := ih e
      exact ⟨b, by omega, h3⟩
    · exact ⟨n, by omega, h1, e⟩
theorem fb_of {l : Prl} {b : Nat} (h : Ris l) (hb : b ≤ 7) (h2 : 2 ≤ l.length) (e1 : (pAt l 0).1 / (2 ^ (b + 1) : Nat) = (pAt l (l.length - 1)).1 / (2 ^ (b + 1) : Nat)) (e2 : (pAt l 0).1 / (2 ^ b : Nat) ≠ (pAt l (l.length - 1)).1 / (2 ^ b : Nat)) : FB l b := by
  have h3 := ediv_le (Int.le_of_lt (ris_at h (show 0 < l.length - 1 by omega) (by omega))) b
  have e3 := e1
  rw [div_succ, div_succ] at e3
  refine ⟨hb, fun p hp => ?_, ?_, ?_⟩
  · have h4 := ediv_le (ris_first h hp) (b + 1)
    have h5 := ediv_le (ris_last h hp) (b + 1)
    omega
  · unfold bitN; omega
  · unfold bitN; omega
theorem fb_ex {l : Prl} (h : Sls l) (h2 : 2 ≤ l.length) : ∃ b, FB l b := by
  have h3 := ris_at h.ris (show 0 < l.length - 1 by omega) (by omega)
  have h4 := (h.at (show 0 < l.length by omega)).1
  have h5 := (h.at (show l.length - 1 < l.length by omega)).1
  have h6 : (pAt l 0).1 / (2 ^ 8 : Nat) = (pAt l (l.length - 1)).1 / (2 ^ 8 : Nat) := by
    show _ / 256 = _ / 256
    omega
  obtain ⟨b, hb, e1, e2⟩ := fb_aux h3 8 h6
  exact ⟨b, fb_of h.ris (by omega) h2 e1 e2⟩
theorem fb_mid {l : Prl} {b : Nat} (h : FB l b) (h0 : 0 < l.length) {p : Int × Int} (hp : p ∈ l) : p.1 / (2 ^ b : Nat) = (pAt l (l.length - 1)).1 / (2 ^ b : Nat) - 1 + bitN p.1 b := by
  have h1 := h.top p hp
  have h2 := h.top _ (pAt_mem (show l.length - 1 < l.length by omega))
  have h3 := h.hi
  rw [div_succ, div_succ] at h1 h2
  unfold bitN at *
  omega
theorem fb_uniq {l : Prl} {b c : Nat} (h : FB l b) (h' : FB l c) (h0 : 0 < l.length) : b = c := by
  have key : ∀ {b c : Nat}, FB l b → FB l c → ¬ b < c := by
    intro b c h h' hlt
    have h1 := h.top _ (pAt_mem (show l.length - 1 < l.length by omega))
    have h2 := h'.lo
    have h3 := h'.hi
    unfold bitN at h2 h3
    obtain ⟨d, rfl⟩ : ∃ d, c = (b + 1) + d := ⟨c - (b + 1), by omega⟩
    rw [Nat.pow_add, Int.natCast_mul, ← Int.ediv_ediv_of_nonneg (Int.natCast_nonneg _)] at h2 h3
    rw [h1] at h3
    omega
  have h1 := key h h'
  have h2 := key h' h
  omega
/-- Where those begin that have a 1. -/
def ones (l : Prl) (b : Nat) : Int := (pAt l (l.length - 1)).1 / (2 ^ b : Nat) * (2 ^ b : Nat)
theorem ones_iff {l : Prl} {b : Nat} (h : FB l b) (h0 : 0 < l.length) {p : Int × Int} (hp : p ∈ l) : p.1 < ones l b ↔ bitN p.1 b = 0 := by
  unfold ones
  rw [← Int.ediv_lt_iff_lt_mul (pow_pos b)]
  have h1 := fb_mid h h0 hp
  have h2 := bitN_bd p.1 b
  omega
theorem sd_zero {l : Prl} {b : Nat} (hr : Ris l) (h : FB l b) (h0 : 0 < l.length) : sd l b 0 = l.take (low l (ones l b)) := by
  rw [← low_take hr]
  unfold sd
  apply List.filter_congr
  intro p hp
  rw [decide_eq_decide]
  exact (ones_iff h h0 hp).symm
theorem sd_one {l : Prl} {b : Nat} (hr : Ris l) (h : FB l b) (h0 : 0 < l.length) : sd l b 1 = l.drop (low l (ones l b)) := by
  rw [← low_drop hr]
  unfold sd
  apply List.filter_congr
  intro p hp
  rw [decide_eq_decide]
  have h1 := ones_iff h h0 hp
  have h2 := bitN_bd p.1 b
  omega
theorem fb_left {l : Prl} {b : Nat} (h : FB l b) (h0 : 0 < l.length) : pAt l 0 ∈ sd l b 0 := sd_mem.2 ⟨pAt_mem h0, h.lo⟩
theorem fb_right {l : Prl} {b : Nat} (h : FB l b) (h0 : 0 < l.length) : pAt l (l.length - 1) ∈ sd l b 1 := sd_mem.2 ⟨pAt_mem (by omega), h.hi⟩
theorem fb_less {l : Prl} {b : Nat} {s : Int} (h : FB l b) (h0 : 0 < l.length) (hs : s = 0 ∨ s = 1) : (sd l b s).length < l.length := by
  rcases hs with rfl | rfl
  · exact sd_lt (pAt_mem (show l.length - 1 < l.length by omega)) (by rw [h.hi]; decide)
  · exact sd_lt (pAt_mem h0) (by rw [h.lo]; decide)
theorem fb_some {l : Prl} {b : Nat} {s : Int} (h : FB l b) (h0 : 0 < l.length) (hs : s = 0 ∨ s = 1) : 0 < (sd l b s).length := by
  rcases hs with rfl | rfl
  · exact List.length_pos_of_mem (fb_left h h0)
  · exact List.length_pos_of_mem (fb_right h h0)
theorem sd_both (l : Prl) (b : Nat) : (sd l b 0).length + (sd l b 1).length = l.length := by
  induction l with
  | nil => rfl
  | cons p t ih =>
    unfold sd at *
    rcases bitN_bd p.1 b with e | e
    · rw [List.filter_cons_of_pos (by simp [e]), List.filter_cons_of_neg (by simp [e]), List.length_cons, List.length_cons]; omega
    · rw [List.filter_cons_of_neg (by simp [e]), List.filter_cons_of_pos (by simp [e]), List.length_cons, List.length_cons]; omega
/-- Trees of the library's, with a key and a value at a leaf and a number at a fork. -/
abbrev Bt := Go.Deep.BT (Option (Int × Int))
/-- A tree that is nothing, a leaf with nothing below, or a fork of two such trees. -/
def shp : Bt → Prop
  | .nil => True
  | .node b o (some _) l r => b = 0 ∧ o = 0 ∧ l = .nil ∧ r = .nil
  | .node _ o none l r => o = 0 ∧ shp l ∧ shp r
/-- The new tree. -/
structure Tr where
  t : Bt
  h : shp t
def Tr.none : Tr := ⟨.nil, trivial⟩
def Tr.leaf (k v : Int) : Tr := ⟨.node 0 0 (some (k, v)) .nil .nil, rfl, rfl, rfl, rfl⟩
def Tr.fork (b : Nat) (l r : Tr) : Tr := ⟨.node b 0 Option.none l.t r.t, rfl, l.h, r.h⟩
/-- Recursion on the new tree. -/
def foB {α : Type} (n : α) (lf : Int → Int → α) (fk : Nat → Tr → Tr → α → α → α) : (t : Bt) → shp t → α
  | .nil, _ => n
  | .node _ _ (some p) _ _, _ => lf p.1 p.2
  | .node b _ none l r, h => fk b ⟨l, h.2.1⟩ ⟨r, h.2.2⟩ (foB n lf fk l h.2.1) (foB n lf fk r h.2.2)
def Tr.fo {α : Type} (n : α) (lf : Int → Int → α) (fk : Nat → Tr → Tr → α → α → α) (t : Tr) : α := foB n lf fk t.t t.h
theorem ind_aux {motive : Tr → Prop} (none : motive Tr.none) (leaf : ∀ k v, motive (Tr.leaf k v)) (fork : ∀ b l r, motive l → motive r → motive (Tr.fork b l r)) : ∀ (t : Bt) (h : shp t), motive ⟨t, h⟩
  | .nil, _ => none
  | .node b o (some (k, v)) l r, h => by
    obtain ⟨rfl, rfl, rfl, rfl⟩ := h
    exact leaf k v
  | .node b o Option.none l r, h => by
    obtain ⟨rfl, h1, h2⟩ := h
    exact fork b ⟨l, h1⟩ ⟨r, h2⟩ (ind_aux none leaf fork l h1) (ind_aux none leaf fork r h2)
/-- Induction on the new tree. -/
theorem Tr.ind {motive : Tr → Prop} (none : motive Tr.none) (leaf : ∀ k v, motive (Tr.leaf k v)) (fork : ∀ b l r, motive l → motive r → motive (Tr.fork b l r)) (t : Tr) : motive t := ind_aux none leaf fork t.t t.h
theorem Tr.cs {motive : Tr → Prop} (none : motive Tr.none) (leaf : ∀ k v, motive (Tr.leaf k v)) (fork : ∀ b l r, motive (Tr.fork b l r)) (t : Tr) : motive t := Tr.ind none leaf (fun b l r _ _ => fork b l r) t
theorem Tr.three (t : Tr) : t = Tr.none ∨ (∃ k v, t = Tr.leaf k v) ∨ ∃ b l r, t = Tr.fork b l r := by
  induction t using Tr.cs with
  | none => exact Or.inl rfl
  | leaf k v => exact Or.inr (Or.inl ⟨k, v, rfl⟩)
  | fork b l r => exact Or.inr (Or.inr ⟨b, l, r, rfl⟩)
/-- The new tree of slots. -/
def isB : Bt → Prl → Prop
  | .nil, l => l = []
  | .node _ _ (some p) _ _, l => l = [p]
  | .node b _ none L R, l => 2 ≤ l.length ∧ FB l b ∧ isB L (sd l b 0) ∧ isB R (sd l b 1)
/-- The new tree of slots. -/
structure IsTr (l : Prl) (t : Tr) : Prop where
  b : isB t.t l
theorem IsTr.none : IsTr [] Tr.none := ⟨rfl⟩
theorem IsTr.leaf (k v : Int) : IsTr [(k, v)] (Tr.leaf k v) := ⟨rfl⟩
theorem IsTr.fork {l : Prl} {b : Nat} {L R : Tr} (h2 : 2 ≤ l.length) (hb : FB l b) (h3 : IsTr (sd l b 0) L) (h4 : IsTr (sd l b 1) R) : IsTr l (Tr.fork b L R) := ⟨⟨h2, hb, h3.b, h4.b⟩⟩
theorem IsTr.ind {motive : (l : Prl) → (t : Tr) → IsTr l t → Prop} (none : motive [] Tr.none IsTr.none) (leaf : ∀ k v, motive [(k, v)] (Tr.leaf k v) (IsTr.leaf k v))
    (fork : ∀ {l : Prl} {b : Nat} {L R : Tr} (h2 : 2 ≤ l.length) (hb : FB l b) (h3 : IsTr (sd l b 0) L) (h4 : IsTr (sd l b 1) R), motive (sd l b 0) L h3 → motive (sd l b 1) R h4 → motive l (Tr.fork b L R) (IsTr.fork h2 hb h3 h4)) {l : Prl} {t : Tr} (h : IsTr l t) : motive l t h := by
  induction t using Tr.ind generalizing l with
  | none => obtain ⟨e⟩ := h; cases (show l = [] from e); exact none
  | leaf k v => obtain ⟨e⟩ := h; cases (show l = [(k, v)] from e); exact leaf k v
  | fork b L R ih1 ih2 =>
    obtain ⟨h2, hb, h3, h4⟩ := h
    exact fork h2 hb ⟨h3⟩ ⟨h4⟩ (ih1 ⟨h3⟩) (ih2 ⟨h4⟩)
theorem IsTr.cs {motive : (l : Prl) → (t : Tr) → IsTr l t → Prop} (none : motive [] Tr.none IsTr.none) (leaf : ∀ k v, motive [(k, v)] (Tr.leaf k v) (IsTr.leaf k v))
    (fork : ∀ {l : Prl} {b : Nat} {L R : Tr} (h2 : 2 ≤ l.length) (hb : FB l b) (h3 : IsTr (sd l b 0) L) (h4 : IsTr (sd l b 1) R), motive l (Tr.fork b L R) (IsTr.fork h2 hb h3 h4)) {l : Prl} {t : Tr} (h : IsTr l t) : motive l t h :=
  IsTr.ind none leaf (fun h2 hb h3 h4 _ _ => fork h2 hb h3 h4) h
theorem isTr_ex : ∀ (n : Nat) (l : Prl), l.length ≤ n → Sls l → ∃ t, IsTr l t := by
  intro n
  induction n with
  | zero =>
    intro l h _
    rw [List.eq_nil_of_length_eq_zero (Nat.le_zero.1 h)]
    exact ⟨_, IsTr.none⟩
  | succ n ih =>
    intro l h hs
    match l, h, hs with
    | [], _, _ => exact ⟨_, IsTr.none⟩
    | [(k, v)], _, _ => exact ⟨_, IsTr.leaf k v⟩
    | p :: q :: r, h, hs =>
      have h2 : 2 ≤ (p :: q :: r).length := by simp
      obtain ⟨b, hb⟩ := fb_ex hs h2
      have h3 := fb_less (s := 0) hb (by omega) (Or.inl rfl)
      have h4 := fb_less (s := 1) hb (by omega) (Or.inr rfl)
      obtain ⟨L, hL⟩ := ih _ (by omega) (sd_sls hs b 0)
      obtain ⟨R, hR⟩ := ih _ (by omega) (sd_sls hs b 1)
      exact ⟨_, IsTr.fork h2 hb hL hR⟩
/-- What is summed for a tree. -/
def Tr.bts (t : Tr) : List Int := t.fo (tagL 9 []) (fun k v => tagL 4 [k, v]) (fun b _ _ x y => tagL 5 [(b : Int), sumL x, sumL y])
theorem Tr.bts_none : Tr.none.bts = tagL 9 [] := rfl
theorem Tr.bts_leaf (k v : Int) : (Tr.leaf k v).bts = tagL 4 [k, v] := rfl
theorem Tr.bts_fork (b : Nat) (l r : Tr) : (Tr.fork b l r).bts = tagL 5 [(b : Int), sumL l.bts, sumL r.bts] := rfl
def Tr.sum (t : Tr) : Int := sumL t.bts
theorem Tr.sum_bd (t : Tr) : 0 ≤ t.sum ∧ t.sum ≤ 65520 := sumL_bd _
theorem Tr.len (t : Tr) : t.bts.length ≤ 7 := by
  induction t using Tr.cs with
  | none => rw [Tr.bts_none, tagL_len]; simp
  | leaf k v => rw [Tr.bts_leaf, tagL_len]; simp
  | fork b l r => rw [Tr.bts_fork, tagL_len]; simp
/-- A tree all of whose leaves and bits are in range. -/
def Tr.Ok (t : Tr) : Prop := t.fo True (fun k v => (0 ≤ k ∧ k ≤ 255) ∧ (0 ≤ v ∧ v ≤ 65520)) (fun b _ _ x y => b ≤ 7 ∧ x ∧ y)
theorem Tr.ok_leaf {k v : Int} : (Tr.leaf k v).Ok ↔ (0 ≤ k ∧ k ≤ 255) ∧ (0 ≤ v ∧ v ≤ 65520) := Iff.rfl
theorem Tr.ok_fork {b : Nat} {l r : Tr} : (Tr.fork b l r).Ok ↔ b ≤ 7 ∧ l.Ok ∧ r.Ok := Iff.rfl
theorem IsTr.ok {l : Prl} {t : Tr} (h : IsTr l t) (hs : Sls l) : t.Ok := by
  induction h using IsTr.ind with
  | none => trivial
  | leaf k v => exact fine_bd (hs.fin _ (List.mem_singleton.2 rfl))
  | fork _ hb _ _ ih1 ih2 => exact ⟨hb.le, ih1 (sd_sls hs _ _), ih2 (sd_sls hs _ _)⟩
theorem Tr.Ok.nums3 {b : Nat} (hb : b ≤ 7) (l r : Tr) : [(b : Int), l.sum, r.sum].all sumB = true := by
  have h1 := l.sum_bd
  have h2 := r.sum_bd
  simp [sumB_iff]
  omega
theorem Tr.Ok.nums2 {k v : Int} (hk : 0 ≤ k ∧ k ≤ 255) (hv : 0 ≤ v ∧ v ≤ 65520) : [k, v].all sumB = true := by
  simp [sumB_iff]
  omega
theorem Tr.Ok.bts {t : Tr} (h : t.Ok) : Bts t.bts := by
  induction t using Tr.cs with
  | none => exact tagL_bts (by omega) rfl
  | leaf k v => exact tagL_bts (by omega) (Tr.Ok.nums2 h.1 h.2)
  | fork b l r => exact tagL_bts (by omega) (Tr.Ok.nums3 h.1 l r)
/-- How many forks there are. -/
def Tr.forks (t : Tr) : Nat := t.fo 0 (fun _ _ => 0) (fun _ _ _ x y => 1 + x + y)
theorem Tr.forks_fork (b : Nat) (l r : Tr) : (Tr.fork b l r).forks = 1 + l.forks + r.forks := rfl
theorem IsTr.forks {l : Prl} {t : Tr} (h : IsTr l t) : t.forks = l.length - 1 := by
  induction h using IsTr.ind with
  | none => rfl
  | leaf k v => rfl
  | fork h2 hb h3 h4 ih1 ih2 =>
    rename_i l b L R
    have e := sd_both l b
    have e1 := fb_some (s := 0) hb (by omega) (Or.inl rfl)
    have e2 := fb_some (s := 1) hb (by omega) (Or.inr rfl)
    rw [Tr.forks_fork]
    omega
/-- Where a key is led. -/
def Tr.near (key : Int) (t : Tr) : Int × Int := t.fo (0, 0) (fun k v => (k, v)) (fun b _ _ x y => if bitN key b = 0 then x else y)
theorem Tr.near_fork (key : Int) (b : Nat) (l r : Tr) : (Tr.fork b l r).near key = if bitN key b = 0 then l.near key else r.near key := rfl
theorem IsTr.near {l : Prl} {t : Tr} (h : IsTr l t) : ∀ p ∈ l, t.near p.1 = p := by
  induction h using IsTr.ind with
  | none => intro p hp; cases hp
  | leaf k v => intro p hp; rw [List.mem_singleton] at hp; subst hp; rfl
  | fork h2 hb h3 h4 ih1 ih2 =>
    intro p hp
    rw [Tr.near_fork]
    split
    · rename_i e; exact ih1 p (sd_mem.2 ⟨hp, e⟩)
    · rename_i l b L R e
      have e2 := bitN_bd p.1 b
      exact ih2 p (sd_mem.2 ⟨hp, by omega⟩)
theorem IsTr.led {l : Prl} {t : Tr} (h : IsTr l t) (key : Int) (h0 : 0 < l.length) : t.near key ∈ l := by
  induction h using IsTr.ind with
  | none => simp at h0
  | leaf k v => exact List.mem_singleton.2 rfl
  | fork h2 hb h3 h4 ih1 ih2 =>
    rw [Tr.near_fork]
    split
    · exact (sd_mem.1 (ih1 (fb_some hb h0 (Or.inl rfl)))).1
    · exact (sd_mem.1 (ih2 (fb_some hb h0 (Or.inr rfl)))).1
/-- The forks at which a key is led on, from the last one on: the bit, and the sum of the other side. -/
def Tr.way (key : Int) (t : Tr) : Prl := t.fo [] (fun _ _ => []) (fun b l r x y => if bitN key b = 0 then x ++ [((b : Int), r.sum)] else y ++ [((b : Int), l.sum)])
theorem Tr.way_none (key : Int) : Tr.none.way key = [] := rfl
theorem Tr.way_leaf (key k v : Int) : (Tr.leaf k v).way key = [] := rfl
theorem Tr.way_fork (key : Int) (b : Nat) (l r : Tr) : (Tr.fork b l r).way key = if bitN key b = 0 then l.way key ++ [((b : Int), r.sum)] else r.way key ++ [((b : Int), l.sum)] := rfl
theorem Tr.way_len (key : Int) (t : Tr) : (t.way key).length ≤ t.forks := by
  induction t using Tr.ind with
  | none => simp [Tr.way_none]
  | leaf k v => simp [Tr.way_leaf]
  | fork b l r ih1 ih2 =>
    rw [Tr.way_fork, Tr.forks_fork]
    split <;> simp <;> omega
theorem IsTr.isNone {l : Prl} {t : Tr} (h : IsTr l t) (h0 : l.length = 0) : t = .none := by
  induction h using IsTr.cs with
  | none => rfl
  | leaf k v => simp at h0
  | fork h2 => omega
theorem IsTr.isLeaf {l : Prl} {t : Tr} (h : IsTr l t) (h0 : l.length = 1) : t = .leaf (pAt l 0).1 (pAt l 0).2 := by
  induction h using IsTr.cs with
  | none => simp at h0
  | leaf k v => rfl
  | fork h2 => omega
theorem IsTr.isFork {l : Prl} {t : Tr} (h : IsTr l t) (h0 : 2 ≤ l.length) : ∃ b L R, t = .fork b L R ∧ FB l b ∧ IsTr (sd l b 0) L ∧ IsTr (sd l b 1) R := by
  induction h using IsTr.cs with
  | none => simp at h0
  | leaf k v => simp at h0
  | fork h2 hb h3 h4 => exact ⟨_, _, _, rfl, hb, h3, h4⟩
end U
end Go.Proofs.Ytcdodpcdennemaa

/- Proofs of the new tree, by mathematics alone: the faults of trails, and what comes of climbing them. -/
namespace Go.Proofs.Ytcdodpcdennemaa
namespace U
/-- The bit of the fork ahead of a place. -/
def ahd (f : Prl) (k : Nat) : Int := if k = 0 then -1 else (pAt f (k - 1)).1
theorem ahd_zero (f : Prl) : ahd f 0 = -1 := rfl
theorem ahd_succ (f : Prl) (k : Nat) : ahd f (k + 1) = (pAt f k).1 := by unfold ahd; rw [if_neg (by omega), Nat.add_sub_cancel]
/-- Is a fork in range? -/
def fkB (p : Int × Int) : Bool := inB p.1 0 7 && sumB p.2
/-- The code of one fork behind the bit of the one ahead. -/
def fk1 (a : Int) (p : Int × Int) : Int := if fkB p then (if p.1 ≤ a then 1 else 0) else 3
/-- The first code of the forks up to a place. -/
def fkS (f : Prl) : Nat → Int
  | 0 => 0
  | k + 1 => if fkS f k = 0 then fk1 (ahd f k) (pAt f k) else fkS f k
def fkF (f : Prl) : Int := fkS f f.length
theorem fkS_stop {f : Prl} {k : Nat} (h : fkS f k ≠ 0) : ∀ m, k ≤ m → fkS f m = fkS f k := by
  intro m hm
  induction m with
  | zero => rw [show k = 0 by omega]
  | succ m ih =>
    by_cases e : k = m + 1
    · rw [e]
    · have := ih (by omega)
      rw [fkS, this, if_neg h]
theorem fkS_ok {f : Prl} {m : Nat} (h : fkS f m = 0) : ∀ k, k ≤ m → fkS f k = 0 := by
  intro k hk
  by_cases e : fkS f k = 0
  · exact e
  · rw [← fkS_stop e m hk]; exact h
theorem fkS_at {f : Prl} {m : Nat} (h : fkS f m = 0) {k : Nat} (hk : k < m) : fkB (pAt f k) = true ∧ ahd f k < (pAt f k).1 := by
  have h1 := fkS_ok h (k + 1) hk
  have h2 := fkS_ok h k (Nat.le_of_lt hk)
  rw [fkS, if_pos h2] at h1
  unfold fk1 at h1
  split at h1
  · rename_i e
    split at h1
    · cases h1
    · rename_i e2; exact ⟨e, by omega⟩
  · cases h1
/-- The fault of a trail. -/
def tlF (x : Bool) (k v : Int) (f : Prl) : Int :=
  if x = false ∧ ((k, v) ≠ (0, 0) ∨ 0 < f.length) then 1 else if fine (k, v) = false then 3 else if 8 < f.length then 2 else fkF f
structure TlOk (x : Bool) (k v : Int) (f : Prl) : Prop where
  any : x = false → k = 0 ∧ v = 0 ∧ f = []
  leaf : fine (k, v) = true
  len : f.length ≤ 8
  fk : fkF f = 0
theorem tlF_ok {x : Bool} {k v : Int} {f : Prl} (h : tlF x k v f = 0) : TlOk x k v f := by
  unfold tlF at h
  split at h
  · cases h
  · rename_i h1
    split at h
    · cases h
    · rename_i h2
      split at h
      · cases h
      · rename_i h3
        refine ⟨fun hx => ?_, by simpa using h2, by omega, h⟩
        have h4 : (k, v) = (0, 0) := Classical.byContradiction fun e => h1 ⟨hx, Or.inl e⟩
        have h5 : f.length = 0 := by
          have : ¬ 0 < f.length := fun e => h1 ⟨hx, Or.inr e⟩
          omega
        cases h4
        exact ⟨rfl, rfl, List.eq_nil_of_length_eq_zero h5⟩
theorem tlF_all {x : Bool} {k v : Int} {f : Prl} (h : TlOk x k v f) : tlF x k v f = 0 := by
  unfold tlF
  rw [if_neg, if_neg (by rw [h.leaf]; decide), if_neg (by have := h.len; omega)]
  · exact h.fk
  · rintro ⟨hx, hh⟩
    obtain ⟨rfl, rfl, rfl⟩ := h.any hx
    rcases hh with hh | hh
    · exact hh rfl
    · simp at hh
/-- The pieces of a fork: what is summed. -/
def ndL (key b o s : Int) : List Int := if bitN key b.toNat = 0 then [b, s, o] else [b, o, s]
def ndS (key b o s : Int) : Int := sumL (tagL 5 (ndL key b o s))
/-- What comes of climbing the first forks. -/
def clmN (key : Int) (f : Prl) (s : Int) : Nat → Int
  | 0 => s
  | k + 1 => ndS key (pAt f k).1 (pAt f k).2 (clmN key f s k)
def lfS (x : Bool) (k v : Int) : Int := if x then sumL (tagL 4 [k, v]) else sumL (tagL 9 [])
def clV (key : Int) (x : Bool) (k v : Int) (f : Prl) : Int := clmN key f (lfS x k v) f.length
theorem clmN_bd {key : Int} {f : Prl} {s : Int} (hs : 0 ≤ s ∧ s ≤ 65520) : ∀ k, 0 ≤ clmN key f s k ∧ clmN key f s k ≤ 65520
  | 0 => hs
  | _ + 1 => sumL_bd _
theorem lfS_bd (x : Bool) (k v : Int) : 0 ≤ lfS x k v ∧ lfS x k v ≤ 65520 := by unfold lfS; split <;> exact sumL_bd _
theorem fkB_bd {p : Int × Int} (h : fkB p = true) : (0 ≤ p.1 ∧ p.1 ≤ 7) ∧ (0 ≤ p.2 ∧ p.2 ≤ 65520) := by
  unfold fkB at h
  rw [Bool.and_eq_true] at h
  exact ⟨inB_bd h.1, (sumB_iff _).1 h.2⟩
theorem ndL_len (key b o s : Int) : (ndL key b o s).length = 3 := by unfold ndL; split <;> rfl
theorem ndL_ok {key b o s : Int} (hb : 0 ≤ b ∧ b ≤ 7) (ho : 0 ≤ o ∧ o ≤ 65520) (hs : 0 ≤ s ∧ s ≤ 65520) : (ndL key b o s).all sumB = true := by
  unfold ndL
  split <;> (simp [sumB_iff]; omega)
end U
end Go.Proofs.Ytcdodpcdennemaa

/- More on the codes of forks. -/
namespace Go.Proofs.Ytcdodpcdennemaa
namespace U
theorem fk1_no {a : Int} {p : Int × Int} (h : fkB p = false) : fk1 a p = 3 := by unfold fk1; rw [h]; rfl
theorem fk1_low {a : Int} {p : Int × Int} (h : fkB p = true) (h2 : p.1 ≤ a) : fk1 a p = 1 := by unfold fk1; rw [h, if_pos rfl, if_pos h2]
theorem fk1_ok {a : Int} {p : Int × Int} (h : fkB p = true) (h2 : ¬ p.1 ≤ a) : fk1 a p = 0 := by unfold fk1; rw [h, if_pos rfl, if_neg h2]
theorem fkS_next {f : Prl} {j : Nat} (h : fkS f j = 0) : fkS f (j + 1) = fk1 (ahd f j) (pAt f j) := by rw [fkS, if_pos h]
theorem fkF_stop {f : Prl} {j : Nat} {q : Int} (h : fkS f j = 0) (hj : j + 1 ≤ f.length) (h1 : fk1 (ahd f j) (pAt f j) = q) (hq : q ≠ 0) : fkF f = q := by
  rw [← h1, ← fkS_next h]
  exact fkS_stop (by rw [fkS_next h, h1]; exact hq) _ hj
end U
end Go.Proofs.Ytcdodpcdennemaa

/- The fault of a trail, as the model finds it. -/
namespace Go.Proofs.Ytcdodpcdennemaa
open Go.RowKit
namespace U
/-- The value of a trail. -/
def tlV (x : Bool) (k y : Int) (sv : Value) : Value := .agg #[.bool x, .int .i64 k, .int .i64 y, sv]
/-- A block that holds a trail. -/
def TlBlk (w : World) (p : Nat) (x : Bool) (k y : Int) (sv : Value) : Prop := w.heap[p]? = some (.cells #[.bool x, .int .i64 k, .int .i64 y, sv] 91)
theorem TlBlk.cells {w : World} {p : Nat} {x : Bool} {k y : Int} {sv : Value} (h : TlBlk w p x k y sv) : w.cell? ⟨p, 0, none⟩ = some (.bool x) ∧ w.cell? ⟨p, 1, none⟩ = some (.int .i64 k) ∧ w.cell? ⟨p, 2, none⟩ = some (.int .i64 y) ∧ w.cell? ⟨p, 3, none⟩ = some sv := by
  unfold TlBlk at h
  refine ⟨?_, ?_, ?_, ?_⟩
  · unfold World.cell?; rw [h]; rfl
  · unfold World.cell?; rw [h]; rfl
  · unfold World.cell?; rw [h]; rfl
  · unfold World.cell?; rw [h]; rfl
theorem TlBlk.lt {w : World} {p : Nat} {x : Bool} {k y : Int} {sv : Value} (h : TlBlk w p x k y sv) : p < w.heap.size := (Array.getElem?_eq_some_iff.1 h).1
theorem TlBlk.below {w w' : World} {p : Nat} {x : Bool} {k y : Int} {sv : Value} (h : TlBlk w p x k y sv) (hb : Below w.heap.size w w') : TlBlk w' p x k y sv := (hb.block p h.lt).trans h
theorem tl_box (w : World) (x : Bool) (k y : Int) (sv : Value) : TlBlk (w.alloc (.cells #[.bool x, .int .i64 k, .int .i64 y, sv] 91)) w.heap.size x k y sv := heap_alloc_new w _
end U
end Go.Proofs.Ytcdodpcdennemaa

/- Trails as the laws look at them: sizes, copies, compared. -/
namespace Go.Proofs.Ytcdodpcdennemaa
open Go.RowKit
namespace U
theorem Try.infoFo7 : (Try.prog.info? 224).map (fun i => (i.zero, i.size, i.bytes)) = some (some (.agg #[.int .i64 0, .int .i64 0]), 2, 16) := by kernel_rfl
set_option maxHeartbeats 400000 in
theorem szForkS_any (a : Option Addr) (n c : Nat) (w : World) (hn : n ≤ maxLen) :
    Calls Try.prog 154 #[.slice a n c, .int .i64 1048576] w fun e w' => e = .returned (.int .i64 (if n ≤ 1048576 then (1048576 - n : Int) else -1)) ∧ w' = w := by
  unfold maxLen at hn
  by_cases h : n ≤ 1048576
  · rw [if_pos h]
    go_enter Try.func154, Try.ntmps154
    go_wp2
    go_ret
    exact ⟨rfl, rfl⟩
  · rw [if_neg h]
    go_enter Try.func154, Try.ntmps154
    go_wp2
    go_ret
    exact ⟨rfl, rfl⟩
set_option maxRecDepth 100000 in
theorem toFork_any (x y : Int) (w : World) :
    Calls Try.prog 176 #[.agg #[.int .i64 x, .int .i64 y]] w fun e w' => e = .returned (.agg #[.int .i64 x, .int .i64 y]) ∧ Below w.heap.size w w' := by
  go_enter Try.func176, Try.ntmps176
  go_wp2
  refine bodyPost_ret (v := .agg #[.int .i64 x, .int .i64 y]) (by simp [results, Try.results176, go_sem]) rfl ⟨rfl, ?_⟩
  exact (two_new _ _).alloc (by simp; omega) _
theorem made_forks {w1 w : World} {n : Nat} {l : Prl} (HN : n = l.length) (h : w1.ownsRow w.heap.size 224 2 (.slice (some ⟨w.heap.size, 0, none⟩) n n) n (madeCells #[Value.int .i64 0, Value.int .i64 0] (n * 2)).toList) :
    w1.ownsRow w.heap.size 224 2 (.slice (some ⟨w.heap.size, 0, none⟩) n n) n ((copied (fl l) 0).map (Value.int .i64)) := by
  rw [copied_zero, fl_len, ← HN, List.map_replicate, ← made_two]
  exact h
set_option maxRecDepth 100000 in
set_option maxHeartbeats 2000000 in
theorem toForkS_core (b off c n : Nat) (l : Prl) (w : World) (HN : Hid (n = l.length)) (hx : n ≤ 1048576) (hb : b < w.heap.size)
    (hc : ∀ j, j < n → w.cell? ⟨b, off + j * 2, none⟩ = some (.int .i64 (pAt l j).1) ∧ w.cell? ⟨b, off + j * 2 + 1, none⟩ = some (.int .i64 (pAt l j).2)) :
    Calls Try.prog 156 #[.slice (some ⟨b, off, none⟩) n c] w fun e w' => e = .returned (.slice (some ⟨w.heap.size, 0, none⟩) n n) ∧ Below w.heap.size w w' ∧ w'.ownsRow w.heap.size 224 2 (.slice (some ⟨w.heap.size, 0, none⟩) n n) n ((fl l).map (Value.int .i64)) := by
  obtain ⟨i0, hi, hz0, hz1, hz2⟩ := info_parts Try.infoFo7
  go_enter Try.func156, Try.ntmps156
  go_wp2_with (at_make; refine wpList_make_full _ rfl _ _ 89 rfl w.heap.size 224 i0 (.agg #[.int .i64 0, .int .i64 0]) 2 Try.underlying89 hi hz0 hz1 _ _ _ _ n rfl rfl rfl rfl (by rw [hz2]; omega) (by unfold maxLen; omega) (Nat.le_refl _) ?_)
  intro w1 hown1 hg1
  have own1 := made_forks HN.out hown1
  have hB1 : Below w.heap.size w w1 := (Below.refl _ _).grown hg1 (Nat.le_refl _) (fun k hk => by cases hk)
  clear hown1 hg1
  go_wp2
  go_loopw [4] (fun i wr => ∃ k : Nat, k ≤ n ∧ i = .int .i64 k ∧ Below w.heap.size w wr ∧ w.heap.size < wr.heap.size ∧ wr.ownsRow w.heap.size 224 2 (.slice (some ⟨w.heap.size, 0, none⟩) n n) n ((copied (fl l) (k * 2)).map (Value.int .i64))) (fun i _ => n - (intOf i).toNat)
  case atStart => exact ⟨0, Nat.zero_le _, rfl, hB1, (own1.lt _ rfl).2, own1⟩
  case round =>
    obtain ⟨k, hk, rfl, hB, hsz, ho⟩ := hrel
    by_cases hkn : k < n
    · have hki : (k : Int) < (n : Int) := by omega
      have hc1 := (hB.cell (p := ⟨b, off + k * 2, none⟩) hb).trans (hc k hkn).1
      have hc2 := (hB.cell (p := ⟨b, off + k * 2 + 1, none⟩) hb).trans (hc k hkn).2
      have hlk : k < l.length := by have := HN.out; omega
      have hts := two_set l hlk
      obtain ⟨x, hx⟩ : ∃ x, x = (pAt l k).1 := ⟨_, rfl⟩
      obtain ⟨y, hy⟩ : ∃ y, y = (pAt l k).2 := ⟨_, rfl⟩
      rw [← hx] at hc1 hts
      rw [← hy] at hc2 hts
      have HT : Hid (((copied (fl l) (k * 2)).set (k * 2) x).set (k * 2 + 1) y = copied (fl l) ((k + 1) * 2)) := hts
      have HB : Hid (Below w.heap.size w wr) := hB
      have HO : Hid (wr.ownsRow w.heap.size 224 2 (.slice (some ⟨w.heap.size, 0, none⟩) n n) n ((copied (fl l) (k * 2)).map (Value.int .i64))) := ho
      clear hx hy hc hts own1 hB1 ho hB
      go_wp2_with fail
      refine (toFork_any x y _).mono ?_
      rintro e w2 ⟨rfl, hb2⟩
      have ho2 := own_below HO.out hb2
      have f0 := ho2.frozenAt (k * 2)
      have f1 := ho2.frozenAt (k * 2 + 1)
      obtain ⟨z0, g0⟩ := own_some2 ho2 (j := k * 2) (by omega)
      obtain ⟨z1, g1⟩ := own_some2 ho2 (j := k * 2 + 1) (by omega)
      have s1 := (ho2.stored (k * 2) (.int .i64 x)).1
      have s2 := (s1.stored (k * 2 + 1) (.int .i64 y)).1
      rw [← List.map_set, ← List.map_set, HT.out] at s2
      have hB2 : Below w.heap.size w ((w2.setCell ⟨w.heap.size, k * 2, none⟩ (.int .i64 x)).setCell ⟨w.heap.size, k * 2 + 1, none⟩ (.int .i64 y)) := ((below_after_of HB.out hb2).setCell (Nat.le_refl _) _).setCell (Nat.le_refl _) _
      have hsz2 : w.heap.size < w2.heap.size := by have := hb2.size; omega
      have HB2 : Hid (Below w.heap.size w ((w2.setCell ⟨w.heap.size, k * 2, none⟩ (.int .i64 x)).setCell ⟨w.heap.size, k * 2 + 1, none⟩ (.int .i64 y))) := hB2
      have HS2 : Hid (((w2.setCell ⟨w.heap.size, k * 2, none⟩ (.int .i64 x)).setCell ⟨w.heap.size, k * 2 + 1, none⟩ (.int .i64 y)).ownsRow w.heap.size 224 2 (.slice (some ⟨w.heap.size, 0, none⟩) n n) n ((copied (fl l) ((k + 1) * 2)).map (Value.int .i64))) := s2
      clear ho2 s1 s2 hB2 hb2
      go_wp2
      go_roundw
      case rel => exact ⟨k + 1, by omega, by go_num, HB2.out, by simp; omega, HS2.out⟩
      case measure => simp [intOf]; omega
    · have hkn : k = n := by omega
      subst hkn
      have e1 : copied (fl l) (k * 2) = fl l := by rw [HN.out, ← fl_len]; exact copied_all _
      rw [e1] at ho
      go_wp2
      go_ret
      exact ⟨rfl, hB, ho⟩
set_option maxRecDepth 100000 in
set_option maxHeartbeats 1000000 in
theorem toForkS_any (v : Value) (l : Prl) (w : World) (hv : Prs w v l) (hx : l.length ≤ 1048576) :
    Calls Try.prog 156 #[v] w fun e w' => ∃ a c, e = .returned (.slice a l.length c) ∧ Below w.heap.size w w' ∧ w'.ownsRow w.heap.size 224 2 (.slice a l.length c) l.length ((fl l).map (Value.int .i64)) := by
  obtain ⟨a, c, rfl⟩ := hv.shape
  by_cases h0 : 0 < l.length
  · obtain ⟨_, b, off, rfl, hb, hc⟩ := hv.at h0
    refine (toForkS_core b off c l.length l w rfl hx hb hc).mono ?_
    rintro e w' ⟨rfl, hB, ho⟩
    exact ⟨_, _, rfl, hB, ho⟩
  · have e1 : l = [] := List.eq_nil_of_length_eq_zero (by omega)
    subst e1
    obtain ⟨i0, hi, hz0, hz1, hz2⟩ := info_parts Try.infoFo7
    simp only [List.length_nil]
    clear hv h0 hx
    go_enter Try.func156, Try.ntmps156
    go_wp2_with (at_make; refine wpList_make_full _ rfl _ _ 89 rfl w.heap.size 224 i0 (.agg #[.int .i64 0, .int .i64 0]) 2 Try.underlying89 hi hz0 hz1 _ _ _ _ 0 rfl rfl rfl rfl (by rw [hz2]; omega) (by unfold maxLen; omega) (Nat.le_refl _) ?_)
    intro w1 hown1 hg1
    have hB1 : Below w.heap.size w w1 := (Below.refl _ _).grown hg1 (Nat.le_refl _) (fun k hk => by cases hk)
    have HO : Hid (w1.ownsRow w.heap.size 224 2 (.slice (some ⟨w.heap.size, 0, none⟩) 0 0) 0 []) := by
      have := hown1
      rw [made_two] at this
      exact this
    clear hown1 hg1
    go_wp2
    refine wp_loop_rounds 1 ?_; rw [rounds_succ]
    go_wp2
    go_ret
    exact ⟨_, _, rfl, hB1, HO.out⟩
set_option maxRecDepth 100000 in
theorem eqFork7_any (x y x' y' : Int) (w : World) :
    Calls Try.prog 179 #[.agg #[.int .i64 x, .int .i64 y], .agg #[.int .i64 x', .int .i64 y']] w fun e w' => e = .returned (.bool (decide ((x, y) = (x', y')))) ∧ Below w.heap.size w w' := by
  by_cases h1 : x = x'
  · by_cases h2 : y = y'
    · subst h1 h2
      rw [decide_eq_true rfl]
      go_enter Try.func179, Try.ntmps179
      go_wp2
      go_ret
      exact ⟨rfl, two_new _ _⟩
    · subst h1
      have e1 : (y != y') = true := by simpa using h2
      rw [decide_eq_false (fun h => h2 (by cases h; rfl))]
      clear h2
      go_enter Try.func179, Try.ntmps179
      go_wp2
      go_ret
      exact ⟨rfl, two_new _ _⟩
  · have e1 : (x != x') = true := by simpa using h1
    rw [decide_eq_false (fun h => h1 (by cases h; rfl))]
    clear h1
    go_enter Try.func179, Try.ntmps179
    go_wp2
    go_ret
    exact ⟨rfl, two_new _ _⟩
set_option maxRecDepth 100000 in
set_option maxHeartbeats 2000000 in
theorem eqForkS7_core (b off c b' off' c' n : Nat) (l m : Prl) (w : World) (HL : Hid (l.length = n)) (HM : Hid (m.length = n)) (hn : n ≤ 1099511627776) (hb : b < w.heap.size) (hb' : b' < w.heap.size)
    (hc : ∀ j, j < n → w.cell? ⟨b, off + j * 2, none⟩ = some (.int .i64 (pAt l j).1) ∧ w.cell? ⟨b, off + j * 2 + 1, none⟩ = some (.int .i64 (pAt l j).2))
    (hc' : ∀ j, j < n → w.cell? ⟨b', off' + j * 2, none⟩ = some (.int .i64 (pAt m j).1) ∧ w.cell? ⟨b', off' + j * 2 + 1, none⟩ = some (.int .i64 (pAt m j).2)) :
    Calls Try.prog 161 #[.slice (some ⟨b, off, none⟩) n c, .slice (some ⟨b', off', none⟩) n c'] w fun e w' => e = .returned (.bool (decide (l = m))) ∧ Below w.heap.size w w' := by
  go_enter Try.func161, Try.ntmps161
  go_wp2
  go_loopw [5] (fun i wr => ∃ k : Nat, k ≤ n ∧ i = .int .i64 k ∧ Hid (AgreeP l m k) ∧ Below w.heap.size w wr) (fun i _ => n - (intOf i).toNat)
  case atStart => exact ⟨0, Nat.zero_le _, rfl, fun j hj => by omega, Below.refl _ _⟩
  case round =>
    obtain ⟨k, hk, rfl, hA, hB⟩ := hrel
    by_cases hkn : k < n
    · have hki : (k : Int) < (n : Int) := by omega
      have c1 := After.cell ((hB.cell (p := ⟨b, off + k * 2, none⟩) hb).trans (hc k hkn).1)
      have c2 := After.cell ((hB.cell (p := ⟨b, off + k * 2 + 1, none⟩) hb).trans (hc k hkn).2)
      have c3 := After.cell ((hB.cell (p := ⟨b', off' + k * 2, none⟩) hb').trans (hc' k hkn).1)
      have c4 := After.cell ((hB.cell (p := ⟨b', off' + k * 2 + 1, none⟩) hb').trans (hc' k hkn).2)
      have hne := After.ne wr
      have hE := fun w => eqFork7_any (pAt l k).1 (pAt l k).2 (pAt m k).1 (pAt m k).2 w
      have HL2 : Hid (l.length = n) := HL
      generalize hx : (pAt l k).1 = x at *
      generalize hy : (pAt l k).2 = y at *
      generalize hx' : (pAt m k).1 = x' at *
      generalize hy' : (pAt m k).2 = y' at *
      have HP : Hid (pAt l k = (x, y) ∧ pAt m k = (x', y')) := ⟨by rw [← hx, ← hy], by rw [← hx', ← hy']⟩
      obtain ⟨d, hd⟩ : ∃ d, d = decide ((x, y) = (x', y')) := ⟨_, rfl⟩
      have HD : Hid (d = decide ((x, y) = (x', y'))) := hd
      rw [← hd] at hE
      have HB : Hid (Below w.heap.size w wr) := hB
      clear hx hy hx' hy' hc hc' hd hB
      go_wp2
      refine wp_region_after (by kernel_rfl) (by kernel_rfl) ?_
      repeat (first | go_big_quiet_skip | (go_big_quiet_want; go_big_quiet_op; first | go_big_quiet_on | go_big_quiet_call (first | (go_at_call 179; refine (hE _).mono ?_; rintro e wq ⟨rfl, hbq⟩; exact ⟨rfl, after_mk (below_after_of (After.b _) hbq)⟩))))
      refine wpQuiet_nil ?_
      rintro _ ⟨n2, rfl⟩
      have hB2 : Below w.heap.size w n2.w := below_after_of HB.out n2.b
      cases d
      · have e1 : Hid (¬ l = m) := fun e => by
          have := HD.out.symm
          rw [decide_eq_false_iff_not] at this
          exact this (by rw [← HP.out.1, ← HP.out.2, e])
        go_wp2
        go_ret
        exact ⟨ret_bool (by symm; rw [decide_eq_false_iff_not]; exact e1.out), hB2⟩
      · go_wp2
        go_roundw
        case rel => exact ⟨k + 1, by omega, by go_num, hA.out.succ (by rw [HP.out.1, HP.out.2]; exact of_decide_eq_true HD.out.symm), hB2⟩
        case measure => simp [intOf]; omega
    · clear hc hc'
      go_wp2
      go_ret
      refine ⟨ret_bool ?_, hB⟩
      symm
      rw [decide_eq_true_iff]
      have hkn : k = n := by omega
      subst hkn
      have hxl := HL.out
      exact AgreeP.all (by rw [hxl]; exact hA.out) (HL.out.trans HM.out.symm)
set_option maxRecDepth 100000 in
set_option maxHeartbeats 1000000 in
theorem eqForkS7_any (v u : Value) (l m : Prl) (w : World) (hv : Prs w v l) (hu : Prs w u m) (hx : l.length ≤ 1099511627776) (hy : m.length ≤ 1099511627776) :
    Calls Try.prog 161 #[v, u] w fun e w' => e = .returned (.bool (decide (l = m))) ∧ Below w.heap.size w w' := by
  obtain ⟨a, c, rfl⟩ := hv.shape
  obtain ⟨a', c', rfl⟩ := hu.shape
  by_cases hl : l.length = m.length
  · by_cases h0 : 0 < l.length
    · obtain ⟨_, b, off, rfl, hb, hc⟩ := hv.at h0
      obtain ⟨_, b', off', rfl, hb', hc'⟩ := hu.at (by omega)
      rw [← hl] at hc' ⊢
      exact eqForkS7_core b off c b' off' c' l.length l m w rfl hl.symm hx hb hb' hc hc'
    · have e1 : l = [] := List.eq_nil_of_length_eq_zero (by omega)
      have e2 : m = [] := List.eq_nil_of_length_eq_zero (by omega)
      subst e1 e2
      simp only [List.length_nil]
      clear hv hu hl h0 hx hy
      go_enter Try.func161, Try.ntmps161
      go_wp2
      refine wp_loop_rounds 1 ?_; rw [rounds_succ]
      go_wp2
      go_ret
      exact ⟨rfl, Below.refl _ _⟩
  · have hne : decide (l = m) = false := by rw [decide_eq_false_iff_not]; intro e; exact hl (by rw [e])
    rw [hne]
    obtain ⟨n, hn⟩ : ∃ n, n = l.length := ⟨_, rfl⟩
    obtain ⟨k, hk⟩ : ∃ n, n = m.length := ⟨_, rfl⟩
    rw [← hn, ← hk] at hl ⊢
    have h1 : ((n : Int) != (k : Int)) = true := by simp; omega
    clear hv hu hl hne hn hk
    go_enter Try.func161, Try.ntmps161
    go_wp2
    go_ret
    exact ⟨rfl, Below.refl _ _⟩
set_option maxRecDepth 100000 in
theorem szTrail_any (x : Bool) (k y : Int) (a : Option Addr) (n c : Nat) (w : World) (hn : n ≤ maxLen) :
    Calls Try.prog 117 #[.agg #[.bool x, .int .i64 k, .int .i64 y, .slice a n c], .int .i64 1048576] w fun e w' => e = .returned (.int .i64 (if n ≤ 1048576 then (1048576 - n : Int) else -1)) ∧ Below w.heap.size w w' := by
  have hZ := fun w => szForkS_any a n c w hn
  by_cases h : n ≤ 1048576
  · rw [if_pos h] at hZ ⊢
    have h2 : ¬ ((1048576 - n : Int) < 0) := by omega
    generalize (1048576 - n : Int) = z at *
    go_enter Try.func117, Try.ntmps117
    go_wp2_with fail
    refine (hZ _).mono ?_
    rintro e w1 ⟨rfl, rfl⟩
    clear hZ
    go_wp2
    go_ret
    exact ⟨rfl, one_new _⟩
  · rw [if_neg h] at hZ ⊢
    go_enter Try.func117, Try.ntmps117
    go_wp2_with fail
    refine (hZ _).mono ?_
    rintro e w1 ⟨rfl, rfl⟩
    clear hZ
    go_wp2
    go_ret
    exact ⟨rfl, one_new _⟩
set_option maxRecDepth 100000 in
set_option maxHeartbeats 1000000 in
theorem eqTrail7_same (x : Bool) (k y : Int) (v u : Value) (l : Prl) (w : World) (hv : Prs w v l) (hu : Prs w u l) (hx : l.length ≤ 1099511627776) :
    Calls Try.prog 127 #[.agg #[.bool x, .int .i64 k, .int .i64 y, v], .agg #[.bool x, .int .i64 k, .int .i64 y, u]] w fun e w' => e = .returned (.bool true) ∧ Below w.heap.size w w' := by
  obtain ⟨a, c', rfl⟩ := hv.shape
  obtain ⟨a', d', rfl⟩ := hu.shape
  have hE := fun w' h => eqForkS7_any _ _ l l w' (hv.below h) (hu.below h) hx hx
  have hS := fun w => eqSlot_any k y k y w
  have hxx : (x != x) = false := by simp
  rw [decide_eq_true rfl] at hE hS
  generalize l.length = n at *
  clear hv hu
  obtain ⟨W, hW⟩ : ∃ W, W = (w.alloc (.cells #[.bool x, .int .i64 k, .int .i64 y, .slice a n c'] 91)).alloc (.cells #[.bool x, .int .i64 k, .int .i64 y, .slice a' n d'] 91) := ⟨_, rfl⟩
  have HW : Hid ((w.alloc (.cells #[.bool x, .int .i64 k, .int .i64 y, .slice a n c'] 91)).alloc (.cells #[.bool x, .int .i64 k, .int .i64 y, .slice a' n d'] 91) = W) := hW.symm
  have hB : Below w.heap.size w W := by rw [hW]; exact two_new _ _
  have H1 : W.heap[w.heap.size]? = some (.cells #[.bool x, .int .i64 k, .int .i64 y, .slice a n c'] 91) := by
    rw [hW]; exact ((one_new _).block w.heap.size (by simp)).trans (heap_alloc_new w _)
  have H2 : W.heap[w.heap.size + 1]? = some (.cells #[.bool x, .int .i64 k, .int .i64 y, .slice a' n d'] 91) := by
    have h := heap_alloc_new (w.alloc (.cells #[.bool x, .int .i64 k, .int .i64 y, .slice a n c'] 91)) (.cells #[.bool x, .int .i64 k, .int .i64 y, .slice a' n d'] 91)
    rw [World.size_alloc] at h
    rw [hW]
    exact h
  have hsz : w.heap.size + 1 < W.heap.size := (Array.getElem?_eq_some_iff.1 H2).1
  obtain ⟨p0, p1, p2, p3⟩ := TlBlk.cells H1
  obtain ⟨q0, q1, q2, q3⟩ := TlBlk.cells H2
  clear hW
  go_enter Try.func127, Try.ntmps127
  go_wp2_with fail
  rw [HW.out]
  refine (hS _).mono ?_
  rintro e w1 ⟨rfl, hb1⟩
  have hB1 := below_after_of hB hb1
  obtain ⟨r0, r1, r2, r3⟩ := TlBlk.cells ((hb1.block w.heap.size (by omega)).trans H1)
  obtain ⟨s0, s1, s2, s3⟩ := TlBlk.cells ((hb1.block (w.heap.size + 1) hsz).trans H2)
  clear hS H1 H2 p0 p1 p2 p3 q0 q1 q2 q3 hb1
  go_wp2_with fail
  refine (hE _ hB1).mono ?_
  rintro e w2 ⟨rfl, hb2⟩
  have hB2 := below_after_of hB1 hb2
  clear hE r0 r1 r2 r3 s0 s1 s2 s3
  go_wp2
  go_ret
  exact ⟨rfl, hB2⟩
theorem blk4L {w : World} {b : Nat} {x y z u : Value} {t : TypeId} (h : w.heap[b]? = some (.cells #[x, y, z, u] t (0, 0))) : (w.cell? ⟨b, 0, none⟩ = some x ∧ w.cell? ⟨b, 1, none⟩ = some y ∧ w.cell? ⟨b, 2, none⟩ = some z ∧ w.cell? ⟨b, 3, none⟩ = some u) ∧ (w.frozen? ⟨b, 0, none⟩ = false ∧ w.frozen? ⟨b, 1, none⟩ = false ∧ w.frozen? ⟨b, 2, none⟩ = false ∧ w.frozen? ⟨b, 3, none⟩ = false) := by
  refine ⟨⟨?_, ?_, ?_, ?_⟩, ⟨?_, ?_, ?_, ?_⟩⟩
  · unfold World.cell?; rw [h]; rfl
  · unfold World.cell?; rw [h]; rfl
  · unfold World.cell?; rw [h]; rfl
  · unfold World.cell?; rw [h]; rfl
  · unfold World.frozen?; rw [h]; rfl
  · unfold World.frozen?; rw [h]; rfl
  · unfold World.frozen?; rw [h]; rfl
  · unfold World.frozen?; rw [h]; rfl
theorem three_lieL (w : World) (o o' o'' : Obj) : (((w.alloc o).alloc o').alloc o'').heap[w.heap.size]? = some o ∧ (((w.alloc o).alloc o').alloc o'').heap[w.heap.size + 1]? = some o' ∧ (((w.alloc o).alloc o').alloc o'').heap[w.heap.size + 1 + 1]? = some o'' := by
  have h1 := heap_alloc_new (w.alloc o) o'
  have h2 := heap_alloc_new ((w.alloc o).alloc o') o''
  simp only [World.size_alloc] at h1 h2
  exact ⟨((two_new o' o'').block w.heap.size (by simp)).trans (heap_alloc_new w o), ((one_new o'').block (w.heap.size + 1) (by simp)).trans h1, h2⟩
set_option maxRecDepth 100000 in
set_option maxHeartbeats 2000000 in
theorem toTrail_any (x : Bool) (k y : Int) (v : Value) (l : Prl) (w : World) (hv : Prs w v l) (hx : l.length ≤ 1048576) :
    Calls Try.prog 121 #[.agg #[.bool x, .int .i64 k, .int .i64 y, v]] w fun e w' => ∃ a c, e = .returned (.agg #[.bool x, .int .i64 k, .int .i64 y, .slice a l.length c]) ∧ Below w.heap.size w w' ∧ w'.ownsRow w.heap.size 224 2 (.slice a l.length c) l.length ((fl l).map (Value.int .i64)) := by
  have hT := fun w' h => toForkS_any v l w' (hv.below (w' := w') h) hx
  have hS := fun w => toSlot_any k y w
  obtain ⟨av, cv, rfl⟩ := hv.shape
  obtain ⟨W, hW⟩ : ∃ W, W = ((w.alloc (.cells #[.bool x, .int .i64 k, .int .i64 y, .slice av l.length cv] 81)).alloc (.cells #[.bool false, .int .i64 0, .int .i64 0, .slice none 0 0] 91)).alloc (.cells #[.bool x, .int .i64 0, .int .i64 0, .slice none 0 0] 91) := ⟨_, rfl⟩
  have HW : Hid (((w.alloc (.cells #[.bool x, .int .i64 k, .int .i64 y, .slice av l.length cv] 81)).alloc (.cells #[.bool false, .int .i64 0, .int .i64 0, .slice none 0 0] 91)).alloc (.cells #[.bool x, .int .i64 0, .int .i64 0, .slice none 0 0] 91) = W) := hW.symm
  have hB : Below w.heap.size w W := by rw [hW]; exact ((one_new _).alloc (one_new _).size _).alloc ((one_new _).alloc (one_new _).size _).size _
  have hLL : Hid (W.heap[w.heap.size]? = some (.cells #[.bool x, .int .i64 k, .int .i64 y, .slice av l.length cv] 81) ∧ W.heap[w.heap.size + 1]? = some (.cells #[.bool false, .int .i64 0, .int .i64 0, .slice none 0 0] 91) ∧ W.heap[w.heap.size + 1 + 1]? = some (.cells #[.bool x, .int .i64 0, .int .i64 0, .slice none 0 0] 91)) := (by rw [hW]; exact three_lieL w _ _ _ : _ ∧ _)
  obtain ⟨H0, H1, H2⟩ := hLL.out
  obtain ⟨⟨a0, a1, a2, a3⟩, -⟩ := blk4L H0
  obtain ⟨⟨c0, c1, c2, c3⟩, f0, f1, f2, f3⟩ := blk4L H2
  have hz : Hid (w.heap.size + 1 + 1 < W.heap.size) := (Array.getElem?_eq_some_iff.1 H2).1
  generalize hm : l.length = n at *
  have HM : Hid (l.length = n) := hm
  clear hW hv hm H0 H1 H2
  go_enter Try.func121, Try.ntmps121
  go_wp2_with fail
  rw [HW.out]
  refine (hS _).mono ?_
  rintro e w1 ⟨rfl, hb1⟩
  have hB1 := below_after_of hB hb1
  have G0 := (hb1.block w.heap.size (by have := hz.out; omega)).trans hLL.out.1
  have G1 := (hb1.block (w.heap.size + 1) (by have := hz.out; omega)).trans hLL.out.2.1
  have G2 := (hb1.block (w.heap.size + 1 + 1) hz.out).trans hLL.out.2.2
  have hz1 : Hid (w.heap.size + 1 + 1 < w1.heap.size) := (Array.getElem?_eq_some_iff.1 G2).1
  obtain ⟨⟨b0, b1, b2, b3⟩, -⟩ := blk4L G0
  obtain ⟨⟨d0, d1, d2, d3⟩, g0, g1, g2, g3⟩ := blk4L G2
  have hB2 : Below w.heap.size w ((w1.setCell ⟨w.heap.size + 1 + 1, 1, none⟩ (.int .i64 k)).setCell ⟨w.heap.size + 1 + 1, 2, none⟩ (.int .i64 y)) := (hB1.setCell (by show w.heap.size ≤ w.heap.size + 1 + 1; omega) _).setCell (by show w.heap.size ≤ w.heap.size + 1 + 1; omega) _
  have K1 : ((w1.setCell ⟨w.heap.size + 1 + 1, 1, none⟩ (.int .i64 k)).setCell ⟨w.heap.size + 1 + 1, 2, none⟩ (.int .i64 y)).heap[w.heap.size + 1]? = some (.cells #[.bool false, .int .i64 0, .int .i64 0, .slice none 0 0] 91) := by
    rw [heap_setCell_other _ _ _ _ (show w.heap.size + 1 ≠ w.heap.size + 1 + 1 by omega), heap_setCell_other _ _ _ _ (show w.heap.size + 1 ≠ w.heap.size + 1 + 1 by omega)]; exact G1
  have K2 : ((w1.setCell ⟨w.heap.size + 1 + 1, 1, none⟩ (.int .i64 k)).setCell ⟨w.heap.size + 1 + 1, 2, none⟩ (.int .i64 y)).heap[w.heap.size + 1 + 1]? = some (.cells #[.bool x, .int .i64 k, .int .i64 y, .slice none 0 0] 91) :=
    heap_setCell_same _ _ 2 _ _ _ (heap_setCell_same _ _ 1 _ _ _ G2)
  clear hS hb1 hB hB1 G0 G1 G2 a0 a1 a2 a3 c0 c1 c2 c3 f0 f1 f2 f3
  go_wp2_with fail
  generalize ((w1.setCell ⟨w.heap.size + 1 + 1, 1, none⟩ (.int .i64 k)).setCell ⟨w.heap.size + 1 + 1, 2, none⟩ (.int .i64 y)) = w2 at *
  refine (hT _ hB2).mono ?_
  rintro e w3 ⟨a3, c3, rfl, hb3, own3⟩
  have hB3 := below_after_of hB2 hb3
  have hz2 : w.heap.size + 1 + 1 < w2.heap.size := (Array.getElem?_eq_some_iff.1 K2).1
  obtain ⟨⟨m0, m1, m2, m3⟩, n0, n1, n2, n3⟩ := blk4L ((hb3.block (w.heap.size + 1) (by omega)).trans K1)
  obtain ⟨⟨p0, p1, p2, p3⟩, q0, q1, q2, q3⟩ := blk4L ((hb3.block (w.heap.size + 1 + 1) hz2).trans K2)
  have HOW : Hid (w3.ownsRow w2.heap.size 224 2 (.slice a3 n c3) n ((fl l).map (Value.int .i64))) := own3
  have HZ : Hid (w.heap.size + 1 + 1 < w2.heap.size) := hz2
  have HB3 : Hid (Below w.heap.size w w3) := hB3
  clear hT hB2 hb3 hB3 own3 K1 K2 b0 b1 b2 b3 d0 d1 d2 d3 g0 g1 g2 g3 hz2
  go_wp2
  refine bodyPost_ret (v := .agg #[.bool x, .int .i64 k, .int .i64 y, .slice a3 n c3]) (by simp [results, Try.results121, go_sem, *]) rfl ⟨a3, c3, rfl, ?_, ?_⟩
  · exact ((((HB3.out.setCell (by show w.heap.size ≤ w.heap.size + 1 + 1; omega) _).setCell (by show w.heap.size ≤ w.heap.size + 1; omega) _).setCell (by show w.heap.size ≤ w.heap.size + 1; omega) _).setCell (by show w.heap.size ≤ w.heap.size + 1; omega) _).setCell (by show w.heap.size ≤ w.heap.size + 1; omega) _
  · have h1 : w.heap.size + 1 < w2.heap.size := by have := HZ.out; omega
    exact own_mono (ownsRow_setCell_below (ownsRow_setCell_below (ownsRow_setCell_below (ownsRow_setCell_below (ownsRow_setCell_below HOW.out HZ.out _) h1 _) h1 _) h1 _) h1 _) (by have := HZ.out; omega)
end U
end Go.Proofs.Ytcdodpcdennemaa

/- Two trails compared, as the program and as the model do it. -/
namespace Go.Proofs.Ytcdodpcdennemaa
open Go.RowKit
namespace U
theorem cellB {W wr : World} {b i : Nat} {v : Value} (h : Below W.heap.size W wr) (hc : W.cell? ⟨b, i, none⟩ = some v) : wr.cell? ⟨b, i, none⟩ = some v := After.cell hc ⟨wr, h⟩
set_option maxRecDepth 100000 in
set_option maxHeartbeats 2000000 in
theorem equalForks_core (b off c b' off' c' n : Nat) (l m : Prl) (w : World) (HL : Hid (l.length = n)) (HM : Hid (m.length = n)) (hn : n ≤ 1099511627776) (hb : b < w.heap.size) (hb' : b' < w.heap.size)
    (hc : ∀ j, j < n → w.cell? ⟨b, off + j * 2, none⟩ = some (.int .i64 (pAt l j).1) ∧ w.cell? ⟨b, off + j * 2 + 1, none⟩ = some (.int .i64 (pAt l j).2))
    (hc' : ∀ j, j < n → w.cell? ⟨b', off' + j * 2, none⟩ = some (.int .i64 (pAt m j).1) ∧ w.cell? ⟨b', off' + j * 2 + 1, none⟩ = some (.int .i64 (pAt m j).2)) :
    Calls Try.prog 159 #[.slice (some ⟨b, off, none⟩) n c, .slice (some ⟨b', off', none⟩) n c'] w fun e w' => e = .returned (.bool (decide (l = m))) ∧ Below w.heap.size w w' := by
  go_enter Try.func159, Try.ntmps159
  go_wp2
  go_loopw [13] (fun i wr => ∃ k : Nat, k ≤ n ∧ i = .int .i64 k ∧ Hid (AgreeP l m k) ∧ Below w.heap.size w wr) (fun i _ => n - (intOf i).toNat)
  case atStart => exact ⟨0, Nat.zero_le _, rfl, fun j hj => by omega, Below.refl _ _⟩
  case round =>
    obtain ⟨k, hk, rfl, hA, hB⟩ := hrel
    by_cases hkn : k < n
    · have hki : (k : Int) < (n : Int) := by omega
      have c1 := After.cell ((hB.cell (p := ⟨b, off + k * 2, none⟩) hb).trans (hc k hkn).1)
      have c2 := After.cell ((hB.cell (p := ⟨b, off + k * 2 + 1, none⟩) hb).trans (hc k hkn).2)
      have c3 := After.cell ((hB.cell (p := ⟨b', off' + k * 2, none⟩) hb').trans (hc' k hkn).1)
      have c4 := After.cell ((hB.cell (p := ⟨b', off' + k * 2 + 1, none⟩) hb').trans (hc' k hkn).2)
      have hne := After.ne wr
      generalize hx : (pAt l k).1 = x at *
      generalize hy : (pAt l k).2 = y at *
      generalize hx' : (pAt m k).1 = x' at *
      generalize hy' : (pAt m k).2 = y' at *
      have HP : Hid (pAt l k = (x, y) ∧ pAt m k = (x', y')) := ⟨by rw [← hx, ← hy], by rw [← hx', ← hy']⟩
      have HB : Hid (Below w.heap.size w wr) := hB
      clear hx hy hx' hy' hc hc' hB
      by_cases h : (x, y) = (x', y')
      · cases h
        go_wp2
        refine wp_region_after (by kernel_rfl) (by kernel_rfl) ?_
        repeat (first | go_big_quiet_skip | (go_big_quiet_want; go_big_quiet_op; first | go_big_quiet_on))
        refine wpQuiet_nil ?_
        rintro _ ⟨n2, rfl⟩
        have hB2 : Below w.heap.size w n2.w := below_after_of HB.out n2.b
        go_wp2
        go_roundw
        case rel => exact ⟨k + 1, by omega, by go_num, hA.out.succ (by rw [HP.out.1, HP.out.2]), hB2⟩
        case measure => simp [intOf]; omega
      · have e1 : Hid (¬ l = m) := fun e => h (by rw [← HP.out.1, ← HP.out.2, e])
        by_cases h1 : x = x'
        · subst h1
          have h2 : (y == y') = false := by
            have : y ≠ y' := fun e => h (by rw [e])
            simpa using this
          clear h
          go_wp2
          refine wp_region_after (by kernel_rfl) (by kernel_rfl) ?_
          repeat (first | go_big_quiet_skip | (go_big_quiet_want; go_big_quiet_op; first | go_big_quiet_on))
          refine wpQuiet_nil ?_
          rintro _ ⟨n2, rfl⟩
          have hB2 : Below w.heap.size w n2.w := below_after_of HB.out n2.b
          go_wp2
          go_ret
          exact ⟨ret_bool (by symm; rw [decide_eq_false_iff_not]; exact e1.out), hB2⟩
        · have h2 : (x == x') = false := by simpa using h1
          clear h h1
          go_wp2
          refine wp_region_after (by kernel_rfl) (by kernel_rfl) ?_
          repeat (first | go_big_quiet_skip | (go_big_quiet_want; go_big_quiet_op; first | go_big_quiet_on))
          refine wpQuiet_nil ?_
          rintro _ ⟨n2, rfl⟩
          have hB2 : Below w.heap.size w n2.w := below_after_of HB.out n2.b
          go_wp2
          go_ret
          exact ⟨ret_bool (by symm; rw [decide_eq_false_iff_not]; exact e1.out), hB2⟩
    · clear hc hc'
      go_wp2
      go_ret
      refine ⟨ret_bool ?_, hB⟩
      symm
      rw [decide_eq_true_iff]
      have hkn : k = n := by omega
      subst hkn
      have hxl := HL.out
      exact AgreeP.all (by rw [hxl]; exact hA.out) (HL.out.trans HM.out.symm)
set_option maxRecDepth 100000 in
set_option maxHeartbeats 1000000 in
theorem equalForks_any (v u : Value) (l m : Prl) (w : World) (hv : Prs w v l) (hu : Prs w u m) (hx : l.length ≤ 1099511627776) (hy : m.length ≤ 1099511627776) :
    Calls Try.prog 159 #[v, u] w fun e w' => e = .returned (.bool (decide (l = m))) ∧ Below w.heap.size w w' := by
  obtain ⟨a, c, rfl⟩ := hv.shape
  obtain ⟨a', c', rfl⟩ := hu.shape
  by_cases hl : l.length = m.length
  · by_cases h0 : 0 < l.length
    · obtain ⟨_, b, off, rfl, hb, hc⟩ := hv.at h0
      obtain ⟨_, b', off', rfl, hb', hc'⟩ := hu.at (by omega)
      rw [← hl] at hc' ⊢
      exact equalForks_core b off c b' off' c' l.length l m w rfl hl.symm hx hb hb' hc hc'
    · have e1 : l = [] := List.eq_nil_of_length_eq_zero (by omega)
      have e2 : m = [] := List.eq_nil_of_length_eq_zero (by omega)
      subst e1 e2
      simp only [List.length_nil]
      clear hv hu hl h0 hx hy
      go_enter Try.func159, Try.ntmps159
      go_wp2
      refine wp_loop_rounds 1 ?_; rw [rounds_succ]
      go_wp2
      go_ret
      exact ⟨rfl, Below.refl _ _⟩
  · have hne : decide (l = m) = false := by rw [decide_eq_false_iff_not]; intro e; exact hl (by rw [e])
    rw [hne]
    obtain ⟨n, hn⟩ : ∃ n, n = l.length := ⟨_, rfl⟩
    obtain ⟨k, hk⟩ : ∃ n, n = m.length := ⟨_, rfl⟩
    rw [← hn, ← hk] at hl ⊢
    have h1 : ((n : Int) != (k : Int)) = true := by simp; omega
    clear hv hu hl hne hn hk
    go_enter Try.func159, Try.ntmps159
    go_wp2
    go_ret
    exact ⟨rfl, Below.refl _ _⟩
/-- Are two trails the same? -/
def stB (x : Bool) (k y : Int) (l : Prl) (x' : Bool) (k' y' : Int) (m : Prl) : Bool := decide (x = x' ∧ k = k' ∧ y = y' ∧ l = m)
theorem stB_x {x x' : Bool} {k y k' y' : Int} {l m : Prl} (h : x ≠ x') : stB x k y l x' k' y' m = false := decide_eq_false (fun e => h e.1)
theorem stB_k {x x' : Bool} {k y k' y' : Int} {l m : Prl} (h : ¬ k = k') : stB x k y l x' k' y' m = false := decide_eq_false (fun e => h e.2.1)
theorem stB_y {x x' : Bool} {k y k' y' : Int} {l m : Prl} (h : ¬ y = y') : stB x k y l x' k' y' m = false := decide_eq_false (fun e => h e.2.2.1)
theorem stB_l {x : Bool} {k y : Int} {l m : Prl} : stB x k y l x k y m = decide (l = m) := by unfold stB; simp
set_option maxRecDepth 100000 in
set_option maxHeartbeats 2000000 in
theorem implSameTrails_any (x : Bool) (k y : Int) (v : Value) (l : Prl) (x' : Bool) (k' y' : Int) (u : Value) (m : Prl) (w : World) (hv : Prs w v l) (hu : Prs w u m) (hx : l.length ≤ 1099511627776) (hy : m.length ≤ 1099511627776) :
    Calls Try.prog 123 #[.agg #[.bool x, .int .i64 k, .int .i64 y, v], .agg #[.bool x', .int .i64 k', .int .i64 y', u]] w fun e w' => e = .returned (.bool (stB x k y l x' k' y' m)) ∧ Below w.heap.size w w' := by
  have hE := fun w' h => equalForks_any v u l m w' (hv.below (w' := w') h) (hu.below h) hx hy
  obtain ⟨a, c, rfl⟩ := hv.shape
  obtain ⟨a', c', rfl⟩ := hu.shape
  obtain ⟨W, hW⟩ : ∃ W, W = (w.alloc (.cells #[.bool x, .int .i64 k, .int .i64 y, .slice a l.length c] 91)).alloc (.cells #[.bool x', .int .i64 k', .int .i64 y', .slice a' m.length c'] 91) := ⟨_, rfl⟩
  have HW : Hid ((w.alloc (.cells #[.bool x, .int .i64 k, .int .i64 y, .slice a l.length c] 91)).alloc (.cells #[.bool x', .int .i64 k', .int .i64 y', .slice a' m.length c'] 91) = W) := hW.symm
  have hB : Below w.heap.size w W := by rw [hW]; exact two_new _ _
  have H1 : TlBlk W w.heap.size x k y (.slice a l.length c) := by rw [hW]; exact (tl_box w x k y _).below (one_new _)
  have H2 : TlBlk W (w.heap.size + 1) x' k' y' (.slice a' m.length c') := by
    have h := tl_box (w.alloc (.cells #[.bool x, .int .i64 k, .int .i64 y, .slice a l.length c] 91)) x' k' y' (.slice a' m.length c')
    rw [World.size_alloc] at h
    rw [hW]
    exact h
  have hp1 := H1.lt
  have hp2 := H2.lt
  obtain ⟨p0, p1, p2, p3⟩ := H1.cells
  obtain ⟨q0, q1, q2, q3⟩ := H2.cells
  by_cases h1 : x = x'
  · subst h1
    have hxx : (x == x) = true := by simp
    by_cases h2 : k = k'
    · subst h2
      by_cases h3 : y = y'
      · subst h3
        rw [stB_l]
        generalize decide (l = m) = q at *
        generalize l.length = n at *
        generalize m.length = n' at *
        clear hv hu H1 H2 hW
        go_enter Try.func123, Try.ntmps123
        go_wp2_with fail
        rw [HW.out]
        refine (hE _ hB).mono ?_
        rintro e w1 ⟨rfl, hb1⟩
        have hB1 := below_after_of hB hb1
        clear hE hb1
        go_wp2
        go_ret
        exact ⟨rfl, hB1⟩
      · rw [stB_y h3]
        have h4 : (y == y') = false := by simpa using h3
        generalize l.length = n at *
        generalize m.length = n' at *
        clear hv hu H1 H2 hW hE h3
        go_enter Try.func123, Try.ntmps123
        go_wp2
        go_ret
        exact ⟨rfl, two_new _ _⟩
    · rw [stB_k h2]
      have h4 : (k == k') = false := by simpa using h2
      generalize l.length = n at *
      generalize m.length = n' at *
      clear hv hu H1 H2 hW hE h2
      go_enter Try.func123, Try.ntmps123
      go_wp2
      go_ret
      exact ⟨rfl, two_new _ _⟩
  · rw [stB_x h1]
    have h4 : (x == x') = false := by simpa using h1
    generalize l.length = n at *
    generalize m.length = n' at *
    clear hv hu H1 H2 hW hE h1
    go_enter Try.func123, Try.ntmps123
    go_wp2
    go_ret
    exact ⟨rfl, two_new _ _⟩
end U
end Go.Proofs.Ytcdodpcdennemaa

/- Faults of what is said: what the program and the model answer at every argument. -/
namespace Go.Proofs.Ytcdodpcdennemaa
open Go.RowKit
namespace U
/-- Whether a trail is zero in each part. -/
def tlZ (x : Bool) (k y : Int) (f : Prl) : Bool := stB x k y f false 0 0 []
def sdFm (o : Bool) (z : Bool) (n : Nat) : Bool := if o then !z else decide (0 < n)
def sdRg (t : Bool) (v : Int) : Bool := if t then !(sumB v) else decide (v ≠ 0)
def sdC (o t : Bool) (v : Int) (n : Nat) (z : Bool) : Int := if sdFm o z n = true then 1 else if sdRg t v = true then 3 else 0
structure SdB (w : World) (g : Nat) (o t : Bool) (v : Int) (sp : Value) (x : Bool) (k y : Int) (sv : Value) : Prop where
  h : w.heap[g]? = some (.cells #[.bool o, .bool t, .int .i64 v, sp, .bool x, .int .i64 k, .int .i64 y, sv] 93)
theorem SdB.cells {w : World} {g : Nat} {o t : Bool} {v : Int} {sp : Value} {x : Bool} {k y : Int} {sv : Value} (h : SdB w g o t v sp x k y sv) : (w.cell? ⟨g, 0, none⟩ = some (.bool o) ∧ w.cell? ⟨g, 1, none⟩ = some (.bool t) ∧ w.cell? ⟨g, 2, none⟩ = some (.int .i64 v) ∧ w.cell? ⟨g, 3, none⟩ = some sp) ∧ w.cell? ⟨g, 4, none⟩ = some (.bool x) ∧ w.cell? ⟨g, 5, none⟩ = some (.int .i64 k) ∧ w.cell? ⟨g, 6, none⟩ = some (.int .i64 y) ∧ w.cell? ⟨g, 7, none⟩ = some sv := by
  refine ⟨⟨?_, ?_, ?_, ?_⟩, ?_, ?_, ?_, ?_⟩ <;> (unfold World.cell?; rw [h.h]; rfl)
theorem SdB.below {w w' : World} {g : Nat} {o t : Bool} {v : Int} {sp : Value} {x : Bool} {k y : Int} {sv : Value} (h : SdB w g o t v sp x k y sv) (hb : Below w.heap.size w w') : SdB w' g o t v sp x k y sv := ⟨(hb.block g (Array.getElem?_eq_some_iff.1 h.h).1).trans h.h⟩
set_option maxRecDepth 100000 in
set_option maxHeartbeats 4000000 in
theorem implSaidFault_any (o t : Bool) (v : Int) (sp : Value) (ps : List Int) (x : Bool) (k y : Int) (sv : Value) (f : Prl) (w : World) (hp : Ints .i64 w sp ps) (hv : Prs w sv f) (hx : f.length ≤ 1099511627776) (hy : ps.length ≤ 1099511627776) :
    Calls Try.prog 76 #[.agg #[.bool o, .bool t, .int .i64 v, sp, .bool x, .int .i64 k, .int .i64 y, sv]] w fun e w' => e = .returned (.int .i64 (sdC o t v ps.length (tlZ x k y f))) ∧ Below w.heap.size w w' := by
  have hS := fun w' h => implSameTrails_any x k y sv f false 0 0 (.slice none 0 0) [] w' (hv.below (w' := w') h) (Or.inl ⟨rfl, none, 0, rfl⟩) hx (by simp)
  have hI := fun w => isSum_any v w
  rw [show stB x k y f false 0 0 [] = tlZ x k y f from rfl] at hS
  obtain ⟨a, c, rfl⟩ := hp.shape
  obtain ⟨a', c', rfl⟩ := hv.shape
  obtain ⟨W, hW⟩ : ∃ W, W = w.alloc (.cells #[.bool o, .bool t, .int .i64 v, .slice a ps.length c, .bool x, .int .i64 k, .int .i64 y, .slice a' f.length c'] 93) := ⟨_, rfl⟩
  have HW : Hid (w.alloc (.cells #[.bool o, .bool t, .int .i64 v, .slice a ps.length c, .bool x, .int .i64 k, .int .i64 y, .slice a' f.length c'] 93) = W) := hW.symm
  have hB : Below w.heap.size w W := by rw [hW]; exact one_new _
  have HS0 : SdB W w.heap.size o t v (.slice a ps.length c) x k y (.slice a' f.length c') := by rw [hW]; exact ⟨heap_alloc_new w _⟩
  have HSB : Hid (∀ w', Below W.heap.size W w' → SdB w' w.heap.size o t v (.slice a ps.length c) x k y (.slice a' f.length c')) := fun w' h => HS0.below h
  obtain ⟨⟨c0, c1, c2, c3⟩, c4, c5, c6, c7⟩ := HS0.cells
  unfold sdC sdFm sdRg
  generalize tlZ x k y f = z at *
  generalize sumB v = s at *
  generalize f.length = fn at *
  generalize ps.length = pn at *
  clear hp hv hW HS0
  cases o
  · by_cases hpn : 0 < pn
    · have h1 : decide ((pn : Int) > 0) = true := by simp; omega
      have h1' : (0 : Int) < (pn : Int) := by omega
      simp only [Bool.false_eq_true, if_false, hpn, decide_true, if_true]
      clear hS hI
      go_enter Try.func76, Try.ntmps76
      go_wp2
      go_ret
      exact ⟨rfl, by rw [HW.out]; exact hB⟩
    · have hpz : pn = 0 := by omega
      subst hpz
      simp only [Bool.false_eq_true, if_false, Nat.lt_irrefl, decide_false]
      clear hS hpn
      cases t
      · by_cases hv0 : v = 0
        · subst hv0
          clear hI
          go_enter Try.func76, Try.ntmps76
          go_wp2
          go_ret
          exact ⟨rfl, by rw [HW.out]; exact hB⟩
        · have hvn : (v != 0) = true := by simpa using hv0
          simp only [Bool.false_eq_true, if_false, ne_eq, hv0, not_false_eq_true, decide_true, if_true]
          clear hI
          go_enter Try.func76, Try.ntmps76
          go_wp2
          go_ret
          exact ⟨rfl, by rw [HW.out]; exact hB⟩
      · cases s
        · go_enter Try.func76, Try.ntmps76
          go_wp2_with (go_at_call 124; refine (hI _).mono ?_; rintro e w1 ⟨rfl, rfl⟩)
          go_ret
          exact ⟨rfl, by first | exact hB | (rw [HW.out]; exact hB)⟩
        · go_enter Try.func76, Try.ntmps76
          go_wp2_with (go_at_call 124; refine (hI _).mono ?_; rintro e w1 ⟨rfl, rfl⟩)
          go_ret
          exact ⟨rfl, by first | exact hB | (rw [HW.out]; exact hB)⟩
  · cases z
    · simp only [if_true, Bool.not_false]
      clear hI
      go_enter Try.func76, Try.ntmps76
      go_wp2_with fail
      rw [HW.out]
      refine (hS _ hB).mono ?_
      rintro e w1 ⟨rfl, hb1⟩
      obtain ⟨⟨d0, d1, d2, d3⟩, d4, d5, d6, d7⟩ := (HSB.out _ hb1).cells
      have hB1 := below_after_of hB hb1
      clear hS hb1
      go_wp2
      go_ret
      exact ⟨rfl, hB1⟩
    · simp only [if_true, Bool.not_true, Bool.false_eq_true, if_false]
      cases t
      · by_cases hv0 : v = 0
        · subst hv0
          clear hI
          go_enter Try.func76, Try.ntmps76
          go_wp2_with fail
          rw [HW.out]
          refine (hS _ hB).mono ?_
          rintro e w1 ⟨rfl, hb1⟩
          obtain ⟨⟨d0, d1, d2, d3⟩, d4, d5, d6, d7⟩ := (HSB.out _ hb1).cells
          have hB1 := below_after_of hB hb1
          clear hS hb1
          go_wp2
          go_ret
          exact ⟨rfl, hB1⟩
        · have hvn : (v != 0) = true := by simpa using hv0
          simp only [Bool.false_eq_true, if_false, ne_eq, hv0, not_false_eq_true, decide_true, if_true]
          clear hI
          go_enter Try.func76, Try.ntmps76
          go_wp2_with fail
          rw [HW.out]
          refine (hS _ hB).mono ?_
          rintro e w1 ⟨rfl, hb1⟩
          obtain ⟨⟨d0, d1, d2, d3⟩, d4, d5, d6, d7⟩ := (HSB.out _ hb1).cells
          have hB1 := below_after_of hB hb1
          clear hS hb1
          go_wp2
          go_ret
          exact ⟨rfl, hB1⟩
      · cases s
        · skip
          go_enter Try.func76, Try.ntmps76
          go_wp2_with fail
          rw [HW.out]
          refine (hS _ hB).mono ?_
          rintro e w1 ⟨rfl, hb1⟩
          obtain ⟨⟨d0, d1, d2, d3⟩, d4, d5, d6, d7⟩ := (HSB.out _ hb1).cells
          have hB1 := below_after_of hB hb1
          clear hS hb1
          go_wp2_with (go_at_call 124; refine (hI _).mono ?_; rintro e w1 ⟨rfl, rfl⟩)
          go_ret
          exact ⟨rfl, hB1⟩
        · skip
          go_enter Try.func76, Try.ntmps76
          go_wp2_with fail
          rw [HW.out]
          refine (hS _ hB).mono ?_
          rintro e w1 ⟨rfl, hb1⟩
          obtain ⟨⟨d0, d1, d2, d3⟩, d4, d5, d6, d7⟩ := (HSB.out _ hb1).cells
          have hB1 := below_after_of hB hb1
          clear hS hb1
          go_wp2_with (go_at_call 124; refine (hI _).mono ?_; rintro e w1 ⟨rfl, rfl⟩)
          go_ret
          exact ⟨rfl, hB1⟩
theorem tlZ_any {k y : Int} {f : Prl} : tlZ true k y f = false := stB_x (by decide)
theorem tlZ_leaf {x : Bool} {k y : Int} {f : Prl} (h : ¬ (k = 0 ∧ y = 0)) : tlZ x k y f = false := by
  unfold tlZ
  by_cases h1 : k = 0
  · exact stB_y (fun e => h ⟨h1, e⟩)
  · exact stB_k h1
theorem tlZ_forks {f : Prl} : tlZ false 0 0 f = decide (f = []) := stB_l
set_option maxRecDepth 100000 in
set_option maxHeartbeats 4000000 in
theorem l8Fault_any (g : Nat) (o t : Bool) (v : Int) (a : Option Addr) (pn c : Nat) (x : Bool) (k y : Int) (a' : Option Addr) (fn c' : Nat) (z : Bool) (w : World) (HB : SdB w g o t v (.slice a pn c) x k y (.slice a' fn c')) (HZ : Hid ((z = false ∧ (x = true ∨ (x = false ∧ ¬ (k = 0 ∧ y = 0)) ∨ (x = false ∧ k = 0 ∧ y = 0 ∧ 0 < fn))) ∨ (z = true ∧ x = false ∧ k = 0 ∧ y = 0 ∧ fn = 0))) :
    Calls Try.prog 118 #[.pointer (some ⟨g, 0, none⟩)] w fun e w' => e = .returned (.int .i64 (sdC o t v pn z)) ∧ w' = w := by
  have hI := fun w => l2Is4 v w
  obtain ⟨⟨c0, c1, c2, c3⟩, c4, c5, c6, c7⟩ := HB.cells
  clear HB
  unfold sdC sdFm sdRg
  generalize sumB v = s at *
  cases o
  · clear HZ
    by_cases hpn : 0 < pn
    · have h1' : (0 : Int) < (pn : Int) := by omega
      simp only [Bool.false_eq_true, if_false, hpn, decide_true, if_true]
      clear hI
      go_enter Try.func118, Try.ntmps118
      go_wp2
      go_ret
      exact ⟨rfl, rfl⟩
    · have hpz : pn = 0 := by omega
      subst hpz
      simp only [Bool.false_eq_true, if_false, Nat.lt_irrefl, decide_false]
      clear hpn
      cases t
      · by_cases hv0 : v = 0
        · subst hv0
          clear hI
          go_enter Try.func118, Try.ntmps118
          go_wp2
          go_ret
          exact ⟨rfl, rfl⟩
        · have hvn : (v != 0) = true := by simpa using hv0
          simp only [Bool.false_eq_true, if_false, ne_eq, hv0, not_false_eq_true, decide_true, if_true]
          clear hI
          go_enter Try.func118, Try.ntmps118
          go_wp2
          go_ret
          exact ⟨rfl, rfl⟩
      · cases s
        · skip
          go_enter Try.func118, Try.ntmps118
          go_wp2_with (go_at_call 134; refine (hI _).mono ?_; rintro e w1 ⟨rfl, rfl⟩)
          go_ret
          exact ⟨rfl, rfl⟩
        · skip
          go_enter Try.func118, Try.ntmps118
          go_wp2_with (go_at_call 134; refine (hI _).mono ?_; rintro e w1 ⟨rfl, rfl⟩)
          go_ret
          exact ⟨rfl, rfl⟩
  · rcases HZ.out with ⟨rfl, hz⟩ | ⟨rfl, rfl, rfl, rfl, rfl⟩
    · simp only [if_true, Bool.not_false]
      rcases hz with rfl | ⟨rfl, hz⟩ | ⟨rfl, rfl, rfl, hz⟩
      · clear HZ
        clear hI
        go_enter Try.func118, Try.ntmps118
        go_wp2
        go_ret
        exact ⟨rfl, rfl⟩
      · clear HZ
        by_cases hk : k = 0
        · subst hk
          have hy : ¬ y = 0 := fun e => hz ⟨rfl, e⟩
          have hyb : (y == 0) = false := by simpa using hy
          clear hz
          clear hI
          go_enter Try.func118, Try.ntmps118
          go_wp2
          go_ret
          exact ⟨rfl, rfl⟩
        · have hkb : (k == 0) = false := by simpa using hk
          clear hz
          clear hI
          go_enter Try.func118, Try.ntmps118
          go_wp2
          go_ret
          exact ⟨rfl, rfl⟩
      · have h1' : (0 : Int) < (fn : Int) := by omega
        clear HZ
        clear hI
        go_enter Try.func118, Try.ntmps118
        go_wp2
        go_ret
        exact ⟨rfl, rfl⟩
    · simp only [if_true, Bool.not_true, Bool.false_eq_true, if_false]
      clear HZ
      cases t
      · by_cases hv0 : v = 0
        · subst hv0
          clear hI
          go_enter Try.func118, Try.ntmps118
          go_wp2
          go_ret
          exact ⟨rfl, rfl⟩
        · have hvn : (v != 0) = true := by simpa using hv0
          simp only [Bool.false_eq_true, if_false, ne_eq, hv0, not_false_eq_true, decide_true, if_true]
          clear hI
          go_enter Try.func118, Try.ntmps118
          go_wp2
          go_ret
          exact ⟨rfl, rfl⟩
      · cases s
        · skip
          go_enter Try.func118, Try.ntmps118
          go_wp2_with (go_at_call 134; refine (hI _).mono ?_; rintro e w1 ⟨rfl, rfl⟩)
          go_ret
          exact ⟨rfl, rfl⟩
        · skip
          go_enter Try.func118, Try.ntmps118
          go_wp2_with (go_at_call 134; refine (hI _).mono ?_; rintro e w1 ⟨rfl, rfl⟩)
          go_ret
          exact ⟨rfl, rfl⟩
end U
end Go.Proofs.Ytcdodpcdennemaa

/- The size of a trail taken from whatever is left. -/
namespace Go.Proofs.Ytcdodpcdennemaa
open Go.RowKit
namespace U
set_option maxHeartbeats 400000 in
theorem szForkS_gen (z : Nat) (hz : z ≤ 1048576) (a : Option Addr) (n c : Nat) (w : World) (hn : n ≤ maxLen) :
    Calls Try.prog 154 #[.slice a n c, .int .i64 (z : Int)] w fun e w' => e = .returned (.int .i64 (if n ≤ z then ((z : Int) - (n : Int)) else -1)) ∧ w' = w := by
  unfold maxLen at hn
  by_cases h : n ≤ z
  · rw [if_pos h]
    have h1 : wrap64 ((z : Int) - (n : Int)) = (z : Int) - (n : Int) := by simp only [wrap64]; omega
    have h2 : ¬ ((z : Int) - (n : Int) < 0) := by omega
    go_enter Try.func154, Try.ntmps154
    go_wp2
    go_ret
    exact ⟨rfl, rfl⟩
  · rw [if_neg h]
    have h1 : wrap64 ((z : Int) - (n : Int)) = (z : Int) - (n : Int) := by simp only [wrap64]; omega
    have h2 : (z : Int) - (n : Int) < 0 := by omega
    go_enter Try.func154, Try.ntmps154
    go_wp2
    go_ret
    exact ⟨rfl, rfl⟩
set_option maxRecDepth 100000 in
theorem szTrail_gen (z : Nat) (hz : z ≤ 1048576) (x : Bool) (k y : Int) (a : Option Addr) (n c : Nat) (w : World) (hn : n ≤ maxLen) :
    Calls Try.prog 117 #[.agg #[.bool x, .int .i64 k, .int .i64 y, .slice a n c], .int .i64 (z : Int)] w fun e w' => e = .returned (.int .i64 (if n ≤ z then ((z : Int) - (n : Int)) else -1)) ∧ Below w.heap.size w w' := by
  have hZ := fun w => szForkS_gen z hz a n c w hn
  by_cases h : n ≤ z
  · rw [if_pos h] at hZ ⊢
    have h2 : ¬ ((z : Int) - (n : Int) < 0) := by omega
    generalize (z : Int) - (n : Int) = q at *
    generalize (z : Int) = zi at *
    go_enter Try.func117, Try.ntmps117
    go_wp2_with fail
    refine (hZ _).mono ?_
    rintro e w1 ⟨rfl, rfl⟩
    clear hZ
    go_wp2
    go_ret
    exact ⟨rfl, one_new _⟩
  · rw [if_neg h] at hZ ⊢
    generalize (z : Int) = zi at *
    go_enter Try.func117, Try.ntmps117
    go_wp2_with fail
    refine (hZ _).mono ?_
    rintro e w1 ⟨rfl, rfl⟩
    clear hZ
    go_wp2
    go_ret
    exact ⟨rfl, one_new _⟩
end U
end Go.Proofs.Ytcdodpcdennemaa

/- Helpers of the laws for what is said: its size, copies, comparison. -/
namespace Go.Proofs.Ytcdodpcdennemaa
open Go.RowKit
namespace U
set_option maxHeartbeats 400000 in
theorem szInt64S_gen (z : Nat) (hz : z ≤ 1048576) (a : Option Addr) (n c : Nat) (w : World) (hn : n ≤ maxLen) :
    Calls Try.prog 116 #[.slice a n c, .int .i64 (z : Int)] w fun e w' => e = .returned (.int .i64 (if n ≤ z then ((z : Int) - (n : Int)) else -1)) ∧ w' = w := by
  unfold maxLen at hn
  by_cases h : n ≤ z
  · rw [if_pos h]
    have h1 : wrap64 ((z : Int) - (n : Int)) = (z : Int) - (n : Int) := by simp only [wrap64]; omega
    have h2 : ¬ ((z : Int) - (n : Int) < 0) := by omega
    go_enter Try.func116, Try.ntmps116
    go_wp2
    go_ret
    exact ⟨rfl, rfl⟩
  · rw [if_neg h]
    have h1 : wrap64 ((z : Int) - (n : Int)) = (z : Int) - (n : Int) := by simp only [wrap64]; omega
    have h2 : (z : Int) - (n : Int) < 0 := by omega
    go_enter Try.func116, Try.ntmps116
    go_wp2
    go_ret
    exact ⟨rfl, rfl⟩
theorem eight_cells {w : World} {g : Nat} {v0 v1 v2 v3 v4 v5 v6 v7 : Value} {ty : TypeId} (h : w.heap[g]? = some (.cells #[v0, v1, v2, v3, v4, v5, v6, v7] ty)) : (w.cell? ⟨g, 0, none⟩ = some v0 ∧ w.cell? ⟨g, 1, none⟩ = some v1 ∧ w.cell? ⟨g, 2, none⟩ = some v2 ∧ w.cell? ⟨g, 3, none⟩ = some v3 ∧ w.cell? ⟨g, 4, none⟩ = some v4 ∧ w.cell? ⟨g, 5, none⟩ = some v5 ∧ w.cell? ⟨g, 6, none⟩ = some v6 ∧ w.cell? ⟨g, 7, none⟩ = some v7) ∧
    (w.frozen? ⟨g, 0, none⟩ = false ∧ w.frozen? ⟨g, 1, none⟩ = false ∧ w.frozen? ⟨g, 2, none⟩ = false ∧ w.frozen? ⟨g, 3, none⟩ = false ∧ w.frozen? ⟨g, 4, none⟩ = false ∧ w.frozen? ⟨g, 5, none⟩ = false ∧ w.frozen? ⟨g, 6, none⟩ = false ∧ w.frozen? ⟨g, 7, none⟩ = false) := by
  refine ⟨⟨?_, ?_, ?_, ?_, ?_, ?_, ?_, ?_⟩, ?_, ?_, ?_, ?_, ?_, ?_, ?_, ?_⟩ <;> (first | (unfold World.cell?; rw [h]; rfl) | (unfold World.frozen?; rw [h]; rfl))
set_option maxRecDepth 100000 in
set_option maxHeartbeats 2000000 in
theorem szSaid_gen (zz : Nat) (hzz : zz ≤ 1048576) (o t : Bool) (v : Int) (a : Option Addr) (pn c : Nat) (x : Bool) (k y : Int) (a' : Option Addr) (fn c' : Nat) (w : World) (hp : pn ≤ maxLen) (hf : fn ≤ maxLen) :
    Calls Try.prog 70 #[.agg #[.bool o, .bool t, .int .i64 v, .slice a pn c, .bool x, .int .i64 k, .int .i64 y, .slice a' fn c'], .int .i64 (zz : Int)] w fun e w' => e = .returned (.int .i64 (if pn + fn ≤ zz then ((zz : Int) - (pn : Int) - (fn : Int)) else -1)) ∧ Below w.heap.size w w' := by
  have hP := fun w => szInt64S_gen zz hzz a pn c w hp
  have h0 := eight_cells (heap_alloc_new w (.cells #[.bool o, .bool t, .int .i64 v, .slice a pn c, .bool x, .int .i64 k, .int .i64 y, .slice a' fn c'] 83))
  obtain ⟨⟨c0, c1, c2, c3, c4, c5, c6, c7⟩, -⟩ := h0
  by_cases h1 : pn ≤ zz
  · rw [if_pos h1] at hP
    have hT := fun w => szTrail_gen (zz - pn) (by omega) x k y a' fn c' w hf
    rw [show ((zz - pn : Nat) : Int) = (zz : Int) - (pn : Int) by omega] at hT
    have hz0 : ¬ ((zz : Int) - (pn : Int) < 0) := by omega
    by_cases h2 : fn ≤ zz - pn
    · rw [if_pos h2] at hT
      rw [if_pos (by omega)]
      have hz1 : ¬ ((zz : Int) - (pn : Int) - (fn : Int) < 0) := by omega
      generalize (zz : Int) - (pn : Int) - (fn : Int) = q2 at *
      generalize (zz : Int) - (pn : Int) = q1 at *
      generalize (zz : Int) = q0 at *
      go_enter Try.func70, Try.ntmps70
      go_wp2_with fail
      refine (hP _).mono ?_
      rintro e w1 ⟨rfl, hw1⟩
      rw [hw1]
      clear hP hw1
      go_wp2_with fail
      refine (hT _).mono ?_
      rintro e w2 ⟨rfl, hb2⟩
      have hB2 := below_after hb2
      clear hT hb2
      go_wp2
      go_ret
      exact ⟨rfl, hB2⟩
    · rw [if_neg h2] at hT
      rw [if_neg (by omega)]
      generalize (zz : Int) - (pn : Int) = q1 at *
      generalize (zz : Int) = q0 at *
      go_enter Try.func70, Try.ntmps70
      go_wp2_with fail
      refine (hP _).mono ?_
      rintro e w1 ⟨rfl, hw1⟩
      rw [hw1]
      clear hP hw1
      go_wp2_with fail
      refine (hT _).mono ?_
      rintro e w2 ⟨rfl, hb2⟩
      have hB2 := below_after hb2
      clear hT hb2
      go_wp2
      go_ret
      exact ⟨rfl, hB2⟩
  · rw [if_neg h1] at hP
    rw [if_neg (by omega)]
    generalize (zz : Int) = q0 at *
    go_enter Try.func70, Try.ntmps70
    go_wp2_with fail
    refine (hP _).mono ?_
    rintro e w1 ⟨rfl, hw1⟩
    rw [hw1]
    clear hP hw1
    go_wp2
    go_ret
    exact ⟨rfl, one_new _⟩
set_option maxRecDepth 100000 in
set_option maxHeartbeats 4000000 in
theorem eqSaid_same (o t : Bool) (v : Int) (sp sp' : Value) (ps : List Int) (x : Bool) (k y : Int) (sv sv' : Value) (f : Prl) (w : World) (hp : Ints .i64 w sp ps) (hp' : Ints .i64 w sp' ps) (hv : Prs w sv f) (hv' : Prs w sv' f) (hx : ps.length ≤ 1099511627776) (hy : f.length ≤ 1099511627776) :
    Calls Try.prog 79 #[.agg #[.bool o, .bool t, .int .i64 v, sp, .bool x, .int .i64 k, .int .i64 y, sv], .agg #[.bool o, .bool t, .int .i64 v, sp', .bool x, .int .i64 k, .int .i64 y, sv']] w fun e w' => e = .returned (.bool true) ∧ Below w.heap.size w w' := by
  have hE := fun w' h => eqInt64S_any sp sp' ps ps w' (hp.below (w' := w') h) (hp'.below h) hx hx
  rw [decide_eq_true rfl] at hE
  have hT := fun w' h => eqTrail7_same x k y sv sv' f w' (hv.below (w' := w') h) (hv'.below h) hy
  obtain ⟨a, c, rfl⟩ := hp.shape
  obtain ⟨a1, c1, rfl⟩ := hp'.shape
  obtain ⟨a2, c2, rfl⟩ := hv.shape
  obtain ⟨a3, c3, rfl⟩ := hv'.shape
  generalize ps.length = pn at *
  generalize f.length = fn at *
  clear hp hp' hv hv'
  obtain ⟨W, hW⟩ : ∃ W, W = (w.alloc (.cells #[.bool o, .bool t, .int .i64 v, .slice a pn c, .bool x, .int .i64 k, .int .i64 y, .slice a2 fn c2] 93)).alloc (.cells #[.bool o, .bool t, .int .i64 v, .slice a1 pn c1, .bool x, .int .i64 k, .int .i64 y, .slice a3 fn c3] 93) := ⟨_, rfl⟩
  have HW : Hid ((w.alloc (.cells #[.bool o, .bool t, .int .i64 v, .slice a pn c, .bool x, .int .i64 k, .int .i64 y, .slice a2 fn c2] 93)).alloc (.cells #[.bool o, .bool t, .int .i64 v, .slice a1 pn c1, .bool x, .int .i64 k, .int .i64 y, .slice a3 fn c3] 93) = W) := hW.symm
  have hB : Below w.heap.size w W := by rw [hW]; exact two_new _ _
  have H0 : W.heap[w.heap.size]? = some (.cells #[.bool o, .bool t, .int .i64 v, .slice a pn c, .bool x, .int .i64 k, .int .i64 y, .slice a2 fn c2] 93) := by
    rw [hW]; exact ((one_new _).block w.heap.size (by simp)).trans (heap_alloc_new w _)
  have H1 : W.heap[w.heap.size + 1]? = some (.cells #[.bool o, .bool t, .int .i64 v, .slice a1 pn c1, .bool x, .int .i64 k, .int .i64 y, .slice a3 fn c3] 93) := by
    have h := heap_alloc_new (w.alloc (.cells #[.bool o, .bool t, .int .i64 v, .slice a pn c, .bool x, .int .i64 k, .int .i64 y, .slice a2 fn c2] 93)) (.cells #[.bool o, .bool t, .int .i64 v, .slice a1 pn c1, .bool x, .int .i64 k, .int .i64 y, .slice a3 fn c3] 93)
    rw [World.size_alloc] at h
    rw [hW]; exact h
  obtain ⟨⟨d0, d1, d2, d3, d4, d5, d6, d7⟩, -⟩ := eight_cells H0
  obtain ⟨⟨e0, e1, e2, e3, e4, e5, e6, e7⟩, -⟩ := eight_cells H1
  have hne : (v != v) = false := by simp
  have hno : ∀ b : Bool, (b != b) = false := by intro b; cases b <;> rfl
  have hno1 := hno o
  have hno2 := hno t
  clear hW hno
  go_enter Try.func79, Try.ntmps79
  go_wp2_with fail
  rw [HW.out]
  refine (hE _ hB).mono ?_
  rintro e w1 ⟨rfl, n1, hw1⟩
  have hb1 : Below W.heap.size W w1 := by rw [hw1]; exact below_drewN (Below.refl _ _) n1
  have hB1 := below_after_of hB hb1
  obtain ⟨⟨d0, d1, d2, d3, d4, d5, d6, d7⟩, -⟩ := eight_cells ((hb1.block _ (Array.getElem?_eq_some_iff.1 H0).1).trans H0)
  obtain ⟨⟨e0, e1, e2, e3, e4, e5, e6, e7⟩, -⟩ := eight_cells ((hb1.block _ (Array.getElem?_eq_some_iff.1 H1).1).trans H1)
  clear hE hw1 hb1 H0 H1
  go_wp2_with fail
  refine (hT _ hB1).mono ?_
  rintro e w2 ⟨rfl, hb2⟩
  have hB2 := below_after_of hB1 hb2
  clear hT hb2
  go_wp2
  go_ret
  exact ⟨rfl, hB2⟩
end U
end Go.Proofs.Ytcdodpcdennemaa

/- A server in its cells: its size, its sameness and its copy, as the laws make them. -/
namespace Go.Proofs.Ytcdodpcdennemaa
open Go.RowKit
namespace U
set_option maxRecDepth 100000 in
set_option maxHeartbeats 4000000 in
theorem szServer_gen (ph cu : Int) (a1 a2 a3 a4 a5 : Option Addr) (n1 n2 n3 n4 n5 : Nat) (c1 c2 c3 c4 c5 : Nat) (sf z q r : Int) (w : World) (hS : ∀ w', Below w.heap.size w w' → Calls Try.prog 61 #[.agg #[.int .i64 ph, .int .i64 cu, .slice a1 n1 c1, .slice a2 n2 c2, .slice a3 n3 c3, .slice a4 n4 c4], .int .i64 z] w' fun e w'' => e = .returned (.int .i64 q) ∧ Below w'.heap.size w' w'') (hL : ¬ q < 0 → ∀ w', Below w.heap.size w w' → Calls Try.prog 62 #[.slice a5 n5 c5, .int .i64 q] w' fun e w'' => e = .returned (.int .i64 r) ∧ Below w'.heap.size w' w'') (hr : r < 0 → r = -1) :
    Calls Try.prog 27 #[.agg #[.int .i64 ph, .int .i64 cu, .slice a1 n1 c1, .slice a2 n2 c2, .slice a3 n3 c3, .slice a4 n4 c4, .slice a5 n5 c5, .int .i64 sf], .int .i64 z] w fun e w' => e = .returned (.int .i64 (if q < 0 then -1 else r)) ∧ Below w.heap.size w w' := by
  have hB0 := one_new (w := w) (.cells #[.int .i64 ph, .int .i64 cu, .slice a1 n1 c1, .slice a2 n2 c2, .slice a3 n3 c3, .slice a4 n4 c4, .slice a5 n5 c5, .int .i64 sf] 71)
  have HF : Hid (∀ w', Below (w.alloc (.cells #[.int .i64 ph, .int .i64 cu, .slice a1 n1 c1, .slice a2 n2 c2, .slice a3 n3 c3, .slice a4 n4 c4, .slice a5 n5 c5, .int .i64 sf] 71)).heap.size (w.alloc (.cells #[.int .i64 ph, .int .i64 cu, .slice a1 n1 c1, .slice a2 n2 c2, .slice a3 n3 c3, .slice a4 n4 c4, .slice a5 n5 c5, .int .i64 sf] 71)) w' → w'.heap[w.heap.size]? = some (.cells #[.int .i64 ph, .int .i64 cu, .slice a1 n1 c1, .slice a2 n2 c2, .slice a3 n3 c3, .slice a4 n4 c4, .slice a5 n5 c5, .int .i64 sf] 71)) := fun w' hb => (hb.block w.heap.size (by simp)).trans (heap_alloc_new w _)
  obtain ⟨⟨x0, x1, x2, x3, x4, x5, x6, x7⟩, -⟩ := eight_cells (heap_alloc_new w (.cells #[.int .i64 ph, .int .i64 cu, .slice a1 n1 c1, .slice a2 n2 c2, .slice a3 n3 c3, .slice a4 n4 c4, .slice a5 n5 c5, .int .i64 sf] 71))
  by_cases h : q < 0
  · rw [if_pos h]
    clear hL
    go_enter Try.func27, Try.ntmps27
    go_wp2_with fail
    refine (hS _ hB0).mono ?_
    rintro e w1 ⟨rfl, hb1⟩
    have hB1 := below_after_of hB0 hb1
    clear hS hb1
    go_wp2
    go_ret
    exact ⟨rfl, hB1⟩
  · rw [if_neg h]
    have hL2 := hL h
    clear hL
    by_cases h2 : r < 0
    · have e2 := hr h2
      subst e2
      clear hr
      go_enter Try.func27, Try.ntmps27
      go_wp2_with fail
      refine (hS _ hB0).mono ?_
      rintro e w1 ⟨rfl, hb1⟩
      have hB1 := below_after_of hB0 hb1
      obtain ⟨⟨x0, x1, x2, x3, x4, x5, x6, x7⟩, -⟩ := eight_cells (HF.out _ hb1)
      clear hS hb1
      go_wp2_with fail
      refine (hL2 _ hB1).mono ?_
      rintro e w2 ⟨rfl, hb2⟩
      have hB2 := below_after_of hB1 hb2
      clear hL2 hb2
      go_wp2
      go_ret
      exact ⟨rfl, hB2⟩
    · clear hr
      go_enter Try.func27, Try.ntmps27
      go_wp2_with fail
      refine (hS _ hB0).mono ?_
      rintro e w1 ⟨rfl, hb1⟩
      have hB1 := below_after_of hB0 hb1
      obtain ⟨⟨x0, x1, x2, x3, x4, x5, x6, x7⟩, -⟩ := eight_cells (HF.out _ hb1)
      clear hS hb1
      go_wp2_with fail
      refine (hL2 _ hB1).mono ?_
      rintro e w2 ⟨rfl, hb2⟩
      have hB2 := below_after_of hB1 hb2
      clear hL2 hb2
      go_wp2
      go_ret
      exact ⟨rfl, hB2⟩
set_option maxRecDepth 100000 in
set_option maxHeartbeats 4000000 in
theorem eqServer_gen (ph cu : Int) (a1 a2 a3 a4 a5 : Option Addr) (b1 b2 b3 b4 b5 : Option Addr) (n1 n2 n3 n4 n5 : Nat) (c1 c2 c3 c4 c5 : Nat) (d1 d2 d3 d4 d5 : Nat) (sf : Int) (w : World) (hS : ∀ w', Below w.heap.size w w' → Calls Try.prog 68 #[.agg #[.int .i64 ph, .int .i64 cu, .slice a1 n1 c1, .slice a2 n2 c2, .slice a3 n3 c3, .slice a4 n4 c4], .agg #[.int .i64 ph, .int .i64 cu, .slice b1 n1 d1, .slice b2 n2 d2, .slice b3 n3 d3, .slice b4 n4 d4]] w' fun e w'' => e = .returned (.bool true) ∧ Below w'.heap.size w' w'') (hL : ∀ w', Below w.heap.size w w' → Calls Try.prog 69 #[.slice a5 n5 c5, .slice b5 n5 d5] w' fun e w'' => e = .returned (.bool true) ∧ Below w'.heap.size w' w'') :
    Calls Try.prog 31 #[.agg #[.int .i64 ph, .int .i64 cu, .slice a1 n1 c1, .slice a2 n2 c2, .slice a3 n3 c3, .slice a4 n4 c4, .slice a5 n5 c5, .int .i64 sf], .agg #[.int .i64 ph, .int .i64 cu, .slice b1 n1 d1, .slice b2 n2 d2, .slice b3 n3 d3, .slice b4 n4 d4, .slice b5 n5 d5, .int .i64 sf]] w fun e w' => e = .returned (.bool true) ∧ Below w.heap.size w w' := by
  obtain ⟨W, hW⟩ : ∃ W, W = (w.alloc (.cells #[.int .i64 ph, .int .i64 cu, .slice a1 n1 c1, .slice a2 n2 c2, .slice a3 n3 c3, .slice a4 n4 c4, .slice a5 n5 c5, .int .i64 sf] 55)).alloc (.cells #[.int .i64 ph, .int .i64 cu, .slice b1 n1 d1, .slice b2 n2 d2, .slice b3 n3 d3, .slice b4 n4 d4, .slice b5 n5 d5, .int .i64 sf] 55) := ⟨_, rfl⟩
  have HW : Hid ((w.alloc (.cells #[.int .i64 ph, .int .i64 cu, .slice a1 n1 c1, .slice a2 n2 c2, .slice a3 n3 c3, .slice a4 n4 c4, .slice a5 n5 c5, .int .i64 sf] 55)).alloc (.cells #[.int .i64 ph, .int .i64 cu, .slice b1 n1 d1, .slice b2 n2 d2, .slice b3 n3 d3, .slice b4 n4 d4, .slice b5 n5 d5, .int .i64 sf] 55) = W) := hW.symm
  have hB : Below w.heap.size w W := by rw [hW]; exact two_new _ _
  have H0 : W.heap[w.heap.size]? = some (.cells #[.int .i64 ph, .int .i64 cu, .slice a1 n1 c1, .slice a2 n2 c2, .slice a3 n3 c3, .slice a4 n4 c4, .slice a5 n5 c5, .int .i64 sf] 55) := by
    rw [hW]; exact ((one_new _).block w.heap.size (by simp)).trans (heap_alloc_new w _)
  have H1 : W.heap[w.heap.size + 1]? = some (.cells #[.int .i64 ph, .int .i64 cu, .slice b1 n1 d1, .slice b2 n2 d2, .slice b3 n3 d3, .slice b4 n4 d4, .slice b5 n5 d5, .int .i64 sf] 55) := by
    have h := heap_alloc_new (w.alloc (.cells #[.int .i64 ph, .int .i64 cu, .slice a1 n1 c1, .slice a2 n2 c2, .slice a3 n3 c3, .slice a4 n4 c4, .slice a5 n5 c5, .int .i64 sf] 55)) (.cells #[.int .i64 ph, .int .i64 cu, .slice b1 n1 d1, .slice b2 n2 d2, .slice b3 n3 d3, .slice b4 n4 d4, .slice b5 n5 d5, .int .i64 sf] 55)
    rw [World.size_alloc] at h
    rw [hW]; exact h
  have hl0 := (Array.getElem?_eq_some_iff.1 H0).1
  have hl1 := (Array.getElem?_eq_some_iff.1 H1).1
  have HF : Hid (∀ w', Below W.heap.size W w' → w'.heap[w.heap.size]? = some (.cells #[.int .i64 ph, .int .i64 cu, .slice a1 n1 c1, .slice a2 n2 c2, .slice a3 n3 c3, .slice a4 n4 c4, .slice a5 n5 c5, .int .i64 sf] 55) ∧ w'.heap[w.heap.size + 1]? = some (.cells #[.int .i64 ph, .int .i64 cu, .slice b1 n1 d1, .slice b2 n2 d2, .slice b3 n3 d3, .slice b4 n4 d4, .slice b5 n5 d5, .int .i64 sf] 55)) := fun w' hb => ⟨(hb.block _ hl0).trans H0, (hb.block _ hl1).trans H1⟩
  obtain ⟨⟨x0, x1, x2, x3, x4, x5, x6, x7⟩, -⟩ := eight_cells H0
  obtain ⟨⟨y0, y1, y2, y3, y4, y5, y6, y7⟩, -⟩ := eight_cells H1
  have hne : (sf != sf) = false := by simp
  clear hW H0 H1 hl0 hl1
  go_enter Try.func31, Try.ntmps31
  go_wp2_with fail
  rw [HW.out]
  refine (hS _ hB).mono ?_
  rintro e w1 ⟨rfl, hb1⟩
  have hB1 := below_after_of hB hb1
  clear x0 x1 x2 x3 x4 x5 x6 x7 y0 y1 y2 y3 y4 y5 y6 y7
  obtain ⟨⟨x0, x1, x2, x3, x4, x5, x6, x7⟩, -⟩ := eight_cells (HF.out _ hb1).1
  obtain ⟨⟨y0, y1, y2, y3, y4, y5, y6, y7⟩, -⟩ := eight_cells (HF.out _ hb1).2
  clear hS
  go_wp2_with fail
  refine (hL _ hB1).mono ?_
  rintro e w2 ⟨rfl, hb2⟩
  have hb2 := below_after_of hb1 hb2
  have hB2 := below_after_of hB hb2
  clear x0 x1 x2 x3 x4 x5 x6 x7 y0 y1 y2 y3 y4 y5 y6 y7
  obtain ⟨⟨x0, x1, x2, x3, x4, x5, x6, x7⟩, -⟩ := eight_cells (HF.out _ hb2).1
  obtain ⟨⟨y0, y1, y2, y3, y4, y5, y6, y7⟩, -⟩ := eight_cells (HF.out _ hb2).2
  clear hL hb1 hb2
  go_wp2
  go_ret
  exact ⟨rfl, hB2⟩
end U
end Go.Proofs.Ytcdodpcdennemaa

/- A copy of what is said, as the laws make it. -/
namespace Go.Proofs.Ytcdodpcdennemaa
open Go.RowKit
namespace U
/-- What is kept while cells of blocks that lie below are written. -/
structure StK (w W w2 : World) (u1 u3 : Value) (pn fn : Nat) (xs ys : List Value) (X : World) : Prop where
  b : Below w.heap.size w X
  o1 : X.ownsRow W.heap.size 2 1 u1 pn xs
  o3 : X.ownsRow w2.heap.size 224 2 u3 fn ys
theorem StK.set {w W w2 : World} {u1 u3 : Value} {pn fn : Nat} {xs ys : List Value} {X : World} (h : StK w W w2 u1 u3 pn fn xs ys X) (g i : Nat) (v : Value) (hg : w.heap.size ≤ g ∧ g < W.heap.size ∧ g < w2.heap.size) : StK w W w2 u1 u3 pn fn xs ys (X.setCell ⟨g, i, none⟩ v) :=
  ⟨h.b.setCell (by exact hg.1) v, ownsRow_setCell_below h.o1 (by exact hg.2.1) v, ownsRow_setCell_below h.o3 (by exact hg.2.2) v⟩
set_option maxRecDepth 100000 in
set_option maxHeartbeats 4000000 in
theorem toSaid_any (o t : Bool) (v : Int) (sp : Value) (ps : List Int) (x : Bool) (k y : Int) (sv : Value) (f : Prl) (w : World) (hp : Ints .i64 w sp ps) (hv : Prs w sv f) (hx : ps.length ≤ 1048576) (hy : f.length ≤ 1048576) :
    Calls Try.prog 72 #[.agg #[.bool o, .bool t, .int .i64 v, sp, .bool x, .int .i64 k, .int .i64 y, sv]] w fun e w' => ∃ a c a' c', e = .returned (.agg #[.bool o, .bool t, .int .i64 v, .slice a ps.length c, .bool x, .int .i64 k, .int .i64 y, .slice a' f.length c']) ∧ Below w.heap.size w w' ∧ w'.ownsRow w.heap.size 2 1 (.slice a ps.length c) ps.length (ps.map (Value.int .i64)) ∧ w'.ownsRow w.heap.size 224 2 (.slice a' f.length c') f.length ((fl f).map (Value.int .i64)) := by
  have hT1 := fun w' h => toInt64S_any sp ps w' (hp.below (w' := w') h) hx
  have hT2 := fun w' h => toTrail_any x k y sv f w' (hv.below (w' := w') h) hy
  obtain ⟨a, c, rfl⟩ := hp.shape
  obtain ⟨a', c', rfl⟩ := hv.shape
  generalize hpn : ps.length = pn at *
  generalize hfn : f.length = fn at *
  clear hp hv hpn hfn
  obtain ⟨W, hW⟩ : ∃ W, W = ((w.alloc (.cells #[.bool o, .bool t, .int .i64 v, .slice a pn c, .bool x, .int .i64 k, .int .i64 y, .slice a' fn c'] 83)).alloc (.cells #[.bool false, .bool false, .int .i64 0, .slice none 0 0, .bool false, .int .i64 0, .int .i64 0, .slice none 0 0] 93)).alloc (.cells #[.bool o, .bool t, .int .i64 v, .slice none 0 0, .bool false, .int .i64 0, .int .i64 0, .slice none 0 0] 93) := ⟨_, rfl⟩
  have HW : Hid (((w.alloc (.cells #[.bool o, .bool t, .int .i64 v, .slice a pn c, .bool x, .int .i64 k, .int .i64 y, .slice a' fn c'] 83)).alloc (.cells #[.bool false, .bool false, .int .i64 0, .slice none 0 0, .bool false, .int .i64 0, .int .i64 0, .slice none 0 0] 93)).alloc (.cells #[.bool o, .bool t, .int .i64 v, .slice none 0 0, .bool false, .int .i64 0, .int .i64 0, .slice none 0 0] 93) = W) := hW.symm
  have hB : Below w.heap.size w W := by rw [hW]; exact ((one_new _).alloc (one_new _).size _).alloc ((one_new _).alloc (one_new _).size _).size _
  have HLL : Hid (W.heap[w.heap.size]? = some (.cells #[.bool o, .bool t, .int .i64 v, .slice a pn c, .bool x, .int .i64 k, .int .i64 y, .slice a' fn c'] 83) ∧ W.heap[w.heap.size + 1]? = some (.cells #[.bool false, .bool false, .int .i64 0, .slice none 0 0, .bool false, .int .i64 0, .int .i64 0, .slice none 0 0] 93) ∧ W.heap[w.heap.size + 1 + 1]? = some (.cells #[.bool o, .bool t, .int .i64 v, .slice none 0 0, .bool false, .int .i64 0, .int .i64 0, .slice none 0 0] 93)) := (by rw [hW]; exact three_lieL w _ _ _ : _ ∧ _)
  obtain ⟨H0, H1, H2⟩ := HLL.out
  obtain ⟨⟨d0, d1, d2, d3, d4, d5, d6, d7⟩, -⟩ := eight_cells H0
  have hz : Hid (W.heap.size = w.heap.size + 1 + 1 + 1) := (by rw [hW]; simp : W.heap.size = w.heap.size + 1 + 1 + 1)
  clear hW
  go_enter Try.func72, Try.ntmps72
  go_wp2_with fail
  rw [HW.out]
  refine (hT1 _ hB).mono ?_
  rintro e w1 ⟨a1, c1, rfl, hb1, own1⟩
  have hzz := hz.out
  have hB1 := below_after_of hB hb1
  have G0 := (hb1.block w.heap.size (by omega)).trans H0
  have G1 := (hb1.block (w.heap.size + 1) (by omega)).trans H1
  have G2 := (hb1.block (w.heap.size + 1 + 1) (by omega)).trans H2
  have hs1 : w.heap.size + 1 + 1 < w1.heap.size := (Array.getElem?_eq_some_iff.1 G2).1
  obtain ⟨⟨d0, d1, d2, d3, d4, d5, d6, d7⟩, -⟩ := eight_cells G0
  obtain ⟨⟨q0, q1, q2, q3, q4, q5, q6, q7⟩, r0, r1, r2, r3, r4, r5, r6, r7⟩ := eight_cells G2
  obtain ⟨w2, hw2⟩ : ∃ w2, w2 = w1.setCell ⟨w.heap.size + 1 + 1, 3, none⟩ (.slice a1 pn c1) := ⟨_, rfl⟩
  have HW2 : Hid (w1.setCell ⟨w.heap.size + 1 + 1, 3, none⟩ (.slice a1 pn c1) = w2) := hw2.symm
  have hB2 : Below w.heap.size w w2 := by rw [hw2]; exact hB1.setCell (by show w.heap.size ≤ w.heap.size + 1 + 1; omega) _
  have K0 : w2.heap[w.heap.size]? = some (.cells #[.bool o, .bool t, .int .i64 v, .slice a pn c, .bool x, .int .i64 k, .int .i64 y, .slice a' fn c'] 83) := by rw [hw2, heap_setCell_other _ _ _ _ (show w.heap.size ≠ w.heap.size + 1 + 1 by omega)]; exact G0
  have K1 : w2.heap[w.heap.size + 1]? = some (.cells #[.bool false, .bool false, .int .i64 0, .slice none 0 0, .bool false, .int .i64 0, .int .i64 0, .slice none 0 0] 93) := by rw [hw2, heap_setCell_other _ _ _ _ (show w.heap.size + 1 ≠ w.heap.size + 1 + 1 by omega)]; exact G1
  have K2 : w2.heap[w.heap.size + 1 + 1]? = some (.cells #[.bool o, .bool t, .int .i64 v, .slice a1 pn c1, .bool false, .int .i64 0, .int .i64 0, .slice none 0 0] 93) := by rw [hw2]; exact heap_setCell_same _ _ 3 _ _ _ G2
  have hzs2 : w2.heap.size = w1.heap.size := by rw [hw2]; exact World.size_setCell _ _ _
  have O1 : Hid (w2.ownsRow W.heap.size 2 1 (.slice a1 pn c1) pn (ps.map (Value.int .i64))) := (by rw [hw2]; exact ownsRow_setCell_below own1 (by show w.heap.size + 1 + 1 < W.heap.size; omega) _ : w2.ownsRow W.heap.size 2 1 (.slice a1 pn c1) pn (ps.map (Value.int .i64)))
  obtain ⟨⟨t0, t1, t2, t3, t4, t5, t6, t7⟩, -⟩ := eight_cells K0
  clear hT1 hb1 own1 hw2 H0 H1 H2 G0 G1 G2 hB hB1
  go_wp2_with fail
  rw [HW2.out]
  refine (hT2 _ hB2).mono ?_
  rintro e w3 ⟨a3, c3, rfl, hb3, own3⟩
  have hB3 := below_after_of hB2 hb3
  obtain ⟨⟨m0, m1, m2, m3, m4, m5, m6, m7⟩, n0, n1, n2, n3, n4, n5, n6, n7⟩ := eight_cells ((hb3.block (w.heap.size + 1) (by omega)).trans K1)
  obtain ⟨⟨p0, p1, p2, p3, p4, p5, p6, p7⟩, s0, s1, s2, s3, s4, s5, s6, s7⟩ := eight_cells ((hb3.block (w.heap.size + 1 + 1) (by omega)).trans K2)
  have O1 : Hid (w3.ownsRow W.heap.size 2 1 (.slice a1 pn c1) pn (ps.map (Value.int .i64))) := own_below O1.out hb3
  have O3 : Hid (w3.ownsRow w2.heap.size 224 2 (.slice a3 fn c3) fn ((fl f).map (Value.int .i64))) := own3
  have HZ : Hid (w.heap.size + 1 + 1 < w2.heap.size ∧ w.heap.size + 1 < w2.heap.size ∧ w.heap.size + 1 + 1 < W.heap.size ∧ w.heap.size + 1 < W.heap.size) := ⟨by omega, by omega, by omega, by omega⟩
  have HB3 : Hid (Below w.heap.size w w3) := hB3
  have KK1 : Hid (w3.heap[w.heap.size + 1]? = some (.cells #[.bool false, .bool false, .int .i64 0, .slice none 0 0, .bool false, .int .i64 0, .int .i64 0, .slice none 0 0] 93)) := (hb3.block (w.heap.size + 1) (by omega)).trans K1
  clear hT2 hB2 hb3 hB3 own3 K0 K1 K2 hzs2 hzz d0 d1 d2 d3 d4 d5 d6 d7 q0 q1 q2 q3 q4 q5 q6 q7 r0 r1 r2 r3 r4 r5 r6 r7 t0 t1 t2 t3 t4 t5 t6 t7 hs1
  have hst : StK w W w2 (.slice a1 pn c1) (.slice a3 fn c3) pn fn (ps.map (Value.int .i64)) ((fl f).map (Value.int .i64)) w3 := ⟨HB3.out, O1.out, O3.out⟩
  obtain ⟨z1, z2, z3, z4⟩ := HZ.out
  have y1 : w.heap.size ≤ w.heap.size + 1 ∧ w.heap.size + 1 < W.heap.size ∧ w.heap.size + 1 < w2.heap.size := ⟨by omega, z4, z2⟩
  have y2 : w.heap.size ≤ w.heap.size + 1 + 1 ∧ w.heap.size + 1 + 1 < W.heap.size ∧ w.heap.size + 1 + 1 < w2.heap.size := ⟨by omega, z3, z1⟩
  have HST := ((((((((((((hst.set (w.heap.size + 1 + 1) 4 (.bool x) y2).set (w.heap.size + 1 + 1) 5 (.int .i64 k) y2).set (w.heap.size + 1 + 1) 6 (.int .i64 y) y2).set (w.heap.size + 1 + 1) 7 (.slice a3 fn c3) y2).set (w.heap.size + 1) 0 (.bool o) y1).set (w.heap.size + 1) 1 (.bool t) y1).set (w.heap.size + 1) 2 (.int .i64 v) y1).set (w.heap.size + 1) 3 (.slice a1 pn c1) y1).set (w.heap.size + 1) 4 (.bool x) y1).set (w.heap.size + 1) 5 (.int .i64 k) y1).set (w.heap.size + 1) 6 (.int .i64 y) y1).set (w.heap.size + 1) 7 (.slice a3 fn c3) y1)
  clear hst O1 O3 HB3 KK1 y1 y2
  go_wp2
  refine bodyPost_ret (v := .agg #[.bool o, .bool t, .int .i64 v, .slice a1 pn c1, .bool x, .int .i64 k, .int .i64 y, .slice a3 fn c3]) (by simp [results, Try.results72, go_sem, m0, m1, m2, m3, m4, m5, m6, m7]) rfl ⟨a1, c1, a3, c3, rfl, HST.b, own_mono HST.o1 (by omega), own_mono HST.o3 (by omega)⟩
end U
end Go.Proofs.Ytcdodpcdennemaa

/- A server that a law is handed, as the functions are handed it. -/
namespace Go.Proofs.Ytcdodpcdennemaa
open Go.RowKit
namespace U
/-- What is kept while cells of boxes that lie below are written. -/
structure SvK (w W V : World) (hi1 hi2 : Nat) (v : Sv) (us : List Value) (s : St) (R : List Rw) (X : World) : Prop where
  b : Below w.heap.size w X
  o1 : StOwn W.heap.size hi1 X v us s
  o2 : Own V.heap.size hi2 X R
theorem SvK.set {w W V : World} {hi1 hi2 : Nat} {v : Sv} {us : List Value} {s : St} {R : List Rw} {X : World} (h : SvK w W V hi1 hi2 v us s R X) (g i : Nat) (x : Value) (hg : w.heap.size ≤ g ∧ g < W.heap.size ∧ g < V.heap.size) : SvK w W V hi1 hi2 v us s R (X.setCell ⟨g, i, none⟩ x) :=
  ⟨h.b.setCell (by exact hg.1) x, ⟨h.o1.own.setCell _ (by exact hg.2.1) x, h.o1.len⟩, h.o2.setCell _ (by exact hg.2.2) x⟩
theorem put_st6 {w : World} {g : Nat} {x0 x1 x2 x3 x4 x5 x6 x7 : Value} {t : TypeId} (h : w.heap[g]? = some (.cells #[x0, x1, x2, x3, x4, x5, x6, x7] t)) (y0 y1 y2 y3 y4 y5 : Value) : ((((((w.setCell ⟨g, 0, none⟩ y0).setCell ⟨g, 1, none⟩ y1).setCell ⟨g, 2, none⟩ y2).setCell ⟨g, 3, none⟩ y3).setCell ⟨g, 4, none⟩ y4).setCell ⟨g, 5, none⟩ y5).heap[g]? = some (.cells #[y0, y1, y2, y3, y4, y5, x6, x7] t) := by
  have h0 : (w.setCell ⟨g, 0, none⟩ y0).heap[g]? = some (.cells #[y0, x1, x2, x3, x4, x5, x6, x7] t) := heap_setCell_same _ _ 0 _ _ _ h
  have h1 : ((w.setCell ⟨g, 0, none⟩ y0).setCell ⟨g, 1, none⟩ y1).heap[g]? = some (.cells #[y0, y1, x2, x3, x4, x5, x6, x7] t) := heap_setCell_same _ _ 1 _ _ _ h0
  have h2 : (((w.setCell ⟨g, 0, none⟩ y0).setCell ⟨g, 1, none⟩ y1).setCell ⟨g, 2, none⟩ y2).heap[g]? = some (.cells #[y0, y1, y2, x3, x4, x5, x6, x7] t) := heap_setCell_same _ _ 2 _ _ _ h1
  have h3 : ((((w.setCell ⟨g, 0, none⟩ y0).setCell ⟨g, 1, none⟩ y1).setCell ⟨g, 2, none⟩ y2).setCell ⟨g, 3, none⟩ y3).heap[g]? = some (.cells #[y0, y1, y2, y3, x4, x5, x6, x7] t) := heap_setCell_same _ _ 3 _ _ _ h2
  have h4 : (((((w.setCell ⟨g, 0, none⟩ y0).setCell ⟨g, 1, none⟩ y1).setCell ⟨g, 2, none⟩ y2).setCell ⟨g, 3, none⟩ y3).setCell ⟨g, 4, none⟩ y4).heap[g]? = some (.cells #[y0, y1, y2, y3, y4, x5, x6, x7] t) := heap_setCell_same _ _ 4 _ _ _ h3
  have h5 : ((((((w.setCell ⟨g, 0, none⟩ y0).setCell ⟨g, 1, none⟩ y1).setCell ⟨g, 2, none⟩ y2).setCell ⟨g, 3, none⟩ y3).setCell ⟨g, 4, none⟩ y4).setCell ⟨g, 5, none⟩ y5).heap[g]? = some (.cells #[y0, y1, y2, y3, y4, y5, x6, x7] t) := heap_setCell_same _ _ 5 _ _ _ h4
  exact h5
theorem keep_st6 {w : World} {g q : Nat} (hq : q ≠ g) (y0 y1 y2 y3 y4 y5 : Value) : ((((((w.setCell ⟨g, 0, none⟩ y0).setCell ⟨g, 1, none⟩ y1).setCell ⟨g, 2, none⟩ y2).setCell ⟨g, 3, none⟩ y3).setCell ⟨g, 4, none⟩ y4).setCell ⟨g, 5, none⟩ y5).heap[q]? = w.heap[q]? := by
  rw [heap_setCell_other _ _ _ _ hq, heap_setCell_other _ _ _ _ hq, heap_setCell_other _ _ _ _ hq, heap_setCell_other _ _ _ _ hq, heap_setCell_other _ _ _ _ hq, heap_setCell_other _ _ _ _ hq]
set_option maxRecDepth 100000 in
set_option maxHeartbeats 4000000 in
theorem toServer_gen (s : St) (g : Lgl) (ph cu : Int) (a1 a2 a3 a4 a5 : Option Addr) (n1 n2 n3 n4 n5 : Nat) (c1 c2 c3 c4 c5 : Nat) (sf : Int) (w : World) (hS : ToS w s ph cu a1 a2 a3 a4 n1 n2 n3 n4 c1 c2 c3 c4) (HG : Hid (n5 = g.length)) (hL : ∀ w', Below w.heap.size w w' → Calls Try.prog 65 #[.slice a5 n5 c5] w' fun e w'' => ∃ u us, e = .returned u ∧ LgAns w' g u us w'') :
    Calls Try.prog 29 #[.agg #[.int .i64 ph, .int .i64 cu, .slice a1 n1 c1, .slice a2 n2 c2, .slice a3 n3 c3, .slice a4 n4 c4, .slice a5 n5 c5, .int .i64 sf]] w fun e w' => ∃ b1 b2 b3 b4 b5 d1 d2 d3 d4 d5, e = .returned (.agg #[.int .i64 ph, .int .i64 cu, .slice b1 n1 d1, .slice b2 n2 d2, .slice b3 n3 d3, .slice b4 n4 d4, .slice b5 n5 d5, .int .i64 sf]) ∧ Below w.heap.size w w' ∧ Sts w' (sv b1 b2 b3 b4 n1 n2 n3 n4 d1 d2 d3 d4) s ∧ Lgs w' (.slice b5 n5 d5) g := by
  have hS := hS.c
  obtain ⟨W, hW⟩ : ∃ W, W = ((w.alloc (.cells #[.int .i64 ph, .int .i64 cu, .slice a1 n1 c1, .slice a2 n2 c2, .slice a3 n3 c3, .slice a4 n4 c4, .slice a5 n5 c5, .int .i64 sf] 71)).alloc (.cells #[.int .i64 0, .int .i64 0, .slice none 0 0, .slice none 0 0, .slice none 0 0, .slice none 0 0, .slice none 0 0, .int .i64 0] 55)).alloc (.cells #[.int .i64 0, .int .i64 0, .slice none 0 0, .slice none 0 0, .slice none 0 0, .slice none 0 0, .slice none 0 0, .int .i64 0] 55) := ⟨_, rfl⟩
  have HW : Hid (((w.alloc (.cells #[.int .i64 ph, .int .i64 cu, .slice a1 n1 c1, .slice a2 n2 c2, .slice a3 n3 c3, .slice a4 n4 c4, .slice a5 n5 c5, .int .i64 sf] 71)).alloc (.cells #[.int .i64 0, .int .i64 0, .slice none 0 0, .slice none 0 0, .slice none 0 0, .slice none 0 0, .slice none 0 0, .int .i64 0] 55)).alloc (.cells #[.int .i64 0, .int .i64 0, .slice none 0 0, .slice none 0 0, .slice none 0 0, .slice none 0 0, .slice none 0 0, .int .i64 0] 55) = W) := hW.symm
  have hB : Below w.heap.size w W := by rw [hW]; exact ((one_new _).alloc (one_new _).size _).alloc ((one_new _).alloc (one_new _).size _).size _
  obtain ⟨H0, H1, H2⟩ := (by rw [hW]; exact three_lieL w _ _ _ : W.heap[w.heap.size]? = some (.cells #[.int .i64 ph, .int .i64 cu, .slice a1 n1 c1, .slice a2 n2 c2, .slice a3 n3 c3, .slice a4 n4 c4, .slice a5 n5 c5, .int .i64 sf] 71) ∧ W.heap[w.heap.size + 1]? = some (.cells #[.int .i64 0, .int .i64 0, .slice none 0 0, .slice none 0 0, .slice none 0 0, .slice none 0 0, .slice none 0 0, .int .i64 0] 55) ∧ W.heap[w.heap.size + 1 + 1]? = some (.cells #[.int .i64 0, .int .i64 0, .slice none 0 0, .slice none 0 0, .slice none 0 0, .slice none 0 0, .slice none 0 0, .int .i64 0] 55))
  obtain ⟨⟨x0, x1, x2, x3, x4, x5, x6, x7⟩, -⟩ := eight_cells H0
  clear hW
  go_enter Try.func29, Try.ntmps29
  go_wp2_with fail
  rw [HW.out]
  refine (hS _ hB).mono ?_
  rintro e w1 ⟨b1, b2, b3, b4, d1, d2, d3, d4, us, rfl, h1⟩
  have hzW : w.heap.size + 1 + 1 < W.heap.size := (Array.getElem?_eq_some_iff.1 H2).1
  have G0 := (h1.below.block w.heap.size (by omega)).trans H0
  have G1 := (h1.below.block (w.heap.size + 1) (by omega)).trans H1
  have G2 := (h1.below.block (w.heap.size + 1 + 1) (by omega)).trans H2
  have hst : SvK w W W w1.heap.size W.heap.size (sv b1 b2 b3 b4 n1 n2 n3 n4 d1 d2 d3 d4) us s [] w1 := ⟨below_after_of hB h1.below, h1.own, Own.nil _ _ _⟩
  have y1 : w.heap.size ≤ w.heap.size + 1 ∧ w.heap.size + 1 < W.heap.size ∧ w.heap.size + 1 < W.heap.size := ⟨by omega, by omega, by omega⟩
  have y2 : w.heap.size ≤ w.heap.size + 1 + 1 ∧ w.heap.size + 1 + 1 < W.heap.size ∧ w.heap.size + 1 + 1 < W.heap.size := ⟨by omega, hzW, hzW⟩
  have HS6 := ((((((hst.set (w.heap.size + 1 + 1) 0 (.int .i64 ph) y2).set (w.heap.size + 1 + 1) 1 (.int .i64 cu) y2).set (w.heap.size + 1 + 1) 2 (.slice b1 n1 d1) y2).set (w.heap.size + 1 + 1) 3 (.slice b2 n2 d2) y2).set (w.heap.size + 1 + 1) 4 (.slice b3 n3 d3) y2).set (w.heap.size + 1 + 1) 5 (.slice b4 n4 d4) y2)
  have K0 := (keep_st6 (w := w1) (show w.heap.size ≠ w.heap.size + 1 + 1 by omega) (.int .i64 ph) (.int .i64 cu) (.slice b1 n1 d1) (.slice b2 n2 d2) (.slice b3 n3 d3) (.slice b4 n4 d4)).trans G0
  have K1 := (keep_st6 (w := w1) (show w.heap.size + 1 ≠ w.heap.size + 1 + 1 by omega) (.int .i64 ph) (.int .i64 cu) (.slice b1 n1 d1) (.slice b2 n2 d2) (.slice b3 n3 d3) (.slice b4 n4 d4)).trans G1
  have K2 := put_st6 G2 (.int .i64 ph) (.int .i64 cu) (.slice b1 n1 d1) (.slice b2 n2 d2) (.slice b3 n3 d3) (.slice b4 n4 d4)
  obtain ⟨⟨x0, x1, x2, x3, x4, x5, x6, x7⟩, -⟩ := eight_cells G0
  obtain ⟨⟨q0, q1, q2, q3, q4, q5, q6, q7⟩, r0, r1, r2, r3, r4, r5, r6, r7⟩ := eight_cells G2
  obtain ⟨⟨-, -, -, -, -, -, t6, t7⟩, -⟩ := eight_cells K0
  obtain ⟨V, hV⟩ : ∃ V, V = ((((((w1.setCell ⟨w.heap.size + 1 + 1, 0, none⟩ (.int .i64 ph)).setCell ⟨w.heap.size + 1 + 1, 1, none⟩ (.int .i64 cu)).setCell ⟨w.heap.size + 1 + 1, 2, none⟩ (.slice b1 n1 d1)).setCell ⟨w.heap.size + 1 + 1, 3, none⟩ (.slice b2 n2 d2)).setCell ⟨w.heap.size + 1 + 1, 4, none⟩ (.slice b3 n3 d3)).setCell ⟨w.heap.size + 1 + 1, 5, none⟩ (.slice b4 n4 d4)) := ⟨_, rfl⟩
  have HV : Hid (((((((w1.setCell ⟨w.heap.size + 1 + 1, 0, none⟩ (.int .i64 ph)).setCell ⟨w.heap.size + 1 + 1, 1, none⟩ (.int .i64 cu)).setCell ⟨w.heap.size + 1 + 1, 2, none⟩ (.slice b1 n1 d1)).setCell ⟨w.heap.size + 1 + 1, 3, none⟩ (.slice b2 n2 d2)).setCell ⟨w.heap.size + 1 + 1, 4, none⟩ (.slice b3 n3 d3)).setCell ⟨w.heap.size + 1 + 1, 5, none⟩ (.slice b4 n4 d4)) = V) := hV.symm
  rw [← hV] at HS6 K0 K1 K2
  have hzV : V.heap.size = w1.heap.size := by rw [hV]; simp
  have hW1 := h1.below.size
  have HZ : Hid (W.heap.size ≤ V.heap.size ∧ w.heap.size + 1 + 1 < W.heap.size ∧ w.heap.size + 1 + 1 < V.heap.size ∧ w.heap.size ≤ V.heap.size) := ⟨by omega, by omega, by omega, by omega⟩
  clear hV hst h1 G0 G1 G2 hzV hW1 H0 H1 H2 hB hS hzW y1 y2
  go_wp2_with fail
  rw [HV.out]
  refine (hL _ HS6.b).mono ?_
  rintro e w2 ⟨u5, us5, rfl, h5⟩
  obtain ⟨b5, d5, e5⟩ := h5.sh
  rw [← HG.out] at e5
  subst e5
  clear x0 x1 x2 x3 x4 x5 x6 x7 q0 q1 q2 q3 q4 q5 q6 q7 r0 r1 r2 r3 r4 r5 r6 r7 t6 t7 HV
  obtain ⟨hz1, hz2, hz3, hz4⟩ := HZ.out
  have G0 := (h5.below.block w.heap.size (by omega)).trans K0
  have G1 := (h5.below.block (w.heap.size + 1) (by omega)).trans K1
  have G2 := (h5.below.block (w.heap.size + 1 + 1) (by omega)).trans K2
  have hst2 : SvK w W V w1.heap.size w2.heap.size (sv b1 b2 b3 b4 n1 n2 n3 n4 d1 d2 d3 d4) us s ([lRow (.slice b5 n5 d5) us5] ++ yRows us5 g g.length) w2 := ⟨below_after_of HS6.b h5.below, ⟨HS6.o1.own.below h5.below, HS6.o1.len⟩, h5.own⟩
  have hlen := h5.len
  have y1 : w.heap.size ≤ w.heap.size + 1 ∧ w.heap.size + 1 < W.heap.size ∧ w.heap.size + 1 < V.heap.size := ⟨by omega, by omega, by omega⟩
  have y2 : w.heap.size ≤ w.heap.size + 1 + 1 ∧ w.heap.size + 1 + 1 < W.heap.size ∧ w.heap.size + 1 + 1 < V.heap.size := ⟨by omega, hz2, hz3⟩
  have HST := ((((((((((hst2.set (w.heap.size + 1 + 1) 6 (.slice b5 n5 d5) y2).set (w.heap.size + 1 + 1) 7 (.int .i64 sf) y2).set (w.heap.size + 1) 0 (.int .i64 ph) y1).set (w.heap.size + 1) 1 (.int .i64 cu) y1).set (w.heap.size + 1) 2 (.slice b1 n1 d1) y1).set (w.heap.size + 1) 3 (.slice b2 n2 d2) y1).set (w.heap.size + 1) 4 (.slice b3 n3 d3) y1).set (w.heap.size + 1) 5 (.slice b4 n4 d4) y1).set (w.heap.size + 1) 6 (.slice b5 n5 d5) y1).set (w.heap.size + 1) 7 (.int .i64 sf) y1)
  obtain ⟨⟨x0, x1, x2, x3, x4, x5, x6, x7⟩, -⟩ := eight_cells G0
  obtain ⟨⟨m0, m1, m2, m3, m4, m5, m6, m7⟩, fz0, fz1, fz2, fz3, fz4, fz5, fz6, fz7⟩ := eight_cells G1
  obtain ⟨⟨q0, q1, q2, q3, q4, q5, q6, q7⟩, r0, r1, r2, r3, r4, r5, r6, r7⟩ := eight_cells G2
  have HLEN : Hid (us5.length = g.length) := hlen
  clear hst2 hL HS6 K0 K1 K2 h5 G0 G1 G2 hz1 hz2 hz3 hz4 HZ y1 y2 hlen
  go_wp2
  refine bodyPost_ret (v := .agg #[.int .i64 ph, .int .i64 cu, .slice b1 n1 d1, .slice b2 n2 d2, .slice b3 n3 d3, .slice b4 n4 d4, .slice b5 n5 d5, .int .i64 sf]) (by simp [results, Try.results29, go_sem, m0, m1, m2, m3, m4, m5, m6, m7]) rfl ⟨b1, b2, b3, b4, b5, d1, d2, d3, d4, d5, rfl, HST.b, HST.o1.sts, own_lgs HST.o2 HLEN.out⟩
end U
end Go.Proofs.Ytcdodpcdennemaa
