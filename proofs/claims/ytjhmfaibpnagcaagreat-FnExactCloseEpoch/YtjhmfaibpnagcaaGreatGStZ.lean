/- States as the laws look at them: sizes. -/
import Derived.Test.YtjhmfaibpnagcaaGreatGStS
import Derived.Test.YtjhmfaibpnagcaaGreatGBC
import Derived.Test.YtjhmfaibpnagcaaGreatGBB
namespace Go.Proofs.YtjhmfaibpnagcaaGreat
open Go.RowKit
namespace U
set_option maxRecDepth 100000 in
set_option maxHeartbeats 1000000 in
theorem szSlotS_z (a : Option Addr) (n c : Nat) (z : Int) (w : World) (hn : n ≤ maxLen) (hz : 0 ≤ z ∧ z ≤ 1048576) :
    Calls Tryz.prog 25 #[.slice a n c, .int .i64 z] w fun e w' => e = .returned (.int .i64 (if z - n < 0 then -1 else z - n)) ∧ Below w.heap.size w w' := by
  unfold maxLen at hn
  by_cases h : z - n < 0
  · rw [if_pos h]
    go_enter Tryz.func25, Tryz.ntmps25
    go_wp2
    go_ret
    exact ⟨rfl, Below.refl _ _⟩
  · rw [if_neg h]
    go_enter Tryz.func25, Tryz.ntmps25
    go_wp2
    go_ret
    exact ⟨rfl, Below.refl _ _⟩
set_option maxRecDepth 100000 in
set_option maxHeartbeats 1000000 in
theorem szHeadS_z (a : Option Addr) (n c : Nat) (z : Int) (w : World) (hn : n ≤ maxLen) (hz : 0 ≤ z ∧ z ≤ 1048576) :
    Calls Tryz.prog 26 #[.slice a n c, .int .i64 z] w fun e w' => e = .returned (.int .i64 (if z - n < 0 then -1 else z - n)) ∧ Below w.heap.size w w' := by
  unfold maxLen at hn
  by_cases h : z - n < 0
  · rw [if_pos h]
    go_enter Tryz.func26, Tryz.ntmps26
    go_wp2
    go_ret
    exact ⟨rfl, Below.refl _ _⟩
  · rw [if_neg h]
    go_enter Tryz.func26, Tryz.ntmps26
    go_wp2
    go_ret
    exact ⟨rfl, Below.refl _ _⟩
/-- What is left of a size behind some directories; all small if anything is. -/
def szD (p : Pst) (z : Int) : Nat → Int
  | 0 => z - p.length
  | k + 1 => if szD p z k < 0 then -1 else szR (dAt p k) (szD p z k)
theorem szR_neg {l : Rcl} {z : Int} (h : szR l z < 0) : szR l z = -1 := by
  unfold szR at h ⊢
  by_cases h1 : szT l z l.length < 0 <;> simp [h1] at h ⊢
theorem szR_le {l : Rcl} {z : Int} (h0 : 0 ≤ z) : szR l z ≤ z := by
  unfold szR
  split
  · omega
  · exact szT_le
theorem szD_neg {p : Pst} {z : Int} {k : Nat} (h : szD p z k < 0) : ∀ d, szD p z (k + d) < 0
  | 0 => h
  | d + 1 => by
    have := szD_neg h d
    show (if szD p z (k + d) < 0 then -1 else szR (dAt p (k + d)) (szD p z (k + d))) < 0
    rw [if_pos this]
    omega
theorem szD_le {p : Pst} {z : Int} (hz : 0 ≤ z) : ∀ k, szD p z k ≤ z
  | 0 => by show z - p.length ≤ z; omega
  | k + 1 => by
    have := szD_le (p := p) hz k
    show (if szD p z k < 0 then -1 else szR (dAt p k) (szD p z k)) ≤ z
    split
    · omega
    · have := szR_le (l := dAt p k) (z := szD p z k) (by omega)
      omega
def szP (p : Pst) (z : Int) : Int := if szD p z p.length < 0 then -1 else szD p z p.length
theorem szR_cut {l : Rcl} {z : Int} (hz : z ≤ 1048576) (h : ¬ szR l z < 0) : szR l z ≤ z - l.length := by
  have h1 := (szR_ok hz h).2.2.2
  have h2 := szT_mono l z 0 l.length
  rw [Nat.zero_add] at h2
  have h3 : szT l z 0 = z - l.length := rfl
  omega
theorem szD_tot {p : Pst} {z : Int} (hz : z ≤ 1048576) (h0 : 0 ≤ z) : ∀ k, ¬ szD p z k < 0 → szD p z k ≤ z - tot p k
  | 0, _ => by
    show z - p.length ≤ z - ((0 : Nat) : Int)
    omega
  | k + 1, h => by
    have e : szD p z (k + 1) = if szD p z k < 0 then -1 else szR (dAt p k) (szD p z k) := rfl
    by_cases h1 : szD p z k < 0
    · rw [e, if_pos h1] at h; omega
    · have h2 := szD_tot hz h0 k h1
      rw [e, if_neg h1] at h ⊢
      have h3 := szD_le (p := p) h0 k
      have h4 := szR_cut (by omega) h
      have e2 : tot p (k + 1) = tot p k + (dAt p k).length := rfl
      rw [e2]
      omega
theorem szP_ok {p : Pst} {z : Int} (hz : z ≤ 1048576) (h0 : 0 ≤ z) (h : ¬ szP p z < 0) : p.length ≤ 1048576 ∧ (∀ j, j < p.length → (dAt p j).length ≤ 1048576 ∧ Lbs (dAt p j)) ∧ ∀ j, j ≤ p.length → tot p j ≤ 1048576 := by
  unfold szP at h
  by_cases h1 : szD p z p.length < 0
  · rw [if_pos h1] at h; omega
  · have hk : ∀ k, k ≤ p.length → ¬ szD p z k < 0 := fun k hk hn => by
      have := szD_neg hn (p.length - k)
      rw [show k + (p.length - k) = p.length by omega] at this
      exact h1 this
    refine ⟨?_, fun j hj => ?_, fun j hj => ?_⟩
    · have h2 := hk 0 (Nat.zero_le _)
      have e : szD p z 0 = z - p.length := rfl
      rw [e] at h2
      omega
    · have h2 := hk (j + 1) hj
      have h3 := hk j (by omega)
      have e : szD p z (j + 1) = if szD p z j < 0 then -1 else szR (dAt p j) (szD p z j) := rfl
      rw [e, if_neg h3] at h2
      have := szD_le (p := p) h0 j
      have := szR_ok (l := dAt p j) (z := szD p z j) (by omega) h2
      exact ⟨this.1, this.2.1⟩
    · have := szD_tot hz h0 j (hk j hj)
      have := hk j hj
      omega
set_option maxRecDepth 100000 in
set_option maxHeartbeats 2000000 in
theorem szDirectoryS_core (b off c n : Nat) (p : Pst) (z : Int) (w : World) (HN : Hid (n = p.length)) (hn : n ≤ 1048576) (hz : 0 ≤ z ∧ z ≤ 1048576) (hnz : ¬ z - n < 0) (hb : b < w.heap.size) (hM : ∀ j, j < n → (dAt p j).length ≤ maxLen ∧ LbM (dAt p j)) (hc : ∀ j, j < n → ∃ u, w.cell? ⟨b, off + j, none⟩ = some u ∧ Rcs w u (dAt p j)) :
    Calls Tryz.prog 27 #[.slice (some ⟨b, off, none⟩) n c, .int .i64 z] w fun e w' => e = .returned (.int .i64 (szP p z)) ∧ Below w.heap.size w w' := by
  have e0 : szD p z 0 = z - n := by rw [HN.out]; rfl
  have HZ : Hid (szP p z = if szD p z n < 0 then -1 else szD p z n) := (by rw [HN.out]; rfl : szP p z = if szD p z n < 0 then -1 else szD p z n)
  have HM : Hid (∀ k d, szD p z k < 0 → szD p z (k + d) < 0) := fun k d h => szD_neg h d
  have HL : Hid (∀ k, szD p z k ≤ z) := fun k => szD_le hz.1 k
  generalize szP p z = q at *
  go_enter Tryz.func27, Tryz.ntmps27
  go_wp2
  go_loopw [1, 5] (fun u i wr => ∃ k : Nat, k ≤ n ∧ i = .int .i64 k ∧ u = .int .i64 (szD p z k) ∧ 0 ≤ szD p z k ∧ Hid (Below w.heap.size w wr)) (fun _ i _ => n - (intOf i).toNat)
  case atStart => exact ⟨0, Nat.zero_le _, rfl, by rw [e0], by omega, Below.refl _ _⟩
  case round =>
    obtain ⟨k, hk, rfl, rfl, h0, hB⟩ := hrel
    by_cases hkn : k < n
    · have hki : (k : Int) < (n : Int) := by omega
      obtain ⟨u, hu, hr⟩ := hc k hkn
      have d0 := (hB.out.cell (p := ⟨b, off + k, none⟩) hb).trans hu
      have hbr : b < wr.heap.size := Nat.lt_of_lt_of_le hb hB.out.size
      have hS := szDirectory_any u (dAt p k) (szD p z k) wr (hr.below hB.out) (hM k hkn).2 (hM k hkn).1 ⟨h0, by have := HL.out k; omega⟩
      have HX : Hid (szD p z (k + 1) = szR (dAt p k) (szD p z k)) := (by show (if szD p z k < 0 then -1 else szR (dAt p k) (szD p z k)) = _; rw [if_neg (by omega)] : szD p z (k + 1) = szR (dAt p k) (szD p z k))
      have HQ : Hid (szR (dAt p k) (szD p z k) < 0 → q = -1) := (fun h => by
        have := HM.out (k + 1) (n - (k + 1)) (by rw [HX.out]; exact h)
        rw [show k + 1 + (n - (k + 1)) = n by omega] at this
        rw [HZ.out, if_pos this] : szR (dAt p k) (szD p z k) < 0 → q = -1)
      have HNE : Hid (szR (dAt p k) (szD p z k) < 0 → szR (dAt p k) (szD p z k) = -1) := szR_neg
      obtain ⟨a, c', rfl⟩ := hr.shape
      generalize (dAt p k).length = m at *
      generalize szR (dAt p k) (szD p z k) = s1 at *
      have HS1 : Hid (szD p z (k + 1) = s1) := HX
      generalize szD p z k = s0 at *
      clear hc hM HX hr hu
      by_cases hlt : s1 < 0
      · have HQ2 : Hid (q = -1) := HQ.out hlt
        clear HQ
        go_wp2_with fail
        refine hS.mono ?_
        rintro e w1 ⟨rfl, hb1⟩
        have HB1 : Hid (Below w.heap.size w w1) := below_after_of hB.out hb1
        clear hS hb1
        go_wp2
        go_ret
        exact ⟨ret_int HQ2.out.symm, HB1.out⟩
      · clear HQ
        go_wp2_with fail
        refine hS.mono ?_
        rintro e w1 ⟨rfl, hb1⟩
        have HB1 : Hid (Below w.heap.size w w1) := below_after_of hB.out hb1
        clear hS hb1
        go_wp2
        go_roundw
        case rel => exact ⟨k + 1, by omega, by go_num, by rw [HS1.out], by rw [HS1.out]; omega, HB1⟩
        case measure => simp [intOf]; omega
    · have hkn : k = n := by omega
      subst hkn
      have HQ2 : Hid (q = szD p z k) := (by rw [HZ.out, if_neg (by omega)] : q = szD p z k)
      generalize szD p z k = s0 at *
      clear hc
      go_wp2
      go_ret
      exact ⟨ret_int HQ2.out.symm, hB.out⟩
set_option maxRecDepth 100000 in
set_option maxHeartbeats 1000000 in
theorem szDirectoryS_any (v : Value) (p : Pst) (z : Int) (w : World) (hv : Dss w v p) (hM : ∀ j, j < p.length → (dAt p j).length ≤ maxLen ∧ LbM (dAt p j)) (hx : p.length ≤ maxLen) (hz : 0 ≤ z ∧ z ≤ 1048576) :
    Calls Tryz.prog 27 #[v, .int .i64 z] w fun e w' => e = .returned (.int .i64 (szP p z)) ∧ Below w.heap.size w w' := by
  obtain ⟨a, c, rfl⟩ := hv.shape
  by_cases h : z - p.length < 0
  · have HQ : szP p z = -1 := by
      have h2 := szD_neg (p := p) (z := z) (k := 0) h p.length
      rw [Nat.zero_add] at h2
      unfold szP
      rw [if_pos h2]
    rw [HQ]
    generalize p.length = n at *
    unfold maxLen at hx
    clear hv HQ hM
    go_enter Tryz.func27, Tryz.ntmps27
    go_wp2
    go_ret
    exact ⟨rfl, Below.refl _ _⟩
  · by_cases h0 : 0 < p.length
    · obtain ⟨_, b, off, rfl, hb, hc⟩ := hv.at h0
      exact szDirectoryS_core b off c p.length p z w rfl (by omega) hz h hb hM hc
    · have e1 : p = [] := List.eq_nil_of_length_eq_zero (by omega)
      subst e1
      have e2 : szP [] z = z := by
        have e3 : szD [] z 0 = z := by show z - 0 = z; omega
        show (if szD [] z 0 < 0 then -1 else szD [] z 0) = z
        rw [e3, if_neg (by omega)]
      rw [e2]
      simp only [List.length_nil]
      have hzn : ¬ z < 0 := by omega
      clear hv h0 hx h e2 hM
      go_enter Tryz.func27, Tryz.ntmps27
      go_wp2
      refine wp_loop_rounds 1 ?_; rw [rounds_succ]
      go_wp2
      go_ret
      exact ⟨rfl, Below.refl _ _⟩
/-- What is left of a size behind a state. -/
def szN (n : Nat) (z : Int) : Int := if z - n < 0 then -1 else z - n
def szS (s : St) (z : Int) : Int :=
  if szR s.d z < 0 then -1 else if szN s.n.length (szR s.d z) < 0 then -1 else if szN s.h.length (szN s.n.length (szR s.d z)) < 0 then -1 else szP s.p (szN s.h.length (szN s.n.length (szR s.d z)))
theorem szN_ok {n : Nat} {z : Int} (hz : z ≤ 1048576) (h : ¬ szN n z < 0) : n ≤ 1048576 ∧ 0 ≤ szN n z ∧ szN n z ≤ z := by
  unfold szN at h ⊢
  by_cases h1 : z - n < 0
  · rw [if_pos h1] at h; omega
  · rw [if_neg h1]; omega
theorem szP_le {p : Pst} {z : Int} (h0 : 0 ≤ z) : szP p z ≤ z := by
  unfold szP
  split
  · omega
  · exact szD_le h0 _
theorem szS_ok {s : St} {z : Int} (h0 : 0 ≤ z) (hz : z ≤ 1048576) (h : ¬ szS s z < 0) : StB s ∧ 0 ≤ szS s z ∧ szS s z ≤ z := by
  unfold szS at h ⊢
  by_cases h1 : szR s.d z < 0
  · rw [if_pos h1] at h; omega
  · rw [if_neg h1] at h ⊢
    have k1 := szR_ok hz h1
    by_cases h2 : szN s.n.length (szR s.d z) < 0
    · rw [if_pos h2] at h; omega
    · rw [if_neg h2] at h ⊢
      have k2 := szN_ok (by omega) h2
      by_cases h3 : szN s.h.length (szN s.n.length (szR s.d z)) < 0
      · rw [if_pos h3] at h; omega
      · rw [if_neg h3] at h ⊢
        have k3 := szN_ok (by omega) h3
        have k4 := szP_ok (by omega) (by omega) h
        have k5 := szP_le (p := s.p) (z := szN s.h.length (szN s.n.length (szR s.d z))) (by omega)
        exact ⟨⟨k1.1, k1.2.1, k2.1, k3.1, k4.1, k4.2.1, k4.2.2⟩, by omega, by omega⟩
set_option maxRecDepth 100000 in
set_option maxHeartbeats 2000000 in
theorem szState_any (s : St) (v : Sv) (z : Int) (w : World) (hv : Sts w v s) (hA : StA s) (hz : 0 ≤ z ∧ z ≤ 1048576) :
    Calls Tryz.prog 6 #[stV s v, .int .i64 z] w fun e w' => e = .returned (.int .i64 (szS s z)) ∧ Below w.heap.size w w' := by
  obtain ⟨W, hW⟩ : ∃ W, W = w.alloc (stC s v 29) := ⟨_, rfl⟩
  have hBW : Below w.heap.size w W := by rw [hW]; exact one_new _
  have HC : Hid (StC W w.heap.size s v) := (by rw [hW]; exact StC.new w s v _ : StC W w.heap.size s v)
  have hvW := hv.below hBW
  have hD := szDirectory_any v.d s.d z W hvW.d hA.dl hA.d hz
  have HP : Hid (∀ z w', 0 ≤ z ∧ z ≤ 1048576 → Below W.heap.size W w' → Calls Tryz.prog 27 #[v.p, .int .i64 z] w' fun e w'' => e = .returned (.int .i64 (szP s.p z)) ∧ Below w'.heap.size w' w'') := fun z w' hz h => szDirectoryS_any v.p s.p z w' (hvW.p.below h) hA.pd hA.p hz
  have hok1 := fun h => szR_ok (l := s.d) (z := z) hz.2 h
  have HPN : Hid (∀ z, szP s.p z < 0 → szP s.p z = -1) := fun z h => by
    unfold szP at h ⊢
    by_cases h1 : szD s.p z s.p.length < 0 <;> simp [h1] at h ⊢
  have hlN := hA.n
  have hlH := hA.h
  obtain ⟨a1, c1, e1⟩ := hv.d.shape
  obtain ⟨a2, c2, e2⟩ := hv.n.shape
  obtain ⟨a3, c3, e3⟩ := hv.h.shape
  obtain ⟨a4, c4, e4⟩ := hv.p.shape
  obtain ⟨ph, cu, d, n, h, p⟩ := s
  obtain ⟨vd, vn, vh, vp⟩ := v
  dsimp only at *
  subst e1 e2 e3 e4
  unfold stV szS
  dsimp only
  have HW : Hid (w.alloc (.cells #[.int .i64 ph, .int .i64 cu, .slice a1 d.length c1, .slice a2 n.length c2, .slice a3 h.length c3, .slice a4 p.length c4] 29) = W) := hW.symm
  clear hW
  have HC2 : Hid (∀ w', Below W.heap.size W w' → StC w' w.heap.size ⟨ph, cu, d, n, h, p⟩ ⟨.slice a1 d.length c1, .slice a2 n.length c2, .slice a3 h.length c3, .slice a4 p.length c4⟩) := fun w' hb => HC.out.below hb HC.out.lt
  have HNN : Hid (∀ k : Nat, ∀ z, szN k z < 0 → szN k z = -1) := fun k z h => by
    unfold szN at h ⊢
    by_cases h1 : z - k < 0
    · rw [if_pos h1]
    · rw [if_neg h1] at h; omega
  have HD1 : Hid (szR d z < 0 → szR d z = -1) := szR_neg
  generalize szR d z = z1 at *
  clear hv hvW hA HC
  by_cases h1 : z1 < 0
  · rw [if_pos h1]
    have e := HD1.out h1
    subst e
    generalize d.length = dn at *
    generalize n.length = nn at *
    generalize h.length = hn at *
    generalize p.length = pn at *
    clear hok1 HP HPN HC2
    go_enter Tryz.func6, Tryz.ntmps6
    go_wp2_with fail
    rw [HW.out]
    refine hD.mono ?_
    rintro e w1 ⟨rfl, hb1⟩
    have HB : Hid (Below w.heap.size w w1) := below_after_of hBW hb1
    clear hD hb1
    go_wp2
    go_ret
    exact ⟨rfl, HB.out⟩
  · rw [if_neg h1]
    obtain ⟨-, -, k1, -⟩ := hok1 h1
    clear hok1 HD1
    have hN := fun w => szSlotS_z a2 n.length c2 z1 w hlN ⟨by omega, by omega⟩
    have e5 : (if z1 - (n.length : Int) < 0 then -1 else z1 - (n.length : Int)) = szN n.length z1 := rfl
    rw [e5] at hN
    have hok2 := fun h => szN_ok (n := n.length) (z := z1) (by omega) h
    have HN1 := HNN.out n.length z1
    generalize szN n.length z1 = z2 at *
    clear e5
    by_cases h2 : z2 < 0
    · rw [if_pos h2]
      have e := HN1 h2
      subst e
      generalize d.length = dn at *
      generalize n.length = nn at *
      generalize h.length = hn at *
      generalize p.length = pn at *
      clear hok2 HP HPN HNN HN1
      go_enter Tryz.func6, Tryz.ntmps6
      go_wp2_with fail
      rw [HW.out]
      refine hD.mono ?_
      rintro e w1 ⟨rfl, hb1⟩
      have HB : Hid (Below w.heap.size w w1) := below_after_of hBW hb1
      have k3 := (HC2.out _ hb1).c3
      dsimp only at k3
      clear hD hb1
      go_wp2_with fail
      refine (hN _).mono ?_
      rintro e w2 ⟨rfl, hb2⟩
      have HB2 : Hid (Below w.heap.size w w2) := below_after_of HB.out hb2
      clear hN hb2
      go_wp2
      go_ret
      exact ⟨rfl, HB2.out⟩
    · rw [if_neg h2]
      obtain ⟨-, k2, k3⟩ := hok2 h2
      clear hok2 HN1
      have hH := fun w => szHeadS_z a3 h.length c3 z2 w hlH ⟨by omega, by omega⟩
      have e5 : (if z2 - (h.length : Int) < 0 then -1 else z2 - (h.length : Int)) = szN h.length z2 := rfl
      rw [e5] at hH
      have hok3 := fun h' => szN_ok (n := h.length) (z := z2) (by omega) h'
      have HN1 := HNN.out h.length z2
      generalize szN h.length z2 = z3 at *
      clear e5
      by_cases h3 : z3 < 0
      · rw [if_pos h3]
        have e := HN1 h3
        subst e
        generalize d.length = dn at *
        generalize n.length = nn at *
        generalize h.length = hn at *
        generalize p.length = pn at *
        clear hok3 HP HPN HNN HN1
        go_enter Tryz.func6, Tryz.ntmps6
        go_wp2_with fail
        rw [HW.out]
        refine hD.mono ?_
        rintro e w1 ⟨rfl, hb1⟩
        have HB : Hid (Below W.heap.size W w1) := hb1
        have q3 := (HC2.out _ hb1).c3
        dsimp only at q3
        clear hD hb1
        go_wp2_with fail
        refine (hN _).mono ?_
        rintro e w2 ⟨rfl, hb2⟩
        have HB2 : Hid (Below W.heap.size W w2) := below_after_of HB.out hb2
        have q4 := (HC2.out _ HB2.out).c4
        dsimp only at q4
        clear hN hb2
        go_wp2_with fail
        refine (hH _).mono ?_
        rintro e w3 ⟨rfl, hb3⟩
        have HB3 : Hid (Below w.heap.size w w3) := below_after_of hBW (below_after_of HB2.out hb3)
        clear hH hb3
        go_wp2
        go_ret
        exact ⟨rfl, HB3.out⟩
      · rw [if_neg h3]
        obtain ⟨-, k4, k5⟩ := hok3 h3
        clear hok3 HN1
        have HP1 := HP.out z3
        have HPN1 := HPN.out z3
        generalize szP p z3 = z4 at *
        generalize d.length = dn at *
        generalize n.length = nn at *
        generalize h.length = hn at *
        generalize p.length = pn at *
        clear HP HPN HNN
        by_cases h4 : z4 < 0
        · have e := HPN1 h4
          subst e
          clear HPN1
          go_enter Tryz.func6, Tryz.ntmps6
          go_wp2_with fail
          rw [HW.out]
          refine hD.mono ?_
          rintro e w1 ⟨rfl, hb1⟩
          have HB : Hid (Below W.heap.size W w1) := hb1
          have q3 := (HC2.out _ hb1).c3
          dsimp only at q3
          clear hD hb1
          go_wp2_with fail
          refine (hN _).mono ?_
          rintro e w2 ⟨rfl, hb2⟩
          have HB2 : Hid (Below W.heap.size W w2) := below_after_of HB.out hb2
          have q4 := (HC2.out _ HB2.out).c4
          dsimp only at q4
          clear hN hb2
          go_wp2_with fail
          refine (hH _).mono ?_
          rintro e w3 ⟨rfl, hb3⟩
          have HB3 : Hid (Below W.heap.size W w3) := below_after_of HB2.out hb3
          have q5 := (HC2.out _ HB3.out).c5
          dsimp only at q5
          have hP := HP1 w3 ⟨by omega, by omega⟩ HB3.out
          clear hH hb3 HP1
          go_wp2_with fail
          refine hP.mono ?_
          rintro e w4 ⟨rfl, hb4⟩
          have HB4 : Hid (Below w.heap.size w w4) := below_after_of hBW (below_after_of HB3.out hb4)
          clear hP hb4
          go_wp2
          go_ret
          exact ⟨rfl, HB4.out⟩
        · clear HPN1
          go_enter Tryz.func6, Tryz.ntmps6
          go_wp2_with fail
          rw [HW.out]
          refine hD.mono ?_
          rintro e w1 ⟨rfl, hb1⟩
          have HB : Hid (Below W.heap.size W w1) := hb1
          have q3 := (HC2.out _ hb1).c3
          dsimp only at q3
          clear hD hb1
          go_wp2_with fail
          refine (hN _).mono ?_
          rintro e w2 ⟨rfl, hb2⟩
          have HB2 : Hid (Below W.heap.size W w2) := below_after_of HB.out hb2
          have q4 := (HC2.out _ HB2.out).c4
          dsimp only at q4
          clear hN hb2
          go_wp2_with fail
          refine (hH _).mono ?_
          rintro e w3 ⟨rfl, hb3⟩
          have HB3 : Hid (Below W.heap.size W w3) := below_after_of HB2.out hb3
          have q5 := (HC2.out _ HB3.out).c5
          dsimp only at q5
          have hP := HP1 w3 ⟨by omega, by omega⟩ HB3.out
          clear hH hb3 HP1
          go_wp2_with fail
          refine hP.mono ?_
          rintro e w4 ⟨rfl, hb4⟩
          have HB4 : Hid (Below w.heap.size w w4) := below_after_of hBW (below_after_of HB3.out hb4)
          clear hP hb4
          go_wp2
          go_ret
          exact ⟨rfl, HB4.out⟩
end U
end Go.Proofs.YtjhmfaibpnagcaaGreat
