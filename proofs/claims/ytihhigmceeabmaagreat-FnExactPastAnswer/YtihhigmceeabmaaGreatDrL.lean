/- Directories as the laws look at them: sizes, copies, compared. -/
import Derived.Test.YtihhigmceeabmaaGreatDr2
import Derived.Test.YtihhigmceeabmaaGreatRecL
import Derived.Test.YtihhigmceeabmaaGreatRecE
namespace Go.Proofs.YtihhigmceeabmaaGreat
open Go.RowKit
namespace U
theorem Tryz.infoRc : (Tryz.prog.info? 37).map (fun i => (i.zero, i.size, i.bytes)) = some (some (.agg #[.string ⟨#[]⟩, .int .i64 0, .int .i64 0, .int .i64 0]), 4, 40) := by kernel_rfl
/-- What is left of a size behind some records. -/
def szT (l : Rcl) (z : Int) : Nat → Int
  | 0 => z - l.length
  | k + 1 => szT l z k - (rAt l k).l.size
theorem szT_mono (l : Rcl) (z : Int) (k : Nat) : ∀ d, szT l z (k + d) ≤ szT l z k
  | 0 => Int.le_refl _
  | d + 1 => by
    have := szT_mono l z k d
    show szT l z (k + d) - _ ≤ _
    omega
def szR (l : Rcl) (z : Int) : Int := if szT l z l.length < 0 then -1 else szT l z l.length
theorem szT_le {l : Rcl} {z : Int} {k : Nat} : szT l z k ≤ z := by
  have h := szT_mono l z 0 k
  rw [Nat.zero_add] at h
  have : szT l z 0 = z - l.length := rfl
  omega
theorem szR_ok {l : Rcl} {z : Int} (hz : z ≤ 1048576) (h : ¬ szR l z < 0) : l.length ≤ 1048576 ∧ Lbs l ∧ szR l z ≤ z ∧ szR l z = szT l z l.length := by
  unfold szR at h ⊢
  by_cases h1 : szT l z l.length < 0
  · rw [if_pos h1] at h; omega
  · rw [if_neg h1]
    refine ⟨?_, ?_, szT_le, rfl⟩
    · have h2 := szT_mono l z 0 l.length
      rw [Nat.zero_add] at h2
      have : szT l z 0 = z - l.length := rfl
      omega
    · intro r hr
      obtain ⟨j, hj, rfl⟩ := List.mem_iff_getElem.1 hr
      have h2 := szT_mono l z (j + 1) (l.length - (j + 1))
      rw [show j + 1 + (l.length - (j + 1)) = l.length by omega] at h2
      have h3 : szT l z (j + 1) = szT l z j - (rAt l j).l.size := rfl
      have h4 : szT l z j ≤ z := szT_le
      rw [rAt_eq hj] at h3
      omega
set_option maxRecDepth 100000 in
set_option maxHeartbeats 1000000 in
theorem szRecord_gen (l : ByteArray) (v o p z : Int) (w : World) (hs : l.size ≤ maxLen) (hz : 0 ≤ z ∧ z ≤ 1048576) :
    Calls Tryz.prog 36 #[recV l v o p, .int .i64 z] w fun e w' => e = .returned (.int .i64 (if z - l.size < 0 then -1 else z - l.size)) ∧ Below w.heap.size w w' := by
  unfold recV
  unfold maxLen at hs
  have h := RecAt.new w l v o p 25
  by_cases h1 : z - l.size < 0
  · rw [if_pos h1]
    go_enter Tryz.func36, Tryz.ntmps36
    go_wp2
    go_ret
    exact ⟨rfl, one_new _⟩
  · rw [if_neg h1]
    go_enter Tryz.func36, Tryz.ntmps36
    go_wp2
    go_ret
    exact ⟨rfl, one_new _⟩
/-- Records whose labels lie in memory. -/
def LbM (l : Rcl) : Prop := ∀ r ∈ l, r.l.size ≤ maxLen
theorem LbM.at {l : Rcl} (h : LbM l) {j : Nat} (hj : j < l.length) : (rAt l j).l.size ≤ maxLen := h _ (rAt_mem hj)
set_option maxRecDepth 100000 in
set_option maxHeartbeats 2000000 in
theorem szRecordS_core (b off c n : Nat) (l : Rcl) (z : Int) (w : World) (HN : Hid (n = l.length)) (hn : n ≤ 1048576) (hz : 0 ≤ z ∧ z ≤ 1048576) (hnz : ¬ z - n < 0) (hb : b < w.heap.size) (hM : LbM l) (hc : ∀ j, j < n → RecS w b (off + j * 4) (rAt l j)) :
    Calls Tryz.prog 118 #[.slice (some ⟨b, off, none⟩) n c, .int .i64 z] w fun e w' => e = .returned (.int .i64 (szR l z)) ∧ Below w.heap.size w w' := by
  have e0 : szT l z 0 = z - n := by rw [HN.out]; rfl
  have HZ : Hid (szR l z = if szT l z n < 0 then -1 else szT l z n) := (by rw [HN.out]; rfl : szR l z = if szT l z n < 0 then -1 else szT l z n)
  have HM : Hid (∀ k d, szT l z (k + d) ≤ szT l z k) := szT_mono l z
  have HL : Hid (∀ k, szT l z k ≤ z) := fun k => szT_le
  generalize szR l z = q at *
  go_enter Tryz.func118, Tryz.ntmps118
  go_wp2
  go_loopw [1, 5] (fun u i wr => ∃ k : Nat, k ≤ n ∧ i = .int .i64 k ∧ u = .int .i64 (szT l z k) ∧ 0 ≤ szT l z k ∧ Hid (Below w.heap.size w wr)) (fun _ i _ => n - (intOf i).toNat)
  case atStart => exact ⟨0, Nat.zero_le _, rfl, by rw [e0], by omega, Below.refl _ _⟩
  case round =>
    obtain ⟨k, hk, rfl, rfl, h0, hB⟩ := hrel
    by_cases hkn : k < n
    · have hki : (k : Int) < (n : Int) := by omega
      obtain ⟨d0, d1, d2, d3⟩ := (hc k hkn).below hB.out hb
      have hbr : b < wr.heap.size := Nat.lt_of_lt_of_le hb hB.out.size
      have hS := fun w => szRecord_gen (rAt l k).l (rAt l k).v (rAt l k).o (rAt l k).p (szT l z k) w (hM.at (by have := HN.out; omega)) ⟨h0, by have := HL.out k; omega⟩
      have HX : Hid (szT l z (k + 1) = szT l z k - (rAt l k).l.size) := rfl
      rw [← HX.out] at hS
      have HQ : Hid (szT l z (k + 1) < 0 → q = -1) := (fun h => by
        have := HM.out (k + 1) (n - (k + 1))
        rw [show k + 1 + (n - (k + 1)) = n by omega] at this
        rw [HZ.out, if_pos (by omega)] : szT l z (k + 1) < 0 → q = -1)
      unfold recV at hS
      generalize (rAt l k).l = x0 at *
      generalize (rAt l k).v = x1 at *
      generalize (rAt l k).o = x2 at *
      generalize (rAt l k).p = x3 at *
      generalize hs1 : szT l z (k + 1) = s1 at *
      have HS1 : Hid (szT l z (k + 1) = s1) := hs1
      generalize szT l z k = s0 at *
      clear hc hs1 HX
      by_cases hlt : s1 < 0
      · rw [if_pos hlt] at hS
        have HQ2 : Hid (q = -1) := HQ.out hlt
        clear HQ
        go_wp2_with fail
        refine (hS _).mono ?_
        rintro e w1 ⟨rfl, hb1⟩
        have HB1 : Hid (Below w.heap.size w w1) := below_after_of hB.out hb1
        clear hS hb1
        go_wp2
        go_ret
        exact ⟨ret_int HQ2.out.symm, HB1.out⟩
      · rw [if_neg hlt] at hS
        clear HQ
        go_wp2_with fail
        refine (hS _).mono ?_
        rintro e w1 ⟨rfl, hb1⟩
        have HB1 : Hid (Below w.heap.size w w1) := below_after_of hB.out hb1
        clear hS hb1
        go_wp2
        go_roundw
        case rel => exact ⟨k + 1, by omega, by go_num, by rw [HS1.out], by rw [HS1.out]; omega, HB1⟩
        case measure => simp [intOf]; omega
    · have hkn : k = n := by omega
      subst hkn
      have HQ2 : Hid (q = szT l z k) := (by rw [HZ.out, if_neg (by omega)] : q = szT l z k)
      generalize szT l z k = s0 at *
      clear hc
      go_wp2
      go_ret
      exact ⟨ret_int HQ2.out.symm, hB.out⟩
set_option maxRecDepth 100000 in
set_option maxHeartbeats 1000000 in
theorem szRecordS_any (v : Value) (l : Rcl) (z : Int) (w : World) (hv : Rcs w v l) (hM : LbM l) (hx : l.length ≤ maxLen) (hz : 0 ≤ z ∧ z ≤ 1048576) :
    Calls Tryz.prog 118 #[v, .int .i64 z] w fun e w' => e = .returned (.int .i64 (szR l z)) ∧ Below w.heap.size w w' := by
  obtain ⟨a, c, rfl⟩ := hv.shape
  by_cases h : z - l.length < 0
  · have HQ : szR l z = -1 := by
      have h2 := szT_mono l z 0 l.length
      rw [Nat.zero_add] at h2
      have : szT l z 0 = z - l.length := rfl
      unfold szR
      rw [if_pos (by omega)]
    rw [HQ]
    generalize l.length = n at *
    unfold maxLen at hx
    clear hv HQ
    go_enter Tryz.func118, Tryz.ntmps118
    go_wp2
    go_ret
    exact ⟨rfl, Below.refl _ _⟩
  · by_cases h0 : 0 < l.length
    · obtain ⟨_, b, off, rfl, hb, hc⟩ := hv.at h0
      exact szRecordS_core b off c l.length l z w rfl (by omega) hz h hb hM hc
    · have e1 : l = [] := List.eq_nil_of_length_eq_zero (by omega)
      subst e1
      have e2 : szR [] z = z := by unfold szR szT; simp; omega
      rw [e2]
      simp only [List.length_nil]
      have hzn : ¬ z < 0 := by omega
      clear hv h0 hx h e2 hM
      go_enter Tryz.func118, Tryz.ntmps118
      go_wp2
      refine wp_loop_rounds 1 ?_; rw [rounds_succ]
      go_wp2
      go_ret
      exact ⟨rfl, Below.refl _ _⟩
set_option maxRecDepth 100000 in
set_option maxHeartbeats 1000000 in
theorem szDirectory_any (v : Value) (l : Rcl) (z : Int) (w : World) (hv : Rcs w v l) (hM : LbM l) (hx : l.length ≤ maxLen) (hz : 0 ≤ z ∧ z ≤ 1048576) :
    Calls Tryz.prog 65 #[.agg #[v], .int .i64 z] w fun e w' => e = .returned (.int .i64 (szR l z)) ∧ Below w.heap.size w w' := by
  have hS := fun o => szRecordS_any v l z (w.alloc o) (hv.below (one_new _)) hM hx hz
  obtain ⟨a, c, rfl⟩ := hv.shape
  have HQ : Hid (szR l z < 0 → szR l z = -1) := (fun h => by unfold szR at h ⊢; by_cases h1 : szT l z l.length < 0 <;> simp [h1] at h ⊢ : szR l z < 0 → szR l z = -1)
  generalize szR l z = q at *
  generalize l.length = n at *
  clear hv hM
  by_cases hq : q < 0
  · have e := HQ.out hq
    subst e
    clear HQ
    go_enter Tryz.func65, Tryz.ntmps65
    go_wp2_with fail
    refine (hS _).mono ?_
    rintro e w1 ⟨rfl, hb1⟩
    clear hS
    go_wp2
    go_ret
    exact ⟨rfl, below_after hb1⟩
  · clear HQ
    go_enter Tryz.func65, Tryz.ntmps65
    go_wp2_with fail
    refine (hS _).mono ?_
    rintro e w1 ⟨rfl, hb1⟩
    clear hS
    go_wp2
    go_ret
    exact ⟨rfl, below_after hb1⟩
end U
end Go.Proofs.YtihhigmceeabmaaGreat
