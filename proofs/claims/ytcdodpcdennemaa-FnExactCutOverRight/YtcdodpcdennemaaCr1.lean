/- From which place on a chain is behind the cut: what both models answer. -/
import Derived.Test.YtcdodpcdennemaaHd5
namespace Go.Proofs.Ytcdodpcdennemaa
open Go.RowKit
namespace U
/-- Whether the head at a place is on its side of the cut. -/
def cbA (l : Hdl) (t : Int) (j : Nat) : Bool := ((hAt l j).p == 4) == decide (t ≤ (j : Int))
def scanC (l : Hdl) (t : Int) : Nat → Nat → Bool
  | 0, _ => true
  | f + 1, i => if cbA l t i = true then scanC l t f (i + 1) else false
theorem scanC_no {l : Hdl} {t : Int} {f i : Nat} (h : cbA l t i = false) : scanC l t (f + 1) i = false := by rw [scanC, h]; rfl
theorem scanC_step {l : Hdl} {t : Int} {f i : Nat} (h : cbA l t i = true) : scanC l t (f + 1) i = scanC l t f (i + 1) := by rw [scanC, if_pos h]
def crB (l : Hdl) (t : Int) : Bool := if chF l = 0 then (if inB t 0 ((l.length : Int) - 1) = true then scanC l t l.length 0 else false) else false
theorem crB_code {l : Hdl} {t : Int} (h : ¬ chF l = 0) : crB l t = false := if_neg h
theorem crB_out {l : Hdl} {t : Int} (h1 : inB t 0 ((l.length : Int) - 1) = false) : crB l t = false := by unfold crB; rw [h1]; split <;> rfl
theorem crB_scan {l : Hdl} {t : Int} (h : chF l = 0) (h1 : inB t 0 ((l.length : Int) - 1) = true) : crB l t = scanC l t l.length 0 := by unfold crB; rw [if_pos h, if_pos h1]
set_option maxRecDepth 100000 in
set_option maxHeartbeats 2000000 in
theorem implCut_core (b off c n : Nat) (l : Hdl) (t : Int) (w : World) (hn : n ≤ 1048576) (ht : 0 ≤ t ∧ t < (n : Int)) (hb : b < w.heap.size) (hc : ∀ j, j < n → HdS w b (off + j * 5) (hAt l j))
    (hC : Calls Try.prog 82 #[.slice (some ⟨b, off, none⟩) n c] w fun e w' => e = .returned (.int .i64 0) ∧ Below w.heap.size w w') :
    Calls Try.prog 43 #[.slice (some ⟨b, off, none⟩) n c, .int .i64 t] w fun e w' => e = .returned (.bool (scanC l t n 0)) ∧ Below w.heap.size w w' := by
  obtain ⟨q, hq⟩ : ∃ q, q = scanC l t n 0 := ⟨_, rfl⟩
  have HQ : Hid (scanC l t n 0 = q) := hq.symm
  rw [← hq]
  clear hq
  have t0 : ¬ t < 0 := by omega
  have t1 : ¬ (n : Int) ≤ t := by omega
  go_enter Try.func43, Try.ntmps43
  go_wp2_with fail
  refine hC.mono ?_
  rintro e w1 ⟨rfl, hb1⟩
  clear hC
  go_wp2_with fail
  go_loopw [22] (fun i wr => ∃ k : Nat, k ≤ n ∧ i = .int .i64 k ∧ Hid (Below w.heap.size w wr) ∧ Hid (scanC l t (n - k) k = q)) (fun i _ => n - (intOf i).toNat)
  case atStart => exact ⟨0, Nat.zero_le _, rfl, hb1, HQ⟩
  case round =>
    obtain ⟨k, hk, rfl, hB, HS⟩ := hrel
    by_cases hkn : k < n
    · have hki : (k : Int) < (n : Int) := by omega
      obtain ⟨d0, d1, d2, d3, d4⟩ := (hc k hkn).below hB.out hb
      have HSN : Hid (n - k = (n - k - 1) + 1) := (by omega : n - k = (n - k - 1) + 1)
      have HY : Hid (cbA l t k = true → scanC l t (n - (k + 1)) (k + 1) = q) := fun h => by
        have e := HS.out
        rw [HSN.out, scanC_step h] at e
        rw [show n - (k + 1) = n - k - 1 by omega]; exact e
      have HN : Hid (cbA l t k = false → q = false) := fun h => by
        have e := HS.out
        rw [HSN.out, scanC_no h] at e
        exact e.symm
      have hbr : b < wr.heap.size := Nat.lt_of_lt_of_le hb hB.out.size
      have HCB : Hid (cbA l t k = (((hAt l k).p == 4) == decide (t ≤ (k : Int)))) := rfl
      generalize cbA l t k = cb at *
      generalize (hAt l k).e = x0 at *
      generalize (hAt l k).p = x1 at *
      generalize (hAt l k).o = x2 at *
      generalize (hAt l k).n = x3 at *
      generalize (hAt l k).v = x4 at *
      clear hc HS HSN
      by_cases h4 : x1 = 4
      · subst h4
        by_cases hge : t ≤ (k : Int)
        · have HX : Hid (scanC l t (n - (k + 1)) (k + 1) = q) := HY.out (by rw [HCB.out, decide_eq_true hge]; rfl)
          clear HY HN HCB
          go_wp2
          go_roundw
          case rel => exact ⟨k + 1, by omega, by go_num, (hB.out.alloc hB.out.size _), HX⟩
          case measure => simp [intOf]; omega
        · have HX : Hid (q = false) := HN.out (by rw [HCB.out, decide_eq_false hge]; rfl)
          clear HY HN HCB
          go_wp2
          go_ret
          exact ⟨ret_bool HX.out.symm, (hB.out.alloc hB.out.size _)⟩
      · have h4b : (x1 == 4) = false := by simpa using h4
        by_cases hge : t ≤ (k : Int)
        · have HX : Hid (q = false) := HN.out (by rw [HCB.out, h4b, decide_eq_true hge]; rfl)
          clear HY HN HCB h4
          go_wp2
          go_ret
          exact ⟨ret_bool HX.out.symm, (hB.out.alloc hB.out.size _)⟩
        · have HX : Hid (scanC l t (n - (k + 1)) (k + 1) = q) := HY.out (by rw [HCB.out, h4b, decide_eq_false hge]; rfl)
          clear HY HN HCB h4
          go_wp2
          go_roundw
          case rel => exact ⟨k + 1, by omega, by go_num, (hB.out.alloc hB.out.size _), HX⟩
          case measure => simp [intOf]; omega
    · have hkn : k = n := by omega
      subst hkn
      have e0 : Hid (q = true) := (by rw [← HS.out, Nat.sub_self]; rfl : q = true)
      go_wp2
      go_ret
      exact ⟨ret_bool e0.out.symm, hB.out⟩
set_option maxRecDepth 100000 in
set_option maxHeartbeats 1000000 in
theorem implCutOverRight_any (v : Value) (l : Hdl) (t : Int) (w : World) (hv : Hds w v l) (hx : l.length ≤ 1048576) :
    Calls Try.prog 43 #[v, .int .i64 t] w fun e w' => e = .returned (.bool (crB l t)) ∧ Below w.heap.size w w' := by
  have hC := implChainFault_any v l w hv (by omega)
  obtain ⟨a, c, rfl⟩ := hv.shape
  by_cases h : chF l = 0
  · rw [h] at hC
    rcases Bool.eq_false_or_eq_true (inB t 0 ((l.length : Int) - 1)) with hi | hi
    · rw [crB_scan h hi]
      have ht := inB_bd hi
      obtain ⟨-, b, off, rfl, hb, hc⟩ := hv.at (by omega)
      exact implCut_core b off c l.length l t w hx ⟨ht.1, by omega⟩ hb hc hC
    · rw [crB_out hi]
      have hb := inB_nb hi
      generalize l.length = n at *
      clear hv hi
      rcases (by omega : t < 0 ∨ (¬ t < 0 ∧ (n : Int) ≤ t)) with t0 | ⟨t0, t1⟩
      all_goals
        clear hb
        go_enter Try.func43, Try.ntmps43
        go_wp2_with fail
        refine hC.mono ?_
        rintro e w1 ⟨rfl, hb1⟩
        clear hC
        go_wp2
        go_ret
        exact ⟨rfl, hb1⟩
  · rw [crB_code h]
    have h1 : (chF l != 0) = true := by simpa using h
    generalize chF l = q at *
    generalize l.length = n at *
    clear hv h
    go_enter Try.func43, Try.ntmps43
    go_wp2_with fail
    refine hC.mono ?_
    rintro e w1 ⟨rfl, hb1⟩
    clear hC
    go_wp2
    go_ret
    exact ⟨rfl, hb1⟩
set_option maxRecDepth 100000 in
set_option maxHeartbeats 2000000 in
theorem specCut_core (b off c n : Nat) (l : Hdl) (t : Int) (w : World) (hn : n ≤ 1048576) (ht : 0 ≤ t ∧ t < (n : Int)) (hb : b < w.heap.size) (hc : ∀ j, j < n → HdS w b (off + j * 5) (hAt l j))
    (hC : Calls Try.prog 80 #[.slice (some ⟨b, off, none⟩) n c] w fun e w' => e = .returned (.int .i64 0) ∧ Below w.heap.size w w') :
    Calls Try.prog 42 #[.slice (some ⟨b, off, none⟩) n c, .int .i64 t] w fun e w' => e = .returned (.bool (scanC l t n 0)) ∧ Below w.heap.size w w' := by
  obtain ⟨q, hq⟩ : ∃ q, q = scanC l t n 0 := ⟨_, rfl⟩
  have HQ : Hid (scanC l t n 0 = q) := hq.symm
  rw [← hq]
  clear hq
  have t0 : ¬ t < 0 := by omega
  have t1 : ¬ (n : Int) ≤ t := by omega
  have hI := fun w => l1In_any t 0 ((n : Int) - 1) w
  have hin : inB t 0 ((n : Int) - 1) = true := inB_t ht.1 (by omega)
  rw [hin] at hI
  have hws : IntKind.i64.wrap ((n : Int) - 1) = (n : Int) - 1 := by rw [IntKind.wrap_i64]; omega
  go_enter Try.func42, Try.ntmps42
  go_wp2_with fail
  refine hC.mono ?_
  rintro e w1 ⟨rfl, hb1⟩
  clear hC
  go_wp2_with (go_at_call 85; refine (hI _).mono ?_; rintro e wq ⟨rfl, hwq⟩; rw [hwq]; clear hwq)
  go_loopw [5] (fun i wr => ∃ k : Nat, k ≤ n ∧ i = .int .i64 k ∧ Hid (Below w.heap.size w wr) ∧ Hid (scanC l t (n - k) k = q)) (fun i _ => n - (intOf i).toNat)
  case atStart => exact ⟨0, Nat.zero_le _, rfl, hb1, HQ⟩
  case round =>
    obtain ⟨k, hk, rfl, hB, HS⟩ := hrel
    by_cases hkn : k < n
    · have hki : (k : Int) < (n : Int) := by omega
      obtain ⟨d0, d1, d2, d3, d4⟩ := (hc k hkn).below hB.out hb
      have HSN : Hid (n - k = (n - k - 1) + 1) := (by omega : n - k = (n - k - 1) + 1)
      have HY : Hid (cbA l t k = true → scanC l t (n - (k + 1)) (k + 1) = q) := fun h => by
        have e := HS.out
        rw [HSN.out, scanC_step h] at e
        rw [show n - (k + 1) = n - k - 1 by omega]; exact e
      have HN : Hid (cbA l t k = false → q = false) := fun h => by
        have e := HS.out
        rw [HSN.out, scanC_no h] at e
        exact e.symm
      have hbr : b < wr.heap.size := Nat.lt_of_lt_of_le hb hB.out.size
      have HCB : Hid (cbA l t k = (((hAt l k).p == 4) == decide (t ≤ (k : Int)))) := rfl
      generalize cbA l t k = cb at *
      generalize (hAt l k).e = x0 at *
      generalize (hAt l k).p = x1 at *
      generalize (hAt l k).o = x2 at *
      generalize (hAt l k).n = x3 at *
      generalize (hAt l k).v = x4 at *
      clear hc HS HSN
      by_cases h4 : x1 = 4
      · subst h4
        by_cases hge : t ≤ (k : Int)
        · have HX : Hid (scanC l t (n - (k + 1)) (k + 1) = q) := HY.out (by rw [HCB.out, decide_eq_true hge]; rfl)
          clear HY HN HCB
          go_wp2
          go_roundw
          case rel => exact ⟨k + 1, by omega, by go_num, hB.out, HX⟩
          case measure => simp [intOf]; omega
        · have HX : Hid (q = false) := HN.out (by rw [HCB.out, decide_eq_false hge]; rfl)
          clear HY HN HCB
          go_wp2
          go_ret
          exact ⟨ret_bool HX.out.symm, hB.out⟩
      · have h4b : (x1 == 4) = false := by simpa using h4
        by_cases hge : t ≤ (k : Int)
        · have HX : Hid (q = false) := HN.out (by rw [HCB.out, h4b, decide_eq_true hge]; rfl)
          clear HY HN HCB h4
          go_wp2
          go_ret
          exact ⟨ret_bool HX.out.symm, hB.out⟩
        · have HX : Hid (scanC l t (n - (k + 1)) (k + 1) = q) := HY.out (by rw [HCB.out, h4b, decide_eq_false hge]; rfl)
          clear HY HN HCB h4
          go_wp2
          go_roundw
          case rel => exact ⟨k + 1, by omega, by go_num, hB.out, HX⟩
          case measure => simp [intOf]; omega
    · have hkn : k = n := by omega
      subst hkn
      have e0 : Hid (q = true) := (by rw [← HS.out, Nat.sub_self]; rfl : q = true)
      go_wp2
      go_ret
      exact ⟨ret_bool e0.out.symm, hB.out⟩
set_option maxRecDepth 100000 in
set_option maxHeartbeats 1000000 in
theorem specCutOverRight_any (v : Value) (l : Hdl) (t : Int) (w : World) (hv : Hds w v l) (hx : l.length ≤ 1048576) :
    Calls Try.prog 42 #[v, .int .i64 t] w fun e w' => e = .returned (.bool (crB l t)) ∧ Below w.heap.size w w' := by
  have hC := l10Chain_any v l w hv (by omega)
  obtain ⟨a, c, rfl⟩ := hv.shape
  by_cases h : chF l = 0
  · rw [h] at hC
    rcases Bool.eq_false_or_eq_true (inB t 0 ((l.length : Int) - 1)) with hi | hi
    · rw [crB_scan h hi]
      have ht := inB_bd hi
      obtain ⟨-, b, off, rfl, hb, hc⟩ := hv.at (by omega)
      exact specCut_core b off c l.length l t w hx ⟨ht.1, by omega⟩ hb hc hC
    · rw [crB_out hi]
      have hI := fun w => l1In_any t 0 ((l.length : Int) - 1) w
      rw [hi] at hI
      have hws : IntKind.i64.wrap ((l.length : Int) - 1) = (l.length : Int) - 1 := by rw [IntKind.wrap_i64]; omega
      generalize l.length = n at *
      clear hv hi
      go_enter Try.func42, Try.ntmps42
      go_wp2_with fail
      refine hC.mono ?_
      rintro e w1 ⟨rfl, hb1⟩
      clear hC
      go_wp2_with (go_at_call 85; refine (hI _).mono ?_; rintro e wq ⟨rfl, hwq⟩; rw [hwq]; clear hwq)
      go_ret
      exact ⟨rfl, hb1⟩
  · rw [crB_code h]
    have h1 : (chF l != 0) = true := by simpa using h
    generalize chF l = q at *
    generalize l.length = n at *
    clear hv h
    go_enter Try.func42, Try.ntmps42
    go_wp2_with fail
    refine hC.mono ?_
    rintro e w1 ⟨rfl, hb1⟩
    clear hC
    go_wp2
    go_ret
    exact ⟨rfl, hb1⟩
end U
end Go.Proofs.Ytcdodpcdennemaa
