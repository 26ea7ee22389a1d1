/- Numbers in digits, read: what both models answer. -/
import Derived.Test.YtffoogkojncooaaGreatDoorStr
import Derived.Test.YtffoogkojncooaaGreatDoorFold
namespace Go.Proofs.YtffoogkojncooaaGreatDoor
open Go.RowKit
namespace U
def digB (b : Int) : Bool := decide (48 ≤ b ∧ b ≤ 57)
theorem digB_t {b : Int} (h0 : 48 ≤ b) (h1 : b ≤ 57) : digB b = true := by unfold digB; exact decide_eq_true ⟨h0, h1⟩
theorem digB_bd {b : Int} (h : digB b = true) : 48 ≤ b ∧ b ≤ 57 := by unfold digB at h; exact of_decide_eq_true h
/-- The number of the first digits. -/
def valAt (s : ByteArray) : Nat → Int
  | 0 => 0
  | k + 1 => valAt s k * 10 + (bt s k - 48)
def Digs (s : ByteArray) (k : Nat) : Prop := ∀ j, j < k → digB (bt s j) = true
theorem Digs.succ {s : ByteArray} {k : Nat} (h : Digs s k) (h1 : digB (bt s k) = true) : Digs s (k + 1) := by
  intro j hj
  by_cases e : j = k
  · subst e; exact h1
  · exact h j (by omega)
theorem valAt_bd (s : ByteArray) : ∀ k, Digs s k → 0 ≤ valAt s k ∧ valAt s k < 10 ^ k
  | 0, _ => by simp [valAt]
  | k + 1, h => by
    have h1 := valAt_bd s k (fun j hj => h j (by omega))
    have h2 := digB_bd (h k (by omega))
    unfold valAt
    rw [Int.pow_succ]
    omega
theorem valAt_small {s : ByteArray} {k : Nat} (h : Digs s k) (hk : k ≤ 5) : 0 ≤ valAt s k ∧ valAt s k < 100000 := by
  have := valAt_bd s k h
  rcases (show k = 0 ∨ k = 1 ∨ k = 2 ∨ k = 3 ∨ k = 4 ∨ k = 5 by omega) with rfl | rfl | rfl | rfl | rfl | rfl <;> (simp at this; omega)
def allDigs (s : ByteArray) : Bool := (List.range s.size).all fun j => digB (bt s j)
theorem allDigs_t {s : ByteArray} (h : Digs s s.size) : allDigs s = true := by
  unfold allDigs
  rw [List.all_eq_true]
  intro j hj
  exact h j (by simpa using hj)
theorem allDigs_f {s : ByteArray} {k : Nat} (hk : k < s.size) (h : digB (bt s k) = false) : allDigs s = false := by
  unfold allDigs
  rw [List.all_eq_false]
  exact ⟨k, by simpa using hk, by rw [h]; simp⟩
/-- A number of one to five digits, no nought ahead; minus one: it is none. -/
def numsB (s : ByteArray) : Bool := decide (1 ≤ s.size ∧ s.size ≤ 5 ∧ ¬ (1 < s.size ∧ bt s 0 = 48)) && allDigs s
def numP (s : ByteArray) : Int := if numsB s = true then valAt s s.size else -1
theorem numP_no {s : ByteArray} (h : ¬ (1 ≤ s.size ∧ s.size ≤ 5 ∧ ¬ (1 < s.size ∧ bt s 0 = 48))) : numP s = -1 := by
  unfold numP numsB; rw [decide_eq_false h]; rfl
theorem numP_bad {s : ByteArray} (h : allDigs s = false) : numP s = -1 := by
  unfold numP numsB; simp [h]
theorem numP_ok {s : ByteArray} (h : 1 ≤ s.size ∧ s.size ≤ 5 ∧ ¬ (1 < s.size ∧ bt s 0 = 48)) (h2 : Digs s s.size) : numP s = valAt s s.size := by
  unfold numP numsB; rw [allDigs_t h2, decide_eq_true h]; rfl
theorem sub48 {b : Int} (h0 : 48 ≤ b) (h1 : b ≤ 57) : IntKind.u8.wrap (b - 48) = b - 48 := by rw [IntKind.wrap_u8]; omega
set_option maxRecDepth 100000 in
set_option maxHeartbeats 2000000 in
theorem l3Number_any (s : ByteArray) (w : World) (hs : s.size ≤ 1048576) :
    Calls Tryz.prog 33 #[.string s] w fun e w' => e = .returned (.int .i64 (numP s)) ∧ w' = w := by
  by_cases h1 : s.size < 1
  · rw [numP_no (by omega)]
    have i1 : (s.size : Int) < 1 := by omega
    go_enter Tryz.func33, Tryz.ntmps33
    go_wp2
    go_ret
    exact ⟨rfl, rfl⟩
  · have i1 : ¬ (s.size : Int) < 1 := by omega
    by_cases h5 : 5 < s.size
    · rw [numP_no (by omega)]
      have i5 : (5 : Int) < (s.size : Int) := by omega
      go_enter Tryz.func33, Tryz.ntmps33
      go_wp2
      go_ret
      exact ⟨rfl, rfl⟩
    · have i5 : ¬ (5 : Int) < (s.size : Int) := by omega
      have h0 : 0 < s.size := by omega
      have hb0 : ((s[0]'h0).toNat : Int) = bt s 0 := (bt_at s 0 h0).symm
      by_cases hz : 1 < s.size ∧ bt s 0 = 48
      · rw [numP_no (by intro h; exact h.2.2 hz)]
        have iz : (1 : Int) < (s.size : Int) := by have := hz.1; omega
        have ez : (bt s 0 == 48) = true := by rw [hz.2]; rfl
        clear hz
        go_enter Tryz.func33, Tryz.ntmps33
        go_wp2
        go_ret
        exact ⟨rfl, rfl⟩
      · have HO : Hid (1 ≤ s.size ∧ s.size ≤ 5 ∧ ¬ (1 < s.size ∧ bt s 0 = 48)) := ⟨by omega, by omega, hz⟩
        have HZ : Hid (¬ (1 < s.size ∧ bt s 0 = 48)) := hz
        have hq : (1 : Int) < (s.size : Int) → (bt s 0 == 48) = false := fun h => by
          rw [beq_eq_false_iff_ne]; intro e; exact hz ⟨by omega, e⟩
        clear hz
        obtain ⟨n, hn⟩ : ∃ n, n = s.size := ⟨_, rfl⟩
        by_cases hs1 : (1 : Int) < (s.size : Int)
        · have hq1 := hq hs1
          clear hq
          go_enter Tryz.func33, Tryz.ntmps33
          go_wp2
          go_loop [3, 4] (fun v i => ∃ k : Nat, k ≤ s.size ∧ i = .int .i64 k ∧ v = .int .i64 (valAt s k) ∧ Hid (Digs s k)) (fun _ i => s.size - (intOf i).toNat)
          case atStart => exact ⟨0, Nat.zero_le _, rfl, rfl, fun j hj => by omega⟩
          case round =>
            obtain ⟨k, hk, rfl, rfl, hD⟩ := hrel
            by_cases hkn : k < s.size
            · have hki : (k : Int) < (s.size : Int) := by omega
              have hbk : ((s[k]'hkn).toNat : Int) = bt s k := (bt_at s k hkn).symm
              have hv := valAt_small hD.out (by omega)
              have HV : Hid (valAt s (k + 1) = valAt s k * 10 + (bt s k - 48)) := rfl
              have Hf : Hid (digB (bt s k) = false → numP s = -1) := fun h => numP_bad (allDigs_f hkn h)
              have Ht : Hid (digB (bt s k) = true → Digs s (k + 1)) := hD.out.succ
              generalize bt s k = b at *
              generalize valAt s k = v at *
              by_cases b0 : b < 48
              · go_wp2
                go_ret
                exact ⟨ret_int (Hf.out (by unfold digB; simp; omega)).symm, rfl⟩
              · by_cases b1 : 57 < b
                · go_wp2
                  go_ret
                  exact ⟨ret_int (Hf.out (by unfold digB; simp; omega)).symm, rfl⟩
                · have hw := sub48 (b := b) (by omega) (by omega)
                  have hw1 : IntKind.i64.wrap (v * 10) = v * 10 := by rw [IntKind.wrap_i64]; omega
                  have hw2 : IntKind.i64.wrap (v * 10 + (b - 48)) = v * 10 + (b - 48) := by rw [IntKind.wrap_i64]; omega
                  go_wp2
                  go_round
                  case rel => exact ⟨k + 1, by omega, by go_num, by rw [HV.out], Ht.out (digB_t (by omega) (by omega))⟩
                  case measure => simp [intOf]; omega
            · have e : k = s.size := by omega
              go_wp2
              go_ret
              subst e
              exact ⟨ret_int (numP_ok HO.out hD.out).symm, rfl⟩
        · clear hq
          go_enter Tryz.func33, Tryz.ntmps33
          go_wp2
          go_loop [3, 4] (fun v i => ∃ k : Nat, k ≤ s.size ∧ i = .int .i64 k ∧ v = .int .i64 (valAt s k) ∧ Hid (Digs s k)) (fun _ i => s.size - (intOf i).toNat)
          case atStart => exact ⟨0, Nat.zero_le _, rfl, rfl, fun j hj => by omega⟩
          case round =>
            obtain ⟨k, hk, rfl, rfl, hD⟩ := hrel
            by_cases hkn : k < s.size
            · have hki : (k : Int) < (s.size : Int) := by omega
              have hbk : ((s[k]'hkn).toNat : Int) = bt s k := (bt_at s k hkn).symm
              have hv := valAt_small hD.out (by omega)
              have HV : Hid (valAt s (k + 1) = valAt s k * 10 + (bt s k - 48)) := rfl
              have Hf : Hid (digB (bt s k) = false → numP s = -1) := fun h => numP_bad (allDigs_f hkn h)
              have Ht : Hid (digB (bt s k) = true → Digs s (k + 1)) := hD.out.succ
              generalize bt s k = b at *
              generalize valAt s k = v at *
              by_cases b0 : b < 48
              · go_wp2
                go_ret
                exact ⟨ret_int (Hf.out (by unfold digB; simp; omega)).symm, rfl⟩
              · by_cases b1 : 57 < b
                · go_wp2
                  go_ret
                  exact ⟨ret_int (Hf.out (by unfold digB; simp; omega)).symm, rfl⟩
                · have hw := sub48 (b := b) (by omega) (by omega)
                  have hw1 : IntKind.i64.wrap (v * 10) = v * 10 := by rw [IntKind.wrap_i64]; omega
                  have hw2 : IntKind.i64.wrap (v * 10 + (b - 48)) = v * 10 + (b - 48) := by rw [IntKind.wrap_i64]; omega
                  go_wp2
                  go_round
                  case rel => exact ⟨k + 1, by omega, by go_num, by rw [HV.out], Ht.out (digB_t (by omega) (by omega))⟩
                  case measure => simp [intOf]; omega
            · have e : k = s.size := by omega
              go_wp2
              go_ret
              subst e
              exact ⟨ret_int (numP_ok HO.out hD.out).symm, rfl⟩
theorem row_le' (s : ByteArray) (cap : Nat) : s.size ≤ ((bytesRow s cap).size, (bytesRow s cap).size + 1).1 := by simp [bytesRow]
theorem one_48 {s : ByteArray} (h : bt s 0 = 48) (h0 : 0 < s.size) : (s.toList == [48]) = true ↔ s.size = 1 := by
  rw [beq_iff_eq, Lib.toList_data]
  have hl := Lib.size_eq s
  rw [bt_list] at h
  rcases hd : s.data.toList with _ | ⟨x, xs⟩
  · rw [hd] at hl; simp only [List.length_nil] at hl; omega
  · rw [hd] at h hl
    simp only [List.length_cons] at hl
    simp at h
    have hx : x = 48 := by
      apply UInt8.toNat_inj.1
      have : (48 : UInt8).toNat = 48 := rfl
      omega
    constructor
    · intro e; simp at e; rw [e.2] at hl; exact hl
    · intro e; have : xs.length = 0 := by omega
      rw [List.eq_nil_of_length_eq_zero this, hx]
set_option maxRecDepth 100000 in
set_option maxHeartbeats 2000000 in
theorem readNumber_any (s : ByteArray) (w : World) (hs : s.size ≤ 1048576) :
    Calls Tryz.prog 66 #[.string s] w fun e w' => e = .returned (.tuple #[.int .i64 (if numsB s = true then valAt s s.size else 0), .bool (numsB s)]) ∧ Below w.heap.size w w' := by
  have hem := isEmpty_of s
  have hno : ¬ (1 ≤ s.size ∧ s.size ≤ 5 ∧ ¬ (1 < s.size ∧ bt s 0 = 48)) → numsB s = false := fun h => by unfold numsB; rw [decide_eq_false h]; rfl
  by_cases h1 : s.size = 0
  · have h2 : s.toList.isEmpty = true := by rw [hem]; simp [h1]
    rw [hno (by omega)]
    simp only [Bool.false_eq_true, if_false]
    clear hem hno
    go_enter Tryz.func66, Tryz.ntmps66
    go_wp2
    go_ret2
    exact ⟨rfl, Below.refl _ _⟩
  · have h2 : s.toList.isEmpty = false := by rw [hem]; simp [h1]
    clear hem
    by_cases h5 : 5 < s.size
    · rw [hno (by omega)]
      simp only [Bool.false_eq_true, if_false]
      have i5 : (5 : Int) < (s.size : Int) := by omega
      clear hno
      go_enter Tryz.func66, Tryz.ntmps66
      go_wp2
      go_ret2
      exact ⟨rfl, Below.refl _ _⟩
    · have i5 : ¬ (5 : Int) < (s.size : Int) := by omega
      have h0 : 0 < s.size := by omega
      have hb0 : ((s[0]'h0).toNat : Int) = bt s 0 := (bt_at s 0 h0).symm
      have kc := fun (w : World) => run_bytes_of_string (P := Tryz.prog) w 9 22 5 s Tryz.underlying9 Tryz.underlying22 Tryz.underlying5
      by_cases e48 : bt s 0 = 48
      · have eb : (bt s 0 == 48) = true := by rw [e48]; rfl
        by_cases hs1 : s.size = 1
        · have hl := (one_48 e48 h0).2 hs1
          have HO : Hid (1 ≤ s.size ∧ s.size ≤ 5 ∧ ¬ (1 < s.size ∧ bt s 0 = 48)) := ⟨by omega, by omega, fun h => by omega⟩
          clear e48 hno hs1
          go_enter Tryz.func66, Tryz.ntmps66
          go_wp2
          generalize hcap : grownCap w s.size 0 5 = cap
          clear hcap
          go_loop [4, 26] (fun v i => ∃ k : Nat, k ≤ s.size ∧ i = .int .i64 k ∧ v = .int .i64 (valAt s k) ∧ Hid (Digs s k)) (fun _ i => s.size - (intOf i).toNat)
          case atStart => exact ⟨0, Nat.zero_le _, rfl, rfl, fun j hj => by omega⟩
          case round =>
            obtain ⟨k, hk, rfl, rfl, hD⟩ := hrel
            by_cases hkn : k < s.size
            · have hki : (k : Int) < (s.size : Int) := by omega
              have hck := (bytes_row w 5 s cap _ (row_le' s cap) k hkn).1
              have hv := valAt_small hD.out (by omega)
              have HV : Hid (valAt s (k + 1) = valAt s k * 10 + (bt s k - 48)) := rfl
              have Hf : Hid (digB (bt s k) = false → numsB s = false) := fun h => by unfold numsB; rw [allDigs_f hkn h, Bool.and_false]
              have Ht : Hid (digB (bt s k) = true → Digs s (k + 1)) := hD.out.succ
              generalize bt s k = b at *
              generalize valAt s k = v at *
              by_cases b0 : b < 48
              · have HF := Hf.out (by unfold digB; simp; omega)
                clear Hf
                go_wp2
                go_ret2
                exact ⟨rfl, (one_new _).drew⟩
              · by_cases b1 : 57 < b
                · have HF := Hf.out (by unfold digB; simp; omega)
                  clear Hf
                  go_wp2
                  go_ret2
                  exact ⟨rfl, (one_new _).drew⟩
                · have hw := sub48 (b := b) (by omega) (by omega)
                  have hw1 : IntKind.i64.wrap (v * 10) = v * 10 := by rw [IntKind.wrap_i64]; omega
                  have hw2 : IntKind.i64.wrap (v * 10 + (b - 48)) = v * 10 + (b - 48) := by rw [IntKind.wrap_i64]; omega
                  go_wp2
                  go_round
                  case rel => exact ⟨k + 1, by omega, by go_num, by rw [HV.out], Ht.out (digB_t (by omega) (by omega))⟩
                  case measure => simp [intOf]; omega
            · have e : k = s.size := by omega
              subst e
              have HB : numsB s = true := by unfold numsB; rw [allDigs_t hD.out, decide_eq_true HO.out]; rfl
              clear hkn
              go_wp2
              go_ret2
              exact ⟨rfl, (one_new _).drew⟩
        · have hl : (s.toList == [48]) = false := by rw [Bool.eq_false_iff]; exact fun h => hs1 ((one_48 e48 h0).1 h)
          rw [hno (fun h => h.2.2 ⟨by omega, e48⟩)]
          simp only [Bool.false_eq_true, if_false]
          clear e48 hno kc
          go_enter Tryz.func66, Tryz.ntmps66
          go_wp2
          go_ret2
          exact ⟨rfl, Below.refl _ _⟩
      · have eb : (bt s 0 == 48) = false := by rw [beq_eq_false_iff_ne]; exact e48
        have HO : Hid (1 ≤ s.size ∧ s.size ≤ 5 ∧ ¬ (1 < s.size ∧ bt s 0 = 48)) := ⟨by omega, by omega, fun h => e48 h.2⟩
        clear e48 hno
        go_enter Tryz.func66, Tryz.ntmps66
        go_wp2
        generalize hcap : grownCap w s.size 0 5 = cap
        clear hcap
        go_loop [4, 26] (fun v i => ∃ k : Nat, k ≤ s.size ∧ i = .int .i64 k ∧ v = .int .i64 (valAt s k) ∧ Hid (Digs s k)) (fun _ i => s.size - (intOf i).toNat)
        case atStart => exact ⟨0, Nat.zero_le _, rfl, rfl, fun j hj => by omega⟩
        case round =>
          obtain ⟨k, hk, rfl, rfl, hD⟩ := hrel
          by_cases hkn : k < s.size
          · have hki : (k : Int) < (s.size : Int) := by omega
            have hck := (bytes_row w 5 s cap _ (row_le' s cap) k hkn).1
            have hv := valAt_small hD.out (by omega)
            have HV : Hid (valAt s (k + 1) = valAt s k * 10 + (bt s k - 48)) := rfl
            have Hf : Hid (digB (bt s k) = false → numsB s = false) := fun h => by unfold numsB; rw [allDigs_f hkn h, Bool.and_false]
            have Ht : Hid (digB (bt s k) = true → Digs s (k + 1)) := hD.out.succ
            generalize bt s k = b at *
            generalize valAt s k = v at *
            by_cases b0 : b < 48
            · have HF := Hf.out (by unfold digB; simp; omega)
              clear Hf
              go_wp2
              go_ret2
              exact ⟨rfl, (one_new _).drew⟩
            · by_cases b1 : 57 < b
              · have HF := Hf.out (by unfold digB; simp; omega)
                clear Hf
                go_wp2
                go_ret2
                exact ⟨rfl, (one_new _).drew⟩
              · have hw := sub48 (b := b) (by omega) (by omega)
                have hw1 : IntKind.i64.wrap (v * 10) = v * 10 := by rw [IntKind.wrap_i64]; omega
                have hw2 : IntKind.i64.wrap (v * 10 + (b - 48)) = v * 10 + (b - 48) := by rw [IntKind.wrap_i64]; omega
                go_wp2
                go_round
                case rel => exact ⟨k + 1, by omega, by go_num, by rw [HV.out], Ht.out (digB_t (by omega) (by omega))⟩
                case measure => simp [intOf]; omega
          · have e : k = s.size := by omega
            subst e
            have HB : numsB s = true := by unfold numsB; rw [allDigs_t hD.out, decide_eq_true HO.out]; rfl
            clear hkn
            go_wp2
            go_ret2
            exact ⟨rfl, (one_new _).drew⟩
end U
end Go.Proofs.YtffoogkojncooaaGreatDoor
