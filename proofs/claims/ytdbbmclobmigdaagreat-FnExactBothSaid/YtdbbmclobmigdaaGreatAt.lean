/- What the model of chapter 1 answers of the code point at a place. -/
import Derived.Test.YtdbbmclobmigdaaGreatLow
namespace Go.Proofs.YtdbbmclobmigdaaGreat
open Go.RowKit
namespace U
set_option maxHeartbeats 1000000 in
/-- Of any first byte: the ways ahead of the loop. -/
theorem l1At_no (s : ByteArray) (p : Nat) (N R : Int) (w : World) (hp : p < s.size) (hs : s.size ≤ 1048576) (hN0 : 0 ≤ N) (hN4 : N ≤ 4)
    (hL : ∀ w, Calls Tryz.prog 123 #[.int .i64 (bt s p)] w fun e w' => e = .returned (.tuple #[.int .i64 N, .int .i64 R]) ∧ w' = w)
    (h : N = 0 ∨ (s.size : Int) < (p : Int) + N) :
    Calls Tryz.prog 100 #[.string s, .int .i64 p] w fun e w' => e = .returned (.tuple #[.int .i64 0, .int .i64 0, .bool false]) ∧ w' = w := by
  have hb := bt_bd s p
  have hbt : ((s[p]'hp).toNat : Int) = bt s p := (bt_at s p hp).symm
  by_cases h0 : N = 0
  · subst h0
    go_enter Tryz.func100, Tryz.ntmps100
    go_wp2_with (go_at_call 123; refine (hL _).mono ?_; rintro e w' ⟨rfl, rfl⟩)
    go_ret3
    exact ⟨rfl, rfl⟩
  · have hn : (N == 0) = false := by simpa using h0
    have hlt : (s.size : Int) < (p : Int) + N := by omega
    clear h h0
    go_enter Tryz.func100, Tryz.ntmps100
    go_wp2_with (go_at_call 123; refine (hL _).mono ?_; rintro e w' ⟨rfl, rfl⟩)
    go_ret3
    exact ⟨rfl, rfl⟩

set_option maxHeartbeats 2000000 in
theorem l1At_loop (s : ByteArray) (p : Nat) (N R : Int) (w : World) (hp : p < s.size) (hs : s.size ≤ 1048576) (hN0 : 1 ≤ N) (hN4 : N ≤ 4) (hR0 : 0 ≤ R) (hR1 : R < 128)
    (hL : ∀ w, Calls Tryz.prog 123 #[.int .i64 (bt s p)] w fun e w' => e = .returned (.tuple #[.int .i64 N, .int .i64 R]) ∧ w' = w)
    (h : (p : Int) + N ≤ (s.size : Int)) :
    Calls Tryz.prog 100 #[.string s, .int .i64 p] w fun e w' => w' = w ∧ ∃ k : Nat,
      (((k : Int) + 1 < N ∧ (bt s (p + 1 + k) < 128 ∨ 191 < bt s (p + 1 + k)) ∧ e = .returned (.tuple #[.int .i64 0, .int .i64 0, .bool false])) ∨
      (N = (k + 1 : Nat) ∧ conts s p k ∧ e = .returned (.tuple #[.int .i64 (acc s p R k), .int .i64 N, .bool (runeB (acc s p R k) && decide (sizeI (acc s p R k) = N))]))) := by
  have hb := bt_bd s p
  have hbt : ((s[p]'hp).toNat : Int) = bt s p := (bt_at s p hp).symm
  have hn : (N == 0) = false := by simp; omega
  go_enter Tryz.func100, Tryz.ntmps100
  go_wp2_with (go_at_call 123; refine (hL _).mono ?_; rintro e w' ⟨rfl, rfl⟩)
  go_loop [8, 9] (fun r i => ∃ q k : Nat, Hid (q = p + 1 + k) ∧ (k : Int) + 1 ≤ N ∧ i = .int .i64 q ∧ r = .int .i64 (acc s p R k) ∧ conts s p k) (fun _ i => (p + 4) - (intOf i).toNat)
  case atStart => exact ⟨p + 1, 0, rfl, by omega, by go_num, rfl, conts_zero _ _⟩
  case round =>
    obtain ⟨q, k, hq, hk, rfl, rfl, hc⟩ := hrel
    have hqp : p < q := by have := hq.out; omega
    have hbd := acc_bd hc hR0 hR1 (by omega)
    have hkq : (q : Int) = p + 1 + k := by have := hq.out; omega
    have HK : Hid ((q : Int) = p + 1 + k) := hkq
    by_cases hlt : (k : Int) + 1 < N
    · have hqs : q < s.size := by omega
      have hlt2 : (q : Int) < (p : Int) + N := by omega
      have hbq := bt_bd s q
      have hbtq : ((s[q]'hqs).toNat : Int) = bt s q := (bt_at s q hqs).symm
      clear hkq hlt
      by_cases h1 : bt s q < 128
      · go_wp2
        go_ret3
        refine ⟨rfl, k, Or.inl ⟨by have := HK.out; omega, ?_, rfl⟩⟩
        rw [← hq.out]; exact Or.inl h1
      · by_cases h2 : 191 < bt s q
        · go_wp2
          go_ret3
          refine ⟨rfl, k, Or.inl ⟨by have := HK.out; omega, ?_, rfl⟩⟩
          rw [← hq.out]; exact Or.inr h2
        · go_wp2
          go_round
          case rel =>
            refine ⟨q + 1, k + 1, (by have := hq.out; show q + 1 = p + 1 + (k + 1); omega), by have := HK.out; omega, by go_num, ?_, conts_succ hc (by rw [← hq.out]; omega) (by rw [← hq.out]; omega)⟩
            rw [show acc s p R (k + 1) = 64 * acc s p R k + bt s q - 128 by rw [hq.out]; rfl]
          case measure => simp [intOf]; omega
    · have hN : N = (k + 1 : Nat) := by omega
      have HN : Hid (N = (k + 1 : Nat)) := hN
      have hge : (p : Int) + N ≤ (q : Int) := by omega
      clear hkq hlt hN
      rcases Bool.eq_false_or_eq_true (runeB (acc s p R k)) with h1 | h1
      · rcases Bool.eq_false_or_eq_true (decide (sizeI (acc s p R k) = N)) with h2 | h2
        · have h3 : (sizeI (acc s p R k) == N) = true := by simpa using h2
          go_wp2_with (first | (go_at_call 124; refine (l1Rune_any _ _).mono ?_; rintro e w' ⟨rfl, rfl⟩) | (go_at_call 125; refine (l1Size_any _ _).mono ?_; rintro e w' ⟨rfl, rfl⟩))
          go_ret3
          exact ⟨rfl, k, Or.inr ⟨HN.out, hc, by rw [h1, h2]; rfl⟩⟩
        · have h3 : (sizeI (acc s p R k) == N) = false := by simpa using h2
          go_wp2_with (first | (go_at_call 124; refine (l1Rune_any _ _).mono ?_; rintro e w' ⟨rfl, rfl⟩) | (go_at_call 125; refine (l1Size_any _ _).mono ?_; rintro e w' ⟨rfl, rfl⟩))
          go_ret3
          exact ⟨rfl, k, Or.inr ⟨HN.out, hc, by rw [h1, h2]; rfl⟩⟩
      · go_wp2_with (first | (go_at_call 124; refine (l1Rune_any _ _).mono ?_; rintro e w' ⟨rfl, rfl⟩) | (go_at_call 125; refine (l1Size_any _ _).mono ?_; rintro e w' ⟨rfl, rfl⟩))
        go_ret3
        exact ⟨rfl, k, Or.inr ⟨HN.out, hc, by rw [h1]; rfl⟩⟩

theorem l1At_any (s : ByteArray) (p : Nat) (w : World) (hp : p < s.size) (hs : s.size ≤ 1048576) :
    Calls Tryz.prog 100 #[.string s, .int .i64 p] w fun e w' => w' = w ∧ ∃ r n : Int, e = .returned (.tuple #[.int .i64 r, .int .i64 n, .bool (okAt s p)]) ∧ (okAt s p = true → r = ((Utf8.decode s p).1 : Int) ∧ n = ((Utf8.decode s p).2 : Int)) := by
  have hb := bt_bd s p
  have hN := leadN_bd (bt s p)
  have hR := leadR_bd (bt s p) hb.1
  have hL := fun w => l1Lead_any (bt s p) w hb.1 hb.2
  by_cases hsh : leadN (bt s p) = 0 ∨ (s.size : Int) < (p : Int) + leadN (bt s p)
  · have hok := okAt_short hp hsh
    refine (l1At_no s p _ _ w hp hs hN.1 hN.2 hL hsh).mono ?_
    rintro e w' ⟨rfl, rfl⟩
    exact ⟨rfl, 0, 0, by rw [hok], fun h => by rw [hok] at h; cases h⟩
  · refine (l1At_loop s p _ _ w hp hs (by omega) hN.2 hR.1 hR.2 hL (by omega)).mono ?_
    rintro e w' ⟨rfl, k, ⟨hk, hbr, rfl⟩ | ⟨hk, hc, rfl⟩⟩
    · have hok := okAt_break (by omega) hbr
      exact ⟨rfl, 0, 0, by rw [hok], fun h => by rw [hok] at h; cases h⟩
    · have hw := okAt_whole hk (by omega) hc
      refine ⟨rfl, acc s p (leadR (bt s p)) k, leadN (bt s p), ?_, fun h => ⟨(hw.2 h).1, ?_⟩⟩
      · rw [hw.1, hk]
      · rw [hk]; exact (hw.2 h).2
end U
end Go.Proofs.YtdbbmclobmigdaaGreat
