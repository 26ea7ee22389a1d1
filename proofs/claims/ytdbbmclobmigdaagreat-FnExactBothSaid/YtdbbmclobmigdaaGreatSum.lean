import Derived.Test.YtdbbmclobmigdaaGreatTo
import Derived.Test.YtdbbmclobmigdaaGreatByteS
namespace Go.Proofs.YtdbbmclobmigdaaGreat
open Go.RowKit
namespace U
/-- Numbers that are bytes. -/
def Bts (bs : List Int) : Prop := ∀ b ∈ bs, 0 ≤ b ∧ b ≤ 255
theorem Bts.at {bs : List Int} (h : Bts bs) {k : Nat} (hk : k < bs.length) : 0 ≤ bs.getD k 0 ∧ bs.getD k 0 ≤ 255 := by
  rw [getD_eq hk]; exact h _ (List.getElem_mem hk)
def sumF (n b : Int) : Int := (n * 139 + b + 1) % 65521
def sumL (bs : List Int) : Int := bs.foldl sumF 13
def sumAt (bs : List Int) (k : Nat) : Int := sumL (bs.take k)
theorem sumAt_zero (bs : List Int) : sumAt bs 0 = 13 := rfl
theorem sumAt_all (bs : List Int) : sumAt bs bs.length = sumL bs := by unfold sumAt; rw [List.take_length]
theorem sumAt_succ {bs : List Int} {k : Nat} (h : k < bs.length) : sumAt bs (k + 1) = sumF (sumAt bs k) (bs.getD k 0) := by
  unfold sumAt sumL
  rw [take_snoc2 h, List.foldl_append]
  rfl
theorem sum_bd_aux (bs : List Int) : ∀ n : Int, 0 ≤ n → n ≤ 65520 → 0 ≤ bs.foldl sumF n ∧ bs.foldl sumF n ≤ 65520 := by
  induction bs with
  | nil => intro n h0 h1; exact ⟨h0, h1⟩
  | cons b bs ih =>
    intro n _ _
    rw [List.foldl_cons]
    exact ih _ (by unfold sumF; omega) (by unfold sumF; omega)
theorem sumL_bd (bs : List Int) : 0 ≤ sumL bs ∧ sumL bs ≤ 65520 := sum_bd_aux bs 13 (by omega) (by omega)
theorem sumAt_bd (bs : List Int) (k : Nat) : 0 ≤ sumAt bs k ∧ sumAt bs k ≤ 65520 := sumL_bd _

set_option maxRecDepth 100000 in
set_option maxHeartbeats 1000000 in
theorem l2Sum_core (b off c n : Nat) (bs : List Int) (w : World) (HN : Hid (bs.length = n)) (hn : n ≤ 1099511627776) (hB : Bts bs)
    (hc : ∀ j, j < n → w.cell? ⟨b, off + j, none⟩ = some (.int .u8 (bs.getD j 0))) :
    Calls Tryz.prog 70 #[.slice (some ⟨b, off, none⟩) n c] w fun e w' => e = .returned (.int .i64 (sumL bs)) ∧ w' = w := by
  go_enter Tryz.func70, Tryz.ntmps70
  go_wp2
  go_loop [3, 4] (fun s i => ∃ k : Nat, k ≤ n ∧ i = .int .i64 k ∧ s = .int .i64 (sumAt bs k)) (fun _ i => n - (intOf i).toNat)
  case atStart => exact ⟨0, Nat.zero_le _, rfl, rfl⟩
  case round =>
    obtain ⟨k, hk, rfl, rfl⟩ := hrel
    by_cases hkn : k < n
    · have hki : (k : Int) < (n : Int) := by omega
      have hkb : k < bs.length := by have := HN.out; omega
      have hcj := hc k hkn
      have hx := hB.at hkb
      have hs := sumAt_bd bs k
      obtain ⟨x, hxx⟩ : ∃ x, x = bs.getD k 0 := ⟨_, rfl⟩
      obtain ⟨s, hss⟩ : ∃ s, s = sumAt bs k := ⟨_, rfl⟩
      have HS : Hid (sumAt bs (k + 1) = (s * 139 + x + 1) % 65521) := by show _ = _; rw [sumAt_succ hkb, hxx, hss]; rfl
      rw [← hxx] at hcj hx
      rw [← hss] at hs ⊢
      clear hxx hss hc hB
      go_wp2
      go_round
      case rel => exact ⟨k + 1, by omega, by go_num, by rw [HS.out]⟩
      case measure => simp [intOf]; omega
    · go_wp2
      go_ret
      have hkn : k = n := by omega
      subst hkn
      rw [← HN.out, sumAt_all]
      exact ⟨rfl, rfl⟩
set_option maxRecDepth 100000 in
set_option maxHeartbeats 1000000 in
theorem l2Sum_any (v : Value) (bs : List Int) (w : World) (hv : Ints .u8 w v bs) (hB : Bts bs) (hx : bs.length ≤ 1099511627776) :
    Calls Tryz.prog 70 #[v] w fun e w' => e = .returned (.int .i64 (sumL bs)) ∧ w' = w := by
  obtain ⟨a, c, rfl⟩ := hv.shape
  by_cases h0 : 0 < bs.length
  · obtain ⟨_, b, off, rfl, hb, hc⟩ := hv.at h0
    exact l2Sum_core b off c bs.length bs w rfl hx hB hc
  · have e1 : bs = [] := List.eq_nil_of_length_eq_zero (by omega)
    subst e1
    simp only [List.length_nil]
    clear hv h0 hx hB
    go_enter Tryz.func70, Tryz.ntmps70
    go_wp2
    refine wp_loop_rounds 1 ?_; rw [rounds_succ]
    go_wp2
    go_ret
    exact ⟨rfl, rfl⟩
/-- Its code, and its value. -/
def smC (bs : List Int) : Int := if 200 < bs.length then 2 else 0
def smV (bs : List Int) : Int := if 200 < bs.length then 0 else sumL bs
theorem sm_many {bs : List Int} (h : 200 < bs.length) : smC bs = 2 ∧ smV bs = 0 := by simp [smC, smV, h]
theorem sm_ok {bs : List Int} (h : ¬ 200 < bs.length) : smC bs = 0 ∧ smV bs = sumL bs := by simp [smC, smV, h]
def IntAns (w : World) (c v : Int) (e : Ending) (w' : World) : Prop := e = .returned (.agg #[.int .i64 c, .int .i64 v]) ∧ Below w.heap.size w w'
set_option maxRecDepth 100000 in
set_option maxHeartbeats 1000000 in
theorem nextSum_any (s x : Int) (w : World) (hs : 0 ≤ s ∧ s ≤ 65520) (hx : 0 ≤ x ∧ x ≤ 255) :
    Calls Tryz.prog 115 #[.int .u32 s, .int .u8 x] w fun e w' => e = .returned (.int .u32 ((s * 139 + x + 1) % 65521)) ∧ w' = w := by
  go_enter Tryz.func115, Tryz.ntmps115
  go_wp2
  go_ret
  exact ⟨rfl, rfl⟩
set_option maxRecDepth 100000 in
set_option maxHeartbeats 2000000 in
theorem implSumOf_core (b off c n : Nat) (bs : List Int) (w : World) (HN : Hid (bs.length = n)) (hn : n ≤ 200) (hB : Bts bs) (hb : b < w.heap.size)
    (hc : ∀ j, j < n → w.cell? ⟨b, off + j, none⟩ = some (.int .u8 (bs.getD j 0))) :
    Calls Tryz.prog 92 #[.slice (some ⟨b, off, none⟩) n c] w fun e w' => IntAns w 0 (sumL bs) e w' := by
  go_enter Tryz.func92, Tryz.ntmps92
  go_wp2
  go_loop [3, 12] (fun s i => ∃ k : Nat, k ≤ n ∧ i = .int .i64 k ∧ s = .int .u32 (sumAt bs k)) (fun _ i => n - (intOf i).toNat)
  case atStart => exact ⟨0, Nat.zero_le _, rfl, rfl⟩
  case round =>
    obtain ⟨k, hk, rfl, rfl⟩ := hrel
    have hs := sumAt_bd bs k
    by_cases hkn : k < n
    · have hki : (k : Int) < (n : Int) := by omega
      have hkb : k < bs.length := by have := HN.out; omega
      have hcj := ((one_new (.cells #[.int .i64 0, .int .i64 0] 58)).cell (p := ⟨b, off + k, none⟩) hb).trans (hc k hkn)
      have hx := hB.at hkb
      obtain ⟨x, hxx⟩ : ∃ x, x = bs.getD k 0 := ⟨_, rfl⟩
      obtain ⟨s, hss⟩ : ∃ s, s = sumAt bs k := ⟨_, rfl⟩
      have HS : Hid (sumAt bs (k + 1) = (s * 139 + x + 1) % 65521) := by show _ = _; rw [sumAt_succ hkb, hxx, hss]; rfl
      rw [← hxx] at hcj hx
      rw [← hss] at hs ⊢
      clear hxx hss hc hB
      go_wp2_with fail
      refine (nextSum_any s x _ hs hx).mono ?_
      rintro e w1 ⟨rfl, rfl⟩
      go_wp2
      go_round
      case rel => exact ⟨k + 1, by omega, by go_num, by rw [HS.out]⟩
      case measure => simp [intOf]; omega
    · have hkn : k = n := by omega
      subst hkn
      have e1 : sumAt bs k = sumL bs := by rw [← HN.out, sumAt_all]
      rw [e1] at hs ⊢
      obtain ⟨s, hss⟩ : ∃ s, s = sumL bs := ⟨_, rfl⟩
      have HS : Hid (s = sumL bs) := hss
      rw [← hss] at hs ⊢
      clear hc hB e1 HN hss
      go_wp2
      exact bodyPost_ret (v := .agg #[.int .i64 0, .int .i64 s]) (by simp [results, Tryz.results92, go_sem]) rfl (by rw [← HS.out]; exact ⟨rfl, one_new _⟩)
set_option maxRecDepth 100000 in
set_option maxHeartbeats 1000000 in
theorem implSumOf_any (v : Value) (bs : List Int) (w : World) (hv : Ints .u8 w v bs) (hB : Bts bs) (hx : bs.length ≤ 1099511627776) :
    Calls Tryz.prog 92 #[v] w fun e w' => IntAns w (smC bs) (smV bs) e w' := by
  obtain ⟨a, c, rfl⟩ := hv.shape
  by_cases h : 200 < bs.length
  · rw [(sm_many h).1, (sm_many h).2]
    generalize bs.length = n at *
    clear hv hB
    go_enter Tryz.func92, Tryz.ntmps92
    go_wp2
    exact bodyPost_ret (v := .agg #[.int .i64 2, .int .i64 0]) (by simp [results, Tryz.results92, go_sem]) rfl ⟨rfl, one_new _⟩
  · rw [(sm_ok h).1, (sm_ok h).2]
    by_cases h0 : 0 < bs.length
    · obtain ⟨_, b, off, rfl, hb, hc⟩ := hv.at h0
      exact implSumOf_core b off c bs.length bs w rfl (by omega) hB hb hc
    · have e1 : bs = [] := List.eq_nil_of_length_eq_zero (by omega)
      subst e1
      simp only [List.length_nil]
      have e2 : sumL [] = 13 := rfl
      rw [e2]
      clear hv h0 hx hB h e2
      go_enter Tryz.func92, Tryz.ntmps92
      go_wp2
      refine wp_loop_rounds 1 ?_; rw [rounds_succ]
      go_wp2
      exact bodyPost_ret (v := .agg #[.int .i64 0, .int .i64 13]) (by simp [results, Tryz.results92, go_sem]) rfl ⟨rfl, one_new _⟩
end U
end Go.Proofs.YtdbbmclobmigdaaGreat
