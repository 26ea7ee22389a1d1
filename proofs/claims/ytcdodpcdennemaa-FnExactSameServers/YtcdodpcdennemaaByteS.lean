/- Lists of bytes that are read, compared, marked and looked at anew. -/
import Derived.Test.YtcdodpcdennemaaIntR
namespace Go.Proofs.Ytcdodpcdennemaa
open Go.RowKit
namespace U
set_option maxRecDepth 100000 in
set_option maxHeartbeats 1000000 in
theorem eqByteS_core (b off c b' off' c' n : Nat) (xs ys : List Int) (w : World) (hX : Hid (xs.length = n)) (hY : Hid (ys.length = n)) (hn : n ≤ 1099511627776)
    (hc : ∀ j, j < n → w.cell? ⟨b, off + j, none⟩ = some (.int .u8 (xs.getD j 0))) (hc' : ∀ j, j < n → w.cell? ⟨b', off' + j, none⟩ = some (.int .u8 (ys.getD j 0))) :
    Calls Try.prog 21 #[.slice (some ⟨b, off, none⟩) n c, .slice (some ⟨b', off', none⟩) n c'] w fun e w' => e = .returned (.bool (decide (xs = ys))) ∧ ∃ n, w' = w.drewN n := by
  go_enter Try.func21, Try.ntmps21
  go_wp2
  go_loopw [5] (fun i wr => ∃ k : Nat, k ≤ n ∧ i = .int .i64 k ∧ Hid (Agree xs ys k) ∧ ∃ m, wr = w.drewN m) (fun i _ => n - (intOf i).toNat)
  case atStart => exact ⟨0, Nat.zero_le _, rfl, fun j hj => by omega, 0, rfl⟩
  case round =>
    obtain ⟨k, hk, rfl, hA, m, rfl⟩ := hrel
    by_cases hkn : k < n
    · have hx1 := hc k hkn
      have hy1 := hc' k hkn
      have hki : (k : Int) < (n : Int) := by omega
      clear hc hc'
      obtain ⟨x, hx⟩ : ∃ x, x = xs.getD k 0 := ⟨_, rfl⟩
      obtain ⟨y, hy⟩ : ∃ y, y = ys.getD k 0 := ⟨_, rfl⟩
      rw [← hx] at hx1
      rw [← hy] at hy1
      have HX : Hid (x = xs.getD k 0) := hx
      have HY : Hid (y = ys.getD k 0) := hy
      clear hx hy
      by_cases e : x = y
      · have e1 : (x != y) = false := by simpa using e
        have E : Hid (x = y) := e
        clear e
        go_wp2
        go_quiet (fail)
        go_wp2
        go_roundw
        case rel => exact ⟨k + 1, by omega, by go_num, hA.out.succ (by rw [← HX.out, ← HY.out]; exact E.out), _, rfl⟩
        case measure => simp [intOf]; omega
      · have e1 : (x != y) = true := by simpa using e
        have E : Hid (¬ x = y) := e
        clear e
        go_wp2
        go_quiet (fail)
        go_wp2
        go_ret
        refine ⟨ret_bool ?_, m + nq, by simp⟩
        symm
        rw [decide_eq_false_iff_not]
        intro e2
        exact E.out (by rw [HX.out, HY.out, e2])
    · go_wp2
      go_ret
      refine ⟨ret_bool ?_, m, rfl⟩
      symm
      rw [decide_eq_true_iff]
      have hkn : k = n := by omega
      subst hkn
      have hxl := hX.out
      exact Agree.all (by rw [hxl]; exact hA.out) (hX.out.trans hY.out.symm)

set_option maxRecDepth 100000 in
set_option maxHeartbeats 1000000 in
theorem eqByteS_any (v u : Value) (xs ys : List Int) (w : World) (hv : Ints .u8 w v xs) (hu : Ints .u8 w u ys) (hx : xs.length ≤ 1099511627776) (hy : ys.length ≤ 1099511627776) :
    Calls Try.prog 21 #[v, u] w fun e w' => e = .returned (.bool (decide (xs = ys))) ∧ ∃ n, w' = w.drewN n := by
  obtain ⟨a, c, rfl⟩ := hv.shape
  obtain ⟨a', c', rfl⟩ := hu.shape
  by_cases hl : xs.length = ys.length
  · by_cases h0 : 0 < xs.length
    · obtain ⟨_, b, off, rfl, hb, hc⟩ := hv.at h0
      obtain ⟨_, b', off', rfl, hb', hc'⟩ := hu.at (by omega)
      rw [← hl] at hc' ⊢
      exact eqByteS_core b off c b' off' c' xs.length xs ys w rfl hl.symm hx hc hc'
    · have e1 : xs = [] := List.eq_nil_of_length_eq_zero (by omega)
      have e2 : ys = [] := List.eq_nil_of_length_eq_zero (by omega)
      subst e1 e2
      simp only [List.length_nil]
      clear hv hu hl h0 hx hy
      go_enter Try.func21, Try.ntmps21
      go_wp2
      refine wp_loop_rounds 1 ?_; rw [rounds_succ]
      go_wp2
      go_ret
      exact ⟨rfl, 0, rfl⟩
  · have hne : decide (xs = ys) = false := by rw [decide_eq_false_iff_not]; intro e; exact hl (by rw [e])
    rw [hne]
    obtain ⟨n, hn⟩ : ∃ n, n = xs.length := ⟨_, rfl⟩
    obtain ⟨m, hm⟩ : ∃ m, m = ys.length := ⟨_, rfl⟩
    rw [← hn, ← hm] at hl ⊢
    have h1 : ((n : Int) != (m : Int)) = true := by simp; omega
    clear hv hu hl hne hn hm
    go_enter Try.func21, Try.ntmps21
    go_wp2
    go_ret
    exact ⟨rfl, 0, rfl⟩
/-- The marksB: as many numbers in a row. -/
def marksB (k n : Nat) : List Int := (List.range n).map fun j => (((k + j) % 256 : Nat) : Int)
theorem marksB_len (k n : Nat) : (marksB k n).length = n := by simp [marksB]
theorem marksB_at (k n j : Nat) (h : j < n) : (marksB k n).getD j 0 = (((k + j) % 256 : Nat) : Int) := by simp [marksB, h]
/-- Marked below a place, as it was from there on. -/
def halfB (xs : List Int) (k i : Nat) : List Int := marksB k i ++ xs.drop i
theorem halfB_zero (xs : List Int) (k : Nat) : halfB xs k 0 = xs := by simp [halfB, marksB]
theorem halfB_len (xs : List Int) (k i : Nat) (h : i ≤ xs.length) : (halfB xs k i).length = xs.length := by simp [halfB, marksB]; omega
theorem halfB_all (xs : List Int) (k : Nat) : halfB xs k xs.length = marksB k xs.length := by simp [halfB]
theorem halfB_set (xs : List Int) (k i : Nat) (h : i < xs.length) : (halfB xs k i).set i (((k + i) % 256 : Nat) : Int) = halfB xs k (i + 1) := by
  unfold halfB
  rw [List.set_append_right _ _ (by simp [marksB])]
  simp only [marksB_len, Nat.sub_self]
  rw [List.drop_eq_getElem_cons h, List.set_cons_zero]
  simp only [marksB, List.range_succ, List.map_append, List.map_cons, List.map_nil, List.append_assoc, List.singleton_append]
theorem wrapB (n : Nat) : IntKind.u8.wrap ((n : Nat) : Int) = ((n % 256 : Nat) : Int) := by
  rw [IntKind.wrap_u8]; omega
set_option maxRecDepth 100000 in
set_option maxHeartbeats 1000000 in
theorem markByteS_any (B : Nat) (v : Value) (xs : List Int) (k0 : Nat) (w : World) (hown : w.ownsRow B 5 1 v xs.length (xs.map (Value.int .u8))) (hx : xs.length ≤ 1099511627776) (hk0 : k0 ≤ 1099511627776) :
    Calls Try.prog 51 #[v, .int .i64 k0] w fun e w' => e = .returned (.int .i64 ((k0 + xs.length : Nat) : Int)) ∧ w.grownBy w' v.ownBlock ∧ w'.ownsRow B 5 1 v xs.length ((marksB k0 xs.length).map (Value.int .u8)) := by
  by_cases h0 : xs.length = 0
  · have e1 : xs = [] := List.eq_nil_of_length_eq_zero h0
    subst e1
    obtain ⟨a, c, rfl⟩ := own_shape hown
    simp only [List.length_nil] at *
    go_enter Try.func51, Try.ntmps51
    go_wp2
    refine wp_loop_rounds 1 ?_; rw [rounds_succ]
    go_wp2
    go_ret
    exact ⟨rfl, World.grownBy.refl _ _, hown⟩
  · rcases hown.2 with ⟨_, h⟩ | ⟨g, cap, cur, rfl, hB, hg, _⟩
    · exact absurd h h0
    have hgs : g < w.heap.size := (Array.getElem?_eq_some_iff.1 hg).1
    clear hg hB
    obtain ⟨n, hn⟩ : ∃ n, n = xs.length := ⟨_, rfl⟩
    have HN : Hid (n = xs.length) := hn
    rw [← hn] at hown hx h0 ⊢
    clear hn h0
    go_enter Try.func51, Try.ntmps51
    go_wp2
    go_loopw [1, 5] (fun k i wr => ∃ j : Nat, j ≤ n ∧ i = .int .i64 j ∧ k = .int .i64 ((k0 + j : Nat) : Int) ∧ w.grownBy wr (some g) ∧ wr.ownsRow B 5 1 (.slice (some ⟨g, 0, none⟩) n cap) n ((halfB xs k0 j).map (Value.int .u8))) (fun _ i _ => n - (intOf i).toNat)
    case atStart => exact ⟨0, Nat.zero_le _, rfl, by simp, World.grownBy.refl _ _, by rw [halfB_zero]; exact hown⟩
    case round =>
      obtain ⟨j, hj, rfl, rfl, hgr, ho⟩ := hrel
      by_cases hjn : j < n
      · have hji : (j : Int) < (n : Int) := by omega
        have hfz := ho.frozenAt j
        obtain ⟨x, hcl⟩ := own_some ho hjn
        obtain ⟨s1, s2⟩ := ho.stored j (.int .u8 (((k0 + j) % 256 : Nat) : Int))
        have s2 := grown_trans hgr s2
        rw [← List.map_set, halfB_set xs k0 j (by have := HN.out; omega)] at s1
        have hwr := wrapB (k0 + j)
        clear ho hown hgr
        go_wp2
        go_roundw
        case rel =>
          exact ⟨j + 1, by omega, by go_num, by go_num, s2, s1⟩
        case measure => simp [intOf]; omega
      · go_wp2
        go_ret
        have hjn : j = n := by omega
        subst hjn
        refine ⟨rfl, hgr, ?_⟩
        rw [HN.out, halfB_all, ← HN.out] at ho
        exact ho
set_option maxRecDepth 100000 in
set_option maxHeartbeats 1000000 in
theorem heldByteS_any (v : Value) (n k0 : Nat) (w : World) (hv : Ints .u8 w v (marksB k0 n)) (hx : n ≤ 1099511627776) (hk0 : k0 ≤ 1099511627776) :
    Calls Try.prog 52 #[v, .int .i64 k0] w fun e w' => e = .returned (.int .i64 ((k0 + n : Nat) : Int)) ∧ w' = w := by
  obtain ⟨a, c, rfl⟩ := hv.shape
  by_cases h0 : n = 0
  · subst h0
    simp only [marksB_len]
    clear hv
    go_enter Try.func52, Try.ntmps52
    go_wp2
    refine wp_loop_rounds 1 ?_; rw [rounds_succ]
    go_wp2
    go_ret
    exact ⟨rfl, rfl⟩
  · obtain ⟨_, b, off, rfl, hb, hc⟩ := hv.at (by rw [marksB_len]; omega)
    have hcm : ∀ j, j < n → w.cell? ⟨b, off + j, none⟩ = some (.int .u8 (((k0 + j) % 256 : Nat) : Int)) := fun j hj => by rw [hc j (by rw [marksB_len]; exact hj), marksB_at _ _ _ hj]
    rw [marksB_len]
    clear hv hc h0
    go_enter Try.func52, Try.ntmps52
    go_wp2
    go_loop [1, 5] (fun k i => ∃ j : Nat, j ≤ n ∧ i = .int .i64 j ∧ k = .int .i64 ((k0 + j : Nat) : Int)) (fun _ i => n - (intOf i).toNat)
    case atStart => exact ⟨0, Nat.zero_le _, rfl, by simp⟩
    case round =>
      obtain ⟨j, hj, rfl, rfl⟩ := hrel
      by_cases hjn : j < n
      · have hji : (j : Int) < (n : Int) := by omega
        have hcj := hcm j hjn
        have hwr := wrapB (k0 + j)
        clear hcm
        go_wp2
        go_round
        case rel => exact ⟨j + 1, by omega, by go_num, by go_num⟩
        case measure => simp [intOf]; omega
      · go_wp2
        go_ret
        have hjn : j = n := by omega
        subst hjn
        exact ⟨rfl, rfl⟩

set_option maxRecDepth 100000 in
set_option maxHeartbeats 1000000 in
/-- Two answers of one code and one list are found the same. -/
theorem eqBytesResult_same (c : Int) (v u : Value) (xs : List Int) (w : World) (hv : Ints .u8 w v xs) (hu : Ints .u8 w u xs) (hx : xs.length ≤ 1099511627776) :
    Calls Try.prog 14 #[.agg #[.int .i64 c, v], .agg #[.int .i64 c, u]] w fun e w' => e = .returned (.bool true) ∧ Below w.heap.size w w' := by
  obtain ⟨a, c', rfl⟩ := hv.shape
  obtain ⟨a', d', rfl⟩ := hu.shape
  have hv2 := fun o o' => hv.below (two_new o o')
  have hu2 := fun o o' => hu.below (two_new o o')
  have h2 : decide (xs = xs) = true := by simp
  go_enter Try.func14, Try.ntmps14
  go_wp2_with (go_at_call 21; refine (eqByteS_any _ _ xs xs _ (hv2 _ _) (hu2 _ _) hx hx).mono ?_; rintro e w' ⟨rfl, n, rfl⟩)
  go_ret
  exact ⟨rfl, below_drewN (two_new _ _) _⟩
set_option maxRecDepth 100000 in
set_option maxHeartbeats 1000000 in
theorem markBytesResult_any (B : Nat) (c : Int) (v : Value) (xs : List Int) (k0 : Nat) (w : World) (hown : w.ownsRow B 5 1 v xs.length (xs.map (Value.int .u8))) (hx : xs.length ≤ 1099511627776) (hk0 : k0 ≤ 1099511627776) :
    Calls Try.prog 15 #[.agg #[.int .i64 c, v], .int .i64 k0] w fun e w' => e = .returned (.int .i64 ((k0 + xs.length : Nat) : Int)) ∧ w.grownBy w' v.ownBlock ∧ w'.ownsRow B 5 1 v xs.length ((marksB k0 xs.length).map (Value.int .u8)) := by
  obtain ⟨a, c', rfl⟩ := own_shape hown
  go_enter Try.func15, Try.ntmps15
  go_wp2_with (go_at_call 51; refine (markByteS_any B _ xs k0 _ (hown.alloc _) hx hk0).mono ?_; rintro e w' ⟨rfl, hg, ho⟩)
  go_ret
  exact ⟨rfl, grown_trans (World.grownBy_alloc _ _ _) hg, ho⟩
set_option maxRecDepth 100000 in
set_option maxHeartbeats 1000000 in
theorem heldBytesResult_any (c : Int) (v : Value) (n k0 : Nat) (w : World) (hv : Ints .u8 w v (marksB k0 n)) (hx : n ≤ 1099511627776) (hk0 : k0 ≤ 1099511627776) :
    Calls Try.prog 16 #[.agg #[.int .i64 c, v], .int .i64 k0] w fun e w' => e = .returned (.int .i64 ((k0 + n : Nat) : Int)) ∧ Below w.heap.size w w' := by
  obtain ⟨a, c', rfl⟩ := hv.shape
  have hv2 := fun o => hv.below (one_new o)
  rw [marksB_len] at *
  go_enter Try.func16, Try.ntmps16
  go_wp2_with (go_at_call 52; refine (heldByteS_any _ n k0 _ (hv2 _) hx hk0).mono ?_; rintro e w' ⟨rfl, rfl⟩)
  go_ret
  exact ⟨rfl, one_new _⟩
end U
end Go.Proofs.Ytcdodpcdennemaa
