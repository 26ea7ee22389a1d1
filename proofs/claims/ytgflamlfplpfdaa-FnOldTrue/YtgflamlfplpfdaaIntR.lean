/- Answers of a code and a list: compared, marked and looked at anew. -/
import Derived.Test.YtgflamlfplpfdaaInts
namespace Go.Proofs.Ytgflamlfplpfdaa
open Go.RowKit
namespace U
set_option maxRecDepth 100000 in
set_option maxHeartbeats 1000000 in
theorem heldInt64S_any (v : Value) (n k0 : Nat) (w : World) (hv : Ints .i64 w v (marks k0 n)) (hx : n ≤ 1099511627776) (hk0 : k0 ≤ 1099511627776) :
    Calls Try.prog 94 #[v, .int .i64 k0] w fun e w' => e = .returned (.int .i64 ((k0 + n : Nat) : Int)) ∧ w' = w := by
  obtain ⟨a, c, rfl⟩ := hv.shape
  by_cases h0 : n = 0
  · subst h0
    simp only [marks_len]
    clear hv
    go_enter Try.func94, Try.ntmps94
    go_wp2
    refine wp_loop_rounds 1 ?_; rw [rounds_succ]
    go_wp2
    go_ret
    exact ⟨rfl, rfl⟩
  · obtain ⟨_, b, off, rfl, hb, hc⟩ := hv.at (by rw [marks_len]; omega)
    have hcm : ∀ j, j < n → w.cell? ⟨b, off + j, none⟩ = some (.int .i64 ((k0 + j : Nat) : Int)) := fun j hj => by rw [hc j (by rw [marks_len]; exact hj), marks_at _ _ _ hj]
    rw [marks_len]
    clear hv hc h0
    go_enter Try.func94, Try.ntmps94
    go_wp2
    go_loop [1, 5] (fun k i => ∃ j : Nat, j ≤ n ∧ i = .int .i64 j ∧ k = .int .i64 ((k0 + j : Nat) : Int)) (fun _ i => n - (intOf i).toNat)
    case atStart => exact ⟨0, Nat.zero_le _, rfl, by simp⟩
    case round =>
      obtain ⟨j, hj, rfl, rfl⟩ := hrel
      by_cases hjn : j < n
      · have hji : (j : Int) < (n : Int) := by omega
        have hcj := hcm j hjn
        clear hcm
        go_wp2
        go_round
        case rel => exact ⟨j + 1, by omega, by go_num, by go_num⟩
        case measure => simp [intOf]; omega
      · go_wp2
        go_ret
        have hjn : j = n := by omega
        subst hjn
        exact ⟨rfl, rfl⟩

theorem two_new {w : World} (o o' : Obj) : Below w.heap.size w ((w.alloc o).alloc o') := ((Below.refl _ _).alloc (Nat.le_refl _) _).alloc (by simp) _
theorem one_new {w : World} (o : Obj) : Below w.heap.size w (w.alloc o) := (Below.refl _ _).alloc (Nat.le_refl _) _
set_option maxRecDepth 100000 in
set_option maxHeartbeats 1000000 in
/-- Two answers of one code and one list are found the same. -/
theorem eqIntsResult_same (c : Int) (v u : Value) (xs : List Int) (w : World) (hv : Ints .i64 w v xs) (hu : Ints .i64 w u xs) (hx : xs.length ≤ 1099511627776) :
    Calls Try.prog 48 #[.agg #[.int .i64 c, v], .agg #[.int .i64 c, u]] w fun e w' => e = .returned (.bool true) ∧ Below w.heap.size w w' := by
  obtain ⟨a, c', rfl⟩ := hv.shape
  obtain ⟨a', d', rfl⟩ := hu.shape
  have hv2 := fun o o' => hv.below (two_new o o')
  have hu2 := fun o o' => hu.below (two_new o o')
  have h2 : decide (xs = xs) = true := by simp
  go_enter Try.func48, Try.ntmps48
  go_wp2_with (go_at_call 92; refine (eqInt64S_any _ _ xs xs _ (hv2 _ _) (hu2 _ _) hx hx).mono ?_; rintro e w' ⟨rfl, n, rfl⟩)
  go_ret
  exact ⟨rfl, below_drewN (two_new _ _) _⟩
set_option maxRecDepth 100000 in
set_option maxHeartbeats 1000000 in
theorem markIntsResult_any (B : Nat) (c : Int) (v : Value) (xs : List Int) (k0 : Nat) (w : World) (hown : w.ownsRow B 2 1 v xs.length (xs.map (Value.int .i64))) (hx : xs.length ≤ 1099511627776) (hk0 : k0 ≤ 1099511627776) :
    Calls Try.prog 50 #[.agg #[.int .i64 c, v], .int .i64 k0] w fun e w' => e = .returned (.int .i64 ((k0 + xs.length : Nat) : Int)) ∧ w.grownBy w' v.ownBlock ∧ w'.ownsRow B 2 1 v xs.length ((marks k0 xs.length).map (Value.int .i64)) := by
  obtain ⟨a, c', rfl⟩ := own_shape hown
  go_enter Try.func50, Try.ntmps50
  go_wp2_with (go_at_call 93; refine (markInt64S_any B _ xs k0 _ (hown.alloc _) hx hk0).mono ?_; rintro e w' ⟨rfl, hg, ho⟩)
  go_ret
  exact ⟨rfl, grown_trans (World.grownBy_alloc _ _ _) hg, ho⟩
set_option maxRecDepth 100000 in
set_option maxHeartbeats 1000000 in
theorem heldIntsResult_any (c : Int) (v : Value) (n k0 : Nat) (w : World) (hv : Ints .i64 w v (marks k0 n)) (hx : n ≤ 1099511627776) (hk0 : k0 ≤ 1099511627776) :
    Calls Try.prog 51 #[.agg #[.int .i64 c, v], .int .i64 k0] w fun e w' => e = .returned (.int .i64 ((k0 + n : Nat) : Int)) ∧ Below w.heap.size w w' := by
  obtain ⟨a, c', rfl⟩ := hv.shape
  have hv2 := fun o => hv.below (one_new o)
  rw [marks_len] at *
  go_enter Try.func51, Try.ntmps51
  go_wp2_with (go_at_call 94; refine (heldInt64S_any _ n k0 _ (hv2 _) hx hk0).mono ?_; rintro e w' ⟨rfl, rfl⟩)
  go_ret
  exact ⟨rfl, one_new _⟩
theorem IntsAns.use {w w' : World} {code : Int} {xs : List Int} {e : Ending} (h : IntsAns w code xs e w') : ∃ a c, e = .returned (.agg #[.int .i64 code, .slice a xs.length c]) ∧ Below w.heap.size w w' ∧ w'.ownsRow w.heap.size 2 1 (.slice a xs.length c) xs.length (xs.map (Value.int .i64)) := by
  obtain ⟨hb, v, rfl, ho⟩ := h
  obtain ⟨a, c, rfl⟩ := own_shape ho
  exact ⟨a, c, rfl, hb, ho⟩
theorem rP_len (s : ByteArray) : (rP s).2.length ≤ 200 := by
  by_cases h : 200 < s.size
  · rw [rP_big h]; simp
  · rcases hr : runes s with _ | xs
    · rw [rP_none h hr]; simp
    · rw [rP_some h hr]
      have := runes_length hr
      simp; omega
end U
end Go.Proofs.Ytgflamlfplpfdaa
