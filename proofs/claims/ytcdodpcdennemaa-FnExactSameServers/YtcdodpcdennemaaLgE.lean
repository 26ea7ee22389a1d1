/- Rows of bytes as the laws look at them: compared. -/
import Derived.Test.YtcdodpcdennemaaLgM
import Derived.Test.YtcdodpcdennemaaByteS
import Derived.Test.YtcdodpcdennemaaDrE
namespace Go.Proofs.Ytcdodpcdennemaa
open Go.RowKit
namespace U
theorem eqByteS_yes (v u : Value) (xs : List Int) (w : World) (hv : Ints .u8 w v xs) (hu : Ints .u8 w u xs) (hx : xs.length ≤ 1048576) :
    Calls Try.prog 21 #[v, u] w fun e w' => e = .returned (.bool true) ∧ Below w.heap.size w w' := by
  refine (eqByteS_any v u xs xs w hv hu (by omega) (by omega)).mono ?_
  rintro e w' ⟨rfl, n, rfl⟩
  exact ⟨by rw [decide_eq_true rfl], below_drewN (Below.refl _ _) n⟩
set_option maxRecDepth 100000 in
set_option maxHeartbeats 4000000 in
theorem eqByteSS_core (b off c b' off' c' n : Nat) (p : Lgl) (w : World) (hx : n ≤ 1048576) (hb : b < w.heap.size) (hb' : b' < w.heap.size) (hpd : ∀ j, j < n → (lAt p j).length ≤ 1048576) (hc : ∀ j, j < n → ∃ u, w.cell? ⟨b, off + j, none⟩ = some u ∧ Ints .u8 w u (lAt p j)) (hc' : ∀ j, j < n → ∃ u, w.cell? ⟨b', off' + j, none⟩ = some u ∧ Ints .u8 w u (lAt p j)) :
    Calls Try.prog 69 #[.slice (some ⟨b, off, none⟩) n c, .slice (some ⟨b', off', none⟩) n c'] w fun e w' => e = .returned (.bool true) ∧ Below w.heap.size w w' := by
  have hnn := hne_all
  go_enter Try.func69, Try.ntmps69
  go_wp2
  go_loopw [5] (fun i wr => ∃ k : Nat, k ≤ n ∧ i = .int .i64 k ∧ Hid (Below w.heap.size w wr)) (fun i _ => n - (intOf i).toNat)
  case atStart => exact ⟨0, Nat.zero_le _, rfl, Below.refl _ _⟩
  case round =>
    obtain ⟨k, hk, rfl, hB⟩ := hrel
    by_cases hkn : k < n
    · have hki : (k : Int) < (n : Int) := by omega
      obtain ⟨u, hu, hr⟩ := hc k hkn
      obtain ⟨u', hu', hr'⟩ := hc' k hkn
      have d0 := (hB.out.cell (p := ⟨b, off + k, none⟩) hb).trans hu
      have d0' := (hB.out.cell (p := ⟨b', off' + k, none⟩) hb').trans hu'
      have hE := fun w' (h : Below wr.heap.size wr w') => eqByteS_yes u u' (lAt p k) w' (hr.below (below_after_of hB.out h)) (hr'.below (below_after_of hB.out h)) (hpd k hkn)
      obtain ⟨a1, c1, rfl⟩ := hr.shape
      obtain ⟨a2, c2, rfl⟩ := hr'.shape
      generalize (lAt p k).length = m at *
      have q0 := After.cell d0
      have p0 := After.cell d0'
      have hne := After.ne wr
      clear hc hc' d0 d0' hu hu' hr hr' hpd
      go_wp2_with fail
      refine wp_region_after (by kernel_rfl) (by kernel_rfl) ?_
      repeat (first | go_big_quiet_skip | (go_big_quiet_want; go_big_quiet_op; first | go_big_quiet_on | go_big_quiet_call (first | (go_at_call 21; refine (hE _ (After.b _)).mono ?_; rintro e wq ⟨rfl, hbq⟩; exact ⟨rfl, after_mk (below_after_of (After.b _) hbq)⟩))))
      refine wpQuiet_nil ?_
      rintro _ ⟨n6, rfl⟩
      have HB6 : Hid (Below w.heap.size w n6.w) := below_after_of hB.out n6.b
      generalize n6.w = w6 at *
      clear hne q0 p0 n6 hE
      go_wp2
      go_roundw
      case rel => exact ⟨k + 1, by omega, by go_num, HB6⟩
      case measure => simp [intOf]; omega
    · have hkn : k = n := by omega
      subst hkn
      clear hc hc'
      go_wp2
      go_ret
      exact ⟨rfl, hB.out⟩
set_option maxRecDepth 100000 in
set_option maxHeartbeats 1000000 in
theorem eqByteSS_same (v u : Value) (p : Lgl) (w : World) (hv : Lgs w v p) (hu : Lgs w u p) (hx : p.length ≤ 1048576) (hpd : ∀ j, j < p.length → (lAt p j).length ≤ 1048576) :
    Calls Try.prog 69 #[v, u] w fun e w' => e = .returned (.bool true) ∧ Below w.heap.size w w' := by
  obtain ⟨a, c, rfl⟩ := hv.shape
  obtain ⟨a', c', rfl⟩ := hu.shape
  by_cases h0 : 0 < p.length
  · obtain ⟨-, b, off, rfl, hb, hc⟩ := hv.at h0
    obtain ⟨-, b', off', rfl, hb', hc'⟩ := hu.at h0
    exact eqByteSS_core b off c b' off' c' p.length p w hx hb hb' hpd hc hc'
  · have e1 : p = [] := List.eq_nil_of_length_eq_zero (by omega)
    subst e1
    simp only [List.length_nil] at *
    clear hv hu h0
    go_enter Try.func69, Try.ntmps69
    go_wp2
    refine wp_loop_rounds 1 ?_; rw [rounds_succ]
    go_wp2
    go_ret
    exact ⟨rfl, Below.refl _ _⟩
end U
end Go.Proofs.Ytcdodpcdennemaa
