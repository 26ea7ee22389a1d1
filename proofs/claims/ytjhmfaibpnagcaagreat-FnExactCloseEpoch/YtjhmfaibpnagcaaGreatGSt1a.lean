/- Slots compared. -/
import Derived.Test.YtjhmfaibpnagcaaGreatGStS
namespace Go.Proofs.YtjhmfaibpnagcaaGreat
open Go.RowKit
namespace U
def prB (p q : Int × Int) : Bool := (p.1 == q.1) && (p.2 == q.2)
theorem prB_iff (p q : Int × Int) : prB p q = true ↔ p = q := by
  obtain ⟨a, b⟩ := p
  obtain ⟨c, d⟩ := q
  unfold prB
  simp only [Bool.and_eq_true, beq_iff_eq, Prod.mk.injEq]
theorem slot_neq_any (p q : Int × Int) (w : World) : (binOp .neq 57 (.agg #[.int .i64 p.1, .int .i64 p.2]) (.agg #[.int .i64 q.1, .int .i64 q.2])).run Tryz.prog w = .ok (.bool (!prB p q)) w := by
  unfold prB
  simp [go_sem]
  by_cases h : p.1 = q.1 <;> by_cases h1 : p.2 = q.2 <;> simp [h, h1]
def PrC (w : World) (b off n : Nat) (l : Prl) : Prop := ∀ j, j < n → w.cell? ⟨b, off + j * 2, none⟩ = some (.int .i64 (pAt l j).1) ∧ w.cell? ⟨b, off + j * 2 + 1, none⟩ = some (.int .i64 (pAt l j).2)
set_option maxRecDepth 100000 in
set_option maxHeartbeats 4000000 in
theorem slEq_core (b off c b' off' c' n : Nat) (l m : Prl) (w : World) (HN : Hid (n = l.length ∧ n = m.length)) (hx : n ≤ 1048576) (hb : b < w.heap.size) (hb' : b' < w.heap.size) (hc : PrC w b off n l) (hc' : PrC w b' off' n m) :
    Calls Tryz.prog 81 #[.slice (some ⟨b, off, none⟩) n c, .slice (some ⟨b', off', none⟩) n c'] w fun e w' => e = .returned (.bool (eqP l m)) ∧ Below w.heap.size w w' := by
  have hnn := hne_all
  go_enter Tryz.func81, Tryz.ntmps81
  go_wp2
  go_loopw [13] (fun i wr => ∃ k : Nat, k ≤ n ∧ i = .int .i64 k ∧ Hid (Below w.heap.size w wr) ∧ Hid (∀ j, j < k → prB (pAt l j) (pAt m j) = true)) (fun i _ => n - (intOf i).toNat)
  case atStart => exact ⟨0, Nat.zero_le _, rfl, Below.refl _ _, fun j hj => by omega⟩
  case round =>
    obtain ⟨k, hk, rfl, hB, HA⟩ := hrel
    by_cases hkn : k < n
    · have hki : (k : Int) < (n : Int) := by omega
      obtain ⟨e0, e1⟩ := hc k hkn
      obtain ⟨e0', e1'⟩ := hc' k hkn
      have d0 := (hB.out.cell (p := ⟨b, off + k * 2, none⟩) hb).trans e0
      have d1 := (hB.out.cell (p := ⟨b, off + k * 2 + 1, none⟩) hb).trans e1
      have d0' := (hB.out.cell (p := ⟨b', off' + k * 2, none⟩) hb').trans e0'
      have d1' := (hB.out.cell (p := ⟨b', off' + k * 2 + 1, none⟩) hb').trans e1'
      have hE := slot_neq_any (pAt l k) (pAt m k)
      have HNO : Hid (prB (pAt l k) (pAt m k) = false → eqP l m = false) := (fun h => eqP_no (k := k) (fun e => by rw [(prB_iff _ _).2 e] at h; cases h) : prB (pAt l k) (pAt m k) = false → eqP l m = false)
      have HYE : Hid (prB (pAt l k) (pAt m k) = true → ∀ j, j < k + 1 → prB (pAt l j) (pAt m j) = true) := (fun h j hj => by
        by_cases e : j = k
        · subst e; exact h
        · exact HA.out j (by omega) : prB (pAt l k) (pAt m k) = true → ∀ j, j < k + 1 → prB (pAt l j) (pAt m j) = true)
      generalize prB (pAt l k) (pAt m k) = rb at *
      generalize (pAt l k).1 = x0 at *
      generalize (pAt l k).2 = x1 at *
      generalize (pAt m k).1 = y0 at *
      generalize (pAt m k).2 = y1 at *
      clear hc hc' e0 e1 e0' e1'
      cases rb
      · have HQ : Hid (eqP l m = false) := HNO.out rfl
        clear HNO HYE
        go_wp2
        go_quiet (fail)
        go_wp2
        go_ret
        exact ⟨ret_bool HQ.out.symm, below_drewN hB.out _⟩
      · have HQ : Hid (∀ j, j < k + 1 → prB (pAt l j) (pAt m j) = true) := HYE.out rfl
        clear HNO HYE
        go_wp2
        go_quiet (fail)
        go_wp2
        go_roundw
        case rel => exact ⟨k + 1, by omega, by go_num, below_drewN hB.out _, HQ⟩
        case measure => simp [intOf]; omega
    · have hkn : k = n := by omega
      subst hkn
      have HQ : Hid (eqP l m = true) := eqP_yes (by rw [← HN.out.1, ← HN.out.2]) (fun j hj => (prB_iff _ _).1 (HA.out j (by rw [HN.out.1]; exact hj)))
      clear hc hc'
      go_wp2
      go_ret
      exact ⟨ret_bool HQ.out.symm, hB.out⟩
set_option maxRecDepth 100000 in
set_option maxHeartbeats 1000000 in
theorem slEq_any (v u : Value) (l m : Prl) (w : World) (hv : Prs w v l) (hu : Prs w u m) (hx : l.length ≤ 1048576) (hy : m.length ≤ 1048576) :
    Calls Tryz.prog 81 #[v, u] w fun e w' => e = .returned (.bool (eqP l m)) ∧ Below w.heap.size w w' := by
  obtain ⟨a, c, rfl⟩ := hv.shape
  obtain ⟨a', c', rfl⟩ := hu.shape
  by_cases hlm : l.length = m.length
  · rw [← hlm] at hu ⊢
    by_cases h0 : 0 < l.length
    · obtain ⟨_, b, off, rfl, hb, hc⟩ := hv.at h0
      obtain ⟨_, b', off', rfl, hb', hc'⟩ := hu.at (by omega)
      exact slEq_core b off c b' off' c' l.length l m w ⟨rfl, hlm⟩ hx hb hb' hc (fun j hj => hc' j (by omega))
    · have e1 : l = [] := List.eq_nil_of_length_eq_zero (by omega)
      have e2 : m = [] := List.eq_nil_of_length_eq_zero (by omega)
      subst e1 e2
      have e3 : eqP [] [] = true := rfl
      rw [e3]
      simp only [List.length_nil] at *
      clear hv hu h0 hlm
      go_enter Tryz.func81, Tryz.ntmps81
      go_wp2
      refine wp_loop_rounds 1 ?_; rw [rounds_succ]
      go_wp2
      go_ret
      exact ⟨rfl, Below.refl _ _⟩
  · rw [eqP_len hlm]
    have hnb : (((l.length : Nat) : Int) != ((m.length : Nat) : Int)) = true := by simp; omega
    generalize l.length = n at *
    generalize m.length = k at *
    clear hv hu hlm
    go_enter Tryz.func81, Tryz.ntmps81
    go_wp2
    go_ret
    exact ⟨rfl, Below.refl _ _⟩
set_option maxRecDepth 100000 in
set_option maxHeartbeats 4000000 in
theorem l11SameSlots_core (b off c b' off' c' n : Nat) (l m : Prl) (w : World) (HN : Hid (n = l.length ∧ n = m.length)) (hx : n ≤ 1048576) (hb : b < w.heap.size) (hb' : b' < w.heap.size) (hc : PrC w b off n l) (hc' : PrC w b' off' n m) :
    Calls Tryz.prog 138 #[.slice (some ⟨b, off, none⟩) n c, .slice (some ⟨b', off', none⟩) n c'] w fun e w' => e = .returned (.bool (eqP l m)) ∧ Below w.heap.size w w' := by
  have hnn := hne_all
  go_enter Tryz.func138, Tryz.ntmps138
  go_wp2
  go_loopw [5] (fun i wr => ∃ k : Nat, k ≤ n ∧ i = .int .i64 k ∧ Hid (Below w.heap.size w wr) ∧ Hid (∀ j, j < k → prB (pAt l j) (pAt m j) = true)) (fun i _ => n - (intOf i).toNat)
  case atStart => exact ⟨0, Nat.zero_le _, rfl, Below.refl _ _, fun j hj => by omega⟩
  case round =>
    obtain ⟨k, hk, rfl, hB, HA⟩ := hrel
    by_cases hkn : k < n
    · have hki : (k : Int) < (n : Int) := by omega
      obtain ⟨e0, e1⟩ := hc k hkn
      obtain ⟨e0', e1'⟩ := hc' k hkn
      have d0 := (hB.out.cell (p := ⟨b, off + k * 2, none⟩) hb).trans e0
      have d1 := (hB.out.cell (p := ⟨b, off + k * 2 + 1, none⟩) hb).trans e1
      have d0' := (hB.out.cell (p := ⟨b', off' + k * 2, none⟩) hb').trans e0'
      have d1' := (hB.out.cell (p := ⟨b', off' + k * 2 + 1, none⟩) hb').trans e1'
      have hE := slot_neq_any (pAt l k) (pAt m k)
      have HNO : Hid (prB (pAt l k) (pAt m k) = false → eqP l m = false) := (fun h => eqP_no (k := k) (fun e => by rw [(prB_iff _ _).2 e] at h; cases h) : prB (pAt l k) (pAt m k) = false → eqP l m = false)
      have HYE : Hid (prB (pAt l k) (pAt m k) = true → ∀ j, j < k + 1 → prB (pAt l j) (pAt m j) = true) := (fun h j hj => by
        by_cases e : j = k
        · subst e; exact h
        · exact HA.out j (by omega) : prB (pAt l k) (pAt m k) = true → ∀ j, j < k + 1 → prB (pAt l j) (pAt m j) = true)
      generalize prB (pAt l k) (pAt m k) = rb at *
      generalize (pAt l k).1 = x0 at *
      generalize (pAt l k).2 = x1 at *
      generalize (pAt m k).1 = y0 at *
      generalize (pAt m k).2 = y1 at *
      clear hc hc' e0 e1 e0' e1'
      cases rb
      · have HQ : Hid (eqP l m = false) := HNO.out rfl
        clear HNO HYE
        go_wp2
        go_quiet (fail)
        go_wp2
        go_ret
        exact ⟨ret_bool HQ.out.symm, below_drewN hB.out _⟩
      · have HQ : Hid (∀ j, j < k + 1 → prB (pAt l j) (pAt m j) = true) := HYE.out rfl
        clear HNO HYE
        go_wp2
        go_quiet (fail)
        go_wp2
        go_roundw
        case rel => exact ⟨k + 1, by omega, by go_num, below_drewN hB.out _, HQ⟩
        case measure => simp [intOf]; omega
    · have hkn : k = n := by omega
      subst hkn
      have HQ : Hid (eqP l m = true) := eqP_yes (by rw [← HN.out.1, ← HN.out.2]) (fun j hj => (prB_iff _ _).1 (HA.out j (by rw [HN.out.1]; exact hj)))
      clear hc hc'
      go_wp2
      go_ret
      exact ⟨ret_bool HQ.out.symm, hB.out⟩
set_option maxRecDepth 100000 in
set_option maxHeartbeats 1000000 in
theorem l11SameSlots_any (v u : Value) (l m : Prl) (w : World) (hv : Prs w v l) (hu : Prs w u m) (hx : l.length ≤ 1048576) (hy : m.length ≤ 1048576) :
    Calls Tryz.prog 138 #[v, u] w fun e w' => e = .returned (.bool (eqP l m)) ∧ Below w.heap.size w w' := by
  obtain ⟨a, c, rfl⟩ := hv.shape
  obtain ⟨a', c', rfl⟩ := hu.shape
  by_cases hlm : l.length = m.length
  · rw [← hlm] at hu ⊢
    by_cases h0 : 0 < l.length
    · obtain ⟨_, b, off, rfl, hb, hc⟩ := hv.at h0
      obtain ⟨_, b', off', rfl, hb', hc'⟩ := hu.at (by omega)
      exact l11SameSlots_core b off c b' off' c' l.length l m w ⟨rfl, hlm⟩ hx hb hb' hc (fun j hj => hc' j (by omega))
    · have e1 : l = [] := List.eq_nil_of_length_eq_zero (by omega)
      have e2 : m = [] := List.eq_nil_of_length_eq_zero (by omega)
      subst e1 e2
      have e3 : eqP [] [] = true := rfl
      rw [e3]
      simp only [List.length_nil] at *
      clear hv hu h0 hlm
      go_enter Tryz.func138, Tryz.ntmps138
      go_wp2
      refine wp_loop_rounds 1 ?_; rw [rounds_succ]
      go_wp2
      go_ret
      exact ⟨rfl, Below.refl _ _⟩
  · rw [eqP_len hlm]
    have hnb : (((l.length : Nat) : Int) != ((m.length : Nat) : Int)) = true := by simp; omega
    generalize l.length = n at *
    generalize m.length = k at *
    clear hv hu hlm
    go_enter Tryz.func138, Tryz.ntmps138
    go_wp2
    go_ret
    exact ⟨rfl, Below.refl _ _⟩
end U
end Go.Proofs.YtjhmfaibpnagcaaGreat
