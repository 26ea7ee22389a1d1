/- Joined: what the texts behind it need. -/
import Derived.Test.YtcdodpcdennemaaLgM
import Derived.Test.YtcdodpcdennemaaStr
import Derived.Test.YtcdodpcdennemaaDrS
import Derived.Test.YtcdodpcdennemaaStS
import Derived.Test.YtcdodpcdennemaaStM0
import Derived.Test.YtcdodpcdennemaaHdS
import Derived.Test.YtcdodpcdennemaaGYFnExactSameServers
import Derived.Test.YtcdodpcdennemaaQuiet
import Derived.Deep.RegionHeld3
import Derived.Test.YtcdodpcdennemaaRows
import Derived.WalkKit
import Derived.ProofKit
import Derived.OpenShut
import Derived.ShutString
import Derived.WalkSmall
import Derived.Test.YtcdodpcdennemaaDrL
import Derived.Deep.SlicePairs
import Derived.Lib.SmallJoins
import Derived.Test.YtcdodpcdennemaaHdM
import Derived.Test.YtcdodpcdennemaaSl1
import Derived.Test.YtcdodpcdennemaaInts
/- Rows of bytes held against one another, by the program. -/
namespace Go.Proofs.Ytcdodpcdennemaa
open Go.RowKit
namespace U
/-- The rows of bytes compared. -/
def eqG (l m : Lgl) : Bool := (l.length == m.length) && (List.range l.length).all fun j => decide (lAt l j = lAt m j)
theorem eqG_len {l m : Lgl} (h : ¬ l.length = m.length) : eqG l m = false := by unfold eqG; rw [beq_eq_false_iff_ne.2 h]; rfl
theorem eqG_no {l m : Lgl} {k : Nat} (hk : k < l.length) (h : decide (lAt l k = lAt m k) = false) : eqG l m = false := by
  unfold eqG
  rw [Bool.and_eq_false_iff]
  right
  rw [List.all_eq_false]
  exact ⟨k, List.mem_range.2 hk, by rw [h]; decide⟩
theorem eqG_yes {l m : Lgl} (h : l.length = m.length) (ha : ∀ j, j < l.length → decide (lAt l j = lAt m j) = true) : eqG l m = true := by
  unfold eqG
  rw [h, beq_self_eq_true, Bool.true_and, List.all_eq_true]
  intro j hj
  exact ha j (by rw [h]; exact List.mem_range.1 hj)
set_option maxRecDepth 100000 in
set_option maxHeartbeats 4000000 in
theorem lgEq_core (b off c b' off' c' n : Nat) (l m : Lgl) (w : World) (HN : Hid (n = l.length ∧ n = m.length)) (hx : n ≤ 1048576) (hb : b < w.heap.size) (hb' : b' < w.heap.size) (hc : ∀ j, j < n → ∃ u, w.cell? ⟨b, off + j, none⟩ = some u ∧ Ints .u8 w u (lAt l j)) (hc' : ∀ j, j < n → ∃ u, w.cell? ⟨b', off' + j, none⟩ = some u ∧ Ints .u8 w u (lAt m j)) (hl : ∀ j, j < n → Bts (lAt l j)) (hm : ∀ j, j < n → Bts (lAt m j)) :
    Calls Try.prog 67 #[.slice (some ⟨b, off, none⟩) n c, .slice (some ⟨b', off', none⟩) n c', .func (.func 55) #[] #[]] w fun e w' => e = .returned (.bool (eqG l m)) ∧ Below w.heap.size w w' := by
  go_enter Try.func67, Try.ntmps67
  go_wp2
  go_loopw [17] (fun i wr => ∃ k : Nat, k ≤ n ∧ i = .int .i64 k ∧ Hid (Below w.heap.size w wr) ∧ Hid (∀ j, j < k → decide (lAt l j = lAt m j) = true)) (fun i _ => n - (intOf i).toNat)
  case atStart => exact ⟨0, Nat.zero_le _, rfl, Below.refl _ _, fun j hj => by omega⟩
  case round =>
    obtain ⟨k, hk, rfl, hB, HA⟩ := hrel
    by_cases hkn : k < n
    · have hki : (k : Int) < (n : Int) := by omega
      obtain ⟨u, hu, hr⟩ := hc k hkn
      obtain ⟨u', hu', hr'⟩ := hc' k hkn
      have d0 := (hB.out.cell (p := ⟨b, off + k, none⟩) hb).trans hu
      have d0' := (hB.out.cell (p := ⟨b', off' + k, none⟩) hb').trans hu'
      have hbr : b < wr.heap.size := Nat.lt_of_lt_of_le hb hB.out.size
      have hbr' : b' < wr.heap.size := Nat.lt_of_lt_of_le hb' hB.out.size
      have hE := bytesEqual_any u u' (lAt l k) (lAt m k) wr (hr.below hB.out) (hr'.below hB.out) (hl k hkn) (hm k hkn)
      have HNO : Hid (decide (lAt l k = lAt m k) = false → eqG l m = false) := eqG_no (by have := HN.out; omega)
      have HYE : Hid (decide (lAt l k = lAt m k) = true → ∀ j, j < k + 1 → decide (lAt l j = lAt m j) = true) := (fun h j hj => by
        by_cases e : j = k
        · subst e; exact h
        · exact HA.out j (by omega) : decide (lAt l k = lAt m k) = true → ∀ j, j < k + 1 → decide (lAt l j = lAt m j) = true)
      obtain ⟨a1, c1, rfl⟩ := hr.shape
      obtain ⟨a2, c2, rfl⟩ := hr'.shape
      generalize decide (lAt l k = lAt m k) = rb at *
      generalize (lAt l k).length = q1 at *
      generalize (lAt m k).length = q2 at *
      clear hc hc' hl hm hr hr' hu hu'
      cases rb
      · have HQ : Hid (eqG l m = false) := HNO.out rfl
        clear HNO HYE
        go_wp2_with fail
        refine hE.mono ?_
        rintro e w1 ⟨rfl, hw1⟩; subst hw1
        have HB1 := hB
        clear hE
        go_wp2
        go_ret
        exact ⟨ret_bool HQ.out.symm, HB1.out⟩
      · have HQ : Hid (∀ j, j < k + 1 → decide (lAt l j = lAt m j) = true) := HYE.out rfl
        clear HNO HYE
        go_wp2_with fail
        refine hE.mono ?_
        rintro e w1 ⟨rfl, hw1⟩; subst hw1
        have HB1 := hB
        clear hE
        go_wp2
        go_roundw
        case rel => exact ⟨k + 1, by omega, by go_num, HB1, HQ⟩
        case measure => simp [intOf]; omega
    · have hkn : k = n := by omega
      subst hkn
      have HQ : Hid (eqG l m = true) := eqG_yes (by rw [← HN.out.1, ← HN.out.2]) (fun j hj => HA.out j (by rw [HN.out.1]; exact hj))
      clear hc hc'
      go_wp2
      go_ret
      exact ⟨ret_bool HQ.out.symm, hB.out⟩
set_option maxRecDepth 100000 in
set_option maxHeartbeats 1000000 in
theorem lgEq_any (v u : Value) (l m : Lgl) (w : World) (hv : Lgs w v l) (hu : Lgs w u m) (hx : l.length ≤ 1048576) (hy : m.length ≤ 1048576) (hl : ∀ j, j < l.length → Bts (lAt l j)) (hm : ∀ j, j < m.length → Bts (lAt m j)) :
    Calls Try.prog 67 #[v, u, .func (.func 55) #[] #[]] w fun e w' => e = .returned (.bool (eqG l m)) ∧ Below w.heap.size w w' := by
  obtain ⟨a, c, rfl⟩ := hv.shape
  obtain ⟨a', c', rfl⟩ := hu.shape
  by_cases hlm : l.length = m.length
  · rw [← hlm] at hu ⊢
    by_cases h0 : 0 < l.length
    · obtain ⟨-, b, off, rfl, hb, hc⟩ := hv.at h0
      obtain ⟨-, b', off', rfl, hb', hc'⟩ := hu.at (by omega)
      exact lgEq_core b off c b' off' c' l.length l m w ⟨rfl, hlm⟩ hx hb hb' hc (fun j hj => hc' j (by omega)) hl (fun j hj => hm j (by omega))
    · have e1 : l = [] := List.eq_nil_of_length_eq_zero (by omega)
      have e2 : m = [] := List.eq_nil_of_length_eq_zero (by omega)
      subst e1 e2
      have e3 : eqG [] [] = true := rfl
      rw [e3]
      simp only [List.length_nil] at *
      clear hv hu h0 hlm hl hm
      go_enter Try.func67, Try.ntmps67
      go_wp2
      refine wp_loop_rounds 1 ?_; rw [rounds_succ]
      go_wp2
      go_ret
      exact ⟨rfl, Below.refl _ _⟩
  · rw [eqG_len hlm]
    have hnb : (((l.length : Nat) : Int) != ((m.length : Nat) : Int)) = true := by simp; omega
    generalize l.length = n at *
    generalize m.length = k at *
    clear hv hu hlm hl hm
    go_enter Try.func67, Try.ntmps67
    go_wp2
    go_ret
    exact ⟨rfl, Below.refl _ _⟩
end U
end Go.Proofs.Ytcdodpcdennemaa

/- Slots compared. -/
namespace Go.Proofs.Ytcdodpcdennemaa
open Go.RowKit
namespace U
def prB (p q : Int × Int) : Bool := (p.1 == q.1) && (p.2 == q.2)
theorem prB_iff (p q : Int × Int) : prB p q = true ↔ p = q := by
  obtain ⟨a, b⟩ := p
  obtain ⟨c, d⟩ := q
  unfold prB
  simp only [Bool.and_eq_true, beq_iff_eq, Prod.mk.injEq]
theorem slot_neq_any (p q : Int × Int) (w : World) : (binOp .neq 88 (.agg #[.int .i64 p.1, .int .i64 p.2]) (.agg #[.int .i64 q.1, .int .i64 q.2])).run Try.prog w = .ok (.bool (!prB p q)) w := by
  unfold prB
  simp [go_sem]
  by_cases h : p.1 = q.1 <;> by_cases h1 : p.2 = q.2 <;> simp [h, h1]
def PrC (w : World) (b off n : Nat) (l : Prl) : Prop := ∀ j, j < n → w.cell? ⟨b, off + j * 2, none⟩ = some (.int .i64 (pAt l j).1) ∧ w.cell? ⟨b, off + j * 2 + 1, none⟩ = some (.int .i64 (pAt l j).2)
set_option maxRecDepth 100000 in
set_option maxHeartbeats 4000000 in
theorem slEq_core (b off c b' off' c' n : Nat) (l m : Prl) (w : World) (HN : Hid (n = l.length ∧ n = m.length)) (hx : n ≤ 1048576) (hb : b < w.heap.size) (hb' : b' < w.heap.size) (hc : PrC w b off n l) (hc' : PrC w b' off' n m) :
    Calls Try.prog 111 #[.slice (some ⟨b, off, none⟩) n c, .slice (some ⟨b', off', none⟩) n c'] w fun e w' => e = .returned (.bool (eqP l m)) ∧ Below w.heap.size w w' := by
  have hnn := hne_all
  go_enter Try.func111, Try.ntmps111
  go_wp2
  go_loopw [13] (fun i wr => ∃ k : Nat, k ≤ n ∧ i = .int .i64 k ∧ Hid (Below w.heap.size w wr) ∧ Hid (∀ j, j < k → prB (pAt l j) (pAt m j) = true)) (fun i _ => n - (intOf i).toNat)
  case atStart => exact ⟨0, Nat.zero_le _, rfl, Below.refl _ _, fun j hj => by omega⟩
  case round =>
    obtain ⟨k, hk, rfl, hB, HA⟩ := hrel
    by_cases hkn : k < n
    · have hki : (k : Int) < (n : Int) := by omega
      obtain ⟨e0, e1⟩ := hc k hkn
      obtain ⟨e0', e1'⟩ := hc' k hkn
      have d0 := (hB.out.cell (p := ⟨b, off + k * 2, none⟩) hb).trans e0
      have d1 := (hB.out.cell (p := ⟨b, off + k * 2 + 1, none⟩) hb).trans e1
      have d0' := (hB.out.cell (p := ⟨b', off' + k * 2, none⟩) hb').trans e0'
      have d1' := (hB.out.cell (p := ⟨b', off' + k * 2 + 1, none⟩) hb').trans e1'
      have hE := slot_neq_any (pAt l k) (pAt m k)
      have HNO : Hid (prB (pAt l k) (pAt m k) = false → eqP l m = false) := (fun h => eqP_no (k := k) (fun e => by rw [(prB_iff _ _).2 e] at h; cases h) : prB (pAt l k) (pAt m k) = false → eqP l m = false)
      have HYE : Hid (prB (pAt l k) (pAt m k) = true → ∀ j, j < k + 1 → prB (pAt l j) (pAt m j) = true) := (fun h j hj => by
        by_cases e : j = k
        · subst e; exact h
        · exact HA.out j (by omega) : prB (pAt l k) (pAt m k) = true → ∀ j, j < k + 1 → prB (pAt l j) (pAt m j) = true)
      generalize prB (pAt l k) (pAt m k) = rb at *
      generalize (pAt l k).1 = x0 at *
      generalize (pAt l k).2 = x1 at *
      generalize (pAt m k).1 = y0 at *
      generalize (pAt m k).2 = y1 at *
      clear hc hc' e0 e1 e0' e1'
      cases rb
      · have HQ : Hid (eqP l m = false) := HNO.out rfl
        clear HNO HYE
        go_wp2
        go_quiet (fail)
        go_wp2
        go_ret
        exact ⟨ret_bool HQ.out.symm, below_drewN hB.out _⟩
      · have HQ : Hid (∀ j, j < k + 1 → prB (pAt l j) (pAt m j) = true) := HYE.out rfl
        clear HNO HYE
        go_wp2
        go_quiet (fail)
        go_wp2
        go_roundw
        case rel => exact ⟨k + 1, by omega, by go_num, below_drewN hB.out _, HQ⟩
        case measure => simp [intOf]; omega
    · have hkn : k = n := by omega
      subst hkn
      have HQ : Hid (eqP l m = true) := eqP_yes (by rw [← HN.out.1, ← HN.out.2]) (fun j hj => (prB_iff _ _).1 (HA.out j (by rw [HN.out.1]; exact hj)))
      clear hc hc'
      go_wp2
      go_ret
      exact ⟨ret_bool HQ.out.symm, hB.out⟩
set_option maxRecDepth 100000 in
set_option maxHeartbeats 1000000 in
theorem slEq_any (v u : Value) (l m : Prl) (w : World) (hv : Prs w v l) (hu : Prs w u m) (hx : l.length ≤ 1048576) (hy : m.length ≤ 1048576) :
    Calls Try.prog 111 #[v, u] w fun e w' => e = .returned (.bool (eqP l m)) ∧ Below w.heap.size w w' := by
  obtain ⟨a, c, rfl⟩ := hv.shape
  obtain ⟨a', c', rfl⟩ := hu.shape
  by_cases hlm : l.length = m.length
  · rw [← hlm] at hu ⊢
    by_cases h0 : 0 < l.length
    · obtain ⟨_, b, off, rfl, hb, hc⟩ := hv.at h0
      obtain ⟨_, b', off', rfl, hb', hc'⟩ := hu.at (by omega)
      exact slEq_core b off c b' off' c' l.length l m w ⟨rfl, hlm⟩ hx hb hb' hc (fun j hj => hc' j (by omega))
    · have e1 : l = [] := List.eq_nil_of_length_eq_zero (by omega)
      have e2 : m = [] := List.eq_nil_of_length_eq_zero (by omega)
      subst e1 e2
      have e3 : eqP [] [] = true := rfl
      rw [e3]
      simp only [List.length_nil] at *
      clear hv hu h0 hlm
      go_enter Try.func111, Try.ntmps111
      go_wp2
      refine wp_loop_rounds 1 ?_; rw [rounds_succ]
      go_wp2
      go_ret
      exact ⟨rfl, Below.refl _ _⟩
  · rw [eqP_len hlm]
    have hnb : (((l.length : Nat) : Int) != ((m.length : Nat) : Int)) = true := by simp; omega
    generalize l.length = n at *
    generalize m.length = k at *
    clear hv hu hlm
    go_enter Try.func111, Try.ntmps111
    go_wp2
    go_ret
    exact ⟨rfl, Below.refl _ _⟩
set_option maxRecDepth 100000 in
set_option maxHeartbeats 4000000 in
theorem l11SameSlots_core (b off c b' off' c' n : Nat) (l m : Prl) (w : World) (HN : Hid (n = l.length ∧ n = m.length)) (hx : n ≤ 1048576) (hb : b < w.heap.size) (hb' : b' < w.heap.size) (hc : PrC w b off n l) (hc' : PrC w b' off' n m) :
    Calls Try.prog 106 #[.slice (some ⟨b, off, none⟩) n c, .slice (some ⟨b', off', none⟩) n c'] w fun e w' => e = .returned (.bool (eqP l m)) ∧ Below w.heap.size w w' := by
  have hnn := hne_all
  go_enter Try.func106, Try.ntmps106
  go_wp2
  go_loopw [5] (fun i wr => ∃ k : Nat, k ≤ n ∧ i = .int .i64 k ∧ Hid (Below w.heap.size w wr) ∧ Hid (∀ j, j < k → prB (pAt l j) (pAt m j) = true)) (fun i _ => n - (intOf i).toNat)
  case atStart => exact ⟨0, Nat.zero_le _, rfl, Below.refl _ _, fun j hj => by omega⟩
  case round =>
    obtain ⟨k, hk, rfl, hB, HA⟩ := hrel
    by_cases hkn : k < n
    · have hki : (k : Int) < (n : Int) := by omega
      obtain ⟨e0, e1⟩ := hc k hkn
      obtain ⟨e0', e1'⟩ := hc' k hkn
      have d0 := (hB.out.cell (p := ⟨b, off + k * 2, none⟩) hb).trans e0
      have d1 := (hB.out.cell (p := ⟨b, off + k * 2 + 1, none⟩) hb).trans e1
      have d0' := (hB.out.cell (p := ⟨b', off' + k * 2, none⟩) hb').trans e0'
      have d1' := (hB.out.cell (p := ⟨b', off' + k * 2 + 1, none⟩) hb').trans e1'
      have hE := slot_neq_any (pAt l k) (pAt m k)
      have HNO : Hid (prB (pAt l k) (pAt m k) = false → eqP l m = false) := (fun h => eqP_no (k := k) (fun e => by rw [(prB_iff _ _).2 e] at h; cases h) : prB (pAt l k) (pAt m k) = false → eqP l m = false)
      have HYE : Hid (prB (pAt l k) (pAt m k) = true → ∀ j, j < k + 1 → prB (pAt l j) (pAt m j) = true) := (fun h j hj => by
        by_cases e : j = k
        · subst e; exact h
        · exact HA.out j (by omega) : prB (pAt l k) (pAt m k) = true → ∀ j, j < k + 1 → prB (pAt l j) (pAt m j) = true)
      generalize prB (pAt l k) (pAt m k) = rb at *
      generalize (pAt l k).1 = x0 at *
      generalize (pAt l k).2 = x1 at *
      generalize (pAt m k).1 = y0 at *
      generalize (pAt m k).2 = y1 at *
      clear hc hc' e0 e1 e0' e1'
      cases rb
      · have HQ : Hid (eqP l m = false) := HNO.out rfl
        clear HNO HYE
        go_wp2
        go_quiet (fail)
        go_wp2
        go_ret
        exact ⟨ret_bool HQ.out.symm, below_drewN hB.out _⟩
      · have HQ : Hid (∀ j, j < k + 1 → prB (pAt l j) (pAt m j) = true) := HYE.out rfl
        clear HNO HYE
        go_wp2
        go_quiet (fail)
        go_wp2
        go_roundw
        case rel => exact ⟨k + 1, by omega, by go_num, below_drewN hB.out _, HQ⟩
        case measure => simp [intOf]; omega
    · have hkn : k = n := by omega
      subst hkn
      have HQ : Hid (eqP l m = true) := eqP_yes (by rw [← HN.out.1, ← HN.out.2]) (fun j hj => (prB_iff _ _).1 (HA.out j (by rw [HN.out.1]; exact hj)))
      clear hc hc'
      go_wp2
      go_ret
      exact ⟨ret_bool HQ.out.symm, hB.out⟩
set_option maxRecDepth 100000 in
set_option maxHeartbeats 1000000 in
theorem l11SameSlots_any (v u : Value) (l m : Prl) (w : World) (hv : Prs w v l) (hu : Prs w u m) (hx : l.length ≤ 1048576) (hy : m.length ≤ 1048576) :
    Calls Try.prog 106 #[v, u] w fun e w' => e = .returned (.bool (eqP l m)) ∧ Below w.heap.size w w' := by
  obtain ⟨a, c, rfl⟩ := hv.shape
  obtain ⟨a', c', rfl⟩ := hu.shape
  by_cases hlm : l.length = m.length
  · rw [← hlm] at hu ⊢
    by_cases h0 : 0 < l.length
    · obtain ⟨_, b, off, rfl, hb, hc⟩ := hv.at h0
      obtain ⟨_, b', off', rfl, hb', hc'⟩ := hu.at (by omega)
      exact l11SameSlots_core b off c b' off' c' l.length l m w ⟨rfl, hlm⟩ hx hb hb' hc (fun j hj => hc' j (by omega))
    · have e1 : l = [] := List.eq_nil_of_length_eq_zero (by omega)
      have e2 : m = [] := List.eq_nil_of_length_eq_zero (by omega)
      subst e1 e2
      have e3 : eqP [] [] = true := rfl
      rw [e3]
      simp only [List.length_nil] at *
      clear hv hu h0 hlm
      go_enter Try.func106, Try.ntmps106
      go_wp2
      refine wp_loop_rounds 1 ?_; rw [rounds_succ]
      go_wp2
      go_ret
      exact ⟨rfl, Below.refl _ _⟩
  · rw [eqP_len hlm]
    have hnb : (((l.length : Nat) : Int) != ((m.length : Nat) : Int)) = true := by simp; omega
    generalize l.length = n at *
    generalize m.length = k at *
    clear hv hu hlm
    go_enter Try.func106, Try.ntmps106
    go_wp2
    go_ret
    exact ⟨rfl, Below.refl _ _⟩
end U
end Go.Proofs.Ytcdodpcdennemaa

/- Rows of heads that are the same: slices.Equal. -/
namespace Go.Proofs.Ytcdodpcdennemaa
open Go.RowKit
namespace U
theorem hd_neqS (a b : Hd) (w : World) : (binOp .neq 147 (.agg #[.int .i64 a.e, .int .i64 a.p, .int .i64 a.o, .int .i64 a.n, .int .i64 a.v]) (.agg #[.int .i64 b.e, .int .i64 b.p, .int .i64 b.o, .int .i64 b.n, .int .i64 b.v])).run Try.prog w = .ok (.bool (!hdQ a b)) w := by
  unfold hdQ
  simp [go_sem]
  by_cases h : a.e = b.e <;> by_cases h1 : a.p = b.p <;> by_cases h2 : a.o = b.o <;> by_cases h3 : a.n = b.n <;> by_cases h4 : a.v = b.v <;> simp [h, h1, h2, h3, h4]
set_option maxRecDepth 100000 in
set_option maxHeartbeats 4000000 in
theorem hdEq_core (b off c b' off' c' n : Nat) (l m : Hdl) (w : World) (HN : Hid (n = l.length ∧ n = m.length)) (hx : n ≤ 1048576) (hb : b < w.heap.size) (hb' : b' < w.heap.size) (hc : ∀ j, j < n → HdS w b (off + j * 5) (hAt l j)) (hc' : ∀ j, j < n → HdS w b' (off' + j * 5) (hAt m j)) :
    Calls Try.prog 83 #[.slice (some ⟨b, off, none⟩) n c, .slice (some ⟨b', off', none⟩) n c'] w fun e w' => e = .returned (.bool (eqH l m)) ∧ Below w.heap.size w w' := by
  have hnn := hne_all
  go_enter Try.func83, Try.ntmps83
  go_wp2
  go_loopw [13] (fun i wr => ∃ k : Nat, k ≤ n ∧ i = .int .i64 k ∧ Hid (Below w.heap.size w wr) ∧ Hid (∀ j, j < k → hdQ (hAt l j) (hAt m j) = true)) (fun i _ => n - (intOf i).toNat)
  case atStart => exact ⟨0, Nat.zero_le _, rfl, Below.refl _ _, fun j hj => by omega⟩
  case round =>
    obtain ⟨k, hk, rfl, hB, HA⟩ := hrel
    by_cases hkn : k < n
    · have hki : (k : Int) < (n : Int) := by omega
      obtain ⟨d0, d1, d2, d3, d4⟩ := (hc k hkn).below hB.out hb
      obtain ⟨d0', d1', d2', d3', d4'⟩ := (hc' k hkn).below hB.out hb'
      have hE := hd_neqS (hAt l k) (hAt m k)
      have HNO : Hid (hdQ (hAt l k) (hAt m k) = false → eqH l m = false) := eqH_no (by have := HN.out; omega)
      have HYE : Hid (hdQ (hAt l k) (hAt m k) = true → ∀ j, j < k + 1 → hdQ (hAt l j) (hAt m j) = true) := (fun h j hj => by
        by_cases e : j = k
        · subst e; exact h
        · exact HA.out j (by omega) : hdQ (hAt l k) (hAt m k) = true → ∀ j, j < k + 1 → hdQ (hAt l j) (hAt m j) = true)
      generalize hdQ (hAt l k) (hAt m k) = rb at *
      generalize (hAt l k).e = x0 at *
      generalize (hAt l k).p = x1 at *
      generalize (hAt l k).o = x2 at *
      generalize (hAt l k).n = x3 at *
      generalize (hAt l k).v = x4 at *
      generalize (hAt m k).e = y0 at *
      generalize (hAt m k).p = y1 at *
      generalize (hAt m k).o = y2 at *
      generalize (hAt m k).n = y3 at *
      generalize (hAt m k).v = y4 at *
      clear hc hc'
      cases rb
      · have HQ : Hid (eqH l m = false) := HNO.out rfl
        clear HNO HYE
        go_wp2
        go_quiet (fail)
        go_wp2
        go_ret
        exact ⟨ret_bool HQ.out.symm, below_drewN hB.out _⟩
      · have HQ : Hid (∀ j, j < k + 1 → hdQ (hAt l j) (hAt m j) = true) := HYE.out rfl
        clear HNO HYE
        go_wp2
        go_quiet (fail)
        go_wp2
        go_roundw
        case rel => exact ⟨k + 1, by omega, by go_num, below_drewN hB.out _, HQ⟩
        case measure => simp [intOf]; omega
    · have hkn : k = n := by omega
      subst hkn
      have HQ : Hid (eqH l m = true) := eqH_yes (by rw [← HN.out.1, ← HN.out.2]) (fun j hj => HA.out j (by rw [HN.out.1]; exact hj))
      clear hc hc'
      go_wp2
      go_ret
      exact ⟨ret_bool HQ.out.symm, hB.out⟩
set_option maxRecDepth 100000 in
set_option maxHeartbeats 1000000 in
theorem hdEq_any (v u : Value) (l m : Hdl) (w : World) (hv : Hds w v l) (hu : Hds w u m) (hx : l.length ≤ 1048576) (hy : m.length ≤ 1048576) :
    Calls Try.prog 83 #[v, u] w fun e w' => e = .returned (.bool (eqH l m)) ∧ Below w.heap.size w w' := by
  obtain ⟨a, c, rfl⟩ := hv.shape
  obtain ⟨a', c', rfl⟩ := hu.shape
  by_cases hlm : l.length = m.length
  · rw [← hlm] at hu ⊢
    by_cases h0 : 0 < l.length
    · obtain ⟨-, b, off, rfl, hb, hc⟩ := hv.at h0
      obtain ⟨-, b', off', rfl, hb', hc'⟩ := hu.at (by omega)
      exact hdEq_core b off c b' off' c' l.length l m w ⟨rfl, hlm⟩ hx hb hb' hc (fun j hj => hc' j (by omega))
    · have e1 : l = [] := List.eq_nil_of_length_eq_zero (by omega)
      have e2 : m = [] := List.eq_nil_of_length_eq_zero (by omega)
      subst e1 e2
      have e3 : eqH [] [] = true := rfl
      rw [e3]
      simp only [List.length_nil] at *
      clear hv hu h0 hlm
      go_enter Try.func83, Try.ntmps83
      go_wp2
      refine wp_loop_rounds 1 ?_; rw [rounds_succ]
      go_wp2
      go_ret
      exact ⟨rfl, Below.refl _ _⟩
  · rw [eqH_len hlm]
    have hnb : (((l.length : Nat) : Int) != ((m.length : Nat) : Int)) = true := by simp; omega
    generalize l.length = n at *
    generalize m.length = k at *
    clear hv hu hlm
    go_enter Try.func83, Try.ntmps83
    go_wp2
    go_ret
    exact ⟨rfl, Below.refl _ _⟩
end U
end Go.Proofs.Ytcdodpcdennemaa

/- States that are the same, by the program. -/
namespace Go.Proofs.Ytcdodpcdennemaa
open Go.RowKit
namespace U
set_option maxRecDepth 100000 in
set_option maxHeartbeats 4000000 in
theorem dsEq_core (b off c b' off' c' n : Nat) (l m : Pst) (w : World) (HN : Hid (n = l.length ∧ n = m.length)) (hx : n ≤ 1048576) (hb : b < w.heap.size) (hb' : b' < w.heap.size) (hc : ∀ j, j < n → ∃ u, w.cell? ⟨b, off + j, none⟩ = some u ∧ Rcs w u (dAt l j)) (hc' : ∀ j, j < n → ∃ u, w.cell? ⟨b', off' + j, none⟩ = some u ∧ Rcs w u (dAt m j)) (hl : ∀ j, j < n → (dAt l j).length ≤ 1048576) (hm : ∀ j, j < n → (dAt m j).length ≤ 1048576) :
    Calls Try.prog 112 #[.slice (some ⟨b, off, none⟩) n c, .slice (some ⟨b', off', none⟩) n c', .func (.func 110) #[] #[]] w fun e w' => e = .returned (.bool (eqD l m)) ∧ Below w.heap.size w w' := by
  go_enter Try.func112, Try.ntmps112
  go_wp2
  go_loopw [17] (fun i wr => ∃ k : Nat, k ≤ n ∧ i = .int .i64 k ∧ Hid (Below w.heap.size w wr) ∧ Hid (∀ j, j < k → sameL (dAt l j) (dAt m j) = true)) (fun i _ => n - (intOf i).toNat)
  case atStart => exact ⟨0, Nat.zero_le _, rfl, Below.refl _ _, fun j hj => by omega⟩
  case round =>
    obtain ⟨k, hk, rfl, hB, HA⟩ := hrel
    by_cases hkn : k < n
    · have hki : (k : Int) < (n : Int) := by omega
      obtain ⟨u, hu, hr⟩ := hc k hkn
      obtain ⟨u', hu', hr'⟩ := hc' k hkn
      have d0 := (hB.out.cell (p := ⟨b, off + k, none⟩) hb).trans hu
      have d0' := (hB.out.cell (p := ⟨b', off' + k, none⟩) hb').trans hu'
      have hbr : b < wr.heap.size := Nat.lt_of_lt_of_le hb hB.out.size
      have hbr' : b' < wr.heap.size := Nat.lt_of_lt_of_le hb' hB.out.size
      have hE := fun o o' => implSameDirectories_any u u' (dAt l k) (dAt m k) ((wr.alloc o).alloc o') ((hr.below hB.out).below (two_new o o')) ((hr'.below hB.out).below (two_new o o')) (hl k hkn) (hm k hkn)
      have HNO : Hid (sameL (dAt l k) (dAt m k) = false → eqD l m = false) := eqD_no (by have := HN.out; omega)
      have HYE : Hid (sameL (dAt l k) (dAt m k) = true → ∀ j, j < k + 1 → sameL (dAt l j) (dAt m j) = true) := (fun h j hj => by
        by_cases e : j = k
        · subst e; exact h
        · exact HA.out j (by omega) : sameL (dAt l k) (dAt m k) = true → ∀ j, j < k + 1 → sameL (dAt l j) (dAt m j) = true)
      obtain ⟨a1, c1, rfl⟩ := hr.shape
      obtain ⟨a2, c2, rfl⟩ := hr'.shape
      generalize sameL (dAt l k) (dAt m k) = rb at *
      generalize (dAt l k).length = q1 at *
      generalize (dAt m k).length = q2 at *
      have d1 : (wr.alloc (.cells #[.slice a1 q1 c1] 47)).cell? ⟨b', off' + k, none⟩ = some (.slice a2 q2 c2) := ((one_new _).cell (p := ⟨b', off' + k, none⟩) hbr').trans d0'
      clear hc hc' hl hm hr hr' hu hu'
      cases rb
      · have HQ : Hid (eqD l m = false) := HNO.out rfl
        clear HNO HYE
        go_wp2_with fail
        refine (hE _ _).mono ?_
        rintro e w1 ⟨rfl, hb1⟩
        have HB1 : Hid (Below w.heap.size w w1) := below_after_of hB.out (below_after_of (two_new _ _) hb1)
        clear hE hb1
        go_wp2
        go_ret
        exact ⟨ret_bool HQ.out.symm, HB1.out⟩
      · have HQ : Hid (∀ j, j < k + 1 → sameL (dAt l j) (dAt m j) = true) := HYE.out rfl
        clear HNO HYE
        go_wp2_with fail
        refine (hE _ _).mono ?_
        rintro e w1 ⟨rfl, hb1⟩
        have HB1 : Hid (Below w.heap.size w w1) := below_after_of hB.out (below_after_of (two_new _ _) hb1)
        clear hE hb1
        go_wp2
        go_roundw
        case rel => exact ⟨k + 1, by omega, by go_num, HB1, HQ⟩
        case measure => simp [intOf]; omega
    · have hkn : k = n := by omega
      subst hkn
      have HQ : Hid (eqD l m = true) := eqD_yes (by rw [← HN.out.1, ← HN.out.2]) (fun j hj => HA.out j (by rw [HN.out.1]; exact hj))
      clear hc hc'
      go_wp2
      go_ret
      exact ⟨ret_bool HQ.out.symm, hB.out⟩
set_option maxRecDepth 100000 in
set_option maxHeartbeats 1000000 in
theorem dsEq_any (v u : Value) (l m : Pst) (w : World) (hv : Dss w v l) (hu : Dss w u m) (hx : l.length ≤ 1048576) (hy : m.length ≤ 1048576) (hl : ∀ j, j < l.length → (dAt l j).length ≤ 1048576) (hm : ∀ j, j < m.length → (dAt m j).length ≤ 1048576) :
    Calls Try.prog 112 #[v, u, .func (.func 110) #[] #[]] w fun e w' => e = .returned (.bool (eqD l m)) ∧ Below w.heap.size w w' := by
  obtain ⟨a, c, rfl⟩ := hv.shape
  obtain ⟨a', c', rfl⟩ := hu.shape
  by_cases hlm : l.length = m.length
  · rw [← hlm] at hu ⊢
    by_cases h0 : 0 < l.length
    · obtain ⟨-, b, off, rfl, hb, hc⟩ := hv.at h0
      obtain ⟨-, b', off', rfl, hb', hc'⟩ := hu.at (by omega)
      exact dsEq_core b off c b' off' c' l.length l m w ⟨rfl, hlm⟩ hx hb hb' hc (fun j hj => hc' j (by omega)) hl (fun j hj => hm j (by omega))
    · have e1 : l = [] := List.eq_nil_of_length_eq_zero (by omega)
      have e2 : m = [] := List.eq_nil_of_length_eq_zero (by omega)
      subst e1 e2
      have e3 : eqD [] [] = true := rfl
      rw [e3]
      simp only [List.length_nil] at *
      clear hv hu h0 hlm hl hm
      go_enter Try.func112, Try.ntmps112
      go_wp2
      refine wp_loop_rounds 1 ?_; rw [rounds_succ]
      go_wp2
      go_ret
      exact ⟨rfl, Below.refl _ _⟩
  · rw [eqD_len hlm]
    have hnb : (((l.length : Nat) : Int) != ((m.length : Nat) : Int)) = true := by simp; omega
    generalize l.length = n at *
    generalize m.length = k at *
    clear hv hu hlm hl hm
    go_enter Try.func112, Try.ntmps112
    go_wp2
    go_ret
    exact ⟨rfl, Below.refl _ _⟩
/-- States compared. -/
def ssB (s t : St) : Bool := (s.ph == t.ph) && ((s.cu == t.cu) && (sameL s.d t.d && (eqP s.n t.n && (eqH s.h t.h && eqD s.p t.p))))
set_option maxRecDepth 100000 in
set_option maxHeartbeats 4000000 in
theorem implSame_0 (s t : St) (v u : Sv) (w : World) (hv : Sts w v s) (hu : Sts w u t) (hB : StB s) (hC : StB t) (h0 : (s.ph == t.ph) = false) :
    Calls Try.prog 66 #[stV s v, stV t u] w fun e w' => e = .returned (.bool false) ∧ Below w.heap.size w w' := by
  obtain ⟨W, hW⟩ : ∃ W, W = (w.alloc (stC s v 52)).alloc (stC t u 52) := ⟨_, rfl⟩
  have hBW : Below w.heap.size w W := by rw [hW]; exact two_new _ _
  have hC1 : StC W w.heap.size s v := by rw [hW]; exact (StC.new w s v _).below (one_new _) (by simp)
  have hC2 : StC W (w.heap.size + 1) t u := by
    have := StC.new (w.alloc (stC s v 52)) t u 52
    rw [World.size_alloc] at this
    rw [hW]
    exact this
  obtain ⟨a1, c1, e1⟩ := hv.d.shape
  obtain ⟨a2, c2, e2⟩ := hv.n.shape
  obtain ⟨a3, c3, e3⟩ := hv.h.shape
  obtain ⟨a4, c4, e4⟩ := hv.p.shape
  obtain ⟨b1, k1, f1⟩ := hu.d.shape
  obtain ⟨b2, k2, f2⟩ := hu.n.shape
  obtain ⟨b3, k3, f3⟩ := hu.h.shape
  obtain ⟨b4, k4, f4⟩ := hu.p.shape
  have HC : Hid (∀ w', Below W.heap.size W w' → StC w' w.heap.size s v ∧ StC w' (w.heap.size + 1) t u) := fun w' hb => ⟨hC1.below hb hC1.lt, hC2.below hb hC2.lt⟩
  obtain ⟨ph, cu, d, n, h, p⟩ := s
  obtain ⟨ph', cu', d', n', h', p'⟩ := t
  obtain ⟨vd, vn, vh, vp⟩ := v
  obtain ⟨ud, un, uh, up⟩ := u
  dsimp only at *
  subst e1 e2 e3 e4 f1 f2 f3 f4
  unfold stC at hW
  unfold stV
  dsimp only at *
  have HLN : Hid (∀ w', Below W.heap.size W w' → (w'.cell? ⟨w.heap.size, 3, none⟩ = some (.slice a2 n.length c2) ∧ w'.cell? ⟨w.heap.size, 4, none⟩ = some (.slice a3 h.length c3) ∧ w'.cell? ⟨w.heap.size, 5, none⟩ = some (.slice a4 p.length c4)) ∧ w'.cell? ⟨w.heap.size + 1, 3, none⟩ = some (.slice b2 n'.length k2) ∧ w'.cell? ⟨w.heap.size + 1, 4, none⟩ = some (.slice b3 h'.length k3) ∧ w'.cell? ⟨w.heap.size + 1, 5, none⟩ = some (.slice b4 p'.length k4)) := fun w' hb => by
    obtain ⟨x, y⟩ := HC.out w' hb
    exact ⟨⟨x.c3, x.c4, x.c5⟩, y.c3, y.c4, y.c5⟩
  have HW : Hid ((w.alloc (.cells #[.int .i64 ph, .int .i64 cu, .slice a1 d.length c1, .slice a2 n.length c2, .slice a3 h.length c3, .slice a4 p.length c4] 52)).alloc (.cells #[.int .i64 ph', .int .i64 cu', .slice b1 d'.length k1, .slice b2 n'.length k2, .slice b3 h'.length k3, .slice b4 p'.length k4] 52) = W) := hW.symm
  have HBW : Hid (Below w.heap.size w W) := hBW
  generalize d.length = dn at *
  generalize n.length = nn at *
  generalize h.length = hn at *
  generalize p.length = pn at *
  generalize d'.length = dn' at *
  generalize n'.length = nn' at *
  generalize h'.length = hn' at *
  generalize p'.length = pn' at *
  clear hv hu hB hC hC1 hC2 HC hW hBW
  go_enter Try.func66, Try.ntmps66
  go_wp2
  go_ret
  first
  | exact ⟨rfl, two_new _ _⟩
  | (rw [HW.out]; exact ⟨rfl, HBW.out⟩)
set_option maxRecDepth 100000 in
set_option maxHeartbeats 4000000 in
theorem implSame_1 (s t : St) (v u : Sv) (w : World) (hv : Sts w v s) (hu : Sts w u t) (hB : StB s) (hC : StB t) (h0 : (s.ph == t.ph) = true) (h1 : (s.cu == t.cu) = false) :
    Calls Try.prog 66 #[stV s v, stV t u] w fun e w' => e = .returned (.bool false) ∧ Below w.heap.size w w' := by
  obtain ⟨W, hW⟩ : ∃ W, W = (w.alloc (stC s v 52)).alloc (stC t u 52) := ⟨_, rfl⟩
  have hBW : Below w.heap.size w W := by rw [hW]; exact two_new _ _
  have hC1 : StC W w.heap.size s v := by rw [hW]; exact (StC.new w s v _).below (one_new _) (by simp)
  have hC2 : StC W (w.heap.size + 1) t u := by
    have := StC.new (w.alloc (stC s v 52)) t u 52
    rw [World.size_alloc] at this
    rw [hW]
    exact this
  obtain ⟨a1, c1, e1⟩ := hv.d.shape
  obtain ⟨a2, c2, e2⟩ := hv.n.shape
  obtain ⟨a3, c3, e3⟩ := hv.h.shape
  obtain ⟨a4, c4, e4⟩ := hv.p.shape
  obtain ⟨b1, k1, f1⟩ := hu.d.shape
  obtain ⟨b2, k2, f2⟩ := hu.n.shape
  obtain ⟨b3, k3, f3⟩ := hu.h.shape
  obtain ⟨b4, k4, f4⟩ := hu.p.shape
  have HC : Hid (∀ w', Below W.heap.size W w' → StC w' w.heap.size s v ∧ StC w' (w.heap.size + 1) t u) := fun w' hb => ⟨hC1.below hb hC1.lt, hC2.below hb hC2.lt⟩
  obtain ⟨ph, cu, d, n, h, p⟩ := s
  obtain ⟨ph', cu', d', n', h', p'⟩ := t
  obtain ⟨vd, vn, vh, vp⟩ := v
  obtain ⟨ud, un, uh, up⟩ := u
  dsimp only at *
  subst e1 e2 e3 e4 f1 f2 f3 f4
  unfold stC at hW
  unfold stV
  dsimp only at *
  have HLN : Hid (∀ w', Below W.heap.size W w' → (w'.cell? ⟨w.heap.size, 3, none⟩ = some (.slice a2 n.length c2) ∧ w'.cell? ⟨w.heap.size, 4, none⟩ = some (.slice a3 h.length c3) ∧ w'.cell? ⟨w.heap.size, 5, none⟩ = some (.slice a4 p.length c4)) ∧ w'.cell? ⟨w.heap.size + 1, 3, none⟩ = some (.slice b2 n'.length k2) ∧ w'.cell? ⟨w.heap.size + 1, 4, none⟩ = some (.slice b3 h'.length k3) ∧ w'.cell? ⟨w.heap.size + 1, 5, none⟩ = some (.slice b4 p'.length k4)) := fun w' hb => by
    obtain ⟨x, y⟩ := HC.out w' hb
    exact ⟨⟨x.c3, x.c4, x.c5⟩, y.c3, y.c4, y.c5⟩
  have HW : Hid ((w.alloc (.cells #[.int .i64 ph, .int .i64 cu, .slice a1 d.length c1, .slice a2 n.length c2, .slice a3 h.length c3, .slice a4 p.length c4] 52)).alloc (.cells #[.int .i64 ph', .int .i64 cu', .slice b1 d'.length k1, .slice b2 n'.length k2, .slice b3 h'.length k3, .slice b4 p'.length k4] 52) = W) := hW.symm
  have HBW : Hid (Below w.heap.size w W) := hBW
  generalize d.length = dn at *
  generalize n.length = nn at *
  generalize h.length = hn at *
  generalize p.length = pn at *
  generalize d'.length = dn' at *
  generalize n'.length = nn' at *
  generalize h'.length = hn' at *
  generalize p'.length = pn' at *
  clear hv hu hB hC hC1 hC2 HC hW hBW
  go_enter Try.func66, Try.ntmps66
  go_wp2
  go_ret
  first
  | exact ⟨rfl, two_new _ _⟩
  | (rw [HW.out]; exact ⟨rfl, HBW.out⟩)
set_option maxRecDepth 100000 in
set_option maxHeartbeats 4000000 in
theorem implSame_2 (s t : St) (v u : Sv) (w : World) (hv : Sts w v s) (hu : Sts w u t) (hB : StB s) (hC : StB t) (h0 : (s.ph == t.ph) = true) (h1 : (s.cu == t.cu) = true) (h2 : sameL s.d t.d = false) :
    Calls Try.prog 66 #[stV s v, stV t u] w fun e w' => e = .returned (.bool false) ∧ Below w.heap.size w w' := by
  obtain ⟨W, hW⟩ : ∃ W, W = (w.alloc (stC s v 52)).alloc (stC t u 52) := ⟨_, rfl⟩
  have hBW : Below w.heap.size w W := by rw [hW]; exact two_new _ _
  have hC1 : StC W w.heap.size s v := by rw [hW]; exact (StC.new w s v _).below (one_new _) (by simp)
  have hC2 : StC W (w.heap.size + 1) t u := by
    have := StC.new (w.alloc (stC s v 52)) t u 52
    rw [World.size_alloc] at this
    rw [hW]
    exact this
  have hD := implSameDirectories_any v.d u.d s.d t.d W (hv.d.below hBW) (hu.d.below hBW) hB.d hC.d
  rw [h2] at hD
  obtain ⟨a1, c1, e1⟩ := hv.d.shape
  obtain ⟨a2, c2, e2⟩ := hv.n.shape
  obtain ⟨a3, c3, e3⟩ := hv.h.shape
  obtain ⟨a4, c4, e4⟩ := hv.p.shape
  obtain ⟨b1, k1, f1⟩ := hu.d.shape
  obtain ⟨b2, k2, f2⟩ := hu.n.shape
  obtain ⟨b3, k3, f3⟩ := hu.h.shape
  obtain ⟨b4, k4, f4⟩ := hu.p.shape
  have HC : Hid (∀ w', Below W.heap.size W w' → StC w' w.heap.size s v ∧ StC w' (w.heap.size + 1) t u) := fun w' hb => ⟨hC1.below hb hC1.lt, hC2.below hb hC2.lt⟩
  obtain ⟨ph, cu, d, n, h, p⟩ := s
  obtain ⟨ph', cu', d', n', h', p'⟩ := t
  obtain ⟨vd, vn, vh, vp⟩ := v
  obtain ⟨ud, un, uh, up⟩ := u
  dsimp only at *
  subst e1 e2 e3 e4 f1 f2 f3 f4
  unfold stC at hW
  unfold stV
  dsimp only at *
  have HLN : Hid (∀ w', Below W.heap.size W w' → (w'.cell? ⟨w.heap.size, 3, none⟩ = some (.slice a2 n.length c2) ∧ w'.cell? ⟨w.heap.size, 4, none⟩ = some (.slice a3 h.length c3) ∧ w'.cell? ⟨w.heap.size, 5, none⟩ = some (.slice a4 p.length c4)) ∧ w'.cell? ⟨w.heap.size + 1, 3, none⟩ = some (.slice b2 n'.length k2) ∧ w'.cell? ⟨w.heap.size + 1, 4, none⟩ = some (.slice b3 h'.length k3) ∧ w'.cell? ⟨w.heap.size + 1, 5, none⟩ = some (.slice b4 p'.length k4)) := fun w' hb => by
    obtain ⟨x, y⟩ := HC.out w' hb
    exact ⟨⟨x.c3, x.c4, x.c5⟩, y.c3, y.c4, y.c5⟩
  have HW : Hid ((w.alloc (.cells #[.int .i64 ph, .int .i64 cu, .slice a1 d.length c1, .slice a2 n.length c2, .slice a3 h.length c3, .slice a4 p.length c4] 52)).alloc (.cells #[.int .i64 ph', .int .i64 cu', .slice b1 d'.length k1, .slice b2 n'.length k2, .slice b3 h'.length k3, .slice b4 p'.length k4] 52) = W) := hW.symm
  have HBW : Hid (Below w.heap.size w W) := hBW
  generalize d.length = dn at *
  generalize n.length = nn at *
  generalize h.length = hn at *
  generalize p.length = pn at *
  generalize d'.length = dn' at *
  generalize n'.length = nn' at *
  generalize h'.length = hn' at *
  generalize p'.length = pn' at *
  clear hv hu hB hC hC1 hC2 HC hW hBW h2
  go_enter Try.func66, Try.ntmps66
  go_wp2_with fail
  rw [HW.out]
  refine hD.mono ?_
  rintro e w1 ⟨rfl, hbr⟩
  clear hD
  go_wp2
  go_ret
  exact ⟨rfl, below_after_of HBW.out hbr⟩
set_option maxRecDepth 100000 in
set_option maxHeartbeats 4000000 in
theorem implSame_3 (s t : St) (v u : Sv) (w : World) (hv : Sts w v s) (hu : Sts w u t) (hB : StB s) (hC : StB t) (h0 : (s.ph == t.ph) = true) (h1 : (s.cu == t.cu) = true) (h2 : sameL s.d t.d = true) (h3 : eqP s.n t.n = false) :
    Calls Try.prog 66 #[stV s v, stV t u] w fun e w' => e = .returned (.bool false) ∧ Below w.heap.size w w' := by
  obtain ⟨W, hW⟩ : ∃ W, W = (w.alloc (stC s v 52)).alloc (stC t u 52) := ⟨_, rfl⟩
  have hBW : Below w.heap.size w W := by rw [hW]; exact two_new _ _
  have hC1 : StC W w.heap.size s v := by rw [hW]; exact (StC.new w s v _).below (one_new _) (by simp)
  have hC2 : StC W (w.heap.size + 1) t u := by
    have := StC.new (w.alloc (stC s v 52)) t u 52
    rw [World.size_alloc] at this
    rw [hW]
    exact this
  have hD := implSameDirectories_any v.d u.d s.d t.d W (hv.d.below hBW) (hu.d.below hBW) hB.d hC.d
  rw [h2] at hD
  have HN : Hid (∀ w', Below W.heap.size W w' → Calls Try.prog 111 #[v.n, u.n] w' fun e w'' => e = .returned (.bool (eqP s.n t.n)) ∧ Below w'.heap.size w' w'') := fun w' hb => slEq_any v.n u.n s.n t.n w' ((hv.n.below hBW).below hb) ((hu.n.below hBW).below hb) hB.n hC.n
  rw [h3] at HN
  obtain ⟨a1, c1, e1⟩ := hv.d.shape
  obtain ⟨a2, c2, e2⟩ := hv.n.shape
  obtain ⟨a3, c3, e3⟩ := hv.h.shape
  obtain ⟨a4, c4, e4⟩ := hv.p.shape
  obtain ⟨b1, k1, f1⟩ := hu.d.shape
  obtain ⟨b2, k2, f2⟩ := hu.n.shape
  obtain ⟨b3, k3, f3⟩ := hu.h.shape
  obtain ⟨b4, k4, f4⟩ := hu.p.shape
  have HC : Hid (∀ w', Below W.heap.size W w' → StC w' w.heap.size s v ∧ StC w' (w.heap.size + 1) t u) := fun w' hb => ⟨hC1.below hb hC1.lt, hC2.below hb hC2.lt⟩
  obtain ⟨ph, cu, d, n, h, p⟩ := s
  obtain ⟨ph', cu', d', n', h', p'⟩ := t
  obtain ⟨vd, vn, vh, vp⟩ := v
  obtain ⟨ud, un, uh, up⟩ := u
  dsimp only at *
  subst e1 e2 e3 e4 f1 f2 f3 f4
  unfold stC at hW
  unfold stV
  dsimp only at *
  have HLN : Hid (∀ w', Below W.heap.size W w' → (w'.cell? ⟨w.heap.size, 3, none⟩ = some (.slice a2 n.length c2) ∧ w'.cell? ⟨w.heap.size, 4, none⟩ = some (.slice a3 h.length c3) ∧ w'.cell? ⟨w.heap.size, 5, none⟩ = some (.slice a4 p.length c4)) ∧ w'.cell? ⟨w.heap.size + 1, 3, none⟩ = some (.slice b2 n'.length k2) ∧ w'.cell? ⟨w.heap.size + 1, 4, none⟩ = some (.slice b3 h'.length k3) ∧ w'.cell? ⟨w.heap.size + 1, 5, none⟩ = some (.slice b4 p'.length k4)) := fun w' hb => by
    obtain ⟨x, y⟩ := HC.out w' hb
    exact ⟨⟨x.c3, x.c4, x.c5⟩, y.c3, y.c4, y.c5⟩
  have HW : Hid ((w.alloc (.cells #[.int .i64 ph, .int .i64 cu, .slice a1 d.length c1, .slice a2 n.length c2, .slice a3 h.length c3, .slice a4 p.length c4] 52)).alloc (.cells #[.int .i64 ph', .int .i64 cu', .slice b1 d'.length k1, .slice b2 n'.length k2, .slice b3 h'.length k3, .slice b4 p'.length k4] 52) = W) := hW.symm
  have HBW : Hid (Below w.heap.size w W) := hBW
  generalize d.length = dn at *
  generalize n.length = nn at *
  generalize h.length = hn at *
  generalize p.length = pn at *
  generalize d'.length = dn' at *
  generalize n'.length = nn' at *
  generalize h'.length = hn' at *
  generalize p'.length = pn' at *
  clear hv hu hB hC hC1 hC2 HC hW hBW h2 h3
  go_enter Try.func66, Try.ntmps66
  go_wp2_with fail
  rw [HW.out]
  refine hD.mono ?_
  rintro e w1 ⟨rfl, hbr⟩
  clear hD
  obtain ⟨⟨x3, -, -⟩, y3, -, -⟩ := HLN.out _ hbr
  have hm := HN.out _ hbr
  go_wp2_with fail
  refine hm.mono ?_
  rintro e w3 ⟨rfl, hb3⟩
  have hbr := below_after_of hbr hb3
  clear hm hb3 x3 y3
  go_wp2
  go_ret
  exact ⟨rfl, below_after_of HBW.out hbr⟩
set_option maxRecDepth 100000 in
set_option maxHeartbeats 4000000 in
theorem implSame_4 (s t : St) (v u : Sv) (w : World) (hv : Sts w v s) (hu : Sts w u t) (hB : StB s) (hC : StB t) (h0 : (s.ph == t.ph) = true) (h1 : (s.cu == t.cu) = true) (h2 : sameL s.d t.d = true) (h3 : eqP s.n t.n = true) (h4 : eqH s.h t.h = false) :
    Calls Try.prog 66 #[stV s v, stV t u] w fun e w' => e = .returned (.bool false) ∧ Below w.heap.size w w' := by
  obtain ⟨W, hW⟩ : ∃ W, W = (w.alloc (stC s v 52)).alloc (stC t u 52) := ⟨_, rfl⟩
  have hBW : Below w.heap.size w W := by rw [hW]; exact two_new _ _
  have hC1 : StC W w.heap.size s v := by rw [hW]; exact (StC.new w s v _).below (one_new _) (by simp)
  have hC2 : StC W (w.heap.size + 1) t u := by
    have := StC.new (w.alloc (stC s v 52)) t u 52
    rw [World.size_alloc] at this
    rw [hW]
    exact this
  have hD := implSameDirectories_any v.d u.d s.d t.d W (hv.d.below hBW) (hu.d.below hBW) hB.d hC.d
  rw [h2] at hD
  have HN : Hid (∀ w', Below W.heap.size W w' → Calls Try.prog 111 #[v.n, u.n] w' fun e w'' => e = .returned (.bool (eqP s.n t.n)) ∧ Below w'.heap.size w' w'') := fun w' hb => slEq_any v.n u.n s.n t.n w' ((hv.n.below hBW).below hb) ((hu.n.below hBW).below hb) hB.n hC.n
  rw [h3] at HN
  have HH : Hid (∀ w', Below W.heap.size W w' → Calls Try.prog 83 #[v.h, u.h] w' fun e w'' => e = .returned (.bool (eqH s.h t.h)) ∧ Below w'.heap.size w' w'') := fun w' hb => hdEq_any v.h u.h s.h t.h w' ((hv.h.below hBW).below hb) ((hu.h.below hBW).below hb) hB.h hC.h
  rw [h4] at HH
  obtain ⟨a1, c1, e1⟩ := hv.d.shape
  obtain ⟨a2, c2, e2⟩ := hv.n.shape
  obtain ⟨a3, c3, e3⟩ := hv.h.shape
  obtain ⟨a4, c4, e4⟩ := hv.p.shape
  obtain ⟨b1, k1, f1⟩ := hu.d.shape
  obtain ⟨b2, k2, f2⟩ := hu.n.shape
  obtain ⟨b3, k3, f3⟩ := hu.h.shape
  obtain ⟨b4, k4, f4⟩ := hu.p.shape
  have HC : Hid (∀ w', Below W.heap.size W w' → StC w' w.heap.size s v ∧ StC w' (w.heap.size + 1) t u) := fun w' hb => ⟨hC1.below hb hC1.lt, hC2.below hb hC2.lt⟩
  obtain ⟨ph, cu, d, n, h, p⟩ := s
  obtain ⟨ph', cu', d', n', h', p'⟩ := t
  obtain ⟨vd, vn, vh, vp⟩ := v
  obtain ⟨ud, un, uh, up⟩ := u
  dsimp only at *
  subst e1 e2 e3 e4 f1 f2 f3 f4
  unfold stC at hW
  unfold stV
  dsimp only at *
  have HLN : Hid (∀ w', Below W.heap.size W w' → (w'.cell? ⟨w.heap.size, 3, none⟩ = some (.slice a2 n.length c2) ∧ w'.cell? ⟨w.heap.size, 4, none⟩ = some (.slice a3 h.length c3) ∧ w'.cell? ⟨w.heap.size, 5, none⟩ = some (.slice a4 p.length c4)) ∧ w'.cell? ⟨w.heap.size + 1, 3, none⟩ = some (.slice b2 n'.length k2) ∧ w'.cell? ⟨w.heap.size + 1, 4, none⟩ = some (.slice b3 h'.length k3) ∧ w'.cell? ⟨w.heap.size + 1, 5, none⟩ = some (.slice b4 p'.length k4)) := fun w' hb => by
    obtain ⟨x, y⟩ := HC.out w' hb
    exact ⟨⟨x.c3, x.c4, x.c5⟩, y.c3, y.c4, y.c5⟩
  have HW : Hid ((w.alloc (.cells #[.int .i64 ph, .int .i64 cu, .slice a1 d.length c1, .slice a2 n.length c2, .slice a3 h.length c3, .slice a4 p.length c4] 52)).alloc (.cells #[.int .i64 ph', .int .i64 cu', .slice b1 d'.length k1, .slice b2 n'.length k2, .slice b3 h'.length k3, .slice b4 p'.length k4] 52) = W) := hW.symm
  have HBW : Hid (Below w.heap.size w W) := hBW
  generalize d.length = dn at *
  generalize n.length = nn at *
  generalize h.length = hn at *
  generalize p.length = pn at *
  generalize d'.length = dn' at *
  generalize n'.length = nn' at *
  generalize h'.length = hn' at *
  generalize p'.length = pn' at *
  clear hv hu hB hC hC1 hC2 HC hW hBW h2 h3 h4
  go_enter Try.func66, Try.ntmps66
  go_wp2_with fail
  rw [HW.out]
  refine hD.mono ?_
  rintro e w1 ⟨rfl, hbr⟩
  clear hD
  obtain ⟨⟨x3, -, -⟩, y3, -, -⟩ := HLN.out _ hbr
  have hm := HN.out _ hbr
  go_wp2_with fail
  refine hm.mono ?_
  rintro e w3 ⟨rfl, hb3⟩
  have hbr := below_after_of hbr hb3
  clear hm hb3 x3 y3
  obtain ⟨⟨-, x4, -⟩, -, y4, -⟩ := HLN.out _ hbr
  have hm := HH.out _ hbr
  go_wp2_with fail
  refine hm.mono ?_
  rintro e w4 ⟨rfl, hb4⟩
  have hbr := below_after_of hbr hb4
  clear hm hb4 x4 y4
  go_wp2
  go_ret
  exact ⟨rfl, below_after_of HBW.out hbr⟩
set_option maxRecDepth 100000 in
set_option maxHeartbeats 4000000 in
theorem implSame_5 (s t : St) (v u : Sv) (w : World) (hv : Sts w v s) (hu : Sts w u t) (hB : StB s) (hC : StB t) (h0 : (s.ph == t.ph) = true) (h1 : (s.cu == t.cu) = true) (h2 : sameL s.d t.d = true) (h3 : eqP s.n t.n = true) (h4 : eqH s.h t.h = true) (h5 : eqD s.p t.p = false) :
    Calls Try.prog 66 #[stV s v, stV t u] w fun e w' => e = .returned (.bool false) ∧ Below w.heap.size w w' := by
  obtain ⟨W, hW⟩ : ∃ W, W = (w.alloc (stC s v 52)).alloc (stC t u 52) := ⟨_, rfl⟩
  have hBW : Below w.heap.size w W := by rw [hW]; exact two_new _ _
  have hC1 : StC W w.heap.size s v := by rw [hW]; exact (StC.new w s v _).below (one_new _) (by simp)
  have hC2 : StC W (w.heap.size + 1) t u := by
    have := StC.new (w.alloc (stC s v 52)) t u 52
    rw [World.size_alloc] at this
    rw [hW]
    exact this
  have hD := implSameDirectories_any v.d u.d s.d t.d W (hv.d.below hBW) (hu.d.below hBW) hB.d hC.d
  rw [h2] at hD
  have HN : Hid (∀ w', Below W.heap.size W w' → Calls Try.prog 111 #[v.n, u.n] w' fun e w'' => e = .returned (.bool (eqP s.n t.n)) ∧ Below w'.heap.size w' w'') := fun w' hb => slEq_any v.n u.n s.n t.n w' ((hv.n.below hBW).below hb) ((hu.n.below hBW).below hb) hB.n hC.n
  rw [h3] at HN
  have HH : Hid (∀ w', Below W.heap.size W w' → Calls Try.prog 83 #[v.h, u.h] w' fun e w'' => e = .returned (.bool (eqH s.h t.h)) ∧ Below w'.heap.size w' w'') := fun w' hb => hdEq_any v.h u.h s.h t.h w' ((hv.h.below hBW).below hb) ((hu.h.below hBW).below hb) hB.h hC.h
  rw [h4] at HH
  have HP : Hid (∀ w', Below W.heap.size W w' → Calls Try.prog 112 #[v.p, u.p, .func (.func 110) #[] #[]] w' fun e w'' => e = .returned (.bool (eqD s.p t.p)) ∧ Below w'.heap.size w' w'') := fun w' hb => dsEq_any v.p u.p s.p t.p w' ((hv.p.below hBW).below hb) ((hu.p.below hBW).below hb) hB.p hC.p (fun j hj => (hB.pd j hj).1) (fun j hj => (hC.pd j hj).1)
  rw [h5] at HP
  obtain ⟨a1, c1, e1⟩ := hv.d.shape
  obtain ⟨a2, c2, e2⟩ := hv.n.shape
  obtain ⟨a3, c3, e3⟩ := hv.h.shape
  obtain ⟨a4, c4, e4⟩ := hv.p.shape
  obtain ⟨b1, k1, f1⟩ := hu.d.shape
  obtain ⟨b2, k2, f2⟩ := hu.n.shape
  obtain ⟨b3, k3, f3⟩ := hu.h.shape
  obtain ⟨b4, k4, f4⟩ := hu.p.shape
  have HC : Hid (∀ w', Below W.heap.size W w' → StC w' w.heap.size s v ∧ StC w' (w.heap.size + 1) t u) := fun w' hb => ⟨hC1.below hb hC1.lt, hC2.below hb hC2.lt⟩
  obtain ⟨ph, cu, d, n, h, p⟩ := s
  obtain ⟨ph', cu', d', n', h', p'⟩ := t
  obtain ⟨vd, vn, vh, vp⟩ := v
  obtain ⟨ud, un, uh, up⟩ := u
  dsimp only at *
  subst e1 e2 e3 e4 f1 f2 f3 f4
  unfold stC at hW
  unfold stV
  dsimp only at *
  have HLN : Hid (∀ w', Below W.heap.size W w' → (w'.cell? ⟨w.heap.size, 3, none⟩ = some (.slice a2 n.length c2) ∧ w'.cell? ⟨w.heap.size, 4, none⟩ = some (.slice a3 h.length c3) ∧ w'.cell? ⟨w.heap.size, 5, none⟩ = some (.slice a4 p.length c4)) ∧ w'.cell? ⟨w.heap.size + 1, 3, none⟩ = some (.slice b2 n'.length k2) ∧ w'.cell? ⟨w.heap.size + 1, 4, none⟩ = some (.slice b3 h'.length k3) ∧ w'.cell? ⟨w.heap.size + 1, 5, none⟩ = some (.slice b4 p'.length k4)) := fun w' hb => by
    obtain ⟨x, y⟩ := HC.out w' hb
    exact ⟨⟨x.c3, x.c4, x.c5⟩, y.c3, y.c4, y.c5⟩
  have HW : Hid ((w.alloc (.cells #[.int .i64 ph, .int .i64 cu, .slice a1 d.length c1, .slice a2 n.length c2, .slice a3 h.length c3, .slice a4 p.length c4] 52)).alloc (.cells #[.int .i64 ph', .int .i64 cu', .slice b1 d'.length k1, .slice b2 n'.length k2, .slice b3 h'.length k3, .slice b4 p'.length k4] 52) = W) := hW.symm
  have HBW : Hid (Below w.heap.size w W) := hBW
  generalize d.length = dn at *
  generalize n.length = nn at *
  generalize h.length = hn at *
  generalize p.length = pn at *
  generalize d'.length = dn' at *
  generalize n'.length = nn' at *
  generalize h'.length = hn' at *
  generalize p'.length = pn' at *
  clear hv hu hB hC hC1 hC2 HC hW hBW h2 h3 h4 h5
  go_enter Try.func66, Try.ntmps66
  go_wp2_with fail
  rw [HW.out]
  refine hD.mono ?_
  rintro e w1 ⟨rfl, hbr⟩
  clear hD
  obtain ⟨⟨x3, -, -⟩, y3, -, -⟩ := HLN.out _ hbr
  have hm := HN.out _ hbr
  go_wp2_with fail
  refine hm.mono ?_
  rintro e w3 ⟨rfl, hb3⟩
  have hbr := below_after_of hbr hb3
  clear hm hb3 x3 y3
  obtain ⟨⟨-, x4, -⟩, -, y4, -⟩ := HLN.out _ hbr
  have hm := HH.out _ hbr
  go_wp2_with fail
  refine hm.mono ?_
  rintro e w4 ⟨rfl, hb4⟩
  have hbr := below_after_of hbr hb4
  clear hm hb4 x4 y4
  obtain ⟨⟨-, -, x5⟩, -, -, y5⟩ := HLN.out _ hbr
  have hm := HP.out _ hbr
  go_wp2_with fail
  refine hm.mono ?_
  rintro e w5 ⟨rfl, hb5⟩
  have hbr := below_after_of hbr hb5
  clear hm hb5 x5 y5
  go_wp2
  go_ret
  exact ⟨rfl, below_after_of HBW.out hbr⟩
set_option maxRecDepth 100000 in
set_option maxHeartbeats 4000000 in
theorem implSame_6 (s t : St) (v u : Sv) (w : World) (hv : Sts w v s) (hu : Sts w u t) (hB : StB s) (hC : StB t) (h0 : (s.ph == t.ph) = true) (h1 : (s.cu == t.cu) = true) (h2 : sameL s.d t.d = true) (h3 : eqP s.n t.n = true) (h4 : eqH s.h t.h = true) (h5 : eqD s.p t.p = true) :
    Calls Try.prog 66 #[stV s v, stV t u] w fun e w' => e = .returned (.bool true) ∧ Below w.heap.size w w' := by
  obtain ⟨W, hW⟩ : ∃ W, W = (w.alloc (stC s v 52)).alloc (stC t u 52) := ⟨_, rfl⟩
  have hBW : Below w.heap.size w W := by rw [hW]; exact two_new _ _
  have hC1 : StC W w.heap.size s v := by rw [hW]; exact (StC.new w s v _).below (one_new _) (by simp)
  have hC2 : StC W (w.heap.size + 1) t u := by
    have := StC.new (w.alloc (stC s v 52)) t u 52
    rw [World.size_alloc] at this
    rw [hW]
    exact this
  have hD := implSameDirectories_any v.d u.d s.d t.d W (hv.d.below hBW) (hu.d.below hBW) hB.d hC.d
  rw [h2] at hD
  have HN : Hid (∀ w', Below W.heap.size W w' → Calls Try.prog 111 #[v.n, u.n] w' fun e w'' => e = .returned (.bool (eqP s.n t.n)) ∧ Below w'.heap.size w' w'') := fun w' hb => slEq_any v.n u.n s.n t.n w' ((hv.n.below hBW).below hb) ((hu.n.below hBW).below hb) hB.n hC.n
  rw [h3] at HN
  have HH : Hid (∀ w', Below W.heap.size W w' → Calls Try.prog 83 #[v.h, u.h] w' fun e w'' => e = .returned (.bool (eqH s.h t.h)) ∧ Below w'.heap.size w' w'') := fun w' hb => hdEq_any v.h u.h s.h t.h w' ((hv.h.below hBW).below hb) ((hu.h.below hBW).below hb) hB.h hC.h
  rw [h4] at HH
  have HP : Hid (∀ w', Below W.heap.size W w' → Calls Try.prog 112 #[v.p, u.p, .func (.func 110) #[] #[]] w' fun e w'' => e = .returned (.bool (eqD s.p t.p)) ∧ Below w'.heap.size w' w'') := fun w' hb => dsEq_any v.p u.p s.p t.p w' ((hv.p.below hBW).below hb) ((hu.p.below hBW).below hb) hB.p hC.p (fun j hj => (hB.pd j hj).1) (fun j hj => (hC.pd j hj).1)
  rw [h5] at HP
  obtain ⟨a1, c1, e1⟩ := hv.d.shape
  obtain ⟨a2, c2, e2⟩ := hv.n.shape
  obtain ⟨a3, c3, e3⟩ := hv.h.shape
  obtain ⟨a4, c4, e4⟩ := hv.p.shape
  obtain ⟨b1, k1, f1⟩ := hu.d.shape
  obtain ⟨b2, k2, f2⟩ := hu.n.shape
  obtain ⟨b3, k3, f3⟩ := hu.h.shape
  obtain ⟨b4, k4, f4⟩ := hu.p.shape
  have HC : Hid (∀ w', Below W.heap.size W w' → StC w' w.heap.size s v ∧ StC w' (w.heap.size + 1) t u) := fun w' hb => ⟨hC1.below hb hC1.lt, hC2.below hb hC2.lt⟩
  obtain ⟨ph, cu, d, n, h, p⟩ := s
  obtain ⟨ph', cu', d', n', h', p'⟩ := t
  obtain ⟨vd, vn, vh, vp⟩ := v
  obtain ⟨ud, un, uh, up⟩ := u
  dsimp only at *
  subst e1 e2 e3 e4 f1 f2 f3 f4
  unfold stC at hW
  unfold stV
  dsimp only at *
  have HLN : Hid (∀ w', Below W.heap.size W w' → (w'.cell? ⟨w.heap.size, 3, none⟩ = some (.slice a2 n.length c2) ∧ w'.cell? ⟨w.heap.size, 4, none⟩ = some (.slice a3 h.length c3) ∧ w'.cell? ⟨w.heap.size, 5, none⟩ = some (.slice a4 p.length c4)) ∧ w'.cell? ⟨w.heap.size + 1, 3, none⟩ = some (.slice b2 n'.length k2) ∧ w'.cell? ⟨w.heap.size + 1, 4, none⟩ = some (.slice b3 h'.length k3) ∧ w'.cell? ⟨w.heap.size + 1, 5, none⟩ = some (.slice b4 p'.length k4)) := fun w' hb => by
    obtain ⟨x, y⟩ := HC.out w' hb
    exact ⟨⟨x.c3, x.c4, x.c5⟩, y.c3, y.c4, y.c5⟩
  have HW : Hid ((w.alloc (.cells #[.int .i64 ph, .int .i64 cu, .slice a1 d.length c1, .slice a2 n.length c2, .slice a3 h.length c3, .slice a4 p.length c4] 52)).alloc (.cells #[.int .i64 ph', .int .i64 cu', .slice b1 d'.length k1, .slice b2 n'.length k2, .slice b3 h'.length k3, .slice b4 p'.length k4] 52) = W) := hW.symm
  have HBW : Hid (Below w.heap.size w W) := hBW
  generalize d.length = dn at *
  generalize n.length = nn at *
  generalize h.length = hn at *
  generalize p.length = pn at *
  generalize d'.length = dn' at *
  generalize n'.length = nn' at *
  generalize h'.length = hn' at *
  generalize p'.length = pn' at *
  clear hv hu hB hC hC1 hC2 HC hW hBW h2 h3 h4 h5
  go_enter Try.func66, Try.ntmps66
  go_wp2_with fail
  rw [HW.out]
  refine hD.mono ?_
  rintro e w1 ⟨rfl, hbr⟩
  clear hD
  obtain ⟨⟨x3, -, -⟩, y3, -, -⟩ := HLN.out _ hbr
  have hm := HN.out _ hbr
  go_wp2_with fail
  refine hm.mono ?_
  rintro e w3 ⟨rfl, hb3⟩
  have hbr := below_after_of hbr hb3
  clear hm hb3 x3 y3
  obtain ⟨⟨-, x4, -⟩, -, y4, -⟩ := HLN.out _ hbr
  have hm := HH.out _ hbr
  go_wp2_with fail
  refine hm.mono ?_
  rintro e w4 ⟨rfl, hb4⟩
  have hbr := below_after_of hbr hb4
  clear hm hb4 x4 y4
  obtain ⟨⟨-, -, x5⟩, -, -, y5⟩ := HLN.out _ hbr
  have hm := HP.out _ hbr
  go_wp2_with fail
  refine hm.mono ?_
  rintro e w5 ⟨rfl, hb5⟩
  have hbr := below_after_of hbr hb5
  clear hm hb5 x5 y5
  go_wp2
  go_ret
  exact ⟨rfl, below_after_of HBW.out hbr⟩
theorem implSameStates_any (s t : St) (v u : Sv) (w : World) (hv : Sts w v s) (hu : Sts w u t) (hB : StB s) (hC : StB t) :
    Calls Try.prog 66 #[stV s v, stV t u] w fun e w' => e = .returned (.bool (ssB s t)) ∧ Below w.heap.size w w' := by
  unfold ssB
  rcases Bool.eq_false_or_eq_true ((s.ph == t.ph)) with h0 | h0
  · rw [h0, Bool.true_and]
    rcases Bool.eq_false_or_eq_true ((s.cu == t.cu)) with h1 | h1
    · rw [h1, Bool.true_and]
      rcases Bool.eq_false_or_eq_true (sameL s.d t.d) with h2 | h2
      · rw [h2, Bool.true_and]
        rcases Bool.eq_false_or_eq_true (eqP s.n t.n) with h3 | h3
        · rw [h3, Bool.true_and]
          rcases Bool.eq_false_or_eq_true (eqH s.h t.h) with h4 | h4
          · rw [h4, Bool.true_and]
            rcases Bool.eq_false_or_eq_true (eqD s.p t.p) with h5 | h5
            · rw [h5]
              exact implSame_6 s t v u w hv hu hB hC h0 h1 h2 h3 h4 h5
            · rw [h5]
              exact implSame_5 s t v u w hv hu hB hC h0 h1 h2 h3 h4 h5
          · rw [h4, Bool.false_and]
            exact implSame_4 s t v u w hv hu hB hC h0 h1 h2 h3 h4
        · rw [h3, Bool.false_and]
          exact implSame_3 s t v u w hv hu hB hC h0 h1 h2 h3
      · rw [h2, Bool.false_and]
        exact implSame_2 s t v u w hv hu hB hC h0 h1 h2
    · rw [h1, Bool.false_and]
      exact implSame_1 s t v u w hv hu hB hC h0 h1
  · rw [h0, Bool.false_and]
    exact implSame_0 s t v u w hv hu hB hC h0
end U
end Go.Proofs.Ytcdodpcdennemaa

/- Servers that are the same, by the program. -/
namespace Go.Proofs.Ytcdodpcdennemaa
open Go.RowKit
namespace U
set_option maxRecDepth 100000 in
set_option maxHeartbeats 4000000 in
theorem implSameServers_gen (ph cu ph' cu' : Int) (a1 a2 a3 a4 a5 b1 b2 b3 b4 b5 : Option Addr) (n1 n2 n3 n4 n5 m1 m2 m3 m4 m5 c1 c2 c3 c4 c5 d1 d2 d3 d4 d5 : Nat) (sf sf' : Int) (q r : Bool) (w : World) (hS : ∀ w', Below w.heap.size w w' → Calls Try.prog 66 #[.agg #[.int .i64 ph, .int .i64 cu, .slice a1 n1 c1, .slice a2 n2 c2, .slice a3 n3 c3, .slice a4 n4 c4], .agg #[.int .i64 ph', .int .i64 cu', .slice b1 m1 d1, .slice b2 m2 d2, .slice b3 m3 d3, .slice b4 m4 d4]] w' fun e w'' => e = .returned (.bool q) ∧ Below w'.heap.size w' w'') (hL : ∀ w', Below w.heap.size w w' → Calls Try.prog 67 #[.slice a5 n5 c5, .slice b5 m5 d5, .func (.func 55) #[] #[]] w' fun e w'' => e = .returned (.bool r) ∧ Below w'.heap.size w' w'') :
    Calls Try.prog 30 #[.agg #[.int .i64 ph, .int .i64 cu, .slice a1 n1 c1, .slice a2 n2 c2, .slice a3 n3 c3, .slice a4 n4 c4, .slice a5 n5 c5, .int .i64 sf], .agg #[.int .i64 ph', .int .i64 cu', .slice b1 m1 d1, .slice b2 m2 d2, .slice b3 m3 d3, .slice b4 m4 d4, .slice b5 m5 d5, .int .i64 sf']] w fun e w' => e = .returned (.bool ((sf == sf') && (q && r))) ∧ Below w.heap.size w w' := by
  obtain ⟨W, hW⟩ : ∃ W, W = (w.alloc (.cells #[.int .i64 ph, .int .i64 cu, .slice a1 n1 c1, .slice a2 n2 c2, .slice a3 n3 c3, .slice a4 n4 c4, .slice a5 n5 c5, .int .i64 sf] 55)).alloc (.cells #[.int .i64 ph', .int .i64 cu', .slice b1 m1 d1, .slice b2 m2 d2, .slice b3 m3 d3, .slice b4 m4 d4, .slice b5 m5 d5, .int .i64 sf'] 55) := ⟨_, rfl⟩
  have HW : Hid ((w.alloc (.cells #[.int .i64 ph, .int .i64 cu, .slice a1 n1 c1, .slice a2 n2 c2, .slice a3 n3 c3, .slice a4 n4 c4, .slice a5 n5 c5, .int .i64 sf] 55)).alloc (.cells #[.int .i64 ph', .int .i64 cu', .slice b1 m1 d1, .slice b2 m2 d2, .slice b3 m3 d3, .slice b4 m4 d4, .slice b5 m5 d5, .int .i64 sf'] 55) = W) := hW.symm
  have hB : Below w.heap.size w W := by rw [hW]; exact two_new _ _
  have H0 : W.heap[w.heap.size]? = some (.cells #[.int .i64 ph, .int .i64 cu, .slice a1 n1 c1, .slice a2 n2 c2, .slice a3 n3 c3, .slice a4 n4 c4, .slice a5 n5 c5, .int .i64 sf] 55) := by
    rw [hW]; exact ((one_new _).block w.heap.size (by simp)).trans (heap_alloc_new w _)
  have H1 : W.heap[w.heap.size + 1]? = some (.cells #[.int .i64 ph', .int .i64 cu', .slice b1 m1 d1, .slice b2 m2 d2, .slice b3 m3 d3, .slice b4 m4 d4, .slice b5 m5 d5, .int .i64 sf'] 55) := by
    have h := heap_alloc_new (w.alloc (.cells #[.int .i64 ph, .int .i64 cu, .slice a1 n1 c1, .slice a2 n2 c2, .slice a3 n3 c3, .slice a4 n4 c4, .slice a5 n5 c5, .int .i64 sf] 55)) (.cells #[.int .i64 ph', .int .i64 cu', .slice b1 m1 d1, .slice b2 m2 d2, .slice b3 m3 d3, .slice b4 m4 d4, .slice b5 m5 d5, .int .i64 sf'] 55)
    rw [World.size_alloc] at h
    rw [hW]; exact h
  have hl0 := (Array.getElem?_eq_some_iff.1 H0).1
  have hl1 := (Array.getElem?_eq_some_iff.1 H1).1
  have HF : Hid (∀ w', Below W.heap.size W w' → w'.heap[w.heap.size]? = some (.cells #[.int .i64 ph, .int .i64 cu, .slice a1 n1 c1, .slice a2 n2 c2, .slice a3 n3 c3, .slice a4 n4 c4, .slice a5 n5 c5, .int .i64 sf] 55) ∧ w'.heap[w.heap.size + 1]? = some (.cells #[.int .i64 ph', .int .i64 cu', .slice b1 m1 d1, .slice b2 m2 d2, .slice b3 m3 d3, .slice b4 m4 d4, .slice b5 m5 d5, .int .i64 sf'] 55)) := fun w' hb => ⟨(hb.block _ hl0).trans H0, (hb.block _ hl1).trans H1⟩
  obtain ⟨⟨x0, x1, x2, x3, x4, x5, x6, x7⟩, -⟩ := eight_cells H0
  obtain ⟨⟨y0, y1, y2, y3, y4, y5, y6, y7⟩, -⟩ := eight_cells H1
  clear hW H0 H1 hl0 hl1
  rcases Bool.eq_false_or_eq_true (sf == sf') with h0 | h0
  · rw [h0, Bool.true_and]
    cases q
    · rw [Bool.false_and]
      clear hL
      go_enter Try.func30, Try.ntmps30
      go_wp2_with fail
      rw [HW.out]
      refine (hS _ hB).mono ?_
      rintro e w1 ⟨rfl, hb1⟩
      have hB1 := below_after_of hB hb1
      clear hS hb1 x0 x1 x2 x3 x4 x5 x6 x7 y0 y1 y2 y3 y4 y5 y6 y7
      go_wp2
      go_ret
      exact ⟨rfl, hB1⟩
    · rw [Bool.true_and]
      go_enter Try.func30, Try.ntmps30
      go_wp2_with fail
      rw [HW.out]
      refine (hS _ hB).mono ?_
      rintro e w1 ⟨rfl, hb1⟩
      have hB1 := below_after_of hB hb1
      clear hS x0 x1 x2 x3 x4 x5 x6 x7 y0 y1 y2 y3 y4 y5 y6 y7
      obtain ⟨⟨x0, x1, x2, x3, x4, x5, x6, x7⟩, -⟩ := eight_cells (HF.out _ hb1).1
      obtain ⟨⟨y0, y1, y2, y3, y4, y5, y6, y7⟩, -⟩ := eight_cells (HF.out _ hb1).2
      clear hb1
      go_wp2_with fail
      refine (hL _ hB1).mono ?_
      rintro e w2 ⟨rfl, hb2⟩
      have hB2 := below_after_of hB1 hb2
      clear hL hb2 x0 x1 x2 x3 x4 x5 x6 x7 y0 y1 y2 y3 y4 y5 y6 y7
      go_wp2
      go_ret
      exact ⟨rfl, hB2⟩
  · rw [h0, Bool.false_and]
    clear hL hS
    go_enter Try.func30, Try.ntmps30
    go_wp2_with fail
    rw [HW.out]
    go_wp2
    go_ret
    exact ⟨rfl, hB⟩
end U
end Go.Proofs.Ytcdodpcdennemaa

/- States that are the same, by the model. -/
namespace Go.Proofs.Ytcdodpcdennemaa
open Go.RowKit
namespace U
set_option maxRecDepth 100000 in
set_option maxHeartbeats 4000000 in
theorem specSame_0 (s t : St) (v u : Sv) (w : World) (hv : Sts w v s) (hu : Sts w u t) (hB : StB s) (hC : StB t) (h0 : (s.ph != t.ph) = true) :
    Calls Try.prog 63 #[stV s v, stV t u] w fun e w' => e = .returned (.bool false) ∧ Below w.heap.size w w' := by
  obtain ⟨W, hW⟩ : ∃ W, W = (w.alloc (stC s v 52)).alloc (stC t u 52) := ⟨_, rfl⟩
  have hBW : Below w.heap.size w W := by rw [hW]; exact two_new _ _
  have hC1 : StC W w.heap.size s v := by rw [hW]; exact (StC.new w s v _).below (one_new _) (by simp)
  have hC2 : StC W (w.heap.size + 1) t u := by
    have := StC.new (w.alloc (stC s v 52)) t u 52
    rw [World.size_alloc] at this
    rw [hW]
    exact this
  have hnn := hne_all
  obtain ⟨a1, c1, e1⟩ := hv.d.shape
  obtain ⟨a2, c2, e2⟩ := hv.n.shape
  obtain ⟨a3, c3, e3⟩ := hv.h.shape
  obtain ⟨a4, c4, e4⟩ := hv.p.shape
  obtain ⟨b1, k1, f1⟩ := hu.d.shape
  obtain ⟨b2, k2, f2⟩ := hu.n.shape
  obtain ⟨b3, k3, f3⟩ := hu.h.shape
  obtain ⟨b4, k4, f4⟩ := hu.p.shape
  have HC : Hid (∀ w', Below W.heap.size W w' → StC w' w.heap.size s v ∧ StC w' (w.heap.size + 1) t u) := fun w' hb => ⟨hC1.below hb hC1.lt, hC2.below hb hC2.lt⟩
  obtain ⟨ph, cu, d, n, h, p⟩ := s
  obtain ⟨ph', cu', d', n', h', p'⟩ := t
  obtain ⟨vd, vn, vh, vp⟩ := v
  obtain ⟨ud, un, uh, up⟩ := u
  dsimp only at *
  subst e1 e2 e3 e4 f1 f2 f3 f4
  unfold stC at hW
  unfold stV
  dsimp only at *
  have HLN : Hid (∀ w', Below W.heap.size W w' → (w'.cell? ⟨w.heap.size, 3, none⟩ = some (.slice a2 n.length c2) ∧ w'.cell? ⟨w.heap.size, 4, none⟩ = some (.slice a3 h.length c3) ∧ w'.cell? ⟨w.heap.size, 5, none⟩ = some (.slice a4 p.length c4)) ∧ w'.cell? ⟨w.heap.size + 1, 3, none⟩ = some (.slice b2 n'.length k2) ∧ w'.cell? ⟨w.heap.size + 1, 4, none⟩ = some (.slice b3 h'.length k3) ∧ w'.cell? ⟨w.heap.size + 1, 5, none⟩ = some (.slice b4 p'.length k4)) := fun w' hb => by
    obtain ⟨x, y⟩ := HC.out w' hb
    exact ⟨⟨x.c3, x.c4, x.c5⟩, y.c3, y.c4, y.c5⟩
  have HW : Hid ((w.alloc (.cells #[.int .i64 ph, .int .i64 cu, .slice a1 d.length c1, .slice a2 n.length c2, .slice a3 h.length c3, .slice a4 p.length c4] 52)).alloc (.cells #[.int .i64 ph', .int .i64 cu', .slice b1 d'.length k1, .slice b2 n'.length k2, .slice b3 h'.length k3, .slice b4 p'.length k4] 52) = W) := hW.symm
  have HBW : Hid (Below w.heap.size w W) := hBW
  generalize d.length = dn at *
  generalize n.length = nn at *
  generalize h.length = hn at *
  generalize p.length = pn at *
  generalize d'.length = dn' at *
  generalize n'.length = nn' at *
  generalize h'.length = hn' at *
  generalize p'.length = pn' at *
  clear hv hu hB hC hC1 hC2 HC hW hBW
  go_enter Try.func63, Try.ntmps63
  go_wp2
  go_ret
  first
  | exact ⟨rfl, two_new _ _⟩
  | (rw [HW.out]; exact ⟨rfl, HBW.out⟩)
set_option maxRecDepth 100000 in
set_option maxHeartbeats 4000000 in
theorem specSame_1 (s t : St) (v u : Sv) (w : World) (hv : Sts w v s) (hu : Sts w u t) (hB : StB s) (hC : StB t) (h0 : (s.ph != t.ph) = false) (h1 : (s.cu != t.cu) = true) :
    Calls Try.prog 63 #[stV s v, stV t u] w fun e w' => e = .returned (.bool false) ∧ Below w.heap.size w w' := by
  obtain ⟨W, hW⟩ : ∃ W, W = (w.alloc (stC s v 52)).alloc (stC t u 52) := ⟨_, rfl⟩
  have hBW : Below w.heap.size w W := by rw [hW]; exact two_new _ _
  have hC1 : StC W w.heap.size s v := by rw [hW]; exact (StC.new w s v _).below (one_new _) (by simp)
  have hC2 : StC W (w.heap.size + 1) t u := by
    have := StC.new (w.alloc (stC s v 52)) t u 52
    rw [World.size_alloc] at this
    rw [hW]
    exact this
  have hnn := hne_all
  obtain ⟨a1, c1, e1⟩ := hv.d.shape
  obtain ⟨a2, c2, e2⟩ := hv.n.shape
  obtain ⟨a3, c3, e3⟩ := hv.h.shape
  obtain ⟨a4, c4, e4⟩ := hv.p.shape
  obtain ⟨b1, k1, f1⟩ := hu.d.shape
  obtain ⟨b2, k2, f2⟩ := hu.n.shape
  obtain ⟨b3, k3, f3⟩ := hu.h.shape
  obtain ⟨b4, k4, f4⟩ := hu.p.shape
  have HC : Hid (∀ w', Below W.heap.size W w' → StC w' w.heap.size s v ∧ StC w' (w.heap.size + 1) t u) := fun w' hb => ⟨hC1.below hb hC1.lt, hC2.below hb hC2.lt⟩
  obtain ⟨ph, cu, d, n, h, p⟩ := s
  obtain ⟨ph', cu', d', n', h', p'⟩ := t
  obtain ⟨vd, vn, vh, vp⟩ := v
  obtain ⟨ud, un, uh, up⟩ := u
  dsimp only at *
  subst e1 e2 e3 e4 f1 f2 f3 f4
  unfold stC at hW
  unfold stV
  dsimp only at *
  have HLN : Hid (∀ w', Below W.heap.size W w' → (w'.cell? ⟨w.heap.size, 3, none⟩ = some (.slice a2 n.length c2) ∧ w'.cell? ⟨w.heap.size, 4, none⟩ = some (.slice a3 h.length c3) ∧ w'.cell? ⟨w.heap.size, 5, none⟩ = some (.slice a4 p.length c4)) ∧ w'.cell? ⟨w.heap.size + 1, 3, none⟩ = some (.slice b2 n'.length k2) ∧ w'.cell? ⟨w.heap.size + 1, 4, none⟩ = some (.slice b3 h'.length k3) ∧ w'.cell? ⟨w.heap.size + 1, 5, none⟩ = some (.slice b4 p'.length k4)) := fun w' hb => by
    obtain ⟨x, y⟩ := HC.out w' hb
    exact ⟨⟨x.c3, x.c4, x.c5⟩, y.c3, y.c4, y.c5⟩
  have HW : Hid ((w.alloc (.cells #[.int .i64 ph, .int .i64 cu, .slice a1 d.length c1, .slice a2 n.length c2, .slice a3 h.length c3, .slice a4 p.length c4] 52)).alloc (.cells #[.int .i64 ph', .int .i64 cu', .slice b1 d'.length k1, .slice b2 n'.length k2, .slice b3 h'.length k3, .slice b4 p'.length k4] 52) = W) := hW.symm
  have HBW : Hid (Below w.heap.size w W) := hBW
  generalize d.length = dn at *
  generalize n.length = nn at *
  generalize h.length = hn at *
  generalize p.length = pn at *
  generalize d'.length = dn' at *
  generalize n'.length = nn' at *
  generalize h'.length = hn' at *
  generalize p'.length = pn' at *
  clear hv hu hB hC hC1 hC2 HC hW hBW
  go_enter Try.func63, Try.ntmps63
  go_wp2
  go_ret
  first
  | exact ⟨rfl, two_new _ _⟩
  | (rw [HW.out]; exact ⟨rfl, HBW.out⟩)
set_option maxRecDepth 100000 in
set_option maxHeartbeats 4000000 in
theorem specSame_2 (s t : St) (v u : Sv) (w : World) (hv : Sts w v s) (hu : Sts w u t) (hB : StB s) (hC : StB t) (h0 : (s.ph != t.ph) = false) (h1 : (s.cu != t.cu) = false) (h2 : sameL s.d t.d = false) :
    Calls Try.prog 63 #[stV s v, stV t u] w fun e w' => e = .returned (.bool false) ∧ Below w.heap.size w w' := by
  obtain ⟨W, hW⟩ : ∃ W, W = (w.alloc (stC s v 52)).alloc (stC t u 52) := ⟨_, rfl⟩
  have hBW : Below w.heap.size w W := by rw [hW]; exact two_new _ _
  have hC1 : StC W w.heap.size s v := by rw [hW]; exact (StC.new w s v _).below (one_new _) (by simp)
  have hC2 : StC W (w.heap.size + 1) t u := by
    have := StC.new (w.alloc (stC s v 52)) t u 52
    rw [World.size_alloc] at this
    rw [hW]
    exact this
  have hnn := hne_all
  have hD := l9Same_off w.heap.size 2 (w.heap.size + 1) 2 v.d u.d s.d t.d W hC1.lt hC2.lt hC1.c2 hC2.c2 (hv.d.below hBW) (hu.d.below hBW) hB.d hC.d
  rw [h2] at hD
  obtain ⟨a1, c1, e1⟩ := hv.d.shape
  obtain ⟨a2, c2, e2⟩ := hv.n.shape
  obtain ⟨a3, c3, e3⟩ := hv.h.shape
  obtain ⟨a4, c4, e4⟩ := hv.p.shape
  obtain ⟨b1, k1, f1⟩ := hu.d.shape
  obtain ⟨b2, k2, f2⟩ := hu.n.shape
  obtain ⟨b3, k3, f3⟩ := hu.h.shape
  obtain ⟨b4, k4, f4⟩ := hu.p.shape
  have HC : Hid (∀ w', Below W.heap.size W w' → StC w' w.heap.size s v ∧ StC w' (w.heap.size + 1) t u) := fun w' hb => ⟨hC1.below hb hC1.lt, hC2.below hb hC2.lt⟩
  obtain ⟨ph, cu, d, n, h, p⟩ := s
  obtain ⟨ph', cu', d', n', h', p'⟩ := t
  obtain ⟨vd, vn, vh, vp⟩ := v
  obtain ⟨ud, un, uh, up⟩ := u
  dsimp only at *
  subst e1 e2 e3 e4 f1 f2 f3 f4
  unfold stC at hW
  unfold stV
  dsimp only at *
  have HLN : Hid (∀ w', Below W.heap.size W w' → (w'.cell? ⟨w.heap.size, 3, none⟩ = some (.slice a2 n.length c2) ∧ w'.cell? ⟨w.heap.size, 4, none⟩ = some (.slice a3 h.length c3) ∧ w'.cell? ⟨w.heap.size, 5, none⟩ = some (.slice a4 p.length c4)) ∧ w'.cell? ⟨w.heap.size + 1, 3, none⟩ = some (.slice b2 n'.length k2) ∧ w'.cell? ⟨w.heap.size + 1, 4, none⟩ = some (.slice b3 h'.length k3) ∧ w'.cell? ⟨w.heap.size + 1, 5, none⟩ = some (.slice b4 p'.length k4)) := fun w' hb => by
    obtain ⟨x, y⟩ := HC.out w' hb
    exact ⟨⟨x.c3, x.c4, x.c5⟩, y.c3, y.c4, y.c5⟩
  have HW : Hid ((w.alloc (.cells #[.int .i64 ph, .int .i64 cu, .slice a1 d.length c1, .slice a2 n.length c2, .slice a3 h.length c3, .slice a4 p.length c4] 52)).alloc (.cells #[.int .i64 ph', .int .i64 cu', .slice b1 d'.length k1, .slice b2 n'.length k2, .slice b3 h'.length k3, .slice b4 p'.length k4] 52) = W) := hW.symm
  have HBW : Hid (Below w.heap.size w W) := hBW
  generalize d.length = dn at *
  generalize n.length = nn at *
  generalize h.length = hn at *
  generalize p.length = pn at *
  generalize d'.length = dn' at *
  generalize n'.length = nn' at *
  generalize h'.length = hn' at *
  generalize p'.length = pn' at *
  clear hv hu hB hC hC1 hC2 HC hW hBW h2
  go_enter Try.func63, Try.ntmps63
  go_wp2_with fail
  rw [HW.out]
  refine hD.mono ?_
  rintro e w1 ⟨rfl, hbr⟩
  clear hD
  go_wp2
  go_ret
  exact ⟨rfl, below_after_of HBW.out hbr⟩
set_option maxRecDepth 100000 in
set_option maxHeartbeats 4000000 in
theorem specSame_3 (s t : St) (v u : Sv) (w : World) (hv : Sts w v s) (hu : Sts w u t) (hB : StB s) (hC : StB t) (h0 : (s.ph != t.ph) = false) (h1 : (s.cu != t.cu) = false) (h2 : sameL s.d t.d = true) (h3 : eqP s.n t.n = false) :
    Calls Try.prog 63 #[stV s v, stV t u] w fun e w' => e = .returned (.bool false) ∧ Below w.heap.size w w' := by
  obtain ⟨W, hW⟩ : ∃ W, W = (w.alloc (stC s v 52)).alloc (stC t u 52) := ⟨_, rfl⟩
  have hBW : Below w.heap.size w W := by rw [hW]; exact two_new _ _
  have hC1 : StC W w.heap.size s v := by rw [hW]; exact (StC.new w s v _).below (one_new _) (by simp)
  have hC2 : StC W (w.heap.size + 1) t u := by
    have := StC.new (w.alloc (stC s v 52)) t u 52
    rw [World.size_alloc] at this
    rw [hW]
    exact this
  have hnn := hne_all
  have hD := l9Same_off w.heap.size 2 (w.heap.size + 1) 2 v.d u.d s.d t.d W hC1.lt hC2.lt hC1.c2 hC2.c2 (hv.d.below hBW) (hu.d.below hBW) hB.d hC.d
  rw [h2] at hD
  have HN : Hid (∀ w', Below W.heap.size W w' → Calls Try.prog 106 #[v.n, u.n] w' fun e w'' => e = .returned (.bool (eqP s.n t.n)) ∧ Below w'.heap.size w' w'') := fun w' hb => l11SameSlots_any v.n u.n s.n t.n w' ((hv.n.below hBW).below hb) ((hu.n.below hBW).below hb) hB.n hC.n
  rw [h3] at HN
  obtain ⟨a1, c1, e1⟩ := hv.d.shape
  obtain ⟨a2, c2, e2⟩ := hv.n.shape
  obtain ⟨a3, c3, e3⟩ := hv.h.shape
  obtain ⟨a4, c4, e4⟩ := hv.p.shape
  obtain ⟨b1, k1, f1⟩ := hu.d.shape
  obtain ⟨b2, k2, f2⟩ := hu.n.shape
  obtain ⟨b3, k3, f3⟩ := hu.h.shape
  obtain ⟨b4, k4, f4⟩ := hu.p.shape
  have HC : Hid (∀ w', Below W.heap.size W w' → StC w' w.heap.size s v ∧ StC w' (w.heap.size + 1) t u) := fun w' hb => ⟨hC1.below hb hC1.lt, hC2.below hb hC2.lt⟩
  obtain ⟨ph, cu, d, n, h, p⟩ := s
  obtain ⟨ph', cu', d', n', h', p'⟩ := t
  obtain ⟨vd, vn, vh, vp⟩ := v
  obtain ⟨ud, un, uh, up⟩ := u
  dsimp only at *
  subst e1 e2 e3 e4 f1 f2 f3 f4
  unfold stC at hW
  unfold stV
  dsimp only at *
  have HLN : Hid (∀ w', Below W.heap.size W w' → (w'.cell? ⟨w.heap.size, 3, none⟩ = some (.slice a2 n.length c2) ∧ w'.cell? ⟨w.heap.size, 4, none⟩ = some (.slice a3 h.length c3) ∧ w'.cell? ⟨w.heap.size, 5, none⟩ = some (.slice a4 p.length c4)) ∧ w'.cell? ⟨w.heap.size + 1, 3, none⟩ = some (.slice b2 n'.length k2) ∧ w'.cell? ⟨w.heap.size + 1, 4, none⟩ = some (.slice b3 h'.length k3) ∧ w'.cell? ⟨w.heap.size + 1, 5, none⟩ = some (.slice b4 p'.length k4)) := fun w' hb => by
    obtain ⟨x, y⟩ := HC.out w' hb
    exact ⟨⟨x.c3, x.c4, x.c5⟩, y.c3, y.c4, y.c5⟩
  have HW : Hid ((w.alloc (.cells #[.int .i64 ph, .int .i64 cu, .slice a1 d.length c1, .slice a2 n.length c2, .slice a3 h.length c3, .slice a4 p.length c4] 52)).alloc (.cells #[.int .i64 ph', .int .i64 cu', .slice b1 d'.length k1, .slice b2 n'.length k2, .slice b3 h'.length k3, .slice b4 p'.length k4] 52) = W) := hW.symm
  have HBW : Hid (Below w.heap.size w W) := hBW
  generalize d.length = dn at *
  generalize n.length = nn at *
  generalize h.length = hn at *
  generalize p.length = pn at *
  generalize d'.length = dn' at *
  generalize n'.length = nn' at *
  generalize h'.length = hn' at *
  generalize p'.length = pn' at *
  clear hv hu hB hC hC1 hC2 HC hW hBW h2 h3
  go_enter Try.func63, Try.ntmps63
  go_wp2_with fail
  rw [HW.out]
  refine hD.mono ?_
  rintro e w1 ⟨rfl, hbr⟩
  clear hD
  obtain ⟨⟨x3, x4, x5⟩, y3, y4, y5⟩ := HLN.out _ hbr
  have hm := HN.out _ hbr
  go_wp2_with fail
  refine hm.mono ?_
  rintro e w3 ⟨rfl, hb3⟩
  have hbr := below_after_of hbr hb3
  clear hm hb3 x3 y3 x4 y4 x5 y5
  go_wp2
  go_ret
  exact ⟨rfl, below_after_of HBW.out hbr⟩
set_option maxRecDepth 100000 in
set_option maxHeartbeats 4000000 in
theorem specSame_4 (s t : St) (v u : Sv) (w : World) (hv : Sts w v s) (hu : Sts w u t) (hB : StB s) (hC : StB t) (h0 : (s.ph != t.ph) = false) (h1 : (s.cu != t.cu) = false) (h2 : sameL s.d t.d = true) (h3 : eqP s.n t.n = true) (h4 : ¬ s.h.length = t.h.length) :
    Calls Try.prog 63 #[stV s v, stV t u] w fun e w' => e = .returned (.bool false) ∧ Below w.heap.size w w' := by
  obtain ⟨W, hW⟩ : ∃ W, W = (w.alloc (stC s v 52)).alloc (stC t u 52) := ⟨_, rfl⟩
  have hBW : Below w.heap.size w W := by rw [hW]; exact two_new _ _
  have hC1 : StC W w.heap.size s v := by rw [hW]; exact (StC.new w s v _).below (one_new _) (by simp)
  have hC2 : StC W (w.heap.size + 1) t u := by
    have := StC.new (w.alloc (stC s v 52)) t u 52
    rw [World.size_alloc] at this
    rw [hW]
    exact this
  have hnn := hne_all
  have hD := l9Same_off w.heap.size 2 (w.heap.size + 1) 2 v.d u.d s.d t.d W hC1.lt hC2.lt hC1.c2 hC2.c2 (hv.d.below hBW) (hu.d.below hBW) hB.d hC.d
  rw [h2] at hD
  have HN : Hid (∀ w', Below W.heap.size W w' → Calls Try.prog 106 #[v.n, u.n] w' fun e w'' => e = .returned (.bool (eqP s.n t.n)) ∧ Below w'.heap.size w' w'') := fun w' hb => l11SameSlots_any v.n u.n s.n t.n w' ((hv.n.below hBW).below hb) ((hu.n.below hBW).below hb) hB.n hC.n
  rw [h3] at HN
  have hnb : (((s.h.length : Nat) : Int) != ((t.h.length : Nat) : Int)) = true := by simp; omega
  obtain ⟨a1, c1, e1⟩ := hv.d.shape
  obtain ⟨a2, c2, e2⟩ := hv.n.shape
  obtain ⟨a3, c3, e3⟩ := hv.h.shape
  obtain ⟨a4, c4, e4⟩ := hv.p.shape
  obtain ⟨b1, k1, f1⟩ := hu.d.shape
  obtain ⟨b2, k2, f2⟩ := hu.n.shape
  obtain ⟨b3, k3, f3⟩ := hu.h.shape
  obtain ⟨b4, k4, f4⟩ := hu.p.shape
  have HC : Hid (∀ w', Below W.heap.size W w' → StC w' w.heap.size s v ∧ StC w' (w.heap.size + 1) t u) := fun w' hb => ⟨hC1.below hb hC1.lt, hC2.below hb hC2.lt⟩
  obtain ⟨ph, cu, d, n, h, p⟩ := s
  obtain ⟨ph', cu', d', n', h', p'⟩ := t
  obtain ⟨vd, vn, vh, vp⟩ := v
  obtain ⟨ud, un, uh, up⟩ := u
  dsimp only at *
  subst e1 e2 e3 e4 f1 f2 f3 f4
  unfold stC at hW
  unfold stV
  dsimp only at *
  have HLN : Hid (∀ w', Below W.heap.size W w' → (w'.cell? ⟨w.heap.size, 3, none⟩ = some (.slice a2 n.length c2) ∧ w'.cell? ⟨w.heap.size, 4, none⟩ = some (.slice a3 h.length c3) ∧ w'.cell? ⟨w.heap.size, 5, none⟩ = some (.slice a4 p.length c4)) ∧ w'.cell? ⟨w.heap.size + 1, 3, none⟩ = some (.slice b2 n'.length k2) ∧ w'.cell? ⟨w.heap.size + 1, 4, none⟩ = some (.slice b3 h'.length k3) ∧ w'.cell? ⟨w.heap.size + 1, 5, none⟩ = some (.slice b4 p'.length k4)) := fun w' hb => by
    obtain ⟨x, y⟩ := HC.out w' hb
    exact ⟨⟨x.c3, x.c4, x.c5⟩, y.c3, y.c4, y.c5⟩
  have HW : Hid ((w.alloc (.cells #[.int .i64 ph, .int .i64 cu, .slice a1 d.length c1, .slice a2 n.length c2, .slice a3 h.length c3, .slice a4 p.length c4] 52)).alloc (.cells #[.int .i64 ph', .int .i64 cu', .slice b1 d'.length k1, .slice b2 n'.length k2, .slice b3 h'.length k3, .slice b4 p'.length k4] 52) = W) := hW.symm
  have HBW : Hid (Below w.heap.size w W) := hBW
  generalize d.length = dn at *
  generalize n.length = nn at *
  generalize h.length = hn at *
  generalize p.length = pn at *
  generalize d'.length = dn' at *
  generalize n'.length = nn' at *
  generalize h'.length = hn' at *
  generalize p'.length = pn' at *
  clear hv hu hB hC hC1 hC2 HC hW hBW h2 h3 h4
  go_enter Try.func63, Try.ntmps63
  go_wp2_with fail
  rw [HW.out]
  refine hD.mono ?_
  rintro e w1 ⟨rfl, hbr⟩
  clear hD
  obtain ⟨⟨x3, x4, x5⟩, y3, y4, y5⟩ := HLN.out _ hbr
  have hm := HN.out _ hbr
  go_wp2_with fail
  refine hm.mono ?_
  rintro e w3 ⟨rfl, hb3⟩
  have hbr := below_after_of hbr hb3
  clear hm hb3 x3 y3 x4 y4 x5 y5
  obtain ⟨⟨x3, x4, x5⟩, y3, y4, y5⟩ := HLN.out _ hbr
  go_wp2
  go_ret
  exact ⟨rfl, below_after_of HBW.out hbr⟩
set_option maxRecDepth 100000 in
set_option maxHeartbeats 4000000 in
theorem specSame_5 (s t : St) (v u : Sv) (w : World) (hv : Sts w v s) (hu : Sts w u t) (hB : StB s) (hC : StB t) (h0 : (s.ph != t.ph) = false) (h1 : (s.cu != t.cu) = false) (h2 : sameL s.d t.d = true) (h3 : eqP s.n t.n = true) (h4 : s.h.length = t.h.length) (h5 : ¬ s.p.length = t.p.length) :
    Calls Try.prog 63 #[stV s v, stV t u] w fun e w' => e = .returned (.bool false) ∧ Below w.heap.size w w' := by
  obtain ⟨W, hW⟩ : ∃ W, W = (w.alloc (stC s v 52)).alloc (stC t u 52) := ⟨_, rfl⟩
  have hBW : Below w.heap.size w W := by rw [hW]; exact two_new _ _
  have hC1 : StC W w.heap.size s v := by rw [hW]; exact (StC.new w s v _).below (one_new _) (by simp)
  have hC2 : StC W (w.heap.size + 1) t u := by
    have := StC.new (w.alloc (stC s v 52)) t u 52
    rw [World.size_alloc] at this
    rw [hW]
    exact this
  have hnn := hne_all
  have hD := l9Same_off w.heap.size 2 (w.heap.size + 1) 2 v.d u.d s.d t.d W hC1.lt hC2.lt hC1.c2 hC2.c2 (hv.d.below hBW) (hu.d.below hBW) hB.d hC.d
  rw [h2] at hD
  have HN : Hid (∀ w', Below W.heap.size W w' → Calls Try.prog 106 #[v.n, u.n] w' fun e w'' => e = .returned (.bool (eqP s.n t.n)) ∧ Below w'.heap.size w' w'') := fun w' hb => l11SameSlots_any v.n u.n s.n t.n w' ((hv.n.below hBW).below hb) ((hu.n.below hBW).below hb) hB.n hC.n
  rw [h3] at HN
  have hnb : (((s.p.length : Nat) : Int) != ((t.p.length : Nat) : Int)) = true := by simp; omega
  have hhb : (((s.h.length : Nat) : Int) != ((t.h.length : Nat) : Int)) = false := by simp; omega
  obtain ⟨a1, c1, e1⟩ := hv.d.shape
  obtain ⟨a2, c2, e2⟩ := hv.n.shape
  obtain ⟨a3, c3, e3⟩ := hv.h.shape
  obtain ⟨a4, c4, e4⟩ := hv.p.shape
  obtain ⟨b1, k1, f1⟩ := hu.d.shape
  obtain ⟨b2, k2, f2⟩ := hu.n.shape
  obtain ⟨b3, k3, f3⟩ := hu.h.shape
  obtain ⟨b4, k4, f4⟩ := hu.p.shape
  have HC : Hid (∀ w', Below W.heap.size W w' → StC w' w.heap.size s v ∧ StC w' (w.heap.size + 1) t u) := fun w' hb => ⟨hC1.below hb hC1.lt, hC2.below hb hC2.lt⟩
  obtain ⟨ph, cu, d, n, h, p⟩ := s
  obtain ⟨ph', cu', d', n', h', p'⟩ := t
  obtain ⟨vd, vn, vh, vp⟩ := v
  obtain ⟨ud, un, uh, up⟩ := u
  dsimp only at *
  subst e1 e2 e3 e4 f1 f2 f3 f4
  unfold stC at hW
  unfold stV
  dsimp only at *
  have HLN : Hid (∀ w', Below W.heap.size W w' → (w'.cell? ⟨w.heap.size, 3, none⟩ = some (.slice a2 n.length c2) ∧ w'.cell? ⟨w.heap.size, 4, none⟩ = some (.slice a3 h.length c3) ∧ w'.cell? ⟨w.heap.size, 5, none⟩ = some (.slice a4 p.length c4)) ∧ w'.cell? ⟨w.heap.size + 1, 3, none⟩ = some (.slice b2 n'.length k2) ∧ w'.cell? ⟨w.heap.size + 1, 4, none⟩ = some (.slice b3 h'.length k3) ∧ w'.cell? ⟨w.heap.size + 1, 5, none⟩ = some (.slice b4 p'.length k4)) := fun w' hb => by
    obtain ⟨x, y⟩ := HC.out w' hb
    exact ⟨⟨x.c3, x.c4, x.c5⟩, y.c3, y.c4, y.c5⟩
  have HW : Hid ((w.alloc (.cells #[.int .i64 ph, .int .i64 cu, .slice a1 d.length c1, .slice a2 n.length c2, .slice a3 h.length c3, .slice a4 p.length c4] 52)).alloc (.cells #[.int .i64 ph', .int .i64 cu', .slice b1 d'.length k1, .slice b2 n'.length k2, .slice b3 h'.length k3, .slice b4 p'.length k4] 52) = W) := hW.symm
  have HBW : Hid (Below w.heap.size w W) := hBW
  generalize d.length = dn at *
  generalize n.length = nn at *
  generalize h.length = hn at *
  generalize p.length = pn at *
  generalize d'.length = dn' at *
  generalize n'.length = nn' at *
  generalize h'.length = hn' at *
  generalize p'.length = pn' at *
  clear hv hu hB hC hC1 hC2 HC hW hBW h2 h3 h4 h5
  go_enter Try.func63, Try.ntmps63
  go_wp2_with fail
  rw [HW.out]
  refine hD.mono ?_
  rintro e w1 ⟨rfl, hbr⟩
  clear hD
  obtain ⟨⟨x3, x4, x5⟩, y3, y4, y5⟩ := HLN.out _ hbr
  have hm := HN.out _ hbr
  go_wp2_with fail
  refine hm.mono ?_
  rintro e w3 ⟨rfl, hb3⟩
  have hbr := below_after_of hbr hb3
  clear hm hb3 x3 y3 x4 y4 x5 y5
  obtain ⟨⟨x3, x4, x5⟩, y3, y4, y5⟩ := HLN.out _ hbr
  go_wp2
  go_ret
  exact ⟨rfl, below_after_of HBW.out hbr⟩
set_option maxRecDepth 100000 in
set_option maxHeartbeats 4000000 in
theorem specSame_loops (s t : St) (v u : Sv) (w : World) (hv : Sts w v s) (hu : Sts w u t) (hB : StB s) (hC : StB t) (h0 : (s.ph != t.ph) = false) (h1 : (s.cu != t.cu) = false) (h2 : sameL s.d t.d = true) (h3 : eqP s.n t.n = true) (h4 : s.h.length = t.h.length) (h5 : s.p.length = t.p.length) :
    Calls Try.prog 63 #[stV s v, stV t u] w fun e w' => e = .returned (.bool (eqH s.h t.h && eqD s.p t.p)) ∧ Below w.heap.size w w' := by
  obtain ⟨W, hW⟩ : ∃ W, W = (w.alloc (stC s v 52)).alloc (stC t u 52) := ⟨_, rfl⟩
  have hBW : Below w.heap.size w W := by rw [hW]; exact two_new _ _
  have hC1 : StC W w.heap.size s v := by rw [hW]; exact (StC.new w s v _).below (one_new _) (by simp)
  have hC2 : StC W (w.heap.size + 1) t u := by
    have := StC.new (w.alloc (stC s v 52)) t u 52
    rw [World.size_alloc] at this
    rw [hW]
    exact this
  have hnn := hne_all
  have hD := l9Same_off w.heap.size 2 (w.heap.size + 1) 2 v.d u.d s.d t.d W hC1.lt hC2.lt hC1.c2 hC2.c2 (hv.d.below hBW) (hu.d.below hBW) hB.d hC.d
  rw [h2] at hD
  have HN : Hid (∀ w', Below W.heap.size W w' → Calls Try.prog 106 #[v.n, u.n] w' fun e w'' => e = .returned (.bool (eqP s.n t.n)) ∧ Below w'.heap.size w' w'') := fun w' hb => l11SameSlots_any v.n u.n s.n t.n w' ((hv.n.below hBW).below hb) ((hu.n.below hBW).below hb) hB.n hC.n
  rw [h3] at HN
  have hvW := hv.below hBW
  have huW := hu.below hBW
  have hPD := hB.pd
  have hPD' := hC.pd
  have hlh := hB.h
  have hlp := hB.p
  obtain ⟨q, hq⟩ : ∃ q, q = (eqH s.h t.h && eqD s.p t.p) := ⟨_, rfl⟩
  rw [← hq]
  have HQ0 : Hid (eqH s.h t.h = false → q = false) := (fun h => by rw [hq, h]; rfl : eqH s.h t.h = false → q = false)
  have HQ1 : Hid (eqH s.h t.h = true → q = eqD s.p t.p) := (fun h => by rw [hq, h]; rfl : eqH s.h t.h = true → q = eqD s.p t.p)
  clear hq
  obtain ⟨a1, c1, e1⟩ := hv.d.shape
  obtain ⟨a2, c2, e2⟩ := hv.n.shape
  obtain ⟨a3, c3, e3⟩ := hv.h.shape
  obtain ⟨a4, c4, e4⟩ := hv.p.shape
  obtain ⟨b1, k1, f1⟩ := hu.d.shape
  obtain ⟨b2, k2, f2⟩ := hu.n.shape
  obtain ⟨b3, k3, f3⟩ := hu.h.shape
  obtain ⟨b4, k4, f4⟩ := hu.p.shape
  have HC : Hid (∀ w', Below W.heap.size W w' → StC w' w.heap.size s v ∧ StC w' (w.heap.size + 1) t u) := fun w' hb => ⟨hC1.below hb hC1.lt, hC2.below hb hC2.lt⟩
  obtain ⟨ph, cu, d, n, h, p⟩ := s
  obtain ⟨ph', cu', d', n', h', p'⟩ := t
  obtain ⟨vd, vn, vh, vp⟩ := v
  obtain ⟨ud, un, uh, up⟩ := u
  dsimp only at *
  subst e1 e2 e3 e4 f1 f2 f3 f4
  unfold stC at hW
  unfold stV
  dsimp only at *
  have HLN : Hid (∀ w', Below W.heap.size W w' → (w'.cell? ⟨w.heap.size, 3, none⟩ = some (.slice a2 n.length c2) ∧ w'.cell? ⟨w.heap.size, 4, none⟩ = some (.slice a3 h.length c3) ∧ w'.cell? ⟨w.heap.size, 5, none⟩ = some (.slice a4 p.length c4)) ∧ w'.cell? ⟨w.heap.size + 1, 3, none⟩ = some (.slice b2 n'.length k2) ∧ w'.cell? ⟨w.heap.size + 1, 4, none⟩ = some (.slice b3 h'.length k3) ∧ w'.cell? ⟨w.heap.size + 1, 5, none⟩ = some (.slice b4 p'.length k4)) := fun w' hb => by
    obtain ⟨x, y⟩ := HC.out w' hb
    exact ⟨⟨x.c3, x.c4, x.c5⟩, y.c3, y.c4, y.c5⟩
  have HW : Hid ((w.alloc (.cells #[.int .i64 ph, .int .i64 cu, .slice a1 d.length c1, .slice a2 n.length c2, .slice a3 h.length c3, .slice a4 p.length c4] 52)).alloc (.cells #[.int .i64 ph', .int .i64 cu', .slice b1 d'.length k1, .slice b2 n'.length k2, .slice b3 h'.length k3, .slice b4 p'.length k4] 52) = W) := hW.symm
  have HBW : Hid (Below w.heap.size w W) := hBW
  have RH : Hds W (.slice a3 h.length c3) h := hvW.h
  have RH' : Hds W (.slice b3 h'.length k3) h' := huW.h
  have RP : Dss W (.slice a4 p.length c4) p := hvW.p
  have RP' : Dss W (.slice b4 p'.length k4) p' := huW.p
  rw [← h4] at RH' HLN HW ⊢
  rw [← h5] at RP' HLN HW hPD' ⊢
  have HRH : Hid (0 < h.length → (∃ b off, a3 = some ⟨b, off, none⟩ ∧ b < W.heap.size ∧ ∀ j, j < h.length → HdS W b (off + j * 5) (hAt h j)) ∧ ∃ b off, b3 = some ⟨b, off, none⟩ ∧ b < W.heap.size ∧ ∀ j, j < h.length → HdS W b (off + j * 5) (hAt h' j)) := (fun h0 => by
    refine ⟨(RH.at h0).2, ?_⟩
    obtain ⟨b, off, q1, q2, q3⟩ := (RH'.at (by omega)).2
    exact ⟨b, off, q1, q2, fun j hj => q3 j (by omega)⟩ : 0 < h.length → _ ∧ _)
  have HRP : Hid (0 < p.length → (∃ b off, a4 = some ⟨b, off, none⟩ ∧ b < W.heap.size ∧ ∀ j, j < p.length → ∃ u, W.cell? ⟨b, off + j, none⟩ = some u ∧ Rcs W u (dAt p j)) ∧ ∃ b off, b4 = some ⟨b, off, none⟩ ∧ b < W.heap.size ∧ ∀ j, j < p.length → ∃ u, W.cell? ⟨b, off + j, none⟩ = some u ∧ Rcs W u (dAt p' j)) := (fun h0 => by
    refine ⟨(RP.at h0).2, ?_⟩
    obtain ⟨b, off, q1, q2, q3⟩ := (RP'.at (by omega)).2
    exact ⟨b, off, q1, q2, fun j hj => q3 j (by omega)⟩ : 0 < p.length → _ ∧ _)
  have HEH : Hid ((∀ k, k < h.length → hdQ (hAt h k) (hAt h' k) = false → eqH h h' = false) ∧ ((∀ j, j < h.length → hdQ (hAt h j) (hAt h' j) = true) → eqH h h' = true)) := ⟨fun k hk h0 => eqH_no hk h0, fun h0 => eqH_yes h4 h0⟩
  have HED : Hid ((∀ k, k < p.length → sameL (dAt p k) (dAt p' k) = false → eqD p p' = false) ∧ ((∀ j, j < p.length → sameL (dAt p j) (dAt p' j) = true) → eqD p p' = true)) := ⟨fun k hk h0 => eqD_no hk h0, fun h0 => eqD_yes h5 h0⟩
  have HPD : Hid (∀ j, j < p.length → (dAt p j).length ≤ 1048576 ∧ (dAt p' j).length ≤ 1048576) := fun j hj => ⟨(hPD j hj).1, (hPD' j hj).1⟩
  generalize d.length = dn at *
  generalize n.length = nn at *
  generalize h.length = hn at *
  generalize p.length = pn at *
  generalize d'.length = dn' at *
  generalize n'.length = nn' at *
  clear hv hu hB hC hC1 hC2 HC hW hBW hvW huW RH RH' RP RP' hPD hPD' h2 h3 h4 h5
  go_enter Try.func63, Try.ntmps63
  go_wp2_with fail
  rw [HW.out]
  refine hD.mono ?_
  rintro e w1 ⟨rfl, hbr⟩
  clear hD
  obtain ⟨⟨x3, x4, x5⟩, y3, y4, y5⟩ := HLN.out _ hbr
  have hm := HN.out _ hbr
  go_wp2_with fail
  refine hm.mono ?_
  rintro e w3 ⟨rfl, hb3⟩
  have hbr := below_after_of hbr hb3
  clear hm hb3 x3 y3 x4 y4 x5 y5
  obtain ⟨⟨x3, x4, x5⟩, y3, y4, y5⟩ := HLN.out _ hbr
  go_wp2
  clear x3 x4 x5 y3 y4 y5
  go_loopw [5] (fun i wr => ∃ k : Nat, k ≤ hn ∧ i = .int .i64 k ∧ Hid (Below W.heap.size W wr) ∧ Hid (∀ j, j < k → hdQ (hAt h j) (hAt h' j) = true)) (fun i _ => hn - (intOf i).toNat)
  case atStart => exact ⟨0, Nat.zero_le _, rfl, hbr, fun j hj => by omega⟩
  case round =>
    obtain ⟨k, hk, rfl, hB, HA⟩ := hrel
    clear hbr
    obtain ⟨⟨x3, x4, x5⟩, y3, y4, y5⟩ := HLN.out _ hB.out
    by_cases hkn : k < hn
    · have hki : (k : Int) < (hn : Int) := by omega
      obtain ⟨⟨b, off, rfl, hb, hc⟩, b', off', rfl, hb', hc'⟩ := HRH.out (by omega)
      obtain ⟨d0, d1, d2, d3, d4⟩ := (hc k hkn).below hB.out hb
      obtain ⟨d0', d1', d2', d3', d4'⟩ := (hc' k hkn).below hB.out hb'
      have hE := hd_neqS (hAt h k) (hAt h' k)
      have HNO : Hid (hdQ (hAt h k) (hAt h' k) = false → q = false) := (fun h0 => HQ0.out (HEH.out.1 k hkn h0) : hdQ (hAt h k) (hAt h' k) = false → q = false)
      have HYE : Hid (hdQ (hAt h k) (hAt h' k) = true → ∀ j, j < k + 1 → hdQ (hAt h j) (hAt h' j) = true) := (fun h0 j hj => by
        by_cases e : j = k
        · subst e; exact h0
        · exact HA.out j (by omega) : hdQ (hAt h k) (hAt h' k) = true → ∀ j, j < k + 1 → hdQ (hAt h j) (hAt h' j) = true)
      generalize hdQ (hAt h k) (hAt h' k) = rb at *
      generalize (hAt h k).e = g0 at *
      generalize (hAt h k).p = g1 at *
      generalize (hAt h k).o = g2 at *
      generalize (hAt h k).n = g3 at *
      generalize (hAt h k).v = g4 at *
      generalize (hAt h' k).e = l0 at *
      generalize (hAt h' k).p = l1 at *
      generalize (hAt h' k).o = l2 at *
      generalize (hAt h' k).n = l3 at *
      generalize (hAt h' k).v = l4 at *
      clear hc hc' HRH HRP HEH HED HPD
      cases rb
      · have HQ : Hid (q = false) := HNO.out rfl
        clear HNO HYE
        go_wp2
        go_quiet (fail)
        go_wp2
        go_ret
        exact ⟨ret_bool HQ.out.symm, below_after_of HBW.out (below_drewN hB.out _)⟩
      · have HQ : Hid (∀ j, j < k + 1 → hdQ (hAt h j) (hAt h' j) = true) := HYE.out rfl
        clear HNO HYE
        go_wp2
        go_quiet (fail)
        go_wp2
        go_roundw
        case rel => exact ⟨k + 1, by omega, by go_num, below_drewN hB.out _, HQ⟩
        case measure => simp [intOf]; omega
    · have hkn : k = hn := by omega
      subst hkn
      have HQ2 : Hid (q = eqD p p') := HQ1.out (HEH.out.2 HA.out)
      clear HRH HEH HQ0 HQ1 HA
      go_wp2
      clear x3 x4 x5 y3 y4 y5
      go_loopw [6] (fun i wr2 => ∃ m : Nat, m ≤ pn ∧ i = .int .i64 m ∧ Hid (Below W.heap.size W wr2) ∧ Hid (∀ j, j < m → sameL (dAt p j) (dAt p' j) = true)) (fun i _ => pn - (intOf i).toNat)
      case atStart => exact ⟨0, Nat.zero_le _, rfl, hB, fun j hj => by omega⟩
      case round =>
        obtain ⟨m, hm, rfl, hB2, HA2⟩ := hrel
        obtain ⟨⟨x3, x4, x5⟩, y3, y4, y5⟩ := HLN.out _ hB2.out
        by_cases hmn : m < pn
        · have hmi : (m : Int) < (pn : Int) := by omega
          obtain ⟨⟨b, off, rfl, hb, hc⟩, b', off', rfl, hb', hc'⟩ := HRP.out (by omega)
          obtain ⟨z, hz, hr⟩ := hc m hmn
          obtain ⟨z', hz', hr'⟩ := hc' m hmn
          have hS := fun w' (hbw : Below W.heap.size W w') => l9Same_off b (off + m) b' (off' + m) z z' (dAt p m) (dAt p' m) w' (Nat.lt_of_lt_of_le hb hbw.size) (Nat.lt_of_lt_of_le hb' hbw.size) ((hbw.cell (p := ⟨b, off + m, none⟩) hb).trans hz) ((hbw.cell (p := ⟨b', off' + m, none⟩) hb').trans hz') (hr.below hbw) (hr'.below hbw) (HPD.out m hmn).1 (HPD.out m hmn).2
          have HNO : Hid (sameL (dAt p m) (dAt p' m) = false → q = false) := (fun h0 => by rw [HQ2.out]; exact HED.out.1 m hmn h0 : sameL (dAt p m) (dAt p' m) = false → q = false)
          have HYE : Hid (sameL (dAt p m) (dAt p' m) = true → ∀ j, j < m + 1 → sameL (dAt p j) (dAt p' j) = true) := (fun h0 j hj => by
            by_cases e : j = m
            · subst e; exact h0
            · exact HA2.out j (by omega) : sameL (dAt p m) (dAt p' m) = true → ∀ j, j < m + 1 → sameL (dAt p j) (dAt p' j) = true)
          generalize sameL (dAt p m) (dAt p' m) = rb at *
          have hS3 := fun w' (h : Below wr.heap.size wr w') => hS w' (below_after_of hB2.out h)
          have q5 := After.cell x5
          have p5 := After.cell y5
          have hne := After.ne wr
          have hbr1 : b < wr.heap.size := Nat.lt_of_lt_of_le hb hB2.out.size
          have hbr2 : b' < wr.heap.size := Nat.lt_of_lt_of_le hb' hB2.out.size
          clear hS hc hc' hz hz' hr hr' HRP HED HPD
          cases rb
          · have HQ : Hid (q = false) := HNO.out rfl
            clear HNO HYE
            go_wp2_with fail
            clear x3 x4 x5 y3 y4 y5
            refine wp_region_after (by kernel_rfl) (by kernel_rfl) ?_
            repeat (first | go_big_quiet_skip | (go_big_quiet_want; go_big_quiet_op; first | go_big_quiet_on | go_big_quiet_call (first | (go_at_call 105; refine (hS3 _ (After.b _)).mono ?_; rintro e wq ⟨rfl, hbq⟩; exact ⟨rfl, after_mk (below_after_of (After.b _) hbq)⟩))))
            refine wpQuiet_nil ?_
            rintro _ ⟨n6, rfl⟩
            have HB6 : Hid (Below w.heap.size w n6.w) := below_after_of HBW.out (below_after_of hB2.out n6.b)
            generalize n6.w = w6 at *
            clear hne q5 p5 n6 hS3
            go_wp2
            go_ret
            exact ⟨ret_bool HQ.out.symm, HB6.out⟩
          · have HQ : Hid (∀ j, j < m + 1 → sameL (dAt p j) (dAt p' j) = true) := HYE.out rfl
            clear HNO HYE
            go_wp2_with fail
            clear x3 x4 x5 y3 y4 y5
            refine wp_region_after (by kernel_rfl) (by kernel_rfl) ?_
            repeat (first | go_big_quiet_skip | (go_big_quiet_want; go_big_quiet_op; first | go_big_quiet_on | go_big_quiet_call (first | (go_at_call 105; refine (hS3 _ (After.b _)).mono ?_; rintro e wq ⟨rfl, hbq⟩; exact ⟨rfl, after_mk (below_after_of (After.b _) hbq)⟩))))
            refine wpQuiet_nil ?_
            rintro _ ⟨n6, rfl⟩
            have HB6 : Hid (Below W.heap.size W n6.w) := below_after_of hB2.out n6.b
            generalize n6.w = w6 at *
            clear hne q5 p5 n6 hS3
            go_wp2
            go_roundw
            case rel => exact ⟨m + 1, by omega, by go_num, HB6, HQ⟩
            case measure => simp [intOf]; omega
        · have hmn : m = pn := by omega
          subst hmn
          have HQ : Hid (q = true) := (by rw [HQ2.out]; exact HED.out.2 HA2.out : q = true)
          clear HRP HED HPD
          go_wp2
          go_ret
          exact ⟨ret_bool HQ.out.symm, below_after_of HBW.out hB2.out⟩
theorem specSameStates_any (s t : St) (v u : Sv) (w : World) (hv : Sts w v s) (hu : Sts w u t) (hB : StB s) (hC : StB t) :
    Calls Try.prog 63 #[stV s v, stV t u] w fun e w' => e = .returned (.bool (ssB s t)) ∧ Below w.heap.size w w' := by
  unfold ssB
  rcases Bool.eq_false_or_eq_true (s.ph == t.ph) with h0 | h0
  · have n0 : (s.ph != t.ph) = false := by rw [bne, h0]; rfl
    rw [h0, Bool.true_and]
    rcases Bool.eq_false_or_eq_true (s.cu == t.cu) with h1 | h1
    · have n1 : (s.cu != t.cu) = false := by rw [bne, h1]; rfl
      rw [h1, Bool.true_and]
      rcases Bool.eq_false_or_eq_true (sameL s.d t.d) with h2 | h2
      · rw [h2, Bool.true_and]
        rcases Bool.eq_false_or_eq_true (eqP s.n t.n) with h3 | h3
        · rw [h3, Bool.true_and]
          by_cases h4 : s.h.length = t.h.length
          · by_cases h5 : s.p.length = t.p.length
            · exact specSame_loops s t v u w hv hu hB hC n0 n1 h2 h3 h4 h5
            · rw [eqD_len h5, Bool.and_false]
              exact specSame_5 s t v u w hv hu hB hC n0 n1 h2 h3 h4 h5
          · rw [eqH_len h4, Bool.false_and]
            exact specSame_4 s t v u w hv hu hB hC n0 n1 h2 h3 h4
        · rw [h3, Bool.false_and]
          exact specSame_3 s t v u w hv hu hB hC n0 n1 h2 h3
      · rw [h2, Bool.false_and]
        exact specSame_2 s t v u w hv hu hB hC n0 n1 h2
    · rw [h1, Bool.false_and]
      exact specSame_1 s t v u w hv hu hB hC n0 (by rw [bne, h1]; rfl)
  · rw [h0, Bool.false_and]
    exact specSame_0 s t v u w hv hu hB hC (by rw [bne, h0]; rfl)
end U
end Go.Proofs.Ytcdodpcdennemaa

/- Servers that are the same, by the model. -/
namespace Go.Proofs.Ytcdodpcdennemaa
open Go.RowKit
namespace U
set_option maxRecDepth 100000 in
set_option maxHeartbeats 4000000 in
theorem specSameServers_no (ph cu ph' cu' : Int) (a1 a2 a3 a4 a5 b1 b2 b3 b4 b5 : Option Addr) (n1 n2 n3 n4 n5 m1 m2 m3 m4 m5 c1 c2 c3 c4 c5 d1 d2 d3 d4 d5 : Nat) (sf sf' : Int) (q : Bool) (w : World) (hS : ∀ w', Below w.heap.size w w' → Calls Try.prog 63 #[.agg #[.int .i64 ph, .int .i64 cu, .slice a1 n1 c1, .slice a2 n2 c2, .slice a3 n3 c3, .slice a4 n4 c4], .agg #[.int .i64 ph', .int .i64 cu', .slice b1 m1 d1, .slice b2 m2 d2, .slice b3 m3 d3, .slice b4 m4 d4]] w' fun e w'' => e = .returned (.bool q) ∧ Below w'.heap.size w' w'') (hno : (sf == sf') = false ∨ ¬ n5 = m5 ∨ q = false) :
    Calls Try.prog 28 #[.agg #[.int .i64 ph, .int .i64 cu, .slice a1 n1 c1, .slice a2 n2 c2, .slice a3 n3 c3, .slice a4 n4 c4, .slice a5 n5 c5, .int .i64 sf], .agg #[.int .i64 ph', .int .i64 cu', .slice b1 m1 d1, .slice b2 m2 d2, .slice b3 m3 d3, .slice b4 m4 d4, .slice b5 m5 d5, .int .i64 sf']] w fun e w' => e = .returned (.bool false) ∧ Below w.heap.size w w' := by
  obtain ⟨W, hW⟩ : ∃ W, W = (w.alloc (.cells #[.int .i64 ph, .int .i64 cu, .slice a1 n1 c1, .slice a2 n2 c2, .slice a3 n3 c3, .slice a4 n4 c4, .slice a5 n5 c5, .int .i64 sf] 55)).alloc (.cells #[.int .i64 ph', .int .i64 cu', .slice b1 m1 d1, .slice b2 m2 d2, .slice b3 m3 d3, .slice b4 m4 d4, .slice b5 m5 d5, .int .i64 sf'] 55) := ⟨_, rfl⟩
  have HW : Hid ((w.alloc (.cells #[.int .i64 ph, .int .i64 cu, .slice a1 n1 c1, .slice a2 n2 c2, .slice a3 n3 c3, .slice a4 n4 c4, .slice a5 n5 c5, .int .i64 sf] 55)).alloc (.cells #[.int .i64 ph', .int .i64 cu', .slice b1 m1 d1, .slice b2 m2 d2, .slice b3 m3 d3, .slice b4 m4 d4, .slice b5 m5 d5, .int .i64 sf'] 55) = W) := hW.symm
  have hB : Below w.heap.size w W := by rw [hW]; exact two_new _ _
  have H0 : W.heap[w.heap.size]? = some (.cells #[.int .i64 ph, .int .i64 cu, .slice a1 n1 c1, .slice a2 n2 c2, .slice a3 n3 c3, .slice a4 n4 c4, .slice a5 n5 c5, .int .i64 sf] 55) := by
    rw [hW]; exact ((one_new _).block w.heap.size (by simp)).trans (heap_alloc_new w _)
  have H1 : W.heap[w.heap.size + 1]? = some (.cells #[.int .i64 ph', .int .i64 cu', .slice b1 m1 d1, .slice b2 m2 d2, .slice b3 m3 d3, .slice b4 m4 d4, .slice b5 m5 d5, .int .i64 sf'] 55) := by
    have h := heap_alloc_new (w.alloc (.cells #[.int .i64 ph, .int .i64 cu, .slice a1 n1 c1, .slice a2 n2 c2, .slice a3 n3 c3, .slice a4 n4 c4, .slice a5 n5 c5, .int .i64 sf] 55)) (.cells #[.int .i64 ph', .int .i64 cu', .slice b1 m1 d1, .slice b2 m2 d2, .slice b3 m3 d3, .slice b4 m4 d4, .slice b5 m5 d5, .int .i64 sf'] 55)
    rw [World.size_alloc] at h
    rw [hW]; exact h
  have hl0 := (Array.getElem?_eq_some_iff.1 H0).1
  have hl1 := (Array.getElem?_eq_some_iff.1 H1).1
  have HF : Hid (∀ w', Below W.heap.size W w' → w'.heap[w.heap.size]? = some (.cells #[.int .i64 ph, .int .i64 cu, .slice a1 n1 c1, .slice a2 n2 c2, .slice a3 n3 c3, .slice a4 n4 c4, .slice a5 n5 c5, .int .i64 sf] 55) ∧ w'.heap[w.heap.size + 1]? = some (.cells #[.int .i64 ph', .int .i64 cu', .slice b1 m1 d1, .slice b2 m2 d2, .slice b3 m3 d3, .slice b4 m4 d4, .slice b5 m5 d5, .int .i64 sf'] 55)) := fun w' hb => ⟨(hb.block _ hl0).trans H0, (hb.block _ hl1).trans H1⟩
  obtain ⟨⟨x0, x1, x2, x3, x4, x5, x6, x7⟩, -⟩ := eight_cells H0
  obtain ⟨⟨y0, y1, y2, y3, y4, y5, y6, y7⟩, -⟩ := eight_cells H1
  clear hW H0 H1 hl0 hl1
  rcases Bool.eq_false_or_eq_true (sf == sf') with h0 | h0
  · have h0' : (sf != sf') = false := by simp [bne, h0]
    by_cases hn : n5 = m5
    · have hn' : (((n5 : Nat) : Int) != ((m5 : Nat) : Int)) = false := by simp [hn]
      have hq : q = false := by
        rcases hno with h | h | h
        · rw [h0] at h; exact absurd h (by decide)
        · exact absurd hn h
        · exact h
      subst hq
      clear hno hn
      go_enter Try.func28, Try.ntmps28
      go_wp2_with fail
      rw [HW.out]
      refine (hS _ hB).mono ?_
      rintro e w1 ⟨rfl, hb1⟩
      have hB1 := below_after_of hB hb1
      clear hS hb1 x0 x1 x2 x3 x4 x5 x6 x7 y0 y1 y2 y3 y4 y5 y6 y7
      go_wp2
      go_ret
      exact ⟨rfl, hB1⟩
    · have hn' : (((n5 : Nat) : Int) != ((m5 : Nat) : Int)) = true := by simp; omega
      clear hS hno hn
      go_enter Try.func28, Try.ntmps28
      go_wp2_with fail
      rw [HW.out]
      go_wp2
      go_ret
      exact ⟨rfl, hB⟩
  · have h0' : (sf != sf') = true := by simp [bne, h0]
    clear hS hno
    go_enter Try.func28, Try.ntmps28
    go_wp2_with fail
    rw [HW.out]
    go_wp2
    go_ret
    exact ⟨rfl, hB⟩
set_option maxRecDepth 100000 in
set_option maxHeartbeats 4000000 in
theorem specSameServers_core (ph cu ph' cu' : Int) (a1 a2 a3 a4 b1 b2 b3 b4 : Option Addr) (b off b' off' n1 n2 n3 n4 n5 m1 m2 m3 m4 c1 c2 c3 c4 c5 d1 d2 d3 d4 d5 : Nat) (sf sf' : Int) (g g' : Lgl) (w : World) (hx : n5 ≤ 1048576) (HN : Hid (n5 = g.length ∧ n5 = g'.length)) (hb : b < w.heap.size) (hb' : b' < w.heap.size) (hc : ∀ j, j < n5 → ∃ u, w.cell? ⟨b, off + j, none⟩ = some u ∧ Ints .u8 w u (lAt g j)) (hc' : ∀ j, j < n5 → ∃ u, w.cell? ⟨b', off' + j, none⟩ = some u ∧ Ints .u8 w u (lAt g' j)) (hbt : ∀ j, j < n5 → Bts (lAt g j)) (hbt' : ∀ j, j < n5 → Bts (lAt g' j)) (h0 : (sf != sf') = false) (hS : ∀ w', Below w.heap.size w w' → Calls Try.prog 63 #[.agg #[.int .i64 ph, .int .i64 cu, .slice a1 n1 c1, .slice a2 n2 c2, .slice a3 n3 c3, .slice a4 n4 c4], .agg #[.int .i64 ph', .int .i64 cu', .slice b1 m1 d1, .slice b2 m2 d2, .slice b3 m3 d3, .slice b4 m4 d4]] w' fun e w'' => e = .returned (.bool true) ∧ Below w'.heap.size w' w'') :
    Calls Try.prog 28 #[.agg #[.int .i64 ph, .int .i64 cu, .slice a1 n1 c1, .slice a2 n2 c2, .slice a3 n3 c3, .slice a4 n4 c4, .slice (some ⟨b, off, none⟩) n5 c5, .int .i64 sf], .agg #[.int .i64 ph', .int .i64 cu', .slice b1 m1 d1, .slice b2 m2 d2, .slice b3 m3 d3, .slice b4 m4 d4, .slice (some ⟨b', off', none⟩) n5 d5, .int .i64 sf']] w fun e w' => e = .returned (.bool (eqG g g')) ∧ Below w.heap.size w w' := by
  obtain ⟨W, hW⟩ : ∃ W, W = (w.alloc (.cells #[.int .i64 ph, .int .i64 cu, .slice a1 n1 c1, .slice a2 n2 c2, .slice a3 n3 c3, .slice a4 n4 c4, .slice (some ⟨b, off, none⟩) n5 c5, .int .i64 sf] 55)).alloc (.cells #[.int .i64 ph', .int .i64 cu', .slice b1 m1 d1, .slice b2 m2 d2, .slice b3 m3 d3, .slice b4 m4 d4, .slice (some ⟨b', off', none⟩) n5 d5, .int .i64 sf'] 55) := ⟨_, rfl⟩
  have HW : Hid ((w.alloc (.cells #[.int .i64 ph, .int .i64 cu, .slice a1 n1 c1, .slice a2 n2 c2, .slice a3 n3 c3, .slice a4 n4 c4, .slice (some ⟨b, off, none⟩) n5 c5, .int .i64 sf] 55)).alloc (.cells #[.int .i64 ph', .int .i64 cu', .slice b1 m1 d1, .slice b2 m2 d2, .slice b3 m3 d3, .slice b4 m4 d4, .slice (some ⟨b', off', none⟩) n5 d5, .int .i64 sf'] 55) = W) := hW.symm
  have hB : Below w.heap.size w W := by rw [hW]; exact two_new _ _
  have H0 : W.heap[w.heap.size]? = some (.cells #[.int .i64 ph, .int .i64 cu, .slice a1 n1 c1, .slice a2 n2 c2, .slice a3 n3 c3, .slice a4 n4 c4, .slice (some ⟨b, off, none⟩) n5 c5, .int .i64 sf] 55) := by
    rw [hW]; exact ((one_new _).block w.heap.size (by simp)).trans (heap_alloc_new w _)
  have H1 : W.heap[w.heap.size + 1]? = some (.cells #[.int .i64 ph', .int .i64 cu', .slice b1 m1 d1, .slice b2 m2 d2, .slice b3 m3 d3, .slice b4 m4 d4, .slice (some ⟨b', off', none⟩) n5 d5, .int .i64 sf'] 55) := by
    have h := heap_alloc_new (w.alloc (.cells #[.int .i64 ph, .int .i64 cu, .slice a1 n1 c1, .slice a2 n2 c2, .slice a3 n3 c3, .slice a4 n4 c4, .slice (some ⟨b, off, none⟩) n5 c5, .int .i64 sf] 55)) (.cells #[.int .i64 ph', .int .i64 cu', .slice b1 m1 d1, .slice b2 m2 d2, .slice b3 m3 d3, .slice b4 m4 d4, .slice (some ⟨b', off', none⟩) n5 d5, .int .i64 sf'] 55)
    rw [World.size_alloc] at h
    rw [hW]; exact h
  have hl0 := (Array.getElem?_eq_some_iff.1 H0).1
  have hl1 := (Array.getElem?_eq_some_iff.1 H1).1
  have HF : Hid (∀ w', Below W.heap.size W w' → w'.heap[w.heap.size]? = some (.cells #[.int .i64 ph, .int .i64 cu, .slice a1 n1 c1, .slice a2 n2 c2, .slice a3 n3 c3, .slice a4 n4 c4, .slice (some ⟨b, off, none⟩) n5 c5, .int .i64 sf] 55) ∧ w'.heap[w.heap.size + 1]? = some (.cells #[.int .i64 ph', .int .i64 cu', .slice b1 m1 d1, .slice b2 m2 d2, .slice b3 m3 d3, .slice b4 m4 d4, .slice (some ⟨b', off', none⟩) n5 d5, .int .i64 sf'] 55)) := fun w' hb => ⟨(hb.block _ hl0).trans H0, (hb.block _ hl1).trans H1⟩
  obtain ⟨⟨x0, x1, x2, x3, x4, x5, x6, x7⟩, -⟩ := eight_cells H0
  obtain ⟨⟨y0, y1, y2, y3, y4, y5, y6, y7⟩, -⟩ := eight_cells H1
  clear hW H0 H1 hl0 hl1
  have hn' : (((n5 : Nat) : Int) != ((n5 : Nat) : Int)) = false := by simp
  go_enter Try.func28, Try.ntmps28
  go_wp2_with fail
  rw [HW.out]
  refine (hS _ hB).mono ?_
  rintro e w1 ⟨rfl, hb1⟩
  have hB1 := below_after_of hB hb1
  clear hS x0 x1 x2 x3 x4 x5 x6 x7 y0 y1 y2 y3 y4 y5 y6 y7
  obtain ⟨⟨x0, x1, x2, x3, x4, x5, x6, x7⟩, -⟩ := eight_cells (HF.out _ hb1).1
  obtain ⟨⟨y0, y1, y2, y3, y4, y5, y6, y7⟩, -⟩ := eight_cells (HF.out _ hb1).2
  go_wp2
  clear hn' h0 x0 x1 x2 x3 x4 x5 x6 x7 y0 y1 y2 y3 y4 y5 y6 y7
  go_loopw [5] (fun i wr => ∃ k : Nat, k ≤ n5 ∧ i = .int .i64 k ∧ Hid (Below W.heap.size W wr) ∧ Hid (∀ j, j < k → decide (lAt g j = lAt g' j) = true)) (fun i _ => n5 - (intOf i).toNat)
  case atStart => exact ⟨0, Nat.zero_le _, rfl, hb1, fun j hj => by omega⟩
  case round =>
    obtain ⟨k, hk, rfl, hBr, HA⟩ := hrel
    obtain ⟨⟨x0, x1, x2, x3, x4, x5, x6, x7⟩, -⟩ := eight_cells (HF.out _ hBr.out).1
    obtain ⟨⟨y0, y1, y2, y3, y4, y5, y6, y7⟩, -⟩ := eight_cells (HF.out _ hBr.out).2
    have hBw := below_after_of hB hBr.out
    by_cases hkn : k < n5
    · have hki : (k : Int) < (n5 : Int) := by omega
      obtain ⟨u, hu, hr⟩ := hc k hkn
      obtain ⟨u', hu', hr'⟩ := hc' k hkn
      have d0 := (hBw.cell (p := ⟨b, off + k, none⟩) hb).trans hu
      have d0' := (hBw.cell (p := ⟨b', off' + k, none⟩) hb').trans hu'
      have e1 := fun n : After wr => conv_str (P := Try.prog) 27 9 Try.underlying27 Try.underlying5 Try.underlying9 (hr.below (below_after_of hBw (After.b n))) (hbt k hkn)
      have e2 := fun n : After wr => conv_str (P := Try.prog) 27 9 Try.underlying27 Try.underlying5 Try.underlying9 (hr'.below (below_after_of hBw (After.b n))) (hbt' k hkn)
      have HI : Hid ((sOf (lAt g k) = sOf (lAt g' k)) ↔ lAt g k = lAt g' k) := sOf_inj (hbt k hkn) (hbt' k hkn)
      have HNO : Hid (decide (lAt g k = lAt g' k) = false → eqG g g' = false) := eqG_no (by have := HN.out; omega)
      have HYE : Hid (decide (lAt g k = lAt g' k) = true → ∀ j, j < k + 1 → decide (lAt g j = lAt g' j) = true) := (fun h j hj => by
        by_cases e : j = k
        · subst e; exact h
        · exact HA.out j (by omega) : decide (lAt g k = lAt g' k) = true → ∀ j, j < k + 1 → decide (lAt g j = lAt g' j) = true)
      obtain ⟨a1', q1, rfl⟩ := hr.shape
      obtain ⟨a2', q2, rfl⟩ := hr'.shape
      generalize sOf (lAt g k) = s1 at *
      generalize sOf (lAt g' k) = s2 at *
      have HD : Hid ((s1.toList = s2.toList) ↔ lAt g k = lAt g' k) := ((toList_iff s1 s2).trans HI.out : (s1.toList = s2.toList) ↔ lAt g k = lAt g' k)
      generalize (lAt g k).length = l1 at *
      generalize (lAt g' k).length = l2 at *
      have q0 := After.cell d0
      have p0 := After.cell d0'
      have q6 := After.cell x6
      have p6 := After.cell y6
      have hne := After.ne wr
      clear hc hc' hbt hbt' hr hr' hu hu' HI d0 d0'
      by_cases hs : s1.toList = s2.toList
      · have hs1 : (s1.toList == s2.toList) = true := by rw [hs]; simp
        have hs2 : (s1.toList != s2.toList) = false := by rw [hs]; simp
        have HQ : Hid (∀ j, j < k + 1 → decide (lAt g j = lAt g' j) = true) := HYE.out (decide_eq_true (HD.out.1 hs))
        clear HNO HYE HD hs
        go_wp2
        refine wp_region_after (by kernel_rfl) (by kernel_rfl) ?_
        repeat (first | go_big_quiet_skip | (go_big_quiet_want; go_big_quiet_op; go_big_quiet_on))
        refine wpQuiet_nil ?_
        rintro _ ⟨n6, rfl⟩
        have HB6 : Hid (Below W.heap.size W n6.w) := below_after_of hBr.out n6.b
        generalize n6.w = w6 at *
        clear hne q0 p0 q6 p6 n6 e1 e2
        go_wp2
        go_roundw
        case rel => exact ⟨k + 1, by omega, by go_num, HB6, HQ⟩
        case measure => simp [intOf]; omega
      · have hs1 : (s1.toList == s2.toList) = false := by simp [hs]
        have hs2 : (s1.toList != s2.toList) = true := by simp [hs]
        have HQ : Hid (eqG g g' = false) := HNO.out (decide_eq_false fun h => hs (HD.out.2 h))
        clear HNO HYE HD hs
        go_wp2
        refine wp_region_after (by kernel_rfl) (by kernel_rfl) ?_
        repeat (first | go_big_quiet_skip | (go_big_quiet_want; go_big_quiet_op; go_big_quiet_on))
        refine wpQuiet_nil ?_
        rintro _ ⟨n6, rfl⟩
        have HB6 : Hid (Below W.heap.size W n6.w) := below_after_of hBr.out n6.b
        generalize n6.w = w6 at *
        clear hne q0 p0 q6 p6 n6 e1 e2
        go_wp2
        go_ret
        exact ⟨ret_bool HQ.out.symm, below_after_of hB HB6.out⟩
    · have hkn : k = n5 := by omega
      subst hkn
      have HQ : Hid (eqG g g' = true) := eqG_yes (by rw [← HN.out.1, ← HN.out.2]) (fun j hj => HA.out j (by rw [HN.out.1]; exact hj))
      clear hc hc'
      go_wp2
      go_ret
      exact ⟨ret_bool HQ.out.symm, hBw⟩
set_option maxRecDepth 100000 in
set_option maxHeartbeats 4000000 in
theorem specSameServers_nil (ph cu ph' cu' : Int) (a1 a2 a3 a4 a5 b1 b2 b3 b4 b5 : Option Addr) (n1 n2 n3 n4 m1 m2 m3 m4 c1 c2 c3 c4 c5 d1 d2 d3 d4 d5 : Nat) (sf sf' : Int) (w : World) (h0 : (sf != sf') = false) (hS : ∀ w', Below w.heap.size w w' → Calls Try.prog 63 #[.agg #[.int .i64 ph, .int .i64 cu, .slice a1 n1 c1, .slice a2 n2 c2, .slice a3 n3 c3, .slice a4 n4 c4], .agg #[.int .i64 ph', .int .i64 cu', .slice b1 m1 d1, .slice b2 m2 d2, .slice b3 m3 d3, .slice b4 m4 d4]] w' fun e w'' => e = .returned (.bool true) ∧ Below w'.heap.size w' w'') :
    Calls Try.prog 28 #[.agg #[.int .i64 ph, .int .i64 cu, .slice a1 n1 c1, .slice a2 n2 c2, .slice a3 n3 c3, .slice a4 n4 c4, .slice a5 0 c5, .int .i64 sf], .agg #[.int .i64 ph', .int .i64 cu', .slice b1 m1 d1, .slice b2 m2 d2, .slice b3 m3 d3, .slice b4 m4 d4, .slice b5 0 d5, .int .i64 sf']] w fun e w' => e = .returned (.bool true) ∧ Below w.heap.size w w' := by
  obtain ⟨W, hW⟩ : ∃ W, W = (w.alloc (.cells #[.int .i64 ph, .int .i64 cu, .slice a1 n1 c1, .slice a2 n2 c2, .slice a3 n3 c3, .slice a4 n4 c4, .slice a5 0 c5, .int .i64 sf] 55)).alloc (.cells #[.int .i64 ph', .int .i64 cu', .slice b1 m1 d1, .slice b2 m2 d2, .slice b3 m3 d3, .slice b4 m4 d4, .slice b5 0 d5, .int .i64 sf'] 55) := ⟨_, rfl⟩
  have HW : Hid ((w.alloc (.cells #[.int .i64 ph, .int .i64 cu, .slice a1 n1 c1, .slice a2 n2 c2, .slice a3 n3 c3, .slice a4 n4 c4, .slice a5 0 c5, .int .i64 sf] 55)).alloc (.cells #[.int .i64 ph', .int .i64 cu', .slice b1 m1 d1, .slice b2 m2 d2, .slice b3 m3 d3, .slice b4 m4 d4, .slice b5 0 d5, .int .i64 sf'] 55) = W) := hW.symm
  have hB : Below w.heap.size w W := by rw [hW]; exact two_new _ _
  have H0 : W.heap[w.heap.size]? = some (.cells #[.int .i64 ph, .int .i64 cu, .slice a1 n1 c1, .slice a2 n2 c2, .slice a3 n3 c3, .slice a4 n4 c4, .slice a5 0 c5, .int .i64 sf] 55) := by
    rw [hW]; exact ((one_new _).block w.heap.size (by simp)).trans (heap_alloc_new w _)
  have H1 : W.heap[w.heap.size + 1]? = some (.cells #[.int .i64 ph', .int .i64 cu', .slice b1 m1 d1, .slice b2 m2 d2, .slice b3 m3 d3, .slice b4 m4 d4, .slice b5 0 d5, .int .i64 sf'] 55) := by
    have h := heap_alloc_new (w.alloc (.cells #[.int .i64 ph, .int .i64 cu, .slice a1 n1 c1, .slice a2 n2 c2, .slice a3 n3 c3, .slice a4 n4 c4, .slice a5 0 c5, .int .i64 sf] 55)) (.cells #[.int .i64 ph', .int .i64 cu', .slice b1 m1 d1, .slice b2 m2 d2, .slice b3 m3 d3, .slice b4 m4 d4, .slice b5 0 d5, .int .i64 sf'] 55)
    rw [World.size_alloc] at h
    rw [hW]; exact h
  have hl0 := (Array.getElem?_eq_some_iff.1 H0).1
  have hl1 := (Array.getElem?_eq_some_iff.1 H1).1
  have HF : Hid (∀ w', Below W.heap.size W w' → w'.heap[w.heap.size]? = some (.cells #[.int .i64 ph, .int .i64 cu, .slice a1 n1 c1, .slice a2 n2 c2, .slice a3 n3 c3, .slice a4 n4 c4, .slice a5 0 c5, .int .i64 sf] 55) ∧ w'.heap[w.heap.size + 1]? = some (.cells #[.int .i64 ph', .int .i64 cu', .slice b1 m1 d1, .slice b2 m2 d2, .slice b3 m3 d3, .slice b4 m4 d4, .slice b5 0 d5, .int .i64 sf'] 55)) := fun w' hb => ⟨(hb.block _ hl0).trans H0, (hb.block _ hl1).trans H1⟩
  obtain ⟨⟨x0, x1, x2, x3, x4, x5, x6, x7⟩, -⟩ := eight_cells H0
  obtain ⟨⟨y0, y1, y2, y3, y4, y5, y6, y7⟩, -⟩ := eight_cells H1
  clear hW H0 H1 hl0 hl1
  go_enter Try.func28, Try.ntmps28
  go_wp2_with fail
  rw [HW.out]
  refine (hS _ hB).mono ?_
  rintro e w1 ⟨rfl, hb1⟩
  have hB1 := below_after_of hB hb1
  clear hS x0 x1 x2 x3 x4 x5 x6 x7 y0 y1 y2 y3 y4 y5 y6 y7
  obtain ⟨⟨x0, x1, x2, x3, x4, x5, x6, x7⟩, -⟩ := eight_cells (HF.out _ hb1).1
  obtain ⟨⟨y0, y1, y2, y3, y4, y5, y6, y7⟩, -⟩ := eight_cells (HF.out _ hb1).2
  clear hb1
  go_wp2
  refine wp_loop_rounds 1 ?_; rw [rounds_succ]
  go_wp2
  go_ret
  exact ⟨rfl, hB1⟩
end U
end Go.Proofs.Ytcdodpcdennemaa

/- Servers: what the laws' helpers and both SameServers answer, as structures. -/
namespace Go.Proofs.Ytcdodpcdennemaa
open Go.RowKit
namespace U
structure ToV (w : World) (s : St) (g : Lgl) (ph cu : Int) (a1 a2 a3 a4 a5 : Option Addr) (n1 n2 n3 n4 n5 c1 c2 c3 c4 c5 : Nat) (sf : Int) : Prop where
  c : ∀ w', Below w.heap.size w w' → Calls Try.prog 29 #[.agg #[.int .i64 ph, .int .i64 cu, .slice a1 n1 c1, .slice a2 n2 c2, .slice a3 n3 c3, .slice a4 n4 c4, .slice a5 n5 c5, .int .i64 sf]] w' fun e w'' => ∃ b1 b2 b3 b4 b5 d1 d2 d3 d4 d5, e = .returned (.agg #[.int .i64 ph, .int .i64 cu, .slice b1 n1 d1, .slice b2 n2 d2, .slice b3 n3 d3, .slice b4 n4 d4, .slice b5 n5 d5, .int .i64 sf]) ∧ Below w'.heap.size w' w'' ∧ Sts w'' (sv b1 b2 b3 b4 n1 n2 n3 n4 d1 d2 d3 d4) s ∧ Lgs w'' (.slice b5 n5 d5) g
set_option maxRecDepth 100000 in
theorem ToV.mk' {w : World} {s : St} {g : Lgl} {a1 a2 a3 a4 a5 : Option Addr} {c1 c2 c3 c4 c5 : Nat} {sf : Int} (h : Sts w (sv a1 a2 a3 a4 s.d.length s.n.length s.h.length s.p.length c1 c2 c3 c4) s) (hg : Lgs w (.slice a5 g.length c5) g) (hB : StB s) (hgl : g.length ≤ 1048576) (hgb : ∀ j, j < g.length → (lAt g j).length ≤ 1048576) : ToV w s g s.ph s.cu a1 a2 a3 a4 a5 s.d.length s.n.length s.h.length s.p.length g.length c1 c2 c3 c4 c5 sf := ⟨fun w' hb => by
  refine (toServer_gen s g s.ph s.cu a1 a2 a3 a4 a5 s.d.length s.n.length s.h.length s.p.length g.length c1 c2 c3 c4 c5 sf w' (ToS.mk' (h.below hb) hB) rfl (fun w'' h2 => toByteSS_any _ g w'' ((hg.below hb).below h2) hgl hgb)).mono ?_
  rintro e w'' ⟨b1, b2, b3, b4, b5, d1, d2, d3, d4, d5, rfl, k1, k2, k3⟩
  exact ⟨b1, b2, b3, b4, b5, d1, d2, d3, d4, d5, rfl, k1, k2, k3⟩⟩
structure EqV (s : St) (g : Lgl) (ph cu : Int) (n1 n2 n3 n4 n5 : Nat) (sf : Int) : Prop where
  c : ∀ (w' : World) (a1 a2 a3 a4 a5 b1 b2 b3 b4 b5 : Option Addr) (c1 c2 c3 c4 c5 d1 d2 d3 d4 d5 : Nat), Sts w' (sv a1 a2 a3 a4 n1 n2 n3 n4 c1 c2 c3 c4) s → Lgs w' (.slice a5 n5 c5) g → Sts w' (sv b1 b2 b3 b4 n1 n2 n3 n4 d1 d2 d3 d4) s → Lgs w' (.slice b5 n5 d5) g → Calls Try.prog 31 #[.agg #[.int .i64 ph, .int .i64 cu, .slice a1 n1 c1, .slice a2 n2 c2, .slice a3 n3 c3, .slice a4 n4 c4, .slice a5 n5 c5, .int .i64 sf], .agg #[.int .i64 ph, .int .i64 cu, .slice b1 n1 d1, .slice b2 n2 d2, .slice b3 n3 d3, .slice b4 n4 d4, .slice b5 n5 d5, .int .i64 sf]] w' fun e w'' => e = .returned (.bool true) ∧ Below w'.heap.size w' w''
set_option maxRecDepth 100000 in
theorem EqV.mk' {s : St} {g : Lgl} {sf : Int} (hB : StB s) (hgl : g.length ≤ 1048576) (hgb : ∀ j, j < g.length → (lAt g j).length ≤ 1048576) : EqV s g s.ph s.cu s.d.length s.n.length s.h.length s.p.length g.length sf := ⟨fun w' a1 a2 a3 a4 a5 b1 b2 b3 b4 b5 c1 c2 c3 c4 c5 d1 d2 d3 d4 d5 h1 h2 h3 h4 =>
  eqServer_gen s.ph s.cu a1 a2 a3 a4 a5 b1 b2 b3 b4 b5 s.d.length s.n.length s.h.length s.p.length g.length c1 c2 c3 c4 c5 d1 d2 d3 d4 d5 sf w' (fun w'' hb => (EqS.mk' hB).c w'' a1 a2 a3 a4 b1 b2 b3 b4 c1 c2 c3 c4 d1 d2 d3 d4 (h1.below hb) (h3.below hb)) (fun w'' hb => eqByteSS_same _ _ g w'' (h2.below hb) (h4.below hb) hgl hgb)⟩
structure SpV (s t : St) (g g' : Lgl) (ph cu ph' cu' : Int) (n1 n2 n3 n4 n5 m1 m2 m3 m4 m5 : Nat) (sf sf' : Int) (q : Bool) : Prop where
  c : ∀ (w' : World) (a1 a2 a3 a4 a5 b1 b2 b3 b4 b5 : Option Addr) (c1 c2 c3 c4 c5 k1 k2 k3 k4 k5 : Nat), Sts w' (sv a1 a2 a3 a4 n1 n2 n3 n4 c1 c2 c3 c4) s → Lgs w' (.slice a5 n5 c5) g → Sts w' (sv b1 b2 b3 b4 m1 m2 m3 m4 k1 k2 k3 k4) t → Lgs w' (.slice b5 m5 k5) g' → Calls Try.prog 28 #[.agg #[.int .i64 ph, .int .i64 cu, .slice a1 n1 c1, .slice a2 n2 c2, .slice a3 n3 c3, .slice a4 n4 c4, .slice a5 n5 c5, .int .i64 sf], .agg #[.int .i64 ph', .int .i64 cu', .slice b1 m1 k1, .slice b2 m2 k2, .slice b3 m3 k3, .slice b4 m4 k4, .slice b5 m5 k5, .int .i64 sf']] w' fun e w'' => e = .returned (.bool q) ∧ Below w'.heap.size w' w''
structure ImV (s t : St) (g g' : Lgl) (ph cu ph' cu' : Int) (n1 n2 n3 n4 n5 m1 m2 m3 m4 m5 : Nat) (sf sf' : Int) (q : Bool) : Prop where
  c : ∀ (w' : World) (a1 a2 a3 a4 a5 b1 b2 b3 b4 b5 : Option Addr) (c1 c2 c3 c4 c5 k1 k2 k3 k4 k5 : Nat), Sts w' (sv a1 a2 a3 a4 n1 n2 n3 n4 c1 c2 c3 c4) s → Lgs w' (.slice a5 n5 c5) g → Sts w' (sv b1 b2 b3 b4 m1 m2 m3 m4 k1 k2 k3 k4) t → Lgs w' (.slice b5 m5 k5) g' → Calls Try.prog 30 #[.agg #[.int .i64 ph, .int .i64 cu, .slice a1 n1 c1, .slice a2 n2 c2, .slice a3 n3 c3, .slice a4 n4 c4, .slice a5 n5 c5, .int .i64 sf], .agg #[.int .i64 ph', .int .i64 cu', .slice b1 m1 k1, .slice b2 m2 k2, .slice b3 m3 k3, .slice b4 m4 k4, .slice b5 m5 k5, .int .i64 sf']] w' fun e w'' => e = .returned (.bool q) ∧ Below w'.heap.size w' w''
set_option maxRecDepth 100000 in
theorem ImV.mk' {s t : St} {g g' : Lgl} {sf sf' : Int} (hB : StB s) (hC : StB t) (hgl : g.length ≤ 1048576) (hgl' : g'.length ≤ 1048576) (hbt : ∀ j, j < g.length → Bts (lAt g j)) (hbt' : ∀ j, j < g'.length → Bts (lAt g' j)) : ImV s t g g' s.ph s.cu t.ph t.cu s.d.length s.n.length s.h.length s.p.length g.length t.d.length t.n.length t.h.length t.p.length g'.length sf sf' ((sf == sf') && (ssB s t && eqG g g')) := ⟨fun w' a1 a2 a3 a4 a5 b1 b2 b3 b4 b5 c1 c2 c3 c4 c5 k1 k2 k3 k4 k5 h1 h2 h3 h4 =>
  implSameServers_gen s.ph s.cu t.ph t.cu a1 a2 a3 a4 a5 b1 b2 b3 b4 b5 s.d.length s.n.length s.h.length s.p.length g.length t.d.length t.n.length t.h.length t.p.length g'.length c1 c2 c3 c4 c5 k1 k2 k3 k4 k5 sf sf' (ssB s t) (eqG g g') w' (fun w'' hb => by
    have := implSameStates_any s t _ _ w'' (h1.below hb) (h3.below hb) hB hC
    unfold stV sv at this
    exact this) (fun w'' hb => lgEq_any _ _ g g' w'' (h2.below hb) (h4.below hb) hgl hgl' hbt hbt')⟩
set_option maxRecDepth 100000 in
theorem SpV.mk' {s t : St} {g g' : Lgl} {sf sf' : Int} (hB : StB s) (hC : StB t) (hgl : g.length ≤ 1048576) (hgl' : g'.length ≤ 1048576) (hbt : ∀ j, j < g.length → Bts (lAt g j)) (hbt' : ∀ j, j < g'.length → Bts (lAt g' j)) : SpV s t g g' s.ph s.cu t.ph t.cu s.d.length s.n.length s.h.length s.p.length g.length t.d.length t.n.length t.h.length t.p.length g'.length sf sf' ((sf == sf') && (ssB s t && eqG g g')) := ⟨fun w' a1 a2 a3 a4 a5 b1 b2 b3 b4 b5 c1 c2 c3 c4 c5 k1 k2 k3 k4 k5 h1 h2 h3 h4 => by
  have hS := fun w'' (hb : Below w'.heap.size w' w'') => specSameStates_any s t _ _ w'' (h1.below hb) (h3.below hb) hB hC
  unfold stV sv at hS
  rcases Bool.eq_false_or_eq_true (sf == sf') with h0 | h0
  · rw [h0, Bool.true_and]
    have h0' : (sf != sf') = false := by simp [bne, h0]
    by_cases hn : g.length = g'.length
    · rcases Bool.eq_false_or_eq_true (ssB s t) with hq | hq
      · rw [hq, Bool.true_and]
        rw [hq] at hS
        by_cases hp : 0 < g.length
        · obtain ⟨-, b, off, e, hb, hc⟩ := h2.at hp
          obtain ⟨-, b', off', e', hb', hc'⟩ := h4.at (by omega)
          subst e e'
          rw [← hn]
          exact specSameServers_core s.ph s.cu t.ph t.cu a1 a2 a3 a4 b1 b2 b3 b4 b off b' off' s.d.length s.n.length s.h.length s.p.length g.length t.d.length t.n.length t.h.length t.p.length c1 c2 c3 c4 c5 k1 k2 k3 k4 k5 sf sf' g g' w' hgl ⟨rfl, hn⟩ hb hb' hc (fun j hj => hc' j (by omega)) hbt (fun j hj => hbt' j (by omega)) h0' hS
        · have e1 : g = [] := List.eq_nil_of_length_eq_zero (by omega)
          have e2 : g' = [] := List.eq_nil_of_length_eq_zero (by omega)
          subst e1 e2
          exact specSameServers_nil s.ph s.cu t.ph t.cu a1 a2 a3 a4 a5 b1 b2 b3 b4 b5 s.d.length s.n.length s.h.length s.p.length t.d.length t.n.length t.h.length t.p.length c1 c2 c3 c4 c5 k1 k2 k3 k4 k5 sf sf' w' h0' hS
      · rw [hq, Bool.false_and]
        exact specSameServers_no s.ph s.cu t.ph t.cu a1 a2 a3 a4 a5 b1 b2 b3 b4 b5 s.d.length s.n.length s.h.length s.p.length g.length t.d.length t.n.length t.h.length t.p.length g'.length c1 c2 c3 c4 c5 k1 k2 k3 k4 k5 sf sf' (ssB s t) w' hS (Or.inr (Or.inr hq))
    · rw [eqG_len hn, Bool.and_false]
      exact specSameServers_no s.ph s.cu t.ph t.cu a1 a2 a3 a4 a5 b1 b2 b3 b4 b5 s.d.length s.n.length s.h.length s.p.length g.length t.d.length t.n.length t.h.length t.p.length g'.length c1 c2 c3 c4 c5 k1 k2 k3 k4 k5 sf sf' (ssB s t) w' hS (Or.inr (Or.inl hn))
  · rw [h0, Bool.false_and]
    exact specSameServers_no s.ph s.cu t.ph t.cu a1 a2 a3 a4 a5 b1 b2 b3 b4 b5 s.d.length s.n.length s.h.length s.p.length g.length t.d.length t.n.length t.h.length t.p.length g'.length c1 c2 c3 c4 c5 k1 k2 k3 k4 k5 sf sf' (ssB s t) w' hS (Or.inl h0)⟩
/-- How much is left behind a server. -/
def svZ (s : St) (g : Lgl) (z : Int) : Int := if szS s z < 0 then -1 else zgL g (szS s z)
theorem svZ_ok {s : St} {g : Lgl} {z : Int} (h0 : 0 ≤ z) (hz : z ≤ 1048576) (h : ¬ svZ s g z < 0) : StB s ∧ g.length ≤ 1048576 ∧ (∀ j, j < g.length → (lAt g j).length ≤ 1048576) ∧ 0 ≤ svZ s g z ∧ svZ s g z ≤ z := by
  unfold svZ at h ⊢
  by_cases h1 : szS s z < 0
  · rw [if_pos h1] at h; omega
  · rw [if_neg h1] at h ⊢
    obtain ⟨hB, hz0, hz1⟩ := szS_ok (s := s) (z := z) h0 hz h1
    obtain ⟨k1, k2⟩ := zgS_ok (p := g) (z := szS s z) (by omega) (by omega) h
    refine ⟨hB, k1, k2, by omega, ?_⟩
    have h3 := zgS_le (p := g) (z := szS s z) (by omega) g.length
    unfold zgL at h ⊢
    by_cases h4 : zgS g (szS s z) g.length < 0
    · rw [if_pos h4]; omega
    · rw [if_neg h4]; omega
set_option maxRecDepth 100000 in
theorem szServer_any (s : St) (g : Lgl) (a1 a2 a3 a4 a5 : Option Addr) (c1 c2 c3 c4 c5 : Nat) (sf z : Int) (w : World) (h : Sts w (sv a1 a2 a3 a4 s.d.length s.n.length s.h.length s.p.length c1 c2 c3 c4) s) (hA : StA s) (hg : Lgs w (.slice a5 g.length c5) g) (hgl : g.length ≤ maxLen) (hgb : ∀ j, j < g.length → (lAt g j).length ≤ maxLen ∧ Bts (lAt g j)) (hz : 0 ≤ z ∧ z ≤ 1048576) :
    Calls Try.prog 27 #[.agg #[.int .i64 s.ph, .int .i64 s.cu, .slice a1 s.d.length c1, .slice a2 s.n.length c2, .slice a3 s.h.length c3, .slice a4 s.p.length c4, .slice a5 g.length c5, .int .i64 sf], .int .i64 z] w fun e w' => e = .returned (.int .i64 (svZ s g z)) ∧ Below w.heap.size w w' := by
  have hok := fun h => szS_ok (s := s) (z := z) hz.1 hz.2 h
  refine szServer_gen s.ph s.cu a1 a2 a3 a4 a5 s.d.length s.n.length s.h.length s.p.length g.length c1 c2 c3 c4 c5 sf z (szS s z) (zgL g (szS s z)) w (fun w' hb => by
    have := szState_any s _ z w' (h.below hb) hA hz
    unfold stV sv at this
    exact this) (fun hq w' hb => szByteSS_any _ g (szS s z) w' (hg.below hb) (fun j hj => (hgb j hj).1) hgl ⟨(hok hq).2.1, by have := (hok hq).2.2; omega⟩) (fun hr => by
    unfold zgL at hr ⊢
    by_cases h4 : zgS g (szS s z) g.length < 0
    · rw [if_pos h4]
    · rw [if_neg h4] at hr; exact absurd hr h4)
end U
end Go.Proofs.Ytcdodpcdennemaa

/- The law on SameServers, walked: true, and nothing that was there has turned. -/
namespace Go.Proofs.Ytcdodpcdennemaa
open Go.RowKit
namespace U
structure VA (w : World) (s : St) (g : Lgl) (ph cu : Int) (a1 a2 a3 a4 a5 : Option Addr) (n1 n2 n3 n4 n5 c1 c2 c3 c4 c5 : Nat) (sf : Int) : Prop where
  t : ToV w s g ph cu a1 a2 a3 a4 a5 n1 n2 n3 n4 n5 c1 c2 c3 c4 c5 sf
structure VB (w : World) (s : St) (g : Lgl) (ph cu : Int) (a1 a2 a3 a4 a5 : Option Addr) (n1 n2 n3 n4 n5 c1 c2 c3 c4 c5 : Nat) (sf : Int) : Prop where
  t : ToV w s g ph cu a1 a2 a3 a4 a5 n1 n2 n3 n4 n5 c1 c2 c3 c4 c5 sf
set_option maxRecDepth 100000 in
set_option maxHeartbeats 8000000 in
theorem fnExactSameServers_core (s t : St) (g g' : Lgl) (a1 a2 a3 a4 a5 b1 b2 b3 b4 b5 : Option Addr) (c1 c2 c3 c4 c5 k1 k2 k3 k4 k5 : Nat) (sf sf' : Int) (w : World) (hv : Sts w (sv a1 a2 a3 a4 s.d.length s.n.length s.h.length s.p.length c1 c2 c3 c4) s) (hA : StA s) (hg : Lgs w (.slice a5 g.length c5) g) (hgl : g.length ≤ maxLen) (hgb : ∀ j, j < g.length → (lAt g j).length ≤ maxLen ∧ Bts (lAt g j)) (hu : Sts w (sv b1 b2 b3 b4 t.d.length t.n.length t.h.length t.p.length k1 k2 k3 k4) t) (hA' : StA t) (hg' : Lgs w (.slice b5 g'.length k5) g') (hgl' : g'.length ≤ maxLen) (hgb' : ∀ j, j < g'.length → (lAt g' j).length ≤ maxLen ∧ Bts (lAt g' j)) :
    Calls Try.prog 6 #[.agg #[.int .i64 s.ph, .int .i64 s.cu, .slice a1 s.d.length c1, .slice a2 s.n.length c2, .slice a3 s.h.length c3, .slice a4 s.p.length c4, .slice a5 g.length c5, .int .i64 sf], .agg #[.int .i64 t.ph, .int .i64 t.cu, .slice b1 t.d.length k1, .slice b2 t.n.length k2, .slice b3 t.h.length k3, .slice b4 t.p.length k4, .slice b5 g'.length k5, .int .i64 sf']] w fun e w' => e = .returned (.bool true) ∧ Below w.heap.size w w' := by
  obtain ⟨W, hW⟩ : ∃ W, W = (w.alloc (.cells #[.int .i64 s.ph, .int .i64 s.cu, .slice a1 s.d.length c1, .slice a2 s.n.length c2, .slice a3 s.h.length c3, .slice a4 s.p.length c4, .slice a5 g.length c5, .int .i64 sf] 71)).alloc (.cells #[.int .i64 t.ph, .int .i64 t.cu, .slice b1 t.d.length k1, .slice b2 t.n.length k2, .slice b3 t.h.length k3, .slice b4 t.p.length k4, .slice b5 g'.length k5, .int .i64 sf'] 71) := ⟨_, rfl⟩
  have hBW : Below w.heap.size w W := by rw [hW]; exact two_new _ _
  have hZ := szServer_any s g a1 a2 a3 a4 a5 c1 c2 c3 c4 c5 sf 1048576 W (hv.below hBW) hA (hg.below hBW) hgl hgb (by omega)
  have hok := fun h => svZ_ok (s := s) (g := g) (z := 1048576) (by omega) (by omega) h
  have hZ2 := fun z w' (h : Below W.heap.size W w') hz => szServer_any t g' b1 b2 b3 b4 b5 k1 k2 k3 k4 k5 sf' z w' ((hu.below hBW).below h) hA' ((hg'.below hBW).below h) hgl' hgb' hz
  have hok2 := fun z h0 hz h => svZ_ok (s := t) (g := g') (z := z) h0 hz h
  have H0 : W.heap[w.heap.size]? = some (.cells #[.int .i64 s.ph, .int .i64 s.cu, .slice a1 s.d.length c1, .slice a2 s.n.length c2, .slice a3 s.h.length c3, .slice a4 s.p.length c4, .slice a5 g.length c5, .int .i64 sf] 71) := by
    rw [hW]; exact ((one_new _).block w.heap.size (by simp)).trans (heap_alloc_new w _)
  have H1 : W.heap[w.heap.size + 1]? = some (.cells #[.int .i64 t.ph, .int .i64 t.cu, .slice b1 t.d.length k1, .slice b2 t.n.length k2, .slice b3 t.h.length k3, .slice b4 t.p.length k4, .slice b5 g'.length k5, .int .i64 sf'] 71) := by
    have h := heap_alloc_new (w.alloc (.cells #[.int .i64 s.ph, .int .i64 s.cu, .slice a1 s.d.length c1, .slice a2 s.n.length c2, .slice a3 s.h.length c3, .slice a4 s.p.length c4, .slice a5 g.length c5, .int .i64 sf] 71)) (.cells #[.int .i64 t.ph, .int .i64 t.cu, .slice b1 t.d.length k1, .slice b2 t.n.length k2, .slice b3 t.h.length k3, .slice b4 t.p.length k4, .slice b5 g'.length k5, .int .i64 sf'] 71)
    rw [World.size_alloc] at h
    rw [hW]; exact h
  have hl0 := (Array.getElem?_eq_some_iff.1 H0).1
  have hl1 := (Array.getElem?_eq_some_iff.1 H1).1
  have HF := fun w' (hb : Below W.heap.size W w') => And.intro (eight_cells ((hb.block _ hl0).trans H0)).1 (eight_cells ((hb.block _ hl1).trans H1)).1
  obtain ⟨⟨x0, x1, x2, x3, x4, x5, x6, x7⟩, y0, y1, y2, y3, y4, y5, y6, y7⟩ := HF W (Below.refl _ _)
  have hbt := fun j hj => (hgb j hj).2
  have hbt' := fun j hj => (hgb' j hj).2
  clear H0 H1 hl0 hl1 hgb hgb' hgl hgl' hA hA'
  generalize svZ s g 1048576 = z at *
  by_cases h : z < 0
  · clear hbt hbt' hok hok2 hZ2 HF hg hg' hv hu
    generalize s.ph = ph at *
    generalize s.cu = cu at *
    generalize s.d.length = n1 at *
    generalize s.n.length = n2 at *
    generalize s.h.length = n3 at *
    generalize s.p.length = n4 at *
    generalize g.length = n5 at *
    generalize t.ph = ph' at *
    generalize t.cu = cu' at *
    generalize t.d.length = m1 at *
    generalize t.n.length = m2 at *
    generalize t.h.length = m3 at *
    generalize t.p.length = m4 at *
    generalize g'.length = m5 at *
    have HW : Hid ((w.alloc (.cells #[.int .i64 ph, .int .i64 cu, .slice a1 n1 c1, .slice a2 n2 c2, .slice a3 n3 c3, .slice a4 n4 c4, .slice a5 n5 c5, .int .i64 sf] 71)).alloc (.cells #[.int .i64 ph', .int .i64 cu', .slice b1 m1 k1, .slice b2 m2 k2, .slice b3 m3 k3, .slice b4 m4 k4, .slice b5 m5 k5, .int .i64 sf'] 71) = W) := hW.symm
    clear hW
    go_enter Try.func6, Try.ntmps6
    go_wp2_with fail
    rw [HW.out]
    refine hZ.mono ?_
    rintro e w1 ⟨rfl, hb1⟩
    clear hZ x0 x1 x2 x3 x4 x5 x6 x7 y0 y1 y2 y3 y4 y5 y6 y7
    go_wp2
    go_ret
    exact ⟨rfl, below_after_of hBW hb1⟩
  · obtain ⟨hB, hG1, hG2, hz0, hz1⟩ := hok h
    have hZ3 := fun w' h => hZ2 z w' h ⟨hz0, by omega⟩
    have hok3 := hok2 z hz0 (by omega)
    generalize svZ t g' z = z2 at *
    by_cases h2 : z2 < 0
    · clear hbt hbt' hok hok2 hZ2 hg hg' hv hu hok3 hB hG1 hG2
      generalize s.ph = ph at *
      generalize s.cu = cu at *
      generalize s.d.length = n1 at *
      generalize s.n.length = n2 at *
      generalize s.h.length = n3 at *
      generalize s.p.length = n4 at *
      generalize g.length = n5 at *
      generalize t.ph = ph' at *
      generalize t.cu = cu' at *
      generalize t.d.length = m1 at *
      generalize t.n.length = m2 at *
      generalize t.h.length = m3 at *
      generalize t.p.length = m4 at *
      generalize g'.length = m5 at *
      have HW : Hid ((w.alloc (.cells #[.int .i64 ph, .int .i64 cu, .slice a1 n1 c1, .slice a2 n2 c2, .slice a3 n3 c3, .slice a4 n4 c4, .slice a5 n5 c5, .int .i64 sf] 71)).alloc (.cells #[.int .i64 ph', .int .i64 cu', .slice b1 m1 k1, .slice b2 m2 k2, .slice b3 m3 k3, .slice b4 m4 k4, .slice b5 m5 k5, .int .i64 sf'] 71) = W) := hW.symm
      have HXY : Hid (∀ w', Below W.heap.size W w' → (w'.cell? ⟨w.heap.size, 0, none⟩ = some (.int .i64 ph) ∧ w'.cell? ⟨w.heap.size, 1, none⟩ = some (.int .i64 cu) ∧ w'.cell? ⟨w.heap.size, 2, none⟩ = some (.slice a1 n1 c1) ∧ w'.cell? ⟨w.heap.size, 3, none⟩ = some (.slice a2 n2 c2) ∧ w'.cell? ⟨w.heap.size, 4, none⟩ = some (.slice a3 n3 c3) ∧ w'.cell? ⟨w.heap.size, 5, none⟩ = some (.slice a4 n4 c4) ∧ w'.cell? ⟨w.heap.size, 6, none⟩ = some (.slice a5 n5 c5) ∧ w'.cell? ⟨w.heap.size, 7, none⟩ = some (.int .i64 sf)) ∧ (w'.cell? ⟨w.heap.size + 1, 0, none⟩ = some (.int .i64 ph') ∧ w'.cell? ⟨w.heap.size + 1, 1, none⟩ = some (.int .i64 cu') ∧ w'.cell? ⟨w.heap.size + 1, 2, none⟩ = some (.slice b1 m1 k1) ∧ w'.cell? ⟨w.heap.size + 1, 3, none⟩ = some (.slice b2 m2 k2) ∧ w'.cell? ⟨w.heap.size + 1, 4, none⟩ = some (.slice b3 m3 k3) ∧ w'.cell? ⟨w.heap.size + 1, 5, none⟩ = some (.slice b4 m4 k4) ∧ w'.cell? ⟨w.heap.size + 1, 6, none⟩ = some (.slice b5 m5 k5) ∧ w'.cell? ⟨w.heap.size + 1, 7, none⟩ = some (.int .i64 sf'))) := HF
      clear hW HF
      go_enter Try.func6, Try.ntmps6
      go_wp2_with fail
      rw [HW.out]
      refine hZ.mono ?_
      rintro e w1 ⟨rfl, hb1⟩
      clear hZ HW x0 x1 x2 x3 x4 x5 x6 x7 y0 y1 y2 y3 y4 y5 y6 y7
      obtain ⟨⟨x0, x1, x2, x3, x4, x5, x6, x7⟩, y0, y1, y2, y3, y4, y5, y6, y7⟩ := HXY.out _ hb1
      go_wp2_with fail
      refine (hZ3 _ hb1).mono ?_
      rintro e w2 ⟨rfl, hb2⟩
      clear hZ3 x0 x1 x2 x3 x4 x5 x6 x7 y0 y1 y2 y3 y4 y5 y6 y7
      go_wp2
      go_ret
      exact ⟨rfl, below_after_of (below_after_of hBW hb1) hb2⟩
    · obtain ⟨hC, hG1', hG2', -, -⟩ := hok3 h2
      have HTA := ToV.mk' (sf := sf) hv hg hB hG1 hG2
      have HTB := ToV.mk' (sf := sf') hu hg' hC hG1' hG2'
      have KTA := VA.mk HTA
      have KTB := VB.mk HTB
      have HEA := EqV.mk' (sf := sf) hB hG1 hG2
      have HEB := EqV.mk' (sf := sf') hC hG1' hG2'
      have HS := SpV.mk' (sf := sf) (sf' := sf') hB hC hG1 hG1' hbt hbt'
      have HI := ImV.mk' (sf := sf) (sf' := sf') hB hC hG1 hG1' hbt hbt'
      have hbne : ∀ q : Bool, (q != q) = false := fun q => by cases q <;> rfl
      generalize ((sf == sf') && (ssB s t && eqG g g')) = q at *
      clear hbt hbt' hok hok2 hZ2 hg hg' hv hu hok3 hB hG1 hG2 hC hG1' hG2'
      generalize s.ph = ph at *
      generalize s.cu = cu at *
      generalize s.d.length = n1 at *
      generalize s.n.length = n2 at *
      generalize s.h.length = n3 at *
      generalize s.p.length = n4 at *
      generalize g.length = n5 at *
      generalize t.ph = ph' at *
      generalize t.cu = cu' at *
      generalize t.d.length = m1 at *
      generalize t.n.length = m2 at *
      generalize t.h.length = m3 at *
      generalize t.p.length = m4 at *
      generalize g'.length = m5 at *
      have HW : Hid ((w.alloc (.cells #[.int .i64 ph, .int .i64 cu, .slice a1 n1 c1, .slice a2 n2 c2, .slice a3 n3 c3, .slice a4 n4 c4, .slice a5 n5 c5, .int .i64 sf] 71)).alloc (.cells #[.int .i64 ph', .int .i64 cu', .slice b1 m1 k1, .slice b2 m2 k2, .slice b3 m3 k3, .slice b4 m4 k4, .slice b5 m5 k5, .int .i64 sf'] 71) = W) := hW.symm
      have HXY : Hid (∀ w', Below W.heap.size W w' → (w'.cell? ⟨w.heap.size, 0, none⟩ = some (.int .i64 ph) ∧ w'.cell? ⟨w.heap.size, 1, none⟩ = some (.int .i64 cu) ∧ w'.cell? ⟨w.heap.size, 2, none⟩ = some (.slice a1 n1 c1) ∧ w'.cell? ⟨w.heap.size, 3, none⟩ = some (.slice a2 n2 c2) ∧ w'.cell? ⟨w.heap.size, 4, none⟩ = some (.slice a3 n3 c3) ∧ w'.cell? ⟨w.heap.size, 5, none⟩ = some (.slice a4 n4 c4) ∧ w'.cell? ⟨w.heap.size, 6, none⟩ = some (.slice a5 n5 c5) ∧ w'.cell? ⟨w.heap.size, 7, none⟩ = some (.int .i64 sf)) ∧ (w'.cell? ⟨w.heap.size + 1, 0, none⟩ = some (.int .i64 ph') ∧ w'.cell? ⟨w.heap.size + 1, 1, none⟩ = some (.int .i64 cu') ∧ w'.cell? ⟨w.heap.size + 1, 2, none⟩ = some (.slice b1 m1 k1) ∧ w'.cell? ⟨w.heap.size + 1, 3, none⟩ = some (.slice b2 m2 k2) ∧ w'.cell? ⟨w.heap.size + 1, 4, none⟩ = some (.slice b3 m3 k3) ∧ w'.cell? ⟨w.heap.size + 1, 5, none⟩ = some (.slice b4 m4 k4) ∧ w'.cell? ⟨w.heap.size + 1, 6, none⟩ = some (.slice b5 m5 k5) ∧ w'.cell? ⟨w.heap.size + 1, 7, none⟩ = some (.int .i64 sf'))) := HF
      have HBW : Hid (∀ w', Below W.heap.size W w' → Below w.heap.size w w') := fun w' hb => below_after_of hBW hb
      clear hW HF hBW
      go_enter Try.func6, Try.ntmps6
      go_wp2_with fail
      rw [HW.out]
      refine hZ.mono ?_
      rintro e w1 ⟨rfl, hb1⟩
      clear hZ HW x0 x1 x2 x3 x4 x5 x6 x7 y0 y1 y2 y3 y4 y5 y6 y7
      obtain ⟨⟨x0, x1, x2, x3, x4, x5, x6, x7⟩, y0, y1, y2, y3, y4, y5, y6, y7⟩ := HXY.out _ hb1
      go_wp2_with fail
      refine (hZ3 _ hb1).mono ?_
      rintro e w2 ⟨rfl, hb2⟩
      have hbW : Below W.heap.size W w2 := below_after_of hb1 hb2
      clear hZ3 hb1 hb2 x0 x1 x2 x3 x4 x5 x6 x7 y0 y1 y2 y3 y4 y5 y6 y7
      obtain ⟨⟨x0, x1, x2, x3, x4, x5, x6, x7⟩, y0, y1, y2, y3, y4, y5, y6, y7⟩ := HXY.out _ hbW
      go_wp2_with fail
      go_region_held3 (fun w' => (w'.cell? ⟨w.heap.size, 0, none⟩ = some (.int .i64 ph) ∧ w'.cell? ⟨w.heap.size, 1, none⟩ = some (.int .i64 cu) ∧ w'.cell? ⟨w.heap.size, 2, none⟩ = some (.slice a1 n1 c1) ∧ w'.cell? ⟨w.heap.size, 3, none⟩ = some (.slice a2 n2 c2) ∧ w'.cell? ⟨w.heap.size, 4, none⟩ = some (.slice a3 n3 c3) ∧ w'.cell? ⟨w.heap.size, 5, none⟩ = some (.slice a4 n4 c4) ∧ w'.cell? ⟨w.heap.size, 6, none⟩ = some (.slice a5 n5 c5) ∧ w'.cell? ⟨w.heap.size, 7, none⟩ = some (.int .i64 sf)) ∧ (w'.cell? ⟨w.heap.size + 1, 0, none⟩ = some (.int .i64 ph') ∧ w'.cell? ⟨w.heap.size + 1, 1, none⟩ = some (.int .i64 cu') ∧ w'.cell? ⟨w.heap.size + 1, 2, none⟩ = some (.slice b1 m1 k1) ∧ w'.cell? ⟨w.heap.size + 1, 3, none⟩ = some (.slice b2 m2 k2) ∧ w'.cell? ⟨w.heap.size + 1, 4, none⟩ = some (.slice b3 m3 k3) ∧ w'.cell? ⟨w.heap.size + 1, 5, none⟩ = some (.slice b4 m4 k4) ∧ w'.cell? ⟨w.heap.size + 1, 6, none⟩ = some (.slice b5 m5 k5) ∧ w'.cell? ⟨w.heap.size + 1, 7, none⟩ = some (.int .i64 sf')))
        (first | with_reducible exact ⟨⟨x0, x1, x2, x3, x4, x5, x6, x7⟩, y0, y1, y2, y3, y4, y5, y6, y7⟩ | with_reducible exact HXY.out _ hbW | with_reducible exact HXY.out _ hbW.drew)
        (first
          | (go_at_call 29; refine ((VA.t (by assumption)).c _ (by first | exact HBW.out _ hbW | exact HBW.out _ hbW.drew)).mono ?_; rintro e w5 ⟨d1, d2, d3, d4, d5, f1, f2, f3, f4, f5, rfl, h5, R5, G5⟩; have hbW : Below W.heap.size W w5 := (by first | exact below_after_of hbW h5 | exact below_after_of hbW.drew h5); clear h5)
          | (go_at_call 29; refine ((VB.t (by assumption)).c _ (by first | exact HBW.out _ hbW | exact HBW.out _ hbW.drew)).mono ?_; rintro e w6 ⟨g1, g2, g3, g4, g5, j1, j2, j3, j4, j5, rfl, h6, R6, G6⟩; have R5 := R5.below h6; have G5 := G5.below h6; have hbW : Below W.heap.size W w6 := (by first | exact below_after_of hbW h6 | exact below_after_of hbW.drew h6); clear h6)
          | (go_at_call 28; refine (HS.c _ _ _ _ _ _ _ _ _ _ _ _ _ _ _ _ _ _ _ _ _ R5 G5 R6 G6).mono ?_; rintro e w7 ⟨rfl, hb7⟩; have hbW : Below W.heap.size W w7 := below_after_of hbW hb7; clear hb7))
      clear x0 x1 x2 x3 x4 x5 x6 x7 y0 y1 y2 y3 y4 y5 y6 y7 R5 R6 G5 G6 HS
      obtain ⟨⟨x0, x1, x2, x3, x4, x5, x6, x7⟩, y0, y1, y2, y3, y4, y5, y6, y7⟩ := HXY.out _ hbW
      go_wp2_with fail
      refine (HTA.c _ (HBW.out _ hbW)).mono ?_
      rintro e w8 ⟨p1, p2, p3, p4, p5, q1, q2, q3, q4, q5, rfl, h8, R8, G8⟩
      obtain ⟨W8, hW8⟩ : ∃ W8, W8 = w8.alloc (.cells #[.int .i64 ph, .int .i64 cu, .slice p1 n1 q1, .slice p2 n2 q2, .slice p3 n3 q3, .slice p4 n4 q4, .slice p5 n5 q5, .int .i64 sf] 55) := ⟨_, rfl⟩
      have hb8 : Below w8.heap.size w8 W8 := by rw [hW8]; exact one_new _
      have R8 := R8.below hb8
      have G8 := G8.below hb8
      have X8 : W8.heap[w8.heap.size]? = some (.cells #[.int .i64 ph, .int .i64 cu, .slice p1 n1 q1, .slice p2 n2 q2, .slice p3 n3 q3, .slice p4 n4 q4, .slice p5 n5 q5, .int .i64 sf] 55) := by rw [hW8]; exact heap_alloc_new w8 _
      have hbW : Below W.heap.size W W8 := below_after_of (below_after_of hbW h8) hb8
      clear x0 x1 x2 x3 x4 x5 x6 x7 y0 y1 y2 y3 y4 y5 y6 y7 h8 hb8
      obtain ⟨⟨x0, x1, x2, x3, x4, x5, x6, x7⟩, y0, y1, y2, y3, y4, y5, y6, y7⟩ := HXY.out _ hbW
      have HW8 : Hid (w8.alloc (.cells #[.int .i64 ph, .int .i64 cu, .slice p1 n1 q1, .slice p2 n2 q2, .slice p3 n3 q3, .slice p4 n4 q4, .slice p5 n5 q5, .int .i64 sf] 55) = W8) := hW8.symm
      rw [hW8] at y0 y1 y2 y3 y4 y5 y6 y7
      clear hW8 x0 x1 x2 x3 x4 x5 x6 x7
      go_wp2_with fail
      rw [HW8.out]
      refine (HTB.c _ (HBW.out _ hbW)).mono ?_
      rintro e w9 ⟨r1, r2, r3, r4, r5, s1, s2, s3, s4, s5, rfl, h9, R9, G9⟩
      clear y0 y1 y2 y3 y4 y5 y6 y7 HW8
      obtain ⟨W9, hW9⟩ : ∃ W9, W9 = w9.alloc (.cells #[.int .i64 ph', .int .i64 cu', .slice r1 m1 s1, .slice r2 m2 s2, .slice r3 m3 s3, .slice r4 m4 s4, .slice r5 m5 s5, .int .i64 sf'] 55) := ⟨_, rfl⟩
      have hb9 : Below w9.heap.size w9 W9 := by rw [hW9]; exact one_new _
      have R9 := R9.below hb9
      have G9 := G9.below hb9
      have R8 := (R8.below h9).below hb9
      have G8 := (G8.below h9).below hb9
      have X9 : W9.heap[w9.heap.size]? = some (.cells #[.int .i64 ph', .int .i64 cu', .slice r1 m1 s1, .slice r2 m2 s2, .slice r3 m3 s3, .slice r4 m4 s4, .slice r5 m5 s5, .int .i64 sf'] 55) := by rw [hW9]; exact heap_alloc_new w9 _
      have hl8 := (Array.getElem?_eq_some_iff.1 X8).1
      have X8 := (h9.block _ hl8).trans X8
      have hl8 := (Array.getElem?_eq_some_iff.1 X8).1
      have X8 := (hb9.block _ hl8).trans X8
      have hbW : Below W.heap.size W W9 := below_after_of (below_after_of hbW h9) hb9
      obtain ⟨⟨x0, x1, x2, x3, x4, x5, x6, x7⟩, -⟩ := eight_cells X8
      obtain ⟨⟨y0, y1, y2, y3, y4, y5, y6, y7⟩, -⟩ := eight_cells X9
      have HW9 : Hid (w9.alloc (.cells #[.int .i64 ph', .int .i64 cu', .slice r1 m1 s1, .slice r2 m2 s2, .slice r3 m3 s3, .slice r4 m4 s4, .slice r5 m5 s5, .int .i64 sf'] 55) = W9) := hW9.symm
      have hI := HI.c _ _ _ _ _ _ _ _ _ _ _ _ _ _ _ _ _ _ _ _ _ R8 G8 R9 G9
      rw [hW9] at x0 x1 x2 x3 x4 x5 x6 x7 y0 y1 y2 y3 y4 y5 y6 y7
      clear hW9 h9 hb9 HI hl8
      go_wp2_with fail
      rw [HW9.out]
      refine hI.mono ?_
      rintro e w10 ⟨rfl, hb10⟩
      clear x0 x1 x2 x3 x4 x5 x6 x7 y0 y1 y2 y3 y4 y5 y6 y7 hI HW9
      have R8 := R8.below hb10
      have R9 := R9.below hb10
      have G8 := G8.below hb10
      have G9 := G9.below hb10
      have X8 := (hb10.block _ (Array.getElem?_eq_some_iff.1 X8).1).trans X8
      have X9 := (hb10.block _ (Array.getElem?_eq_some_iff.1 X9).1).trans X9
      have hbW : Below W.heap.size W w10 := below_after_of hbW hb10
      clear hb10
      have HC8 : Hid (∀ w', Below w10.heap.size w10 w' → (w'.cell? ⟨w8.heap.size, 0, none⟩ = some (.int .i64 ph) ∧ w'.cell? ⟨w8.heap.size, 1, none⟩ = some (.int .i64 cu) ∧ w'.cell? ⟨w8.heap.size, 2, none⟩ = some (.slice p1 n1 q1) ∧ w'.cell? ⟨w8.heap.size, 3, none⟩ = some (.slice p2 n2 q2) ∧ w'.cell? ⟨w8.heap.size, 4, none⟩ = some (.slice p3 n3 q3) ∧ w'.cell? ⟨w8.heap.size, 5, none⟩ = some (.slice p4 n4 q4) ∧ w'.cell? ⟨w8.heap.size, 6, none⟩ = some (.slice p5 n5 q5) ∧ w'.cell? ⟨w8.heap.size, 7, none⟩ = some (.int .i64 sf)) ∧ (w'.cell? ⟨w.heap.size, 0, none⟩ = some (.int .i64 ph) ∧ w'.cell? ⟨w.heap.size, 1, none⟩ = some (.int .i64 cu) ∧ w'.cell? ⟨w.heap.size, 2, none⟩ = some (.slice a1 n1 c1) ∧ w'.cell? ⟨w.heap.size, 3, none⟩ = some (.slice a2 n2 c2) ∧ w'.cell? ⟨w.heap.size, 4, none⟩ = some (.slice a3 n3 c3) ∧ w'.cell? ⟨w.heap.size, 5, none⟩ = some (.slice a4 n4 c4) ∧ w'.cell? ⟨w.heap.size, 6, none⟩ = some (.slice a5 n5 c5) ∧ w'.cell? ⟨w.heap.size, 7, none⟩ = some (.int .i64 sf))) := fun w' hb => ⟨(eight_cells ((hb.block _ (Array.getElem?_eq_some_iff.1 X8).1).trans X8)).1, (HXY.out _ (below_after_of hbW hb)).1⟩
      have HC9 : Hid (∀ w', Below w10.heap.size w10 w' → (w'.cell? ⟨w9.heap.size, 0, none⟩ = some (.int .i64 ph') ∧ w'.cell? ⟨w9.heap.size, 1, none⟩ = some (.int .i64 cu') ∧ w'.cell? ⟨w9.heap.size, 2, none⟩ = some (.slice r1 m1 s1) ∧ w'.cell? ⟨w9.heap.size, 3, none⟩ = some (.slice r2 m2 s2) ∧ w'.cell? ⟨w9.heap.size, 4, none⟩ = some (.slice r3 m3 s3) ∧ w'.cell? ⟨w9.heap.size, 5, none⟩ = some (.slice r4 m4 s4) ∧ w'.cell? ⟨w9.heap.size, 6, none⟩ = some (.slice r5 m5 s5) ∧ w'.cell? ⟨w9.heap.size, 7, none⟩ = some (.int .i64 sf')) ∧ (w'.cell? ⟨w.heap.size + 1, 0, none⟩ = some (.int .i64 ph') ∧ w'.cell? ⟨w.heap.size + 1, 1, none⟩ = some (.int .i64 cu') ∧ w'.cell? ⟨w.heap.size + 1, 2, none⟩ = some (.slice b1 m1 k1) ∧ w'.cell? ⟨w.heap.size + 1, 3, none⟩ = some (.slice b2 m2 k2) ∧ w'.cell? ⟨w.heap.size + 1, 4, none⟩ = some (.slice b3 m3 k3) ∧ w'.cell? ⟨w.heap.size + 1, 5, none⟩ = some (.slice b4 m4 k4) ∧ w'.cell? ⟨w.heap.size + 1, 6, none⟩ = some (.slice b5 m5 k5) ∧ w'.cell? ⟨w.heap.size + 1, 7, none⟩ = some (.int .i64 sf'))) := fun w' hb => ⟨(eight_cells ((hb.block _ (Array.getElem?_eq_some_iff.1 X9).1).trans X9)).1, (HXY.out _ (below_after_of hbW hb)).2⟩
      have HR8 : Hid (∀ w', Below w10.heap.size w10 w' → Sts w' (sv p1 p2 p3 p4 n1 n2 n3 n4 q1 q2 q3 q4) s ∧ Lgs w' (.slice p5 n5 q5) g) := fun w' hb => ⟨R8.below hb, G8.below hb⟩
      have HR9 : Hid (∀ w', Below w10.heap.size w10 w' → Sts w' (sv r1 r2 r3 r4 m1 m2 m3 m4 s1 s2 s3 s4) t ∧ Lgs w' (.slice r5 m5 s5) g') := fun w' hb => ⟨R9.below hb, G9.below hb⟩
      have HBR : Hid (∀ w', Below w10.heap.size w10 w' → Below w.heap.size w w') := fun w' hb => HBW.out _ (below_after_of hbW hb)
      have hbx : Below w10.heap.size w10 w10 := Below.refl _ _
      clear R8 R9 G8 G9 X8 X9 hbW
      obtain ⟨⟨y0, y1, y2, y3, y4, y5, y6, y7⟩, x0, x1, x2, x3, x4, x5, x6, x7⟩ := HC8.out _ hbx
      go_wp2_with fail
      go_region_held3 (fun w' => (w'.cell? ⟨w8.heap.size, 0, none⟩ = some (.int .i64 ph) ∧ w'.cell? ⟨w8.heap.size, 1, none⟩ = some (.int .i64 cu) ∧ w'.cell? ⟨w8.heap.size, 2, none⟩ = some (.slice p1 n1 q1) ∧ w'.cell? ⟨w8.heap.size, 3, none⟩ = some (.slice p2 n2 q2) ∧ w'.cell? ⟨w8.heap.size, 4, none⟩ = some (.slice p3 n3 q3) ∧ w'.cell? ⟨w8.heap.size, 5, none⟩ = some (.slice p4 n4 q4) ∧ w'.cell? ⟨w8.heap.size, 6, none⟩ = some (.slice p5 n5 q5) ∧ w'.cell? ⟨w8.heap.size, 7, none⟩ = some (.int .i64 sf)) ∧ (w'.cell? ⟨w.heap.size, 0, none⟩ = some (.int .i64 ph) ∧ w'.cell? ⟨w.heap.size, 1, none⟩ = some (.int .i64 cu) ∧ w'.cell? ⟨w.heap.size, 2, none⟩ = some (.slice a1 n1 c1) ∧ w'.cell? ⟨w.heap.size, 3, none⟩ = some (.slice a2 n2 c2) ∧ w'.cell? ⟨w.heap.size, 4, none⟩ = some (.slice a3 n3 c3) ∧ w'.cell? ⟨w.heap.size, 5, none⟩ = some (.slice a4 n4 c4) ∧ w'.cell? ⟨w.heap.size, 6, none⟩ = some (.slice a5 n5 c5) ∧ w'.cell? ⟨w.heap.size, 7, none⟩ = some (.int .i64 sf)))
        (first | with_reducible exact ⟨⟨y0, y1, y2, y3, y4, y5, y6, y7⟩, x0, x1, x2, x3, x4, x5, x6, x7⟩ | with_reducible exact HC8.out _ hbx | with_reducible exact HC8.out _ hbx.drew)
        (first
          | (go_at_call 29; refine ((VA.t (by assumption)).c _ (by first | exact HBR.out _ hbx | exact HBR.out _ hbx.drew)).mono ?_; rintro e w11 ⟨g1, g2, g3, g4, g5, l1, l2, l3, l4, l5, rfl, h7, R7, G7⟩; have hbx : Below w10.heap.size w10 w11 := (by first | exact below_after_of hbx h7 | exact below_after_of hbx.drew h7))
          | (go_at_call 31; refine (HEA.c _ _ _ _ _ _ _ _ _ _ _ _ _ _ _ _ _ _ _ _ _ (HR8.out _ hbx).1 (HR8.out _ hbx).2 R7 G7).mono ?_; rintro e w12 ⟨rfl, hb8⟩; have hbx : Below w10.heap.size w10 w12 := below_after_of hbx hb8; clear hb8))
      clear x0 x1 x2 x3 x4 x5 x6 x7 y0 y1 y2 y3 y4 y5 y6 y7 h7 R7 G7
      obtain ⟨⟨y0, y1, y2, y3, y4, y5, y6, y7⟩, x0, x1, x2, x3, x4, x5, x6, x7⟩ := HC9.out _ hbx
      go_wp2_with fail
      go_region_held3 (fun w' => (w'.cell? ⟨w9.heap.size, 0, none⟩ = some (.int .i64 ph') ∧ w'.cell? ⟨w9.heap.size, 1, none⟩ = some (.int .i64 cu') ∧ w'.cell? ⟨w9.heap.size, 2, none⟩ = some (.slice r1 m1 s1) ∧ w'.cell? ⟨w9.heap.size, 3, none⟩ = some (.slice r2 m2 s2) ∧ w'.cell? ⟨w9.heap.size, 4, none⟩ = some (.slice r3 m3 s3) ∧ w'.cell? ⟨w9.heap.size, 5, none⟩ = some (.slice r4 m4 s4) ∧ w'.cell? ⟨w9.heap.size, 6, none⟩ = some (.slice r5 m5 s5) ∧ w'.cell? ⟨w9.heap.size, 7, none⟩ = some (.int .i64 sf')) ∧ (w'.cell? ⟨w.heap.size + 1, 0, none⟩ = some (.int .i64 ph') ∧ w'.cell? ⟨w.heap.size + 1, 1, none⟩ = some (.int .i64 cu') ∧ w'.cell? ⟨w.heap.size + 1, 2, none⟩ = some (.slice b1 m1 k1) ∧ w'.cell? ⟨w.heap.size + 1, 3, none⟩ = some (.slice b2 m2 k2) ∧ w'.cell? ⟨w.heap.size + 1, 4, none⟩ = some (.slice b3 m3 k3) ∧ w'.cell? ⟨w.heap.size + 1, 5, none⟩ = some (.slice b4 m4 k4) ∧ w'.cell? ⟨w.heap.size + 1, 6, none⟩ = some (.slice b5 m5 k5) ∧ w'.cell? ⟨w.heap.size + 1, 7, none⟩ = some (.int .i64 sf')))
        (first | with_reducible exact ⟨⟨y0, y1, y2, y3, y4, y5, y6, y7⟩, x0, x1, x2, x3, x4, x5, x6, x7⟩ | with_reducible exact HC9.out _ hbx | with_reducible exact HC9.out _ hbx.drew)
        (first
          | (go_at_call 29; refine ((VB.t (by assumption)).c _ (by first | exact HBR.out _ hbx | exact HBR.out _ hbx.drew)).mono ?_; rintro e w13 ⟨g1, g2, g3, g4, g5, l1, l2, l3, l4, l5, rfl, h7, R7, G7⟩; have hbx : Below w10.heap.size w10 w13 := (by first | exact below_after_of hbx h7 | exact below_after_of hbx.drew h7))
          | (go_at_call 31; refine (HEB.c _ _ _ _ _ _ _ _ _ _ _ _ _ _ _ _ _ _ _ _ _ (HR9.out _ hbx).1 (HR9.out _ hbx).2 R7 G7).mono ?_; rintro e w14 ⟨rfl, hb8⟩; have hbx : Below w10.heap.size w10 w14 := below_after_of hbx hb8; clear hb8))
      have hBE := HBR.out _ hbx
      clear x0 x1 x2 x3 x4 x5 x6 x7 y0 y1 y2 y3 y4 y5 y6 y7 h7 R7 G7 HC8 HC9
      go_wp2
      go_ret
      exact ⟨rfl, hBE⟩
set_option maxRecDepth 100000 in
theorem fnExactSameServers_walk (s : St) (v : Sv) (lv : Value) (g : Lgl) (sf : Int) (t : St) (u : Sv) (lu : Value) (g' : Lgl) (sf' : Int) (w : World) (hv : Sts w v s) (hA : StA s) (hg : Lgs w lv g) (hgl : g.length ≤ maxLen) (hgb : ∀ j, j < g.length → (lAt g j).length ≤ maxLen ∧ Bts (lAt g j)) (hu : Sts w u t) (hA' : StA t) (hg' : Lgs w lu g') (hgl' : g'.length ≤ maxLen) (hgb' : ∀ j, j < g'.length → (lAt g' j).length ≤ maxLen ∧ Bts (lAt g' j)) :
    Calls Try.prog 6 #[.agg #[.int .i64 s.ph, .int .i64 s.cu, v.d, v.n, v.h, v.p, lv, .int .i64 sf], .agg #[.int .i64 t.ph, .int .i64 t.cu, u.d, u.n, u.h, u.p, lu, .int .i64 sf']] w fun e w' => e = .returned (.bool true) ∧ Below w.heap.size w w' := by
  obtain ⟨a1, a2, a3, a4, c1, c2, c3, c4, rfl⟩ := hv.four
  obtain ⟨b1, b2, b3, b4, k1, k2, k3, k4, rfl⟩ := hu.four
  obtain ⟨a5, c5, rfl⟩ := hg.shape
  obtain ⟨b5, k5, rfl⟩ := hg'.shape
  exact fnExactSameServers_core s t g g' a1 a2 a3 a4 a5 b1 b2 b3 b4 b5 c1 c2 c3 c4 c5 k1 k2 k3 k4 k5 sf sf' w hv hA hg hgl hgb hu hA' hg' hgl' hgb'
end U
end Go.Proofs.Ytcdodpcdennemaa

/- What every law's row asks behind its walk: the arguments and the named variables read as they did, for nothing that was there has turned. -/
namespace Go.Proofs.Ytcdodpcdennemaa
namespace U
open Go.ChangeShapes Go.WideShapes Go.ChangeAt Go.RowKit
section
variable {H : Type} {enc : TypeId × Value → H} {P : Program} {W W' : World}
theorem all_stays (hl : laidOutB P = true) (hb : Below W.heap.size W W') : ∀ (ts : List TypeId) (vs : List Value) (ds : List (DataW H)) (ps : List MemPlace), (∀ t ∈ ts, P.readableRec t = true ∧ t < P.types.size) →
    DataW.TrodAll enc P W 0 (fun _ => true) true ts vs ds ps → (∀ x ∈ ps, x.block < W.heap.size) → DataW.TrodAll enc P W' 0 (fun b => decide (b < W.heap.size)) true ts vs ds ps
  | [], [], [], _, _, h, _ => h
  | t :: ts, v :: vs, d :: ds, ps, ht, h, hlt => by
    obtain ⟨p, q, h1, h2, rfl⟩ := h
    have hp := ht t (by simp)
    exact ⟨p, q, Below.trod hl hp.1 hp.2 h1 hb (fun x hx => hlt x (by simp [hx])), all_stays hl hb ts vs ds q (fun t h => ht t (by simp [h])) h2 (fun x hx => hlt x (by simp [hx])), rfl⟩
  | [], [], _ :: _, _, _, h, _ => h.elim
  | [], _ :: _, _, _, _, h, _ => by cases h
  | _ :: _, [], _, _, _, h, _ => by cases h
  | _ :: _, _ :: _, [], _, _, h, _ => h.elim
theorem vars_stay (hl : laidOutB P = true) (hb : Below W.heap.size W W') : ∀ (ns : List String) (ds : List (DataW H)) (ps : List MemPlace), (∀ n ∈ ns, ∀ g t, P.globalNamed n = some g → (P.globals[g]?).map (·.type) = some t → P.readableRec t = true ∧ t < P.types.size) →
    DataW.TrodVars enc P W (fun _ => true) ns ds ps → (∀ x ∈ ps, x.block < W.heap.size) → DataW.TrodVars enc P W' (fun b => decide (b < W.heap.size)) ns ds ps
  | [], [], _, _, h, _ => h
  | n :: ns, d :: ds, ps, ht, h, hlt => by
    obtain ⟨g, t, cs, fuel, p, q, h1, h2, h3, h4, h5, rfl⟩ := h
    have hp := ht n (by simp) g t h1 h2
    have hg : g < W.heap.size := by
      have h3' := h3
      simp only [World.var?, h1, Option.bind_some] at h3'
      rcases hh : W.heap[g]? with _ | o
      · rw [hh] at h3'; cases h3'
      · exact (Array.getElem?_eq_some_iff.1 hh).1
    refine ⟨g, t, cs, fuel, p, q, h1, h2, var?_below hb h1 hg h3, ?_, vars_stay hl hb ns ds q (fun m hm => ht m (by simp [hm])) h5 (fun x hx => hlt x (by simp [hx])), rfl⟩
    exact DataW.trod_stays (kids_book hl hp.1) (book_sized hp.1) (fun h => by cases h) ⟨hp.2, book_self t⟩ h4 (fun x hx => hb.same (hlt x (by simp [hx]))) (fun x hx => by simpa using hlt x (by simp [hx]))
  | [], _ :: _, _, _, h, _ => h.elim
  | _ :: _, [], _, _, h, _ => h.elim
/-- A law that answered true and turned nothing. -/
theorem law_post {f : Func} {s : ChangeSpec} {apart : Bool} {args : Array Value} {ds gs : List (DataW H)} {before : List MemPlace} {tb : TypeId}
    (hW : DataW.Whole enc P f.params.toList s.vars apart W args.toList ds gs before) (hb : Below W.heap.size W W') (hl : laidOutB P = true)
    (ht : ∀ t ∈ f.params.toList, P.readableRec t = true ∧ t < P.types.size)
    (hv : ∀ n ∈ s.vars, ∀ g t, P.globalNamed n = some g → (P.globals[g]?).map (·.type) = some t → P.readableRec t = true ∧ t < P.types.size)
    (hr : f.resultTypes = #[tb]) (htb : P.underlying tb = some .bool)
    (hf1 : (s.fn H (ds ++ gs)).results = [.lit (.bool true)]) (hf2 : (s.fn H (ds ++ gs)).args = ds) (hf3 : (s.fn H (ds ++ gs)).vars = gs) :
    s.post enc P f apart true false false W args (.bool true) W' := by
  have hlt := hW.lt
  have hW2 := hW
  obtain ⟨p, q, hA, hV, rfl, _, _⟩ := hW
  refine ⟨ds, gs, p ++ q, [], p, q, hW2, ?_, ?_, ?_, hb.frame _, fun h => by cases h⟩
  · rw [hf1, hr]
    exact trodAll_cons_mk (shut_bool htb _) trodAll_mk0
  · rw [hf2]
    exact all_stays hl hb _ _ _ _ ht hA (fun x hx => hlt x (by simp [hx]))
  · rw [hf3]
    exact vars_stay hl hb _ _ _ hv hV (fun x hx => hlt x (by simp [hx]))
end
end U
end Go.Proofs.Ytcdodpcdennemaa

/- An argument that is a directory, opened: it reads as a list of records. -/
namespace Go.Proofs.Ytcdodpcdennemaa
namespace U
open Go.ChangeShapes Go.WideShapes Go.ChangeAt Go.RowKit
theorem rcs_field {H : Type} {enc : TypeId × Value → H} {P : Program} {W : World} {t e : TypeId} {f0 f1 f2 f3 : Field} {v : Value} {fuel : Nat} {x : DataW H × List MemPlace} (ht : P.underlying t = some (.slice e)) (he : P.underlying e = some (.struct #[f0, f1, f2, f3]))
    (ce : P.cellsOf e = 4) (hone : Go.Deep.oneCellFields P #[f0, f1, f2, f3] = true) (i0 : P.underlying f0.type = some .string) (i1 : P.underlying f1.type = some (.int .i64)) (i2 : P.underlying f2.type = some (.int .i64)) (i3 : P.underlying f3.type = some (.int .i64))
    (hf : DataW.trod enc P W 0 (fun _ => true) true fuel t [v] = some x) : ∃ l, Rcs W v l ∧ l.length ≤ maxLen ∧ LbM l := by
  rcases Go.Deep.open_slice ht hf with ⟨hcs, hx⟩ | ⟨a, len, cap, m, n, D, Pl, hcs, hb, hl, hm, hmm, hx, hcell⟩
  · have e1 : v = .slice none 0 0 := by simpa using hcs
    subst e1
    exact ⟨[], Rcs.nil _ _ _, by simp, fun r hr => by cases hr⟩
  · have e1 : v = .slice (some a) len cap := by simpa using hcs
    subst e1
    rw [if_pos rfl] at hmm
    subst hmm
    by_cases h0 : len = 0
    · subst h0
      exact ⟨[], Rcs.nil _ _ _, by simp, fun r hr => by cases hr⟩
    · have each : ∀ i, i < len → ∃ r : Rc, W.cell? (a.add (i * 4)) = some (.string r.l) ∧ W.cell? (a.add (i * 4 + 1)) = some (.int .i64 r.v) ∧ W.cell? (a.add (i * 4 + 2)) = some (.int .i64 r.o) ∧ W.cell? (a.add (i * 4 + 3)) = some (.int .i64 r.p) ∧ r.l.size ≤ maxLen := by
        intro i hi
        obtain ⟨cs', h1, h2⟩ := hcell i (by omega)
        rw [ce] at h1
        obtain ⟨_, hlen, hc⟩ := World.cells?_some h1
        obtain ⟨y0, y1, y2, y3, k, -, -, t0, t1, t2, t3⟩ := Joins.trod_struct4 he h2
        obtain ⟨o0, k0⟩ := Go.Deep.hone_of hone 0 f0 rfl
        obtain ⟨o1, k1⟩ := Go.Deep.hone_of hone 1 f1 rfl
        obtain ⟨o2, k2⟩ := Go.Deep.hone_of hone 2 f2 rfl
        obtain ⟨o3, k3⟩ := Go.Deep.hone_of hone 3 f3 rfl
        match cs', hlen with
        | [v0, v1, v2, v3], _ =>
          have g0 : DataW.trod enc P W 0 (fun _ => true) true k f0.type [v0] = some y0 := by simpa [o0, k0] using t0
          have g1 : DataW.trod enc P W 0 (fun _ => true) true k f1.type [v1] = some y1 := by simpa [o1, k1] using t1
          have g2 : DataW.trod enc P W 0 (fun _ => true) true k f2.type [v2] = some y2 := by simpa [o2, k2] using t2
          have g3 : DataW.trod enc P W 0 (fun _ => true) true k f3.type [v3] = some y3 := by simpa [o3, k3] using t3
          obtain ⟨s, hs0, -, hs⟩ := DataW.trod_string i0 g0
          obtain ⟨n1, hn1, -, -⟩ := DataW.trod_int i1 g1
          obtain ⟨n2, hn2, -, -⟩ := DataW.trod_int i2 g2
          obtain ⟨n3, hn3, -, -⟩ := DataW.trod_int i3 g3
          have e0 := hc 0 (by omega)
          have e1 := hc 1 (by omega)
          have e2 := hc 2 (by omega)
          have e3 := hc 3 (by omega)
          rw [Go.Deep.add_add] at e0 e1 e2 e3
          simp at hs0 hn1 hn2 hn3
          subst hs0 hn1 hn2 hn3
          exact ⟨⟨s, n1, n2, n3⟩, by simpa using e0, by simpa using e1, by simpa using e2, by simpa using e3, hs⟩
      obtain ⟨b, off, spot⟩ := a
      have hspot : spot = none := by
        obtain ⟨r, h1, -⟩ := each 0 (by omega)
        simpa [Addr.add] using World.cell?_spot h1
      subst hspot
      have each2 : ∀ i, i < len → ∃ r : Rc, RecS W b (off + i * 4) r ∧ r.l.size ≤ maxLen := fun i hi => by
        obtain ⟨r, h⟩ := each i hi
        simp only [add_plain] at h
        exact ⟨r, ⟨h.1, by rw [Nat.add_assoc]; exact h.2.1, by rw [Nat.add_assoc]; exact h.2.2.1, by rw [Nat.add_assoc]; exact h.2.2.2.1⟩, h.2.2.2.2⟩
      obtain ⟨q, hq⟩ : ∃ q : Nat → Rc, ∀ i, i < len → RecS W b (off + i * 4) (q i) ∧ (q i).l.size ≤ maxLen := by
        refine ⟨fun i => if h : i < len then Classical.choose (each2 i h) else rcZ, fun i hi => ?_⟩
        show RecS W b (off + i * 4) (if h : i < len then Classical.choose (each2 i h) else rcZ) ∧ (if h : i < len then Classical.choose (each2 i h) else rcZ).l.size ≤ maxLen
        rw [dif_pos hi]
        exact Classical.choose_spec (each2 i hi)
      have hbb : b < W.heap.size := (hq 0 (by omega)).1.lt
      refine ⟨(List.range len).map q, Or.inr ⟨b, off, _, by simp; rfl, hbb, fun j hj => ?_⟩, by simp; omega, fun r hr => ?_⟩
      · have hj' : j < len := by simpa using hj
        have e2 : rAt ((List.range len).map q) j = q j := by rw [rAt_eq hj]; simp
        rw [e2]
        exact (hq j hj').1
      · obtain ⟨i, hi, rfl⟩ := List.mem_map.1 hr
        exact (hq i (List.mem_range.1 hi)).2
theorem dr_arg {H : Type} {enc : TypeId × Value → H} {P : Program} {W : World} {base : Nat} {td e : TypeId} {g f0 f1 f2 f3 : Field} {v : Value} {d : DataW H} {p : List MemPlace} (hd : P.underlying td = some (.struct #[g])) (hgo : Go.Deep.oneCellFields P #[g] = true) (cd : P.cellsOf td = 1) (ht : P.underlying g.type = some (.slice e)) (he : P.underlying e = some (.struct #[f0, f1, f2, f3]))
    (ce : P.cellsOf e = 4) (hone : Go.Deep.oneCellFields P #[f0, f1, f2, f3] = true) (i0 : P.underlying f0.type = some .string) (i1 : P.underlying f1.type = some (.int .i64)) (i2 : P.underlying f2.type = some (.int .i64)) (i3 : P.underlying f3.type = some (.int .i64))
    (hv : Value.okWide P W .any base td v) (h : DataW.Trod enc P W 0 (fun _ => true) true td v d p) : ∃ u l, v = .agg #[u] ∧ Rcs W u l ∧ l.length ≤ maxLen ∧ LbM l := by
  obtain ⟨cs, rfl, hsz⟩ := okWide_struct hd hv
  rw [cd] at hsz
  obtain ⟨u, rfl⟩ : ∃ u, cs = #[u] := by
    obtain ⟨l⟩ := cs
    match l, hsz with
    | [u], _ => exact ⟨u, rfl⟩
  obtain ⟨fuel, hf⟩ := h
  obtain ⟨xs, n, _, -, hl, hlen, hfs⟩ := DataW.trod_struct hd hf
  have h0 := hfs 0 g rfl
  obtain ⟨o0, k0⟩ := Go.Deep.hone_of hgo 0 g rfl
  match xs, hlen with
  | [y0], _ =>
    have g0 : DataW.trod enc P W 0 (fun _ => true) true n g.type [u] = some y0 := by simpa [Value.cells, o0, k0] using h0
    obtain ⟨l, h1, h2, h3⟩ := rcs_field ht he ce hone i0 i1 i2 i3 g0
    exact ⟨u, l, rfl, h1, h2, h3⟩
end U
end Go.Proofs.Ytcdodpcdennemaa

/- An argument that is a head, or a row of heads, opened. -/
namespace Go.Proofs.Ytcdodpcdennemaa
namespace U
open Go.ChangeShapes Go.WideShapes Go.ChangeAt Go.RowKit
theorem trod_struct5H {H : Type} {enc : TypeId × Value → H} {P : Program} {w : World} {t : TypeId} {f0 f1 f2 f3 f4 : Field} {fuel : Nat} {cs : List Value} {x : DataW H × List MemPlace} (ht : P.underlying t = some (.struct #[f0, f1, f2, f3, f4])) (h : DataW.trod enc P w 0 (fun _ => true) true fuel t cs = some x) :
    ∃ y0 y1 y2 y3 y4 n, DataW.trod enc P w 0 (fun _ => true) true n f0.type ((cs.drop f0.offset).take (P.cellsOf f0.type)) = some y0 ∧ DataW.trod enc P w 0 (fun _ => true) true n f1.type ((cs.drop f1.offset).take (P.cellsOf f1.type)) = some y1 ∧
      DataW.trod enc P w 0 (fun _ => true) true n f2.type ((cs.drop f2.offset).take (P.cellsOf f2.type)) = some y2 ∧ DataW.trod enc P w 0 (fun _ => true) true n f3.type ((cs.drop f3.offset).take (P.cellsOf f3.type)) = some y3 ∧ DataW.trod enc P w 0 (fun _ => true) true n f4.type ((cs.drop f4.offset).take (P.cellsOf f4.type)) = some y4 := by
  obtain ⟨xs, n, _, rfl, hl, hlen, hf⟩ := DataW.trod_struct ht h
  match xs, hlen with
  | [y0, y1, y2, y3, y4], _ => exact ⟨y0, y1, y2, y3, y4, n, by simpa using hf 0 f0 rfl, by simpa using hf 1 f1 rfl, by simpa using hf 2 f2 rfl, by simpa using hf 3 f3 rfl, by simpa using hf 4 f4 rfl⟩
theorem array5H (T : Array Value) (h : T.size = 5) : ∃ v0 v1 v2 v3 v4 : Value, T = #[v0, v1, v2, v3, v4] := by
  rcases T with ⟨l⟩
  match l, h with
  | [a, b, c, d, e], _ => exact ⟨a, b, c, d, e, rfl⟩
set_option maxRecDepth 100000 in
theorem hd_cells {H : Type} {enc : TypeId × Value → H} {W : World} {n : Nat} {c0 c1 c2 c3 c4 : Value} {y : DataW H × List MemPlace} (hf : DataW.trod enc Try.prog W 0 (fun _ => true) true n 149 [c0, c1, c2, c3, c4] = some y) :
    ∃ r : Hd, c0 = .int .i64 r.e ∧ c1 = .int .i64 r.p ∧ c2 = .int .i64 r.o ∧ c3 = .int .i64 r.n ∧ c4 = .int .i64 r.v := by
  obtain ⟨y0, y1, y2, y3, y4, n, h0, h1, h2, h3, h4⟩ := trod_struct5H Try.underlying149 hf
  have k1 : Try.prog.cellsOf 2 = 1 := by kernel_rfl
  simp only [k1] at h0 h1 h2 h3 h4
  simp at h0 h1 h2 h3 h4
  obtain ⟨a, ha, -⟩ := DataW.trod_int Try.underlying2 h0
  obtain ⟨b, hb, -⟩ := DataW.trod_int Try.underlying2 h1
  obtain ⟨c, hc, -⟩ := DataW.trod_int Try.underlying2 h2
  obtain ⟨d, hd, -⟩ := DataW.trod_int Try.underlying2 h3
  obtain ⟨e, he, -⟩ := DataW.trod_int Try.underlying2 h4
  exact ⟨⟨a, b, c, d, e⟩, by simpa using ha, by simpa using hb, by simpa using hc, by simpa using hd, by simpa using he⟩
set_option maxRecDepth 100000 in
theorem hd_arg {H : Type} {enc : TypeId × Value → H} {W : World} {base : Nat} {v : Value} {d : DataW H} {p : List MemPlace} (hv : Value.okWide Try.prog W .any base 149 v) (h : DataW.Trod enc Try.prog W 0 (fun _ => true) true 149 v d p) :
    ∃ a b c d e, v = .agg #[.int .i64 a, .int .i64 b, .int .i64 c, .int .i64 d, .int .i64 e] := by
  obtain ⟨cs, rfl, hsz⟩ := okWide_struct Try.underlying149 hv
  obtain ⟨c0, c1, c2, c3, c4, rfl⟩ := array5H cs (hsz.trans (show Try.prog.cellsOf 149 = 5 by kernel_rfl))
  obtain ⟨fuel, hf⟩ := h
  obtain ⟨r, rfl, rfl, rfl, rfl, rfl⟩ := hd_cells hf
  exact ⟨_, _, _, _, _, rfl⟩
set_option maxRecDepth 100000 in
theorem hds_field {H : Type} {enc : TypeId × Value → H} {W : World} {v : Value} {fuel : Nat} {x : DataW H × List MemPlace} (hf : DataW.trod enc Try.prog W 0 (fun _ => true) true fuel 66 [v] = some x) : ∃ l, Hds W v l ∧ l.length ≤ maxLen := by
  rcases Go.Deep.open_slice Try.underlying66 hf with ⟨hcs, hx⟩ | ⟨a, len, cap, m, n, D, Pl, hcs, hb, hl, hm, hmm, hx, hcell⟩
  · have e1 : v = .slice none 0 0 := by simpa using hcs
    subst e1
    exact ⟨[], Hds.nil _ _ _, by simp⟩
  · have e1 : v = .slice (some a) len cap := by simpa using hcs
    subst e1
    rw [if_pos rfl] at hmm
    subst hmm
    by_cases h0 : len = 0
    · subst h0
      exact ⟨[], Hds.nil _ _ _, by simp⟩
    · have each : ∀ i, i < len → ∃ r : Hd, W.cell? (a.add (i * 5)) = some (.int .i64 r.e) ∧ W.cell? (a.add (i * 5 + 1)) = some (.int .i64 r.p) ∧ W.cell? (a.add (i * 5 + 2)) = some (.int .i64 r.o) ∧ W.cell? (a.add (i * 5 + 3)) = some (.int .i64 r.n) ∧ W.cell? (a.add (i * 5 + 4)) = some (.int .i64 r.v) := by
        intro i hi
        obtain ⟨cs', h1, h2⟩ := hcell i (by omega)
        have ce : Try.prog.cellsOf 149 = 5 := by kernel_rfl
        rw [ce] at h1
        obtain ⟨_, hlen, hc⟩ := World.cells?_some h1
        match cs', hlen with
        | [v0, v1, v2, v3, v4], _ =>
          obtain ⟨r, rfl, rfl, rfl, rfl, rfl⟩ := hd_cells h2
          have e0 := hc 0 (by omega)
          have e1 := hc 1 (by omega)
          have e2 := hc 2 (by omega)
          have e3 := hc 3 (by omega)
          have e4 := hc 4 (by omega)
          rw [Go.Deep.add_add] at e0 e1 e2 e3 e4
          exact ⟨r, by simpa using e0, by simpa using e1, by simpa using e2, by simpa using e3, by simpa using e4⟩
      obtain ⟨b, off, spot⟩ := a
      have hspot : spot = none := by
        obtain ⟨r, h1, -⟩ := each 0 (by omega)
        simpa [Addr.add] using World.cell?_spot h1
      subst hspot
      have each2 : ∀ i, i < len → ∃ r : Hd, HdS W b (off + i * 5) r := fun i hi => by
        obtain ⟨r, h⟩ := each i hi
        simp only [add_plain] at h
        exact ⟨r, ⟨h.1, by rw [Nat.add_assoc]; exact h.2.1, by rw [Nat.add_assoc]; exact h.2.2.1, by rw [Nat.add_assoc]; exact h.2.2.2.1, by rw [Nat.add_assoc]; exact h.2.2.2.2⟩⟩
      obtain ⟨q, hq⟩ : ∃ q : Nat → Hd, ∀ i, i < len → HdS W b (off + i * 5) (q i) := by
        refine ⟨fun i => if h : i < len then Classical.choose (each2 i h) else hdZ, fun i hi => ?_⟩
        show HdS W b (off + i * 5) (if h : i < len then Classical.choose (each2 i h) else hdZ)
        rw [dif_pos hi]
        exact Classical.choose_spec (each2 i hi)
      have hbb : b < W.heap.size := (hq 0 (by omega)).lt
      refine ⟨(List.range len).map q, Or.inr ⟨b, off, _, by simp; rfl, hbb, fun j hj => ?_⟩, by simp; omega⟩
      have hj' : j < len := by simpa using hj
      have e2 : hAt ((List.range len).map q) j = q j := by rw [hAt_eq hj]; simp
      rw [e2]
      exact hq j hj'
set_option maxRecDepth 100000 in
theorem hds_arg {H : Type} {enc : TypeId × Value → H} {W : World} {base : Nat} {v : Value} {d : DataW H} {p : List MemPlace} (hv : Value.okWide Try.prog W .any base 66 v) (h : DataW.Trod enc Try.prog W 0 (fun _ => true) true 66 v d p) :
    ∃ l, Hds W v l ∧ l.length ≤ maxLen := by
  obtain ⟨a0, len0, cap0, rfl⟩ := okWide_slice Try.underlying66 hv
  obtain ⟨fuel, hf⟩ := h
  exact hds_field (by simpa [Value.cells] using hf)
end U
end Go.Proofs.Ytcdodpcdennemaa

/- An argument that is a slice of pairs of numbers, opened: it reads as a list of pairs. -/
namespace Go.Proofs.Ytcdodpcdennemaa
namespace U
open Go.ChangeShapes Go.WideShapes Go.ChangeAt Go.RowKit
def InI (p : Int × Int) : Prop := (-9223372036854775808 ≤ p.1 ∧ p.1 ≤ 9223372036854775807) ∧ -9223372036854775808 ≤ p.2 ∧ p.2 ≤ 9223372036854775807
theorem ints_of {H : Type} {enc : TypeId × Value → H} {P : Program} {W : World} {t : TypeId} {v : Value} {x : DataW H × List MemPlace} {fuel : Nat} (ht : P.underlying t = some (.int .i64))
    (h : DataW.trod enc P W 0 (fun _ => true) true fuel t [v] = some x) : ∃ n : Int, v = .int .i64 n ∧ -9223372036854775808 ≤ n ∧ n ≤ 9223372036854775807 := by
  obtain ⟨n, hn, _, hw⟩ := DataW.trod_int ht h
  exact ⟨n, by simpa using hn, bounds_i64 hw⟩
theorem prs_arg {H : Type} {enc : TypeId × Value → H} {P : Program} {W : World} {base : Nat} {t e : TypeId} {f0 f1 : Field} {v : Value} {d : DataW H} {p : List MemPlace} (ht : P.underlying t = some (.slice e)) (he : P.underlying e = some (.struct #[f0, f1]))
    (ce : P.cellsOf e = 2) (o0 : f0.offset = 0) (o1 : f1.offset = 1) (c0 : P.cellsOf f0.type = 1) (c1 : P.cellsOf f1.type = 1) (i0 : P.underlying f0.type = some (.int .i64)) (i1 : P.underlying f1.type = some (.int .i64))
    (hv : Value.okWide P W .any base t v) (h : DataW.Trod enc P W 0 (fun _ => true) true t v d p) : ∃ l, Prs W v l ∧ l.length ≤ maxLen ∧ ∀ q ∈ l, InI q := by
  obtain ⟨a0, len0, cap0, rfl⟩ := okWide_slice ht hv
  obtain ⟨fuel, hf⟩ := h
  rcases Go.Deep.open_slice_pairs ht he ce o0 o1 c0 c1 hf with ⟨hcs, hx⟩ | ⟨a, len, cap, m, n, V0, V1, D0, D1, P0, P1, hcs, h1, hl, hm, hmm, hx, hcell⟩
  · have e1 : (Value.slice a0 len0 cap0) = .slice none 0 0 := by simpa [Value.cells] using hcs
    cases e1
    exact ⟨[], Or.inl ⟨rfl, none, 0, rfl⟩, by simp, by simp⟩
  · have e1 : (Value.slice a0 len0 cap0) = .slice (some a) len cap := by simpa [Value.cells] using hcs
    cases e1
    rw [if_pos rfl] at hmm
    subst hmm
    by_cases h0 : len0 = 0
    · subst h0
      exact ⟨[], Or.inl ⟨rfl, _, _, rfl⟩, by simp, by simp⟩
    · have each : ∀ i, i < len0 → ∃ q : Int × Int, W.cell? (a.add (i * 2)) = some (.int .i64 q.1) ∧ W.cell? (a.add (i * 2 + 1)) = some (.int .i64 q.2) ∧ InI q := fun i hi => by
        obtain ⟨k0, k1, t0, t1⟩ := hcell i (by omega)
        obtain ⟨x, hx0, b0⟩ := ints_of i0 t0
        obtain ⟨y, hy0, b1⟩ := ints_of i1 t1
        exact ⟨(x, y), by rw [k0, hx0], by rw [k1, hy0], b0, b1⟩
      obtain ⟨q, hq⟩ := Go.Deep.choose_lt each
      obtain ⟨b, off, spot⟩ := a
      have hspot : spot = none := by simpa [Addr.add] using World.cell?_spot (hq 0 (by omega)).1
      subst hspot
      have hb : b < W.heap.size := by
        have h3 := (hq 0 (by omega)).1
        rw [add_plain] at h3
        rcases hh : W.heap[b]? with _ | o
        · simp [World.cell?, hh] at h3
        · exact (Array.getElem?_eq_some_iff.1 hh).1
      refine ⟨(List.range len0).map q, Or.inr ⟨b, off, _, by simp; rfl, hb, fun j hj => ?_⟩, by simp; omega, fun x hx => ?_⟩
      · have hj' : j < len0 := by simpa using hj
        have e2 : pAt ((List.range len0).map q) j = q j := by rw [pAt_eq hj]; simp
        rw [e2]
        have h3 := hq j hj'
        rw [add_plain, add_plain] at h3
        exact ⟨h3.1, by rw [Nat.add_assoc]; exact h3.2.1⟩
      · obtain ⟨i, hi, rfl⟩ := List.mem_map.1 hx
        exact (hq i (List.mem_range.1 hi)).2.2
end U
end Go.Proofs.Ytcdodpcdennemaa

/- An argument that is a state, opened. -/
namespace Go.Proofs.Ytcdodpcdennemaa
namespace U
open Go.ChangeShapes Go.WideShapes Go.ChangeAt Go.RowKit
set_option maxRecDepth 100000 in
theorem prs_field {H : Type} {enc : TypeId × Value → H} {W : World} {v : Value} {fuel : Nat} {x : DataW H × List MemPlace} (hf : DataW.trod enc Try.prog W 0 (fun _ => true) true fuel 65 [v] = some x) : ∃ l, Prs W v l ∧ l.length ≤ maxLen := by
  rcases Go.Deep.open_slice_pairs Try.underlying65 Try.underlying78 (by kernel_rfl) rfl rfl (by kernel_rfl) (by kernel_rfl) hf with ⟨hcs, hx⟩ | ⟨a, len, cap, m, n, V0, V1, D0, D1, P0, P1, hcs, h1, hl, hm, hmm, hx, hcell⟩
  · have e1 : v = .slice none 0 0 := by simpa using hcs
    subst e1
    exact ⟨[], Or.inl ⟨rfl, none, 0, rfl⟩, by simp⟩
  · have e1 : v = .slice (some a) len cap := by simpa using hcs
    subst e1
    rw [if_pos rfl] at hmm
    subst hmm
    by_cases h0 : len = 0
    · subst h0
      exact ⟨[], Or.inl ⟨rfl, _, _, rfl⟩, by simp⟩
    · have each : ∀ i, i < len → ∃ q : Int × Int, W.cell? (a.add (i * 2)) = some (.int .i64 q.1) ∧ W.cell? (a.add (i * 2 + 1)) = some (.int .i64 q.2) := fun i hi => by
        obtain ⟨k0, k1, t0, t1⟩ := hcell i (by omega)
        obtain ⟨x, hx0, -⟩ := ints_of Try.underlying2 t0
        obtain ⟨y, hy0, -⟩ := ints_of Try.underlying2 t1
        exact ⟨(x, y), by rw [k0, hx0], by rw [k1, hy0]⟩
      obtain ⟨q, hq⟩ := Go.Deep.choose_lt each
      obtain ⟨b, off, spot⟩ := a
      have hspot : spot = none := by simpa [Addr.add] using World.cell?_spot (hq 0 (by omega)).1
      subst hspot
      have hb : b < W.heap.size := by
        have h3 := (hq 0 (by omega)).1
        rw [add_plain] at h3
        rcases hh : W.heap[b]? with _ | o
        · simp [World.cell?, hh] at h3
        · exact (Array.getElem?_eq_some_iff.1 hh).1
      refine ⟨(List.range len).map q, Or.inr ⟨b, off, _, by simp; rfl, hb, fun j hj => ?_⟩, by simp; omega⟩
      have hj' : j < len := by simpa using hj
      have e2 : pAt ((List.range len).map q) j = q j := by rw [pAt_eq hj]; simp
      rw [e2]
      have h3 := hq j hj'
      rw [add_plain, add_plain] at h3
      exact ⟨h3.1, by rw [Nat.add_assoc]; exact h3.2⟩
set_option maxRecDepth 100000 in
theorem rcs_cell {H : Type} {enc : TypeId × Value → H} {W : World} {u : Value} {fuel : Nat} {x : DataW H × List MemPlace} (hf : DataW.trod enc Try.prog W 0 (fun _ => true) true fuel 64 [u] = some x) : ∃ l, Rcs W u l ∧ l.length ≤ maxLen ∧ LbM l := by
  obtain ⟨xs, n, _, -, hl, hlen, hfs⟩ := DataW.trod_struct Try.underlying64 hf
  have h0 := hfs 0 _ rfl
  have k1 : Try.prog.cellsOf 62 = 1 := by kernel_rfl
  match xs, hlen with
  | [y0], _ =>
    have g0 : DataW.trod enc Try.prog W 0 (fun _ => true) true n 62 [u] = some y0 := by simpa [k1] using h0
    exact rcs_field Try.underlying62 Try.underlying23 (by kernel_rfl) (by kernel_rfl) Try.underlying9 Try.underlying2 Try.underlying2 Try.underlying2 g0
set_option maxRecDepth 100000 in
theorem dss_field {H : Type} {enc : TypeId × Value → H} {W : World} {v : Value} {fuel : Nat} {x : DataW H × List MemPlace} (hf : DataW.trod enc Try.prog W 0 (fun _ => true) true fuel 67 [v] = some x) : ∃ p, Dss W v p ∧ p.length ≤ maxLen ∧ ∀ j, j < p.length → (dAt p j).length ≤ maxLen ∧ LbM (dAt p j) := by
  rcases Go.Deep.open_slice Try.underlying67 hf with ⟨hcs, hx⟩ | ⟨a, len, cap, m, n, D, Pl, hcs, hb, hl, hm, hmm, hx, hcell⟩
  · have e1 : v = .slice none 0 0 := by simpa using hcs
    subst e1
    exact ⟨[], Dss.nil _ _ _, by simp, fun j hj => by simp at hj⟩
  · have e1 : v = .slice (some a) len cap := by simpa using hcs
    subst e1
    rw [if_pos rfl] at hmm
    subst hmm
    by_cases h0 : len = 0
    · subst h0
      exact ⟨[], Dss.nil _ _ _, by simp, fun j hj => by simp at hj⟩
    · have each : ∀ i, i < len → ∃ l : Rcl, (∃ u, W.cell? (a.add i) = some u ∧ Rcs W u l) ∧ l.length ≤ maxLen ∧ LbM l := by
        intro i hi
        obtain ⟨cs', h1, h2⟩ := hcell i (by omega)
        have ce : Try.prog.cellsOf 64 = 1 := by kernel_rfl
        rw [ce] at h1
        obtain ⟨_, hlen, hc⟩ := World.cells?_some h1
        match cs', hlen with
        | [v0], _ =>
          obtain ⟨l, k1, k2, k3⟩ := rcs_cell h2
          have e0 := hc 0 (by omega)
          rw [Go.Deep.add_add] at e0
          exact ⟨l, ⟨v0, by simpa using e0, k1⟩, k2, k3⟩
      obtain ⟨q, hq⟩ := Go.Deep.choose_lt each
      obtain ⟨b, off, spot⟩ := a
      have hspot : spot = none := by
        obtain ⟨⟨u, h1, -⟩, -⟩ := hq 0 (by omega)
        simpa [Addr.add] using World.cell?_spot h1
      subst hspot
      have hbb : b < W.heap.size := by
        obtain ⟨⟨u, h3, -⟩, -⟩ := hq 0 (by omega)
        rw [add_plain] at h3
        rcases hh : W.heap[b]? with _ | o
        · simp [World.cell?, hh] at h3
        · exact (Array.getElem?_eq_some_iff.1 hh).1
      have e2 : ∀ j, j < ((List.range len).map q).length → dAt ((List.range len).map q) j = q j := fun j hj => by rw [dAt_eq hj]; simp
      refine ⟨(List.range len).map q, Or.inr ⟨b, off, _, by simp; rfl, hbb, fun j hj => ?_⟩, by simp; omega, fun j hj => ?_⟩
      · have hj' : j < len := by simpa using hj
        rw [e2 j hj]
        obtain ⟨⟨u, h3, h4⟩, -⟩ := hq j hj'
        rw [add_plain] at h3
        exact ⟨u, h3, h4⟩
      · have hj' : j < len := by simpa using hj
        rw [e2 j hj]
        exact (hq j hj').2
theorem array6S (T : Array Value) (h : T.size = 6) : ∃ v0 v1 v2 v3 v4 v5 : Value, T = #[v0, v1, v2, v3, v4, v5] := by
  rcases T with ⟨l⟩
  match l, h with
  | [a, b, c, d, e, f], _ => exact ⟨a, b, c, d, e, f, rfl⟩
set_option maxRecDepth 100000 in
set_option maxHeartbeats 1000000 in
theorem st_arg {H : Type} {enc : TypeId × Value → H} {W : World} {base : Nat} {v : Value} {d : DataW H} {p : List MemPlace} (hv : Value.okWide Try.prog W .any base 69 v) (h : DataW.Trod enc Try.prog W 0 (fun _ => true) true 69 v d p) :
    ∃ s u, v = stV s u ∧ Sts W u s ∧ StA s := by
  obtain ⟨cs, rfl, hsz⟩ := okWide_struct Try.underlying69 hv
  obtain ⟨c0, c1, c2, c3, c4, c5, rfl⟩ := array6S cs (hsz.trans (show Try.prog.cellsOf 69 = 6 by kernel_rfl))
  obtain ⟨fuel, hf⟩ := h
  obtain ⟨xs, n, _, -, hl, hlen, hfs⟩ := DataW.trod_struct Try.underlying69 hf
  have k1 : Try.prog.cellsOf 2 = 1 := by kernel_rfl
  have k2 : Try.prog.cellsOf 64 = 1 := by kernel_rfl
  have k3 : Try.prog.cellsOf 65 = 1 := by kernel_rfl
  have k4 : Try.prog.cellsOf 66 = 1 := by kernel_rfl
  have k5 : Try.prog.cellsOf 67 = 1 := by kernel_rfl
  have h0 := hfs 0 _ rfl
  have h1 := hfs 1 _ rfl
  have h2 := hfs 2 _ rfl
  have h3 := hfs 3 _ rfl
  have h4 := hfs 4 _ rfl
  have h5 := hfs 5 _ rfl
  match xs, hlen with
  | [y0, y1, y2, y3, y4, y5], _ =>
    have g0 : DataW.trod enc Try.prog W 0 (fun _ => true) true n 2 [c0] = some y0 := by simpa [Value.cells, k1] using h0
    have g1 : DataW.trod enc Try.prog W 0 (fun _ => true) true n 2 [c1] = some y1 := by simpa [Value.cells, k1] using h1
    have g2 : DataW.trod enc Try.prog W 0 (fun _ => true) true n 64 [c2] = some y2 := by simpa [Value.cells, k2] using h2
    have g3 : DataW.trod enc Try.prog W 0 (fun _ => true) true n 65 [c3] = some y3 := by simpa [Value.cells, k3] using h3
    have g4 : DataW.trod enc Try.prog W 0 (fun _ => true) true n 66 [c4] = some y4 := by simpa [Value.cells, k4] using h4
    have g5 : DataW.trod enc Try.prog W 0 (fun _ => true) true n 67 [c5] = some y5 := by simpa [Value.cells, k5] using h5
    obtain ⟨ph, rfl, -⟩ := ints_of Try.underlying2 g0
    obtain ⟨cu, rfl, -⟩ := ints_of Try.underlying2 g1
    obtain ⟨dl, q2, r2, t2⟩ := rcs_cell g2
    obtain ⟨nl, q3, r3⟩ := prs_field g3
    obtain ⟨hl, q4, r4⟩ := hds_field g4
    obtain ⟨pl, q5, r5, t5⟩ := dss_field g5
    exact ⟨⟨ph, cu, dl, nl, hl, pl⟩, ⟨c2, c3, c4, c5⟩, rfl, ⟨q2, q3, q4, q5⟩, ⟨r2, t2, r3, r4, r5, t5⟩⟩
end U
end Go.Proofs.Ytcdodpcdennemaa

/- An argument that is a slice of numbers, opened: it reads as a list. -/
namespace Go.Proofs.Ytcdodpcdennemaa
namespace U
open Go.ChangeShapes Go.WideShapes Go.ChangeAt Go.RowKit
theorem ints_arg {H : Type} {enc : TypeId × Value → H} {P : Program} {W : World} {base : Nat} {t e : TypeId} {k : IntKind} {v : Value} {d : DataW H} {p : List MemPlace} (ht : P.underlying t = some (.slice e)) (he : P.underlying e = some (.int k)) (hce : P.cellsOf e = 1)
    (hv : Value.okWide P W .any base t v) (h : DataW.Trod enc P W 0 (fun _ => true) true t v d p) : ∃ xs, Ints k W v xs ∧ xs.length ≤ maxLen ∧ ∀ n ∈ xs, (Lit.int k n).wf = true := by
  obtain ⟨a0, len, cap, rfl⟩ := okWide_slice ht hv
  obtain ⟨fuel, hf⟩ := h
  rcases open_ints ht he hce hf with ⟨hcs, hx⟩ | ⟨a, len', cap', zs, hcs, h1, hl, hm, hz, hx, hcell, hwz⟩
  · have e1 : (Value.slice a0 len cap) = .slice none 0 0 := by simpa [Value.cells] using hcs
    cases e1
    exact ⟨[], Or.inl ⟨rfl, none, 0, rfl⟩, by simp, by simp⟩
  · have e1 : (Value.slice a0 len cap) = .slice (some a) len' cap' := by simpa [Value.cells] using hcs
    cases e1
    rw [if_pos rfl] at hz
    by_cases h0 : len = 0
    · subst h0
      exact ⟨[], Or.inl ⟨rfl, _, _, rfl⟩, by simp, by simp⟩
    · obtain ⟨b, off, rfl, hc⟩ := ints_at hcell (by omega)
      have hlen : (zs.take len).length = len := by rw [List.length_take]; omega
      have hb : b < W.heap.size := by
        have := hc 0 (by omega)
        rcases hh : W.heap[b]? with _ | o
        · simp [World.cell?, hh] at this
        · exact (Array.getElem?_eq_some_iff.1 hh).1
      refine ⟨zs.take len, Or.inr ⟨b, off, cap, by rw [hlen], hb, fun j hj => ?_⟩, by omega, fun n hn => hwz n (List.mem_of_mem_take hn)⟩
      rw [hlen] at hj
      rw [hc j (by omega)]
      congr 2
      simp only [List.getD_eq_getElem?_getD, List.getElem?_take, if_pos hj]
end U
end Go.Proofs.Ytcdodpcdennemaa

/- A field of an argument that is a slice of numbers, opened: it reads as a list. -/
namespace Go.Proofs.Ytcdodpcdennemaa
namespace U
open Go.ChangeShapes Go.WideShapes Go.ChangeAt Go.RowKit
theorem ints_field {H : Type} {enc : TypeId × Value → H} {P : Program} {W : World} {t e : TypeId} {k : IntKind} {v : Value} {x : DataW H × List MemPlace} {fuel : Nat} (ht : P.underlying t = some (.slice e)) (he : P.underlying e = some (.int k)) (hce : P.cellsOf e = 1)
    (hf : DataW.trod enc P W 0 (fun _ => true) true fuel t [v] = some x) : ∃ xs, Ints k W v xs ∧ xs.length ≤ maxLen ∧ ∀ n ∈ xs, (Lit.int k n).wf = true := by
  rcases open_ints ht he hce hf with ⟨hcs, hx⟩ | ⟨a, len, cap, zs, hcs, h1, hl, hm, hz, hx, hcell, hwz⟩
  · have e1 : v = .slice none 0 0 := by simpa using hcs
    exact ⟨[], Or.inl ⟨rfl, none, 0, e1⟩, by simp, by simp⟩
  · have e1 : v = .slice (some a) len cap := by simpa using hcs
    subst e1
    rw [if_pos rfl] at hz
    by_cases h0 : len = 0
    · subst h0
      exact ⟨[], Or.inl ⟨rfl, _, _, rfl⟩, by simp, by simp⟩
    · obtain ⟨b, off, rfl, hc⟩ := ints_at hcell (by omega)
      have hlen : (zs.take len).length = len := by rw [List.length_take]; omega
      have hb : b < W.heap.size := by
        have := hc 0 (by omega)
        rcases hh : W.heap[b]? with _ | o
        · simp [World.cell?, hh] at this
        · exact (Array.getElem?_eq_some_iff.1 hh).1
      refine ⟨zs.take len, Or.inr ⟨b, off, cap, by rw [hlen], hb, fun j hj => ?_⟩, by omega, fun n hn => hwz n (List.mem_of_mem_take hn)⟩
      rw [hlen] at hj
      rw [hc j (by omega)]
      congr 2
      simp only [List.getD_eq_getElem?_getD, List.getElem?_take, if_pos hj]
end U
end Go.Proofs.Ytcdodpcdennemaa

/- An argument that is a server, opened. -/
namespace Go.Proofs.Ytcdodpcdennemaa
namespace U
open Go.ChangeShapes Go.WideShapes Go.ChangeAt Go.RowKit
theorem bts_cell {H : Type} {enc : TypeId × Value → H} {W : World} {u : Value} {fuel : Nat} {x : DataW H × List MemPlace} (hf : DataW.trod enc Try.prog W 0 (fun _ => true) true fuel 27 [u] = some x) : ∃ l, Ints .u8 W u l ∧ l.length ≤ maxLen ∧ Bts l := by
  obtain ⟨l, h1, h2, h3⟩ := ints_field Try.underlying27 Try.underlying5 (by kernel_rfl) hf
  exact ⟨l, h1, h2, fun b hb => bounds_u8 (h3 b hb)⟩
set_option maxRecDepth 100000 in
theorem lgs_field {H : Type} {enc : TypeId × Value → H} {W : World} {v : Value} {fuel : Nat} {x : DataW H × List MemPlace} (hf : DataW.trod enc Try.prog W 0 (fun _ => true) true fuel 53 [v] = some x) : ∃ p, Lgs W v p ∧ p.length ≤ maxLen ∧ ∀ j, j < p.length → (lAt p j).length ≤ maxLen ∧ Bts (lAt p j) := by
  rcases Go.Deep.open_slice Try.underlying53 hf with ⟨hcs, hx⟩ | ⟨a, len, cap, m, n, D, Pl, hcs, hb, hl, hm, hmm, hx, hcell⟩
  · have e1 : v = .slice none 0 0 := by simpa using hcs
    subst e1
    exact ⟨[], Lgs.nil _ _ _, by simp, fun j hj => by simp at hj⟩
  · have e1 : v = .slice (some a) len cap := by simpa using hcs
    subst e1
    rw [if_pos rfl] at hmm
    subst hmm
    by_cases h0 : len = 0
    · subst h0
      exact ⟨[], Lgs.nil _ _ _, by simp, fun j hj => by simp at hj⟩
    · have each : ∀ i, i < len → ∃ l : List Int, (∃ u, W.cell? (a.add i) = some u ∧ Ints .u8 W u l) ∧ l.length ≤ maxLen ∧ Bts l := by
        intro i hi
        obtain ⟨cs', h1, h2⟩ := hcell i (by omega)
        have ce : Try.prog.cellsOf 27 = 1 := by kernel_rfl
        rw [ce] at h1
        obtain ⟨_, hlen, hc⟩ := World.cells?_some h1
        match cs', hlen with
        | [v0], _ =>
          obtain ⟨l, k1, k2, k3⟩ := bts_cell h2
          have e0 := hc 0 (by omega)
          rw [Go.Deep.add_add] at e0
          exact ⟨l, ⟨v0, by simpa using e0, k1⟩, k2, k3⟩
      obtain ⟨q, hq⟩ := Go.Deep.choose_lt each
      obtain ⟨b, off, spot⟩ := a
      have hspot : spot = none := by
        obtain ⟨⟨u, h1, -⟩, -⟩ := hq 0 (by omega)
        simpa [Addr.add] using World.cell?_spot h1
      subst hspot
      have hbb : b < W.heap.size := by
        obtain ⟨⟨u, h3, -⟩, -⟩ := hq 0 (by omega)
        rw [add_plain] at h3
        rcases hh : W.heap[b]? with _ | o
        · simp [World.cell?, hh] at h3
        · exact (Array.getElem?_eq_some_iff.1 hh).1
      have e2 : ∀ j, j < ((List.range len).map q).length → lAt ((List.range len).map q) j = q j := fun j hj => by rw [lAt_eq hj]; simp
      refine ⟨(List.range len).map q, Or.inr ⟨b, off, _, by simp; rfl, hbb, fun j hj => ?_⟩, by simp; omega, fun j hj => ?_⟩
      · have hj' : j < len := by simpa using hj
        rw [e2 j hj]
        obtain ⟨⟨u, h3, h4⟩, -⟩ := hq j hj'
        rw [add_plain] at h3
        exact ⟨u, h3, h4⟩
      · have hj' : j < len := by simpa using hj
        rw [e2 j hj]
        exact (hq j hj').2
set_option maxRecDepth 100000 in
set_option maxHeartbeats 1000000 in
theorem st_cells {H : Type} {enc : TypeId × Value → H} {W : World} {fuel : Nat} {c0 c1 c2 c3 c4 c5 : Value} {y : DataW H × List MemPlace} (hf : DataW.trod enc Try.prog W 0 (fun _ => true) true fuel 69 [c0, c1, c2, c3, c4, c5] = some y) :
    ∃ s u, [c0, c1, c2, c3, c4, c5] = [.int .i64 s.ph, .int .i64 s.cu, u.d, u.n, u.h, u.p] ∧ Sts W u s ∧ StA s := by
  obtain ⟨xs, n, _, -, hl, hlen, hfs⟩ := DataW.trod_struct Try.underlying69 hf
  have k1 : Try.prog.cellsOf 2 = 1 := by kernel_rfl
  have k2 : Try.prog.cellsOf 64 = 1 := by kernel_rfl
  have k3 : Try.prog.cellsOf 65 = 1 := by kernel_rfl
  have k4 : Try.prog.cellsOf 66 = 1 := by kernel_rfl
  have k5 : Try.prog.cellsOf 67 = 1 := by kernel_rfl
  have h0 := hfs 0 _ rfl
  have h1 := hfs 1 _ rfl
  have h2 := hfs 2 _ rfl
  have h3 := hfs 3 _ rfl
  have h4 := hfs 4 _ rfl
  have h5 := hfs 5 _ rfl
  match xs, hlen with
  | [y0, y1, y2, y3, y4, y5], _ =>
    have g0 : DataW.trod enc Try.prog W 0 (fun _ => true) true n 2 [c0] = some y0 := by simpa [Value.cells, k1] using h0
    have g1 : DataW.trod enc Try.prog W 0 (fun _ => true) true n 2 [c1] = some y1 := by simpa [Value.cells, k1] using h1
    have g2 : DataW.trod enc Try.prog W 0 (fun _ => true) true n 64 [c2] = some y2 := by simpa [Value.cells, k2] using h2
    have g3 : DataW.trod enc Try.prog W 0 (fun _ => true) true n 65 [c3] = some y3 := by simpa [Value.cells, k3] using h3
    have g4 : DataW.trod enc Try.prog W 0 (fun _ => true) true n 66 [c4] = some y4 := by simpa [Value.cells, k4] using h4
    have g5 : DataW.trod enc Try.prog W 0 (fun _ => true) true n 67 [c5] = some y5 := by simpa [Value.cells, k5] using h5
    obtain ⟨ph, rfl, -⟩ := ints_of Try.underlying2 g0
    obtain ⟨cu, rfl, -⟩ := ints_of Try.underlying2 g1
    obtain ⟨dl, q2, r2, t2⟩ := rcs_cell g2
    obtain ⟨nl, q3, r3⟩ := prs_field g3
    obtain ⟨hl, q4, r4⟩ := hds_field g4
    obtain ⟨pl, q5, r5, t5⟩ := dss_field g5
    exact ⟨⟨ph, cu, dl, nl, hl, pl⟩, ⟨c2, c3, c4, c5⟩, rfl, ⟨q2, q3, q4, q5⟩, ⟨r2, t2, r3, r4, r5, t5⟩⟩
theorem array8V (T : Array Value) (h : T.size = 8) : ∃ v0 v1 v2 v3 v4 v5 v6 v7 : Value, T = #[v0, v1, v2, v3, v4, v5, v6, v7] := by
  rcases T with ⟨l⟩
  match l, h with
  | [a, b, c, d, e, f, g, i], _ => exact ⟨a, b, c, d, e, f, g, i, rfl⟩
set_option maxRecDepth 100000 in
set_option maxHeartbeats 1000000 in
theorem sv_arg {H : Type} {enc : TypeId × Value → H} {W : World} {base : Nat} {v : Value} {d : DataW H} {p : List MemPlace} (hv : Value.okWide Try.prog W .any base 71 v) (h : DataW.Trod enc Try.prog W 0 (fun _ => true) true 71 v d p) :
    ∃ s u lv g sf, v = .agg #[.int .i64 s.ph, .int .i64 s.cu, u.d, u.n, u.h, u.p, lv, .int .i64 sf] ∧ Sts W u s ∧ StA s ∧ Lgs W lv g ∧ g.length ≤ maxLen ∧ ∀ j, j < g.length → (lAt g j).length ≤ maxLen ∧ Bts (lAt g j) := by
  obtain ⟨cs, rfl, hsz⟩ := okWide_struct Try.underlying71 hv
  obtain ⟨c0, c1, c2, c3, c4, c5, c6, c7, rfl⟩ := array8V cs (hsz.trans (show Try.prog.cellsOf 71 = 8 by kernel_rfl))
  obtain ⟨fuel, hf⟩ := h
  obtain ⟨y0, y1, y2, n, hx, _, h0, h1, h2⟩ := Go.Deep.trod_struct3 Try.underlying71 hf
  have k0 : Try.prog.cellsOf 69 = 6 := by kernel_rfl
  have k1 : Try.prog.cellsOf 53 = 1 := by kernel_rfl
  have k2 : Try.prog.cellsOf 2 = 1 := by kernel_rfl
  simp only [Value.cells, k0, k1, k2] at h0 h1 h2
  simp at h0 h1 h2
  obtain ⟨s, u, e, hs, hA⟩ := st_cells h0
  obtain ⟨g, hg, hgl, hgb⟩ := lgs_field h1
  obtain ⟨sf, hsf, -⟩ := DataW.trod_int Try.underlying2 h2
  have e7 : c7 = .int .i64 sf := by simpa using hsf
  simp only [List.cons.injEq, and_true] at e
  obtain ⟨e0, e1, e2, e3, e4, e5⟩ := e
  subst e0 e1 e2 e3 e4 e5 e7
  exact ⟨s, u, c6, g, sf, rfl, hs, hA, hg, hgl, hgb⟩
end U
end Go.Proofs.Ytcdodpcdennemaa

/- The law FnExactSameServers holds at every argument: it answers true, and the arguments read as they did. -/
namespace Go.Proofs.Ytcdodpcdennemaa
namespace fnExactSameServers
open Go.ChangeShapes Go.WideShapes Go.ChangeAt Go.RowKit

theorem laidOut : laidOutB Try.prog = true := by kernel_rfl
theorem own : ownKnob Try.prog.godebug = none := by kernel_rfl

set_option maxRecDepth 100000 in
theorem lifted (os : Os) (started : os.Started) (H : Type) (enc : TypeId × Value → H) :
    ReturnsInHanded {} Try.checked os 6 .any (Rows.fnExactSameServersSpec.pre6 enc Try.prog Try.f6 Rows.fnExactSameServersRow.domain false) (Rows.fnExactSameServersSpec.post enc Try.prog Try.f6 false true false false) := by
  refine returnsInHanded_of_change (C := Try.checked) own started (by kernel_rfl) Try.func6
    (ChangeSpec.witness6 (enc := enc) (C := Try.checked) false ⟨#[], #[.agg #[.int .i64 0, .int .i64 0, .slice none 0 0, .slice none 0 0, .slice none 0 0, .slice none 0 0, .slice none 0 0, .int .i64 0], .agg #[.int .i64 0, .int .i64 0, .slice none 0 0, .slice none 0 0, .slice none 0 0, .slice none 0 0, .slice none 0 0, .int .i64 0]], []⟩ 8 (by kernel_rfl) (by kernel_rfl) (by kernel_rfl) (by kernel_rfl)) ?_
  intro W base args ds gs before hval0 hW hcnd _
  have hval : ∀ (j : Nat) t v, Try.f6.params[j]? = some t → args[j]? = some v → Value.okWide Try.prog W .any base t v := hval0
  have hW' := hW
  obtain ⟨p, q, hA0, hV, rfl, hfz, hnd⟩ := hW
  have hA : DataW.TrodAll enc Try.prog W 0 (fun _ => true) true Try.f6.params.toList args.toList ds p := hA0
  rw [Try.params6] at hA hval
  obtain ⟨v0, vs0, d0, ds0, p0, q0, hargs0, rfl, rfl, h0, r0⟩ := trodAll_cons hA
  obtain ⟨v1, vs1, d1, ds1, p1, q1, hargs1, rfl, rfl, h1, r1⟩ := trodAll_cons r0
  obtain ⟨rfl, rfl, rfl⟩ := trodAll_nil r1
  obtain rfl : args = #[v0, v1] := by cases args; simp_all
  obtain ⟨rfl, rfl⟩ := trodVars_none hV
  obtain ⟨s0, u0, lv0, g0, sf0, rfl, hs0, hbd0, hg0, hgl0, hgb0⟩ := U.sv_arg (hval 0 71 v0 rfl rfl) h0
  obtain ⟨s1, u1, lv1, g1, sf1, rfl, hs1, hbd1, hg1, hgl1, hgb1⟩ := U.sv_arg (hval 1 71 v1 rfl rfl) h1
  clear hA0 hval0
  refine (U.fnExactSameServers_walk s0 u0 lv0 g0 sf0 s1 u1 lv1 g1 sf1 W hs0 hbd0 hg0 hgl0 hgb0 hs1 hbd1 hg1 hgl1 hgb1).mono fun e W' ⟨he, hg⟩ => ?_
  subst he
  refine ⟨_, rfl, U.law_post (tb := 4) hW' hg laidOut ?_ (fun n hn => by cases hn) (by kernel_rfl) Try.underlying4 rfl rfl rfl⟩
  rw [Try.params6]; intro t ht; simp at ht; rcases ht with rfl | rfl <;> exact ⟨by kernel_rfl, of_decide_eq_true (by kernel_rfl)⟩

theorem over : Rows.fnExactSameServersRow.holds Try.pinned (OpenSpec.ofChange Rows.fnExactSameServersSpec) :=
  OpenClaim.holds_of_wide 6 Try.f6 rfl rfl rfl rfl rfl rfl rfl ⟨rfl, rfl, rfl, rfl, rfl⟩ rfl rfl rfl rfl rfl (by kernel_rfl) Try.func6 (by kernel_rfl)
    (of_decide_eq_true (by kernel_rfl)) (by unfold Func.isWrapper; first | (rw [if_pos (by decide +kernel)]; kernel_rfl) | (rw [if_neg (by decide +kernel)]; exact ⟨rfl, rfl⟩))
    (fun os started H enc _ => lifted os started H enc)
end fnExactSameServers
/-- The law FnExactSameServers: whatever the arguments, the call returns true and they read as before. -/
theorem fnExactSameServers_holds : Rows.FnExactSameServersSaid := fnExactSameServers.over
#print axioms fnExactSameServers_holds
end Go.Proofs.Ytcdodpcdennemaa
