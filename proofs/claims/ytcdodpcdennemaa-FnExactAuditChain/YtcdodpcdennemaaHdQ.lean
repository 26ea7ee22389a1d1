/- Rows of heads that are the same: slices.Equal. -/
import Derived.Test.YtcdodpcdennemaaStM0
import Derived.Test.YtcdodpcdennemaaHdS
import Derived.Test.YtcdodpcdennemaaHdL
namespace Go.Proofs.Ytcdodpcdennemaa
open Go.RowKit
namespace U
theorem hd_neqS (a b : Hd) (w : World) : (binOp .neq 147 (.agg #[.int .i64 a.e, .int .i64 a.p, .int .i64 a.o, .int .i64 a.n, .int .i64 a.v]) (.agg #[.int .i64 b.e, .int .i64 b.p, .int .i64 b.o, .int .i64 b.n, .int .i64 b.v])).run Try.prog w = .ok (.bool (!hdQ a b)) w := by
  unfold hdQ
  simp [go_sem]
  by_cases h : a.e = b.e <;> by_cases h1 : a.p = b.p <;> by_cases h2 : a.o = b.o <;> by_cases h3 : a.n = b.n <;> by_cases h4 : a.v = b.v <;> simp [h, h1, h2, h3, h4]
set_option maxRecDepth 100000 in
set_option maxHeartbeats 4000000 in
theorem hdEq_core (b off c b' off' c' n : Nat) (l m : Hdl) (w : World) (HN : Hid (n = l.length ∧ n = m.length)) (hx : n ≤ 1048576) (hb : b < w.heap.size) (hb' : b' < w.heap.size) (hc : ∀ j, j < n → HdS w b (off + j * 5) (hAt l j)) (hc' : ∀ j, j < n → HdS w b' (off' + j * 5) (hAt m j)) :
    Calls Try.prog 83 #[.slice (some ⟨b, off, none⟩) n c, .slice (some ⟨b', off', none⟩) n c'] w fun e w' => e = .returned (.bool (eqH l m)) ∧ Below w.heap.size w w' := by
  have hnn := hne_all
  go_enter Try.func83, Try.ntmps83
  go_wp2
  go_loopw [13] (fun i wr => ∃ k : Nat, k ≤ n ∧ i = .int .i64 k ∧ Hid (Below w.heap.size w wr) ∧ Hid (∀ j, j < k → hdQ (hAt l j) (hAt m j) = true)) (fun i _ => n - (intOf i).toNat)
  case atStart => exact ⟨0, Nat.zero_le _, rfl, Below.refl _ _, fun j hj => by omega⟩
  case round =>
    obtain ⟨k, hk, rfl, hB, HA⟩ := hrel
    by_cases hkn : k < n
    · have hki : (k : Int) < (n : Int) := by omega
      obtain ⟨d0, d1, d2, d3, d4⟩ := (hc k hkn).below hB.out hb
      obtain ⟨d0', d1', d2', d3', d4'⟩ := (hc' k hkn).below hB.out hb'
      have hE := hd_neqS (hAt l k) (hAt m k)
      have HNO : Hid (hdQ (hAt l k) (hAt m k) = false → eqH l m = false) := eqH_no (by have := HN.out; omega)
      have HYE : Hid (hdQ (hAt l k) (hAt m k) = true → ∀ j, j < k + 1 → hdQ (hAt l j) (hAt m j) = true) := (fun h j hj => by
        by_cases e : j = k
        · subst e; exact h
        · exact HA.out j (by omega) : hdQ (hAt l k) (hAt m k) = true → ∀ j, j < k + 1 → hdQ (hAt l j) (hAt m j) = true)
      generalize hdQ (hAt l k) (hAt m k) = rb at *
      generalize (hAt l k).e = x0 at *
      generalize (hAt l k).p = x1 at *
      generalize (hAt l k).o = x2 at *
      generalize (hAt l k).n = x3 at *
      generalize (hAt l k).v = x4 at *
      generalize (hAt m k).e = y0 at *
      generalize (hAt m k).p = y1 at *
      generalize (hAt m k).o = y2 at *
      generalize (hAt m k).n = y3 at *
      generalize (hAt m k).v = y4 at *
      clear hc hc'
      cases rb
      · have HQ : Hid (eqH l m = false) := HNO.out rfl
        clear HNO HYE
        go_wp2
        go_quiet (fail)
        go_wp2
        go_ret
        exact ⟨ret_bool HQ.out.symm, below_drewN hB.out _⟩
      · have HQ : Hid (∀ j, j < k + 1 → hdQ (hAt l j) (hAt m j) = true) := HYE.out rfl
        clear HNO HYE
        go_wp2
        go_quiet (fail)
        go_wp2
        go_roundw
        case rel => exact ⟨k + 1, by omega, by go_num, below_drewN hB.out _, HQ⟩
        case measure => simp [intOf]; omega
    · have hkn : k = n := by omega
      subst hkn
      have HQ : Hid (eqH l m = true) := eqH_yes (by rw [← HN.out.1, ← HN.out.2]) (fun j hj => HA.out j (by rw [HN.out.1]; exact hj))
      clear hc hc'
      go_wp2
      go_ret
      exact ⟨ret_bool HQ.out.symm, hB.out⟩
set_option maxRecDepth 100000 in
set_option maxHeartbeats 1000000 in
theorem hdEq_any (v u : Value) (l m : Hdl) (w : World) (hv : Hds w v l) (hu : Hds w u m) (hx : l.length ≤ 1048576) (hy : m.length ≤ 1048576) :
    Calls Try.prog 83 #[v, u] w fun e w' => e = .returned (.bool (eqH l m)) ∧ Below w.heap.size w w' := by
  obtain ⟨a, c, rfl⟩ := hv.shape
  obtain ⟨a', c', rfl⟩ := hu.shape
  by_cases hlm : l.length = m.length
  · rw [← hlm] at hu ⊢
    by_cases h0 : 0 < l.length
    · obtain ⟨-, b, off, rfl, hb, hc⟩ := hv.at h0
      obtain ⟨-, b', off', rfl, hb', hc'⟩ := hu.at (by omega)
      exact hdEq_core b off c b' off' c' l.length l m w ⟨rfl, hlm⟩ hx hb hb' hc (fun j hj => hc' j (by omega))
    · have e1 : l = [] := List.eq_nil_of_length_eq_zero (by omega)
      have e2 : m = [] := List.eq_nil_of_length_eq_zero (by omega)
      subst e1 e2
      have e3 : eqH [] [] = true := rfl
      rw [e3]
      simp only [List.length_nil] at *
      clear hv hu h0 hlm
      go_enter Try.func83, Try.ntmps83
      go_wp2
      refine wp_loop_rounds 1 ?_; rw [rounds_succ]
      go_wp2
      go_ret
      exact ⟨rfl, Below.refl _ _⟩
  · rw [eqH_len hlm]
    have hnb : (((l.length : Nat) : Int) != ((m.length : Nat) : Int)) = true := by simp; omega
    generalize l.length = n at *
    generalize m.length = k at *
    clear hv hu hlm
    go_enter Try.func83, Try.ntmps83
    go_wp2
    go_ret
    exact ⟨rfl, Below.refl _ _⟩
end U
end Go.Proofs.Ytcdodpcdennemaa
