/- The law on AuditChain, walked: true, and nothing that was there has turned. -/
import Derived.Test.YtcdodpcdennemaaHdT
import Derived.Test.YtcdodpcdennemaaAu1
namespace Go.Proofs.Ytcdodpcdennemaa
open Go.RowKit
namespace U
set_option maxHeartbeats 400000 in
theorem szHeadS_gen (z : Nat) (hz : z ≤ 1048576) (a : Option Addr) (n c : Nat) (w : World) (hn : n ≤ maxLen) :
    Calls Try.prog 37 #[.slice a n c, .int .i64 (z : Int)] w fun e w' => e = .returned (.int .i64 (if n ≤ z then ((z : Int) - (n : Int)) else -1)) ∧ w' = w := by
  unfold maxLen at hn
  have h1 : wrap64 ((z : Int) - (n : Int)) = (z : Int) - (n : Int) := by simp only [wrap64]; omega
  by_cases h : n ≤ z
  · rw [if_pos h]
    have h2 : ¬ ((z : Int) - (n : Int) < 0) := by omega
    go_enter Try.func37, Try.ntmps37
    go_wp2
    go_ret
    exact ⟨rfl, rfl⟩
  · rw [if_neg h]
    have h2 : ((z : Int) - (n : Int) < 0) := by omega
    go_enter Try.func37, Try.ntmps37
    go_wp2
    go_ret
    exact ⟨rfl, rfl⟩
theorem own_capH {w : World} {B sz n : Nat} {e : TypeId} {a : Option Addr} {c : Nat} {xs : List Value} (h : w.ownsRow B e sz (.slice a n c) n xs) : n ≤ c := by
  rcases h.2 with ⟨e1, hn⟩ | ⟨g, cap, cur, e1, hB, hg, hc, hm, _⟩
  · omega
  · cases e1; exact hc
set_option maxRecDepth 100000 in
set_option maxHeartbeats 2000000 in
theorem fnExactAuditChain_walk (v : Value) (t : Hdl) (u : Value) (l : Hdl) (w : World) (hv : Hds w v t) (ht : t.length ≤ maxLen) (hu : Hds w u l) (hl : l.length ≤ maxLen) :
    Calls Try.prog 8 #[v, u] w fun e w' => e = .returned (.bool true) ∧ Below w.heap.size w w' := by
  obtain ⟨a, c, rfl⟩ := hv.shape
  obtain ⟨a', c', rfl⟩ := hu.shape
  have hZ := fun w => szHeadS_any a t.length c w ht
  by_cases h : t.length ≤ 1048576
  · rw [if_pos h] at hZ
    have hZ2 := fun w => szHeadS_gen (1048576 - t.length) (by omega) a' l.length c' w hl
    have hzc : ((1048576 - t.length : Nat) : Int) = 1048576 - (t.length : Int) := by omega
    rw [hzc] at hZ2
    have h2 : ¬ ((1048576 - t.length : Int) < 0) := by omega
    by_cases hll : l.length ≤ 1048576 - t.length
    · rw [if_pos hll] at hZ2
      have h3 : ¬ ((1048576 - t.length : Int) - l.length < 0) := by omega
      have hT1 := fun w' hb => toHeadS_any _ t w' (hv.below (w' := w') hb) h
      have hT2 := fun w' hb => toHeadS_any _ l w' (hu.below (w' := w') hb) (by omega)
      have hS := fun x y w' hx hy => specAuditChain_any x y t l w' hx hy h (by omega)
      have hI := fun x y w' hx hy hc => implAuditChain_any x y t l w' hx hy h (by omega) hc
      have hE1 := fun x y w' hx hy => eqHeadS_same x y t w' hx hy h
      have hE2 := fun x y w' hx hy => eqHeadS_same x y l w' hx hy (by omega)
      generalize (1048576 - t.length : Int) - l.length = z2 at *
      generalize (1048576 - t.length : Int) = z at *
      generalize auC t l = q at *
      have hnn := hne_all q
      obtain ⟨n, hn⟩ : ∃ n, n = t.length := ⟨_, rfl⟩
      have HN : Hid (n = t.length) := hn
      obtain ⟨m, hm⟩ : ∃ m, m = l.length := ⟨_, rfl⟩
      have HM : Hid (m = l.length) := hm
      rw [← hn] at hZ hT1 ht h ⊢
      rw [← hm] at hZ2 hT2 hl ⊢
      clear hn hm hv hu hzc hll h
      go_enter Try.func8, Try.ntmps8
      go_wp2_with fail
      refine (hZ _).mono ?_
      rintro e w1 ⟨rfl, rfl⟩
      clear hZ
      go_wp2_with fail
      refine (hZ2 _).mono ?_
      rintro e w1 ⟨rfl, rfl⟩
      clear hZ2
      go_wp2_with fail
      refine (hT1 _ (Below.refl _ _)).mono ?_
      rintro e w2 ⟨a2, c2, rfl, hb2, o2⟩
      have r2 := own_hds' HN.out o2
      clear o2
      go_wp2_with fail
      refine (hT2 _ hb2).mono ?_
      rintro e w3 ⟨a3, c3, rfl, hb3, o3⟩
      have r3 := own_hds' HM.out o3
      have hB3 := below_after_of hb2 hb3
      have r2' := r2.below hb3
      clear o3 hb2 hb3 r2
      go_wp2_with fail
      refine (hS _ _ _ r2' r3).mono ?_
      rintro e w4 ⟨rfl, hb4⟩
      have hB4 := below_after_of hB3 hb4
      clear hB3 hb4 r2' r3 hS
      go_wp2_with fail
      refine (hT1 _ hB4).mono ?_
      rintro e w5 ⟨a5, c5, rfl, hb5, o5⟩
      have r5 := own_hds' HN.out o5
      have hB5 := below_after_of hB4 hb5
      clear hb5 hB4 o5
      go_wp2_with fail
      refine (hT2 _ hB5).mono ?_
      rintro e w6 ⟨a6, c6, rfl, hb6, o6⟩
      have r6 := own_hds' HM.out o6
      have HC6 : Hid (∃ a n c, Value.slice a6 m c6 = .slice a n c ∧ n ≤ c) := ⟨_, _, _, rfl, own_capH o6⟩
      have hB6 := below_after_of hB5 hb6
      have r5' := r5.below hb6
      clear hb6 hB5 o6 r5
      go_wp2_with fail
      refine (hI _ _ _ r5' r6 HC6).mono ?_
      rintro e w7 ⟨rfl, hb7⟩
      have hB7 := below_after_of hB6 hb7
      have r57 := r5'.below hb7
      have r67 := r6.below hb7
      clear hI hb7 r5' r6 hB6 HC6
      go_wp2_with fail
      refine (hT1 _ hB7).mono ?_
      rintro e w8 ⟨a8, c8, rfl, hb8, o8⟩
      have r8 := own_hds' HN.out o8
      have r58 := r57.below hb8
      have r68 := r67.below hb8
      have hB8 := below_after_of hB7 hb8
      clear hb8 o8 r57 r67 hB7
      go_wp2_with fail
      refine (hE1 _ _ _ r58 r8).mono ?_
      rintro e w9 ⟨rfl, hb9⟩
      have r69 := r68.below hb9
      have hB9 := below_after_of hB8 hb9
      clear hb9 r58 r8 r68 hB8 hE1
      go_wp2_with fail
      refine (hT2 _ hB9).mono ?_
      rintro e w10 ⟨a10, c10, rfl, hb10, o10⟩
      have r10 := own_hds' HM.out o10
      have r610 := r69.below hb10
      have hB10 := below_after_of hB9 hb10
      clear hb10 o10 r69 hB9
      go_wp2_with fail
      refine (hE2 _ _ _ r610 r10).mono ?_
      rintro e w11 ⟨rfl, hb11⟩
      have hB11 := below_after_of hB10 hb11
      go_wp2
      go_ret
      exact ⟨rfl, hB11⟩
    · rw [if_neg hll] at hZ2
      generalize (1048576 - t.length : Int) = z at *
      generalize t.length = n at *
      generalize l.length = m at *
      clear hv hu hzc hll
      go_enter Try.func8, Try.ntmps8
      go_wp2_with fail
      refine (hZ _).mono ?_
      rintro e w1 ⟨rfl, rfl⟩
      go_wp2_with fail
      refine (hZ2 _).mono ?_
      rintro e w1 ⟨rfl, rfl⟩
      go_wp2
      go_ret
      exact ⟨rfl, Below.refl _ _⟩
  · rw [if_neg h] at hZ
    generalize t.length = n at *
    generalize l.length = m at *
    clear hv hu
    go_enter Try.func8, Try.ntmps8
    go_wp2_with fail
    refine (hZ _).mono ?_
    rintro e w1 ⟨rfl, rfl⟩
    go_wp2
    go_ret
    exact ⟨rfl, Below.refl _ _⟩
end U
end Go.Proofs.Ytcdodpcdennemaa
