/- Cursors, new slots. -/
import Derived.Test.YtjhmfaibpnagcaaGreatGSt1a
import Derived.Test.YtjhmfaibpnagcaaGreatGStM
import Derived.Test.YtjhmfaibpnagcaaGreatGBB
namespace Go.Proofs.YtjhmfaibpnagcaaGreat
open Go.RowKit
namespace U
set_option maxHeartbeats 1000000 in
theorem isCursorIn_any (ph cu : Int) (w : World) : Calls Tryz.prog 80 #[.int .i64 ph, .int .i64 cu] w fun e w' => e = .returned (.bool (cuB ph cu)) ∧ w' = w := by
  unfold cuB
  by_cases h1 : ph = 1
  · subst h1
    rw [if_pos rfl]
    go_enter Tryz.func80, Tryz.ntmps80
    go_wp2
    go_ret
    exact ⟨rfl, rfl⟩
  · rw [if_neg h1]
    by_cases h5 : ph = 5
    · subst h5
      rw [if_pos rfl]
      go_enter Tryz.func80, Tryz.ntmps80
      go_wp2
      go_ret
      exact ⟨rfl, rfl⟩
    · rw [if_neg h5]
      by_cases h2 : ph = 2
      · subst h2
        rw [if_pos rfl]
        by_cases k1 : 0 ≤ cu
        · by_cases k2 : cu ≤ 255
          · rw [inB_t k1 k2]
            go_enter Tryz.func80, Tryz.ntmps80
            go_wp2
            go_ret
            exact ⟨ret_bool (by simp; omega), rfl⟩
          · rw [inB_f (Or.inr (by omega))]
            go_enter Tryz.func80, Tryz.ntmps80
            go_wp2
            go_ret
            exact ⟨ret_bool (by simp <;> omega), rfl⟩
        · rw [inB_f (Or.inl (by omega))]
          go_enter Tryz.func80, Tryz.ntmps80
          go_wp2
          go_ret
          exact ⟨ret_bool (by simp <;> omega), rfl⟩
      · rw [if_neg h2]
        go_enter Tryz.func80, Tryz.ntmps80
        go_wp2
        go_ret
        exact ⟨rfl, rfl⟩
theorem cut_csL {l : Prl} {a b : Int} (h : slF l = 0) (h1 : cutB a b = true) : csL l a b = cut l a b := by unfold csL; rw [if_pos ⟨h, h1⟩]
theorem cutB_zero {cu : Int} (h : 0 ≤ cu ∧ cu ≤ 256) : cutB 0 cu = true := by
  unfold cutB
  rw [inB_t (by omega) (by omega), inB_t h.1 h.2]
  rfl
set_option maxRecDepth 100000 in
set_option maxHeartbeats 1000000 in
theorem newSlots_any (u : Value) (l : Rcl) (cu : Int) (w : World) (hv : Rcs w u l) (h0 : dirF l = 0) (hcu : 0 ≤ cu ∧ cu ≤ 256) :
    Calls Tryz.prog 51 #[.agg #[u], .int .i64 cu] w fun e w' => ∃ a c, e = .returned (.slice a (newL l cu).length c) ∧ Below w.heap.size w w' ∧ w'.ownsRow w.heap.size 57 2 (.slice a (newL l cu).length c) (newL l cu).length ((fl (newL l cu)).map (Value.int .i64)) := by
  have hok := dirOk h0
  have hlen := hok.len
  have hS := fun o => implSlotsOf_any u l (w.alloc o) (hv.below (one_new _)) hok.lbs (by omega)
  have e1 : sfL l = dirSl l := by unfold sfL; rw [if_pos h0]
  rw [e1, h0] at hS
  have hsl := dirSl_ok hok
  have hC := fun v w' (hp : Prs w' v (dirSl l)) (ho : Okv v) => implCutSlots_any v (dirSl l) 0 cu w' hp ho (by rw [dirSl_len]; omega)
  rw [cut_csL hsl (cutB_zero hcu)] at hC
  have e2 : cut (dirSl l) 0 cu = newL l cu := rfl
  rw [e2] at hC
  generalize csC (dirSl l) 0 cu = cc at *
  generalize newL l cu = nl at *
  obtain ⟨a, c, rfl⟩ := hv.shape
  generalize dirSl l = m at *
  generalize l.length = k at *
  clear hv h0 e1 hok e2 hsl
  go_enter Tryz.func51, Tryz.ntmps51
  go_wp2_with fail
  refine (hS _).mono ?_
  intro x w1 h1
  obtain ⟨hb1, v1, rfl, o1⟩ := h1
  obtain ⟨a1, c1, rfl⟩ := own_sh o1
  have p1 := own_prs o1
  have k1 := own_okv o1
  have kf := fun w => fieldS1 0 (.slice a1 m.length c1) w ⟨_, _, _, rfl⟩
  have hB1 : Below w.heap.size w w1 := below_after hb1
  have hC1 := hC _ _ p1 k1
  generalize m.length = mn at *
  clear o1 k1 p1 hb1 hS hC
  go_wp2_with fail
  refine hC1.mono ?_
  intro x w2 h2
  obtain ⟨hb2, v2, rfl, o2⟩ := h2
  obtain ⟨a2, c2, rfl⟩ := own_sh o2
  have kg := fun w => fieldS1 cc (.slice a2 nl.length c2) w ⟨_, _, _, rfl⟩
  have hB2 : Below w.heap.size w w2 := below_after_of hB1 hb2
  have HO : Hid (w2.ownsRow w.heap.size 57 2 (.slice a2 nl.length c2) nl.length ((fl nl).map (Value.int .i64))) := own_mono o2 hB1.size
  clear o2 hb2 hC1 kf
  go_wp2
  go_ret
  exact ⟨a2, c2, rfl, hB2, HO.out⟩
end U
end Go.Proofs.YtjhmfaibpnagcaaGreat
