/- Directories as the laws look at them: compared. -/
import Derived.Test.YtihhigmceeabmaaGreatDrT
namespace Go.Proofs.YtihhigmceeabmaaGreat
open Go.RowKit
namespace U
theorem one_cellV {w : World} {g : Nat} {x : Value} {t : TypeId} (h : w.heap[g]? = some (.cells #[x] t)) : w.cell? ⟨g, 0, none⟩ = some x := by unfold World.cell?; rw [h]; rfl
set_option maxRecDepth 100000 in
set_option maxHeartbeats 4000000 in
theorem eqRecordS_core (b off c b' off' c' n : Nat) (l : Rcl) (w : World) (hx : n ≤ 1048576) (hb : b < w.heap.size) (hb' : b' < w.heap.size) (hc : ∀ j, j < n → RecS w b (off + j * 4) (rAt l j)) (hc' : ∀ j, j < n → RecS w b' (off' + j * 4) (rAt l j)) :
    Calls Tryz.prog 130 #[.slice (some ⟨b, off, none⟩) n c, .slice (some ⟨b', off', none⟩) n c'] w fun e w' => e = .returned (.bool true) ∧ Below w.heap.size w w' := by
  have hnn := hne_all
  go_enter Tryz.func130, Tryz.ntmps130
  go_wp2
  go_loopw [5] (fun i wr => ∃ k : Nat, k ≤ n ∧ i = .int .i64 k ∧ Hid (Below w.heap.size w wr)) (fun i _ => n - (intOf i).toNat)
  case atStart => exact ⟨0, Nat.zero_le _, rfl, Below.refl _ _⟩
  case round =>
    obtain ⟨k, hk, rfl, hB⟩ := hrel
    by_cases hkn : k < n
    · have hki : (k : Int) < (n : Int) := by omega
      obtain ⟨d0, d1, d2, d3⟩ := (hc k hkn).below hB.out hb
      obtain ⟨d0', d1', d2', d3'⟩ := (hc' k hkn).below hB.out hb'
      have hE := fun w => eqRecord_same (rAt l k).l (rAt l k).v (rAt l k).o (rAt l k).p w
      unfold recV at hE
      generalize (rAt l k).l = x0 at *
      generalize (rAt l k).v = x1 at *
      generalize (rAt l k).o = x2 at *
      generalize (rAt l k).p = x3 at *
      have q0 := After.cell d0
      have q1 := After.cell d1
      have q2 := After.cell d2
      have q3 := After.cell d3
      have p0 := After.cell d0'
      have p1 := After.cell d1'
      have p2 := After.cell d2'
      have p3 := After.cell d3'
      have hne := After.ne wr
      clear hc hc' d0 d1 d2 d3 d0' d1' d2' d3'
      go_wp2_with fail
      refine wp_region_after (by kernel_rfl) (by kernel_rfl) ?_
      repeat (first | go_big_quiet_skip | (go_big_quiet_want; go_big_quiet_op; first | go_big_quiet_on | go_big_quiet_call (first | (go_at_call 56; refine (hE _).mono ?_; rintro e wq ⟨rfl, hbq⟩; exact ⟨rfl, after_mk (below_after_of (After.b _) hbq)⟩))))
      refine wpQuiet_nil ?_
      rintro _ ⟨n6, rfl⟩
      have HB6 : Hid (Below w.heap.size w n6.w) := below_after_of hB.out n6.b
      generalize n6.w = w6 at *
      clear hne q0 q1 q2 q3 p0 p1 p2 p3 n6 hE
      go_wp2
      go_roundw
      case rel => exact ⟨k + 1, by omega, by go_num, HB6⟩
      case measure => simp [intOf]; omega
    · have hkn : k = n := by omega
      subst hkn
      clear hc hc'
      go_wp2
      go_ret
      exact ⟨rfl, hB.out⟩
set_option maxRecDepth 100000 in
set_option maxHeartbeats 1000000 in
theorem eqRecordS_same (v u : Value) (l : Rcl) (w : World) (hv : Rcs w v l) (hu : Rcs w u l) (hx : l.length ≤ 1048576) :
    Calls Tryz.prog 130 #[v, u] w fun e w' => e = .returned (.bool true) ∧ Below w.heap.size w w' := by
  obtain ⟨a, c, rfl⟩ := hv.shape
  obtain ⟨a', c', rfl⟩ := hu.shape
  by_cases h0 : 0 < l.length
  · obtain ⟨_, b, off, rfl, hb, hc⟩ := hv.at h0
    obtain ⟨_, b', off', rfl, hb', hc'⟩ := hu.at h0
    exact eqRecordS_core b off c b' off' c' l.length l w hx hb hb' hc hc'
  · have e1 : l = [] := List.eq_nil_of_length_eq_zero (by omega)
    subst e1
    simp only [List.length_nil] at *
    clear hv hu h0
    go_enter Tryz.func130, Tryz.ntmps130
    go_wp2
    refine wp_loop_rounds 1 ?_; rw [rounds_succ]
    go_wp2
    go_ret
    exact ⟨rfl, Below.refl _ _⟩
set_option maxRecDepth 100000 in
set_option maxHeartbeats 1000000 in
theorem eqDirectory_same (v u : Value) (l : Rcl) (w : World) (hv : Rcs w v l) (hu : Rcs w u l) (hx : l.length ≤ 1048576) :
    Calls Tryz.prog 76 #[.agg #[v], .agg #[u]] w fun e w' => e = .returned (.bool true) ∧ Below w.heap.size w w' := by
  have hE := fun o o' => eqRecordS_same v u l ((w.alloc o).alloc o') (hv.below (two_new _ _)) (hu.below (two_new _ _)) hx
  obtain ⟨a, c, rfl⟩ := hv.shape
  obtain ⟨a', c', rfl⟩ := hu.shape
  generalize l.length = n at *
  clear hv hu
  go_enter Tryz.func76, Tryz.ntmps76
  go_wp2_with fail
  refine (hE _ _).mono ?_
  rintro e w1 ⟨rfl, hb1⟩
  clear hE
  go_wp2
  go_ret
  exact ⟨rfl, below_after (below_after hb1)⟩
end U
end Go.Proofs.YtihhigmceeabmaaGreat
