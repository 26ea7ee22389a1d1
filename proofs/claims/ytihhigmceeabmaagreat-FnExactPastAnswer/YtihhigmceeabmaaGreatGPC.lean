/- Joined: what the texts behind it need. -/
import Derived.Test.YtihhigmceeabmaaGreatGPB
import Derived.Test.YtihhigmceeabmaaGreatDr1
import Derived.Maps.OwnSet
import Derived.Maps.Ext
import Derived.Test.YtihhigmceeabmaaGreatQuiet
import Derived.Deep.RegionHeld3
import Derived.Test.YtihhigmceeabmaaGreatShelf
import Derived.Test.YtihhigmceeabmaaGreatGPA
import Derived.Test.YtihhigmceeabmaaGreatDr2
import Derived.Test.YtihhigmceeabmaaGreatRecW
import Derived.Test.YtihhigmceeabmaaGreatRecE
/- The form of a state, by the model. -/
namespace Go.Proofs.YtihhigmceeabmaaGreat
open Go.RowKit
namespace U
set_option maxRecDepth 100000 in
set_option maxHeartbeats 1000000 in
theorem l11New_any (ph cu : Int) (g og : Nat) (u : Value) (l : Rcl) (w : World) (hg : g < w.heap.size) (hD : w.cell? ⟨g, og, none⟩ = some u) (hv : Rcs w u l) (hok : DirOk l) (hcu : cuB ph cu = true) :
    Calls Tryz.prog 154 #[.int .i64 ph, .int .i64 cu, .pointer (some ⟨g, og, none⟩)] w fun e w' => ∃ a c, e = .returned (.slice a (newL l cu).length c) ∧ Below w.heap.size w w' ∧ w'.ownsRow w.heap.size 45 2 (.slice a (newL l cu).length c) (newL l cu).length ((fl (newL l cu)).map (Value.int .i64)) := by
  by_cases h1 : ph = 1 ∨ ph = 5
  · have e0 : cu = 0 := by
      unfold cuB at hcu
      rcases h1 with rfl | rfl <;> simpa using hcu
    subst e0
    rw [newL_zero]
    have HN : Hid ((w.alloc (.cells #[] 45)).ownsRow w.heap.size 45 2 (.slice (some ⟨w.heap.size, 0, none⟩) 0 0) 0 []) := none_own w 45 _ (Nat.le_refl _)
    clear hv hok hcu
    simp only [List.length_nil]
    rcases h1 with rfl | rfl
    · go_enter Tryz.func154, Tryz.ntmps154
      go_wp2
      go_ret
      exact ⟨_, _, rfl, one_new _, HN.out⟩
    · go_enter Tryz.func154, Tryz.ntmps154
      go_wp2
      go_ret
      exact ⟨_, _, rfl, one_new _, HN.out⟩
  · have n1 : ¬ ph = 1 := fun e => h1 (Or.inl e)
    have n5 : ¬ ph = 5 := fun e => h1 (Or.inr e)
    have b1 : (ph == 1) = false := by simpa using n1
    have b5 : (ph == 5) = false := by simpa using n5
    have hlen := hok.len
    have hS := l9Slots_off g og u l w hg hD hv hok
    have hC := fun v w' (hp : Prs w' v (dirSl l)) => l4Cut_any v (dirSl l) 0 cu w' hp (by rw [dirSl_len]; omega)
    have e2 : cut (dirSl l) 0 cu = newL l cu := rfl
    rw [e2] at hC
    generalize newL l cu = nl at *
    generalize dirSl l = m at *
    clear hv hok hcu e2 h1 n1 n5 hD hg hlen
    go_enter Tryz.func154, Tryz.ntmps154
    go_wp2_with fail
    refine hS.mono ?_
    rintro e w1 ⟨u1, rfl, hb1, o1⟩
    have p1 := own_prs o1
    obtain ⟨a1, c1, rfl⟩ := own_sh o1
    have hC1 := hC _ _ p1
    generalize m.length = mn at *
    clear hS hC o1 p1
    go_wp2_with fail
    refine hC1.mono ?_
    rintro e w2 ⟨a2, c2, rfl, o2, hb2⟩
    have HO : Hid (w2.ownsRow w.heap.size 45 2 (.slice a2 nl.length c2) nl.length ((fl nl).map (Value.int .i64))) := own_mono o2 hb1.size
    have HB : Hid (Below w.heap.size w w2) := below_after_of hb1 hb2
    clear hC1 o2 hb2 hb1
    go_wp2
    go_ret
    exact ⟨a2, c2, rfl, HB.out, HO.out⟩
/-- New slots as the model tells them. -/
structure LnAt (W : World) (g : Nat) (ph cu : Int) (m : Prl) : Prop where
  c : ∀ w', Below W.heap.size W w' → Calls Tryz.prog 154 #[.int .i64 ph, .int .i64 cu, .pointer (some ⟨g, 2, none⟩)] w' fun e w'' => ∃ a c, e = .returned (.slice a m.length c) ∧ Below w'.heap.size w' w'' ∧ w''.ownsRow w'.heap.size 45 2 (.slice a m.length c) m.length ((fl m).map (Value.int .i64))
structure SsAt (W : World) (v : Value) (m : Prl) (q : Bool) : Prop where
  c : ∀ u w', Below W.heap.size W w' → Prs w' u m → Calls Tryz.prog 153 #[v, u] w' fun e w'' => e = .returned (.bool q) ∧ Below w'.heap.size w' w''
set_option maxRecDepth 100000 in
set_option maxHeartbeats 4000000 in
theorem l11Form_1n (g : Nat) (cu : Int) (a1 a2 : Option Addr) (c1 d nn c2 : Nat) (w : World) (k0 : w.cell? ⟨g, 0, none⟩ = some (.int .i64 1)) (k1 : w.cell? ⟨g, 1, none⟩ = some (.int .i64 cu)) (k2 : w.cell? ⟨g, 2, none⟩ = some (.slice a1 d c1)) (k3 : w.cell? ⟨g, 3, none⟩ = some (.slice a2 nn c2)) (hcu : (cu == 0) = false) :
    Calls Tryz.prog 120 #[.pointer (some ⟨g, 0, none⟩)] w fun e w' => e = .returned (.bool false) ∧ Below w.heap.size w w' := by
  have q0 := After.cell k0
  have q1 := After.cell k1
  have q2 := After.cell k2
  have q3 := After.cell k3
  have hne := After.ne w
  go_enter Tryz.func120, Tryz.ntmps120
  go_wp2_with fail
  refine wp_region_after (by kernel_rfl) (by kernel_rfl) ?_
  repeat (first | go_big_quiet_skip | (go_big_quiet_want; go_big_quiet_op; first | go_big_quiet_on | go_big_quiet_call (fail)))
  refine wpQuiet_nil ?_
  rintro _ ⟨n6, rfl⟩
  have HB6 : Hid (Below w.heap.size w n6.w) := n6.b
  generalize n6.w = w6 at *
  clear hne q0 q1 q2 q3 n6
  go_wp2
  go_ret
  exact ⟨rfl, HB6.out⟩
set_option maxRecDepth 100000 in
set_option maxHeartbeats 4000000 in
theorem l11Form_1y (g : Nat) (a1 a2 : Option Addr) (c1 d nn c2 : Nat) (m : Prl) (q : Bool) (w : World) (hg : g < w.heap.size) (k0 : w.cell? ⟨g, 0, none⟩ = some (.int .i64 1)) (k1 : w.cell? ⟨g, 1, none⟩ = some (.int .i64 0)) (k2 : w.cell? ⟨g, 2, none⟩ = some (.slice a1 d c1)) (k3 : w.cell? ⟨g, 3, none⟩ = some (.slice a2 nn c2)) (HL : LnAt w g 1 0 m) (HS : SsAt w (.slice a2 nn c2) m q) :
    Calls Tryz.prog 120 #[.pointer (some ⟨g, 0, none⟩)] w fun e w' => e = .returned (.bool q) ∧ Below w.heap.size w w' := by
  have HCC : Hid (∀ w', Below w.heap.size w w' → w'.cell? ⟨g, 0, none⟩ = some (.int .i64 1) ∧ w'.cell? ⟨g, 1, none⟩ = some (.int .i64 0) ∧ w'.cell? ⟨g, 2, none⟩ = some (.slice a1 d c1) ∧ w'.cell? ⟨g, 3, none⟩ = some (.slice a2 nn c2)) := fun w' hb => ⟨(hb.cell (p := ⟨g, 0, none⟩) hg).trans k0, (hb.cell (p := ⟨g, 1, none⟩) hg).trans k1, (hb.cell (p := ⟨g, 2, none⟩) hg).trans k2, (hb.cell (p := ⟨g, 3, none⟩) hg).trans k3⟩
  have hbr : Below w.heap.size w w := Below.refl _ _
  go_enter Tryz.func120, Tryz.ntmps120
  go_wp2_with fail
  go_region_held3 (fun w' => w'.cell? ⟨g, 0, none⟩ = some (.int .i64 1) ∧ w'.cell? ⟨g, 1, none⟩ = some (.int .i64 0) ∧ w'.cell? ⟨g, 2, none⟩ = some (.slice a1 d c1) ∧ w'.cell? ⟨g, 3, none⟩ = some (.slice a2 nn c2))
    (first | with_reducible exact ⟨k0, k1, k2, k3⟩ | with_reducible exact HCC.out _ hbr | with_reducible exact HCC.out _ hbr.drew)
    (first
      | (go_at_call 154; refine (LnAt.c (by assumption) _ (by first | exact hbr | exact hbr.drew)).mono ?_; rintro e w3 ⟨a7, c7, rfl, hb3, o3⟩; have hp3 := own_prs o3; have hbr : Below w.heap.size w w3 := (by first | exact below_after_of hbr hb3 | exact below_after_of hbr.drew hb3); clear hb3 o3)
      | (go_at_call 153; refine (SsAt.c (by assumption) _ _ hbr hp3).mono ?_; rintro e w4 ⟨rfl, hb4⟩; have hbr : Below w.heap.size w w4 := below_after_of hbr hb4; clear hb4))
  go_wp2
  go_ret
  exact ⟨rfl, hbr⟩
set_option maxRecDepth 100000 in
set_option maxHeartbeats 4000000 in
theorem l11Form_2n (g : Nat) (cu : Int) (a1 a2 : Option Addr) (c1 d nn c2 : Nat) (w : World) (k0 : w.cell? ⟨g, 0, none⟩ = some (.int .i64 2)) (k1 : w.cell? ⟨g, 1, none⟩ = some (.int .i64 cu)) (k2 : w.cell? ⟨g, 2, none⟩ = some (.slice a1 d c1)) (k3 : w.cell? ⟨g, 3, none⟩ = some (.slice a2 nn c2)) (hcu : inB cu 0 255 = false) :
    Calls Tryz.prog 120 #[.pointer (some ⟨g, 0, none⟩)] w fun e w' => e = .returned (.bool false) ∧ Below w.heap.size w w' := by
  have hI := fun w => l1In_any cu 0 255 w
  rw [hcu] at hI
  have q0 := After.cell k0
  have q1 := After.cell k1
  have q2 := After.cell k2
  have q3 := After.cell k3
  have hne := After.ne w
  go_enter Tryz.func120, Tryz.ntmps120
  go_wp2_with fail
  refine (hI _).mono ?_
  rintro e w0 ⟨rfl, hw0⟩
  rw [hw0]
  clear hI hw0
  go_wp2_with fail
  refine wp_region_after (by kernel_rfl) (by kernel_rfl) ?_
  repeat (first | go_big_quiet_skip | (go_big_quiet_want; go_big_quiet_op; first | go_big_quiet_on | go_big_quiet_call (fail)))
  refine wpQuiet_nil ?_
  rintro _ ⟨n6, rfl⟩
  have HB6 : Hid (Below w.heap.size w n6.w) := n6.b
  generalize n6.w = w6 at *
  clear hne q0 q1 q2 q3 n6
  go_wp2
  go_ret
  exact ⟨rfl, HB6.out⟩
set_option maxRecDepth 100000 in
set_option maxHeartbeats 4000000 in
theorem l11Form_2y (g : Nat) (cu : Int) (a1 a2 : Option Addr) (c1 d nn c2 : Nat) (m : Prl) (q : Bool) (w : World) (hg : g < w.heap.size) (k0 : w.cell? ⟨g, 0, none⟩ = some (.int .i64 2)) (k1 : w.cell? ⟨g, 1, none⟩ = some (.int .i64 cu)) (k2 : w.cell? ⟨g, 2, none⟩ = some (.slice a1 d c1)) (k3 : w.cell? ⟨g, 3, none⟩ = some (.slice a2 nn c2)) (HL : LnAt w g 2 cu m) (HS : SsAt w (.slice a2 nn c2) m q) (hcu : inB cu 0 255 = true) :
    Calls Tryz.prog 120 #[.pointer (some ⟨g, 0, none⟩)] w fun e w' => e = .returned (.bool q) ∧ Below w.heap.size w w' := by
  have hI := fun w => l1In_any cu 0 255 w
  rw [hcu] at hI
  have HCC : Hid (∀ w', Below w.heap.size w w' → w'.cell? ⟨g, 0, none⟩ = some (.int .i64 2) ∧ w'.cell? ⟨g, 1, none⟩ = some (.int .i64 cu) ∧ w'.cell? ⟨g, 2, none⟩ = some (.slice a1 d c1) ∧ w'.cell? ⟨g, 3, none⟩ = some (.slice a2 nn c2)) := fun w' hb => ⟨(hb.cell (p := ⟨g, 0, none⟩) hg).trans k0, (hb.cell (p := ⟨g, 1, none⟩) hg).trans k1, (hb.cell (p := ⟨g, 2, none⟩) hg).trans k2, (hb.cell (p := ⟨g, 3, none⟩) hg).trans k3⟩
  have hbr : Below w.heap.size w w := Below.refl _ _
  go_enter Tryz.func120, Tryz.ntmps120
  go_wp2_with fail
  refine (hI _).mono ?_
  rintro e w0 ⟨rfl, hw0⟩
  rw [hw0]
  clear hI hw0
  go_wp2_with fail
  go_region_held3 (fun w' => w'.cell? ⟨g, 0, none⟩ = some (.int .i64 2) ∧ w'.cell? ⟨g, 1, none⟩ = some (.int .i64 cu) ∧ w'.cell? ⟨g, 2, none⟩ = some (.slice a1 d c1) ∧ w'.cell? ⟨g, 3, none⟩ = some (.slice a2 nn c2))
    (first | with_reducible exact ⟨k0, k1, k2, k3⟩ | with_reducible exact HCC.out _ hbr | with_reducible exact HCC.out _ hbr.drew)
    (first
      | (go_at_call 154; refine (LnAt.c (by assumption) _ (by first | exact hbr | exact hbr.drew)).mono ?_; rintro e w3 ⟨a7, c7, rfl, hb3, o3⟩; have hp3 := own_prs o3; have hbr : Below w.heap.size w w3 := (by first | exact below_after_of hbr hb3 | exact below_after_of hbr.drew hb3); clear hb3 o3)
      | (go_at_call 153; refine (SsAt.c (by assumption) _ _ hbr hp3).mono ?_; rintro e w4 ⟨rfl, hb4⟩; have hbr : Below w.heap.size w w4 := below_after_of hbr hb4; clear hb4))
  go_wp2
  go_ret
  exact ⟨rfl, hbr⟩
set_option maxRecDepth 100000 in
set_option maxHeartbeats 4000000 in
theorem l11Form_3n (g : Nat) (cu : Int) (a1 a2 : Option Addr) (c1 d nn c2 : Nat) (w : World) (k0 : w.cell? ⟨g, 0, none⟩ = some (.int .i64 3)) (k1 : w.cell? ⟨g, 1, none⟩ = some (.int .i64 cu)) (k2 : w.cell? ⟨g, 2, none⟩ = some (.slice a1 d c1)) (k3 : w.cell? ⟨g, 3, none⟩ = some (.slice a2 nn c2)) (hcu : (cu == 256) = false) :
    Calls Tryz.prog 120 #[.pointer (some ⟨g, 0, none⟩)] w fun e w' => e = .returned (.bool false) ∧ Below w.heap.size w w' := by
  have q0 := After.cell k0
  have q1 := After.cell k1
  have q2 := After.cell k2
  have q3 := After.cell k3
  have hne := After.ne w
  go_enter Tryz.func120, Tryz.ntmps120
  go_wp2_with fail
  refine wp_region_after (by kernel_rfl) (by kernel_rfl) ?_
  repeat (first | go_big_quiet_skip | (go_big_quiet_want; go_big_quiet_op; first | go_big_quiet_on | go_big_quiet_call (fail)))
  refine wpQuiet_nil ?_
  rintro _ ⟨n6, rfl⟩
  have HB6 : Hid (Below w.heap.size w n6.w) := n6.b
  generalize n6.w = w6 at *
  clear hne q0 q1 q2 q3 n6
  go_wp2
  go_ret
  exact ⟨rfl, HB6.out⟩
set_option maxRecDepth 100000 in
set_option maxHeartbeats 4000000 in
theorem l11Form_3y (g : Nat) (a1 a2 : Option Addr) (c1 d nn c2 : Nat) (m : Prl) (q : Bool) (w : World) (hg : g < w.heap.size) (k0 : w.cell? ⟨g, 0, none⟩ = some (.int .i64 3)) (k1 : w.cell? ⟨g, 1, none⟩ = some (.int .i64 256)) (k2 : w.cell? ⟨g, 2, none⟩ = some (.slice a1 d c1)) (k3 : w.cell? ⟨g, 3, none⟩ = some (.slice a2 nn c2)) (HL : LnAt w g 3 256 m) (HS : SsAt w (.slice a2 nn c2) m q) :
    Calls Tryz.prog 120 #[.pointer (some ⟨g, 0, none⟩)] w fun e w' => e = .returned (.bool q) ∧ Below w.heap.size w w' := by
  have HCC : Hid (∀ w', Below w.heap.size w w' → w'.cell? ⟨g, 0, none⟩ = some (.int .i64 3) ∧ w'.cell? ⟨g, 1, none⟩ = some (.int .i64 256) ∧ w'.cell? ⟨g, 2, none⟩ = some (.slice a1 d c1) ∧ w'.cell? ⟨g, 3, none⟩ = some (.slice a2 nn c2)) := fun w' hb => ⟨(hb.cell (p := ⟨g, 0, none⟩) hg).trans k0, (hb.cell (p := ⟨g, 1, none⟩) hg).trans k1, (hb.cell (p := ⟨g, 2, none⟩) hg).trans k2, (hb.cell (p := ⟨g, 3, none⟩) hg).trans k3⟩
  have hbr : Below w.heap.size w w := Below.refl _ _
  go_enter Tryz.func120, Tryz.ntmps120
  go_wp2_with fail
  go_region_held3 (fun w' => w'.cell? ⟨g, 0, none⟩ = some (.int .i64 3) ∧ w'.cell? ⟨g, 1, none⟩ = some (.int .i64 256) ∧ w'.cell? ⟨g, 2, none⟩ = some (.slice a1 d c1) ∧ w'.cell? ⟨g, 3, none⟩ = some (.slice a2 nn c2))
    (first | with_reducible exact ⟨k0, k1, k2, k3⟩ | with_reducible exact HCC.out _ hbr | with_reducible exact HCC.out _ hbr.drew)
    (first
      | (go_at_call 154; refine (LnAt.c (by assumption) _ (by first | exact hbr | exact hbr.drew)).mono ?_; rintro e w3 ⟨a7, c7, rfl, hb3, o3⟩; have hp3 := own_prs o3; have hbr : Below w.heap.size w w3 := (by first | exact below_after_of hbr hb3 | exact below_after_of hbr.drew hb3); clear hb3 o3)
      | (go_at_call 153; refine (SsAt.c (by assumption) _ _ hbr hp3).mono ?_; rintro e w4 ⟨rfl, hb4⟩; have hbr : Below w.heap.size w w4 := below_after_of hbr hb4; clear hb4))
  go_wp2
  go_ret
  exact ⟨rfl, hbr⟩
set_option maxRecDepth 100000 in
set_option maxHeartbeats 4000000 in
theorem l11Form_4n (g : Nat) (cu : Int) (a1 a2 : Option Addr) (c1 d nn c2 : Nat) (w : World) (k0 : w.cell? ⟨g, 0, none⟩ = some (.int .i64 4)) (k1 : w.cell? ⟨g, 1, none⟩ = some (.int .i64 cu)) (k2 : w.cell? ⟨g, 2, none⟩ = some (.slice a1 d c1)) (k3 : w.cell? ⟨g, 3, none⟩ = some (.slice a2 nn c2)) (hcu : (cu == 256) = false) :
    Calls Tryz.prog 120 #[.pointer (some ⟨g, 0, none⟩)] w fun e w' => e = .returned (.bool false) ∧ Below w.heap.size w w' := by
  have q0 := After.cell k0
  have q1 := After.cell k1
  have q2 := After.cell k2
  have q3 := After.cell k3
  have hne := After.ne w
  go_enter Tryz.func120, Tryz.ntmps120
  go_wp2_with fail
  refine wp_region_after (by kernel_rfl) (by kernel_rfl) ?_
  repeat (first | go_big_quiet_skip | (go_big_quiet_want; go_big_quiet_op; first | go_big_quiet_on | go_big_quiet_call (fail)))
  refine wpQuiet_nil ?_
  rintro _ ⟨n6, rfl⟩
  have HB6 : Hid (Below w.heap.size w n6.w) := n6.b
  generalize n6.w = w6 at *
  clear hne q0 q1 q2 q3 n6
  go_wp2
  go_ret
  exact ⟨rfl, HB6.out⟩
set_option maxRecDepth 100000 in
set_option maxHeartbeats 4000000 in
theorem l11Form_4y (g : Nat) (a1 a2 : Option Addr) (c1 d nn c2 : Nat) (m : Prl) (q : Bool) (w : World) (hg : g < w.heap.size) (k0 : w.cell? ⟨g, 0, none⟩ = some (.int .i64 4)) (k1 : w.cell? ⟨g, 1, none⟩ = some (.int .i64 256)) (k2 : w.cell? ⟨g, 2, none⟩ = some (.slice a1 d c1)) (k3 : w.cell? ⟨g, 3, none⟩ = some (.slice a2 nn c2)) (HL : LnAt w g 4 256 m) (HS : SsAt w (.slice a2 nn c2) m q) :
    Calls Tryz.prog 120 #[.pointer (some ⟨g, 0, none⟩)] w fun e w' => e = .returned (.bool q) ∧ Below w.heap.size w w' := by
  have HCC : Hid (∀ w', Below w.heap.size w w' → w'.cell? ⟨g, 0, none⟩ = some (.int .i64 4) ∧ w'.cell? ⟨g, 1, none⟩ = some (.int .i64 256) ∧ w'.cell? ⟨g, 2, none⟩ = some (.slice a1 d c1) ∧ w'.cell? ⟨g, 3, none⟩ = some (.slice a2 nn c2)) := fun w' hb => ⟨(hb.cell (p := ⟨g, 0, none⟩) hg).trans k0, (hb.cell (p := ⟨g, 1, none⟩) hg).trans k1, (hb.cell (p := ⟨g, 2, none⟩) hg).trans k2, (hb.cell (p := ⟨g, 3, none⟩) hg).trans k3⟩
  have hbr : Below w.heap.size w w := Below.refl _ _
  go_enter Tryz.func120, Tryz.ntmps120
  go_wp2_with fail
  go_region_held3 (fun w' => w'.cell? ⟨g, 0, none⟩ = some (.int .i64 4) ∧ w'.cell? ⟨g, 1, none⟩ = some (.int .i64 256) ∧ w'.cell? ⟨g, 2, none⟩ = some (.slice a1 d c1) ∧ w'.cell? ⟨g, 3, none⟩ = some (.slice a2 nn c2))
    (first | with_reducible exact ⟨k0, k1, k2, k3⟩ | with_reducible exact HCC.out _ hbr | with_reducible exact HCC.out _ hbr.drew)
    (first
      | (go_at_call 154; refine (LnAt.c (by assumption) _ (by first | exact hbr | exact hbr.drew)).mono ?_; rintro e w3 ⟨a7, c7, rfl, hb3, o3⟩; have hp3 := own_prs o3; have hbr : Below w.heap.size w w3 := (by first | exact below_after_of hbr hb3 | exact below_after_of hbr.drew hb3); clear hb3 o3)
      | (go_at_call 153; refine (SsAt.c (by assumption) _ _ hbr hp3).mono ?_; rintro e w4 ⟨rfl, hb4⟩; have hbr : Below w.heap.size w w4 := below_after_of hbr hb4; clear hb4))
  go_wp2
  go_ret
  exact ⟨rfl, hbr⟩
set_option maxRecDepth 100000 in
set_option maxHeartbeats 4000000 in
theorem l11Form_5n (g : Nat) (cu : Int) (a1 a2 : Option Addr) (c1 d nn c2 : Nat) (w : World) (k0 : w.cell? ⟨g, 0, none⟩ = some (.int .i64 5)) (k1 : w.cell? ⟨g, 1, none⟩ = some (.int .i64 cu)) (k2 : w.cell? ⟨g, 2, none⟩ = some (.slice a1 d c1)) (k3 : w.cell? ⟨g, 3, none⟩ = some (.slice a2 nn c2)) (hcu : (cu == 0) = false) :
    Calls Tryz.prog 120 #[.pointer (some ⟨g, 0, none⟩)] w fun e w' => e = .returned (.bool false) ∧ Below w.heap.size w w' := by
  have q0 := After.cell k0
  have q1 := After.cell k1
  have q2 := After.cell k2
  have q3 := After.cell k3
  have hne := After.ne w
  go_enter Tryz.func120, Tryz.ntmps120
  go_wp2_with fail
  refine wp_region_after (by kernel_rfl) (by kernel_rfl) ?_
  repeat (first | go_big_quiet_skip | (go_big_quiet_want; go_big_quiet_op; first | go_big_quiet_on | go_big_quiet_call (fail)))
  refine wpQuiet_nil ?_
  rintro _ ⟨n6, rfl⟩
  have HB6 : Hid (Below w.heap.size w n6.w) := n6.b
  generalize n6.w = w6 at *
  clear hne q0 q1 q2 q3 n6
  go_wp2
  go_ret
  exact ⟨rfl, HB6.out⟩
set_option maxRecDepth 100000 in
set_option maxHeartbeats 4000000 in
theorem l11Form_5y (g : Nat) (a1 a2 : Option Addr) (c1 d nn c2 : Nat) (m : Prl) (q : Bool) (w : World) (hg : g < w.heap.size) (k0 : w.cell? ⟨g, 0, none⟩ = some (.int .i64 5)) (k1 : w.cell? ⟨g, 1, none⟩ = some (.int .i64 0)) (k2 : w.cell? ⟨g, 2, none⟩ = some (.slice a1 d c1)) (k3 : w.cell? ⟨g, 3, none⟩ = some (.slice a2 nn c2)) (HL : LnAt w g 5 0 m) (HS : SsAt w (.slice a2 nn c2) m q) :
    Calls Tryz.prog 120 #[.pointer (some ⟨g, 0, none⟩)] w fun e w' => e = .returned (.bool q) ∧ Below w.heap.size w w' := by
  have HCC : Hid (∀ w', Below w.heap.size w w' → w'.cell? ⟨g, 0, none⟩ = some (.int .i64 5) ∧ w'.cell? ⟨g, 1, none⟩ = some (.int .i64 0) ∧ w'.cell? ⟨g, 2, none⟩ = some (.slice a1 d c1) ∧ w'.cell? ⟨g, 3, none⟩ = some (.slice a2 nn c2)) := fun w' hb => ⟨(hb.cell (p := ⟨g, 0, none⟩) hg).trans k0, (hb.cell (p := ⟨g, 1, none⟩) hg).trans k1, (hb.cell (p := ⟨g, 2, none⟩) hg).trans k2, (hb.cell (p := ⟨g, 3, none⟩) hg).trans k3⟩
  have hbr : Below w.heap.size w w := Below.refl _ _
  go_enter Tryz.func120, Tryz.ntmps120
  go_wp2_with fail
  go_region_held3 (fun w' => w'.cell? ⟨g, 0, none⟩ = some (.int .i64 5) ∧ w'.cell? ⟨g, 1, none⟩ = some (.int .i64 0) ∧ w'.cell? ⟨g, 2, none⟩ = some (.slice a1 d c1) ∧ w'.cell? ⟨g, 3, none⟩ = some (.slice a2 nn c2))
    (first | with_reducible exact ⟨k0, k1, k2, k3⟩ | with_reducible exact HCC.out _ hbr | with_reducible exact HCC.out _ hbr.drew)
    (first
      | (go_at_call 154; refine (LnAt.c (by assumption) _ (by first | exact hbr | exact hbr.drew)).mono ?_; rintro e w3 ⟨a7, c7, rfl, hb3, o3⟩; have hp3 := own_prs o3; have hbr : Below w.heap.size w w3 := (by first | exact below_after_of hbr hb3 | exact below_after_of hbr.drew hb3); clear hb3 o3)
      | (go_at_call 153; refine (SsAt.c (by assumption) _ _ hbr hp3).mono ?_; rintro e w4 ⟨rfl, hb4⟩; have hbr : Below w.heap.size w w4 := below_after_of hbr hb4; clear hb4))
  go_wp2
  go_ret
  exact ⟨rfl, hbr⟩
set_option maxRecDepth 100000 in
theorem l11Form_any (g : Nat) (s : St) (v : Sv) (w : World) (hs : StC w g s v) (hv : Sts w v s) (hB : StB s) (hph : inB s.ph 1 5 = true) (hd : dirF s.d = 0) :
    Calls Tryz.prog 120 #[.pointer (some ⟨g, 0, none⟩)] w fun e w' => e = .returned (.bool (stN s)) ∧ Below w.heap.size w w' := by
  have hok := dirOk hd
  have hlm : (newL s.d s.cu).length ≤ 1048576 := by have := newL_len s.d s.cu; have := hok.len; omega
  have HL := fun (h : cuB s.ph s.cu = true) => (⟨fun w' hb => l11New_any s.ph s.cu g 2 v.d s.d w' (Nat.lt_of_lt_of_le hs.lt hb.size) ((hb.cell (p := ⟨g, 2, none⟩) hs.lt).trans hs.c2) (hv.d.below hb) hok h⟩ : LnAt w g s.ph s.cu (newL s.d s.cu))
  have HS : SsAt w v.n (newL s.d s.cu) (eqP s.n (newL s.d s.cu)) := ⟨fun u w' hb hu => l11SameSlots_any v.n u s.n (newL s.d s.cu) w' (hv.n.below hb) hu hB.n hlm⟩
  obtain ⟨a1, c1, e1⟩ := hv.d.shape
  obtain ⟨a2, c2, e2⟩ := hv.n.shape
  obtain ⟨hg, k0, k1, k2, k3, -, -⟩ := hs
  unfold stN
  obtain ⟨ph, cu, d, n, h, p⟩ := s
  obtain ⟨vd, vn, vh, vp⟩ := v
  dsimp only at *
  subst e1 e2
  generalize eqP n (newL d cu) = q at *
  generalize newL d cu = m at *
  have hp := inB_bd hph
  rcases (by omega : ph = 1 ∨ ph = 2 ∨ ph = 3 ∨ ph = 4 ∨ ph = 5) with rfl | rfl | rfl | rfl | rfl
  · rcases Bool.eq_false_or_eq_true (cuB 1 cu) with hc | hc
    · have e : cu = 0 := by unfold cuB at hc; simpa using hc
      subst e
      rw [hc, Bool.true_and]
      exact l11Form_1y g a1 a2 c1 _ _ c2 m q w hg k0 k1 k2 k3 (HL hc) HS
    · rw [hc, Bool.false_and]
      have e : (cu == 0) = false := by unfold cuB at hc; simpa using hc
      exact l11Form_1n g cu a1 a2 c1 _ _ c2 w k0 k1 k2 k3 e
  · rcases Bool.eq_false_or_eq_true (cuB 2 cu) with hc | hc
    · rw [hc, Bool.true_and]
      have e : inB cu 0 255 = true := by unfold cuB at hc; simpa using hc
      exact l11Form_2y g cu a1 a2 c1 _ _ c2 m q w hg k0 k1 k2 k3 (HL hc) HS e
    · rw [hc, Bool.false_and]
      have e : inB cu 0 255 = false := by unfold cuB at hc; simpa using hc
      exact l11Form_2n g cu a1 a2 c1 _ _ c2 w k0 k1 k2 k3 e
  · rcases Bool.eq_false_or_eq_true (cuB 3 cu) with hc | hc
    · have e : cu = 256 := by unfold cuB at hc; simpa using hc
      subst e
      rw [hc, Bool.true_and]
      exact l11Form_3y g a1 a2 c1 _ _ c2 m q w hg k0 k1 k2 k3 (HL hc) HS
    · rw [hc, Bool.false_and]
      have e : (cu == 256) = false := by unfold cuB at hc; simpa using hc
      exact l11Form_3n g cu a1 a2 c1 _ _ c2 w k0 k1 k2 k3 e
  · rcases Bool.eq_false_or_eq_true (cuB 4 cu) with hc | hc
    · have e : cu = 256 := by unfold cuB at hc; simpa using hc
      subst e
      rw [hc, Bool.true_and]
      exact l11Form_4y g a1 a2 c1 _ _ c2 m q w hg k0 k1 k2 k3 (HL hc) HS
    · rw [hc, Bool.false_and]
      have e : (cu == 256) = false := by unfold cuB at hc; simpa using hc
      exact l11Form_4n g cu a1 a2 c1 _ _ c2 w k0 k1 k2 k3 e
  · rcases Bool.eq_false_or_eq_true (cuB 5 cu) with hc | hc
    · have e : cu = 0 := by unfold cuB at hc; simpa using hc
      subst e
      rw [hc, Bool.true_and]
      exact l11Form_5y g a1 a2 c1 _ _ c2 m q w hg k0 k1 k2 k3 (HL hc) HS
    · rw [hc, Bool.false_and]
      have e : (cu == 0) = false := by unfold cuB at hc; simpa using hc
      exact l11Form_5n g cu a1 a2 c1 _ _ c2 w k0 k1 k2 k3 e
end U
end Go.Proofs.YtihhigmceeabmaaGreat

/- The history of a state and its fault, by the model. -/
namespace Go.Proofs.YtihhigmceeabmaaGreat
open Go.RowKit
namespace U
set_option maxRecDepth 100000 in
set_option maxHeartbeats 1000000 in
theorem l11Last_any (g : Nat) (v : Value) (l : Hdl) (w : World) (hD : w.cell? ⟨g, 4, none⟩ = some v) (hv : Hds w v l) (hc : ∀ j, j < l.length → (hAt l j).c = 0) (hx : l.length ≤ 1048576) :
    Calls Tryz.prog 122 #[.pointer (some ⟨g, 0, none⟩)] w fun e w' => e = .returned (.tuple #[.int .i64 (phL l), .int .i64 (smL l)]) ∧ Below w.heap.size w w' := by
  obtain ⟨a, c, rfl⟩ := hv.shape
  unfold phL smL
  rcases hn : l.length with _ | k
  · rw [hn] at hD
    have e1 : l = [] := List.eq_nil_of_length_eq_zero hn
    subst e1
    clear hv hc hx
    have e2 : phA [] 0 = 1 := rfl
    have e3 : smA [] 0 = 0 := rfl
    rw [e2, e3]
    go_enter Tryz.func122, Tryz.ntmps122
    go_wp2
    go_ret2
    exact ⟨rfl, Below.refl _ _⟩
  · rw [hn] at hv hD
    obtain ⟨-, b, off, rfl, hb, hcc⟩ := hv.at (by omega)
    have hk := hcc k (by omega)
    have e1 : phA l (k + 1) = (hAt l k).p := rfl
    have e2 : smA l (k + 1) = (hAt l k).s := rfl
    rw [e1, e2]
    have h0 := hc k (by omega)
    have hS := fun w' (hb' : Below w.heap.size w w') => l10Sum_any b (off + k * 5) (hAt l k).e (hAt l k).p (hAt l k).o (hAt l k).n (hAt l k).v w' (hk.below hb' hb) (hdOk h0)
    have e4 : hdS (hAt l k).e (hAt l k).p (hAt l k).o (hAt l k).n (hAt l k).v = (hAt l k).s := rfl
    rw [e4] at hS
    have d1 := hk.c1
    have hkl : k ≤ 1048576 := by omega
    generalize (hAt l k).s = sm at *
    generalize (hAt l k).p = x1 at *
    have q0 := After.cell hD
    have q1 := After.cell d1
    have hne := After.ne w
    clear hv hcc hn hc hx h0 e1 e2 e4 hk d1
    go_enter Tryz.func122, Tryz.ntmps122
    go_wp2_with fail
    refine wp_region_after (by kernel_rfl) (by kernel_rfl) ?_
    repeat (first | go_big_quiet_skip | (go_big_quiet_want; go_big_quiet_op; first | go_big_quiet_on | go_big_quiet_call (first | (go_at_call 150; refine (hS _ (After.b _)).mono ?_; rintro e wq ⟨rfl, hbq⟩; exact ⟨rfl, after_mk (below_after_of (After.b _) hbq)⟩))))
    refine wpQuiet_nil ?_
    rintro _ ⟨n6, rfl⟩
    have HB6 : Hid (Below w.heap.size w n6.w) := n6.b
    generalize n6.w = w6 at *
    clear hne q0 q1 n6 hS hD
    go_wp2
    go_ret2
    exact ⟨rfl, HB6.out⟩
set_option maxRecDepth 100000 in
set_option maxHeartbeats 4000000 in
theorem l11Past_core (R : Rt) (hR : RtOk R) (g b off c b' off' c' n : Nat) (h : Hdl) (p : Pst) (w : World) (HN : Hid (n = h.length ∧ n = p.length)) (hx : n ≤ 1048576) (hg : g < w.heap.size) (hb : b < w.heap.size) (hb' : b' < w.heap.size)
    (k4 : w.cell? ⟨g, 4, none⟩ = some (.slice (some ⟨b, off, none⟩) n c)) (k5 : w.cell? ⟨g, 5, none⟩ = some (.slice (some ⟨b', off', none⟩) n c'))
    (hc : ∀ j, j < n → HdS w b (off + j * 5) (hAt h j)) (hp : ∀ j, j < n → ∃ u, w.cell? ⟨b', off' + j, none⟩ = some u ∧ Rcs w u (dAt p j)) (hpd : ∀ j, j < n → (dAt p j).length ≤ 1048576 ∧ Lbs (dAt p j))
    (hC : Calls Tryz.prog 60 #[.slice (some ⟨b, off, none⟩) n c] w fun e w'' => e = .returned (.int .i64 0) ∧ Below w.heap.size w w'') :
    Calls Tryz.prog 121 #[.pointer (some ⟨g, 0, none⟩)] w fun e w' => e = .returned (.int .i64 (scanP R h p n 0)) ∧ Below w.heap.size w w' := by
  have hnn := hne_all
  obtain ⟨q, hq⟩ : ∃ q, q = scanP R h p n 0 := ⟨_, rfl⟩
  have HQ : Hid (scanP R h p n 0 = q) := hq.symm
  rw [← hq]
  clear hq
  have HK : Hid (∀ w', Below w.heap.size w w' → w'.cell? ⟨g, 4, none⟩ = some (.slice (some ⟨b, off, none⟩) n c) ∧ w'.cell? ⟨g, 5, none⟩ = some (.slice (some ⟨b', off', none⟩) n c')) := fun w' hb => ⟨(hb.cell (p := ⟨g, 4, none⟩) hg).trans k4, (hb.cell (p := ⟨g, 5, none⟩) hg).trans k5⟩
  go_enter Tryz.func121, Tryz.ntmps121
  go_wp2_with fail
  refine hC.mono ?_
  rintro e w0 ⟨rfl, hb0⟩
  obtain ⟨j4, j5⟩ := HK.out _ hb0
  clear hC k4 k5
  go_wp2
  go_quiet (fail)
  go_wp2
  clear j4 j5
  go_loopw [4] (fun i wr => ∃ k : Nat, k ≤ n ∧ i = .int .i64 k ∧ Hid (Below w.heap.size w wr) ∧ Hid (scanP R h p (n - k) k = q)) (fun i _ => n - (intOf i).toNat)
  case atStart => exact ⟨0, Nat.zero_le _, rfl, below_drewN hb0 _, HQ⟩
  case round =>
    obtain ⟨k, hk, rfl, hB, HS⟩ := hrel
    clear hb0
    obtain ⟨j4, j5⟩ := HK.out _ hB.out
    by_cases hkn : k < n
    · have hki : (k : Int) < (n : Int) := by omega
      obtain ⟨u, hu, hr⟩ := hp k hkn
      have d := (hB.out.cell (p := ⟨b', off' + k, none⟩) hb').trans hu
      have hhd := (hc k hkn)
      have hbr : b < wr.heap.size := Nat.lt_of_lt_of_le hb hB.out.size
      have hbr' : b' < wr.heap.size := Nat.lt_of_lt_of_le hb' hB.out.size
      obtain ⟨hx1, hl1⟩ := hpd k hkn
      have HSN : Hid (n - k = (n - k - 1) + 1) := (by omega : n - k = (n - k - 1) + 1)
      have HF : Hid (¬ dirF (dAt p k) = 0 → q = dirF (dAt p k)) := (fun h0 => by rw [← HS.out, HSN.out]; exact scanP_fault h0 : ¬ dirF (dAt p k) = 0 → q = dirF (dAt p k))
      have HO : Hid (dirF (dAt p k) = 0 → hdQ (hdAs R (dAt p k) (hAt h k)) (hAt h k) = false → q = 9) := (fun h0 h1 => by rw [← HS.out, HSN.out]; exact scanP_proof h0 h1 : dirF (dAt p k) = 0 → hdQ (hdAs R (dAt p k) (hAt h k)) (hAt h k) = false → q = 9)
      have HT : Hid (dirF (dAt p k) = 0 → hdQ (hdAs R (dAt p k) (hAt h k)) (hAt h k) = true → scanP R h p (n - k - 1) (k + 1) = q) := (fun h0 h1 => by rw [← HS.out, HSN.out]; exact (scanP_step h0 h1).symm : dirF (dAt p k) = 0 → hdQ (hdAs R (dAt p k) (hAt h k)) (hAt h k) = true → scanP R h p (n - k - 1) (k + 1) = q)
      have hE := hd_neq_any (hdAs R (dAt p k) (hAt h k)) (hAt h k)
      have hrw := hr.below hB.out
      have hF := l9Fault_off b' (off' + k) u (dAt p k) wr hbr' d hrw hl1 (by omega)
      have HDC : Hid (∀ w', Below wr.heap.size wr w' → w'.cell? ⟨g, 4, none⟩ = some (.slice (some ⟨b, off, none⟩) n c) ∧ w'.cell? ⟨g, 5, none⟩ = some (.slice (some ⟨b', off', none⟩) n c') ∧ HdS w' b (off + k * 5) (hAt h k)) := fun w' hb2 => ⟨(HK.out _ (below_after_of hB.out hb2)).1, (HK.out _ (below_after_of hB.out hb2)).2, hhd.below (below_after_of hB.out hb2) hb⟩
      have hHd := fun h0 w' (hb2 : Below wr.heap.size wr w') => l10Head_off b' (off' + k) u (dAt p k) (hAt h k).e (hAt h k).p (hAt h k).v _ _ w' (Nat.lt_of_lt_of_le hbr' hb2.size) ((hb2.cell (p := ⟨b', off' + k, none⟩) hbr').trans d) (hrw.below hb2) (dirOk h0) (hR (dirSl (dAt p k)) (dirSl_ok (dirOk h0)))
      generalize hdQ (hdAs R (dAt p k) (hAt h k)) (hAt h k) = rb at *
      unfold hdAs hdFor at hE
      unfold hdV at hHd
      dsimp only at hE
      generalize kepO (hAt h k).p (R.o (dirSl (dAt p k))) = ko at *
      generalize kepN (hAt h k).p (R.n (dirSl (dAt p k))) = kn at *
      generalize dirF (dAt p k) = df at *
      clear hc hp hpd hr hrw hu d hhd
      by_cases h0 : df = 0
      · subst h0
        have hO1 := hHd rfl
        have HO1 := HO.out rfl
        have HT1 := HT.out rfl
        clear hHd HO HT HF
        go_wp2_with fail
        refine hF.mono ?_
        rintro e w1 ⟨rfl, hb1⟩
        obtain ⟨j4, j5, ⟨d0, d1, d2, d3, d4⟩⟩ := HDC.out _ hb1
        have hO2 := fun w' (h : Below w1.heap.size w1 w') => hO1 w' (below_after_of hb1 h)
        have HB1 : Hid (Below w.heap.size w w1) := below_after_of hB.out hb1
        generalize (hAt h k).e = x0 at *
        generalize (hAt h k).p = x1 at *
        generalize (hAt h k).o = x2 at *
        generalize (hAt h k).n = x3 at *
        generalize (hAt h k).v = x4 at *
        clear hF hO1 HDC hb1
        have hbr1 : b < w1.heap.size := Nat.lt_of_lt_of_le hb HB1.out.size
        have hbr1' : b' < w1.heap.size := Nat.lt_of_lt_of_le hb' HB1.out.size
        have q4 := After.cell j4
        have q5 := After.cell j5
        have p0 := After.cell d0
        have p1 := After.cell d1
        have p2 := After.cell d2
        have p3 := After.cell d3
        have p4 := After.cell d4
        have hne := After.ne w1
        cases rb
        · have HQ2 : Hid (q = 9) := HO1 rfl
          clear HT1 HO1
          go_wp2_with fail
          clear d0 d1 d2 d3 d4 j4 j5
          refine wp_region_after (by kernel_rfl) (by kernel_rfl) ?_
          repeat (first | go_big_quiet_skip | (go_big_quiet_want; go_big_quiet_op; first | go_big_quiet_on | go_big_quiet_call (first | (go_at_call 155; refine (hO2 _ (After.b _)).mono ?_; rintro e wq ⟨rfl, hbq⟩; exact ⟨rfl, after_mk (below_after_of (After.b _) hbq)⟩))))
          refine wpQuiet_nil ?_
          rintro _ ⟨n6, rfl⟩
          have HB6 : Hid (Below w.heap.size w n6.w) := below_after_of HB1.out n6.b
          generalize n6.w = w6 at *
          clear hne q4 q5 p0 p1 p2 p3 p4 n6 hO2
          go_wp2
          go_ret
          exact ⟨ret_int HQ2.out.symm, HB6.out⟩
        · have HQ2 : Hid (scanP R h p (n - k - 1) (k + 1) = q) := HT1 rfl
          clear HT1 HO1
          go_wp2_with fail
          clear d0 d1 d2 d3 d4 j4 j5
          refine wp_region_after (by kernel_rfl) (by kernel_rfl) ?_
          repeat (first | go_big_quiet_skip | (go_big_quiet_want; go_big_quiet_op; first | go_big_quiet_on | go_big_quiet_call (first | (go_at_call 155; refine (hO2 _ (After.b _)).mono ?_; rintro e wq ⟨rfl, hbq⟩; exact ⟨rfl, after_mk (below_after_of (After.b _) hbq)⟩))))
          refine wpQuiet_nil ?_
          rintro _ ⟨n6, rfl⟩
          have HB6 : Hid (Below w.heap.size w n6.w) := below_after_of HB1.out n6.b
          generalize n6.w = w6 at *
          clear hne q4 q5 p0 p1 p2 p3 p4 n6 hO2
          go_wp2
          go_roundw
          case rel => exact ⟨k + 1, by omega, by go_num, HB6, by rw [show n - (k + 1) = n - k - 1 by omega]; exact HQ2⟩
          case measure => simp [intOf]; omega
      · have HQ2 : Hid (q = df) := HF.out h0
        have hnz : (df != 0) = true := by simpa using h0
        clear hHd HO HT HF h0 HDC
        go_wp2_with fail
        refine hF.mono ?_
        rintro e w1 ⟨rfl, hb1⟩
        have HB1 : Hid (Below w.heap.size w w1) := below_after_of hB.out hb1
        clear hF hb1
        go_wp2
        go_ret
        exact ⟨ret_int HQ2.out.symm, HB1.out⟩
    · have hkn : k = n := by omega
      subst hkn
      have e0 : Hid (q = 0) := (by rw [← HS.out, Nat.sub_self]; rfl : q = 0)
      clear hc hp hpd
      go_wp2
      go_ret
      exact ⟨ret_int e0.out.symm, hB.out⟩
set_option maxRecDepth 100000 in
set_option maxHeartbeats 1000000 in
theorem l11Past_any (R : Rt) (hR : RtOk R) (g : Nat) (vh vp : Value) (h : Hdl) (p : Pst) (w : World) (hg : g < w.heap.size) (k4 : w.cell? ⟨g, 4, none⟩ = some vh) (k5 : w.cell? ⟨g, 5, none⟩ = some vp) (hh : Hds w vh h) (hp : Dss w vp p) (hx : h.length ≤ 1048576) (hy : p.length ≤ 1048576) (hpd : ∀ j, j < p.length → (dAt p j).length ≤ 1048576 ∧ Lbs (dAt p j)) :
    Calls Tryz.prog 121 #[.pointer (some ⟨g, 0, none⟩)] w fun e w' => e = .returned (.int .i64 (hisF R h p)) ∧ Below w.heap.size w w' := by
  have hC := l10Chain_any vh h w hh (by omega)
  have hnn := hne_all
  have HK : Hid (∀ w', Below w.heap.size w w' → w'.cell? ⟨g, 4, none⟩ = some vh ∧ w'.cell? ⟨g, 5, none⟩ = some vp) := fun w' hb => ⟨(hb.cell (p := ⟨g, 4, none⟩) hg).trans k4, (hb.cell (p := ⟨g, 5, none⟩) hg).trans k5⟩
  unfold hisF
  by_cases h0 : chF h = 0
  · rw [if_pos h0]
    rw [h0] at hC
    obtain ⟨a, c, rfl⟩ := hh.shape
    obtain ⟨a', c', rfl⟩ := hp.shape
    by_cases h1 : p.length = h.length
    · rw [if_pos h1]
      by_cases h2 : 0 < p.length
      · obtain ⟨_, b, off, rfl, hb, hc⟩ := hh.at (by omega)
        obtain ⟨_, b', off', rfl, hb', hc'⟩ := hp.at h2
        rw [← h1] at hC k4
        exact l11Past_core R hR g b off c b' off' c' p.length h p w ⟨h1, rfl⟩ hy hg hb hb' k4 k5 (fun j hj => hc j (by omega)) hc' hpd hC
      · have e1 : p = [] := List.eq_nil_of_length_eq_zero (by omega)
        have e2 : h = [] := List.eq_nil_of_length_eq_zero (by omega)
        subst e1 e2
        have e3 : scanP R [] [] ([] : Pst).length 0 = 0 := rfl
        rw [e3]
        simp only [List.length_nil] at *
        clear hpd hh hp h0 h1 h2 e3
        go_enter Tryz.func121, Tryz.ntmps121
        go_wp2_with fail
        refine hC.mono ?_
        rintro e w0 ⟨rfl, hb0⟩
        obtain ⟨j4, j5⟩ := HK.out _ hb0
        clear hC k4 k5
        go_wp2
        go_quiet (fail)
        go_wp2
        refine wp_loop_rounds 1 ?_; rw [rounds_succ]
        go_wp2
        go_ret
        exact ⟨rfl, below_drewN hb0 _⟩
    · rw [if_neg h1]
      have hnb : (((p.length : Nat) : Int) != ((h.length : Nat) : Int)) = true := by simp; omega
      generalize p.length = n at *
      generalize h.length = k at *
      clear hpd hh hp h0 h1
      go_enter Tryz.func121, Tryz.ntmps121
      go_wp2_with fail
      refine hC.mono ?_
      rintro e w0 ⟨rfl, hb0⟩
      obtain ⟨j4, j5⟩ := HK.out _ hb0
      clear hC k4 k5
      go_wp2
      go_quiet (fail)
      go_wp2
      go_ret
      exact ⟨rfl, below_drewN hb0 _⟩
  · rw [if_neg h0]
    have hnz : (chF h != 0) = true := by simpa using h0
    obtain ⟨a, c, rfl⟩ := hh.shape
    obtain ⟨a', c', rfl⟩ := hp.shape
    generalize p.length = n at *
    generalize h.length = k at *
    generalize chF h = q at *
    clear hpd hh hp h0
    go_enter Tryz.func121, Tryz.ntmps121
    go_wp2_with fail
    refine hC.mono ?_
    rintro e w0 ⟨rfl, hb0⟩
    clear hC k4 k5
    go_wp2
    go_ret
    exact ⟨rfl, hb0⟩
end U
end Go.Proofs.YtihhigmceeabmaaGreat

/- The fault of a state, by the program. -/
namespace Go.Proofs.YtihhigmceeabmaaGreat
open Go.RowKit
namespace U
theorem isCursorIn_b (ph cu : Int) (w : World) : Calls Tryz.prog 157 #[.int .i64 ph, .int .i64 cu] w fun e w' => e = .returned (.bool (cuB ph cu)) ∧ Below w.heap.size w w' := by
  refine (isCursorIn_any ph cu w).mono ?_
  rintro e w' ⟨rfl, rfl⟩
  exact ⟨rfl, Below.refl _ _⟩
theorem implMayFollow_b (a b : Int) (w : World) : Calls Tryz.prog 151 #[.int .i64 a, .int .i64 b] w fun e w' => e = .returned (.bool (mfB a b)) ∧ Below w.heap.size w w' := by
  refine (implMayFollow_any a b w).mono ?_
  rintro e w' ⟨rfl, rfl⟩
  exact ⟨rfl, Below.refl _ _⟩
theorem mf_fol {a b : Int} (h : inB a 1 5 = true) (h1 : inB b 1 5 = true) : mfB a b = folB a b := by unfold mfB; rw [h, h1]; rfl
/-- New slots as the program tells them. -/
structure NsAt (W : World) (v : Value) (l : Rcl) (cu : Int) (m : Prl) : Prop where
  c : ∀ w', Below W.heap.size W w' → Calls Tryz.prog 159 #[.agg #[v], .int .i64 cu] w' fun e w'' => ∃ a c, e = .returned (.slice a m.length c) ∧ Below w'.heap.size w' w'' ∧ w''.ownsRow w'.heap.size 45 2 (.slice a m.length c) m.length ((fl m).map (Value.int .i64))
set_option maxRecDepth 100000 in
set_option maxHeartbeats 4000000 in
theorem implStateFault_ph (s : St) (v : Sv) (w : World) (hv : Sts w v s) (hB : StB s) (h1 : inB s.ph 1 5 = false) :
    Calls Tryz.prog 127 #[stV s v] w fun e w' => e = .returned (.int .i64 (3)) ∧ Below w.heap.size w w' := by
  obtain ⟨W, hW⟩ : ∃ W, W = w.alloc (stC s v 98) := ⟨_, rfl⟩
  have hBW : Below w.heap.size w W := by rw [hW]; exact one_new _
  have hC0 : StC W w.heap.size s v := by rw [hW]; exact StC.new w s v _
  have hvW := hv.below hBW
  have hPh := fun w => isPhase_any s.ph w
  have hD := fun w' hb => implDirectoryFault_any v.d s.d w' (hvW.d.below (w' := w') hb) hB.dl (by have := hB.d; omega)
  have hCu := fun w => isCursorIn_b s.ph s.cu w
  rw [h1] at hPh
  obtain ⟨a1, c1, e1⟩ := hv.d.shape
  obtain ⟨a2, c2, e2⟩ := hv.n.shape
  obtain ⟨a3, c3, e3⟩ := hv.h.shape
  obtain ⟨a4, c4, e4⟩ := hv.p.shape
  have HCC0 : Hid (∀ w', Below W.heap.size W w' → StC w' w.heap.size s v) := fun w' hb => hC0.below hb hC0.lt
  obtain ⟨ph, cu, d, n, h, p⟩ := s
  obtain ⟨vd, vn, vh, vp⟩ := v
  dsimp only at *
  subst e1 e2 e3 e4
  have HCC : Hid (∀ w', Below W.heap.size W w' → w'.cell? ⟨w.heap.size, 0, none⟩ = some (.int .i64 ph) ∧ w'.cell? ⟨w.heap.size, 1, none⟩ = some (.int .i64 cu) ∧ w'.cell? ⟨w.heap.size, 2, none⟩ = some (.slice a1 d.length c1) ∧ w'.cell? ⟨w.heap.size, 3, none⟩ = some (.slice a2 n.length c2) ∧ w'.cell? ⟨w.heap.size, 4, none⟩ = some (.slice a3 h.length c3) ∧ w'.cell? ⟨w.heap.size, 5, none⟩ = some (.slice a4 p.length c4)) := fun w' hb => ⟨(HCC0.out _ hb).c0, (HCC0.out _ hb).c1, (HCC0.out _ hb).c2, (HCC0.out _ hb).c3, (HCC0.out _ hb).c4, (HCC0.out _ hb).c5⟩
  unfold stV
  dsimp only
  have HW : Hid (w.alloc (.cells #[.int .i64 ph, .int .i64 cu, .slice a1 d.length c1, .slice a2 n.length c2, .slice a3 h.length c3, .slice a4 p.length c4] 98) = W) := hW.symm
  have hltW : w.heap.size < W.heap.size := hC0.lt
  have HBW : Hid (∀ w', Below W.heap.size W w' → Below w.heap.size w w') := fun w' hb => below_after_of hBW hb
  generalize d.length = dn at *
  generalize n.length = nn at *
  generalize h.length = hn at *
  generalize p.length = pn at *
  have HC4 : Hid (∀ w', Below W.heap.size W w' → w'.cell? ⟨w.heap.size, 0, none⟩ = some (.int .i64 ph) ∧ w'.cell? ⟨w.heap.size, 1, none⟩ = some (.int .i64 cu) ∧ w'.cell? ⟨w.heap.size, 2, none⟩ = some (.slice a1 dn c1) ∧ w'.cell? ⟨w.heap.size, 3, none⟩ = some (.slice a2 nn c2)) := fun w' hb => by
    obtain ⟨k0, k1, k2, k3, -, -⟩ := HCC.out w' hb
    exact ⟨k0, k1, k2, k3⟩
  clear hD hCu HC4
  clear hW hC0 HCC0 hv hvW hBW hB
  go_enter Tryz.func127, Tryz.ntmps127
  go_wp2_with fail
  rw [HW.out]
  refine (hPh _).mono ?_
  rintro e w0 ⟨rfl, hw0⟩
  have hbr : Below W.heap.size W w0 := by rw [hw0]; exact Below.refl _ _
  clear hw0 hPh HW
  obtain ⟨g0, g1, g2, g3, g4, g5⟩ := HCC.out _ hbr
  go_wp2
  go_ret
  exact ⟨rfl, HBW.out _ hbr⟩
set_option maxRecDepth 100000 in
set_option maxHeartbeats 4000000 in
theorem implStateFault_dir (s : St) (v : Sv) (w : World) (hv : Sts w v s) (hB : StB s) (h1 : inB s.ph 1 5 = true) (h2 : ¬ dirF s.d = 0) :
    Calls Tryz.prog 127 #[stV s v] w fun e w' => e = .returned (.int .i64 (dirF s.d)) ∧ Below w.heap.size w w' := by
  obtain ⟨W, hW⟩ : ∃ W, W = w.alloc (stC s v 98) := ⟨_, rfl⟩
  have hBW : Below w.heap.size w W := by rw [hW]; exact one_new _
  have hC0 : StC W w.heap.size s v := by rw [hW]; exact StC.new w s v _
  have hvW := hv.below hBW
  have hPh := fun w => isPhase_any s.ph w
  have hD := fun w' hb => implDirectoryFault_any v.d s.d w' (hvW.d.below (w' := w') hb) hB.dl (by have := hB.d; omega)
  have hCu := fun w => isCursorIn_b s.ph s.cu w
  rw [h1] at hPh
  have hnz : (dirF s.d != 0) = true := by simpa using h2
  obtain ⟨a1, c1, e1⟩ := hv.d.shape
  obtain ⟨a2, c2, e2⟩ := hv.n.shape
  obtain ⟨a3, c3, e3⟩ := hv.h.shape
  obtain ⟨a4, c4, e4⟩ := hv.p.shape
  have HCC0 : Hid (∀ w', Below W.heap.size W w' → StC w' w.heap.size s v) := fun w' hb => hC0.below hb hC0.lt
  obtain ⟨ph, cu, d, n, h, p⟩ := s
  obtain ⟨vd, vn, vh, vp⟩ := v
  dsimp only at *
  subst e1 e2 e3 e4
  have HCC : Hid (∀ w', Below W.heap.size W w' → w'.cell? ⟨w.heap.size, 0, none⟩ = some (.int .i64 ph) ∧ w'.cell? ⟨w.heap.size, 1, none⟩ = some (.int .i64 cu) ∧ w'.cell? ⟨w.heap.size, 2, none⟩ = some (.slice a1 d.length c1) ∧ w'.cell? ⟨w.heap.size, 3, none⟩ = some (.slice a2 n.length c2) ∧ w'.cell? ⟨w.heap.size, 4, none⟩ = some (.slice a3 h.length c3) ∧ w'.cell? ⟨w.heap.size, 5, none⟩ = some (.slice a4 p.length c4)) := fun w' hb => ⟨(HCC0.out _ hb).c0, (HCC0.out _ hb).c1, (HCC0.out _ hb).c2, (HCC0.out _ hb).c3, (HCC0.out _ hb).c4, (HCC0.out _ hb).c5⟩
  unfold stV
  dsimp only
  have HW : Hid (w.alloc (.cells #[.int .i64 ph, .int .i64 cu, .slice a1 d.length c1, .slice a2 n.length c2, .slice a3 h.length c3, .slice a4 p.length c4] 98) = W) := hW.symm
  have hltW : w.heap.size < W.heap.size := hC0.lt
  have HBW : Hid (∀ w', Below W.heap.size W w' → Below w.heap.size w w') := fun w' hb => below_after_of hBW hb
  generalize d.length = dn at *
  generalize n.length = nn at *
  generalize h.length = hn at *
  generalize p.length = pn at *
  have HC4 : Hid (∀ w', Below W.heap.size W w' → w'.cell? ⟨w.heap.size, 0, none⟩ = some (.int .i64 ph) ∧ w'.cell? ⟨w.heap.size, 1, none⟩ = some (.int .i64 cu) ∧ w'.cell? ⟨w.heap.size, 2, none⟩ = some (.slice a1 dn c1) ∧ w'.cell? ⟨w.heap.size, 3, none⟩ = some (.slice a2 nn c2)) := fun w' hb => by
    obtain ⟨k0, k1, k2, k3, -, -⟩ := HCC.out w' hb
    exact ⟨k0, k1, k2, k3⟩
  clear hCu HC4 h1
  generalize dirF d = fd at *
  clear hW hC0 HCC0 hv hvW hBW hB
  go_enter Tryz.func127, Tryz.ntmps127
  go_wp2_with fail
  rw [HW.out]
  refine (hPh _).mono ?_
  rintro e w0 ⟨rfl, hw0⟩
  have hbr : Below W.heap.size W w0 := by rw [hw0]; exact Below.refl _ _
  clear hw0 hPh HW
  obtain ⟨g0, g1, g2, g3, g4, g5⟩ := HCC.out _ hbr
  have hD1 := hD _ hbr
  clear hD
  go_wp2_with fail
  refine hD1.mono ?_
  rintro e w1 ⟨rfl, hb1⟩
  have hbr : Below W.heap.size W w1 := below_after_of hbr hb1
  clear hD1 hb1
  obtain ⟨g0, g1, g2, g3, g4, g5⟩ := HCC.out _ hbr
  go_wp2
  go_ret
  exact ⟨rfl, HBW.out _ hbr⟩
set_option maxRecDepth 100000 in
set_option maxHeartbeats 4000000 in
theorem implStateFault_cu (s : St) (v : Sv) (w : World) (hv : Sts w v s) (hB : StB s) (h1 : inB s.ph 1 5 = true) (h2 : dirF s.d = 0) (h3 : cuB s.ph s.cu = false) :
    Calls Tryz.prog 127 #[stV s v] w fun e w' => e = .returned (.int .i64 (1)) ∧ Below w.heap.size w w' := by
  obtain ⟨W, hW⟩ : ∃ W, W = w.alloc (stC s v 98) := ⟨_, rfl⟩
  have hBW : Below w.heap.size w W := by rw [hW]; exact one_new _
  have hC0 : StC W w.heap.size s v := by rw [hW]; exact StC.new w s v _
  have hvW := hv.below hBW
  have hPh := fun w => isPhase_any s.ph w
  have hD := fun w' hb => implDirectoryFault_any v.d s.d w' (hvW.d.below (w' := w') hb) hB.dl (by have := hB.d; omega)
  have hCu := fun w => isCursorIn_b s.ph s.cu w
  rw [h1] at hPh
  rw [h2] at hD
  rw [h3] at hCu
  obtain ⟨a1, c1, e1⟩ := hv.d.shape
  obtain ⟨a2, c2, e2⟩ := hv.n.shape
  obtain ⟨a3, c3, e3⟩ := hv.h.shape
  obtain ⟨a4, c4, e4⟩ := hv.p.shape
  have HCC0 : Hid (∀ w', Below W.heap.size W w' → StC w' w.heap.size s v) := fun w' hb => hC0.below hb hC0.lt
  obtain ⟨ph, cu, d, n, h, p⟩ := s
  obtain ⟨vd, vn, vh, vp⟩ := v
  dsimp only at *
  subst e1 e2 e3 e4
  have HCC : Hid (∀ w', Below W.heap.size W w' → w'.cell? ⟨w.heap.size, 0, none⟩ = some (.int .i64 ph) ∧ w'.cell? ⟨w.heap.size, 1, none⟩ = some (.int .i64 cu) ∧ w'.cell? ⟨w.heap.size, 2, none⟩ = some (.slice a1 d.length c1) ∧ w'.cell? ⟨w.heap.size, 3, none⟩ = some (.slice a2 n.length c2) ∧ w'.cell? ⟨w.heap.size, 4, none⟩ = some (.slice a3 h.length c3) ∧ w'.cell? ⟨w.heap.size, 5, none⟩ = some (.slice a4 p.length c4)) := fun w' hb => ⟨(HCC0.out _ hb).c0, (HCC0.out _ hb).c1, (HCC0.out _ hb).c2, (HCC0.out _ hb).c3, (HCC0.out _ hb).c4, (HCC0.out _ hb).c5⟩
  unfold stV
  dsimp only
  have HW : Hid (w.alloc (.cells #[.int .i64 ph, .int .i64 cu, .slice a1 d.length c1, .slice a2 n.length c2, .slice a3 h.length c3, .slice a4 p.length c4] 98) = W) := hW.symm
  have hltW : w.heap.size < W.heap.size := hC0.lt
  have HBW : Hid (∀ w', Below W.heap.size W w' → Below w.heap.size w w') := fun w' hb => below_after_of hBW hb
  generalize d.length = dn at *
  generalize n.length = nn at *
  generalize h.length = hn at *
  generalize p.length = pn at *
  have HC4 : Hid (∀ w', Below W.heap.size W w' → w'.cell? ⟨w.heap.size, 0, none⟩ = some (.int .i64 ph) ∧ w'.cell? ⟨w.heap.size, 1, none⟩ = some (.int .i64 cu) ∧ w'.cell? ⟨w.heap.size, 2, none⟩ = some (.slice a1 dn c1) ∧ w'.cell? ⟨w.heap.size, 3, none⟩ = some (.slice a2 nn c2)) := fun w' hb => by
    obtain ⟨k0, k1, k2, k3, -, -⟩ := HCC.out w' hb
    exact ⟨k0, k1, k2, k3⟩
  clear HC4 h1 h2 h3
  clear hW hC0 HCC0 hv hvW hBW hB
  go_enter Tryz.func127, Tryz.ntmps127
  go_wp2_with fail
  rw [HW.out]
  refine (hPh _).mono ?_
  rintro e w0 ⟨rfl, hw0⟩
  have hbr : Below W.heap.size W w0 := by rw [hw0]; exact Below.refl _ _
  clear hw0 hPh HW
  obtain ⟨g0, g1, g2, g3, g4, g5⟩ := HCC.out _ hbr
  have hD1 := hD _ hbr
  clear hD
  go_wp2_with fail
  refine hD1.mono ?_
  rintro e w1 ⟨rfl, hb1⟩
  have hbr : Below W.heap.size W w1 := below_after_of hbr hb1
  clear hD1 hb1
  obtain ⟨g0, g1, g2, g3, g4, g5⟩ := HCC.out _ hbr
  have q0 := After.cell g0
  have q1 := After.cell g1
  have hne := After.ne w1
  clear g0 g1 g2 g3 g4 g5
  go_wp2_with fail
  refine wp_region_after (by kernel_rfl) (by kernel_rfl) ?_
  repeat (first | go_big_quiet_skip | (go_big_quiet_want; go_big_quiet_op; first | go_big_quiet_on | go_big_quiet_call (first | (go_at_call 157; refine (hCu _).mono ?_; rintro e wq ⟨rfl, hbq⟩; exact ⟨rfl, after_mk (below_after_of (After.b _) hbq)⟩))))
  refine wpQuiet_nil ?_
  rintro _ ⟨n6, rfl⟩
  have hbr : Below W.heap.size W n6.w := below_after_of hbr n6.b
  generalize n6.w = w6 at *
  clear hne q0 q1 n6 hCu
  go_wp2
  go_ret
  exact ⟨rfl, HBW.out _ hbr⟩
set_option maxRecDepth 100000 in
set_option maxHeartbeats 4000000 in
theorem implStateFault_new (s : St) (v : Sv) (w : World) (hv : Sts w v s) (hB : StB s) (h1 : inB s.ph 1 5 = true) (h2 : dirF s.d = 0) (h3 : cuB s.ph s.cu = true) (h4 : eqP s.n (newL s.d s.cu) = false) :
    Calls Tryz.prog 127 #[stV s v] w fun e w' => e = .returned (.int .i64 (1)) ∧ Below w.heap.size w w' := by
  obtain ⟨W, hW⟩ : ∃ W, W = w.alloc (stC s v 98) := ⟨_, rfl⟩
  have hBW : Below w.heap.size w W := by rw [hW]; exact one_new _
  have hC0 : StC W w.heap.size s v := by rw [hW]; exact StC.new w s v _
  have hvW := hv.below hBW
  have hPh := fun w => isPhase_any s.ph w
  have hD := fun w' hb => implDirectoryFault_any v.d s.d w' (hvW.d.below (w' := w') hb) hB.dl (by have := hB.d; omega)
  have hCu := fun w => isCursorIn_b s.ph s.cu w
  have hbd := cuB_bd h3
  have HNS : NsAt W v.d s.d s.cu (newL s.d s.cu) := ⟨fun w' hb => newSlots_any v.d s.d s.cu w' (hvW.d.below hb) h2 hbd⟩
  have hlm : (newL s.d s.cu).length ≤ 1048576 := by have := newL_len s.d s.cu; have := (dirOk h2).len; omega
  have hE := fun u w' hb hu => slEq_any v.n u s.n (newL s.d s.cu) w' (hvW.n.below (w' := w') hb) hu hB.n hlm
  rw [h1] at hPh
  rw [h2] at hD
  rw [h3] at hCu
  rw [h4] at hE
  obtain ⟨a1, c1, e1⟩ := hv.d.shape
  obtain ⟨a2, c2, e2⟩ := hv.n.shape
  obtain ⟨a3, c3, e3⟩ := hv.h.shape
  obtain ⟨a4, c4, e4⟩ := hv.p.shape
  have HCC0 : Hid (∀ w', Below W.heap.size W w' → StC w' w.heap.size s v) := fun w' hb => hC0.below hb hC0.lt
  obtain ⟨ph, cu, d, n, h, p⟩ := s
  obtain ⟨vd, vn, vh, vp⟩ := v
  dsimp only at *
  subst e1 e2 e3 e4
  have HCC : Hid (∀ w', Below W.heap.size W w' → w'.cell? ⟨w.heap.size, 0, none⟩ = some (.int .i64 ph) ∧ w'.cell? ⟨w.heap.size, 1, none⟩ = some (.int .i64 cu) ∧ w'.cell? ⟨w.heap.size, 2, none⟩ = some (.slice a1 d.length c1) ∧ w'.cell? ⟨w.heap.size, 3, none⟩ = some (.slice a2 n.length c2) ∧ w'.cell? ⟨w.heap.size, 4, none⟩ = some (.slice a3 h.length c3) ∧ w'.cell? ⟨w.heap.size, 5, none⟩ = some (.slice a4 p.length c4)) := fun w' hb => ⟨(HCC0.out _ hb).c0, (HCC0.out _ hb).c1, (HCC0.out _ hb).c2, (HCC0.out _ hb).c3, (HCC0.out _ hb).c4, (HCC0.out _ hb).c5⟩
  unfold stV
  dsimp only
  have HW : Hid (w.alloc (.cells #[.int .i64 ph, .int .i64 cu, .slice a1 d.length c1, .slice a2 n.length c2, .slice a3 h.length c3, .slice a4 p.length c4] 98) = W) := hW.symm
  have hltW : w.heap.size < W.heap.size := hC0.lt
  have HBW : Hid (∀ w', Below W.heap.size W w' → Below w.heap.size w w') := fun w' hb => below_after_of hBW hb
  generalize d.length = dn at *
  generalize n.length = nn at *
  generalize h.length = hn at *
  generalize p.length = pn at *
  have HC4 : Hid (∀ w', Below W.heap.size W w' → w'.cell? ⟨w.heap.size, 0, none⟩ = some (.int .i64 ph) ∧ w'.cell? ⟨w.heap.size, 1, none⟩ = some (.int .i64 cu) ∧ w'.cell? ⟨w.heap.size, 2, none⟩ = some (.slice a1 dn c1) ∧ w'.cell? ⟨w.heap.size, 3, none⟩ = some (.slice a2 nn c2)) := fun w' hb => by
    obtain ⟨k0, k1, k2, k3, -, -⟩ := HCC.out w' hb
    exact ⟨k0, k1, k2, k3⟩
  clear h1 h2 h3 h4 hbd hlm
  clear hW hC0 HCC0 hv hvW hBW hB
  go_enter Tryz.func127, Tryz.ntmps127
  go_wp2_with fail
  rw [HW.out]
  refine (hPh _).mono ?_
  rintro e w0 ⟨rfl, hw0⟩
  have hbr : Below W.heap.size W w0 := by rw [hw0]; exact Below.refl _ _
  clear hw0 hPh HW
  obtain ⟨g0, g1, g2, g3, g4, g5⟩ := HCC.out _ hbr
  have hD1 := hD _ hbr
  clear hD
  go_wp2_with fail
  refine hD1.mono ?_
  rintro e w1 ⟨rfl, hb1⟩
  have hbr : Below W.heap.size W w1 := below_after_of hbr hb1
  clear hD1 hb1
  obtain ⟨g0, g1, g2, g3, g4, g5⟩ := HCC.out _ hbr
  clear g4 g5
  go_wp2_with fail
  go_region_held3 (fun w' => w'.cell? ⟨w.heap.size, 0, none⟩ = some (.int .i64 ph) ∧ w'.cell? ⟨w.heap.size, 1, none⟩ = some (.int .i64 cu) ∧ w'.cell? ⟨w.heap.size, 2, none⟩ = some (.slice a1 dn c1) ∧ w'.cell? ⟨w.heap.size, 3, none⟩ = some (.slice a2 nn c2))
    (first | with_reducible exact ⟨g0, g1, g2, g3⟩ | with_reducible exact HC4.out _ hbr | with_reducible exact HC4.out _ hbr.drew)
    (first
      | (go_at_call 157; refine (hCu _).mono ?_; rintro e w2 ⟨rfl, hb2⟩; have hbr : Below W.heap.size W w2 := (by first | exact below_after_of hbr hb2 | exact below_after_of hbr.drew hb2); clear hb2)
      | (go_at_call 159; refine (NsAt.c (by assumption) _ (by first | exact hbr | exact hbr.drew)).mono ?_; rintro e w3 ⟨a7, c7, rfl, hb3, o3⟩; have hp3 := own_prs o3; have hbr : Below W.heap.size W w3 := (by first | exact below_after_of hbr hb3 | exact below_after_of hbr.drew hb3); clear hb3 o3)
      | (go_at_call 158; refine (hE _ _ hbr hp3).mono ?_; rintro e w4 ⟨rfl, hb4⟩; have hbr : Below W.heap.size W w4 := below_after_of hbr hb4; clear hb4))
  clear hCu HNS hE g0 g1 g2 g3 hp3
  go_wp2
  go_ret
  exact ⟨rfl, HBW.out _ hbr⟩
set_option maxRecDepth 100000 in
set_option maxHeartbeats 4000000 in
theorem implStateFault_his (R : Rt) (hR : RtOk R) (s : St) (v : Sv) (w : World) (hv : Sts w v s) (hB : StB s) (h1 : inB s.ph 1 5 = true) (h2 : dirF s.d = 0) (h3 : cuB s.ph s.cu = true) (h4 : eqP s.n (newL s.d s.cu) = true) (h5 : ¬ hisF R s.h s.p = 0) :
    Calls Tryz.prog 127 #[stV s v] w fun e w' => e = .returned (.int .i64 (hisF R s.h s.p)) ∧ Below w.heap.size w w' := by
  obtain ⟨W, hW⟩ : ∃ W, W = w.alloc (stC s v 98) := ⟨_, rfl⟩
  have hBW : Below w.heap.size w W := by rw [hW]; exact one_new _
  have hC0 : StC W w.heap.size s v := by rw [hW]; exact StC.new w s v _
  have hvW := hv.below hBW
  have hPh := fun w => isPhase_any s.ph w
  have hD := fun w' hb => implDirectoryFault_any v.d s.d w' (hvW.d.below (w' := w') hb) hB.dl (by have := hB.d; omega)
  have hCu := fun w => isCursorIn_b s.ph s.cu w
  have hbd := cuB_bd h3
  have HNS : NsAt W v.d s.d s.cu (newL s.d s.cu) := ⟨fun w' hb => newSlots_any v.d s.d s.cu w' (hvW.d.below hb) h2 hbd⟩
  have hlm : (newL s.d s.cu).length ≤ 1048576 := by have := newL_len s.d s.cu; have := (dirOk h2).len; omega
  have hE := fun u w' hb hu => slEq_any v.n u s.n (newL s.d s.cu) w' (hvW.n.below (w' := w') hb) hu hB.n hlm
  have hH := fun w' hb => implHistory_any R hR v.h v.p s.h s.p w' (hvW.h.below (w' := w') hb) (hvW.p.below hb) hB.h hB.p hB.pd
  rw [h1] at hPh
  rw [h2] at hD
  rw [h3] at hCu
  rw [h4] at hE
  have hnz : (hisF R s.h s.p != 0) = true := by simpa using h5
  obtain ⟨a1, c1, e1⟩ := hv.d.shape
  obtain ⟨a2, c2, e2⟩ := hv.n.shape
  obtain ⟨a3, c3, e3⟩ := hv.h.shape
  obtain ⟨a4, c4, e4⟩ := hv.p.shape
  have HCC0 : Hid (∀ w', Below W.heap.size W w' → StC w' w.heap.size s v) := fun w' hb => hC0.below hb hC0.lt
  obtain ⟨ph, cu, d, n, h, p⟩ := s
  obtain ⟨vd, vn, vh, vp⟩ := v
  dsimp only at *
  subst e1 e2 e3 e4
  have HCC : Hid (∀ w', Below W.heap.size W w' → w'.cell? ⟨w.heap.size, 0, none⟩ = some (.int .i64 ph) ∧ w'.cell? ⟨w.heap.size, 1, none⟩ = some (.int .i64 cu) ∧ w'.cell? ⟨w.heap.size, 2, none⟩ = some (.slice a1 d.length c1) ∧ w'.cell? ⟨w.heap.size, 3, none⟩ = some (.slice a2 n.length c2) ∧ w'.cell? ⟨w.heap.size, 4, none⟩ = some (.slice a3 h.length c3) ∧ w'.cell? ⟨w.heap.size, 5, none⟩ = some (.slice a4 p.length c4)) := fun w' hb => ⟨(HCC0.out _ hb).c0, (HCC0.out _ hb).c1, (HCC0.out _ hb).c2, (HCC0.out _ hb).c3, (HCC0.out _ hb).c4, (HCC0.out _ hb).c5⟩
  unfold stV
  dsimp only
  have HW : Hid (w.alloc (.cells #[.int .i64 ph, .int .i64 cu, .slice a1 d.length c1, .slice a2 n.length c2, .slice a3 h.length c3, .slice a4 p.length c4] 98) = W) := hW.symm
  have hltW : w.heap.size < W.heap.size := hC0.lt
  have HBW : Hid (∀ w', Below W.heap.size W w' → Below w.heap.size w w') := fun w' hb => below_after_of hBW hb
  generalize d.length = dn at *
  generalize n.length = nn at *
  generalize h.length = hn at *
  generalize p.length = pn at *
  have HC4 : Hid (∀ w', Below W.heap.size W w' → w'.cell? ⟨w.heap.size, 0, none⟩ = some (.int .i64 ph) ∧ w'.cell? ⟨w.heap.size, 1, none⟩ = some (.int .i64 cu) ∧ w'.cell? ⟨w.heap.size, 2, none⟩ = some (.slice a1 dn c1) ∧ w'.cell? ⟨w.heap.size, 3, none⟩ = some (.slice a2 nn c2)) := fun w' hb => by
    obtain ⟨k0, k1, k2, k3, -, -⟩ := HCC.out w' hb
    exact ⟨k0, k1, k2, k3⟩
  clear hR h1 h2 h3 h4 hbd hlm
  generalize hisF R h p = fh at *
  clear hW hC0 HCC0 hv hvW hBW hB
  go_enter Tryz.func127, Tryz.ntmps127
  go_wp2_with fail
  rw [HW.out]
  refine (hPh _).mono ?_
  rintro e w0 ⟨rfl, hw0⟩
  have hbr : Below W.heap.size W w0 := by rw [hw0]; exact Below.refl _ _
  clear hw0 hPh HW
  obtain ⟨g0, g1, g2, g3, g4, g5⟩ := HCC.out _ hbr
  have hD1 := hD _ hbr
  clear hD
  go_wp2_with fail
  refine hD1.mono ?_
  rintro e w1 ⟨rfl, hb1⟩
  have hbr : Below W.heap.size W w1 := below_after_of hbr hb1
  clear hD1 hb1
  obtain ⟨g0, g1, g2, g3, g4, g5⟩ := HCC.out _ hbr
  clear g4 g5
  go_wp2_with fail
  go_region_held3 (fun w' => w'.cell? ⟨w.heap.size, 0, none⟩ = some (.int .i64 ph) ∧ w'.cell? ⟨w.heap.size, 1, none⟩ = some (.int .i64 cu) ∧ w'.cell? ⟨w.heap.size, 2, none⟩ = some (.slice a1 dn c1) ∧ w'.cell? ⟨w.heap.size, 3, none⟩ = some (.slice a2 nn c2))
    (first | with_reducible exact ⟨g0, g1, g2, g3⟩ | with_reducible exact HC4.out _ hbr | with_reducible exact HC4.out _ hbr.drew)
    (first
      | (go_at_call 157; refine (hCu _).mono ?_; rintro e w2 ⟨rfl, hb2⟩; have hbr : Below W.heap.size W w2 := (by first | exact below_after_of hbr hb2 | exact below_after_of hbr.drew hb2); clear hb2)
      | (go_at_call 159; refine (NsAt.c (by assumption) _ (by first | exact hbr | exact hbr.drew)).mono ?_; rintro e w3 ⟨a7, c7, rfl, hb3, o3⟩; have hp3 := own_prs o3; have hbr : Below W.heap.size W w3 := (by first | exact below_after_of hbr hb3 | exact below_after_of hbr.drew hb3); clear hb3 o3)
      | (go_at_call 158; refine (hE _ _ hbr hp3).mono ?_; rintro e w4 ⟨rfl, hb4⟩; have hbr : Below W.heap.size W w4 := below_after_of hbr hb4; clear hb4))
  clear hCu HNS hE g0 g1 g2 g3 hp3
  obtain ⟨g0, g1, g2, g3, g4, g5⟩ := HCC.out _ hbr
  have hH1 := hH _ hbr
  clear hH
  go_wp2_with fail
  refine hH1.mono ?_
  rintro e w5 ⟨rfl, hb5⟩
  have hbr : Below W.heap.size W w5 := below_after_of hbr hb5
  clear hH1 hb5 g0 g1 g2 g3 g4 g5
  obtain ⟨g0, g1, g2, g3, g4, g5⟩ := HCC.out _ hbr
  go_wp2
  go_ret
  exact ⟨rfl, HBW.out _ hbr⟩
set_option maxRecDepth 100000 in
set_option maxHeartbeats 4000000 in
theorem implStateFault_fol (R : Rt) (hR : RtOk R) (s : St) (v : Sv) (w : World) (hv : Sts w v s) (hB : StB s) (h1 : inB s.ph 1 5 = true) (h2 : dirF s.d = 0) (h3 : cuB s.ph s.cu = true) (h4 : eqP s.n (newL s.d s.cu) = true) (h5 : hisF R s.h s.p = 0) (h6 : folB (phL s.h) s.ph = false) :
    Calls Tryz.prog 127 #[stV s v] w fun e w' => e = .returned (.int .i64 (10)) ∧ Below w.heap.size w w' := by
  obtain ⟨W, hW⟩ : ∃ W, W = w.alloc (stC s v 98) := ⟨_, rfl⟩
  have hBW : Below w.heap.size w W := by rw [hW]; exact one_new _
  have hC0 : StC W w.heap.size s v := by rw [hW]; exact StC.new w s v _
  have hvW := hv.below hBW
  have hPh := fun w => isPhase_any s.ph w
  have hD := fun w' hb => implDirectoryFault_any v.d s.d w' (hvW.d.below (w' := w') hb) hB.dl (by have := hB.d; omega)
  have hCu := fun w => isCursorIn_b s.ph s.cu w
  have hbd := cuB_bd h3
  have HNS : NsAt W v.d s.d s.cu (newL s.d s.cu) := ⟨fun w' hb => newSlots_any v.d s.d s.cu w' (hvW.d.below hb) h2 hbd⟩
  have hlm : (newL s.d s.cu).length ≤ 1048576 := by have := newL_len s.d s.cu; have := (dirOk h2).len; omega
  have hE := fun u w' hb hu => slEq_any v.n u s.n (newL s.d s.cu) w' (hvW.n.below (w' := w') hb) hu hB.n hlm
  have hH := fun w' hb => implHistory_any R hR v.h v.p s.h s.p w' (hvW.h.below (w' := w') hb) (hvW.p.below hb) hB.h hB.p hB.pd
  obtain ⟨hch, -⟩ := hisF_ch h5
  have hCE := fun w' hb => chainEnd_any v.h s.h w' (hvW.h.below (w' := w') hb) (chF_all hch).2 hB.h
  have hMF := fun w => implMayFollow_b (phL s.h) s.ph w
  rw [mf_fol (phL_in hch) h1] at hMF
  rw [h1] at hPh
  rw [h2] at hD
  rw [h3] at hCu
  rw [h4] at hE
  rw [h5] at hH
  rw [h6] at hMF
  obtain ⟨a1, c1, e1⟩ := hv.d.shape
  obtain ⟨a2, c2, e2⟩ := hv.n.shape
  obtain ⟨a3, c3, e3⟩ := hv.h.shape
  obtain ⟨a4, c4, e4⟩ := hv.p.shape
  have HCC0 : Hid (∀ w', Below W.heap.size W w' → StC w' w.heap.size s v) := fun w' hb => hC0.below hb hC0.lt
  obtain ⟨ph, cu, d, n, h, p⟩ := s
  obtain ⟨vd, vn, vh, vp⟩ := v
  dsimp only at *
  subst e1 e2 e3 e4
  have HCC : Hid (∀ w', Below W.heap.size W w' → w'.cell? ⟨w.heap.size, 0, none⟩ = some (.int .i64 ph) ∧ w'.cell? ⟨w.heap.size, 1, none⟩ = some (.int .i64 cu) ∧ w'.cell? ⟨w.heap.size, 2, none⟩ = some (.slice a1 d.length c1) ∧ w'.cell? ⟨w.heap.size, 3, none⟩ = some (.slice a2 n.length c2) ∧ w'.cell? ⟨w.heap.size, 4, none⟩ = some (.slice a3 h.length c3) ∧ w'.cell? ⟨w.heap.size, 5, none⟩ = some (.slice a4 p.length c4)) := fun w' hb => ⟨(HCC0.out _ hb).c0, (HCC0.out _ hb).c1, (HCC0.out _ hb).c2, (HCC0.out _ hb).c3, (HCC0.out _ hb).c4, (HCC0.out _ hb).c5⟩
  unfold stV
  dsimp only
  have HW : Hid (w.alloc (.cells #[.int .i64 ph, .int .i64 cu, .slice a1 d.length c1, .slice a2 n.length c2, .slice a3 h.length c3, .slice a4 p.length c4] 98) = W) := hW.symm
  have hltW : w.heap.size < W.heap.size := hC0.lt
  have HBW : Hid (∀ w', Below W.heap.size W w' → Below w.heap.size w w') := fun w' hb => below_after_of hBW hb
  generalize d.length = dn at *
  generalize n.length = nn at *
  generalize h.length = hn at *
  generalize p.length = pn at *
  have HC4 : Hid (∀ w', Below W.heap.size W w' → w'.cell? ⟨w.heap.size, 0, none⟩ = some (.int .i64 ph) ∧ w'.cell? ⟨w.heap.size, 1, none⟩ = some (.int .i64 cu) ∧ w'.cell? ⟨w.heap.size, 2, none⟩ = some (.slice a1 dn c1) ∧ w'.cell? ⟨w.heap.size, 3, none⟩ = some (.slice a2 nn c2)) := fun w' hb => by
    obtain ⟨k0, k1, k2, k3, -, -⟩ := HCC.out w' hb
    exact ⟨k0, k1, k2, k3⟩
  clear hR h1 h2 h3 h4 h5 h6 hch hbd hlm
  clear hW hC0 HCC0 hv hvW hBW hB
  go_enter Tryz.func127, Tryz.ntmps127
  go_wp2_with fail
  rw [HW.out]
  refine (hPh _).mono ?_
  rintro e w0 ⟨rfl, hw0⟩
  have hbr : Below W.heap.size W w0 := by rw [hw0]; exact Below.refl _ _
  clear hw0 hPh HW
  obtain ⟨g0, g1, g2, g3, g4, g5⟩ := HCC.out _ hbr
  have hD1 := hD _ hbr
  clear hD
  go_wp2_with fail
  refine hD1.mono ?_
  rintro e w1 ⟨rfl, hb1⟩
  have hbr : Below W.heap.size W w1 := below_after_of hbr hb1
  clear hD1 hb1
  obtain ⟨g0, g1, g2, g3, g4, g5⟩ := HCC.out _ hbr
  clear g4 g5
  go_wp2_with fail
  go_region_held3 (fun w' => w'.cell? ⟨w.heap.size, 0, none⟩ = some (.int .i64 ph) ∧ w'.cell? ⟨w.heap.size, 1, none⟩ = some (.int .i64 cu) ∧ w'.cell? ⟨w.heap.size, 2, none⟩ = some (.slice a1 dn c1) ∧ w'.cell? ⟨w.heap.size, 3, none⟩ = some (.slice a2 nn c2))
    (first | with_reducible exact ⟨g0, g1, g2, g3⟩ | with_reducible exact HC4.out _ hbr | with_reducible exact HC4.out _ hbr.drew)
    (first
      | (go_at_call 157; refine (hCu _).mono ?_; rintro e w2 ⟨rfl, hb2⟩; have hbr : Below W.heap.size W w2 := (by first | exact below_after_of hbr hb2 | exact below_after_of hbr.drew hb2); clear hb2)
      | (go_at_call 159; refine (NsAt.c (by assumption) _ (by first | exact hbr | exact hbr.drew)).mono ?_; rintro e w3 ⟨a7, c7, rfl, hb3, o3⟩; have hp3 := own_prs o3; have hbr : Below W.heap.size W w3 := (by first | exact below_after_of hbr hb3 | exact below_after_of hbr.drew hb3); clear hb3 o3)
      | (go_at_call 158; refine (hE _ _ hbr hp3).mono ?_; rintro e w4 ⟨rfl, hb4⟩; have hbr : Below W.heap.size W w4 := below_after_of hbr hb4; clear hb4))
  clear hCu HNS hE g0 g1 g2 g3 hp3
  obtain ⟨g0, g1, g2, g3, g4, g5⟩ := HCC.out _ hbr
  have hH1 := hH _ hbr
  clear hH
  go_wp2_with fail
  refine hH1.mono ?_
  rintro e w5 ⟨rfl, hb5⟩
  have hbr : Below W.heap.size W w5 := below_after_of hbr hb5
  clear hH1 hb5 g0 g1 g2 g3 g4 g5
  obtain ⟨g0, g1, g2, g3, g4, g5⟩ := HCC.out _ hbr
  have hCE1 := hCE _ hbr
  clear hCE
  go_wp2_with fail
  refine hCE1.mono ?_
  rintro e w6 ⟨rfl, hb6⟩
  have hbr : Below W.heap.size W w6 := below_after_of hbr hb6
  clear hCE1 hb6 g0 g1 g2 g3 g4 g5
  obtain ⟨g0, g1, g2, g3, g4, g5⟩ := HCC.out _ hbr
  go_wp2_with fail
  refine (hMF _).mono ?_
  rintro e w7 ⟨rfl, hb7⟩
  have hbr : Below W.heap.size W w7 := below_after_of hbr hb7
  clear hMF hb7 g0 g1 g2 g3 g4 g5
  go_wp2
  go_ret
  exact ⟨rfl, HBW.out _ hbr⟩
set_option maxRecDepth 100000 in
set_option maxHeartbeats 4000000 in
theorem implStateFault_ok (R : Rt) (hR : RtOk R) (s : St) (v : Sv) (w : World) (hv : Sts w v s) (hB : StB s) (h1 : inB s.ph 1 5 = true) (h2 : dirF s.d = 0) (h3 : cuB s.ph s.cu = true) (h4 : eqP s.n (newL s.d s.cu) = true) (h5 : hisF R s.h s.p = 0) (h6 : folB (phL s.h) s.ph = true) :
    Calls Tryz.prog 127 #[stV s v] w fun e w' => e = .returned (.int .i64 (0)) ∧ Below w.heap.size w w' := by
  obtain ⟨W, hW⟩ : ∃ W, W = w.alloc (stC s v 98) := ⟨_, rfl⟩
  have hBW : Below w.heap.size w W := by rw [hW]; exact one_new _
  have hC0 : StC W w.heap.size s v := by rw [hW]; exact StC.new w s v _
  have hvW := hv.below hBW
  have hPh := fun w => isPhase_any s.ph w
  have hD := fun w' hb => implDirectoryFault_any v.d s.d w' (hvW.d.below (w' := w') hb) hB.dl (by have := hB.d; omega)
  have hCu := fun w => isCursorIn_b s.ph s.cu w
  have hbd := cuB_bd h3
  have HNS : NsAt W v.d s.d s.cu (newL s.d s.cu) := ⟨fun w' hb => newSlots_any v.d s.d s.cu w' (hvW.d.below hb) h2 hbd⟩
  have hlm : (newL s.d s.cu).length ≤ 1048576 := by have := newL_len s.d s.cu; have := (dirOk h2).len; omega
  have hE := fun u w' hb hu => slEq_any v.n u s.n (newL s.d s.cu) w' (hvW.n.below (w' := w') hb) hu hB.n hlm
  have hH := fun w' hb => implHistory_any R hR v.h v.p s.h s.p w' (hvW.h.below (w' := w') hb) (hvW.p.below hb) hB.h hB.p hB.pd
  obtain ⟨hch, -⟩ := hisF_ch h5
  have hCE := fun w' hb => chainEnd_any v.h s.h w' (hvW.h.below (w' := w') hb) (chF_all hch).2 hB.h
  have hMF := fun w => implMayFollow_b (phL s.h) s.ph w
  rw [mf_fol (phL_in hch) h1] at hMF
  rw [h1] at hPh
  rw [h2] at hD
  rw [h3] at hCu
  rw [h4] at hE
  rw [h5] at hH
  rw [h6] at hMF
  obtain ⟨a1, c1, e1⟩ := hv.d.shape
  obtain ⟨a2, c2, e2⟩ := hv.n.shape
  obtain ⟨a3, c3, e3⟩ := hv.h.shape
  obtain ⟨a4, c4, e4⟩ := hv.p.shape
  have HCC0 : Hid (∀ w', Below W.heap.size W w' → StC w' w.heap.size s v) := fun w' hb => hC0.below hb hC0.lt
  obtain ⟨ph, cu, d, n, h, p⟩ := s
  obtain ⟨vd, vn, vh, vp⟩ := v
  dsimp only at *
  subst e1 e2 e3 e4
  have HCC : Hid (∀ w', Below W.heap.size W w' → w'.cell? ⟨w.heap.size, 0, none⟩ = some (.int .i64 ph) ∧ w'.cell? ⟨w.heap.size, 1, none⟩ = some (.int .i64 cu) ∧ w'.cell? ⟨w.heap.size, 2, none⟩ = some (.slice a1 d.length c1) ∧ w'.cell? ⟨w.heap.size, 3, none⟩ = some (.slice a2 n.length c2) ∧ w'.cell? ⟨w.heap.size, 4, none⟩ = some (.slice a3 h.length c3) ∧ w'.cell? ⟨w.heap.size, 5, none⟩ = some (.slice a4 p.length c4)) := fun w' hb => ⟨(HCC0.out _ hb).c0, (HCC0.out _ hb).c1, (HCC0.out _ hb).c2, (HCC0.out _ hb).c3, (HCC0.out _ hb).c4, (HCC0.out _ hb).c5⟩
  unfold stV
  dsimp only
  have HW : Hid (w.alloc (.cells #[.int .i64 ph, .int .i64 cu, .slice a1 d.length c1, .slice a2 n.length c2, .slice a3 h.length c3, .slice a4 p.length c4] 98) = W) := hW.symm
  have hltW : w.heap.size < W.heap.size := hC0.lt
  have HBW : Hid (∀ w', Below W.heap.size W w' → Below w.heap.size w w') := fun w' hb => below_after_of hBW hb
  generalize d.length = dn at *
  generalize n.length = nn at *
  generalize h.length = hn at *
  generalize p.length = pn at *
  have HC4 : Hid (∀ w', Below W.heap.size W w' → w'.cell? ⟨w.heap.size, 0, none⟩ = some (.int .i64 ph) ∧ w'.cell? ⟨w.heap.size, 1, none⟩ = some (.int .i64 cu) ∧ w'.cell? ⟨w.heap.size, 2, none⟩ = some (.slice a1 dn c1) ∧ w'.cell? ⟨w.heap.size, 3, none⟩ = some (.slice a2 nn c2)) := fun w' hb => by
    obtain ⟨k0, k1, k2, k3, -, -⟩ := HCC.out w' hb
    exact ⟨k0, k1, k2, k3⟩
  clear hR h1 h2 h3 h4 h5 h6 hch hbd hlm
  clear hW hC0 HCC0 hv hvW hBW hB
  go_enter Tryz.func127, Tryz.ntmps127
  go_wp2_with fail
  rw [HW.out]
  refine (hPh _).mono ?_
  rintro e w0 ⟨rfl, hw0⟩
  have hbr : Below W.heap.size W w0 := by rw [hw0]; exact Below.refl _ _
  clear hw0 hPh HW
  obtain ⟨g0, g1, g2, g3, g4, g5⟩ := HCC.out _ hbr
  have hD1 := hD _ hbr
  clear hD
  go_wp2_with fail
  refine hD1.mono ?_
  rintro e w1 ⟨rfl, hb1⟩
  have hbr : Below W.heap.size W w1 := below_after_of hbr hb1
  clear hD1 hb1
  obtain ⟨g0, g1, g2, g3, g4, g5⟩ := HCC.out _ hbr
  clear g4 g5
  go_wp2_with fail
  go_region_held3 (fun w' => w'.cell? ⟨w.heap.size, 0, none⟩ = some (.int .i64 ph) ∧ w'.cell? ⟨w.heap.size, 1, none⟩ = some (.int .i64 cu) ∧ w'.cell? ⟨w.heap.size, 2, none⟩ = some (.slice a1 dn c1) ∧ w'.cell? ⟨w.heap.size, 3, none⟩ = some (.slice a2 nn c2))
    (first | with_reducible exact ⟨g0, g1, g2, g3⟩ | with_reducible exact HC4.out _ hbr | with_reducible exact HC4.out _ hbr.drew)
    (first
      | (go_at_call 157; refine (hCu _).mono ?_; rintro e w2 ⟨rfl, hb2⟩; have hbr : Below W.heap.size W w2 := (by first | exact below_after_of hbr hb2 | exact below_after_of hbr.drew hb2); clear hb2)
      | (go_at_call 159; refine (NsAt.c (by assumption) _ (by first | exact hbr | exact hbr.drew)).mono ?_; rintro e w3 ⟨a7, c7, rfl, hb3, o3⟩; have hp3 := own_prs o3; have hbr : Below W.heap.size W w3 := (by first | exact below_after_of hbr hb3 | exact below_after_of hbr.drew hb3); clear hb3 o3)
      | (go_at_call 158; refine (hE _ _ hbr hp3).mono ?_; rintro e w4 ⟨rfl, hb4⟩; have hbr : Below W.heap.size W w4 := below_after_of hbr hb4; clear hb4))
  clear hCu HNS hE g0 g1 g2 g3 hp3
  obtain ⟨g0, g1, g2, g3, g4, g5⟩ := HCC.out _ hbr
  have hH1 := hH _ hbr
  clear hH
  go_wp2_with fail
  refine hH1.mono ?_
  rintro e w5 ⟨rfl, hb5⟩
  have hbr : Below W.heap.size W w5 := below_after_of hbr hb5
  clear hH1 hb5 g0 g1 g2 g3 g4 g5
  obtain ⟨g0, g1, g2, g3, g4, g5⟩ := HCC.out _ hbr
  have hCE1 := hCE _ hbr
  clear hCE
  go_wp2_with fail
  refine hCE1.mono ?_
  rintro e w6 ⟨rfl, hb6⟩
  have hbr : Below W.heap.size W w6 := below_after_of hbr hb6
  clear hCE1 hb6 g0 g1 g2 g3 g4 g5
  obtain ⟨g0, g1, g2, g3, g4, g5⟩ := HCC.out _ hbr
  go_wp2_with fail
  refine (hMF _).mono ?_
  rintro e w7 ⟨rfl, hb7⟩
  have hbr : Below W.heap.size W w7 := below_after_of hbr hb7
  clear hMF hb7 g0 g1 g2 g3 g4 g5
  go_wp2
  go_ret
  exact ⟨rfl, HBW.out _ hbr⟩
theorem implStateFault_any (R : Rt) (hR : RtOk R) (s : St) (v : Sv) (w : World) (hv : Sts w v s) (hB : StB s) :
    Calls Tryz.prog 127 #[stV s v] w fun e w' => e = .returned (.int .i64 (stF R s)) ∧ Below w.heap.size w w' := by
  rcases Bool.eq_false_or_eq_true (inB s.ph 1 5) with h1 | h1
  · by_cases h2 : dirF s.d = 0
    · rcases Bool.eq_false_or_eq_true (cuB s.ph s.cu) with h3 | h3
      · rcases Bool.eq_false_or_eq_true (eqP s.n (newL s.d s.cu)) with h4 | h4
        · have hn : stN s = true := by unfold stN; rw [h3, h4]; rfl
          by_cases h5 : hisF R s.h s.p = 0
          · rcases Bool.eq_false_or_eq_true (folB (phL s.h) s.ph) with h6 | h6
            · rw [stF_none h1 h2 hn h5 h6]
              exact implStateFault_ok R hR s v w hv hB h1 h2 h3 h4 h5 h6
            · rw [stF_fol h1 h2 hn h5 h6]
              exact implStateFault_fol R hR s v w hv hB h1 h2 h3 h4 h5 h6
          · rw [stF_his h1 h2 hn h5]
            exact implStateFault_his R hR s v w hv hB h1 h2 h3 h4 h5
        · rw [stF_form h1 h2 (by unfold stN; rw [h3, h4]; rfl)]
          exact implStateFault_new s v w hv hB h1 h2 h3 h4
      · rw [stF_form h1 h2 (by unfold stN; rw [h3]; rfl)]
        exact implStateFault_cu s v w hv hB h1 h2 h3
    · rw [stF_dir h1 h2]
      exact implStateFault_dir s v w hv hB h1 h2
  · rw [stF_ph h1]
    exact implStateFault_ph s v w hv hB h1
end U
end Go.Proofs.YtihhigmceeabmaaGreat

/- The fault of a state, by the model; both, at one state. -/
namespace Go.Proofs.YtihhigmceeabmaaGreat
open Go.RowKit
namespace U
set_option maxRecDepth 100000 in
set_option maxHeartbeats 4000000 in
theorem l11Fault_ph (g : Nat) (s : St) (v : Sv) (w : World) (hs : StC w g s v) (hv : Sts w v s) (hB : StB s) (h1 : inB s.ph 1 5 = false) :
    Calls Tryz.prog 68 #[.pointer (some ⟨g, 0, none⟩)] w fun e w' => e = .returned (.int .i64 (3)) ∧ Below w.heap.size w w' := by
  have hnn := hne_all
  have HST : Hid (∀ w', Below w.heap.size w w' → StC w' g s v) := fun w' hb => hs.below hb hs.lt
  have hI := fun w => l1In_any s.ph 1 5 w
  have hD := fun w' hb => l9Fault_off g 2 v.d s.d w' (HST.out w' hb).lt (HST.out w' hb).c2 (hv.d.below (w' := w') hb) hB.dl (by have := hB.d; omega)
  rw [h1] at hI
  have HK0 : Hid (∀ w', Below w.heap.size w w' → w'.cell? ⟨g, 0, none⟩ = some (.int .i64 s.ph)) := fun w' hb => (HST.out w' hb).c0
  have hbr : Below w.heap.size w w := Below.refl _ _
  obtain ⟨ph, cu, d, n, h, p⟩ := s
  dsimp only at *
  have g0 := HK0.out _ hbr
  clear hs hv hB HST
  go_enter Tryz.func68, Tryz.ntmps68
  go_wp2_with fail
  refine (hI _).mono ?_
  rintro e w0 ⟨rfl, hw0⟩
  have hbr : Below w.heap.size w w0 := by rw [hw0]; exact Below.refl _ _
  clear hw0 hI g0
  clear hD h1
  go_wp2
  go_ret
  exact ⟨rfl, hbr⟩
set_option maxRecDepth 100000 in
set_option maxHeartbeats 4000000 in
theorem l11Fault_dir (g : Nat) (s : St) (v : Sv) (w : World) (hs : StC w g s v) (hv : Sts w v s) (hB : StB s) (h1 : inB s.ph 1 5 = true) (h2 : ¬ dirF s.d = 0) :
    Calls Tryz.prog 68 #[.pointer (some ⟨g, 0, none⟩)] w fun e w' => e = .returned (.int .i64 (dirF s.d)) ∧ Below w.heap.size w w' := by
  have hnn := hne_all
  have HST : Hid (∀ w', Below w.heap.size w w' → StC w' g s v) := fun w' hb => hs.below hb hs.lt
  have hI := fun w => l1In_any s.ph 1 5 w
  have hD := fun w' hb => l9Fault_off g 2 v.d s.d w' (HST.out w' hb).lt (HST.out w' hb).c2 (hv.d.below (w' := w') hb) hB.dl (by have := hB.d; omega)
  rw [h1] at hI
  have hnz : (dirF s.d != 0) = true := by simpa using h2
  generalize dirF s.d = fd at *
  have HK0 : Hid (∀ w', Below w.heap.size w w' → w'.cell? ⟨g, 0, none⟩ = some (.int .i64 s.ph)) := fun w' hb => (HST.out w' hb).c0
  have hbr : Below w.heap.size w w := Below.refl _ _
  obtain ⟨ph, cu, d, n, h, p⟩ := s
  dsimp only at *
  have g0 := HK0.out _ hbr
  clear hs hv hB HST
  go_enter Tryz.func68, Tryz.ntmps68
  go_wp2_with fail
  refine (hI _).mono ?_
  rintro e w0 ⟨rfl, hw0⟩
  have hbr : Below w.heap.size w w0 := by rw [hw0]; exact Below.refl _ _
  clear hw0 hI g0
  clear h1 h2
  have hDX := hD _ hbr
  clear hD
  go_wp2_with fail
  refine hDX.mono ?_
  rintro e w1 ⟨rfl, hbX⟩
  have hbr : Below w.heap.size w w1 := below_after_of hbr hbX
  clear hDX hbX
  go_wp2
  go_ret
  exact ⟨rfl, hbr⟩
set_option maxRecDepth 100000 in
set_option maxHeartbeats 4000000 in
theorem l11Fault_form (g : Nat) (s : St) (v : Sv) (w : World) (hs : StC w g s v) (hv : Sts w v s) (hB : StB s) (h1 : inB s.ph 1 5 = true) (h2 : dirF s.d = 0) (h3 : stN s = false) :
    Calls Tryz.prog 68 #[.pointer (some ⟨g, 0, none⟩)] w fun e w' => e = .returned (.int .i64 (1)) ∧ Below w.heap.size w w' := by
  have hnn := hne_all
  have HST : Hid (∀ w', Below w.heap.size w w' → StC w' g s v) := fun w' hb => hs.below hb hs.lt
  have hI := fun w => l1In_any s.ph 1 5 w
  have hD := fun w' hb => l9Fault_off g 2 v.d s.d w' (HST.out w' hb).lt (HST.out w' hb).c2 (hv.d.below (w' := w') hb) hB.dl (by have := hB.d; omega)
  have hFo := fun w' hb => l11Form_any g s v w' (HST.out w' hb) (hv.below (w' := w') hb) hB h1 h2
  rw [h1] at hI
  rw [h2] at hD
  rw [h3] at hFo
  have HK0 : Hid (∀ w', Below w.heap.size w w' → w'.cell? ⟨g, 0, none⟩ = some (.int .i64 s.ph)) := fun w' hb => (HST.out w' hb).c0
  have hbr : Below w.heap.size w w := Below.refl _ _
  obtain ⟨ph, cu, d, n, h, p⟩ := s
  dsimp only at *
  have g0 := HK0.out _ hbr
  clear hs hv hB HST
  go_enter Tryz.func68, Tryz.ntmps68
  go_wp2_with fail
  refine (hI _).mono ?_
  rintro e w0 ⟨rfl, hw0⟩
  have hbr : Below w.heap.size w w0 := by rw [hw0]; exact Below.refl _ _
  clear hw0 hI g0
  clear h1 h2 h3
  have hDX := hD _ hbr
  clear hD
  go_wp2_with fail
  refine hDX.mono ?_
  rintro e w1 ⟨rfl, hbX⟩
  have hbr : Below w.heap.size w w1 := below_after_of hbr hbX
  clear hDX hbX
  have hFoX := hFo _ hbr
  clear hFo
  go_wp2_with fail
  refine hFoX.mono ?_
  rintro e w2 ⟨rfl, hbX⟩
  have hbr : Below w.heap.size w w2 := below_after_of hbr hbX
  clear hFoX hbX
  go_wp2
  go_ret
  exact ⟨rfl, hbr⟩
set_option maxRecDepth 100000 in
set_option maxHeartbeats 4000000 in
theorem l11Fault_his (R : Rt) (hR : RtOk R) (g : Nat) (s : St) (v : Sv) (w : World) (hs : StC w g s v) (hv : Sts w v s) (hB : StB s) (h1 : inB s.ph 1 5 = true) (h2 : dirF s.d = 0) (h3 : stN s = true) (h5 : ¬ hisF R s.h s.p = 0) :
    Calls Tryz.prog 68 #[.pointer (some ⟨g, 0, none⟩)] w fun e w' => e = .returned (.int .i64 (hisF R s.h s.p)) ∧ Below w.heap.size w w' := by
  have hnn := hne_all
  have HST : Hid (∀ w', Below w.heap.size w w' → StC w' g s v) := fun w' hb => hs.below hb hs.lt
  have hI := fun w => l1In_any s.ph 1 5 w
  have hD := fun w' hb => l9Fault_off g 2 v.d s.d w' (HST.out w' hb).lt (HST.out w' hb).c2 (hv.d.below (w' := w') hb) hB.dl (by have := hB.d; omega)
  have hFo := fun w' hb => l11Form_any g s v w' (HST.out w' hb) (hv.below (w' := w') hb) hB h1 h2
  have hH := fun w' hb => l11Past_any R hR g v.h v.p s.h s.p w' (HST.out w' hb).lt (HST.out w' hb).c4 (HST.out w' hb).c5 (hv.h.below (w' := w') hb) (hv.p.below hb) hB.h hB.p hB.pd
  rw [h1] at hI
  rw [h2] at hD
  rw [h3] at hFo
  have hnz : (hisF R s.h s.p != 0) = true := by simpa using h5
  generalize hisF R s.h s.p = fh at *
  have HK0 : Hid (∀ w', Below w.heap.size w w' → w'.cell? ⟨g, 0, none⟩ = some (.int .i64 s.ph)) := fun w' hb => (HST.out w' hb).c0
  have hbr : Below w.heap.size w w := Below.refl _ _
  obtain ⟨ph, cu, d, n, h, p⟩ := s
  dsimp only at *
  have g0 := HK0.out _ hbr
  clear hs hv hB HST
  go_enter Tryz.func68, Tryz.ntmps68
  go_wp2_with fail
  refine (hI _).mono ?_
  rintro e w0 ⟨rfl, hw0⟩
  have hbr : Below w.heap.size w w0 := by rw [hw0]; exact Below.refl _ _
  clear hw0 hI g0
  clear hR h1 h2 h3 h5
  have hDX := hD _ hbr
  clear hD
  go_wp2_with fail
  refine hDX.mono ?_
  rintro e w1 ⟨rfl, hbX⟩
  have hbr : Below w.heap.size w w1 := below_after_of hbr hbX
  clear hDX hbX
  have hFoX := hFo _ hbr
  clear hFo
  go_wp2_with fail
  refine hFoX.mono ?_
  rintro e w2 ⟨rfl, hbX⟩
  have hbr : Below w.heap.size w w2 := below_after_of hbr hbX
  clear hFoX hbX
  have hHX := hH _ hbr
  clear hH
  go_wp2_with fail
  refine hHX.mono ?_
  rintro e w3 ⟨rfl, hbX⟩
  have hbr : Below w.heap.size w w3 := below_after_of hbr hbX
  clear hHX hbX
  go_wp2
  go_ret
  exact ⟨rfl, hbr⟩
set_option maxRecDepth 100000 in
set_option maxHeartbeats 4000000 in
theorem l11Fault_fol (R : Rt) (hR : RtOk R) (g : Nat) (s : St) (v : Sv) (w : World) (hs : StC w g s v) (hv : Sts w v s) (hB : StB s) (h1 : inB s.ph 1 5 = true) (h2 : dirF s.d = 0) (h3 : stN s = true) (h5 : hisF R s.h s.p = 0) (h6 : folB (phL s.h) s.ph = false) :
    Calls Tryz.prog 68 #[.pointer (some ⟨g, 0, none⟩)] w fun e w' => e = .returned (.int .i64 (10)) ∧ Below w.heap.size w w' := by
  have hnn := hne_all
  have HST : Hid (∀ w', Below w.heap.size w w' → StC w' g s v) := fun w' hb => hs.below hb hs.lt
  have hI := fun w => l1In_any s.ph 1 5 w
  have hD := fun w' hb => l9Fault_off g 2 v.d s.d w' (HST.out w' hb).lt (HST.out w' hb).c2 (hv.d.below (w' := w') hb) hB.dl (by have := hB.d; omega)
  have hFo := fun w' hb => l11Form_any g s v w' (HST.out w' hb) (hv.below (w' := w') hb) hB h1 h2
  have hH := fun w' hb => l11Past_any R hR g v.h v.p s.h s.p w' (HST.out w' hb).lt (HST.out w' hb).c4 (HST.out w' hb).c5 (hv.h.below (w' := w') hb) (hv.p.below hb) hB.h hB.p hB.pd
  obtain ⟨hch, -⟩ := hisF_ch h5
  have hCE := fun w' hb => l11Last_any g v.h s.h w' (HST.out w' hb).c4 (hv.h.below (w' := w') hb) (chF_all hch).2 hB.h
  have hMF := fun w => l10Follow_any (phL s.h) s.ph w
  rw [h1] at hI
  rw [h2] at hD
  rw [h3] at hFo
  rw [h5] at hH
  rw [h6] at hMF
  have HK0 : Hid (∀ w', Below w.heap.size w w' → w'.cell? ⟨g, 0, none⟩ = some (.int .i64 s.ph)) := fun w' hb => (HST.out w' hb).c0
  have hbr : Below w.heap.size w w := Below.refl _ _
  obtain ⟨ph, cu, d, n, h, p⟩ := s
  dsimp only at *
  have g0 := HK0.out _ hbr
  clear hs hv hB HST
  go_enter Tryz.func68, Tryz.ntmps68
  go_wp2_with fail
  refine (hI _).mono ?_
  rintro e w0 ⟨rfl, hw0⟩
  have hbr : Below w.heap.size w w0 := by rw [hw0]; exact Below.refl _ _
  clear hw0 hI g0
  clear hR h1 h2 h3 h5 h6 hch
  have hDX := hD _ hbr
  clear hD
  go_wp2_with fail
  refine hDX.mono ?_
  rintro e w1 ⟨rfl, hbX⟩
  have hbr : Below w.heap.size w w1 := below_after_of hbr hbX
  clear hDX hbX
  have hFoX := hFo _ hbr
  clear hFo
  go_wp2_with fail
  refine hFoX.mono ?_
  rintro e w2 ⟨rfl, hbX⟩
  have hbr : Below w.heap.size w w2 := below_after_of hbr hbX
  clear hFoX hbX
  have hHX := hH _ hbr
  clear hH
  go_wp2_with fail
  refine hHX.mono ?_
  rintro e w3 ⟨rfl, hbX⟩
  have hbr : Below w.heap.size w w3 := below_after_of hbr hbX
  clear hHX hbX
  have hCEX := hCE _ hbr
  clear hCE
  go_wp2_with fail
  refine hCEX.mono ?_
  rintro e w4 ⟨rfl, hbX⟩
  have hbr : Below w.heap.size w w4 := below_after_of hbr hbX
  clear hCEX hbX
  have g0 := HK0.out _ hbr
  go_wp2_with fail
  refine (hMF _).mono ?_
  rintro e w7 ⟨rfl, hw7⟩
  have hbr : Below w.heap.size w w7 := by rw [hw7]; exact hbr
  clear hMF hw7 g0
  go_wp2
  go_ret
  exact ⟨rfl, hbr⟩
set_option maxRecDepth 100000 in
set_option maxHeartbeats 4000000 in
theorem l11Fault_ok (R : Rt) (hR : RtOk R) (g : Nat) (s : St) (v : Sv) (w : World) (hs : StC w g s v) (hv : Sts w v s) (hB : StB s) (h1 : inB s.ph 1 5 = true) (h2 : dirF s.d = 0) (h3 : stN s = true) (h5 : hisF R s.h s.p = 0) (h6 : folB (phL s.h) s.ph = true) :
    Calls Tryz.prog 68 #[.pointer (some ⟨g, 0, none⟩)] w fun e w' => e = .returned (.int .i64 (0)) ∧ Below w.heap.size w w' := by
  have hnn := hne_all
  have HST : Hid (∀ w', Below w.heap.size w w' → StC w' g s v) := fun w' hb => hs.below hb hs.lt
  have hI := fun w => l1In_any s.ph 1 5 w
  have hD := fun w' hb => l9Fault_off g 2 v.d s.d w' (HST.out w' hb).lt (HST.out w' hb).c2 (hv.d.below (w' := w') hb) hB.dl (by have := hB.d; omega)
  have hFo := fun w' hb => l11Form_any g s v w' (HST.out w' hb) (hv.below (w' := w') hb) hB h1 h2
  have hH := fun w' hb => l11Past_any R hR g v.h v.p s.h s.p w' (HST.out w' hb).lt (HST.out w' hb).c4 (HST.out w' hb).c5 (hv.h.below (w' := w') hb) (hv.p.below hb) hB.h hB.p hB.pd
  obtain ⟨hch, -⟩ := hisF_ch h5
  have hCE := fun w' hb => l11Last_any g v.h s.h w' (HST.out w' hb).c4 (hv.h.below (w' := w') hb) (chF_all hch).2 hB.h
  have hMF := fun w => l10Follow_any (phL s.h) s.ph w
  rw [h1] at hI
  rw [h2] at hD
  rw [h3] at hFo
  rw [h5] at hH
  rw [h6] at hMF
  have HK0 : Hid (∀ w', Below w.heap.size w w' → w'.cell? ⟨g, 0, none⟩ = some (.int .i64 s.ph)) := fun w' hb => (HST.out w' hb).c0
  have hbr : Below w.heap.size w w := Below.refl _ _
  obtain ⟨ph, cu, d, n, h, p⟩ := s
  dsimp only at *
  have g0 := HK0.out _ hbr
  clear hs hv hB HST
  go_enter Tryz.func68, Tryz.ntmps68
  go_wp2_with fail
  refine (hI _).mono ?_
  rintro e w0 ⟨rfl, hw0⟩
  have hbr : Below w.heap.size w w0 := by rw [hw0]; exact Below.refl _ _
  clear hw0 hI g0
  clear hR h1 h2 h3 h5 h6 hch
  have hDX := hD _ hbr
  clear hD
  go_wp2_with fail
  refine hDX.mono ?_
  rintro e w1 ⟨rfl, hbX⟩
  have hbr : Below w.heap.size w w1 := below_after_of hbr hbX
  clear hDX hbX
  have hFoX := hFo _ hbr
  clear hFo
  go_wp2_with fail
  refine hFoX.mono ?_
  rintro e w2 ⟨rfl, hbX⟩
  have hbr : Below w.heap.size w w2 := below_after_of hbr hbX
  clear hFoX hbX
  have hHX := hH _ hbr
  clear hH
  go_wp2_with fail
  refine hHX.mono ?_
  rintro e w3 ⟨rfl, hbX⟩
  have hbr : Below w.heap.size w w3 := below_after_of hbr hbX
  clear hHX hbX
  have hCEX := hCE _ hbr
  clear hCE
  go_wp2_with fail
  refine hCEX.mono ?_
  rintro e w4 ⟨rfl, hbX⟩
  have hbr : Below w.heap.size w w4 := below_after_of hbr hbX
  clear hCEX hbX
  have g0 := HK0.out _ hbr
  go_wp2_with fail
  refine (hMF _).mono ?_
  rintro e w7 ⟨rfl, hw7⟩
  have hbr : Below w.heap.size w w7 := by rw [hw7]; exact hbr
  clear hMF hw7 g0
  go_wp2
  go_ret
  exact ⟨rfl, hbr⟩
theorem l11Fault_any (R : Rt) (hR : RtOk R) (g : Nat) (s : St) (v : Sv) (w : World) (hs : StC w g s v) (hv : Sts w v s) (hB : StB s) :
    Calls Tryz.prog 68 #[.pointer (some ⟨g, 0, none⟩)] w fun e w' => e = .returned (.int .i64 (stF R s)) ∧ Below w.heap.size w w' := by
  rcases Bool.eq_false_or_eq_true (inB s.ph 1 5) with h1 | h1
  · by_cases h2 : dirF s.d = 0
    · rcases Bool.eq_false_or_eq_true (stN s) with h3 | h3
      · by_cases h5 : hisF R s.h s.p = 0
        · rcases Bool.eq_false_or_eq_true (folB (phL s.h) s.ph) with h6 | h6
          · rw [stF_none h1 h2 h3 h5 h6]
            exact l11Fault_ok R hR g s v w hs hv hB h1 h2 h3 h5 h6
          · rw [stF_fol h1 h2 h3 h5 h6]
            exact l11Fault_fol R hR g s v w hs hv hB h1 h2 h3 h5 h6
        · rw [stF_his h1 h2 h3 h5]
          exact l11Fault_his R hR g s v w hs hv hB h1 h2 h3 h5
      · rw [stF_form h1 h2 h3]
        exact l11Fault_form g s v w hs hv hB h1 h2 h3
    · rw [stF_dir h1 h2]
      exact l11Fault_dir g s v w hs hv hB h1 h2
  · rw [stF_ph h1]
    exact l11Fault_ph g s v w hs hv hB h1
end U
end Go.Proofs.YtihhigmceeabmaaGreat

/- Records by their keys, in a map: what the map's block is good for. -/
namespace Go.Proofs.YtihhigmceeabmaaGreat
open Go.RowKit Go.Maps
namespace U
/-- How a record reads. -/
def recD (r : Rc) : DataW Unit := .agg [.lit (.string r.l.data.toList), .lit (.int .i64 r.v), .lit (.int .i64 r.o), .lit (.int .i64 r.p)]
theorem recD_inj {r s : Rc} (h : recD r = recD s) : r = s := by
  obtain ⟨⟨l⟩, v, o, p⟩ := r
  obtain ⟨⟨l'⟩, v', o', p'⟩ := s
  unfold recD at h
  simp at h
  obtain ⟨h1, rfl, rfl, rfl⟩ := h
  have : l = l' := by cases l; cases l'; simp_all
  rw [this]
/-- How an element of the map reads. -/
def recE (v : Value) : Option (DataW Unit × List MemPlace) :=
  match v with
  | .agg cs => (match cs.toList with
    | [.string l, .int .i64 a, .int .i64 b, .int .i64 c] => some (recD ⟨l, a, b, c⟩, [])
    | _ => none)
  | _ => none
def Rc.val (r : Rc) : Value := .agg #[.string r.l, .int .i64 r.v, .int .i64 r.o, .int .i64 r.p]
theorem recE_mk (r : Rc) : recE r.val = some (recD r, []) := rfl
theorem recE_inv {v : Value} {z : DataW Unit × List MemPlace} (h : recE v = some z) : ∃ r : Rc, v = r.val ∧ z = (recD r, []) := by
  unfold recE at h
  split at h
  · rename_i cs
    split at h
    · rename_i l a b c e
      cases h
      refine ⟨⟨l, a, b, c⟩, ?_, rfl⟩
      show Value.agg cs = Value.agg #[.string l, .int .i64 a, .int .i64 b, .int .i64 c]
      congr 1
      exact Array.ext' e
    · cases h
  · cases h
theorem Tryz.mapK : Keyed Tryz.prog 2 := int_keyed Tryz.underlying2
theorem Tryz.zeroRc (w : World) : (zeroValue 37).run Tryz.prog w = .ok rcZ.val w := by kernel_rfl
theorem key_lit {x : Int} (h : 0 ≤ x ∧ x < 256) : keyOf Tryz.prog 2 (.int .i64 x) = some (.int .i64 x) := keyOf_int_mk Tryz.underlying2 (WalkArith.wf_i64 (by omega))
/-- A block that is a map of records by key. -/
structure MpAt (w : World) (b n : Nat) (g : Int → Option Rc) : Prop where
  ex : ∃ D : DataW Unit, w.ownsMap Tryz.prog 2 recE b n D ∧ (∀ x, Go.Maps.has D (.int .i64 x) = (g x).isSome) ∧ ∀ x r, g x = some r → ∀ z, D.atKey (.int .i64 x) z = recD r
theorem MpAt.lt {w : World} {b n : Nat} {g : Int → Option Rc} (h : MpAt w b n g) : b < w.heap.size := by
  obtain ⟨D, h1, -, -⟩ := h.ex
  exact h1.lt
theorem MpAt.kept {w w' : World} {b n : Nat} {g : Int → Option Rc} {row : Option Nat} (h : MpAt w b n g) (hg : w.grownBy w' row) (hne : some b ≠ row) : MpAt w' b n g := by
  obtain ⟨D, h1, h2, h3⟩ := h.ex
  exact ⟨D, h1.kept hg hne, h2, h3⟩
theorem MpAt.below {w w' : World} {b n N : Nat} {g : Int → Option Rc} (h : MpAt w b n g) (hb : Below N w w') (hlt : b < N) : MpAt w' b n g := by
  obtain ⟨D, ⟨es, clock, e1, e2⟩, h2, h3⟩ := h.ex
  exact ⟨D, ⟨es, clock, (hb.block b hlt).trans e1, e2⟩, h2, h3⟩
theorem MpAt.made (w : World) : MpAt (w.alloc (.map #[] 0)) w.heap.size 0 (fun _ => none) :=
  ⟨.map [], World.ownsMap_made w Tryz.prog 2 recE, fun _ => rfl, fun _ _ h => by cases h⟩
/-- What is found at a key, or nothing. -/
def valO (o : Option Rc) : Value := (o.getD rcZ).val
theorem MpAt.look {w : World} {b n : Nat} {g : Int → Option Rc} (h : MpAt w b n g) {x : Int} (hx : 0 ≤ x ∧ x < 256) :
    (Instr.lookup 207 (.map (some b)) (.int .i64 x) true).run Tryz.prog w = .ok (.tuple #[valO (g x), .bool (g x).isSome]) w := by
  obtain ⟨D, h1, h2, h3⟩ := h.ex
  obtain ⟨v, ps, hrun, hv⟩ := h1.look_ok Tryz.mapK Tryz.underlying207 (Tryz.zeroRc w) (recE_mk rcZ) (key_lit hx)
  rw [hrun, h2]
  obtain ⟨r, rfl, hr⟩ := recE_inv hv
  have hd : D.atKey (.int .i64 x) (recD rcZ) = recD r := congrArg Prod.fst hr
  rcases hg : g x with _ | s
  · have hn : Go.Maps.has D (.int .i64 x) = false := by rw [h2, hg]; rfl
    rw [atKey_of_not_has hn] at hd
    rw [← recD_inj hd]
    rfl
  · rw [h3 x s hg] at hd
    rw [← recD_inj hd]
    rfl
theorem lit_ne {x y : Int} (h : x ≠ y) : (Lit.int .i64 x) ≠ (Lit.int .i64 y) := fun e => h (by cases e; rfl)
theorem key_is (x : Int) : WideAt.IsKeyLit (Lit.int .i64 x) := trivial
theorem MpAt.store {w : World} {b n : Nat} {g : Int → Option Rc} (h : MpAt w b n g) (hn : n < maxLen) {x : Int} (hx : 0 ≤ x ∧ x < 256) (r : Rc) :
    ∃ w', (Instr.mapUpdate 207 (.map (some b)) (.int .i64 x) r.val).run Tryz.prog w = .ok () w' ∧ MpAt w' b (n + 1) (fun y => if y = x then some r else g y) ∧ w.grownBy w' (some b) := by
  obtain ⟨D, h1, h2, h3⟩ := h.ex
  obtain ⟨w', hrun, ho, hg⟩ := h1.update Tryz.mapK Tryz.underlying207 hn (key_lit hx) (recE_mk r)
  refine ⟨w', hrun, ⟨_, ho, fun y => ?_, fun y s hs z => ?_⟩, hg⟩
  · by_cases e : y = x
    · subst e
      rw [if_pos rfl, has_put_same h1.isMap (key_is _)]
      rfl
    · rw [if_neg e, has_put_other (lit_ne e), h2]
  · by_cases e : y = x
    · subst e
      rw [if_pos rfl] at hs
      cases hs
      exact atKey_put_same h1.isMap (key_is _) _ _
    · rw [if_neg e] at hs
      rw [atKey_put_other (lit_ne e)]
      exact h3 y s hs z
/-- A store into the map, where it stands among operations. -/
theorem step_store {w : World} {ops : Array Oper} {o : Oper} {a : Act} {K : Act → World → Prop} {Q : Exit → Act → World → Prop} {E : Prop} (hgd : o.guard = none) (m x v : Operand)
    (hop : o.op = Op.mapUpdate 207 m x v) (b n : Nat) (g : Int → Option Rc) (hm : a.eval m = .map (some b)) (hM : MpAt w b n g) (hn : n < maxLen) (k : Int) (r : Rc) (hk : 0 ≤ k ∧ k < 256) (hx : a.eval x = .int .i64 k) (hv : a.eval v = r.val)
    (h : ∀ w', MpAt w' b (n + 1) (fun y => if y = k then some r else g y) → w.grownBy w' (some b) → K (a.put o.dst undef) w') :
    if Region.wanted o (yielded ops a.tmps) = true then Oper.wp Tryz.prog o a w K Q else E := by
  have hw : Region.wanted o (yielded ops a.tmps) = true := by simp [Region.wanted, hgd]
  rw [if_pos hw]
  obtain ⟨w', hrun, h1, h2⟩ := hM.store hn hk r
  unfold Oper.wp
  simp [execOp, hop, hm, hx, hv, hrun, Result.andThen]
  exact h w' h1 h2
/-- The records by key, of the first ones. -/
def mapTo (l : Rcl) : Nat → Int → Option Rc
  | 0 => fun _ => none
  | k + 1 => fun y => if y = (rAt l k).k then some (rAt l k) else mapTo l k y
/-- The place of a key, from a place on. -/
def atK (l : Rcl) (key : Int) : Nat → Nat → Int
  | 0, _ => -1
  | f + 1, i => if (rAt l i).k = key then (i : Int) else atK l key f (i + 1)
def atI (l : Rcl) (key : Int) : Int := atK l key l.length 0
theorem atK_hit {l : Rcl} {key : Int} {f i : Nat} (h : (rAt l i).k = key) : atK l key (f + 1) i = i := by rw [atK, if_pos h]
theorem atK_miss {l : Rcl} {key : Int} {f i : Nat} (h : ¬ (rAt l i).k = key) : atK l key (f + 1) i = atK l key f (i + 1) := by rw [atK, if_neg h]
theorem atK_cases (l : Rcl) (key : Int) : ∀ f i, (atK l key f i = -1 ∧ ∀ j, i ≤ j → j < i + f → ¬ (rAt l j).k = key) ∨ ∃ j, i ≤ j ∧ j < i + f ∧ (rAt l j).k = key ∧ atK l key f i = j
  | 0, i => Or.inl ⟨rfl, fun j h1 h2 => by omega⟩
  | f + 1, i => by
    by_cases h : (rAt l i).k = key
    · exact Or.inr ⟨i, Nat.le_refl _, by omega, h, atK_hit h⟩
    · rw [atK_miss h]
      rcases atK_cases l key f (i + 1) with ⟨h1, h2⟩ | ⟨j, h1, h2, h3, h4⟩
      · refine Or.inl ⟨h1, fun j h3 h4 => ?_⟩
        by_cases e : j = i
        · subst e; exact h
        · exact h2 j (by omega) (by omega)
      · exact Or.inr ⟨j, by omega, by omega, h3, h4⟩
theorem atI_cases (l : Rcl) (key : Int) : (atI l key = -1 ∧ ∀ j, j < l.length → ¬ (rAt l j).k = key) ∨ ∃ j, j < l.length ∧ (rAt l j).k = key ∧ atI l key = j := by
  rcases atK_cases l key l.length 0 with ⟨h1, h2⟩ | ⟨j, -, h2, h3, h4⟩
  · exact Or.inl ⟨h1, fun j hj => h2 j (Nat.zero_le _) (by omega)⟩
  · exact Or.inr ⟨j, by omega, h3, h4⟩
theorem mapTo_none {l : Rcl} {x : Int} : ∀ k, (∀ j, j < k → ¬ (rAt l j).k = x) → mapTo l k x = none
  | 0, _ => rfl
  | k + 1, h => by
    show (if x = (rAt l k).k then some (rAt l k) else mapTo l k x) = none
    rw [if_neg (fun e => h k (by omega) e.symm)]
    exact mapTo_none k (fun j hj => h j (by omega))
theorem mapTo_some {l : Rcl} {x : Int} {j : Nat} (hx : (rAt l j).k = x) : ∀ k, j < k → (∀ i, i < k → (rAt l i).k = x → i = j) → mapTo l k x = some (rAt l j)
  | 0, h, _ => by omega
  | k + 1, h, hu => by
    show (if x = (rAt l k).k then some (rAt l k) else mapTo l k x) = some (rAt l j)
    by_cases e : x = (rAt l k).k
    · rw [if_pos e, hu k (by omega) e.symm]
    · rw [if_neg e]
      have hjk : j ≠ k := fun e2 => e (by rw [← e2, hx])
      exact mapTo_some hx k (by omega) (fun i hi => hu i (by omega))
theorem DirOk.one {l : Rcl} (h : DirOk l) {i j : Nat} (hi : i < l.length) (hj : j < l.length) (e : (rAt l i).k = (rAt l j).k) : i = j := by
  rcases Nat.lt_trichotomy i j with h1 | h1 | h1
  · have := h.rise j hj i h1; omega
  · exact h1
  · have := h.rise i hi j h1; omega
/-- What the map has at a key is what stands there. -/
theorem mapTo_all {l : Rcl} (h : DirOk l) (x : Int) : (atI l x = -1 ∧ mapTo l l.length x = none) ∨ ∃ j, j < l.length ∧ atI l x = j ∧ mapTo l l.length x = some (rAt l j) ∧ (rAt l j).k = x := by
  rcases atI_cases l x with ⟨h1, h2⟩ | ⟨j, h1, h2, h3⟩
  · exact Or.inl ⟨h1, mapTo_none _ h2⟩
  · exact Or.inr ⟨j, h1, h3, mapTo_some h2 _ h1 (fun i hi e => h.one hi h1 (by rw [e, h2])), h2⟩
end U
end Go.Proofs.YtihhigmceeabmaaGreat

/- A region that draws its order, driven by hand: what is passed over, what is taken first. -/
namespace Go.Proofs.YtihhigmceeabmaaGreat
open Go.RowKit
namespace U
section
variable {P : Program} {ops : Array Oper} {Q : Exit → Act → World → Prop} {md : Region.Mode} {S : World → Prop}
theorem h_skip {i : Nat} {d : Option Tmp} {fuel : Nat} {listed : Array Bool} {a : Act} {w : World} (hd : (ops[i]?).map (·.dst) = some d)
    (hs : Region.noSelect ops = true) (hf : Region.free md ops listed i = true) (hr : (Region.ready md ops listed).contains i = true)
    (hQ : ∀ c a w, Q (.panic c) (a.put d undef) w → Q (.panic c) a w) (hw : (ops[i]?).map (fun o => Region.wanted o (yielded ops a.tmps)) = some false) (hS : S w)
    (h : wpAnyH P md ops Q S fuel (listed.setIfInBounds i true) (a.put d undef) w) : wpAnyH P md ops Q S (fuel + 1) listed a w := by
  rcases ho : ops[i]? with _ | o
  · rw [ho] at hd; cases hd
  · rw [ho] at hd hw
    cases hd
    exact wpAnyH_take ho hs hf hr hQ (Or.inr ⟨Option.some.inj hw, rfl⟩) hS h
theorem h_take {i : Nat} {d : Option Tmp} {v : Value} {fuel : Nat} {listed : Array Bool} {a : Act} {w : World} (hd : (ops[i]?).map (·.dst) = some d)
    (hs : Region.noSelect ops = true) (hf : Region.free md ops listed i = true) (hr : (Region.ready md ops listed).contains i = true)
    (hQ : ∀ c a w, Q (.panic c) (a.put d v) w → Q (.panic c) a w) (hw : (ops[i]?).map (fun o => Region.wanted o (yielded ops a.tmps)) = some true)
    (hy : ∀ o, ops[i]? = some o → ∀ w, S w → (execOp a.eval o).run P w = .ok (.value v) w) (hS : S w)
    (h : wpAnyH P md ops Q S fuel (listed.setIfInBounds i true) (a.put d v) w) : wpAnyH P md ops Q S (fuel + 1) listed a w := by
  rcases ho : ops[i]? with _ | o
  · rw [ho] at hd; cases hd
  · rw [ho] at hd hw
    cases hd
    exact wpAnyH_take ho hs hf hr hQ (Or.inl ⟨Option.some.inj hw, hy o ho⟩) hS h
end
end U
end Go.Proofs.YtihhigmceeabmaaGreat

/- Records by their keys: the map that the program makes of a directory. -/
namespace Go.Proofs.YtihhigmceeabmaaGreat
open Go.RowKit Go.Maps
namespace U
set_option maxHeartbeats 400000 in
theorem clone_strR (s : ByteArray) (w : World) (hs : s.size ≤ 1048576) : Calls Tryz.prog 148 #[.string s] w fun e w' => e = .returned (.string s) ∧ Below w.heap.size w w' := by
  go_enter Tryz.func148, Tryz.ntmps148
  go_wp2_with fail
  refine (Tryz.stringslite_Clone s _ (by omega)).mono ?_
  rintro e w1 ⟨rfl, hb1⟩
  go_wp2
  go_ret
  exact ⟨rfl, hb1⟩
set_option maxRecDepth 100000 in
set_option maxHeartbeats 1000000 in
theorem ownRecord_any (l : ByteArray) (v o p : Int) (w : World) (hs : l.size ≤ 1048576) :
    Calls Tryz.prog 112 #[.agg #[.string l, .int .i64 v, .int .i64 o, .int .i64 p]] w fun e w' => e = .returned (.agg #[.string l, .int .i64 v, .int .i64 o, .int .i64 p]) ∧ Below w.heap.size w w' := by
  have hC := fun w => clone_strR l w hs
  go_enter Tryz.func112, Tryz.ntmps112
  go_wp2_with fail
  refine (hC _).mono ?_
  rintro e w1 ⟨rfl, hb1⟩
  have hB : Below w.heap.size w w1 := below_after (below_after hb1)
  have k0 := blk4 ((hb1.block w.heap.size (by simp; omega)).trans (heap_alloc_old' _ _ _ (heap_alloc_new w _)))
  have k1 := blk4 ((hb1.block (w.heap.size + 1) (by simp)).trans (heap_new2 w _ _))
  go_split_ands
  clear hb1 hC
  go_wp2
  refine bodyPost_ret (v := .agg #[.string l, .int .i64 v, .int .i64 o, .int .i64 p]) (by simp [results, Tryz.results112, go_sem, *]) rfl ⟨rfl, ?_⟩
  exact ((((hB.setCell (Nat.le_refl _) _).setCell (Nat.le_succ _) _).setCell (Nat.le_succ _) _).setCell (Nat.le_succ _) _).setCell (Nat.le_succ _) _
set_option maxRecDepth 100000 in
set_option maxHeartbeats 4000000 in
theorem recordsOf_core (b off c n : Nat) (l : Rcl) (w : World) (hn : n ≤ 12) (hb : b < w.heap.size) (hok : ∀ j, j < n → (rAt l j).c = 0) (hc : ∀ j, j < n → RecS w b (off + j * 4) (rAt l j)) :
    Calls Tryz.prog 129 #[.agg #[.slice (some ⟨b, off, none⟩) n c]] w fun e w' => e = .returned (.map (some (w.heap.size + 1))) ∧ Below w.heap.size w w' ∧ MpAt w' (w.heap.size + 1) n (mapTo l n) := by
  have hmm := @run_makeMap Tryz.prog
  go_enter Tryz.func129, Tryz.ntmps129
  go_wp2
  go_loopw [10] (fun i wr => ∃ k : Nat, k ≤ n ∧ i = .int .i64 k ∧ Hid (Below w.heap.size w wr) ∧ Hid (MpAt wr (w.heap.size + 1) k (mapTo l k))) (fun i _ => n - (intOf i).toNat)
  case atStart =>
    refine ⟨0, Nat.zero_le _, rfl, two_new _ _, ?_⟩
    have h := MpAt.made (w.alloc (.cells #[.slice (some ⟨b, off, none⟩) n c] 94))
    rw [World.size_alloc] at h
    exact h
  case round =>
    obtain ⟨k, hk, rfl, hB, hM⟩ := hrel
    by_cases hkn : k < n
    · have hki : (k : Int) < (n : Int) := by omega
      have hr := (hc k hkn).below hB.out hb
      have hc0 := hok k hkn
      have hKy := fun w => recordKey_any (rAt l k).l (rAt l k).v (rAt l k).o (rAt l k).p w (Rc.labelP_of hc0)
      have hOw := fun w => ownRecord_any (rAt l k).l (rAt l k).v (rAt l k).o (rAt l k).p w (by have := Rc.small_of hc0; omega)
      have e2 : keyI (rAt l k).l = (rAt l k).k := rfl
      rw [e2] at hKy
      have hkb := (rAt l k).kbd
      have HG : Hid (mapTo l (k + 1) = fun y => if y = (rAt l k).k then some (rAt l k) else mapTo l k y) := rfl
      obtain ⟨r, hre⟩ : ∃ r, r = rAt l k := ⟨_, rfl⟩
      rw [← hre] at hr hKy hOw hkb HG
      obtain ⟨d0, d1, d2, d3⟩ := hr
      obtain ⟨x0, x1, x2, x3⟩ := r
      unfold recV at hKy
      dsimp only at d0 d1 d2 d3 hKy hOw
      generalize hkz : Rc.k ⟨x0, x1, x2, x3⟩ = kz at *
      have hbr0 : b < wr.heap.size := Nat.lt_of_lt_of_le hb hB.out.size
      obtain ⟨W, hW⟩ : ∃ W, W = wr.alloc (.cells #[.string x0, .int .i64 x1, .int .i64 x2, .int .i64 x3] 37) := ⟨_, rfl⟩
      have HW : Hid (wr.alloc (.cells #[.string x0, .int .i64 x1, .int .i64 x2, .int .i64 x3] 37) = W) := hW.symm
      have HWB : Hid (Below w.heap.size w W) := (by rw [hW]; exact hB.out.alloc hB.out.size _ : Below w.heap.size w W)
      have hWH : W.heap[wr.heap.size]? = some (.cells #[.string x0, .int .i64 x1, .int .i64 x2, .int .i64 x3] 37) := by rw [hW]; exact heap_alloc_new wr _
      have HWM : Hid (∀ w', Below W.heap.size W w' → MpAt w' (w.heap.size + 1) k (mapTo l k)) := fun w' h => by
        have h1 : MpAt W (w.heap.size + 1) k (mapTo l k) := by rw [hW]; exact hM.out.below (one_new _) hM.out.lt
        exact h1.below h h1.lt
      have hlt := (Array.getElem?_eq_some_iff.1 hWH).1
      have HWC : Hid (∀ w', Below W.heap.size W w' → w'.cell? ⟨wr.heap.size, 0, none⟩ = some (.string x0) ∧ w'.cell? ⟨wr.heap.size, 1, none⟩ = some (.int .i64 x1) ∧ w'.cell? ⟨wr.heap.size, 2, none⟩ = some (.int .i64 x2) ∧ w'.cell? ⟨wr.heap.size, 3, none⟩ = some (.int .i64 x3)) := fun w' h => four_cellsV ((h.block wr.heap.size hlt).trans hWH)
      obtain ⟨g0, g1, g2, g3⟩ := four_cellsV hWH
      have hbr := Below.refl W.heap.size W
      have HKN : Hid (k < maxLen) := (by unfold maxLen; omega : k < maxLen)
      clear hc hok hre hkz hc0 e2 hW hWH
      go_wp2_with fail
      rw [HW.out]
      go_region_held3 (fun w' => w'.cell? ⟨wr.heap.size, 0, none⟩ = some (.string x0) ∧ w'.cell? ⟨wr.heap.size, 1, none⟩ = some (.int .i64 x1) ∧ w'.cell? ⟨wr.heap.size, 2, none⟩ = some (.int .i64 x2) ∧ w'.cell? ⟨wr.heap.size, 3, none⟩ = some (.int .i64 x3))
        (first | exact ⟨g0, g1, g2, g3⟩ | exact HWC.out _ hbr | exact HWC.out _ hbr.drew | exact hlast)
        (first
          | (go_at_call 53; refine (hKy _).mono ?_; rintro e w5 ⟨rfl, hb5⟩; have hbr : Below W.heap.size W w5 := (by first | exact below_after_of hbr hb5 | exact below_after_of hbr.drew hb5))
          | (go_at_call 112; refine (hOw _).mono ?_; rintro e w6 ⟨rfl, hb6⟩; have hbr : Below W.heap.size W w6 := (by first | exact below_after_of hbr hb6 | exact below_after_of hbr.drew hb6); obtain ⟨w7, hrun7, hM7, hg7⟩ := (HWM.out _ hbr).store HKN.out hkb ⟨x0, x1, x2, x3⟩; dsimp only [Rc.val] at hrun7; have hlast : w7.cell? ⟨wr.heap.size, 0, none⟩ = some (.string x0) ∧ w7.cell? ⟨wr.heap.size, 1, none⟩ = some (.int .i64 x1) ∧ w7.cell? ⟨wr.heap.size, 2, none⟩ = some (.int .i64 x2) ∧ w7.cell? ⟨wr.heap.size, 3, none⟩ = some (.int .i64 x3) := (by
              have hne : some wr.heap.size ≠ some (w.heap.size + 1) := (by have := hM.out.lt; simp; omega)
              have q := HWC.out _ hbr
              exact ⟨hg7.cell q.1 hne, hg7.cell q.2.1 hne, hg7.cell q.2.2.1 hne, hg7.cell q.2.2.2 hne⟩)))
      have HB7 : Hid (Below w.heap.size w w7) := (below_after_of HWB.out hbr).grown hg7 (Nat.le_trans HWB.out.size hbr.size) (fun j hj => by cases hj; omega)
      have HM7 : Hid (MpAt w7 (w.heap.size + 1) (k + 1) (mapTo l (k + 1))) := (by rw [HG.out]; exact hM7 : MpAt w7 (w.heap.size + 1) (k + 1) (mapTo l (k + 1)))
      clear hM7 hg7 hlast HWM HWC hrun7
      go_wp2
      go_roundw
      case rel => exact ⟨k + 1, by omega, by go_num, HB7, HM7⟩
      case measure => simp [intOf]; omega
    · have hkn : k = n := by omega
      subst hkn
      clear hc
      go_wp2
      go_ret
      exact ⟨rfl, hB.out, hM.out⟩
set_option maxRecDepth 100000 in
set_option maxHeartbeats 1000000 in
theorem recordsOf_any (v : Value) (l : Rcl) (w : World) (hv : Rcs w v l) (hok : DirOk l) :
    Calls Tryz.prog 129 #[.agg #[v]] w fun e w' => e = .returned (.map (some (w.heap.size + 1))) ∧ Below w.heap.size w w' ∧ MpAt w' (w.heap.size + 1) l.length (mapTo l l.length) := by
  obtain ⟨a, c, rfl⟩ := hv.shape
  by_cases h0 : 0 < l.length
  · obtain ⟨_, b, off, rfl, hb, hc⟩ := hv.at h0
    exact recordsOf_core b off c l.length l w hok.len hb hok.ok hc
  · have e1 : l = [] := List.eq_nil_of_length_eq_zero (by omega)
    subst e1
    simp only [List.length_nil] at *
    clear hv h0 hok
    have hmm := @run_makeMap Tryz.prog
    have h := MpAt.made (w.alloc (.cells #[.slice a 0 c] 94))
    rw [World.size_alloc] at h
    have HM : Hid (MpAt ((w.alloc (.cells #[.slice a 0 c] 94)).alloc (.map #[] 0)) (w.heap.size + 1) 0 (fun _ => none)) := h
    clear h
    go_enter Tryz.func129, Tryz.ntmps129
    go_wp2
    refine wp_loop_rounds 1 ?_; rw [rounds_succ]
    go_wp2
    go_ret
    exact ⟨rfl, two_new _ _, HM.out⟩
end U
end Go.Proofs.YtihhigmceeabmaaGreat

/- What is answered of a label, by the program. -/
namespace Go.Proofs.YtihhigmceeabmaaGreat
open Go.RowKit Go.Maps
namespace U
/-- The record of a key. -/
def lkO (l : Rcl) (key : Int) : Option Rc := if atI l key = -1 then none else some (rAt l (atI l key).toNat)
theorem lkO_map {l : Rcl} (h : DirOk l) (x : Int) : mapTo l l.length x = lkO l x := by
  rcases mapTo_all h x with ⟨h1, h2⟩ | ⟨j, -, h1, h2, -⟩
  · rw [h2, lkO, if_pos h1]
  · rw [h2, lkO, h1, if_neg (by omega), Int.toNat_natCast]
theorem lkO_key {l : Rcl} {x : Int} {r : Rc} (h : lkO l x = some r) : r.k = x ∧ r ∈ l := by
  unfold lkO at h
  rcases atI_cases l x with ⟨h1, -⟩ | ⟨j, h1, h2, h3⟩
  · rw [if_pos h1] at h; cases h
  · rw [h3, if_neg (by omega), Int.toNat_natCast] at h
    cases h
    exact ⟨h2, rAt_mem h1⟩
/-- .. where it has the label. -/
def fO (o : Option Rc) (t : ByteArray) : Option Rc := o.bind fun r => if (r.l.toList == t.toList) = true then some r else none
theorem fO_yes {r : Rc} {t : ByteArray} (h : (r.l.toList == t.toList) = true) : fO (some r) t = some r := by
  show (if (r.l.toList == t.toList) = true then some r else none) = some r
  rw [if_pos h]
theorem fO_no {r : Rc} {t : ByteArray} (h : (r.l.toList == t.toList) = false) : fO (some r) t = none := by
  show (if (r.l.toList == t.toList) = true then some r else none) = none
  rw [if_neg (by rw [h]; decide)]
def anC (l : Rcl) (s : ByteArray) : Int := if dirF l = 0 then labelP s else dirF l
def anO (l : Rcl) (s : ByteArray) : Option Rc := if anC l s = 0 then fO (lkO l (keyI s)) (foldS s) else none
def anK (l : Rcl) (s : ByteArray) : Int := if anC l s = 0 then keyI s else 0
/-- An answer as a value. -/
def ansV (c k : Int) (o : Option Rc) : Value := .agg #[.int .i64 c, .int .i64 k, .bool o.isSome, .string (o.getD rcZ).l, .int .i64 (o.getD rcZ).v, .int .i64 (o.getD rcZ).o, .int .i64 (o.getD rcZ).p]
theorem seven_cells {w : World} {g : Nat} {x0 x1 x2 x3 x4 x5 x6 : Value} {t : TypeId} (h : w.heap[g]? = some (.cells #[x0, x1, x2, x3, x4, x5, x6] t)) :
    w.cell? ⟨g, 0, none⟩ = some x0 ∧ w.cell? ⟨g, 1, none⟩ = some x1 ∧ w.cell? ⟨g, 2, none⟩ = some x2 ∧ w.cell? ⟨g, 3, none⟩ = some x3 ∧ w.cell? ⟨g, 4, none⟩ = some x4 ∧ w.cell? ⟨g, 5, none⟩ = some x5 ∧ w.cell? ⟨g, 6, none⟩ = some x6 ∧
    w.frozen? ⟨g, 0, none⟩ = false ∧ w.frozen? ⟨g, 1, none⟩ = false ∧ w.frozen? ⟨g, 2, none⟩ = false ∧ w.frozen? ⟨g, 3, none⟩ = false ∧ w.frozen? ⟨g, 4, none⟩ = false ∧ w.frozen? ⟨g, 5, none⟩ = false ∧ w.frozen? ⟨g, 6, none⟩ = false := by
  simp [World.cell?, World.frozen?, h]
theorem set7 {B : Nat} {w w' : World} {g : Nat} (h : Below B w w') (hg : B ≤ g) (a b c d e f k : Value) : Below B w (((((((w'.setCell ⟨g, 0, none⟩ a).setCell ⟨g, 1, none⟩ b).setCell ⟨g, 2, none⟩ c).setCell ⟨g, 3, none⟩ d).setCell ⟨g, 4, none⟩ e).setCell ⟨g, 5, none⟩ f).setCell ⟨g, 6, none⟩ k) :=
  (((((((h.setCell hg _).setCell hg _).setCell hg _).setCell hg _).setCell hg _).setCell hg _).setCell hg _)
theorem two_ints_at2 {w : World} {g : Nat} {a b : Int} {t : TypeId} (hg : g = w.heap.size) : Ints .i64 (w.alloc (.cells #[.int .i64 a, .int .i64 b] t)) (.slice (some ⟨g, 0, none⟩) 2 2) [a, b] := by
  subst hg
  have hh := heap_alloc_new w (.cells #[.int .i64 a, .int .i64 b] t)
  refine Or.inr ⟨w.heap.size, 0, 2, rfl, by simp, fun j hj => ?_⟩
  have hj2 : j < 2 := hj
  rcases (by omega : j = 0 ∨ j = 1) with rfl | rfl <;> (unfold World.cell?; rw [hh]; rfl)
theorem fldTX (x : Int) (s : ByteArray) (w : World) : (Instr.field 184 (.agg #[.int .i64 x, .string s]) 1).run Tryz.prog w = .ok (.string s) w := by kernel_rfl
set_option maxRecDepth 100000 in
set_option maxHeartbeats 2000000 in
theorem implAnswerOf_bad (v : Value) (l : Rcl) (s : ByteArray) (w : World) (hv : Rcs w v l) (hl : Lbs l) (hx : l.length ≤ 1048576) (hs : s.size ≤ 1048576) (q : Int) (hq : (if dirF l = 0 then labelP s else dirF l) = q) (h0 : ¬ q = 0) :
    Calls Tryz.prog 75 #[.agg #[v], .string s] w fun e w' => e = .returned (ansV q 0 none) ∧ Below w.heap.size w w' := by
  have hD := fun w' hb => implDirectoryFault_any v l w' (hv.below (w' := w') hb) hl (by omega)
  have hL := fun w => implLabelFault_any s w hs
  have hO := fun v w hv => cmpOr2 (dirF l) (labelP s) v w hv
  rw [hq] at hO
  have hqn : (q != 0) = true := by simpa using h0
  obtain ⟨a, c, rfl⟩ := hv.shape
  generalize dirF l = x at *
  generalize labelP s = y at *
  generalize l.length = n at *
  obtain ⟨W, hW⟩ : ∃ W, W = (w.alloc (.cells #[.slice a n c] 94)).alloc (.cells #[.int .i64 0, .int .i64 0, .bool false, .string ⟨#[]⟩, .int .i64 0, .int .i64 0, .int .i64 0] 41) := ⟨_, rfl⟩
  have HW : Hid ((w.alloc (.cells #[.slice a n c] 94)).alloc (.cells #[.int .i64 0, .int .i64 0, .bool false, .string ⟨#[]⟩, .int .i64 0, .int .i64 0, .int .i64 0] 41) = W) := hW.symm
  have hB : Below w.heap.size w W := by rw [hW]; exact two_new _ _
  have h1 : W.heap[w.heap.size + 1]? = some (.cells #[.int .i64 0, .int .i64 0, .bool false, .string ⟨#[]⟩, .int .i64 0, .int .i64 0, .int .i64 0] 41) := by rw [hW]; exact heap_new2 w _ _
  clear hW hv hq h0
  go_enter Tryz.func75, Tryz.ntmps75
  go_wp2_with fail
  rw [HW.out]
  refine (hD _ hB).mono ?_
  rintro e w1 ⟨rfl, hb1⟩
  have hB1 := below_after_of hB hb1
  have h1 := (hb1.block _ (Array.getElem?_eq_some_iff.1 h1).1).trans h1
  clear hD hb1 hB
  go_wp2_with fail
  refine (hL _).mono ?_
  rintro e w2 ⟨rfl, hb2⟩
  have hB2 := below_after_of hB1 hb2
  have h1 := (hb2.block _ (Array.getElem?_eq_some_iff.1 h1).1).trans h1
  clear hL hb2 hB1
  go_wp2_with fail
  refine (hO _ _ (two_ints_at2 rfl)).mono ?_
  rintro e w3 ⟨rfl, rfl⟩
  have hB3 : Below w.heap.size w (w2.alloc (.cells #[.int .i64 x, .int .i64 y] 2)) := hB2.alloc hB2.size _
  have h1 := ((one_new (.cells #[.int .i64 x, .int .i64 y] 2)).block _ (Array.getElem?_eq_some_iff.1 h1).1).trans h1
  obtain ⟨W3, hW3⟩ : ∃ W3, W3 = w2.alloc (.cells #[.int .i64 x, .int .i64 y] 2) := ⟨_, rfl⟩
  rw [← hW3] at hB3 h1 ⊢
  obtain ⟨c0, c1, c2, c3, c4, c5, c6, f0, f1, f2, f3, f4, f5, f6⟩ := seven_cells h1
  clear hO hB2 hW3 h1
  go_wp2
  exact bodyPost_ret (v := .agg #[.int .i64 q, .int .i64 0, .bool false, .string ⟨#[]⟩, .int .i64 0, .int .i64 0, .int .i64 0]) (by simp [results, Tryz.results75, go_sem, *]) rfl ⟨rfl, set7 hB3 (Nat.le_succ _) _ _ _ _ _ _ _⟩
theorem box1_cellA {w : World} {b : Nat} {v : Value} {t : TypeId} (h : w.heap[b]? = some (.cells #[v] t (0, 0))) : w.cell? ⟨b, 0, none⟩ = some v := by unfold World.cell?; rw [h]; rfl
set_option maxRecDepth 100000 in
set_option maxHeartbeats 4000000 in
theorem implAnswerOf_none (v : Value) (l : Rcl) (s : ByteArray) (w : World) (hv : Rcs w v l) (hl : Lbs l) (hx : l.length ≤ 1048576) (hs : s.size ≤ 1048576) (h0 : dirF l = 0) (hs0 : labelP s = 0) (ho : lkO l (keyI s) = none) :
    Calls Tryz.prog 75 #[.agg #[v], .string s] w fun e w' => e = .returned (ansV 0 (keyI s) none) ∧ Below w.heap.size w w' := by
  have hD := fun w' hb => implDirectoryFault_any v l w' (hv.below (w' := w') hb) hl (by omega)
  have hL := fun w => implLabelFault_any s w hs
  have hO := fun v w hv => cmpOr2 (dirF l) (labelP s) v w hv
  have hK := fun w => implKeyOf_any s w hs
  have hR := fun w' hb => recordsOf_any v l w' (hv.below (w' := w') hb) (dirOk h0)
  have hkb := keyI_bd s
  have hFd := fun w => implFoldLabel_any s w hs
  have hfs : foldP s = foldS s := by unfold foldP; rw [if_pos hs0]
  rw [hs0, hfs] at hFd
  rw [keyV_ok hs0, hs0] at hK
  rw [h0] at hD
  rw [hs0] at hL
  rw [h0, hs0, if_pos rfl] at hO
  have hLk : ∀ w b n, MpAt w b n (mapTo l l.length) → (Instr.lookup 207 (.map (some b)) (.int .i64 (keyI s)) true).run Tryz.prog w = .ok (.tuple #[valO (mapTo l l.length (keyI s)), .bool (mapTo l l.length (keyI s)).isSome]) w := fun w b n h => h.look hkb
  rw [lkO_map (dirOk h0), ho] at hLk
  have hf1 := field_IR1k
  have hf2 := fldTX
  obtain ⟨a, c, rfl⟩ := hv.shape
  generalize keyI s = kz at *
  generalize foldS s = t at *
  generalize mapTo l l.length = g at *
  generalize l.length = n at *
  obtain ⟨W, hW⟩ : ∃ W, W = (w.alloc (.cells #[.slice a n c] 94)).alloc (.cells #[.int .i64 0, .int .i64 0, .bool false, .string ⟨#[]⟩, .int .i64 0, .int .i64 0, .int .i64 0] 41) := ⟨_, rfl⟩
  have HW : Hid ((w.alloc (.cells #[.slice a n c] 94)).alloc (.cells #[.int .i64 0, .int .i64 0, .bool false, .string ⟨#[]⟩, .int .i64 0, .int .i64 0, .int .i64 0] 41) = W) := hW.symm
  have hB : Below w.heap.size w W := by rw [hW]; exact two_new _ _
  have h1 : W.heap[w.heap.size + 1]? = some (.cells #[.int .i64 0, .int .i64 0, .bool false, .string ⟨#[]⟩, .int .i64 0, .int .i64 0, .int .i64 0] 41) := by rw [hW]; exact heap_new2 w _ _
  have h2 : W.heap[w.heap.size]? = some (.cells #[.slice a n c] 94) := by rw [hW]; exact heap_alloc_old' _ _ _ (heap_alloc_new w _)
  clear hW hv h0 hs0 ho hfs
  go_enter Tryz.func75, Tryz.ntmps75
  go_wp2_with fail
  rw [HW.out]
  refine (hD _ hB).mono ?_
  rintro e w1 ⟨rfl, hb1⟩
  have hB1 := below_after_of hB hb1
  have h1 := (hb1.block _ (Array.getElem?_eq_some_iff.1 h1).1).trans h1
  have h2 := (hb1.block _ (Array.getElem?_eq_some_iff.1 h2).1).trans h2
  clear hD hb1 hB
  go_wp2_with fail
  refine (hL _).mono ?_
  rintro e w2 ⟨rfl, hb2⟩
  have hB2 := below_after_of hB1 hb2
  have h1 := (hb2.block _ (Array.getElem?_eq_some_iff.1 h1).1).trans h1
  have h2 := (hb2.block _ (Array.getElem?_eq_some_iff.1 h2).1).trans h2
  clear hL hb2 hB1
  go_wp2_with fail
  refine (hO _ _ (two_ints_at2 rfl)).mono ?_
  rintro e w3 ⟨rfl, rfl⟩
  have hB3 : Below w.heap.size w (w2.alloc (.cells #[.int .i64 0, .int .i64 0] 2)) := hB2.alloc hB2.size _
  have h1 := ((one_new (.cells #[.int .i64 0, .int .i64 0] 2)).block _ (Array.getElem?_eq_some_iff.1 h1).1).trans h1
  have h2 := ((one_new (.cells #[.int .i64 0, .int .i64 0] 2)).block _ (Array.getElem?_eq_some_iff.1 h2).1).trans h2
  obtain ⟨W3, hW3⟩ : ∃ W3, W3 = w2.alloc (.cells #[.int .i64 0, .int .i64 0] 2) := ⟨_, rfl⟩
  rw [← hW3] at hB3 h1 h2 ⊢
  clear hO hB2 hW3
  go_wp2_with fail
  refine (hK _).mono ?_
  rintro e w4 ⟨rfl, hb4⟩
  have hB4 := below_after_of hB3 hb4
  have h1 := (hb4.block _ (Array.getElem?_eq_some_iff.1 h1).1).trans h1
  have h2 := (hb4.block _ (Array.getElem?_eq_some_iff.1 h2).1).trans h2
  have k2 := box1_cellA h2
  clear hK hb4 hB3
  go_wp2_with fail
  refine (hR _ hB4).mono ?_
  rintro e w5 ⟨rfl, hb5, hM5⟩
  have hB5 := below_after_of hB4 hb5
  have h1 := (hb5.block _ (Array.getElem?_eq_some_iff.1 h1).1).trans h1
  have hlk := hLk _ _ _ hM5
  unfold valO at hlk
  dsimp only [Option.getD, Option.isSome, Rc.val, rcZ] at hlk
  have A5 := heap_alloc_new w5 (.cells #[.string ⟨#[]⟩, .int .i64 0, .int .i64 0, .int .i64 0] 37)
  clear hR hb5 hB4 hM5 hLk k2 hFd hf2
  have hB6 : Below w.heap.size w (w5.alloc (.cells #[.string ⟨#[]⟩, .int .i64 0, .int .i64 0, .int .i64 0] 37)) := hB5.alloc hB5.size _
  have h1 := ((one_new (.cells #[.string ⟨#[]⟩, .int .i64 0, .int .i64 0, .int .i64 0] 37)).block _ (Array.getElem?_eq_some_iff.1 h1).1).trans h1
  go_wp2
  go_quiet (fail)
  obtain ⟨W6, hW6⟩ : ∃ W6, W6 = w5.alloc (.cells #[.string ⟨#[]⟩, .int .i64 0, .int .i64 0, .int .i64 0] 37) := ⟨_, rfl⟩
  rw [← hW6] at hB6 h1 ⊢
  obtain ⟨c0, c1, c2, c3, c4, c5, c6, f0, f1, f2, f3, f4, f5, f6⟩ := seven_cells h1
  clear hB5 h1 hlk A5 hW6
  go_wp2
  exact bodyPost_ret (v := .agg #[.int .i64 0, .int .i64 kz, .bool false, .string ⟨#[]⟩, .int .i64 0, .int .i64 0, .int .i64 0]) (by simp [results, Tryz.results75, go_sem, *]) rfl ⟨rfl, set7 (below_drewN hB6 _) (Nat.le_succ _) _ _ _ _ _ _ _⟩
set_option maxRecDepth 100000 in
set_option maxHeartbeats 4000000 in
theorem implAnswerOf_yes (v : Value) (l : Rcl) (s : ByteArray) (w : World) (hv : Rcs w v l) (hl : Lbs l) (hx : l.length ≤ 1048576) (hs : s.size ≤ 1048576) (h0 : dirF l = 0) (hs0 : labelP s = 0) (x0 : ByteArray) (x1 x2 x3 : Int) (ho : lkO l (keyI s) = some ⟨x0, x1, x2, x3⟩) (hb : (x0.toList == (foldS s).toList) = true) :
    Calls Tryz.prog 75 #[.agg #[v], .string s] w fun e w' => e = .returned (ansV 0 (keyI s) (some ⟨x0, x1, x2, x3⟩)) ∧ Below w.heap.size w w' := by
  have hD := fun w' hb => implDirectoryFault_any v l w' (hv.below (w' := w') hb) hl (by omega)
  have hL := fun w => implLabelFault_any s w hs
  have hO := fun v w hv => cmpOr2 (dirF l) (labelP s) v w hv
  have hK := fun w => implKeyOf_any s w hs
  have hR := fun w' hb => recordsOf_any v l w' (hv.below (w' := w') hb) (dirOk h0)
  have hkb := keyI_bd s
  have hFd := fun w => implFoldLabel_any s w hs
  have hfs : foldP s = foldS s := by unfold foldP; rw [if_pos hs0]
  rw [hs0, hfs] at hFd
  rw [keyV_ok hs0, hs0] at hK
  rw [h0] at hD
  rw [hs0] at hL
  rw [h0, hs0, if_pos rfl] at hO
  have hLk : ∀ w b n, MpAt w b n (mapTo l l.length) → (Instr.lookup 207 (.map (some b)) (.int .i64 (keyI s)) true).run Tryz.prog w = .ok (.tuple #[valO (mapTo l l.length (keyI s)), .bool (mapTo l l.length (keyI s)).isSome]) w := fun w b n h => h.look hkb
  rw [lkO_map (dirOk h0), ho] at hLk
  have hf1 := field_IR1k
  have hf2 := fldTX
  obtain ⟨a, c, rfl⟩ := hv.shape
  generalize keyI s = kz at *
  generalize foldS s = t at *
  generalize mapTo l l.length = g at *
  generalize l.length = n at *
  obtain ⟨W, hW⟩ : ∃ W, W = (w.alloc (.cells #[.slice a n c] 94)).alloc (.cells #[.int .i64 0, .int .i64 0, .bool false, .string ⟨#[]⟩, .int .i64 0, .int .i64 0, .int .i64 0] 41) := ⟨_, rfl⟩
  have HW : Hid ((w.alloc (.cells #[.slice a n c] 94)).alloc (.cells #[.int .i64 0, .int .i64 0, .bool false, .string ⟨#[]⟩, .int .i64 0, .int .i64 0, .int .i64 0] 41) = W) := hW.symm
  have hB : Below w.heap.size w W := by rw [hW]; exact two_new _ _
  have h1 : W.heap[w.heap.size + 1]? = some (.cells #[.int .i64 0, .int .i64 0, .bool false, .string ⟨#[]⟩, .int .i64 0, .int .i64 0, .int .i64 0] 41) := by rw [hW]; exact heap_new2 w _ _
  have h2 : W.heap[w.heap.size]? = some (.cells #[.slice a n c] 94) := by rw [hW]; exact heap_alloc_old' _ _ _ (heap_alloc_new w _)
  clear hW hv h0 hs0 ho hfs
  go_enter Tryz.func75, Tryz.ntmps75
  go_wp2_with fail
  rw [HW.out]
  refine (hD _ hB).mono ?_
  rintro e w1 ⟨rfl, hb1⟩
  have hB1 := below_after_of hB hb1
  have h1 := (hb1.block _ (Array.getElem?_eq_some_iff.1 h1).1).trans h1
  have h2 := (hb1.block _ (Array.getElem?_eq_some_iff.1 h2).1).trans h2
  clear hD hb1 hB
  go_wp2_with fail
  refine (hL _).mono ?_
  rintro e w2 ⟨rfl, hb2⟩
  have hB2 := below_after_of hB1 hb2
  have h1 := (hb2.block _ (Array.getElem?_eq_some_iff.1 h1).1).trans h1
  have h2 := (hb2.block _ (Array.getElem?_eq_some_iff.1 h2).1).trans h2
  clear hL hb2 hB1
  go_wp2_with fail
  refine (hO _ _ (two_ints_at2 rfl)).mono ?_
  rintro e w3 ⟨rfl, rfl⟩
  have hB3 : Below w.heap.size w (w2.alloc (.cells #[.int .i64 0, .int .i64 0] 2)) := hB2.alloc hB2.size _
  have h1 := ((one_new (.cells #[.int .i64 0, .int .i64 0] 2)).block _ (Array.getElem?_eq_some_iff.1 h1).1).trans h1
  have h2 := ((one_new (.cells #[.int .i64 0, .int .i64 0] 2)).block _ (Array.getElem?_eq_some_iff.1 h2).1).trans h2
  obtain ⟨W3, hW3⟩ : ∃ W3, W3 = w2.alloc (.cells #[.int .i64 0, .int .i64 0] 2) := ⟨_, rfl⟩
  rw [← hW3] at hB3 h1 h2 ⊢
  clear hO hB2 hW3
  go_wp2_with fail
  refine (hK _).mono ?_
  rintro e w4 ⟨rfl, hb4⟩
  have hB4 := below_after_of hB3 hb4
  have h1 := (hb4.block _ (Array.getElem?_eq_some_iff.1 h1).1).trans h1
  have h2 := (hb4.block _ (Array.getElem?_eq_some_iff.1 h2).1).trans h2
  have k2 := box1_cellA h2
  clear hK hb4 hB3
  go_wp2_with fail
  refine (hR _ hB4).mono ?_
  rintro e w5 ⟨rfl, hb5, hM5⟩
  have hB5 := below_after_of hB4 hb5
  have h1 := (hb5.block _ (Array.getElem?_eq_some_iff.1 h1).1).trans h1
  have hlk := hLk _ _ _ hM5
  unfold valO at hlk
  dsimp only [Option.getD, Option.isSome, Rc.val] at hlk
  have hB6 : Below w.heap.size w (w5.alloc (.cells #[.string x0, .int .i64 x1, .int .i64 x2, .int .i64 x3] 37)) := hB5.alloc hB5.size _
  have A6 := heap_alloc_new w5 (.cells #[.string x0, .int .i64 x1, .int .i64 x2, .int .i64 x3] 37)
  have h1 := ((one_new (.cells #[.string x0, .int .i64 x1, .int .i64 x2, .int .i64 x3] 37)).block _ (Array.getElem?_eq_some_iff.1 h1).1).trans h1
  obtain ⟨W6, hW6⟩ : ∃ W6, W6 = w5.alloc (.cells #[.string x0, .int .i64 x1, .int .i64 x2, .int .i64 x3] 37) := ⟨_, rfl⟩
  have HW6 : Hid (w5.alloc (.cells #[.string x0, .int .i64 x1, .int .i64 x2, .int .i64 x3] 37) = W6) := hW6.symm
  rw [← hW6] at hB6 h1 A6
  clear hR hb5 hB4 hM5 hLk k2 hB5 hW6
  obtain ⟨r0, r1, r2, r3⟩ := four_cellsV A6
  have q0 := After.cell r0
  have hne := After.ne W6
  go_wp2_with fail
  rw [HW6.out]
  refine wp_region_after (by kernel_rfl) (by kernel_rfl) ?_
  repeat (first | go_big_quiet_skip | (go_big_quiet_want; go_big_quiet_op; first | go_big_quiet_on | go_big_quiet_call (first | (go_at_call 110; refine (hFd _).mono ?_; rintro e wq ⟨rfl, hbq⟩; exact ⟨rfl, after_mk (below_after_of (After.b _) hbq)⟩))))
  refine wpQuiet_nil ?_
  rintro _ ⟨n6, rfl⟩
  have hb7 := n6.b
  have hB7 := below_after_of hB6 hb7
  have h1 := (hb7.block _ (Array.getElem?_eq_some_iff.1 h1).1).trans h1
  have A7 := (hb7.block _ (Array.getElem?_eq_some_iff.1 A6).1).trans A6
  generalize n6.w = w7 at *
  obtain ⟨c0, c1, c2, c3, c4, c5, c6, f0, f1, f2, f3, f4, f5, f6⟩ := seven_cells h1
  obtain ⟨r0, r1, r2, r3⟩ := four_cellsV A7
  have hlt7 := (Array.getElem?_eq_some_iff.1 A7).1
  clear h1 A6 A7 hb7 hne q0 n6 hB6 hlk hFd
  go_wp2
  exact bodyPost_ret (v := .agg #[.int .i64 0, .int .i64 kz, .bool true, .string x0, .int .i64 x1, .int .i64 x2, .int .i64 x3]) (by simp [results, Tryz.results75, go_sem, *]) rfl ⟨rfl, set7 hB7 (Nat.le_succ _) _ _ _ _ _ _ _⟩
set_option maxRecDepth 100000 in
set_option maxHeartbeats 4000000 in
theorem implAnswerOf_not (v : Value) (l : Rcl) (s : ByteArray) (w : World) (hv : Rcs w v l) (hl : Lbs l) (hx : l.length ≤ 1048576) (hs : s.size ≤ 1048576) (h0 : dirF l = 0) (hs0 : labelP s = 0) (x0 : ByteArray) (x1 x2 x3 : Int) (ho : lkO l (keyI s) = some ⟨x0, x1, x2, x3⟩) (hb : (x0.toList == (foldS s).toList) = false) :
    Calls Tryz.prog 75 #[.agg #[v], .string s] w fun e w' => e = .returned (ansV 0 (keyI s) none) ∧ Below w.heap.size w w' := by
  have hD := fun w' hb => implDirectoryFault_any v l w' (hv.below (w' := w') hb) hl (by omega)
  have hL := fun w => implLabelFault_any s w hs
  have hO := fun v w hv => cmpOr2 (dirF l) (labelP s) v w hv
  have hK := fun w => implKeyOf_any s w hs
  have hR := fun w' hb => recordsOf_any v l w' (hv.below (w' := w') hb) (dirOk h0)
  have hkb := keyI_bd s
  have hFd := fun w => implFoldLabel_any s w hs
  have hfs : foldP s = foldS s := by unfold foldP; rw [if_pos hs0]
  rw [hs0, hfs] at hFd
  rw [keyV_ok hs0, hs0] at hK
  rw [h0] at hD
  rw [hs0] at hL
  rw [h0, hs0, if_pos rfl] at hO
  have hLk : ∀ w b n, MpAt w b n (mapTo l l.length) → (Instr.lookup 207 (.map (some b)) (.int .i64 (keyI s)) true).run Tryz.prog w = .ok (.tuple #[valO (mapTo l l.length (keyI s)), .bool (mapTo l l.length (keyI s)).isSome]) w := fun w b n h => h.look hkb
  rw [lkO_map (dirOk h0), ho] at hLk
  have hf1 := field_IR1k
  have hf2 := fldTX
  obtain ⟨a, c, rfl⟩ := hv.shape
  generalize keyI s = kz at *
  generalize foldS s = t at *
  generalize mapTo l l.length = g at *
  generalize l.length = n at *
  obtain ⟨W, hW⟩ : ∃ W, W = (w.alloc (.cells #[.slice a n c] 94)).alloc (.cells #[.int .i64 0, .int .i64 0, .bool false, .string ⟨#[]⟩, .int .i64 0, .int .i64 0, .int .i64 0] 41) := ⟨_, rfl⟩
  have HW : Hid ((w.alloc (.cells #[.slice a n c] 94)).alloc (.cells #[.int .i64 0, .int .i64 0, .bool false, .string ⟨#[]⟩, .int .i64 0, .int .i64 0, .int .i64 0] 41) = W) := hW.symm
  have hB : Below w.heap.size w W := by rw [hW]; exact two_new _ _
  have h1 : W.heap[w.heap.size + 1]? = some (.cells #[.int .i64 0, .int .i64 0, .bool false, .string ⟨#[]⟩, .int .i64 0, .int .i64 0, .int .i64 0] 41) := by rw [hW]; exact heap_new2 w _ _
  have h2 : W.heap[w.heap.size]? = some (.cells #[.slice a n c] 94) := by rw [hW]; exact heap_alloc_old' _ _ _ (heap_alloc_new w _)
  clear hW hv h0 hs0 ho hfs
  go_enter Tryz.func75, Tryz.ntmps75
  go_wp2_with fail
  rw [HW.out]
  refine (hD _ hB).mono ?_
  rintro e w1 ⟨rfl, hb1⟩
  have hB1 := below_after_of hB hb1
  have h1 := (hb1.block _ (Array.getElem?_eq_some_iff.1 h1).1).trans h1
  have h2 := (hb1.block _ (Array.getElem?_eq_some_iff.1 h2).1).trans h2
  clear hD hb1 hB
  go_wp2_with fail
  refine (hL _).mono ?_
  rintro e w2 ⟨rfl, hb2⟩
  have hB2 := below_after_of hB1 hb2
  have h1 := (hb2.block _ (Array.getElem?_eq_some_iff.1 h1).1).trans h1
  have h2 := (hb2.block _ (Array.getElem?_eq_some_iff.1 h2).1).trans h2
  clear hL hb2 hB1
  go_wp2_with fail
  refine (hO _ _ (two_ints_at2 rfl)).mono ?_
  rintro e w3 ⟨rfl, rfl⟩
  have hB3 : Below w.heap.size w (w2.alloc (.cells #[.int .i64 0, .int .i64 0] 2)) := hB2.alloc hB2.size _
  have h1 := ((one_new (.cells #[.int .i64 0, .int .i64 0] 2)).block _ (Array.getElem?_eq_some_iff.1 h1).1).trans h1
  have h2 := ((one_new (.cells #[.int .i64 0, .int .i64 0] 2)).block _ (Array.getElem?_eq_some_iff.1 h2).1).trans h2
  obtain ⟨W3, hW3⟩ : ∃ W3, W3 = w2.alloc (.cells #[.int .i64 0, .int .i64 0] 2) := ⟨_, rfl⟩
  rw [← hW3] at hB3 h1 h2 ⊢
  clear hO hB2 hW3
  go_wp2_with fail
  refine (hK _).mono ?_
  rintro e w4 ⟨rfl, hb4⟩
  have hB4 := below_after_of hB3 hb4
  have h1 := (hb4.block _ (Array.getElem?_eq_some_iff.1 h1).1).trans h1
  have h2 := (hb4.block _ (Array.getElem?_eq_some_iff.1 h2).1).trans h2
  have k2 := box1_cellA h2
  clear hK hb4 hB3
  go_wp2_with fail
  refine (hR _ hB4).mono ?_
  rintro e w5 ⟨rfl, hb5, hM5⟩
  have hB5 := below_after_of hB4 hb5
  have h1 := (hb5.block _ (Array.getElem?_eq_some_iff.1 h1).1).trans h1
  have hlk := hLk _ _ _ hM5
  unfold valO at hlk
  dsimp only [Option.getD, Option.isSome, Rc.val] at hlk
  have hB6 : Below w.heap.size w (w5.alloc (.cells #[.string x0, .int .i64 x1, .int .i64 x2, .int .i64 x3] 37)) := hB5.alloc hB5.size _
  have A6 := heap_alloc_new w5 (.cells #[.string x0, .int .i64 x1, .int .i64 x2, .int .i64 x3] 37)
  have h1 := ((one_new (.cells #[.string x0, .int .i64 x1, .int .i64 x2, .int .i64 x3] 37)).block _ (Array.getElem?_eq_some_iff.1 h1).1).trans h1
  obtain ⟨W6, hW6⟩ : ∃ W6, W6 = w5.alloc (.cells #[.string x0, .int .i64 x1, .int .i64 x2, .int .i64 x3] 37) := ⟨_, rfl⟩
  have HW6 : Hid (w5.alloc (.cells #[.string x0, .int .i64 x1, .int .i64 x2, .int .i64 x3] 37) = W6) := hW6.symm
  rw [← hW6] at hB6 h1 A6
  clear hR hb5 hB4 hM5 hLk k2 hB5 hW6
  obtain ⟨r0, r1, r2, r3⟩ := four_cellsV A6
  have q0 := After.cell r0
  have hne := After.ne W6
  go_wp2_with fail
  rw [HW6.out]
  refine wp_region_after (by kernel_rfl) (by kernel_rfl) ?_
  repeat (first | go_big_quiet_skip | (go_big_quiet_want; go_big_quiet_op; first | go_big_quiet_on | go_big_quiet_call (first | (go_at_call 110; refine (hFd _).mono ?_; rintro e wq ⟨rfl, hbq⟩; exact ⟨rfl, after_mk (below_after_of (After.b _) hbq)⟩))))
  refine wpQuiet_nil ?_
  rintro _ ⟨n6, rfl⟩
  have hb7 := n6.b
  have hB7 := below_after_of hB6 hb7
  have h1 := (hb7.block _ (Array.getElem?_eq_some_iff.1 h1).1).trans h1
  generalize n6.w = w7 at *
  obtain ⟨c0, c1, c2, c3, c4, c5, c6, f0, f1, f2, f3, f4, f5, f6⟩ := seven_cells h1
  clear h1 A6 hb7 hne q0 n6 hB6 hlk hFd
  go_wp2
  exact bodyPost_ret (v := .agg #[.int .i64 0, .int .i64 kz, .bool false, .string ⟨#[]⟩, .int .i64 0, .int .i64 0, .int .i64 0]) (by simp [results, Tryz.results75, go_sem, *]) rfl ⟨rfl, set7 hB7 (Nat.le_succ _) _ _ _ _ _ _ _⟩
theorem implAnswerOf_any (v : Value) (l : Rcl) (s : ByteArray) (w : World) (hv : Rcs w v l) (hl : Lbs l) (hx : l.length ≤ 1048576) (hs : s.size ≤ 1048576) :
    Calls Tryz.prog 75 #[.agg #[v], .string s] w fun e w' => e = .returned (ansV (anC l s) (anK l s) (anO l s)) ∧ Below w.heap.size w w' := by
  by_cases h : anC l s = 0
  · have h0 : dirF l = 0 := by
      unfold anC at h
      by_cases h1 : dirF l = 0
      · exact h1
      · rw [if_neg h1] at h; exact absurd h h1
    have hs0 : labelP s = 0 := by unfold anC at h; rwa [if_pos h0] at h
    rw [h, anK, anO, if_pos h, if_pos h]
    rcases ho : lkO l (keyI s) with _ | ⟨x0, x1, x2, x3⟩
    · exact implAnswerOf_none v l s w hv hl hx hs h0 hs0 ho
    · rcases Bool.eq_false_or_eq_true (x0.toList == (foldS s).toList) with hb | hb
      · rw [fO_yes (r := ⟨x0, x1, x2, x3⟩) hb]
        exact implAnswerOf_yes v l s w hv hl hx hs h0 hs0 x0 x1 x2 x3 ho hb
      · rw [fO_no (r := ⟨x0, x1, x2, x3⟩) hb]
        exact implAnswerOf_not v l s w hv hl hx hs h0 hs0 x0 x1 x2 x3 ho hb
  · rw [anK, anO, if_neg h, if_neg h]
    exact implAnswerOf_bad v l s w hv hl hx hs _ rfl h
end U
end Go.Proofs.YtihhigmceeabmaaGreat

/- What is answered of a label, by the model. -/
namespace Go.Proofs.YtihhigmceeabmaaGreat
open Go.RowKit Go.Maps
namespace U
set_option maxRecDepth 100000 in
set_option maxHeartbeats 2000000 in
theorem l9At_core (g og b off c n : Nat) (l : Rcl) (key : Int) (w : World) (hn : n ≤ 12) (hg : g < w.heap.size) (hb : b < w.heap.size) (hsm : ∀ j, j < n → (rAt l j).l.size ≤ 12)
    (hD : w.cell? ⟨g, og, none⟩ = some (.slice (some ⟨b, off, none⟩) n c)) (hc : ∀ j, j < n → RecS w b (off + j * 4) (rAt l j)) :
    Calls Tryz.prog 198 #[.pointer (some ⟨g, og, none⟩), .int .i64 key] w fun e w' => e = .returned (.int .i64 (atK l key n 0)) ∧ Below w.heap.size w w' := by
  obtain ⟨q, hq⟩ : ∃ q, q = atK l key n 0 := ⟨_, rfl⟩
  have HQ : Hid (atK l key n 0 = q) := hq.symm
  rw [← hq]
  clear hq
  have HD : Hid (∀ w', Below w.heap.size w w' → w'.cell? ⟨g, og, none⟩ = some (.slice (some ⟨b, off, none⟩) n c)) := fun w' h => (h.cell (p := ⟨g, og, none⟩) hg).trans hD
  go_enter Tryz.func198, Tryz.ntmps198
  go_wp2
  go_loopw [5] (fun i wr => ∃ k : Nat, k ≤ n ∧ i = .int .i64 k ∧ Hid (Below w.heap.size w wr) ∧ Hid (atK l key (n - k) k = q)) (fun i _ => n - (intOf i).toNat)
  case atStart => exact ⟨0, Nat.zero_le _, rfl, Below.refl _ _, HQ⟩
  case round =>
    obtain ⟨k, hk, rfl, hB, HS⟩ := hrel
    have hDk := HD.out _ hB.out
    by_cases hkn : k < n
    · have hki : (k : Int) < (n : Int) := by omega
      have d0 := ((hc k hkn).below hB.out hb).c0
      have hK := fun w => l2Key_any (rAt l k).l w (hsm k hkn)
      have e2 : keyI (rAt l k).l = (rAt l k).k := rfl
      rw [e2] at hK
      have HSN : Hid (n - k = (n - k - 1) + 1) := (by omega : n - k = (n - k - 1) + 1)
      have HH : Hid ((rAt l k).k = key → q = k) := (fun h => by rw [← HS.out, HSN.out]; exact atK_hit h : (rAt l k).k = key → q = k)
      have HM : Hid (¬ (rAt l k).k = key → atK l key (n - k - 1) (k + 1) = q) := (fun h => by rw [← HS.out, HSN.out]; exact (atK_miss h).symm : ¬ (rAt l k).k = key → atK l key (n - k - 1) (k + 1) = q)
      generalize (rAt l k).k = kz at *
      generalize (rAt l k).l = x0 at *
      clear hc e2 hsm
      by_cases hkk : kz = key
      · subst hkk
        have HQ2 : Hid (q = k) := HH.out rfl
        clear HH HM
        go_wp2_with fail
        refine (hK _).mono ?_
        rintro e w1 ⟨rfl, hb1⟩
        have HB1 : Hid (Below w.heap.size w w1) := below_after_of hB.out hb1
        clear hK hb1
        go_wp2
        go_ret
        exact ⟨ret_int HQ2.out.symm, HB1.out⟩
      · have hbn : (kz == key) = false := by simpa using hkk
        have HQ2 : Hid (atK l key (n - k - 1) (k + 1) = q) := HM.out hkk
        clear HH HM hkk
        go_wp2_with fail
        refine (hK _).mono ?_
        rintro e w1 ⟨rfl, hb1⟩
        have HB1 : Hid (Below w.heap.size w w1) := below_after_of hB.out hb1
        clear hK hb1
        go_wp2
        go_roundw
        case rel => exact ⟨k + 1, by omega, by go_num, HB1, by rw [show n - (k + 1) = n - k - 1 by omega]; exact HQ2⟩
        case measure => simp [intOf]; omega
    · have hkn : k = n := by omega
      subst hkn
      have e0 : Hid (q = -1) := (by rw [← HS.out, Nat.sub_self]; rfl : q = -1)
      clear hc
      go_wp2
      go_ret
      exact ⟨ret_int e0.out.symm, hB.out⟩
set_option maxRecDepth 100000 in
set_option maxHeartbeats 1000000 in
theorem l9At_off (g og : Nat) (v : Value) (l : Rcl) (key : Int) (w : World) (hg : g < w.heap.size) (hD : w.cell? ⟨g, og, none⟩ = some v) (hv : Rcs w v l) (hok : DirOk l) :
    Calls Tryz.prog 198 #[.pointer (some ⟨g, og, none⟩), .int .i64 key] w fun e w' => e = .returned (.int .i64 (atI l key)) ∧ Below w.heap.size w w' := by
  obtain ⟨a, c, rfl⟩ := hv.shape
  by_cases h0 : 0 < l.length
  · obtain ⟨_, b, off, rfl, hb, hc⟩ := hv.at h0
    exact l9At_core g og b off c l.length l key w hok.len hg hb (fun j hj => Rc.small_of (hok.ok j hj)) hD hc
  · have e1 : l = [] := List.eq_nil_of_length_eq_zero (by omega)
    subst e1
    have e2 : atI [] key = -1 := rfl
    rw [e2]
    simp only [List.length_nil] at *
    clear hv h0 hok e2
    go_enter Tryz.func198, Tryz.ntmps198
    go_wp2
    refine wp_loop_rounds 1 ?_; rw [rounds_succ]
    go_wp2
    go_ret
    exact ⟨rfl, Below.refl _ _⟩
/-- What the model looks up: a record and whether it is there. -/
def lkV (o : Option Rc) : Value := .tuple #[(o.getD rcZ).val, .bool o.isSome]
set_option maxRecDepth 100000 in
set_option maxHeartbeats 4000000 in
theorem l9Look_none (g og : Nat) (v : Value) (l : Rcl) (s : ByteArray) (w : World) (hg : g < w.heap.size) (hD : w.cell? ⟨g, og, none⟩ = some v) (hv : Rcs w v l) (hok : DirOk l) (hs : s.size ≤ 12) (ho : atI l (keyI s) = -1) :
    Calls Tryz.prog 156 #[.pointer (some ⟨g, og, none⟩), .string s] w fun e w' => e = .returned (.tuple #[.agg #[.string ⟨#[]⟩, .int .i64 0, .int .i64 0, .int .i64 0], .bool false]) ∧ Below w.heap.size w w' := by
  have hK := fun w => l2Key_any s w hs
  have hA := fun w' (h : Below w.heap.size w w') => l9At_off g og v l (keyI s) w' (Nat.lt_of_lt_of_le hg h.size) ((h.cell (p := ⟨g, og, none⟩) hg).trans hD) (hv.below h) hok
  rw [ho] at hA
  generalize keyI s = kz at *
  clear hv ho
  go_enter Tryz.func156, Tryz.ntmps156
  go_wp2_with fail
  refine (hK _).mono ?_
  rintro e w1 ⟨rfl, hb1⟩
  have hB1 := below_after hb1
  have A1 := (hb1.block _ (by simp)).trans (heap_alloc_new w (.cells #[.string ⟨#[]⟩, .int .i64 0, .int .i64 0, .int .i64 0] 37))
  clear hK hb1
  go_wp2_with fail
  refine (hA _ hB1).mono ?_
  rintro e w2 ⟨rfl, hb2⟩
  have hB2 := below_after_of hB1 hb2
  have A2 := (hb2.block _ (Array.getElem?_eq_some_iff.1 A1).1).trans A1
  clear hA hb2 A1 hB1
  go_wp2
  go_quiet (fail)
  obtain ⟨k0, k1, k2, k3, f0, f1, f2, f3⟩ := blk4 A2
  clear A2
  go_wp2
  refine bodyPost_ret (v := .tuple #[.agg #[.string ⟨#[]⟩, .int .i64 0, .int .i64 0, .int .i64 0], .bool false]) (by simp [results, Tryz.results156, go_sem, *]) rfl ⟨rfl, ?_⟩
  exact (((((below_drewN hB2 _).setCell (Nat.le_refl _) _).setCell (Nat.le_refl _) _).setCell (Nat.le_refl _) _).setCell (Nat.le_refl _) _)
set_option maxRecDepth 100000 in
set_option maxHeartbeats 4000000 in
theorem l9Look_at (g og b off c n j : Nat) (s x0 : ByteArray) (x1 x2 x3 : Int) (w : World) (hg : g < w.heap.size) (hD : w.cell? ⟨g, og, none⟩ = some (.slice (some ⟨b, off, none⟩) n c)) (hj : j < n) (hb : b < w.heap.size) (hr : RecS w b (off + j * 4) ⟨x0, x1, x2, x3⟩) (hs : s.size ≤ 12) (f : Bool) (hf : (x0.toList == (foldS s).toList) = f)
    (hA : ∀ w', Below w.heap.size w w' → Calls Tryz.prog 198 #[.pointer (some ⟨g, og, none⟩), .int .i64 (keyI s)] w' fun e w'' => e = .returned (.int .i64 (j : Int)) ∧ Below w'.heap.size w' w'') :
    Calls Tryz.prog 156 #[.pointer (some ⟨g, og, none⟩), .string s] w fun e w' => e = .returned (lkV (if f then some ⟨x0, x1, x2, x3⟩ else none)) ∧ Below w.heap.size w w' := by
  have hK := fun w => l2Key_any s w hs
  have hF := fun w => l1Fold_any s w hs
  generalize keyI s = kz at *
  generalize foldS s = t at *
  have HR : Hid (∀ w', Below w.heap.size w w' → w'.cell? ⟨b, off + j * 4, none⟩ = some (.string x0) ∧ w'.cell? ⟨b, off + j * 4 + 1, none⟩ = some (.int .i64 x1) ∧ w'.cell? ⟨b, off + j * 4 + 2, none⟩ = some (.int .i64 x2) ∧ w'.cell? ⟨b, off + j * 4 + 3, none⟩ = some (.int .i64 x3) ∧ w'.cell? ⟨g, og, none⟩ = some (.slice (some ⟨b, off, none⟩) n c)) := fun w' h => ⟨(hr.below h hb).c0, (hr.below h hb).c1, (hr.below h hb).c2, (hr.below h hb).c3, (h.cell (p := ⟨g, og, none⟩) hg).trans hD⟩
  have hji : (j : Int) < (n : Int) := by omega
  have hj0 : decide ((j : Int) < 0) = false := by simp
  clear hr
  cases f
  · show Calls Tryz.prog 156 _ w fun e w' => e = .returned (.tuple #[.agg #[.string ⟨#[]⟩, .int .i64 0, .int .i64 0, .int .i64 0], .bool false]) ∧ Below w.heap.size w w'
    go_enter Tryz.func156, Tryz.ntmps156
    go_wp2_with fail
    refine (hK _).mono ?_
    rintro e w1 ⟨rfl, hb1⟩
    have hB1 := below_after hb1
    have A1 := (hb1.block _ (by simp)).trans (heap_alloc_new w (.cells #[.string ⟨#[]⟩, .int .i64 0, .int .i64 0, .int .i64 0] 37))
    clear hK hb1
    go_wp2_with fail
    refine (hA _ hB1).mono ?_
    rintro e w2 ⟨rfl, hb2⟩
    have hB2 := below_after_of hB1 hb2
    have A2 := (hb2.block _ (Array.getElem?_eq_some_iff.1 A1).1).trans A1
    obtain ⟨d0, d1, d2, d3, d4⟩ := HR.out _ hB2
    have q0 := After.cell d0
    have q4 := After.cell d4
    have hne := After.ne w2
    clear hA hb2 A1 hB1
    go_wp2_with fail
    refine wp_region_after (by kernel_rfl) (by kernel_rfl) ?_
    repeat (first | go_big_quiet_skip | (go_big_quiet_want; go_big_quiet_op; first | go_big_quiet_on | go_big_quiet_call (first | (go_at_call 44; refine (hF _).mono ?_; rintro e wq ⟨rfl, hbq⟩; exact ⟨rfl, after_mk (below_after_of (After.b _) hbq)⟩))))
    refine wpQuiet_nil ?_
    rintro _ ⟨n6, rfl⟩
    have hb7 := n6.b
    have hB7 := below_after_of hB2 hb7
    have A7 := (hb7.block _ (Array.getElem?_eq_some_iff.1 A2).1).trans A2
    generalize n6.w = w7 at *
    obtain ⟨k0, k1, k2, k3, f0, f1, f2, f3⟩ := blk4 A7
    clear A2 A7 hb7 hne q0 q4 n6 hB2 hF d0 d1 d2 d3 d4
    go_wp2
    refine bodyPost_ret (v := .tuple #[.agg #[.string ⟨#[]⟩, .int .i64 0, .int .i64 0, .int .i64 0], .bool false]) (by simp [results, Tryz.results156, go_sem, *]) rfl ⟨rfl, ?_⟩
    exact ((((hB7.setCell (Nat.le_refl _) _).setCell (Nat.le_refl _) _).setCell (Nat.le_refl _) _).setCell (Nat.le_refl _) _)
  · show Calls Tryz.prog 156 _ w fun e w' => e = .returned (.tuple #[.agg #[.string x0, .int .i64 x1, .int .i64 x2, .int .i64 x3], .bool true]) ∧ Below w.heap.size w w'
    go_enter Tryz.func156, Tryz.ntmps156
    go_wp2_with fail
    refine (hK _).mono ?_
    rintro e w1 ⟨rfl, hb1⟩
    have hB1 := below_after hb1
    have A1 := (hb1.block _ (by simp)).trans (heap_alloc_new w (.cells #[.string ⟨#[]⟩, .int .i64 0, .int .i64 0, .int .i64 0] 37))
    clear hK hb1
    go_wp2_with fail
    refine (hA _ hB1).mono ?_
    rintro e w2 ⟨rfl, hb2⟩
    have hB2 := below_after_of hB1 hb2
    have A2 := (hb2.block _ (Array.getElem?_eq_some_iff.1 A1).1).trans A1
    obtain ⟨d0, d1, d2, d3, d4⟩ := HR.out _ hB2
    have q0 := After.cell d0
    have q4 := After.cell d4
    have hne := After.ne w2
    clear hA hb2 A1 hB1
    go_wp2_with fail
    refine wp_region_after (by kernel_rfl) (by kernel_rfl) ?_
    repeat (first | go_big_quiet_skip | (go_big_quiet_want; go_big_quiet_op; first | go_big_quiet_on | go_big_quiet_call (first | (go_at_call 44; refine (hF _).mono ?_; rintro e wq ⟨rfl, hbq⟩; exact ⟨rfl, after_mk (below_after_of (After.b _) hbq)⟩))))
    refine wpQuiet_nil ?_
    rintro _ ⟨n6, rfl⟩
    have hb7 := n6.b
    have hB7 := below_after_of hB2 hb7
    have A7 := (hb7.block _ (Array.getElem?_eq_some_iff.1 A2).1).trans A2
    generalize n6.w = w7 at *
    obtain ⟨k0, k1, k2, k3, f0, f1, f2, f3⟩ := blk4 A7
    clear d0 d1 d2 d3 d4
    obtain ⟨d0, d1, d2, d3, d4⟩ := HR.out _ hB7
    clear A2 A7 hb7 hne q0 q4 n6 hB2 hF
    go_wp2
    refine bodyPost_ret (v := .tuple #[.agg #[.string x0, .int .i64 x1, .int .i64 x2, .int .i64 x3], .bool true]) (by simp [results, Tryz.results156, go_sem, *]) rfl ⟨rfl, ?_⟩
    exact ((((hB7.setCell (Nat.le_refl _) _).setCell (Nat.le_refl _) _).setCell (Nat.le_refl _) _).setCell (Nat.le_refl _) _)
theorem l9Look_off (g og : Nat) (v : Value) (l : Rcl) (s : ByteArray) (w : World) (hg : g < w.heap.size) (hD : w.cell? ⟨g, og, none⟩ = some v) (hv : Rcs w v l) (hok : DirOk l) (hs : s.size ≤ 12) :
    Calls Tryz.prog 156 #[.pointer (some ⟨g, og, none⟩), .string s] w fun e w' => e = .returned (lkV (fO (lkO l (keyI s)) (foldS s))) ∧ Below w.heap.size w w' := by
  rcases atI_cases l (keyI s) with ⟨h1, -⟩ | ⟨j, hj, -, h1⟩
  · have e : fO (lkO l (keyI s)) (foldS s) = none := by unfold lkO; rw [if_pos h1]; rfl
    rw [e]
    exact l9Look_none g og v l s w hg hD hv hok hs h1
  · have hA := fun w' (h : Below w.heap.size w w') => l9At_off g og v l (keyI s) w' (Nat.lt_of_lt_of_le hg h.size) ((h.cell (p := ⟨g, og, none⟩) hg).trans hD) (hv.below h) hok
    rw [h1] at hA
    have e : lkO l (keyI s) = some (rAt l j) := by unfold lkO; rw [h1, if_neg (by omega), Int.toNat_natCast]
    obtain ⟨a, c, rfl⟩ := hv.shape
    obtain ⟨-, b, off, rfl, hb, hc⟩ := hv.at (by omega)
    have hr := hc j hj
    rw [e]
    generalize rAt l j = r at *
    obtain ⟨x0, x1, x2, x3⟩ := r
    rcases Bool.eq_false_or_eq_true (x0.toList == (foldS s).toList) with hf | hf
    · rw [fO_yes (r := ⟨x0, x1, x2, x3⟩) hf]
      exact l9Look_at g og b off c l.length j s x0 x1 x2 x3 w hg hD hj hb hr hs true hf hA
    · rw [fO_no (r := ⟨x0, x1, x2, x3⟩) hf]
      exact l9Look_at g og b off c l.length j s x0 x1 x2 x3 w hg hD hj hb hr hs false hf hA
theorem l9At_any (g : Nat) (v : Value) (l : Rcl) (key : Int) (w : World) (hg : g < w.heap.size) (hD : w.cell? ⟨g, 0, none⟩ = some v) (hv : Rcs w v l) (hok : DirOk l) :
    Calls Tryz.prog 198 #[.pointer (some ⟨g, 0, none⟩), .int .i64 key] w fun e w' => e = .returned (.int .i64 (atI l key)) ∧ Below w.heap.size w w' := l9At_off g 0 v l key w hg hD hv hok
theorem l9Look_any (g : Nat) (v : Value) (l : Rcl) (s : ByteArray) (w : World) (hg : g < w.heap.size) (hD : w.cell? ⟨g, 0, none⟩ = some v) (hv : Rcs w v l) (hok : DirOk l) (hs : s.size ≤ 12) :
    Calls Tryz.prog 156 #[.pointer (some ⟨g, 0, none⟩), .string s] w fun e w' => e = .returned (lkV (fO (lkO l (keyI s)) (foldS s))) ∧ Below w.heap.size w w' := l9Look_off g 0 v l s w hg hD hv hok hs
end U
end Go.Proofs.YtihhigmceeabmaaGreat

/- Answers and records looked up, by the model and by the program. -/
namespace Go.Proofs.YtihhigmceeabmaaGreat
open Go.RowKit Go.Maps
namespace U
theorem six_cells {w : World} {g : Nat} {x0 x1 x2 x3 x4 x5 : Value} {t : TypeId} (h : w.heap[g]? = some (.cells #[x0, x1, x2, x3, x4, x5] t)) :
    w.cell? ⟨g, 0, none⟩ = some x0 ∧ w.cell? ⟨g, 1, none⟩ = some x1 ∧ w.cell? ⟨g, 2, none⟩ = some x2 ∧ w.cell? ⟨g, 3, none⟩ = some x3 ∧ w.cell? ⟨g, 4, none⟩ = some x4 ∧ w.cell? ⟨g, 5, none⟩ = some x5 ∧
    w.frozen? ⟨g, 0, none⟩ = false ∧ w.frozen? ⟨g, 1, none⟩ = false ∧ w.frozen? ⟨g, 2, none⟩ = false ∧ w.frozen? ⟨g, 3, none⟩ = false ∧ w.frozen? ⟨g, 4, none⟩ = false ∧ w.frozen? ⟨g, 5, none⟩ = false := by
  simp [World.cell?, World.frozen?, h]
theorem five_cellsN {w : World} {g : Nat} {x0 x1 x2 x3 x4 : Value} {t : TypeId} (h : w.heap[g]? = some (.cells #[x0, x1, x2, x3, x4] t)) :
    w.cell? ⟨g, 0, none⟩ = some x0 ∧ w.cell? ⟨g, 1, none⟩ = some x1 ∧ w.cell? ⟨g, 2, none⟩ = some x2 ∧ w.cell? ⟨g, 3, none⟩ = some x3 ∧ w.cell? ⟨g, 4, none⟩ = some x4 ∧
    w.frozen? ⟨g, 0, none⟩ = false ∧ w.frozen? ⟨g, 1, none⟩ = false ∧ w.frozen? ⟨g, 2, none⟩ = false ∧ w.frozen? ⟨g, 3, none⟩ = false ∧ w.frozen? ⟨g, 4, none⟩ = false := by
  simp [World.cell?, World.frozen?, h]
theorem set6_other {w : World} {b g i : Nat} (h : b ≠ g) (x0 x1 x2 x3 x4 x5 : Value) (_ : True) : ((((((w.setCell ⟨g, 0, none⟩ x0).setCell ⟨g, 1, none⟩ x1).setCell ⟨g, 2, none⟩ x2).setCell ⟨g, 3, none⟩ x3).setCell ⟨g, 4, none⟩ x4).setCell ⟨g, 5, none⟩ x5).cell? ⟨b, i, none⟩ = w.cell? ⟨b, i, none⟩ := by
  have h' : ∀ j, (⟨g, j, none⟩ : Addr) ≠ ⟨b, i, none⟩ := fun j e => h (by cases e; rfl)
  rw [World.cell?_setCell_other _ _ _ _ (h' _), World.cell?_setCell_other _ _ _ _ (h' _), World.cell?_setCell_other _ _ _ _ (h' _), World.cell?_setCell_other _ _ _ _ (h' _), World.cell?_setCell_other _ _ _ _ (h' _), World.cell?_setCell_other _ _ _ _ (h' _)]
set_option maxRecDepth 100000 in
set_option maxHeartbeats 4000000 in
theorem l9Answer_any (g : Nat) (v : Value) (l : Rcl) (s : ByteArray) (w : World) (hg : g < w.heap.size) (hD : w.cell? ⟨g, 0, none⟩ = some v) (hv : Rcs w v l) (hok : DirOk l) (hs : s.size ≤ 12) (f : Bool) (x0 : ByteArray) (x1 x2 x3 : Int) (ho : lkV (fO (lkO l (keyI s)) (foldS s)) = .tuple #[.agg #[.string x0, .int .i64 x1, .int .i64 x2, .int .i64 x3], .bool f]) :
    Calls Tryz.prog 124 #[.pointer (some ⟨g, 0, none⟩), .string s] w fun e w' => e = .returned (.agg #[.int .i64 (keyI s), .bool f, .string x0, .int .i64 x1, .int .i64 x2, .int .i64 x3]) ∧ Below w.heap.size w w' := by
  have hK := fun w => l2Key_any s w hs
  have hL := fun w' (h : Below w.heap.size w w') => l9Look_any g v l s w' (Nat.lt_of_lt_of_le hg h.size) ((h.cell (p := ⟨g, 0, none⟩) hg).trans hD) (hv.below h) hok hs
  rw [ho] at hL
  generalize keyI s = kz at *
  clear hv ho
  obtain ⟨W, hW⟩ : ∃ W, W = w.alloc (.cells #[.int .i64 0, .bool false, .string ⟨#[]⟩, .int .i64 0, .int .i64 0, .int .i64 0] 39) := ⟨_, rfl⟩
  have HW : Hid (w.alloc (.cells #[.int .i64 0, .bool false, .string ⟨#[]⟩, .int .i64 0, .int .i64 0, .int .i64 0] 39) = W) := hW.symm
  have hB : Below w.heap.size w W := by rw [hW]; exact one_new _
  have h1 : W.heap[w.heap.size]? = some (.cells #[.int .i64 0, .bool false, .string ⟨#[]⟩, .int .i64 0, .int .i64 0, .int .i64 0] 39) := by rw [hW]; exact heap_alloc_new w _
  clear hW
  go_enter Tryz.func124, Tryz.ntmps124
  go_wp2_with fail
  rw [HW.out]
  refine (hL _ hB).mono ?_
  rintro e w1 ⟨rfl, hb1⟩
  have hB1 := below_after_of hB hb1
  have h1 := (hb1.block _ (Array.getElem?_eq_some_iff.1 h1).1).trans h1
  obtain ⟨W1, hW1⟩ : ∃ W1, W1 = w1.alloc (.cells #[.string x0, .int .i64 x1, .int .i64 x2, .int .i64 x3] 37) := ⟨_, rfl⟩
  have HW1 : Hid (w1.alloc (.cells #[.string x0, .int .i64 x1, .int .i64 x2, .int .i64 x3] 37) = W1) := hW1.symm
  have hB2 : Below w.heap.size w W1 := by rw [hW1]; exact hB1.alloc hB1.size _
  have h2 : W1.heap[w.heap.size]? = some (.cells #[.int .i64 0, .bool false, .string ⟨#[]⟩, .int .i64 0, .int .i64 0, .int .i64 0] 39) := by rw [hW1]; exact ((one_new _).block _ (Array.getElem?_eq_some_iff.1 h1).1).trans h1
  have A1 : W1.heap[w1.heap.size]? = some (.cells #[.string x0, .int .i64 x1, .int .i64 x2, .int .i64 x3] 37) := by rw [hW1]; exact heap_alloc_new w1 _
  have hlt1 := (Array.getElem?_eq_some_iff.1 A1).1
  have hltg := (Array.getElem?_eq_some_iff.1 h2).1
  have hlw : w.heap.size < w1.heap.size := (Array.getElem?_eq_some_iff.1 h1).1
  have HC : Hid (∀ w', Below W1.heap.size W1 w' → w'.cell? ⟨w1.heap.size, 0, none⟩ = some (.string x0) ∧ w'.cell? ⟨w1.heap.size, 1, none⟩ = some (.int .i64 x1) ∧ w'.cell? ⟨w1.heap.size, 2, none⟩ = some (.int .i64 x2) ∧ w'.cell? ⟨w1.heap.size, 3, none⟩ = some (.int .i64 x3)) := fun w' h => four_cellsV ((h.block _ hlt1).trans A1)
  have HD2 : Hid (∀ w', Below W1.heap.size W1 w' → w'.heap[w.heap.size]? = some (.cells #[.int .i64 0, .bool false, .string ⟨#[]⟩, .int .i64 0, .int .i64 0, .int .i64 0] 39)) := fun w' h => (h.block _ hltg).trans h2
  obtain ⟨g0, g1, g2, g3⟩ := four_cellsV A1
  have hbr := Below.refl W1.heap.size W1
  have hnb : w1.heap.size ≠ w.heap.size := by omega
  clear hL hb1 hW1 h1 hB hB1 h2 A1
  go_wp2_with fail
  rw [HW1.out]
  go_region_held3 (fun w' => w'.cell? ⟨w1.heap.size, 0, none⟩ = some (.string x0) ∧ w'.cell? ⟨w1.heap.size, 1, none⟩ = some (.int .i64 x1) ∧ w'.cell? ⟨w1.heap.size, 2, none⟩ = some (.int .i64 x2) ∧ w'.cell? ⟨w1.heap.size, 3, none⟩ = some (.int .i64 x3))
    (first | with_reducible exact ⟨g0, g1, g2, g3⟩ | with_reducible exact HC.out _ hbr | with_reducible exact HC.out _ hbr.drew | with_reducible exact ⟨(set6_other hnb _ _ _ _ _ _ trivial).trans (HC.out _ hbr).1, (set6_other hnb _ _ _ _ _ _ trivial).trans (HC.out _ hbr).2.1, (set6_other hnb _ _ _ _ _ _ trivial).trans (HC.out _ hbr).2.2.1, (set6_other hnb _ _ _ _ _ _ trivial).trans (HC.out _ hbr).2.2.2⟩)
    (first
      | (go_at_call 42; refine (hK _).mono ?_; rintro e w5 ⟨rfl, hb5⟩; have hbr : Below W1.heap.size W1 w5 := (by first | exact below_after_of hbr hb5 | exact below_after_of hbr.drew hb5); have hh := HD2.out _ hbr; obtain ⟨c0, c1, c2, c3, c4, c5, f0, f1, f2, f3, f4, f5⟩ := six_cells hh))
  have hB5 := below_after_of hB2 hbr
  clear HC HD2 hh hb5
  go_wp2
  refine bodyPost_ret (v := .agg #[.int .i64 kz, .bool f, .string x0, .int .i64 x1, .int .i64 x2, .int .i64 x3]) (by simp [results, Tryz.results124, go_sem, *]) rfl ⟨rfl, ?_⟩
  exact ((((((hB5.setCell (Nat.le_refl _) _).setCell (Nat.le_refl _) _).setCell (Nat.le_refl _) _).setCell (Nat.le_refl _) _).setCell (Nat.le_refl _) _).setCell (Nat.le_refl _) _)
theorem anC_cases (l : Rcl) (s : ByteArray) : (dirF l = 0 ∧ labelP s = 0 ∧ anC l s = 0) ∨ (¬ anC l s = 0 ∧ ((¬ dirF l = 0 ∧ anC l s = dirF l) ∨ (dirF l = 0 ∧ ¬ labelP s = 0 ∧ anC l s = labelP s))) := by
  unfold anC
  by_cases h : dirF l = 0
  · rw [if_pos h]
    by_cases h1 : labelP s = 0
    · exact Or.inl ⟨h, h1, h1⟩
    · exact Or.inr ⟨h1, Or.inr ⟨h, h1, rfl⟩⟩
  · rw [if_neg h]
    exact Or.inr ⟨h, Or.inl ⟨h, rfl⟩⟩
set_option maxRecDepth 100000 in
set_option maxHeartbeats 4000000 in
theorem specAnswerOf_any (v : Value) (l : Rcl) (s : ByteArray) (w : World) (hv : Rcs w v l) (hl : Lbs l) (hx : l.length ≤ 1048576) (hs : s.size ≤ 1048576) :
    Calls Tryz.prog 70 #[.agg #[v], .string s] w fun e w' => e = .returned (ansV (anC l s) (anK l s) (anO l s)) ∧ Below w.heap.size w w' := by
  obtain ⟨W, hW⟩ : ∃ W, W = (w.alloc (.cells #[v] 94)).alloc (.cells #[.int .i64 0, .int .i64 0, .bool false, .string ⟨#[]⟩, .int .i64 0, .int .i64 0, .int .i64 0] 41) := ⟨_, rfl⟩
  have HW : Hid ((w.alloc (.cells #[v] 94)).alloc (.cells #[.int .i64 0, .int .i64 0, .bool false, .string ⟨#[]⟩, .int .i64 0, .int .i64 0, .int .i64 0] 41) = W) := hW.symm
  have hB : Below w.heap.size w W := by rw [hW]; exact two_new _ _
  have h1 : W.heap[w.heap.size + 1]? = some (.cells #[.int .i64 0, .int .i64 0, .bool false, .string ⟨#[]⟩, .int .i64 0, .int .i64 0, .int .i64 0] 41) := by rw [hW]; exact heap_new2 w _ _
  have h2 : W.heap[w.heap.size]? = some (.cells #[v] 94) := by rw [hW]; exact heap_alloc_old' _ _ _ (heap_alloc_new w _)
  have hlt2 := (Array.getElem?_eq_some_iff.1 h2).1
  have HF : Hid (∀ w', Below W.heap.size W w' → Calls Tryz.prog 119 #[.pointer (some ⟨w.heap.size, 0, none⟩)] w' fun e w'' => e = .returned (.int .i64 (dirF l)) ∧ Below w'.heap.size w' w'') := fun w' h => l9Fault_any w.heap.size v l w' (Nat.lt_of_lt_of_le hlt2 h.size) (box1_cellA ((h.block _ hlt2).trans h2)) ((hv.below hB).below h) hl (by omega)
  have hL := fun w => l1Label_any s w hs
  have HA : Hid (∀ f x0 x1 x2 x3, dirF l = 0 → labelP s = 0 → lkV (fO (lkO l (keyI s)) (foldS s)) = .tuple #[.agg #[.string x0, .int .i64 x1, .int .i64 x2, .int .i64 x3], .bool f] → ∀ w', Below W.heap.size W w' → Calls Tryz.prog 124 #[.pointer (some ⟨w.heap.size, 0, none⟩), .string s] w' fun e w'' => e = .returned (.agg #[.int .i64 (keyI s), .bool f, .string x0, .int .i64 x1, .int .i64 x2, .int .i64 x3]) ∧ Below w'.heap.size w' w'') := fun f x0 x1 x2 x3 h0 hs0 ho w' h => l9Answer_any w.heap.size v l s w' (Nat.lt_of_lt_of_le hlt2 h.size) (box1_cellA ((h.block _ hlt2).trans h2)) ((hv.below hB).below h) (dirOk h0) (labelP_small hs0) f x0 x1 x2 x3 ho
  obtain ⟨a, c, rfl⟩ := hv.shape
  generalize l.length = n at *
  have HH : Hid (∀ w', Below W.heap.size W w' → w'.heap[w.heap.size + 1]? = some (.cells #[.int .i64 0, .int .i64 0, .bool false, .string ⟨#[]⟩, .int .i64 0, .int .i64 0, .int .i64 0] 41)) := fun w' h => (h.block _ (Array.getElem?_eq_some_iff.1 h1).1).trans h1
  clear hW hv h1 h2 hlt2
  rcases anC_cases l s with ⟨h0, hs0, hc0⟩ | ⟨hn, (⟨h0, hc⟩ | ⟨h0, hs0, hc⟩)⟩
  · rw [hc0, anK, anO, if_pos hc0, if_pos hc0]
    have hA := fun f x0 x1 x2 x3 => HA.out f x0 x1 x2 x3 h0 hs0
    have hF := HF.out W (Below.refl _ _)
    rw [h0] at hF
    rw [hs0] at hL
    obtain ⟨f, x0, x1, x2, x3, hv1, hv2⟩ : ∃ f x0 x1 x2 x3, lkV (fO (lkO l (keyI s)) (foldS s)) = .tuple #[.agg #[.string x0, .int .i64 x1, .int .i64 x2, .int .i64 x3], .bool f] ∧ ansV 0 (keyI s) (fO (lkO l (keyI s)) (foldS s)) = .agg #[.int .i64 0, .int .i64 (keyI s), .bool f, .string x0, .int .i64 x1, .int .i64 x2, .int .i64 x3] := ⟨_, _, _, _, _, rfl, rfl⟩
    rw [hv2]
    have hA := hA f x0 x1 x2 x3 hv1
    generalize keyI s = kz at *
    clear HA HF hv1 hv2 h0 hs0 hc0
    go_enter Tryz.func70, Tryz.ntmps70
    go_wp2_with fail
    rw [HW.out]
    refine hF.mono ?_
    rintro e w1 ⟨rfl, hb1⟩
    clear hF
    go_wp2_with fail
    refine (hL _).mono ?_
    rintro e w2 ⟨rfl, hb2⟩
    have hb2 := below_after_of hb1 hb2
    clear hL hb1
    go_wp2_with fail
    refine (hA _ hb2).mono ?_
    rintro e w3 ⟨rfl, hb3⟩
    have hb3 := below_after_of hb2 hb3
    obtain ⟨c0, c1, c2, c3, c4, c5, c6, f0, f1, f2, f3, f4, f5, f6⟩ := seven_cells (HH.out _ hb3)
    have hB3 := below_after_of hB hb3
    clear hA hb2 hb3 HH
    go_wp2
    exact bodyPost_ret (v := .agg #[.int .i64 0, .int .i64 kz, .bool f, .string x0, .int .i64 x1, .int .i64 x2, .int .i64 x3]) (by simp [results, Tryz.results70, go_sem, *]) rfl ⟨rfl, set7 hB3 (Nat.le_succ _) _ _ _ _ _ _ _⟩
  · rw [anK, anO, if_neg hn, if_neg hn, hc]
    have hF := HF.out W (Below.refl _ _)
    have hqn : (dirF l != 0) = true := by simpa using h0
    generalize dirF l = q at *
    clear HA HF h0 hn hc
    go_enter Tryz.func70, Tryz.ntmps70
    go_wp2_with fail
    rw [HW.out]
    refine hF.mono ?_
    rintro e w1 ⟨rfl, hb1⟩
    obtain ⟨c0, c1, c2, c3, c4, c5, c6, f0, f1, f2, f3, f4, f5, f6⟩ := seven_cells (HH.out _ hb1)
    have hB3 := below_after_of hB hb1
    clear hF hb1 HH hL
    go_wp2
    exact bodyPost_ret (v := .agg #[.int .i64 q, .int .i64 0, .bool false, .string ⟨#[]⟩, .int .i64 0, .int .i64 0, .int .i64 0]) (by simp [results, Tryz.results70, go_sem, *]) rfl ⟨rfl, set7 hB3 (Nat.le_succ _) _ _ _ _ _ _ _⟩
  · rw [anK, anO, if_neg hn, if_neg hn, hc]
    have hF := HF.out W (Below.refl _ _)
    rw [h0] at hF
    have hqn : (labelP s != 0) = true := by simpa using hs0
    generalize labelP s = q at *
    clear HA HF h0 hn hc hs0
    go_enter Tryz.func70, Tryz.ntmps70
    go_wp2_with fail
    rw [HW.out]
    refine hF.mono ?_
    rintro e w1 ⟨rfl, hb1⟩
    clear hF
    go_wp2_with fail
    refine (hL _).mono ?_
    rintro e w2 ⟨rfl, hb2⟩
    have hb2 := below_after_of hb1 hb2
    obtain ⟨c0, c1, c2, c3, c4, c5, c6, f0, f1, f2, f3, f4, f5, f6⟩ := seven_cells (HH.out _ hb2)
    have hB3 := below_after_of hB hb2
    clear hL hb1 hb2 HH
    go_wp2
    exact bodyPost_ret (v := .agg #[.int .i64 q, .int .i64 0, .bool false, .string ⟨#[]⟩, .int .i64 0, .int .i64 0, .int .i64 0]) (by simp [results, Tryz.results70, go_sem, *]) rfl ⟨rfl, set7 hB3 (Nat.le_succ _) _ _ _ _ _ _ _⟩
end U
end Go.Proofs.YtihhigmceeabmaaGreat

/- Records looked up, by the program and by the model. -/
namespace Go.Proofs.YtihhigmceeabmaaGreat
open Go.RowKit Go.Maps
namespace U
def lrC (l : Rcl) (s : ByteArray) : Int := if anC l s = 0 then (if (anO l s).isSome = true then 0 else 4) else anC l s
/-- A record looked up, as a value. -/
def lrV (c : Int) (o : Option Rc) : Value := .agg #[.int .i64 c, .string (o.getD rcZ).l, .int .i64 (o.getD rcZ).v, .int .i64 (o.getD rcZ).o, .int .i64 (o.getD rcZ).p]
theorem set5 {B : Nat} {w w' : World} {g : Nat} (h : Below B w w') (hg : B ≤ g) (a b c d e : Value) : Below B w (((((w'.setCell ⟨g, 0, none⟩ a).setCell ⟨g, 1, none⟩ b).setCell ⟨g, 2, none⟩ c).setCell ⟨g, 3, none⟩ d).setCell ⟨g, 4, none⟩ e) :=
  (((((h.setCell hg _).setCell hg _).setCell hg _).setCell hg _).setCell hg _)
theorem anO_bad {l : Rcl} {s : ByteArray} (h : ¬ anC l s = 0) : anO l s = none := by unfold anO; rw [if_neg h]
end U
end Go.Proofs.YtihhigmceeabmaaGreat

/- Answers held against one another. -/
namespace Go.Proofs.YtihhigmceeabmaaGreat
open Go.RowKit
namespace U
set_option maxRecDepth 100000 in
set_option maxHeartbeats 1000000 in
theorem eqAnswer_same (k : Int) (f : Bool) (l : ByteArray) (v o p : Int) (w : World) :
    Calls Tryz.prog 55 #[.agg #[.int .i64 k, .bool f, .string l, .int .i64 v, .int .i64 o, .int .i64 p], .agg #[.int .i64 k, .bool f, .string l, .int .i64 v, .int .i64 o, .int .i64 p]] w fun e w' => e = .returned (.bool true) ∧ Below w.heap.size w w' := by
  have hE := fun w => eqRecord_same l v o p w
  unfold recV at hE
  have hbn : (f != f) = false := by cases f <;> rfl
  have hnn := hne_all
  go_enter Tryz.func55, Tryz.ntmps55
  go_wp2_with fail
  refine (hE _).mono ?_
  rintro e w1 ⟨rfl, hb1⟩
  go_wp2
  go_ret
  exact ⟨rfl, below_after (below_after hb1)⟩
set_option maxRecDepth 100000 in
set_option maxHeartbeats 1000000 in
theorem eqAnswerResult_same (c k : Int) (f : Bool) (l : ByteArray) (v o p : Int) (w : World) :
    Calls Tryz.prog 13 #[.agg #[.int .i64 c, .int .i64 k, .bool f, .string l, .int .i64 v, .int .i64 o, .int .i64 p], .agg #[.int .i64 c, .int .i64 k, .bool f, .string l, .int .i64 v, .int .i64 o, .int .i64 p]] w fun e w' => e = .returned (.bool true) ∧ Below w.heap.size w w' := by
  have hE := fun w => eqAnswer_same k f l v o p w
  have hnn := hne_all
  go_enter Tryz.func13, Tryz.ntmps13
  go_wp2_with fail
  refine (hE _).mono ?_
  rintro e w1 ⟨rfl, hb1⟩
  go_wp2
  go_ret
  exact ⟨rfl, below_after (below_after hb1)⟩
end U
end Go.Proofs.YtihhigmceeabmaaGreat

/- Records looked up, by the model; answers held against one another. -/
namespace Go.Proofs.YtihhigmceeabmaaGreat
open Go.RowKit Go.Maps
namespace U
end U
end Go.Proofs.YtihhigmceeabmaaGreat

/- Past answers: what both models tell. -/
namespace Go.Proofs.YtihhigmceeabmaaGreat
open Go.RowKit
namespace U
/-- The fault of a state, or that it has no head of that epoch. -/
def epC (R : Rt) (s : St) (ep : Int) : Int := if stF R s = 0 then (if inB ep 1 (s.h.length : Int) = true then 0 else 4) else stF R s
theorem epC_bad {R : Rt} {s : St} {ep : Int} (h : ¬ stF R s = 0) : epC R s ep = stF R s := by unfold epC; rw [if_neg h]
theorem epC_none {R : Rt} {s : St} {ep : Int} (h : stF R s = 0) (h1 : inB ep 1 (s.h.length : Int) = false) : epC R s ep = 4 := by unfold epC; rw [if_pos h, h1]; rfl
theorem epC_ok {R : Rt} {s : St} {ep : Int} (h : stF R s = 0) (h1 : inB ep 1 (s.h.length : Int) = true) : epC R s ep = 0 := by unfold epC; rw [if_pos h, if_pos h1]
def paV (R : Rt) (s : St) (ep : Int) (t : ByteArray) : Value := if epC R s ep = 0 then ansV (anC (dAt s.p (ep - 1).toNat) t) (anK (dAt s.p (ep - 1).toNat) t) (anO (dAt s.p (ep - 1).toNat) t) else .agg #[.int .i64 (epC R s ep), .int .i64 0, .bool false, .string ⟨#[]⟩, .int .i64 0, .int .i64 0, .int .i64 0]
theorem paV_shape (R : Rt) (s : St) (ep : Int) (t : ByteArray) : ∃ c0 k0 f0 x0 x1 x2 x3, paV R s ep t = .agg #[.int .i64 c0, .int .i64 k0, .bool f0, .string x0, .int .i64 x1, .int .i64 x2, .int .i64 x3] := by
  unfold paV
  split
  · exact ⟨_, _, _, _, _, _, _, rfl⟩
  · exact ⟨_, _, _, _, _, _, _, rfl⟩
theorem StOk.same {R : Rt} {s : St} (h : StOk R s) : s.p.length = s.h.length := by
  have h1 := h.his
  unfold hisF at h1
  split at h1
  · split at h1
    · assumption
    · cases h1
  · contradiction
theorem StOk.ten {R : Rt} {s : St} (h : StOk R s) : s.p.length ≤ 10 := by
  have h0 := h.same
  have h1 := h.his
  unfold hisF at h1
  split at h1
  · rename_i h2
    rw [h0]
    by_cases h3 : 10 < s.h.length
    · rw [chF_many h3] at h2; cases h2
    · omega
  · contradiction
set_option maxRecDepth 100000 in
set_option maxHeartbeats 4000000 in
theorem epochFault_any (R : Rt) (hR : RtOk R) (s : St) (v : Sv) (ep : Int) (w : World) (hv : Sts w v s) (hB : StB s) :
    Calls Tryz.prog 74 #[stV s v, .int .i64 ep] w fun e w' => e = .returned (.int .i64 (epC R s ep)) ∧ Below w.heap.size w w' := by
  obtain ⟨W, hW⟩ : ∃ W, W = w.alloc (stC s v 98) := ⟨_, rfl⟩
  have hB0 : Below w.heap.size w W := by rw [hW]; exact one_new _
  have hS0 : StC W w.heap.size s v := by rw [hW]; exact StC.new w s v _
  have hF := fun w' (hb : Below w.heap.size w w') => implStateFault_any R hR s v w' (hv.below hb) hB
  have hbd : s.h.length ≤ 1048576 := hB.h
  obtain ⟨a1, a2, a3, a4, c1, c2, c3, c4, rfl⟩ := hv.four
  unfold stC sv at hW
  unfold stV sv at hF ⊢
  unfold epC
  dsimp only at hW hF ⊢
  have HX : Hid (∀ w', Below W.heap.size W w' → w'.cell? ⟨w.heap.size, 0, none⟩ = some (.int .i64 s.ph) ∧ w'.cell? ⟨w.heap.size, 1, none⟩ = some (.int .i64 s.cu) ∧ w'.cell? ⟨w.heap.size, 2, none⟩ = some (.slice a1 s.d.length c1) ∧ w'.cell? ⟨w.heap.size, 3, none⟩ = some (.slice a2 s.n.length c2) ∧ w'.cell? ⟨w.heap.size, 4, none⟩ = some (.slice a3 s.h.length c3) ∧ w'.cell? ⟨w.heap.size, 5, none⟩ = some (.slice a4 s.p.length c4)) := fun w' hb => by
    have h := hS0.below hb hS0.lt
    exact ⟨h.c0, h.c1, h.c2, h.c3, h.c4, h.c5⟩
  generalize stF R s = q at *
  generalize s.ph = ph at *
  generalize s.cu = cu at *
  generalize s.d.length = n1 at *
  generalize s.n.length = n2 at *
  generalize s.h.length = n3 at *
  generalize s.p.length = n4 at *
  have HW : Hid (w.alloc (.cells #[.int .i64 ph, .int .i64 cu, .slice a1 n1 c1, .slice a2 n2 c2, .slice a3 n3 c3, .slice a4 n4 c4] 98) = W) := hW.symm
  clear hv hB hW hS0
  have hbr := Below.refl W.heap.size W
  obtain ⟨x0, x1, x2, x3, x4, x5⟩ := HX.out _ hbr
  by_cases h0 : q = 0
  · subst h0
    rw [if_pos rfl]
    by_cases h1 : ep < 1
    · rw [inB_f (by omega), if_neg (by decide)]
      go_enter Tryz.func74, Tryz.ntmps74
      go_wp2_with fail
      rw [HW.out]
      go_wp2_with fail
      refine (hF _ hB0).mono ?_
      rintro e w1 ⟨rfl, hb1⟩
      have hB1 := below_after_of hB0 hb1
      clear hF HX hb1 x0 x1 x2 x3 x4 x5
      go_wp2
      go_ret
      exact ⟨rfl, hB1⟩
    · by_cases h2 : (n3 : Int) < ep
      · rw [inB_f (by omega), if_neg (by decide)]
        go_enter Tryz.func74, Tryz.ntmps74
        go_wp2_with fail
        rw [HW.out]
        go_wp2_with fail
        refine (hF _ hB0).mono ?_
        rintro e w1 ⟨rfl, hb1⟩
        have hB1 := below_after_of hB0 hb1
        clear x0 x1 x2 x3 x4 x5
        obtain ⟨x0, x1, x2, x3, x4, x5⟩ := HX.out _ hb1
        clear hF HX hb1
        go_wp2
        go_ret
        exact ⟨rfl, hB1⟩
      · rw [show inB ep 1 (n3 : Int) = true by unfold inB; simp; omega, if_pos rfl]
        go_enter Tryz.func74, Tryz.ntmps74
        go_wp2_with fail
        rw [HW.out]
        go_wp2_with fail
        refine (hF _ hB0).mono ?_
        rintro e w1 ⟨rfl, hb1⟩
        have hB1 := below_after_of hB0 hb1
        clear x0 x1 x2 x3 x4 x5
        obtain ⟨x0, x1, x2, x3, x4, x5⟩ := HX.out _ hb1
        clear hF HX hb1
        go_wp2
        go_ret
        exact ⟨rfl, hB1⟩
  · rw [if_neg h0]
    have h1 := code_ne h0
    go_enter Tryz.func74, Tryz.ntmps74
    go_wp2_with fail
    rw [HW.out]
    go_wp2_with fail
    refine (hF _ hB0).mono ?_
    rintro e w1 ⟨rfl, hb1⟩
    have hB1 := below_after_of hB0 hb1
    clear hF HX hb1 x0 x1 x2 x3 x4 x5
    go_wp2
    go_ret
    exact ⟨rfl, hB1⟩
set_option maxRecDepth 100000 in
set_option maxHeartbeats 4000000 in
theorem spast_bad (R : Rt) (hR : RtOk R) (s : St) (v : Sv) (ep : Int) (t : ByteArray) (w : World) (hv : Sts w v s) (hB : StB s) (h0 : ¬ stF R s = 0) :
    Calls Tryz.prog 32 #[stV s v, .int .i64 ep, .string t] w fun e w' => e = .returned (.agg #[.int .i64 (stF R s), .int .i64 0, .bool false, .string ⟨#[]⟩, .int .i64 0, .int .i64 0, .int .i64 0]) ∧ Below w.heap.size w w' := by
  obtain ⟨W, hW⟩ : ∃ W, W = (w.alloc (stC s v 98)).alloc (.cells #[.int .i64 0, .int .i64 0, .bool false, .string ⟨#[]⟩, .int .i64 0, .int .i64 0, .int .i64 0] 41) := ⟨_, rfl⟩
  have hB0 : Below w.heap.size w W := by rw [hW]; exact two_new _ _
  have hS0 : StC W w.heap.size s v := by rw [hW]; exact (StC.new w s v _).below (one_new _) (by simp)
  have hA0 : W.heap[w.heap.size + 1]? = some (.cells #[.int .i64 0, .int .i64 0, .bool false, .string ⟨#[]⟩, .int .i64 0, .int .i64 0, .int .i64 0] 41) := by rw [hW]; exact heap_new2 w _ _
  have hv1 := hv.below hB0
  have hF := l11Fault_any R hR w.heap.size s v W hS0 hv1 hB
  have HA : Hid (∀ w', Below W.heap.size W w' → w'.heap[w.heap.size + 1]? = some (.cells #[.int .i64 0, .int .i64 0, .bool false, .string ⟨#[]⟩, .int .i64 0, .int .i64 0, .int .i64 0] 41)) := fun w' hb => (hb.block _ (Array.getElem?_eq_some_iff.1 hA0).1).trans hA0
  have h1 := code_ne h0
  generalize stF R s = q at *
  obtain ⟨a1, a2, a3, a4, c1, c2, c3, c4, rfl⟩ := hv.four
  unfold stC sv at hW
  unfold stV sv
  dsimp only at hW ⊢
  generalize s.ph = ph at *
  generalize s.cu = cu at *
  generalize s.d.length = n1 at *
  generalize s.n.length = n2 at *
  generalize s.h.length = n3 at *
  generalize s.p.length = n4 at *
  have HW : Hid ((w.alloc (.cells #[.int .i64 ph, .int .i64 cu, .slice a1 n1 c1, .slice a2 n2 c2, .slice a3 n3 c3, .slice a4 n4 c4] 98)).alloc (.cells #[.int .i64 0, .int .i64 0, .bool false, .string ⟨#[]⟩, .int .i64 0, .int .i64 0, .int .i64 0] 41) = W) := hW.symm
  clear hv hv1 hB hW hA0 hS0
  go_enter Tryz.func32, Tryz.ntmps32
  go_wp2_with fail
  rw [HW.out]
  refine hF.mono ?_
  rintro e w1 ⟨rfl, hb1⟩
  clear hF
  obtain ⟨k0, k1, k2, k3, k4, k5, k6, f0, f1, f2, f3, f4, f5, f6⟩ := seven_cells (HA.out _ hb1)
  have hBB := below_after_of hB0 hb1
  clear HA hb1
  go_wp2
  exact bodyPost_ret (v := .agg #[.int .i64 q, .int .i64 0, .bool false, .string ⟨#[]⟩, .int .i64 0, .int .i64 0, .int .i64 0]) (by simp [results, Tryz.results32, go_sem, *]) rfl ⟨rfl, set7 hBB (Nat.le_succ _) _ _ _ _ _ _ _⟩
set_option maxRecDepth 100000 in
set_option maxHeartbeats 4000000 in
theorem spast_none (R : Rt) (hR : RtOk R) (s : St) (v : Sv) (ep : Int) (t : ByteArray) (w : World) (hv : Sts w v s) (hB : StB s) (h0 : stF R s = 0) (h2 : inB ep 1 (s.h.length : Int) = false) :
    Calls Tryz.prog 32 #[stV s v, .int .i64 ep, .string t] w fun e w' => e = .returned (.agg #[.int .i64 4, .int .i64 0, .bool false, .string ⟨#[]⟩, .int .i64 0, .int .i64 0, .int .i64 0]) ∧ Below w.heap.size w w' := by
  obtain ⟨W, hW⟩ : ∃ W, W = (w.alloc (stC s v 98)).alloc (.cells #[.int .i64 0, .int .i64 0, .bool false, .string ⟨#[]⟩, .int .i64 0, .int .i64 0, .int .i64 0] 41) := ⟨_, rfl⟩
  have hB0 : Below w.heap.size w W := by rw [hW]; exact two_new _ _
  have hS0 : StC W w.heap.size s v := by rw [hW]; exact (StC.new w s v _).below (one_new _) (by simp)
  have hA0 : W.heap[w.heap.size + 1]? = some (.cells #[.int .i64 0, .int .i64 0, .bool false, .string ⟨#[]⟩, .int .i64 0, .int .i64 0, .int .i64 0] 41) := by rw [hW]; exact heap_new2 w _ _
  have hv1 := hv.below hB0
  have hF := l11Fault_any R hR w.heap.size s v W hS0 hv1 hB
  rw [h0] at hF
  have hI := fun w => l1In_any ep 1 (s.h.length : Int) w
  rw [h2] at hI
  have HA : Hid (∀ w', Below W.heap.size W w' → w'.heap[w.heap.size + 1]? = some (.cells #[.int .i64 0, .int .i64 0, .bool false, .string ⟨#[]⟩, .int .i64 0, .int .i64 0, .int .i64 0] 41)) := fun w' hb => (hb.block _ (Array.getElem?_eq_some_iff.1 hA0).1).trans hA0
  obtain ⟨a1, a2, a3, a4, c1, c2, c3, c4, rfl⟩ := hv.four
  unfold stC sv at hW
  unfold stV sv
  dsimp only at hW ⊢
  have HX : Hid (∀ w', Below W.heap.size W w' → w'.cell? ⟨w.heap.size, 0, none⟩ = some (.int .i64 s.ph) ∧ w'.cell? ⟨w.heap.size, 1, none⟩ = some (.int .i64 s.cu) ∧ w'.cell? ⟨w.heap.size, 2, none⟩ = some (.slice a1 s.d.length c1) ∧ w'.cell? ⟨w.heap.size, 3, none⟩ = some (.slice a2 s.n.length c2) ∧ w'.cell? ⟨w.heap.size, 4, none⟩ = some (.slice a3 s.h.length c3) ∧ w'.cell? ⟨w.heap.size, 5, none⟩ = some (.slice a4 s.p.length c4)) := fun w' hb => by
    have h := hS0.below hb hS0.lt
    exact ⟨h.c0, h.c1, h.c2, h.c3, h.c4, h.c5⟩
  generalize s.ph = ph at *
  generalize s.cu = cu at *
  generalize s.d.length = n1 at *
  generalize s.n.length = n2 at *
  generalize s.h.length = n3 at *
  generalize s.p.length = n4 at *
  have HW : Hid ((w.alloc (.cells #[.int .i64 ph, .int .i64 cu, .slice a1 n1 c1, .slice a2 n2 c2, .slice a3 n3 c3, .slice a4 n4 c4] 98)).alloc (.cells #[.int .i64 0, .int .i64 0, .bool false, .string ⟨#[]⟩, .int .i64 0, .int .i64 0, .int .i64 0] 41) = W) := hW.symm
  clear hv hv1 hB hW hA0 hS0 h0 h2
  go_enter Tryz.func32, Tryz.ntmps32
  go_wp2_with fail
  rw [HW.out]
  refine hF.mono ?_
  rintro e w1 ⟨rfl, hb1⟩
  obtain ⟨x0, x1, x2, x3, x4, x5⟩ := HX.out _ hb1
  clear hF
  go_wp2_with fail
  refine (hI _).mono ?_
  rintro e wq ⟨rfl, hwq⟩
  rw [hwq]
  clear hwq wq hI x0 x1 x2 x3 x4 x5 HX
  obtain ⟨k0, k1, k2, k3, k4, k5, k6, f0, f1, f2, f3, f4, f5, f6⟩ := seven_cells (HA.out _ hb1)
  have hBB := below_after_of hB0 hb1
  clear HA hb1
  go_wp2
  exact bodyPost_ret (v := .agg #[.int .i64 4, .int .i64 0, .bool false, .string ⟨#[]⟩, .int .i64 0, .int .i64 0, .int .i64 0]) (by simp [results, Tryz.results32, go_sem, *]) rfl ⟨rfl, set7 hBB (Nat.le_succ _) _ _ _ _ _ _ _⟩
set_option maxRecDepth 100000 in
set_option maxHeartbeats 4000000 in
theorem spast_ok (R : Rt) (hR : RtOk R) (s : St) (v : Sv) (ep : Int) (t : ByteArray) (w : World) (hv : Sts w v s) (hB : StB s) (ht : t.size ≤ 1048576) (k : Nat) (hk : k < s.p.length) (hep : ep = (k : Int) + 1) (h0 : stF R s = 0) :
    Calls Tryz.prog 32 #[stV s v, .int .i64 ep, .string t] w fun e w' => e = .returned (ansV (anC (dAt s.p k) t) (anK (dAt s.p k) t) (anO (dAt s.p k) t)) ∧ Below w.heap.size w w' := by
  have hst := stOk h0
  have hlen := hst.same
  have hp10 := hst.ten
  obtain ⟨W, hW⟩ : ∃ W, W = (w.alloc (stC s v 98)).alloc (.cells #[.int .i64 0, .int .i64 0, .bool false, .string ⟨#[]⟩, .int .i64 0, .int .i64 0, .int .i64 0] 41) := ⟨_, rfl⟩
  have hB0 : Below w.heap.size w W := by rw [hW]; exact two_new _ _
  have hS0 : StC W w.heap.size s v := by rw [hW]; exact (StC.new w s v _).below (one_new _) (by simp)
  have hA0 : W.heap[w.heap.size + 1]? = some (.cells #[.int .i64 0, .int .i64 0, .bool false, .string ⟨#[]⟩, .int .i64 0, .int .i64 0, .int .i64 0] 41) := by rw [hW]; exact heap_new2 w _ _
  have hv1 := hv.below hB0
  have hF := l11Fault_any R hR w.heap.size s v W hS0 hv1 hB
  rw [h0] at hF
  have hI := fun w => l1In_any ep 1 (s.h.length : Int) w
  rw [show inB ep 1 (s.h.length : Int) = true by unfold inB; simp; omega] at hI
  have HA : Hid (∀ w', Below W.heap.size W w' → w'.heap[w.heap.size + 1]? = some (.cells #[.int .i64 0, .int .i64 0, .bool false, .string ⟨#[]⟩, .int .i64 0, .int .i64 0, .int .i64 0] 41)) := fun w' hb => (hb.block _ (Array.getElem?_eq_some_iff.1 hA0).1).trans hA0
  obtain ⟨a1, a2, a3, a4, c1, c2, c3, c4, rfl⟩ := hv.four
  unfold stC sv at hW
  unfold stV sv
  dsimp only at hW ⊢
  have HX : Hid (∀ w', Below W.heap.size W w' → w'.cell? ⟨w.heap.size, 0, none⟩ = some (.int .i64 s.ph) ∧ w'.cell? ⟨w.heap.size, 1, none⟩ = some (.int .i64 s.cu) ∧ w'.cell? ⟨w.heap.size, 2, none⟩ = some (.slice a1 s.d.length c1) ∧ w'.cell? ⟨w.heap.size, 3, none⟩ = some (.slice a2 s.n.length c2) ∧ w'.cell? ⟨w.heap.size, 4, none⟩ = some (.slice a3 s.h.length c3) ∧ w'.cell? ⟨w.heap.size, 5, none⟩ = some (.slice a4 s.p.length c4)) := fun w' hb => by
    have h := hS0.below hb hS0.lt
    exact ⟨h.c0, h.c1, h.c2, h.c3, h.c4, h.c5⟩
  have hvp := hv1.p
  unfold sv at hvp
  dsimp only at hvp
  obtain ⟨-, b, off, rfl, hbl, hcs⟩ := hvp.at (by omega)
  obtain ⟨u, hcu, hru⟩ := hcs k hk
  have hpd := hB.pd k hk
  have hAn := fun w' (hb : Below W.heap.size W w') => specAnswerOf_any u (dAt s.p k) t w' (hru.below hb) hpd.2 hpd.1 ht
  have HU : Hid (∀ w', Below W.heap.size W w' → w'.cell? ⟨b, off + k, none⟩ = some u) := fun w' hb => (hb.cell (p := ⟨b, off + k, none⟩) hbl).trans hcu
  obtain ⟨ua, uc, rfl⟩ := hru.shape
  unfold ansV at *
  generalize anC (dAt s.p k) t = q at *
  generalize anK (dAt s.p k) t = ky at *
  generalize anO (dAt s.p k) t = o0 at *
  generalize o0.isSome = fz at *
  generalize (o0.getD rcZ).l = z0 at *
  generalize (o0.getD rcZ).v = z1 at *
  generalize (o0.getD rcZ).o = z2 at *
  generalize (o0.getD rcZ).p = z3 at *
  generalize (dAt s.p k).length = un at *
  generalize s.ph = ph at *
  generalize s.cu = cu at *
  generalize s.d.length = n1 at *
  generalize s.n.length = n2 at *
  generalize s.h.length = n3 at *
  generalize s.p.length = n4 at *
  have HW : Hid ((w.alloc (.cells #[.int .i64 ph, .int .i64 cu, .slice a1 n1 c1, .slice a2 n2 c2, .slice a3 n3 c3, .slice (some ⟨b, off, none⟩) n4 c4] 98)).alloc (.cells #[.int .i64 0, .int .i64 0, .bool false, .string ⟨#[]⟩, .int .i64 0, .int .i64 0, .int .i64 0] 41) = W) := hW.symm
  subst hep
  have hw1 : IntKind.i64.wrap ((k : Int) + 1 - 1) = (k : Int) := by rw [IntKind.wrap_i64]; omega
  have hk0 : ¬ ((k : Int) < 0) := by omega
  have hk1 : (k : Int) < (n4 : Int) := by omega
  have hsub : (k : Int) + 1 - 1 = (k : Int) := by omega
  clear hv hv1 hB hW hA0 hS0 h0 hst hvp hcs hcu hru hpd hlen hbl ht
  go_enter Tryz.func32, Tryz.ntmps32
  go_wp2_with fail
  rw [HW.out]
  refine hF.mono ?_
  rintro e w1 ⟨rfl, hb1⟩
  obtain ⟨x0, x1, x2, x3, x4, x5⟩ := HX.out _ hb1
  clear hF
  go_wp2_with fail
  refine (hI _).mono ?_
  rintro e wq ⟨rfl, hwq⟩
  rw [hwq]
  clear hwq wq hI x0 x1 x2 x3 x4 x5
  obtain ⟨x0, x1, x2, x3, x4, x5⟩ := HX.out _ hb1
  have hu1 := HU.out _ hb1
  go_wp2_with fail
  refine (hAn _ hb1).mono ?_
  rintro e w2 ⟨rfl, hb2⟩
  have hb3 := below_after_of hb1 hb2
  clear hAn x0 x1 x2 x3 x4 x5 HX HU hu1 hb1 hb2
  obtain ⟨k0, k1, k2, k3, k4, k5, k6, f0, f1, f2, f3, f4, f5, f6⟩ := seven_cells (HA.out _ hb3)
  have hBB := below_after_of hB0 hb3
  clear HA hb3
  go_wp2
  exact bodyPost_ret (v := .agg #[.int .i64 q, .int .i64 ky, .bool fz, .string z0, .int .i64 z1, .int .i64 z2, .int .i64 z3]) (by simp [results, Tryz.results32, go_sem, *]) rfl ⟨rfl, set7 hBB (Nat.le_succ _) _ _ _ _ _ _ _⟩
theorem specPastAnswer_any (R : Rt) (hR : RtOk R) (s : St) (v : Sv) (ep : Int) (t : ByteArray) (w : World) (hv : Sts w v s) (hB : StB s) (ht : t.size ≤ 1048576) :
    Calls Tryz.prog 32 #[stV s v, .int .i64 ep, .string t] w fun e w' => e = .returned (paV R s ep t) ∧ Below w.heap.size w w' := by
  unfold paV
  by_cases h0 : stF R s = 0
  · rcases Bool.eq_false_or_eq_true (inB ep 1 (s.h.length : Int)) with h2 | h2
    · rw [if_pos (epC_ok h0 h2)]
      have hb := inB_bd h2
      have hlen := (stOk h0).same
      obtain ⟨k, hk⟩ : ∃ k : Nat, ep = (k : Int) + 1 := ⟨(ep - 1).toNat, by omega⟩
      rw [show (ep - 1).toNat = k by omega]
      exact spast_ok R hR s v ep t w hv hB ht k (by omega) hk h0
    · rw [epC_none h0 h2, if_neg (by decide)]
      exact spast_none R hR s v ep t w hv hB h0 h2
  · rw [epC_bad h0, if_neg h0]
    exact spast_bad R hR s v ep t w hv hB h0
set_option maxRecDepth 100000 in
set_option maxHeartbeats 4000000 in
theorem ipast_bad (R : Rt) (hR : RtOk R) (s : St) (v : Sv) (ep : Int) (t : ByteArray) (w : World) (hv : Sts w v s) (hB : StB s) (h0 : ¬ stF R s = 0) :
    Calls Tryz.prog 34 #[stV s v, .int .i64 ep, .string t] w fun e w' => e = .returned (.agg #[.int .i64 (stF R s), .int .i64 0, .bool false, .string ⟨#[]⟩, .int .i64 0, .int .i64 0, .int .i64 0]) ∧ Below w.heap.size w w' := by
  obtain ⟨W, hW⟩ : ∃ W, W = (w.alloc (stC s v 98)).alloc (.cells #[.int .i64 0, .int .i64 0, .bool false, .string ⟨#[]⟩, .int .i64 0, .int .i64 0, .int .i64 0] 41) := ⟨_, rfl⟩
  have hB0 : Below w.heap.size w W := by rw [hW]; exact two_new _ _
  have hS0 : StC W w.heap.size s v := by rw [hW]; exact (StC.new w s v _).below (one_new _) (by simp)
  have hA0 : W.heap[w.heap.size + 1]? = some (.cells #[.int .i64 0, .int .i64 0, .bool false, .string ⟨#[]⟩, .int .i64 0, .int .i64 0, .int .i64 0] 41) := by rw [hW]; exact heap_new2 w _ _
  have hv1 := hv.below hB0
  have hF := fun w' (hb : Below W.heap.size W w') => epochFault_any R hR s v ep w' (hv1.below hb) hB
  have e0 : epC R s ep = stF R s := epC_bad h0
  rw [e0] at hF
  have HA : Hid (∀ w', Below W.heap.size W w' → w'.heap[w.heap.size + 1]? = some (.cells #[.int .i64 0, .int .i64 0, .bool false, .string ⟨#[]⟩, .int .i64 0, .int .i64 0, .int .i64 0] 41)) := fun w' hb => (hb.block _ (Array.getElem?_eq_some_iff.1 hA0).1).trans hA0
  have h1 := code_ne h0
  generalize stF R s = q at *
  obtain ⟨a1, a2, a3, a4, c1, c2, c3, c4, rfl⟩ := hv.four
  unfold stC sv at hW
  unfold stV sv
  dsimp only at hW ⊢
  have HX : Hid (∀ w', Below W.heap.size W w' → w'.cell? ⟨w.heap.size, 0, none⟩ = some (.int .i64 s.ph) ∧ w'.cell? ⟨w.heap.size, 1, none⟩ = some (.int .i64 s.cu) ∧ w'.cell? ⟨w.heap.size, 2, none⟩ = some (.slice a1 s.d.length c1) ∧ w'.cell? ⟨w.heap.size, 3, none⟩ = some (.slice a2 s.n.length c2) ∧ w'.cell? ⟨w.heap.size, 4, none⟩ = some (.slice a3 s.h.length c3) ∧ w'.cell? ⟨w.heap.size, 5, none⟩ = some (.slice a4 s.p.length c4)) := fun w' hb => by
    have h := hS0.below hb hS0.lt
    exact ⟨h.c0, h.c1, h.c2, h.c3, h.c4, h.c5⟩
  unfold stV sv at hF
  dsimp only at hF
  generalize s.ph = ph at *
  generalize s.cu = cu at *
  generalize s.d.length = n1 at *
  generalize s.n.length = n2 at *
  generalize s.h.length = n3 at *
  generalize s.p.length = n4 at *
  have HW : Hid ((w.alloc (.cells #[.int .i64 ph, .int .i64 cu, .slice a1 n1 c1, .slice a2 n2 c2, .slice a3 n3 c3, .slice a4 n4 c4] 98)).alloc (.cells #[.int .i64 0, .int .i64 0, .bool false, .string ⟨#[]⟩, .int .i64 0, .int .i64 0, .int .i64 0] 41) = W) := hW.symm
  clear hv hv1 hB hW hA0 hS0 e0
  go_enter Tryz.func34, Tryz.ntmps34
  have hbr := Below.refl W.heap.size W
  obtain ⟨x0, x1, x2, x3, x4, x5⟩ := HX.out _ hbr
  go_wp2_with fail
  rw [HW.out]
  go_wp2_with fail
  refine (hF _ hbr).mono ?_
  rintro e w1 ⟨rfl, hb1⟩
  clear hF x0 x1 x2 x3 x4 x5 HX hbr
  obtain ⟨k0, k1, k2, k3, k4, k5, k6, f0, f1, f2, f3, f4, f5, f6⟩ := seven_cells (HA.out _ hb1)
  have hBB := below_after_of hB0 hb1
  clear HA hb1
  go_wp2
  exact bodyPost_ret (v := .agg #[.int .i64 q, .int .i64 0, .bool false, .string ⟨#[]⟩, .int .i64 0, .int .i64 0, .int .i64 0]) (by simp [results, Tryz.results34, go_sem, *]) rfl ⟨rfl, set7 hBB (Nat.le_succ _) _ _ _ _ _ _ _⟩
set_option maxRecDepth 100000 in
set_option maxHeartbeats 4000000 in
theorem ipast_none (R : Rt) (hR : RtOk R) (s : St) (v : Sv) (ep : Int) (t : ByteArray) (w : World) (hv : Sts w v s) (hB : StB s) (h0 : stF R s = 0) (h2 : inB ep 1 (s.h.length : Int) = false) :
    Calls Tryz.prog 34 #[stV s v, .int .i64 ep, .string t] w fun e w' => e = .returned (.agg #[.int .i64 4, .int .i64 0, .bool false, .string ⟨#[]⟩, .int .i64 0, .int .i64 0, .int .i64 0]) ∧ Below w.heap.size w w' := by
  obtain ⟨W, hW⟩ : ∃ W, W = (w.alloc (stC s v 98)).alloc (.cells #[.int .i64 0, .int .i64 0, .bool false, .string ⟨#[]⟩, .int .i64 0, .int .i64 0, .int .i64 0] 41) := ⟨_, rfl⟩
  have hB0 : Below w.heap.size w W := by rw [hW]; exact two_new _ _
  have hS0 : StC W w.heap.size s v := by rw [hW]; exact (StC.new w s v _).below (one_new _) (by simp)
  have hA0 : W.heap[w.heap.size + 1]? = some (.cells #[.int .i64 0, .int .i64 0, .bool false, .string ⟨#[]⟩, .int .i64 0, .int .i64 0, .int .i64 0] 41) := by rw [hW]; exact heap_new2 w _ _
  have hv1 := hv.below hB0
  have hF := fun w' (hb : Below W.heap.size W w') => epochFault_any R hR s v ep w' (hv1.below hb) hB
  have e0 : epC R s ep = 4 := epC_none h0 h2
  rw [e0] at hF
  have HA : Hid (∀ w', Below W.heap.size W w' → w'.heap[w.heap.size + 1]? = some (.cells #[.int .i64 0, .int .i64 0, .bool false, .string ⟨#[]⟩, .int .i64 0, .int .i64 0, .int .i64 0] 41)) := fun w' hb => (hb.block _ (Array.getElem?_eq_some_iff.1 hA0).1).trans hA0
  obtain ⟨a1, a2, a3, a4, c1, c2, c3, c4, rfl⟩ := hv.four
  unfold stC sv at hW
  unfold stV sv
  dsimp only at hW ⊢
  have HX : Hid (∀ w', Below W.heap.size W w' → w'.cell? ⟨w.heap.size, 0, none⟩ = some (.int .i64 s.ph) ∧ w'.cell? ⟨w.heap.size, 1, none⟩ = some (.int .i64 s.cu) ∧ w'.cell? ⟨w.heap.size, 2, none⟩ = some (.slice a1 s.d.length c1) ∧ w'.cell? ⟨w.heap.size, 3, none⟩ = some (.slice a2 s.n.length c2) ∧ w'.cell? ⟨w.heap.size, 4, none⟩ = some (.slice a3 s.h.length c3) ∧ w'.cell? ⟨w.heap.size, 5, none⟩ = some (.slice a4 s.p.length c4)) := fun w' hb => by
    have h := hS0.below hb hS0.lt
    exact ⟨h.c0, h.c1, h.c2, h.c3, h.c4, h.c5⟩
  unfold stV sv at hF
  dsimp only at hF
  generalize s.ph = ph at *
  generalize s.cu = cu at *
  generalize s.d.length = n1 at *
  generalize s.n.length = n2 at *
  generalize s.h.length = n3 at *
  generalize s.p.length = n4 at *
  have HW : Hid ((w.alloc (.cells #[.int .i64 ph, .int .i64 cu, .slice a1 n1 c1, .slice a2 n2 c2, .slice a3 n3 c3, .slice a4 n4 c4] 98)).alloc (.cells #[.int .i64 0, .int .i64 0, .bool false, .string ⟨#[]⟩, .int .i64 0, .int .i64 0, .int .i64 0] 41) = W) := hW.symm
  clear hv hv1 hB hW hA0 hS0 h0 h2 e0
  go_enter Tryz.func34, Tryz.ntmps34
  have hbr := Below.refl W.heap.size W
  obtain ⟨x0, x1, x2, x3, x4, x5⟩ := HX.out _ hbr
  go_wp2_with fail
  rw [HW.out]
  go_wp2_with fail
  refine (hF _ hbr).mono ?_
  rintro e w1 ⟨rfl, hb1⟩
  clear hF x0 x1 x2 x3 x4 x5 HX hbr
  obtain ⟨k0, k1, k2, k3, k4, k5, k6, f0, f1, f2, f3, f4, f5, f6⟩ := seven_cells (HA.out _ hb1)
  have hBB := below_after_of hB0 hb1
  clear HA hb1
  go_wp2
  exact bodyPost_ret (v := .agg #[.int .i64 4, .int .i64 0, .bool false, .string ⟨#[]⟩, .int .i64 0, .int .i64 0, .int .i64 0]) (by simp [results, Tryz.results34, go_sem, *]) rfl ⟨rfl, set7 hBB (Nat.le_succ _) _ _ _ _ _ _ _⟩
set_option maxRecDepth 100000 in
set_option maxHeartbeats 4000000 in
theorem ipast_ok (R : Rt) (hR : RtOk R) (s : St) (v : Sv) (ep : Int) (t : ByteArray) (w : World) (hv : Sts w v s) (hB : StB s) (ht : t.size ≤ 1048576) (k : Nat) (hk : k < s.p.length) (hep : ep = (k : Int) + 1) (h0 : stF R s = 0) :
    Calls Tryz.prog 34 #[stV s v, .int .i64 ep, .string t] w fun e w' => e = .returned (ansV (anC (dAt s.p k) t) (anK (dAt s.p k) t) (anO (dAt s.p k) t)) ∧ Below w.heap.size w w' := by
  have hst := stOk h0
  have hlen := hst.same
  have hp10 := hst.ten
  obtain ⟨W, hW⟩ : ∃ W, W = (w.alloc (stC s v 98)).alloc (.cells #[.int .i64 0, .int .i64 0, .bool false, .string ⟨#[]⟩, .int .i64 0, .int .i64 0, .int .i64 0] 41) := ⟨_, rfl⟩
  have hB0 : Below w.heap.size w W := by rw [hW]; exact two_new _ _
  have hS0 : StC W w.heap.size s v := by rw [hW]; exact (StC.new w s v _).below (one_new _) (by simp)
  have hA0 : W.heap[w.heap.size + 1]? = some (.cells #[.int .i64 0, .int .i64 0, .bool false, .string ⟨#[]⟩, .int .i64 0, .int .i64 0, .int .i64 0] 41) := by rw [hW]; exact heap_new2 w _ _
  have hv1 := hv.below hB0
  have hF := fun w' (hb : Below W.heap.size W w') => epochFault_any R hR s v ep w' (hv1.below hb) hB
  have e0 : epC R s ep = 0 := epC_ok h0 (by unfold inB; simp; omega)
  rw [e0] at hF
  have HA : Hid (∀ w', Below W.heap.size W w' → w'.heap[w.heap.size + 1]? = some (.cells #[.int .i64 0, .int .i64 0, .bool false, .string ⟨#[]⟩, .int .i64 0, .int .i64 0, .int .i64 0] 41)) := fun w' hb => (hb.block _ (Array.getElem?_eq_some_iff.1 hA0).1).trans hA0
  obtain ⟨a1, a2, a3, a4, c1, c2, c3, c4, rfl⟩ := hv.four
  unfold stC sv at hW
  unfold stV sv
  dsimp only at hW ⊢
  have HX : Hid (∀ w', Below W.heap.size W w' → w'.cell? ⟨w.heap.size, 0, none⟩ = some (.int .i64 s.ph) ∧ w'.cell? ⟨w.heap.size, 1, none⟩ = some (.int .i64 s.cu) ∧ w'.cell? ⟨w.heap.size, 2, none⟩ = some (.slice a1 s.d.length c1) ∧ w'.cell? ⟨w.heap.size, 3, none⟩ = some (.slice a2 s.n.length c2) ∧ w'.cell? ⟨w.heap.size, 4, none⟩ = some (.slice a3 s.h.length c3) ∧ w'.cell? ⟨w.heap.size, 5, none⟩ = some (.slice a4 s.p.length c4)) := fun w' hb => by
    have h := hS0.below hb hS0.lt
    exact ⟨h.c0, h.c1, h.c2, h.c3, h.c4, h.c5⟩
  unfold stV sv at hF
  dsimp only at hF
  have hvp := hv1.p
  unfold sv at hvp
  dsimp only at hvp
  obtain ⟨-, b, off, rfl, hbl, hcs⟩ := hvp.at (by omega)
  obtain ⟨u, hcu, hru⟩ := hcs k hk
  have hpd := hB.pd k hk
  have hAn := fun w' (hb : Below W.heap.size W w') => implAnswerOf_any u (dAt s.p k) t w' (hru.below hb) hpd.2 hpd.1 ht
  have HU : Hid (∀ w', Below W.heap.size W w' → w'.cell? ⟨b, off + k, none⟩ = some u) := fun w' hb => (hb.cell (p := ⟨b, off + k, none⟩) hbl).trans hcu
  obtain ⟨ua, uc, rfl⟩ := hru.shape
  unfold ansV at *
  generalize anC (dAt s.p k) t = q at *
  generalize anK (dAt s.p k) t = ky at *
  generalize anO (dAt s.p k) t = o0 at *
  generalize o0.isSome = fz at *
  generalize (o0.getD rcZ).l = z0 at *
  generalize (o0.getD rcZ).v = z1 at *
  generalize (o0.getD rcZ).o = z2 at *
  generalize (o0.getD rcZ).p = z3 at *
  generalize (dAt s.p k).length = un at *
  generalize s.ph = ph at *
  generalize s.cu = cu at *
  generalize s.d.length = n1 at *
  generalize s.n.length = n2 at *
  generalize s.h.length = n3 at *
  generalize s.p.length = n4 at *
  have HW : Hid ((w.alloc (.cells #[.int .i64 ph, .int .i64 cu, .slice a1 n1 c1, .slice a2 n2 c2, .slice a3 n3 c3, .slice (some ⟨b, off, none⟩) n4 c4] 98)).alloc (.cells #[.int .i64 0, .int .i64 0, .bool false, .string ⟨#[]⟩, .int .i64 0, .int .i64 0, .int .i64 0] 41) = W) := hW.symm
  subst hep
  have hw1 : IntKind.i64.wrap ((k : Int) + 1 - 1) = (k : Int) := by rw [IntKind.wrap_i64]; omega
  have hk0 : ¬ ((k : Int) < 0) := by omega
  have hk1 : (k : Int) < (n4 : Int) := by omega
  have hsub : (k : Int) + 1 - 1 = (k : Int) := by omega
  clear hv hv1 hB hW hA0 hS0 h0 hst hvp hcs hcu hru hpd hlen hbl ht e0
  go_enter Tryz.func34, Tryz.ntmps34
  have hbr := Below.refl W.heap.size W
  obtain ⟨x0, x1, x2, x3, x4, x5⟩ := HX.out _ hbr
  go_wp2_with fail
  rw [HW.out]
  go_wp2_with fail
  refine (hF _ hbr).mono ?_
  rintro e w1 ⟨rfl, hb1⟩
  clear hF x0 x1 x2 x3 x4 x5 hbr
  obtain ⟨x0, x1, x2, x3, x4, x5⟩ := HX.out _ hb1
  have hu1 := HU.out _ hb1
  go_wp2_with fail
  refine (hAn _ hb1).mono ?_
  rintro e w2 ⟨rfl, hb2⟩
  have hb3 := below_after_of hb1 hb2
  clear hAn x0 x1 x2 x3 x4 x5 HX HU hu1 hb1 hb2
  obtain ⟨k0, k1, k2, k3, k4, k5, k6, f0, f1, f2, f3, f4, f5, f6⟩ := seven_cells (HA.out _ hb3)
  have hBB := below_after_of hB0 hb3
  clear HA hb3
  go_wp2
  exact bodyPost_ret (v := .agg #[.int .i64 q, .int .i64 ky, .bool fz, .string z0, .int .i64 z1, .int .i64 z2, .int .i64 z3]) (by simp [results, Tryz.results34, go_sem, *]) rfl ⟨rfl, set7 hBB (Nat.le_succ _) _ _ _ _ _ _ _⟩
theorem implPastAnswer_any (R : Rt) (hR : RtOk R) (s : St) (v : Sv) (ep : Int) (t : ByteArray) (w : World) (hv : Sts w v s) (hB : StB s) (ht : t.size ≤ 1048576) :
    Calls Tryz.prog 34 #[stV s v, .int .i64 ep, .string t] w fun e w' => e = .returned (paV R s ep t) ∧ Below w.heap.size w w' := by
  unfold paV
  by_cases h0 : stF R s = 0
  · rcases Bool.eq_false_or_eq_true (inB ep 1 (s.h.length : Int)) with h2 | h2
    · rw [if_pos (epC_ok h0 h2)]
      have hb := inB_bd h2
      have hlen := (stOk h0).same
      obtain ⟨k, hk⟩ : ∃ k : Nat, ep = (k : Int) + 1 := ⟨(ep - 1).toNat, by omega⟩
      rw [show (ep - 1).toNat = k by omega]
      exact ipast_ok R hR s v ep t w hv hB ht k (by omega) hk h0
    · rw [epC_none h0 h2, if_neg (by decide)]
      exact ipast_none R hR s v ep t w hv hB h0 h2
  · rw [epC_bad h0, if_neg h0]
    exact ipast_bad R hR s v ep t w hv hB h0
end U
end Go.Proofs.YtihhigmceeabmaaGreat
