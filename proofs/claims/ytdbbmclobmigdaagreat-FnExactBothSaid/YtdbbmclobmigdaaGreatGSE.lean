/- Joined: what the texts behind it need. -/
import Derived.Test.YtdbbmclobmigdaaGreatGSD
import Derived.Test.YtdbbmclobmigdaaGreatRec3
/- The fault of a reply, as the model tells it. -/
namespace Go.Proofs.YtdbbmclobmigdaaGreat
open Go.RowKit
namespace U
set_option maxRecDepth 100000 in
set_option maxHeartbeats 2000000 in
theorem l13Fault_out (g : Nat) (e : Int) (hl : Bool) (l : ByteArray) (v o p : Int) (so st : Bool) (sv : Int) (a : Option Addr) (pn c : Nat) (sx : Bool) (sk sy : Int) (a' : Option Addr) (fn c' : Nat) (w : World) (hb : RpB w g e hl l v o p so st sv (.slice a pn c) sx sk sy (.slice a' fn c')) (h1 : inB e 1 10 = false) :
    Calls Tryz.prog 34 #[.pointer (some ⟨g, 0, none⟩)] w fun x w' => x = .returned (.int .i64 (3)) ∧ Below w.heap.size w w' := by
  obtain ⟨k0, k1, k2, k3, k4, k5, k6, k7, k8, k9, k10, k11, k12, k13⟩ := hb.cells
  have hI := fun w => l1In_any e 1 10 w
  rw [h1] at hI
  clear hb h1
  go_enter Tryz.func34, Tryz.ntmps34
  go_wp2_with fail
  refine (hI _).mono ?_
  rintro x wq ⟨rfl, hq⟩
  rw [hq]
  clear hq hI wq
  go_wp2
  go_ret
  exact ⟨rfl, Below.refl _ _⟩
set_option maxRecDepth 100000 in
set_option maxHeartbeats 2000000 in
theorem l13Fault_form (g : Nat) (e : Int) (l : ByteArray) (v o p : Int) (so st : Bool) (sv : Int) (a : Option Addr) (pn c : Nat) (sx : Bool) (sk sy : Int) (a' : Option Addr) (fn c' : Nat) (w : World) (hb : RpB w g e false l v o p so st sv (.slice a pn c) sx sk sy (.slice a' fn c')) (h1 : inB e 1 10 = true) (hz : zrR l v o p = false) :
    Calls Tryz.prog 34 #[.pointer (some ⟨g, 0, none⟩)] w fun x w' => x = .returned (.int .i64 (1)) ∧ Below w.heap.size w w' := by
  obtain ⟨k0, k1, k2, k3, k4, k5, k6, k7, k8, k9, k10, k11, k12, k13⟩ := hb.cells
  have hI := fun w => l1In_any e 1 10 w
  rw [h1] at hI
  have hN := fun w => rec_zeroN l v o p w
  rw [hz] at hN
  clear hb h1 hz
  go_enter Tryz.func34, Tryz.ntmps34
  go_wp2_with fail
  refine (hI _).mono ?_
  rintro x wq ⟨rfl, hq⟩
  rw [hq]
  clear hq hI wq
  go_wp2
  go_ret
  exact ⟨rfl, Below.refl _ _⟩
set_option maxRecDepth 100000 in
set_option maxHeartbeats 2000000 in
theorem l13Fault_rec (g : Nat) (e : Int) (l : ByteArray) (v o p : Int) (so st : Bool) (sv : Int) (a : Option Addr) (pn c : Nat) (sx : Bool) (sk sy : Int) (a' : Option Addr) (fn c' : Nat) (w : World) (hb : RpB w g e true l v o p so st sv (.slice a pn c) sx sk sy (.slice a' fn c')) (h1 : inB e 1 10 = true) (hs : l.size ≤ 1048576) (hc : ¬ recC l v o p = 0) :
    Calls Tryz.prog 34 #[.pointer (some ⟨g, 0, none⟩)] w fun x w' => x = .returned (.int .i64 (recC l v o p)) ∧ Below w.heap.size w w' := by
  obtain ⟨k0, k1, k2, k3, k4, k5, k6, k7, k8, k9, k10, k11, k12, k13⟩ := hb.cells
  have hI := fun w => l1In_any e 1 10 w
  rw [h1] at hI
  have hL := fun w' (hbq : Below w.heap.size w w') => l3Fault_at g 2 l v o p w' (hb.below hbq).rc hs
  have hnz := code_ne hc
  have hL0 := hL w (Below.refl _ _)
  generalize recC l v o p = rc at *
  clear hb h1 hs hc hL
  go_enter Tryz.func34, Tryz.ntmps34
  go_wp2_with fail
  refine (hI _).mono ?_
  rintro x wq ⟨rfl, hq⟩
  rw [hq]
  clear hq hI wq
  go_wp2_with fail
  refine hL0.mono ?_
  rintro x w1 ⟨rfl, hb1⟩
  clear hL0
  go_wp2
  go_ret
  exact ⟨rfl, hb1⟩
set_option maxRecDepth 100000 in
set_option maxHeartbeats 2000000 in
theorem l13Fault_saidt (g : Nat) (e : Int) (l : ByteArray) (v o p : Int) (so st : Bool) (sv : Int) (a : Option Addr) (pn c : Nat) (sx : Bool) (sk sy : Int) (a' : Option Addr) (fn c' : Nat) (z : Bool) (w : World) (hb : RpB w g e true l v o p so st sv (.slice a pn c) sx sk sy (.slice a' fn c')) (HZ : Hid ((z = false ∧ (sx = true ∨ (sx = false ∧ ¬ (sk = 0 ∧ sy = 0)) ∨ (sx = false ∧ sk = 0 ∧ sy = 0 ∧ 0 < fn))) ∨ (z = true ∧ sx = false ∧ sk = 0 ∧ sy = 0 ∧ fn = 0))) (h1 : inB e 1 10 = true) (hs : l.size ≤ 1048576) (hc : recC l v o p = 0) (hd : ¬ sdC so st sv pn z = 0) :
    Calls Tryz.prog 34 #[.pointer (some ⟨g, 0, none⟩)] w fun x w' => x = .returned (.int .i64 (sdC so st sv pn z)) ∧ Below w.heap.size w w' := by
  obtain ⟨k0, k1, k2, k3, k4, k5, k6, k7, k8, k9, k10, k11, k12, k13⟩ := hb.cells
  have hI := fun w => l1In_any e 1 10 w
  rw [h1] at hI
  have hL0 := l3Fault_at g 2 l v o p w hb.rc hs
  rw [hc] at hL0
  have HSD : Hid (∀ w', Below w.heap.size w w' → Calls Tryz.prog 68 #[.pointer (some ⟨g, 6, none⟩)] w' fun x w'' => x = .returned (.int .i64 (sdC so st sv pn z)) ∧ w'' = w') := fun w' hbq => l8Fault_off g 6 so st sv a pn c sx sk sy a' fn c' z w' (hb.below hbq).sd HZ
  have hnz := code_ne hd
  generalize sdC so st sv pn z = sd at *
  clear h1 hd HZ hb hs hc
  go_enter Tryz.func34, Tryz.ntmps34
  go_wp2_with fail
  refine (hI _).mono ?_
  rintro x wq ⟨rfl, hq⟩
  rw [hq]
  clear hq hI wq
  go_wp2_with fail
  refine hL0.mono ?_
  rintro x w1 ⟨rfl, hb1⟩
  clear hL0 k0 k1 k2 k3 k4 k5 k6 k7 k8 k9 k10 k11 k12 k13
  have hSd := HSD.out w1 hb1
  go_wp2_with fail
  refine hSd.mono ?_
  rintro x w2 ⟨rfl, hw2⟩
  rw [hw2]
  clear hw2 hSd w2
  go_wp2
  go_ret
  exact ⟨rfl, hb1⟩
set_option maxRecDepth 100000 in
set_option maxHeartbeats 2000000 in
theorem l13Fault_saidf (g : Nat) (e : Int) (l : ByteArray) (v o p : Int) (so st : Bool) (sv : Int) (a : Option Addr) (pn c : Nat) (sx : Bool) (sk sy : Int) (a' : Option Addr) (fn c' : Nat) (z : Bool) (w : World) (hb : RpB w g e false l v o p so st sv (.slice a pn c) sx sk sy (.slice a' fn c')) (HZ : Hid ((z = false ∧ (sx = true ∨ (sx = false ∧ ¬ (sk = 0 ∧ sy = 0)) ∨ (sx = false ∧ sk = 0 ∧ sy = 0 ∧ 0 < fn))) ∨ (z = true ∧ sx = false ∧ sk = 0 ∧ sy = 0 ∧ fn = 0))) (h1 : inB e 1 10 = true) (hz : zrR l v o p = true) (hd : ¬ sdC so st sv pn z = 0) :
    Calls Tryz.prog 34 #[.pointer (some ⟨g, 0, none⟩)] w fun x w' => x = .returned (.int .i64 (sdC so st sv pn z)) ∧ Below w.heap.size w w' := by
  obtain ⟨k0, k1, k2, k3, k4, k5, k6, k7, k8, k9, k10, k11, k12, k13⟩ := hb.cells
  have hI := fun w => l1In_any e 1 10 w
  rw [h1] at hI
  have hN := fun w => rec_zeroN l v o p w
  rw [hz] at hN
  have HSD : Hid (∀ w', Below w.heap.size w w' → Calls Tryz.prog 68 #[.pointer (some ⟨g, 6, none⟩)] w' fun x w'' => x = .returned (.int .i64 (sdC so st sv pn z)) ∧ w'' = w') := fun w' hbq => l8Fault_off g 6 so st sv a pn c sx sk sy a' fn c' z w' (hb.below hbq).sd HZ
  have hnz := code_ne hd
  generalize sdC so st sv pn z = sd at *
  clear h1 hd HZ hb hz
  go_enter Tryz.func34, Tryz.ntmps34
  go_wp2_with fail
  refine (hI _).mono ?_
  rintro x wq ⟨rfl, hq⟩
  rw [hq]
  clear hq hI wq
  obtain ⟨w1, hw1⟩ : ∃ w1, w1 = w := ⟨_, rfl⟩
  have hb1 : Below w.heap.size w w1 := by rw [hw1]; exact Below.refl _ _
  have HW1 : Hid (w = w1) := hw1.symm
  clear hw1
  have hSd := HSD.out w1 hb1
  go_wp2_with fail
  rw [HW1.out]
  refine hSd.mono ?_
  rintro x w2 ⟨rfl, hw2⟩
  rw [hw2]
  clear hw2 hSd w2
  go_wp2
  go_ret
  exact ⟨rfl, hb1⟩
set_option maxRecDepth 100000 in
set_option maxHeartbeats 2000000 in
theorem l13Fault_finttt (g : Nat) (e : Int) (l : ByteArray) (v o p : Int) (so : Bool) (sv : Int) (a : Option Addr) (pn c : Nat) (sx : Bool) (sk sy : Int) (a' : Option Addr) (fn c' : Nat) (z : Bool) (w : World) (hb : RpB w g e true l v o p so true sv (.slice a pn c) sx sk sy (.slice a' fn c')) (HZ : Hid ((z = false ∧ (sx = true ∨ (sx = false ∧ ¬ (sk = 0 ∧ sy = 0)) ∨ (sx = false ∧ sk = 0 ∧ sy = 0 ∧ 0 < fn))) ∨ (z = true ∧ sx = false ∧ sk = 0 ∧ sy = 0 ∧ fn = 0))) (h1 : inB e 1 10 = true) (hs : l.size ≤ 1048576) (hc : recC l v o p = 0) (hd : sdC so true sv pn z = 0) (hq : sv = sumL (packL l v o p)) :
    Calls Tryz.prog 34 #[.pointer (some ⟨g, 0, none⟩)] w fun x w' => x = .returned (.int .i64 (0)) ∧ Below w.heap.size w w' := by
  obtain ⟨k0, k1, k2, k3, k4, k5, k6, k7, k8, k9, k10, k11, k12, k13⟩ := hb.cells
  have hI := fun w => l1In_any e 1 10 w
  rw [h1] at hI
  have hL0 := l3Fault_at g 2 l v o p w hb.rc hs
  rw [hc] at hL0
  have HSD : Hid (∀ w', Below w.heap.size w w' → Calls Tryz.prog 68 #[.pointer (some ⟨g, 6, none⟩)] w' fun x w'' => x = .returned (.int .i64 (sdC so true sv pn z)) ∧ w'' = w') := fun w' hbq => l8Fault_off g 6 so true sv a pn c sx sk sy a' fn c' z w' (hb.below hbq).sd HZ
  have HSM : Hid (∀ w', Below w.heap.size w w' → Calls Tryz.prog 69 #[.pointer (some ⟨g, 2, none⟩)] w' fun x w'' => x = .returned (.int .i64 (sumL (packL l v o p))) ∧ Below w'.heap.size w' w'') := fun w' hbq => l3Sum_at g 2 l v o p w' (hb.below hbq).rt (recOk hc) (hb.below hbq).lt
  have hqb : (sv != sumL (packL l v o p)) = false := by simp [hq]
  generalize sumL (packL l v o p) = rs at *
  rw [hd] at HSD
  have HBB : Hid (∀ w', Below w.heap.size w w' → w'.cell? ⟨g, 1, none⟩ = some (.bool true) ∧ w'.cell? ⟨g, 7, none⟩ = some (.bool true) ∧ w'.cell? ⟨g, 8, none⟩ = some (.int .i64 sv)) := fun w' hbq => ⟨(hb.below hbq).cells.2.1, (hb.below hbq).cells.2.2.2.2.2.2.2.1, (hb.below hbq).cells.2.2.2.2.2.2.2.2.1⟩
  clear h1 hd HZ hb hs hc hq
  go_enter Tryz.func34, Tryz.ntmps34
  go_wp2_with fail
  refine (hI _).mono ?_
  rintro x wq ⟨rfl, hq⟩
  rw [hq]
  clear hq hI wq
  go_wp2_with fail
  refine hL0.mono ?_
  rintro x w1 ⟨rfl, hb1⟩
  clear hL0 k0 k1 k2 k3 k4 k5 k6 k7 k8 k9 k10 k11 k12 k13
  have hSd := HSD.out w1 hb1
  go_wp2_with fail
  refine hSd.mono ?_
  rintro x w2 ⟨rfl, hw2⟩
  rw [hw2]
  clear hw2 hSd w2
  obtain ⟨d1, d7, d8⟩ := HBB.out w1 hb1
  have t1 := After.cell d1
  have t7 := After.cell d7
  have t8 := After.cell d8
  have hne := After.ne w1
  have hSm := fun w' (hbq : Below w1.heap.size w1 w') => HSM.out w' (below_after_of hb1 hbq)
  go_wp2_with fail
  refine wp_region_after (by kernel_rfl) (by kernel_rfl) ?_
  repeat (first | go_big_quiet_skip | (go_big_quiet_want; go_big_quiet_op; first | go_big_quiet_on | go_big_quiet_call (first | (go_at_call 69; refine (hSm _ (After.b _)).mono ?_; rintro x wq ⟨rfl, hbq⟩; exact ⟨rfl, after_mk (below_after_of (After.b _) hbq)⟩))))
  refine wpQuiet_nil ?_
  rintro _ ⟨n6, rfl⟩
  have hb6 := n6.b
  generalize n6.w = w6 at *
  have hb7 := below_after_of hb1 hb6
  clear hb1 hb6 t1 t7 t8 hne d1 d7 d8 n6
  go_wp2
  go_ret
  exact ⟨rfl, hb7⟩
set_option maxRecDepth 100000 in
set_option maxHeartbeats 2000000 in
theorem l13Fault_finttf (g : Nat) (e : Int) (l : ByteArray) (v o p : Int) (so : Bool) (sv : Int) (a : Option Addr) (pn c : Nat) (sx : Bool) (sk sy : Int) (a' : Option Addr) (fn c' : Nat) (z : Bool) (w : World) (hb : RpB w g e true l v o p so true sv (.slice a pn c) sx sk sy (.slice a' fn c')) (HZ : Hid ((z = false ∧ (sx = true ∨ (sx = false ∧ ¬ (sk = 0 ∧ sy = 0)) ∨ (sx = false ∧ sk = 0 ∧ sy = 0 ∧ 0 < fn))) ∨ (z = true ∧ sx = false ∧ sk = 0 ∧ sy = 0 ∧ fn = 0))) (h1 : inB e 1 10 = true) (hs : l.size ≤ 1048576) (hc : recC l v o p = 0) (hd : sdC so true sv pn z = 0) (hq : ¬ sv = sumL (packL l v o p)) :
    Calls Tryz.prog 34 #[.pointer (some ⟨g, 0, none⟩)] w fun x w' => x = .returned (.int .i64 (1)) ∧ Below w.heap.size w w' := by
  obtain ⟨k0, k1, k2, k3, k4, k5, k6, k7, k8, k9, k10, k11, k12, k13⟩ := hb.cells
  have hI := fun w => l1In_any e 1 10 w
  rw [h1] at hI
  have hL0 := l3Fault_at g 2 l v o p w hb.rc hs
  rw [hc] at hL0
  have HSD : Hid (∀ w', Below w.heap.size w w' → Calls Tryz.prog 68 #[.pointer (some ⟨g, 6, none⟩)] w' fun x w'' => x = .returned (.int .i64 (sdC so true sv pn z)) ∧ w'' = w') := fun w' hbq => l8Fault_off g 6 so true sv a pn c sx sk sy a' fn c' z w' (hb.below hbq).sd HZ
  have HSM : Hid (∀ w', Below w.heap.size w w' → Calls Tryz.prog 69 #[.pointer (some ⟨g, 2, none⟩)] w' fun x w'' => x = .returned (.int .i64 (sumL (packL l v o p))) ∧ Below w'.heap.size w' w'') := fun w' hbq => l3Sum_at g 2 l v o p w' (hb.below hbq).rt (recOk hc) (hb.below hbq).lt
  have hqb : (sv != sumL (packL l v o p)) = true := by simp [hq]
  generalize sumL (packL l v o p) = rs at *
  rw [hd] at HSD
  have HBB : Hid (∀ w', Below w.heap.size w w' → w'.cell? ⟨g, 1, none⟩ = some (.bool true) ∧ w'.cell? ⟨g, 7, none⟩ = some (.bool true) ∧ w'.cell? ⟨g, 8, none⟩ = some (.int .i64 sv)) := fun w' hbq => ⟨(hb.below hbq).cells.2.1, (hb.below hbq).cells.2.2.2.2.2.2.2.1, (hb.below hbq).cells.2.2.2.2.2.2.2.2.1⟩
  clear h1 hd HZ hb hs hc hq
  go_enter Tryz.func34, Tryz.ntmps34
  go_wp2_with fail
  refine (hI _).mono ?_
  rintro x wq ⟨rfl, hq⟩
  rw [hq]
  clear hq hI wq
  go_wp2_with fail
  refine hL0.mono ?_
  rintro x w1 ⟨rfl, hb1⟩
  clear hL0 k0 k1 k2 k3 k4 k5 k6 k7 k8 k9 k10 k11 k12 k13
  have hSd := HSD.out w1 hb1
  go_wp2_with fail
  refine hSd.mono ?_
  rintro x w2 ⟨rfl, hw2⟩
  rw [hw2]
  clear hw2 hSd w2
  obtain ⟨d1, d7, d8⟩ := HBB.out w1 hb1
  have t1 := After.cell d1
  have t7 := After.cell d7
  have t8 := After.cell d8
  have hne := After.ne w1
  have hSm := fun w' (hbq : Below w1.heap.size w1 w') => HSM.out w' (below_after_of hb1 hbq)
  go_wp2_with fail
  refine wp_region_after (by kernel_rfl) (by kernel_rfl) ?_
  repeat (first | go_big_quiet_skip | (go_big_quiet_want; go_big_quiet_op; first | go_big_quiet_on | go_big_quiet_call (first | (go_at_call 69; refine (hSm _ (After.b _)).mono ?_; rintro x wq ⟨rfl, hbq⟩; exact ⟨rfl, after_mk (below_after_of (After.b _) hbq)⟩))))
  refine wpQuiet_nil ?_
  rintro _ ⟨n6, rfl⟩
  have hb6 := n6.b
  generalize n6.w = w6 at *
  have hb7 := below_after_of hb1 hb6
  clear hb1 hb6 t1 t7 t8 hne d1 d7 d8 n6
  go_wp2
  go_ret
  exact ⟨rfl, hb7⟩
set_option maxRecDepth 100000 in
set_option maxHeartbeats 2000000 in
theorem l13Fault_fintf (g : Nat) (e : Int) (l : ByteArray) (v o p : Int) (so : Bool) (sv : Int) (a : Option Addr) (pn c : Nat) (sx : Bool) (sk sy : Int) (a' : Option Addr) (fn c' : Nat) (z : Bool) (w : World) (hb : RpB w g e true l v o p so false sv (.slice a pn c) sx sk sy (.slice a' fn c')) (HZ : Hid ((z = false ∧ (sx = true ∨ (sx = false ∧ ¬ (sk = 0 ∧ sy = 0)) ∨ (sx = false ∧ sk = 0 ∧ sy = 0 ∧ 0 < fn))) ∨ (z = true ∧ sx = false ∧ sk = 0 ∧ sy = 0 ∧ fn = 0))) (h1 : inB e 1 10 = true) (hs : l.size ≤ 1048576) (hc : recC l v o p = 0) (hd : sdC so false sv pn z = 0) :
    Calls Tryz.prog 34 #[.pointer (some ⟨g, 0, none⟩)] w fun x w' => x = .returned (.int .i64 (1)) ∧ Below w.heap.size w w' := by
  obtain ⟨k0, k1, k2, k3, k4, k5, k6, k7, k8, k9, k10, k11, k12, k13⟩ := hb.cells
  have hI := fun w => l1In_any e 1 10 w
  rw [h1] at hI
  have hL0 := l3Fault_at g 2 l v o p w hb.rc hs
  rw [hc] at hL0
  have HSD : Hid (∀ w', Below w.heap.size w w' → Calls Tryz.prog 68 #[.pointer (some ⟨g, 6, none⟩)] w' fun x w'' => x = .returned (.int .i64 (sdC so false sv pn z)) ∧ w'' = w') := fun w' hbq => l8Fault_off g 6 so false sv a pn c sx sk sy a' fn c' z w' (hb.below hbq).sd HZ
  rw [hd] at HSD
  have HBB : Hid (∀ w', Below w.heap.size w w' → w'.cell? ⟨g, 1, none⟩ = some (.bool true) ∧ w'.cell? ⟨g, 7, none⟩ = some (.bool false) ∧ w'.cell? ⟨g, 8, none⟩ = some (.int .i64 sv)) := fun w' hbq => ⟨(hb.below hbq).cells.2.1, (hb.below hbq).cells.2.2.2.2.2.2.2.1, (hb.below hbq).cells.2.2.2.2.2.2.2.2.1⟩
  clear h1 hd HZ hb hs hc
  go_enter Tryz.func34, Tryz.ntmps34
  go_wp2_with fail
  refine (hI _).mono ?_
  rintro x wq ⟨rfl, hq⟩
  rw [hq]
  clear hq hI wq
  go_wp2_with fail
  refine hL0.mono ?_
  rintro x w1 ⟨rfl, hb1⟩
  clear hL0 k0 k1 k2 k3 k4 k5 k6 k7 k8 k9 k10 k11 k12 k13
  have hSd := HSD.out w1 hb1
  go_wp2_with fail
  refine hSd.mono ?_
  rintro x w2 ⟨rfl, hw2⟩
  rw [hw2]
  clear hw2 hSd w2
  obtain ⟨d1, d7, d8⟩ := HBB.out w1 hb1
  have t1 := After.cell d1
  have t7 := After.cell d7
  have t8 := After.cell d8
  have hne := After.ne w1
  go_wp2_with fail
  refine wp_region_after (by kernel_rfl) (by kernel_rfl) ?_
  repeat (first | go_big_quiet_skip | (go_big_quiet_want; go_big_quiet_op; first | go_big_quiet_on | go_big_quiet_call (first | fail)))
  refine wpQuiet_nil ?_
  rintro _ ⟨n6, rfl⟩
  have hb6 := n6.b
  generalize n6.w = w6 at *
  have hb7 := below_after_of hb1 hb6
  clear hb1 hb6 t1 t7 t8 hne d1 d7 d8 n6
  go_wp2
  go_ret
  exact ⟨rfl, hb7⟩
set_option maxRecDepth 100000 in
set_option maxHeartbeats 2000000 in
theorem l13Fault_finft (g : Nat) (e : Int) (l : ByteArray) (v o p : Int) (so : Bool) (sv : Int) (a : Option Addr) (pn c : Nat) (sx : Bool) (sk sy : Int) (a' : Option Addr) (fn c' : Nat) (z : Bool) (w : World) (hb : RpB w g e false l v o p so true sv (.slice a pn c) sx sk sy (.slice a' fn c')) (HZ : Hid ((z = false ∧ (sx = true ∨ (sx = false ∧ ¬ (sk = 0 ∧ sy = 0)) ∨ (sx = false ∧ sk = 0 ∧ sy = 0 ∧ 0 < fn))) ∨ (z = true ∧ sx = false ∧ sk = 0 ∧ sy = 0 ∧ fn = 0))) (h1 : inB e 1 10 = true) (hz : zrR l v o p = true) (hd : sdC so true sv pn z = 0) :
    Calls Tryz.prog 34 #[.pointer (some ⟨g, 0, none⟩)] w fun x w' => x = .returned (.int .i64 (1)) ∧ Below w.heap.size w w' := by
  obtain ⟨k0, k1, k2, k3, k4, k5, k6, k7, k8, k9, k10, k11, k12, k13⟩ := hb.cells
  have hI := fun w => l1In_any e 1 10 w
  rw [h1] at hI
  have hN := fun w => rec_zeroN l v o p w
  rw [hz] at hN
  have HSD : Hid (∀ w', Below w.heap.size w w' → Calls Tryz.prog 68 #[.pointer (some ⟨g, 6, none⟩)] w' fun x w'' => x = .returned (.int .i64 (sdC so true sv pn z)) ∧ w'' = w') := fun w' hbq => l8Fault_off g 6 so true sv a pn c sx sk sy a' fn c' z w' (hb.below hbq).sd HZ
  rw [hd] at HSD
  have HBB : Hid (∀ w', Below w.heap.size w w' → w'.cell? ⟨g, 1, none⟩ = some (.bool false) ∧ w'.cell? ⟨g, 7, none⟩ = some (.bool true) ∧ w'.cell? ⟨g, 8, none⟩ = some (.int .i64 sv)) := fun w' hbq => ⟨(hb.below hbq).cells.2.1, (hb.below hbq).cells.2.2.2.2.2.2.2.1, (hb.below hbq).cells.2.2.2.2.2.2.2.2.1⟩
  clear h1 hd HZ hb hz
  go_enter Tryz.func34, Tryz.ntmps34
  go_wp2_with fail
  refine (hI _).mono ?_
  rintro x wq ⟨rfl, hq⟩
  rw [hq]
  clear hq hI wq
  obtain ⟨w1, hw1⟩ : ∃ w1, w1 = w := ⟨_, rfl⟩
  have hb1 : Below w.heap.size w w1 := by rw [hw1]; exact Below.refl _ _
  have HW1 : Hid (w = w1) := hw1.symm
  clear hw1
  have hSd := HSD.out w1 hb1
  go_wp2_with fail
  rw [HW1.out]
  refine hSd.mono ?_
  rintro x w2 ⟨rfl, hw2⟩
  rw [hw2]
  clear hw2 hSd w2
  clear k0 k1 k2 k3 k4 k5 k6 k7 k8 k9 k10 k11 k12 k13 HW1
  obtain ⟨d1, d7, d8⟩ := HBB.out w1 hb1
  have t1 := After.cell d1
  have t7 := After.cell d7
  have t8 := After.cell d8
  have hne := After.ne w1
  go_wp2_with fail
  refine wp_region_after (by kernel_rfl) (by kernel_rfl) ?_
  repeat (first | go_big_quiet_skip | (go_big_quiet_want; go_big_quiet_op; first | go_big_quiet_on | go_big_quiet_call (first | fail)))
  refine wpQuiet_nil ?_
  rintro _ ⟨n6, rfl⟩
  have hb6 := n6.b
  generalize n6.w = w6 at *
  have hb7 := below_after_of hb1 hb6
  clear hb1 hb6 t1 t7 t8 hne d1 d7 d8 n6
  go_wp2
  go_ret
  exact ⟨rfl, hb7⟩
set_option maxRecDepth 100000 in
set_option maxHeartbeats 2000000 in
theorem l13Fault_finff (g : Nat) (e : Int) (l : ByteArray) (v o p : Int) (so : Bool) (sv : Int) (a : Option Addr) (pn c : Nat) (sx : Bool) (sk sy : Int) (a' : Option Addr) (fn c' : Nat) (z : Bool) (w : World) (hb : RpB w g e false l v o p so false sv (.slice a pn c) sx sk sy (.slice a' fn c')) (HZ : Hid ((z = false ∧ (sx = true ∨ (sx = false ∧ ¬ (sk = 0 ∧ sy = 0)) ∨ (sx = false ∧ sk = 0 ∧ sy = 0 ∧ 0 < fn))) ∨ (z = true ∧ sx = false ∧ sk = 0 ∧ sy = 0 ∧ fn = 0))) (h1 : inB e 1 10 = true) (hz : zrR l v o p = true) (hd : sdC so false sv pn z = 0) :
    Calls Tryz.prog 34 #[.pointer (some ⟨g, 0, none⟩)] w fun x w' => x = .returned (.int .i64 (0)) ∧ Below w.heap.size w w' := by
  obtain ⟨k0, k1, k2, k3, k4, k5, k6, k7, k8, k9, k10, k11, k12, k13⟩ := hb.cells
  have hI := fun w => l1In_any e 1 10 w
  rw [h1] at hI
  have hN := fun w => rec_zeroN l v o p w
  rw [hz] at hN
  have HSD : Hid (∀ w', Below w.heap.size w w' → Calls Tryz.prog 68 #[.pointer (some ⟨g, 6, none⟩)] w' fun x w'' => x = .returned (.int .i64 (sdC so false sv pn z)) ∧ w'' = w') := fun w' hbq => l8Fault_off g 6 so false sv a pn c sx sk sy a' fn c' z w' (hb.below hbq).sd HZ
  rw [hd] at HSD
  have HBB : Hid (∀ w', Below w.heap.size w w' → w'.cell? ⟨g, 1, none⟩ = some (.bool false) ∧ w'.cell? ⟨g, 7, none⟩ = some (.bool false) ∧ w'.cell? ⟨g, 8, none⟩ = some (.int .i64 sv)) := fun w' hbq => ⟨(hb.below hbq).cells.2.1, (hb.below hbq).cells.2.2.2.2.2.2.2.1, (hb.below hbq).cells.2.2.2.2.2.2.2.2.1⟩
  clear h1 hd HZ hb hz
  go_enter Tryz.func34, Tryz.ntmps34
  go_wp2_with fail
  refine (hI _).mono ?_
  rintro x wq ⟨rfl, hq⟩
  rw [hq]
  clear hq hI wq
  obtain ⟨w1, hw1⟩ : ∃ w1, w1 = w := ⟨_, rfl⟩
  have hb1 : Below w.heap.size w w1 := by rw [hw1]; exact Below.refl _ _
  have HW1 : Hid (w = w1) := hw1.symm
  clear hw1
  have hSd := HSD.out w1 hb1
  go_wp2_with fail
  rw [HW1.out]
  refine hSd.mono ?_
  rintro x w2 ⟨rfl, hw2⟩
  rw [hw2]
  clear hw2 hSd w2
  clear k0 k1 k2 k3 k4 k5 k6 k7 k8 k9 k10 k11 k12 k13 HW1
  obtain ⟨d1, d7, d8⟩ := HBB.out w1 hb1
  have t1 := After.cell d1
  have t7 := After.cell d7
  have t8 := After.cell d8
  have hne := After.ne w1
  go_wp2_with fail
  refine wp_region_after (by kernel_rfl) (by kernel_rfl) ?_
  repeat (first | go_big_quiet_skip | (go_big_quiet_want; go_big_quiet_op; first | go_big_quiet_on | go_big_quiet_call (first | fail)))
  refine wpQuiet_nil ?_
  rintro _ ⟨n6, rfl⟩
  have hb6 := n6.b
  generalize n6.w = w6 at *
  have hb7 := below_after_of hb1 hb6
  clear hb1 hb6 t1 t7 t8 hne d1 d7 d8 n6
  go_wp2
  go_ret
  exact ⟨rfl, hb7⟩
theorem l13Fault_any (g : Nat) (e : Int) (hl : Bool) (l : ByteArray) (v o p : Int) (so st : Bool) (sv : Int) (a : Option Addr) (pn c : Nat) (sx : Bool) (sk sy : Int) (a' : Option Addr) (fn c' : Nat) (z : Bool) (w : World) (hb : RpB w g e hl l v o p so st sv (.slice a pn c) sx sk sy (.slice a' fn c')) (HZ : Hid ((z = false ∧ (sx = true ∨ (sx = false ∧ ¬ (sk = 0 ∧ sy = 0)) ∨ (sx = false ∧ sk = 0 ∧ sy = 0 ∧ 0 < fn))) ∨ (z = true ∧ sx = false ∧ sk = 0 ∧ sy = 0 ∧ fn = 0))) (hs : l.size ≤ 1048576) :
    Calls Tryz.prog 34 #[.pointer (some ⟨g, 0, none⟩)] w fun x w' => x = .returned (.int .i64 (rpC e hl l v o p st sv (sdC so st sv pn z))) ∧ Below w.heap.size w w' := by
  rcases Bool.eq_false_or_eq_true (inB e 1 10) with h1 | h1
  · cases hl
    · rcases Bool.eq_false_or_eq_true (zrR l v o p) with hz | hz
      · have hh : heC false l v o p = 0 := by unfold heC; rw [hz]; rfl
        by_cases hd : sdC so st sv pn z = 0
        · have hq0 : rpQ false l v o p (sdC so st sv pn z) = 0 := by unfold rpQ; rw [if_pos hh, hd]
          rw [rpC_fin h1 hq0]
          cases st
          · exact l13Fault_finff g e l v o p so sv a pn c sx sk sy a' fn c' z w hb HZ h1 hz hd
          · exact l13Fault_finft g e l v o p so sv a pn c sx sk sy a' fn c' z w hb HZ h1 hz hd
        · have hq0 : rpQ false l v o p (sdC so st sv pn z) = sdC so st sv pn z := by unfold rpQ; rw [if_pos hh]
          rw [rpC_bad h1 (by rw [hq0]; exact hd), hq0]
          exact l13Fault_saidf g e l v o p so st sv a pn c sx sk sy a' fn c' z w hb HZ h1 hz hd
      · have hh : heC false l v o p = 1 := by unfold heC; rw [hz]; rfl
        have hq0 : rpQ false l v o p (sdC so st sv pn z) = 1 := by unfold rpQ; rw [if_neg (by rw [hh]; decide), hh]
        rw [rpC_bad h1 (by rw [hq0]; decide), hq0]
        exact l13Fault_form g e l v o p so st sv a pn c sx sk sy a' fn c' w hb h1 hz
    · have hh : heC true l v o p = recC l v o p := by unfold heC; rw [if_pos rfl]
      by_cases hc : recC l v o p = 0
      · by_cases hd : sdC so st sv pn z = 0
        · have hq0 : rpQ true l v o p (sdC so st sv pn z) = 0 := by unfold rpQ; rw [if_pos (by rw [hh]; exact hc), hd]
          rw [rpC_fin h1 hq0]
          cases st
          · exact l13Fault_fintf g e l v o p so sv a pn c sx sk sy a' fn c' z w hb HZ h1 hs hc hd
          · by_cases hq : sv = sumL (packL l v o p)
            · have e0 : fiC true true sv (sumL (packL l v o p)) = 0 := by unfold fiC; rw [if_pos rfl, if_pos rfl, if_pos hq]
              rw [e0]
              exact l13Fault_finttt g e l v o p so sv a pn c sx sk sy a' fn c' z w hb HZ h1 hs hc hd hq
            · have e0 : fiC true true sv (sumL (packL l v o p)) = 1 := by unfold fiC; rw [if_pos rfl, if_pos rfl, if_neg hq]
              rw [e0]
              exact l13Fault_finttf g e l v o p so sv a pn c sx sk sy a' fn c' z w hb HZ h1 hs hc hd hq
        · have hq0 : rpQ true l v o p (sdC so st sv pn z) = sdC so st sv pn z := by unfold rpQ; rw [if_pos (by rw [hh]; exact hc)]
          rw [rpC_bad h1 (by rw [hq0]; exact hd), hq0]
          exact l13Fault_saidt g e l v o p so st sv a pn c sx sk sy a' fn c' z w hb HZ h1 hs hc hd
      · have hq0 : rpQ true l v o p (sdC so st sv pn z) = recC l v o p := by unfold rpQ; rw [if_neg (by rw [hh]; exact hc), hh]
        rw [rpC_bad h1 (by rw [hq0]; exact hc), hq0]
        exact l13Fault_rec g e l v o p so st sv a pn c sx sk sy a' fn c' w hb h1 hs hc
  · rw [rpC_out h1]
    exact l13Fault_out g e hl l v o p so st sv a pn c sx sk sy a' fn c' w hb h1
end U
end Go.Proofs.YtdbbmclobmigdaaGreat

/- The fault of a reply, as the program tells it. -/
namespace Go.Proofs.YtdbbmclobmigdaaGreat
open Go.RowKit
namespace U
theorem two_intsR {w : World} {g : Nat} {a b : Int} {t : TypeId} (hg : g = w.heap.size) : Ints .i64 (w.alloc (.cells #[.int .i64 a, .int .i64 b] t)) (.slice (some ⟨g, 0, none⟩) 2 2) [a, b] := by
  subst hg
  have hh := heap_alloc_new w (.cells #[.int .i64 a, .int .i64 b] t)
  refine Or.inr ⟨w.heap.size, 0, 2, rfl, by simp, fun j hj => ?_⟩
  have hj2 : j < 2 := hj
  rcases (show j = 0 ∨ j = 1 by omega) with rfl | rfl <;> (unfold World.cell?; rw [hh]; rfl)
theorem fldIR1 (c x : Int) (w : World) : (Instr.field 58 (.agg #[.int .i64 c, .int .i64 x]) 1).run Tryz.prog w = .ok (.int .i64 x) w := by kernel_rfl
set_option maxRecDepth 100000 in
set_option maxHeartbeats 2000000 in
theorem implRp_out (e : Int) (hl : Bool) (l : ByteArray) (v o p : Int) (so st : Bool) (sv : Int) (a : Option Addr) (pn c : Nat) (sx : Bool) (sk sy : Int) (a' : Option Addr) (fn c' : Nat) (w : World) (h1 : inB e 1 10 = false) :
    Calls Tryz.prog 44 #[rpV e hl l v o p so st sv (.slice a pn c) sx sk sy (.slice a' fn c')] w fun x w' => x = .returned (.int .i64 (3)) ∧ Below w.heap.size w w' := by
  obtain ⟨W, hW⟩ : ∃ W, W = w.alloc (.cells #[.int .i64 e, .bool hl, .string l, .int .i64 v, .int .i64 o, .int .i64 p, .bool so, .bool st, .int .i64 sv, .slice a pn c, .bool sx, .int .i64 sk, .int .i64 sy, .slice a' fn c'] 52) := ⟨_, rfl⟩
  have hBW : Below w.heap.size w W := by rw [hW]; exact one_new _
  have hRB : RpB W w.heap.size e hl l v o p so st sv (.slice a pn c) sx sk sy (.slice a' fn c') := by rw [hW]; exact RpB.new w e hl l v o p so st sv (.slice a pn c) sx sk sy (.slice a' fn c')
  have HBB : Hid (∀ w', Below W.heap.size W w' → RpB w' w.heap.size e hl l v o p so st sv (.slice a pn c) sx sk sy (.slice a' fn c')) := fun w' hb => hRB.below hb
  have HBW : Hid (Below w.heap.size w W) := hBW
  have HW : Hid (w.alloc (.cells #[.int .i64 e, .bool hl, .string l, .int .i64 v, .int .i64 o, .int .i64 p, .bool so, .bool st, .int .i64 sv, .slice a pn c, .bool sx, .int .i64 sk, .int .i64 sy, .slice a' fn c'] 52) = W) := hW.symm
  have hI := fun w => isEpoch_any e w
  rw [h1] at hI
  obtain ⟨k0, k1, k2, k3, k4, k5, k6, k7, k8, k9, k10, k11, k12, k13⟩ := hRB.cells
  clear hW hBW hRB HBB h1
  unfold rpV
  go_enter Tryz.func44, Tryz.ntmps44
  go_wp2_with fail
  rw [HW.out]
  refine (hI _).mono ?_
  rintro x wq ⟨rfl, hq⟩
  rw [hq]
  clear hq hI wq HW
  go_wp2
  go_ret
  exact ⟨rfl, HBW.out⟩
set_option maxRecDepth 100000 in
set_option maxHeartbeats 2000000 in
theorem implRp_bad (e : Int) (hl : Bool) (l : ByteArray) (v o p : Int) (so st : Bool) (sv : Int) (a : Option Addr) (pn c : Nat) (sx : Bool) (sk sy : Int) (a' : Option Addr) (fn c' : Nat) (sc : Int) (w : World) (HSA : Hid (∀ w', Below w.heap.size w w' → Calls Tryz.prog 83 #[.agg #[.bool so, .bool st, .int .i64 sv, .slice a pn c, .bool sx, .int .i64 sk, .int .i64 sy, .slice a' fn c']] w' fun x w'' => x = .returned (.int .i64 sc) ∧ Below w'.heap.size w' w'')) (h1 : inB e 1 10 = true) (hs : l.size ≤ 1048576) (hq : ¬ rpQ hl l v o p sc = 0) :
    Calls Tryz.prog 44 #[rpV e hl l v o p so st sv (.slice a pn c) sx sk sy (.slice a' fn c')] w fun x w' => x = .returned (.int .i64 (rpQ hl l v o p sc)) ∧ Below w.heap.size w w' := by
  obtain ⟨W, hW⟩ : ∃ W, W = w.alloc (.cells #[.int .i64 e, .bool hl, .string l, .int .i64 v, .int .i64 o, .int .i64 p, .bool so, .bool st, .int .i64 sv, .slice a pn c, .bool sx, .int .i64 sk, .int .i64 sy, .slice a' fn c'] 52) := ⟨_, rfl⟩
  have hBW : Below w.heap.size w W := by rw [hW]; exact one_new _
  have hRB : RpB W w.heap.size e hl l v o p so st sv (.slice a pn c) sx sk sy (.slice a' fn c') := by rw [hW]; exact RpB.new w e hl l v o p so st sv (.slice a pn c) sx sk sy (.slice a' fn c')
  have HBB : Hid (∀ w', Below W.heap.size W w' → RpB w' w.heap.size e hl l v o p so st sv (.slice a pn c) sx sk sy (.slice a' fn c')) := fun w' hb => hRB.below hb
  have HBW : Hid (Below w.heap.size w W) := hBW
  have HW : Hid (w.alloc (.cells #[.int .i64 e, .bool hl, .string l, .int .i64 v, .int .i64 o, .int .i64 p, .bool so, .bool st, .int .i64 sv, .slice a pn c, .bool sx, .int .i64 sk, .int .i64 sy, .slice a' fn c'] 52) = W) := hW.symm
  have hI := fun w => isEpoch_any e w
  rw [h1] at hI
  obtain ⟨k0, k1, k2, k3, k4, k5, k6, k7, k8, k9, k10, k11, k12, k13⟩ := hRB.cells
  have hHe := fun w' => heldFault_any hl l v o p w' hs
  have hOr := fun u w hu => cmpOr2 (heC hl l v o p) sc u w hu
  have eQ : (if heC hl l v o p = 0 then sc else heC hl l v o p) = rpQ hl l v o p sc := rfl
  rw [eQ] at hOr
  have hnz := code_ne hq
  generalize rpQ hl l v o p sc = q at *
  generalize heC hl l v o p = hc at *
  unfold recV at hHe
  clear eQ hW hBW hRB h1 hq
  unfold rpV
  go_enter Tryz.func44, Tryz.ntmps44
  go_wp2_with fail
  rw [HW.out]
  refine (hI _).mono ?_
  rintro x wq ⟨rfl, hq⟩
  rw [hq]
  clear hq hI wq HW
  have hbr := Below.refl W.heap.size W
  go_wp2_with fail
  go_region_held3 (fun w' => w'.cell? ⟨w.heap.size, 0, none⟩ = some (.int .i64 e) ∧ w'.cell? ⟨w.heap.size, 1, none⟩ = some (.bool hl) ∧ w'.cell? ⟨w.heap.size, 2, none⟩ = some (.string l) ∧ w'.cell? ⟨w.heap.size, 3, none⟩ = some (.int .i64 v) ∧ w'.cell? ⟨w.heap.size, 4, none⟩ = some (.int .i64 o) ∧ w'.cell? ⟨w.heap.size, 5, none⟩ = some (.int .i64 p) ∧ w'.cell? ⟨w.heap.size, 6, none⟩ = some (.bool so) ∧ w'.cell? ⟨w.heap.size, 7, none⟩ = some (.bool st) ∧ w'.cell? ⟨w.heap.size, 8, none⟩ = some (.int .i64 sv) ∧ w'.cell? ⟨w.heap.size, 9, none⟩ = some (.slice a pn c) ∧ w'.cell? ⟨w.heap.size, 10, none⟩ = some (.bool sx) ∧ w'.cell? ⟨w.heap.size, 11, none⟩ = some (.int .i64 sk) ∧ w'.cell? ⟨w.heap.size, 12, none⟩ = some (.int .i64 sy) ∧ w'.cell? ⟨w.heap.size, 13, none⟩ = some (.slice a' fn c'))
    (first | with_reducible exact ⟨k0, k1, k2, k3, k4, k5, k6, k7, k8, k9, k10, k11, k12, k13⟩ | with_reducible exact (HBB.out _ hbr).cells | with_reducible exact (HBB.out _ hbr.drew).cells | with_reducible exact (HBB.out _ (hbr.alloc hbr.size _)).cells)
    (first
      | (go_at_call 82; refine (hHe _).mono ?_; rintro x w2 ⟨rfl, hb2⟩; have hbr : Below W.heap.size W w2 := (by first | exact below_after_of hbr hb2 | exact below_after_of hbr.drew hb2))
      | (go_at_call 83; refine (HSA.out _ (by first | exact below_after_of HBW.out hbr | exact below_after_of HBW.out hbr.drew)).mono ?_; rintro x w3 ⟨rfl, hb3⟩; have hbr : Below W.heap.size W w3 := (by first | exact below_after_of hbr hb3 | exact below_after_of hbr.drew hb3))
      | (go_at_call 41; refine (hOr _ _ (two_intsR rfl)).mono ?_; rintro x w5 ⟨rfl, hw5⟩; have hbr : Below W.heap.size W w5 := (by rw [hw5]; exact hbr.alloc hbr.size _); clear hw5))
  clear k0 k1 k2 k3 k4 k5 k6 k7 k8 k9 k10 k11 k12 k13 hHe hOr
  have hB1 := below_after_of HBW.out hbr
  clear hbr HBB
  go_wp2
  go_ret
  exact ⟨rfl, hB1⟩
set_option maxRecDepth 100000 in
set_option maxHeartbeats 2000000 in
theorem implRp_finttt (e : Int) (l : ByteArray) (v o p : Int) (so : Bool) (sv : Int) (a : Option Addr) (pn c : Nat) (sx : Bool) (sk sy : Int) (a' : Option Addr) (fn c' : Nat) (sc : Int) (w : World) (HSA : Hid (∀ w', Below w.heap.size w w' → Calls Tryz.prog 83 #[.agg #[.bool so, .bool true, .int .i64 sv, .slice a pn c, .bool sx, .int .i64 sk, .int .i64 sy, .slice a' fn c']] w' fun x w'' => x = .returned (.int .i64 sc) ∧ Below w'.heap.size w' w'')) (h1 : inB e 1 10 = true) (hs : l.size ≤ 1048576) (hq : rpQ true l v o p sc = 0) (hc0 : recC l v o p = 0) (he : sv = sumL (packL l v o p)) :
    Calls Tryz.prog 44 #[rpV e true l v o p so true sv (.slice a pn c) sx sk sy (.slice a' fn c')] w fun x w' => x = .returned (.int .i64 (0)) ∧ Below w.heap.size w w' := by
  obtain ⟨W, hW⟩ : ∃ W, W = w.alloc (.cells #[.int .i64 e, .bool true, .string l, .int .i64 v, .int .i64 o, .int .i64 p, .bool so, .bool true, .int .i64 sv, .slice a pn c, .bool sx, .int .i64 sk, .int .i64 sy, .slice a' fn c'] 52) := ⟨_, rfl⟩
  have hBW : Below w.heap.size w W := by rw [hW]; exact one_new _
  have hRB : RpB W w.heap.size e true l v o p so true sv (.slice a pn c) sx sk sy (.slice a' fn c') := by rw [hW]; exact RpB.new w e true l v o p so true sv (.slice a pn c) sx sk sy (.slice a' fn c')
  have HBB : Hid (∀ w', Below W.heap.size W w' → RpB w' w.heap.size e true l v o p so true sv (.slice a pn c) sx sk sy (.slice a' fn c')) := fun w' hb => hRB.below hb
  have HBW : Hid (Below w.heap.size w W) := hBW
  have HW : Hid (w.alloc (.cells #[.int .i64 e, .bool true, .string l, .int .i64 v, .int .i64 o, .int .i64 p, .bool so, .bool true, .int .i64 sv, .slice a pn c, .bool sx, .int .i64 sk, .int .i64 sy, .slice a' fn c'] 52) = W) := hW.symm
  have hI := fun w => isEpoch_any e w
  rw [h1] at hI
  obtain ⟨k0, k1, k2, k3, k4, k5, k6, k7, k8, k9, k10, k11, k12, k13⟩ := hRB.cells
  have hSm := fun w => implRecordSum_any l v o p w hs
  rw [rs_ok hc0, hc0] at hSm
  have hqb : (sv != sumL (packL l v o p)) = false := by simp [he]
  have hfi := fun (x : Int) w => fldIR1 0 x w
  unfold recV at hSm
  generalize sumL (packL l v o p) = rs at *
  have hHe := fun w' => heldFault_any true l v o p w' hs
  have hOr := fun u w hu => cmpOr2 (heC true l v o p) sc u w hu
  have eQ : (if heC true l v o p = 0 then sc else heC true l v o p) = rpQ true l v o p sc := rfl
  rw [eQ] at hOr
  generalize rpQ true l v o p sc = q at *
  generalize heC true l v o p = hc at *
  unfold recV at hHe
  clear eQ hW hBW hRB h1 hs he hc0
  subst hq
  unfold rpV
  go_enter Tryz.func44, Tryz.ntmps44
  go_wp2_with fail
  rw [HW.out]
  refine (hI _).mono ?_
  rintro x wq ⟨rfl, hq⟩
  rw [hq]
  clear hq hI wq HW
  have hbr := Below.refl W.heap.size W
  go_wp2_with fail
  go_region_held3 (fun w' => w'.cell? ⟨w.heap.size, 0, none⟩ = some (.int .i64 e) ∧ w'.cell? ⟨w.heap.size, 1, none⟩ = some (.bool true) ∧ w'.cell? ⟨w.heap.size, 2, none⟩ = some (.string l) ∧ w'.cell? ⟨w.heap.size, 3, none⟩ = some (.int .i64 v) ∧ w'.cell? ⟨w.heap.size, 4, none⟩ = some (.int .i64 o) ∧ w'.cell? ⟨w.heap.size, 5, none⟩ = some (.int .i64 p) ∧ w'.cell? ⟨w.heap.size, 6, none⟩ = some (.bool so) ∧ w'.cell? ⟨w.heap.size, 7, none⟩ = some (.bool true) ∧ w'.cell? ⟨w.heap.size, 8, none⟩ = some (.int .i64 sv) ∧ w'.cell? ⟨w.heap.size, 9, none⟩ = some (.slice a pn c) ∧ w'.cell? ⟨w.heap.size, 10, none⟩ = some (.bool sx) ∧ w'.cell? ⟨w.heap.size, 11, none⟩ = some (.int .i64 sk) ∧ w'.cell? ⟨w.heap.size, 12, none⟩ = some (.int .i64 sy) ∧ w'.cell? ⟨w.heap.size, 13, none⟩ = some (.slice a' fn c'))
    (first | with_reducible exact ⟨k0, k1, k2, k3, k4, k5, k6, k7, k8, k9, k10, k11, k12, k13⟩ | with_reducible exact (HBB.out _ hbr).cells | with_reducible exact (HBB.out _ hbr.drew).cells | with_reducible exact (HBB.out _ (hbr.alloc hbr.size _)).cells)
    (first
      | (go_at_call 82; refine (hHe _).mono ?_; rintro x w2 ⟨rfl, hb2⟩; have hbr : Below W.heap.size W w2 := (by first | exact below_after_of hbr hb2 | exact below_after_of hbr.drew hb2))
      | (go_at_call 83; refine (HSA.out _ (by first | exact below_after_of HBW.out hbr | exact below_after_of HBW.out hbr.drew)).mono ?_; rintro x w3 ⟨rfl, hb3⟩; have hbr : Below W.heap.size W w3 := (by first | exact below_after_of hbr hb3 | exact below_after_of hbr.drew hb3))
      | (go_at_call 41; refine (hOr _ _ (two_intsR rfl)).mono ?_; rintro x w5 ⟨rfl, hw5⟩; have hbr : Below W.heap.size W w5 := (by rw [hw5]; exact hbr.alloc hbr.size _); clear hw5))
  clear k0 k1 k2 k3 k4 k5 k6 k7 k8 k9 k10 k11 k12 k13 hHe hOr
  obtain ⟨-, d1, -, -, -, -, -, d7, d8, -⟩ := (HBB.out _ hbr).cells
  obtain ⟨-, -, d2, d3, d4, d5, -⟩ := (HBB.out _ hbr).cells
  have t2 := After.cell d2
  have t3 := After.cell d3
  have t4 := After.cell d4
  have t5 := After.cell d5
  have t1 := After.cell d1
  have t7 := After.cell d7
  have t8 := After.cell d8
  have hne := After.ne w5
  have hB1 := below_after_of HBW.out hbr
  clear hbr HBB
  go_wp2_with fail
  refine wp_region_after (by kernel_rfl) (by kernel_rfl) ?_
  repeat (first | go_big_quiet_skip | (go_big_quiet_want; go_big_quiet_op; first | go_big_quiet_on | go_big_quiet_call (first | (go_at_call 84; refine (hSm _).mono ?_; rintro x wq ⟨rfl, hbq⟩; exact ⟨rfl, after_mk (below_after_of (After.b _) hbq)⟩))))
  refine wpQuiet_nil ?_
  rintro _ ⟨n6, rfl⟩
  have hb6 := n6.b
  generalize n6.w = w6 at *
  have hb7 := below_after_of hB1 hb6
  clear hB1 hb6 t1 t7 t8 hne d1 d7 d8 n6
  go_wp2
  go_ret
  exact ⟨rfl, hb7⟩
set_option maxRecDepth 100000 in
set_option maxHeartbeats 2000000 in
theorem implRp_finttf (e : Int) (l : ByteArray) (v o p : Int) (so : Bool) (sv : Int) (a : Option Addr) (pn c : Nat) (sx : Bool) (sk sy : Int) (a' : Option Addr) (fn c' : Nat) (sc : Int) (w : World) (HSA : Hid (∀ w', Below w.heap.size w w' → Calls Tryz.prog 83 #[.agg #[.bool so, .bool true, .int .i64 sv, .slice a pn c, .bool sx, .int .i64 sk, .int .i64 sy, .slice a' fn c']] w' fun x w'' => x = .returned (.int .i64 sc) ∧ Below w'.heap.size w' w'')) (h1 : inB e 1 10 = true) (hs : l.size ≤ 1048576) (hq : rpQ true l v o p sc = 0) (hc0 : recC l v o p = 0) (he : ¬ sv = sumL (packL l v o p)) :
    Calls Tryz.prog 44 #[rpV e true l v o p so true sv (.slice a pn c) sx sk sy (.slice a' fn c')] w fun x w' => x = .returned (.int .i64 (1)) ∧ Below w.heap.size w w' := by
  obtain ⟨W, hW⟩ : ∃ W, W = w.alloc (.cells #[.int .i64 e, .bool true, .string l, .int .i64 v, .int .i64 o, .int .i64 p, .bool so, .bool true, .int .i64 sv, .slice a pn c, .bool sx, .int .i64 sk, .int .i64 sy, .slice a' fn c'] 52) := ⟨_, rfl⟩
  have hBW : Below w.heap.size w W := by rw [hW]; exact one_new _
  have hRB : RpB W w.heap.size e true l v o p so true sv (.slice a pn c) sx sk sy (.slice a' fn c') := by rw [hW]; exact RpB.new w e true l v o p so true sv (.slice a pn c) sx sk sy (.slice a' fn c')
  have HBB : Hid (∀ w', Below W.heap.size W w' → RpB w' w.heap.size e true l v o p so true sv (.slice a pn c) sx sk sy (.slice a' fn c')) := fun w' hb => hRB.below hb
  have HBW : Hid (Below w.heap.size w W) := hBW
  have HW : Hid (w.alloc (.cells #[.int .i64 e, .bool true, .string l, .int .i64 v, .int .i64 o, .int .i64 p, .bool so, .bool true, .int .i64 sv, .slice a pn c, .bool sx, .int .i64 sk, .int .i64 sy, .slice a' fn c'] 52) = W) := hW.symm
  have hI := fun w => isEpoch_any e w
  rw [h1] at hI
  obtain ⟨k0, k1, k2, k3, k4, k5, k6, k7, k8, k9, k10, k11, k12, k13⟩ := hRB.cells
  have hSm := fun w => implRecordSum_any l v o p w hs
  rw [rs_ok hc0, hc0] at hSm
  have hqb : (sv != sumL (packL l v o p)) = true := by simp [he]
  have hfi := fun (x : Int) w => fldIR1 0 x w
  unfold recV at hSm
  generalize sumL (packL l v o p) = rs at *
  have hHe := fun w' => heldFault_any true l v o p w' hs
  have hOr := fun u w hu => cmpOr2 (heC true l v o p) sc u w hu
  have eQ : (if heC true l v o p = 0 then sc else heC true l v o p) = rpQ true l v o p sc := rfl
  rw [eQ] at hOr
  generalize rpQ true l v o p sc = q at *
  generalize heC true l v o p = hc at *
  unfold recV at hHe
  clear eQ hW hBW hRB h1 hs he hc0
  subst hq
  unfold rpV
  go_enter Tryz.func44, Tryz.ntmps44
  go_wp2_with fail
  rw [HW.out]
  refine (hI _).mono ?_
  rintro x wq ⟨rfl, hq⟩
  rw [hq]
  clear hq hI wq HW
  have hbr := Below.refl W.heap.size W
  go_wp2_with fail
  go_region_held3 (fun w' => w'.cell? ⟨w.heap.size, 0, none⟩ = some (.int .i64 e) ∧ w'.cell? ⟨w.heap.size, 1, none⟩ = some (.bool true) ∧ w'.cell? ⟨w.heap.size, 2, none⟩ = some (.string l) ∧ w'.cell? ⟨w.heap.size, 3, none⟩ = some (.int .i64 v) ∧ w'.cell? ⟨w.heap.size, 4, none⟩ = some (.int .i64 o) ∧ w'.cell? ⟨w.heap.size, 5, none⟩ = some (.int .i64 p) ∧ w'.cell? ⟨w.heap.size, 6, none⟩ = some (.bool so) ∧ w'.cell? ⟨w.heap.size, 7, none⟩ = some (.bool true) ∧ w'.cell? ⟨w.heap.size, 8, none⟩ = some (.int .i64 sv) ∧ w'.cell? ⟨w.heap.size, 9, none⟩ = some (.slice a pn c) ∧ w'.cell? ⟨w.heap.size, 10, none⟩ = some (.bool sx) ∧ w'.cell? ⟨w.heap.size, 11, none⟩ = some (.int .i64 sk) ∧ w'.cell? ⟨w.heap.size, 12, none⟩ = some (.int .i64 sy) ∧ w'.cell? ⟨w.heap.size, 13, none⟩ = some (.slice a' fn c'))
    (first | with_reducible exact ⟨k0, k1, k2, k3, k4, k5, k6, k7, k8, k9, k10, k11, k12, k13⟩ | with_reducible exact (HBB.out _ hbr).cells | with_reducible exact (HBB.out _ hbr.drew).cells | with_reducible exact (HBB.out _ (hbr.alloc hbr.size _)).cells)
    (first
      | (go_at_call 82; refine (hHe _).mono ?_; rintro x w2 ⟨rfl, hb2⟩; have hbr : Below W.heap.size W w2 := (by first | exact below_after_of hbr hb2 | exact below_after_of hbr.drew hb2))
      | (go_at_call 83; refine (HSA.out _ (by first | exact below_after_of HBW.out hbr | exact below_after_of HBW.out hbr.drew)).mono ?_; rintro x w3 ⟨rfl, hb3⟩; have hbr : Below W.heap.size W w3 := (by first | exact below_after_of hbr hb3 | exact below_after_of hbr.drew hb3))
      | (go_at_call 41; refine (hOr _ _ (two_intsR rfl)).mono ?_; rintro x w5 ⟨rfl, hw5⟩; have hbr : Below W.heap.size W w5 := (by rw [hw5]; exact hbr.alloc hbr.size _); clear hw5))
  clear k0 k1 k2 k3 k4 k5 k6 k7 k8 k9 k10 k11 k12 k13 hHe hOr
  obtain ⟨-, d1, -, -, -, -, -, d7, d8, -⟩ := (HBB.out _ hbr).cells
  obtain ⟨-, -, d2, d3, d4, d5, -⟩ := (HBB.out _ hbr).cells
  have t2 := After.cell d2
  have t3 := After.cell d3
  have t4 := After.cell d4
  have t5 := After.cell d5
  have t1 := After.cell d1
  have t7 := After.cell d7
  have t8 := After.cell d8
  have hne := After.ne w5
  have hB1 := below_after_of HBW.out hbr
  clear hbr HBB
  go_wp2_with fail
  refine wp_region_after (by kernel_rfl) (by kernel_rfl) ?_
  repeat (first | go_big_quiet_skip | (go_big_quiet_want; go_big_quiet_op; first | go_big_quiet_on | go_big_quiet_call (first | (go_at_call 84; refine (hSm _).mono ?_; rintro x wq ⟨rfl, hbq⟩; exact ⟨rfl, after_mk (below_after_of (After.b _) hbq)⟩))))
  refine wpQuiet_nil ?_
  rintro _ ⟨n6, rfl⟩
  have hb6 := n6.b
  generalize n6.w = w6 at *
  have hb7 := below_after_of hB1 hb6
  clear hB1 hb6 t1 t7 t8 hne d1 d7 d8 n6
  go_wp2
  go_ret
  exact ⟨rfl, hb7⟩
set_option maxRecDepth 100000 in
set_option maxHeartbeats 2000000 in
theorem implRp_fintf (e : Int) (l : ByteArray) (v o p : Int) (so : Bool) (sv : Int) (a : Option Addr) (pn c : Nat) (sx : Bool) (sk sy : Int) (a' : Option Addr) (fn c' : Nat) (sc : Int) (w : World) (HSA : Hid (∀ w', Below w.heap.size w w' → Calls Tryz.prog 83 #[.agg #[.bool so, .bool false, .int .i64 sv, .slice a pn c, .bool sx, .int .i64 sk, .int .i64 sy, .slice a' fn c']] w' fun x w'' => x = .returned (.int .i64 sc) ∧ Below w'.heap.size w' w'')) (h1 : inB e 1 10 = true) (hs : l.size ≤ 1048576) (hq : rpQ true l v o p sc = 0) :
    Calls Tryz.prog 44 #[rpV e true l v o p so false sv (.slice a pn c) sx sk sy (.slice a' fn c')] w fun x w' => x = .returned (.int .i64 (1)) ∧ Below w.heap.size w w' := by
  obtain ⟨W, hW⟩ : ∃ W, W = w.alloc (.cells #[.int .i64 e, .bool true, .string l, .int .i64 v, .int .i64 o, .int .i64 p, .bool so, .bool false, .int .i64 sv, .slice a pn c, .bool sx, .int .i64 sk, .int .i64 sy, .slice a' fn c'] 52) := ⟨_, rfl⟩
  have hBW : Below w.heap.size w W := by rw [hW]; exact one_new _
  have hRB : RpB W w.heap.size e true l v o p so false sv (.slice a pn c) sx sk sy (.slice a' fn c') := by rw [hW]; exact RpB.new w e true l v o p so false sv (.slice a pn c) sx sk sy (.slice a' fn c')
  have HBB : Hid (∀ w', Below W.heap.size W w' → RpB w' w.heap.size e true l v o p so false sv (.slice a pn c) sx sk sy (.slice a' fn c')) := fun w' hb => hRB.below hb
  have HBW : Hid (Below w.heap.size w W) := hBW
  have HW : Hid (w.alloc (.cells #[.int .i64 e, .bool true, .string l, .int .i64 v, .int .i64 o, .int .i64 p, .bool so, .bool false, .int .i64 sv, .slice a pn c, .bool sx, .int .i64 sk, .int .i64 sy, .slice a' fn c'] 52) = W) := hW.symm
  have hI := fun w => isEpoch_any e w
  rw [h1] at hI
  obtain ⟨k0, k1, k2, k3, k4, k5, k6, k7, k8, k9, k10, k11, k12, k13⟩ := hRB.cells
  have hHe := fun w' => heldFault_any true l v o p w' hs
  have hOr := fun u w hu => cmpOr2 (heC true l v o p) sc u w hu
  have eQ : (if heC true l v o p = 0 then sc else heC true l v o p) = rpQ true l v o p sc := rfl
  rw [eQ] at hOr
  generalize rpQ true l v o p sc = q at *
  generalize heC true l v o p = hc at *
  unfold recV at hHe
  clear eQ hW hBW hRB h1 hs
  subst hq
  unfold rpV
  go_enter Tryz.func44, Tryz.ntmps44
  go_wp2_with fail
  rw [HW.out]
  refine (hI _).mono ?_
  rintro x wq ⟨rfl, hq⟩
  rw [hq]
  clear hq hI wq HW
  have hbr := Below.refl W.heap.size W
  go_wp2_with fail
  go_region_held3 (fun w' => w'.cell? ⟨w.heap.size, 0, none⟩ = some (.int .i64 e) ∧ w'.cell? ⟨w.heap.size, 1, none⟩ = some (.bool true) ∧ w'.cell? ⟨w.heap.size, 2, none⟩ = some (.string l) ∧ w'.cell? ⟨w.heap.size, 3, none⟩ = some (.int .i64 v) ∧ w'.cell? ⟨w.heap.size, 4, none⟩ = some (.int .i64 o) ∧ w'.cell? ⟨w.heap.size, 5, none⟩ = some (.int .i64 p) ∧ w'.cell? ⟨w.heap.size, 6, none⟩ = some (.bool so) ∧ w'.cell? ⟨w.heap.size, 7, none⟩ = some (.bool false) ∧ w'.cell? ⟨w.heap.size, 8, none⟩ = some (.int .i64 sv) ∧ w'.cell? ⟨w.heap.size, 9, none⟩ = some (.slice a pn c) ∧ w'.cell? ⟨w.heap.size, 10, none⟩ = some (.bool sx) ∧ w'.cell? ⟨w.heap.size, 11, none⟩ = some (.int .i64 sk) ∧ w'.cell? ⟨w.heap.size, 12, none⟩ = some (.int .i64 sy) ∧ w'.cell? ⟨w.heap.size, 13, none⟩ = some (.slice a' fn c'))
    (first | with_reducible exact ⟨k0, k1, k2, k3, k4, k5, k6, k7, k8, k9, k10, k11, k12, k13⟩ | with_reducible exact (HBB.out _ hbr).cells | with_reducible exact (HBB.out _ hbr.drew).cells | with_reducible exact (HBB.out _ (hbr.alloc hbr.size _)).cells)
    (first
      | (go_at_call 82; refine (hHe _).mono ?_; rintro x w2 ⟨rfl, hb2⟩; have hbr : Below W.heap.size W w2 := (by first | exact below_after_of hbr hb2 | exact below_after_of hbr.drew hb2))
      | (go_at_call 83; refine (HSA.out _ (by first | exact below_after_of HBW.out hbr | exact below_after_of HBW.out hbr.drew)).mono ?_; rintro x w3 ⟨rfl, hb3⟩; have hbr : Below W.heap.size W w3 := (by first | exact below_after_of hbr hb3 | exact below_after_of hbr.drew hb3))
      | (go_at_call 41; refine (hOr _ _ (two_intsR rfl)).mono ?_; rintro x w5 ⟨rfl, hw5⟩; have hbr : Below W.heap.size W w5 := (by rw [hw5]; exact hbr.alloc hbr.size _); clear hw5))
  clear k0 k1 k2 k3 k4 k5 k6 k7 k8 k9 k10 k11 k12 k13 hHe hOr
  obtain ⟨-, d1, -, -, -, -, -, d7, d8, -⟩ := (HBB.out _ hbr).cells
  have t1 := After.cell d1
  have t7 := After.cell d7
  have t8 := After.cell d8
  have hne := After.ne w5
  have hB1 := below_after_of HBW.out hbr
  clear hbr HBB
  go_wp2_with fail
  refine wp_region_after (by kernel_rfl) (by kernel_rfl) ?_
  repeat (first | go_big_quiet_skip | (go_big_quiet_want; go_big_quiet_op; first | go_big_quiet_on | go_big_quiet_call (first | fail)))
  refine wpQuiet_nil ?_
  rintro _ ⟨n6, rfl⟩
  have hb6 := n6.b
  generalize n6.w = w6 at *
  have hb7 := below_after_of hB1 hb6
  clear hB1 hb6 t1 t7 t8 hne d1 d7 d8 n6
  go_wp2
  go_ret
  exact ⟨rfl, hb7⟩
set_option maxRecDepth 100000 in
set_option maxHeartbeats 2000000 in
theorem implRp_finft (e : Int) (l : ByteArray) (v o p : Int) (so : Bool) (sv : Int) (a : Option Addr) (pn c : Nat) (sx : Bool) (sk sy : Int) (a' : Option Addr) (fn c' : Nat) (sc : Int) (w : World) (HSA : Hid (∀ w', Below w.heap.size w w' → Calls Tryz.prog 83 #[.agg #[.bool so, .bool true, .int .i64 sv, .slice a pn c, .bool sx, .int .i64 sk, .int .i64 sy, .slice a' fn c']] w' fun x w'' => x = .returned (.int .i64 sc) ∧ Below w'.heap.size w' w'')) (h1 : inB e 1 10 = true) (hs : l.size ≤ 1048576) (hq : rpQ false l v o p sc = 0) :
    Calls Tryz.prog 44 #[rpV e false l v o p so true sv (.slice a pn c) sx sk sy (.slice a' fn c')] w fun x w' => x = .returned (.int .i64 (1)) ∧ Below w.heap.size w w' := by
  obtain ⟨W, hW⟩ : ∃ W, W = w.alloc (.cells #[.int .i64 e, .bool false, .string l, .int .i64 v, .int .i64 o, .int .i64 p, .bool so, .bool true, .int .i64 sv, .slice a pn c, .bool sx, .int .i64 sk, .int .i64 sy, .slice a' fn c'] 52) := ⟨_, rfl⟩
  have hBW : Below w.heap.size w W := by rw [hW]; exact one_new _
  have hRB : RpB W w.heap.size e false l v o p so true sv (.slice a pn c) sx sk sy (.slice a' fn c') := by rw [hW]; exact RpB.new w e false l v o p so true sv (.slice a pn c) sx sk sy (.slice a' fn c')
  have HBB : Hid (∀ w', Below W.heap.size W w' → RpB w' w.heap.size e false l v o p so true sv (.slice a pn c) sx sk sy (.slice a' fn c')) := fun w' hb => hRB.below hb
  have HBW : Hid (Below w.heap.size w W) := hBW
  have HW : Hid (w.alloc (.cells #[.int .i64 e, .bool false, .string l, .int .i64 v, .int .i64 o, .int .i64 p, .bool so, .bool true, .int .i64 sv, .slice a pn c, .bool sx, .int .i64 sk, .int .i64 sy, .slice a' fn c'] 52) = W) := hW.symm
  have hI := fun w => isEpoch_any e w
  rw [h1] at hI
  obtain ⟨k0, k1, k2, k3, k4, k5, k6, k7, k8, k9, k10, k11, k12, k13⟩ := hRB.cells
  have hHe := fun w' => heldFault_any false l v o p w' hs
  have hOr := fun u w hu => cmpOr2 (heC false l v o p) sc u w hu
  have eQ : (if heC false l v o p = 0 then sc else heC false l v o p) = rpQ false l v o p sc := rfl
  rw [eQ] at hOr
  generalize rpQ false l v o p sc = q at *
  generalize heC false l v o p = hc at *
  unfold recV at hHe
  clear eQ hW hBW hRB h1 hs
  subst hq
  unfold rpV
  go_enter Tryz.func44, Tryz.ntmps44
  go_wp2_with fail
  rw [HW.out]
  refine (hI _).mono ?_
  rintro x wq ⟨rfl, hq⟩
  rw [hq]
  clear hq hI wq HW
  have hbr := Below.refl W.heap.size W
  go_wp2_with fail
  go_region_held3 (fun w' => w'.cell? ⟨w.heap.size, 0, none⟩ = some (.int .i64 e) ∧ w'.cell? ⟨w.heap.size, 1, none⟩ = some (.bool false) ∧ w'.cell? ⟨w.heap.size, 2, none⟩ = some (.string l) ∧ w'.cell? ⟨w.heap.size, 3, none⟩ = some (.int .i64 v) ∧ w'.cell? ⟨w.heap.size, 4, none⟩ = some (.int .i64 o) ∧ w'.cell? ⟨w.heap.size, 5, none⟩ = some (.int .i64 p) ∧ w'.cell? ⟨w.heap.size, 6, none⟩ = some (.bool so) ∧ w'.cell? ⟨w.heap.size, 7, none⟩ = some (.bool true) ∧ w'.cell? ⟨w.heap.size, 8, none⟩ = some (.int .i64 sv) ∧ w'.cell? ⟨w.heap.size, 9, none⟩ = some (.slice a pn c) ∧ w'.cell? ⟨w.heap.size, 10, none⟩ = some (.bool sx) ∧ w'.cell? ⟨w.heap.size, 11, none⟩ = some (.int .i64 sk) ∧ w'.cell? ⟨w.heap.size, 12, none⟩ = some (.int .i64 sy) ∧ w'.cell? ⟨w.heap.size, 13, none⟩ = some (.slice a' fn c'))
    (first | with_reducible exact ⟨k0, k1, k2, k3, k4, k5, k6, k7, k8, k9, k10, k11, k12, k13⟩ | with_reducible exact (HBB.out _ hbr).cells | with_reducible exact (HBB.out _ hbr.drew).cells | with_reducible exact (HBB.out _ (hbr.alloc hbr.size _)).cells)
    (first
      | (go_at_call 82; refine (hHe _).mono ?_; rintro x w2 ⟨rfl, hb2⟩; have hbr : Below W.heap.size W w2 := (by first | exact below_after_of hbr hb2 | exact below_after_of hbr.drew hb2))
      | (go_at_call 83; refine (HSA.out _ (by first | exact below_after_of HBW.out hbr | exact below_after_of HBW.out hbr.drew)).mono ?_; rintro x w3 ⟨rfl, hb3⟩; have hbr : Below W.heap.size W w3 := (by first | exact below_after_of hbr hb3 | exact below_after_of hbr.drew hb3))
      | (go_at_call 41; refine (hOr _ _ (two_intsR rfl)).mono ?_; rintro x w5 ⟨rfl, hw5⟩; have hbr : Below W.heap.size W w5 := (by rw [hw5]; exact hbr.alloc hbr.size _); clear hw5))
  clear k0 k1 k2 k3 k4 k5 k6 k7 k8 k9 k10 k11 k12 k13 hHe hOr
  obtain ⟨-, d1, -, -, -, -, -, d7, d8, -⟩ := (HBB.out _ hbr).cells
  have t1 := After.cell d1
  have t7 := After.cell d7
  have t8 := After.cell d8
  have hne := After.ne w5
  have hB1 := below_after_of HBW.out hbr
  clear hbr HBB
  go_wp2_with fail
  refine wp_region_after (by kernel_rfl) (by kernel_rfl) ?_
  repeat (first | go_big_quiet_skip | (go_big_quiet_want; go_big_quiet_op; first | go_big_quiet_on | go_big_quiet_call (first | fail)))
  refine wpQuiet_nil ?_
  rintro _ ⟨n6, rfl⟩
  have hb6 := n6.b
  generalize n6.w = w6 at *
  have hb7 := below_after_of hB1 hb6
  clear hB1 hb6 t1 t7 t8 hne d1 d7 d8 n6
  go_wp2
  go_ret
  exact ⟨rfl, hb7⟩
set_option maxRecDepth 100000 in
set_option maxHeartbeats 2000000 in
theorem implRp_finff (e : Int) (l : ByteArray) (v o p : Int) (so : Bool) (sv : Int) (a : Option Addr) (pn c : Nat) (sx : Bool) (sk sy : Int) (a' : Option Addr) (fn c' : Nat) (sc : Int) (w : World) (HSA : Hid (∀ w', Below w.heap.size w w' → Calls Tryz.prog 83 #[.agg #[.bool so, .bool false, .int .i64 sv, .slice a pn c, .bool sx, .int .i64 sk, .int .i64 sy, .slice a' fn c']] w' fun x w'' => x = .returned (.int .i64 sc) ∧ Below w'.heap.size w' w'')) (h1 : inB e 1 10 = true) (hs : l.size ≤ 1048576) (hq : rpQ false l v o p sc = 0) :
    Calls Tryz.prog 44 #[rpV e false l v o p so false sv (.slice a pn c) sx sk sy (.slice a' fn c')] w fun x w' => x = .returned (.int .i64 (0)) ∧ Below w.heap.size w w' := by
  obtain ⟨W, hW⟩ : ∃ W, W = w.alloc (.cells #[.int .i64 e, .bool false, .string l, .int .i64 v, .int .i64 o, .int .i64 p, .bool so, .bool false, .int .i64 sv, .slice a pn c, .bool sx, .int .i64 sk, .int .i64 sy, .slice a' fn c'] 52) := ⟨_, rfl⟩
  have hBW : Below w.heap.size w W := by rw [hW]; exact one_new _
  have hRB : RpB W w.heap.size e false l v o p so false sv (.slice a pn c) sx sk sy (.slice a' fn c') := by rw [hW]; exact RpB.new w e false l v o p so false sv (.slice a pn c) sx sk sy (.slice a' fn c')
  have HBB : Hid (∀ w', Below W.heap.size W w' → RpB w' w.heap.size e false l v o p so false sv (.slice a pn c) sx sk sy (.slice a' fn c')) := fun w' hb => hRB.below hb
  have HBW : Hid (Below w.heap.size w W) := hBW
  have HW : Hid (w.alloc (.cells #[.int .i64 e, .bool false, .string l, .int .i64 v, .int .i64 o, .int .i64 p, .bool so, .bool false, .int .i64 sv, .slice a pn c, .bool sx, .int .i64 sk, .int .i64 sy, .slice a' fn c'] 52) = W) := hW.symm
  have hI := fun w => isEpoch_any e w
  rw [h1] at hI
  obtain ⟨k0, k1, k2, k3, k4, k5, k6, k7, k8, k9, k10, k11, k12, k13⟩ := hRB.cells
  have hHe := fun w' => heldFault_any false l v o p w' hs
  have hOr := fun u w hu => cmpOr2 (heC false l v o p) sc u w hu
  have eQ : (if heC false l v o p = 0 then sc else heC false l v o p) = rpQ false l v o p sc := rfl
  rw [eQ] at hOr
  generalize rpQ false l v o p sc = q at *
  generalize heC false l v o p = hc at *
  unfold recV at hHe
  clear eQ hW hBW hRB h1 hs
  subst hq
  unfold rpV
  go_enter Tryz.func44, Tryz.ntmps44
  go_wp2_with fail
  rw [HW.out]
  refine (hI _).mono ?_
  rintro x wq ⟨rfl, hq⟩
  rw [hq]
  clear hq hI wq HW
  have hbr := Below.refl W.heap.size W
  go_wp2_with fail
  go_region_held3 (fun w' => w'.cell? ⟨w.heap.size, 0, none⟩ = some (.int .i64 e) ∧ w'.cell? ⟨w.heap.size, 1, none⟩ = some (.bool false) ∧ w'.cell? ⟨w.heap.size, 2, none⟩ = some (.string l) ∧ w'.cell? ⟨w.heap.size, 3, none⟩ = some (.int .i64 v) ∧ w'.cell? ⟨w.heap.size, 4, none⟩ = some (.int .i64 o) ∧ w'.cell? ⟨w.heap.size, 5, none⟩ = some (.int .i64 p) ∧ w'.cell? ⟨w.heap.size, 6, none⟩ = some (.bool so) ∧ w'.cell? ⟨w.heap.size, 7, none⟩ = some (.bool false) ∧ w'.cell? ⟨w.heap.size, 8, none⟩ = some (.int .i64 sv) ∧ w'.cell? ⟨w.heap.size, 9, none⟩ = some (.slice a pn c) ∧ w'.cell? ⟨w.heap.size, 10, none⟩ = some (.bool sx) ∧ w'.cell? ⟨w.heap.size, 11, none⟩ = some (.int .i64 sk) ∧ w'.cell? ⟨w.heap.size, 12, none⟩ = some (.int .i64 sy) ∧ w'.cell? ⟨w.heap.size, 13, none⟩ = some (.slice a' fn c'))
    (first | with_reducible exact ⟨k0, k1, k2, k3, k4, k5, k6, k7, k8, k9, k10, k11, k12, k13⟩ | with_reducible exact (HBB.out _ hbr).cells | with_reducible exact (HBB.out _ hbr.drew).cells | with_reducible exact (HBB.out _ (hbr.alloc hbr.size _)).cells)
    (first
      | (go_at_call 82; refine (hHe _).mono ?_; rintro x w2 ⟨rfl, hb2⟩; have hbr : Below W.heap.size W w2 := (by first | exact below_after_of hbr hb2 | exact below_after_of hbr.drew hb2))
      | (go_at_call 83; refine (HSA.out _ (by first | exact below_after_of HBW.out hbr | exact below_after_of HBW.out hbr.drew)).mono ?_; rintro x w3 ⟨rfl, hb3⟩; have hbr : Below W.heap.size W w3 := (by first | exact below_after_of hbr hb3 | exact below_after_of hbr.drew hb3))
      | (go_at_call 41; refine (hOr _ _ (two_intsR rfl)).mono ?_; rintro x w5 ⟨rfl, hw5⟩; have hbr : Below W.heap.size W w5 := (by rw [hw5]; exact hbr.alloc hbr.size _); clear hw5))
  clear k0 k1 k2 k3 k4 k5 k6 k7 k8 k9 k10 k11 k12 k13 hHe hOr
  obtain ⟨-, d1, -, -, -, -, -, d7, d8, -⟩ := (HBB.out _ hbr).cells
  have t1 := After.cell d1
  have t7 := After.cell d7
  have t8 := After.cell d8
  have hne := After.ne w5
  have hB1 := below_after_of HBW.out hbr
  clear hbr HBB
  go_wp2_with fail
  refine wp_region_after (by kernel_rfl) (by kernel_rfl) ?_
  repeat (first | go_big_quiet_skip | (go_big_quiet_want; go_big_quiet_op; first | go_big_quiet_on | go_big_quiet_call (first | fail)))
  refine wpQuiet_nil ?_
  rintro _ ⟨n6, rfl⟩
  have hb6 := n6.b
  generalize n6.w = w6 at *
  have hb7 := below_after_of hB1 hb6
  clear hB1 hb6 t1 t7 t8 hne d1 d7 d8 n6
  go_wp2
  go_ret
  exact ⟨rfl, hb7⟩
set_option maxRecDepth 100000 in
set_option maxHeartbeats 2000000 in
theorem implReplyFault_any (e : Int) (hl : Bool) (l : ByteArray) (v o p : Int) (so st : Bool) (sv : Int) (sp : Value) (ps : List Int) (sx : Bool) (sk sy : Int) (sf : Value) (f : Prl) (w : World) (hp : Ints .i64 w sp ps) (hv : Prs w sf f) (hx : f.length ≤ 1099511627776) (hy : ps.length ≤ 1099511627776) (hs : l.size ≤ 1048576) :
    Calls Tryz.prog 44 #[rpV e hl l v o p so st sv sp sx sk sy sf] w fun x w' => x = .returned (.int .i64 (rpC e hl l v o p st sv (sdC so st sv ps.length (tlZ sx sk sy f)))) ∧ Below w.heap.size w w' := by
  have hSA := fun w' (hb : Below w.heap.size w w') => implSaidFault_any so st sv sp ps sx sk sy sf f w' (hp.below hb) (hv.below hb) hx hy
  obtain ⟨a, c, rfl⟩ := hp.shape
  obtain ⟨a', c', rfl⟩ := hv.shape
  generalize sdC so st sv ps.length (tlZ sx sk sy f) = sc at *
  generalize ps.length = pn at *
  generalize f.length = fn at *
  rcases Bool.eq_false_or_eq_true (inB e 1 10) with h1 | h1
  · by_cases hq : rpQ hl l v o p sc = 0
    · rw [rpC_fin h1 hq]
      cases hl
      · cases st
        · exact implRp_finff e l v o p so sv a pn c sx sk sy a' fn c' sc w hSA h1 hs hq
        · exact implRp_finft e l v o p so sv a pn c sx sk sy a' fn c' sc w hSA h1 hs hq
      · cases st
        · exact implRp_fintf e l v o p so sv a pn c sx sk sy a' fn c' sc w hSA h1 hs hq
        · have hc0 : recC l v o p = 0 := by
            unfold rpQ at hq
            by_cases hh : heC true l v o p = 0
            · unfold heC at hh
              rw [if_pos rfl] at hh
              exact hh
            · rw [if_neg hh] at hq
              exact absurd hq hh
          by_cases he : sv = sumL (packL l v o p)
          · have e0 : fiC true true sv (sumL (packL l v o p)) = 0 := by unfold fiC; rw [if_pos rfl, if_pos rfl, if_pos he]
            rw [e0]
            exact implRp_finttt e l v o p so sv a pn c sx sk sy a' fn c' sc w hSA h1 hs hq hc0 he
          · have e0 : fiC true true sv (sumL (packL l v o p)) = 1 := by unfold fiC; rw [if_pos rfl, if_pos rfl, if_neg he]
            rw [e0]
            exact implRp_finttf e l v o p so sv a pn c sx sk sy a' fn c' sc w hSA h1 hs hq hc0 he
    · rw [rpC_bad h1 hq]
      exact implRp_bad e hl l v o p so st sv a pn c sx sk sy a' fn c' sc w hSA h1 hs hq
  · rw [rpC_out h1]
    exact implRp_out e hl l v o p so st sv a pn c sx sk sy a' fn c' w h1
end U
end Go.Proofs.YtdbbmclobmigdaaGreat
