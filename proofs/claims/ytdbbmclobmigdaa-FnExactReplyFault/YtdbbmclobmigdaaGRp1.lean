/- The fault of a reply, as the model tells it. -/
import Derived.Test.YtdbbmclobmigdaaGRpM
namespace Go.Proofs.Ytdbbmclobmigdaa
open Go.RowKit
namespace U
set_option maxRecDepth 100000 in
set_option maxHeartbeats 2000000 in
theorem l13Fault_out (g : Nat) (e : Int) (hl : Bool) (l : ByteArray) (v o p : Int) (so st : Bool) (sv : Int) (a : Option Addr) (pn c : Nat) (sx : Bool) (sk sy : Int) (a' : Option Addr) (fn c' : Nat) (w : World) (hb : RpB w g e hl l v o p so st sv (.slice a pn c) sx sk sy (.slice a' fn c')) (h1 : inB e 1 10 = false) :
    Calls Try.prog 11 #[.pointer (some ⟨g, 0, none⟩)] w fun x w' => x = .returned (.int .i64 (3)) ∧ Below w.heap.size w w' := by
  obtain ⟨k0, k1, k2, k3, k4, k5, k6, k7, k8, k9, k10, k11, k12, k13⟩ := hb.cells
  have hI := fun w => l1In_any e 1 10 w
  rw [h1] at hI
  clear hb h1
  go_enter Try.func11, Try.ntmps11
  go_wp2_with fail
  refine (hI _).mono ?_
  rintro x wq ⟨rfl, hq⟩
  rw [hq]
  clear hq hI wq
  go_wp2
  go_ret
  exact ⟨rfl, Below.refl _ _⟩
set_option maxRecDepth 100000 in
set_option maxHeartbeats 2000000 in
theorem l13Fault_form (g : Nat) (e : Int) (l : ByteArray) (v o p : Int) (so st : Bool) (sv : Int) (a : Option Addr) (pn c : Nat) (sx : Bool) (sk sy : Int) (a' : Option Addr) (fn c' : Nat) (w : World) (hb : RpB w g e false l v o p so st sv (.slice a pn c) sx sk sy (.slice a' fn c')) (h1 : inB e 1 10 = true) (hz : zrR l v o p = false) :
    Calls Try.prog 11 #[.pointer (some ⟨g, 0, none⟩)] w fun x w' => x = .returned (.int .i64 (1)) ∧ Below w.heap.size w w' := by
  obtain ⟨k0, k1, k2, k3, k4, k5, k6, k7, k8, k9, k10, k11, k12, k13⟩ := hb.cells
  have hI := fun w => l1In_any e 1 10 w
  rw [h1] at hI
  have hN := fun w => rec_zeroN l v o p w
  rw [hz] at hN
  clear hb h1 hz
  go_enter Try.func11, Try.ntmps11
  go_wp2_with fail
  refine (hI _).mono ?_
  rintro x wq ⟨rfl, hq⟩
  rw [hq]
  clear hq hI wq
  go_wp2
  go_ret
  exact ⟨rfl, Below.refl _ _⟩
set_option maxRecDepth 100000 in
set_option maxHeartbeats 2000000 in
theorem l13Fault_rec (g : Nat) (e : Int) (l : ByteArray) (v o p : Int) (so st : Bool) (sv : Int) (a : Option Addr) (pn c : Nat) (sx : Bool) (sk sy : Int) (a' : Option Addr) (fn c' : Nat) (w : World) (hb : RpB w g e true l v o p so st sv (.slice a pn c) sx sk sy (.slice a' fn c')) (h1 : inB e 1 10 = true) (hs : l.size ≤ 1048576) (hc : ¬ recC l v o p = 0) :
    Calls Try.prog 11 #[.pointer (some ⟨g, 0, none⟩)] w fun x w' => x = .returned (.int .i64 (recC l v o p)) ∧ Below w.heap.size w w' := by
  obtain ⟨k0, k1, k2, k3, k4, k5, k6, k7, k8, k9, k10, k11, k12, k13⟩ := hb.cells
  have hI := fun w => l1In_any e 1 10 w
  rw [h1] at hI
  have hL := fun w' (hbq : Below w.heap.size w w') => l3Fault_at g 2 l v o p w' (hb.below hbq).rc hs
  have hnz := code_ne hc
  have hL0 := hL w (Below.refl _ _)
  generalize recC l v o p = rc at *
  clear hb h1 hs hc hL
  go_enter Try.func11, Try.ntmps11
  go_wp2_with fail
  refine (hI _).mono ?_
  rintro x wq ⟨rfl, hq⟩
  rw [hq]
  clear hq hI wq
  go_wp2_with fail
  refine hL0.mono ?_
  rintro x w1 ⟨rfl, hb1⟩
  clear hL0
  go_wp2
  go_ret
  exact ⟨rfl, hb1⟩
set_option maxRecDepth 100000 in
set_option maxHeartbeats 2000000 in
theorem l13Fault_saidt (g : Nat) (e : Int) (l : ByteArray) (v o p : Int) (so st : Bool) (sv : Int) (a : Option Addr) (pn c : Nat) (sx : Bool) (sk sy : Int) (a' : Option Addr) (fn c' : Nat) (z : Bool) (w : World) (hb : RpB w g e true l v o p so st sv (.slice a pn c) sx sk sy (.slice a' fn c')) (HZ : Hid ((z = false ∧ (sx = true ∨ (sx = false ∧ ¬ (sk = 0 ∧ sy = 0)) ∨ (sx = false ∧ sk = 0 ∧ sy = 0 ∧ 0 < fn))) ∨ (z = true ∧ sx = false ∧ sk = 0 ∧ sy = 0 ∧ fn = 0))) (h1 : inB e 1 10 = true) (hs : l.size ≤ 1048576) (hc : recC l v o p = 0) (hd : ¬ sdC so st sv pn z = 0) :
    Calls Try.prog 11 #[.pointer (some ⟨g, 0, none⟩)] w fun x w' => x = .returned (.int .i64 (sdC so st sv pn z)) ∧ Below w.heap.size w w' := by
  obtain ⟨k0, k1, k2, k3, k4, k5, k6, k7, k8, k9, k10, k11, k12, k13⟩ := hb.cells
  have hI := fun w => l1In_any e 1 10 w
  rw [h1] at hI
  have hL0 := l3Fault_at g 2 l v o p w hb.rc hs
  rw [hc] at hL0
  have HSD : Hid (∀ w', Below w.heap.size w w' → Calls Try.prog 25 #[.pointer (some ⟨g, 6, none⟩)] w' fun x w'' => x = .returned (.int .i64 (sdC so st sv pn z)) ∧ w'' = w') := fun w' hbq => l8Fault_off g 6 so st sv a pn c sx sk sy a' fn c' z w' (hb.below hbq).sd HZ
  have hnz := code_ne hd
  generalize sdC so st sv pn z = sd at *
  clear h1 hd HZ hb hs hc
  go_enter Try.func11, Try.ntmps11
  go_wp2_with fail
  refine (hI _).mono ?_
  rintro x wq ⟨rfl, hq⟩
  rw [hq]
  clear hq hI wq
  go_wp2_with fail
  refine hL0.mono ?_
  rintro x w1 ⟨rfl, hb1⟩
  clear hL0 k0 k1 k2 k3 k4 k5 k6 k7 k8 k9 k10 k11 k12 k13
  have hSd := HSD.out w1 hb1
  go_wp2_with fail
  refine hSd.mono ?_
  rintro x w2 ⟨rfl, hw2⟩
  rw [hw2]
  clear hw2 hSd w2
  go_wp2
  go_ret
  exact ⟨rfl, hb1⟩
set_option maxRecDepth 100000 in
set_option maxHeartbeats 2000000 in
theorem l13Fault_saidf (g : Nat) (e : Int) (l : ByteArray) (v o p : Int) (so st : Bool) (sv : Int) (a : Option Addr) (pn c : Nat) (sx : Bool) (sk sy : Int) (a' : Option Addr) (fn c' : Nat) (z : Bool) (w : World) (hb : RpB w g e false l v o p so st sv (.slice a pn c) sx sk sy (.slice a' fn c')) (HZ : Hid ((z = false ∧ (sx = true ∨ (sx = false ∧ ¬ (sk = 0 ∧ sy = 0)) ∨ (sx = false ∧ sk = 0 ∧ sy = 0 ∧ 0 < fn))) ∨ (z = true ∧ sx = false ∧ sk = 0 ∧ sy = 0 ∧ fn = 0))) (h1 : inB e 1 10 = true) (hz : zrR l v o p = true) (hd : ¬ sdC so st sv pn z = 0) :
    Calls Try.prog 11 #[.pointer (some ⟨g, 0, none⟩)] w fun x w' => x = .returned (.int .i64 (sdC so st sv pn z)) ∧ Below w.heap.size w w' := by
  obtain ⟨k0, k1, k2, k3, k4, k5, k6, k7, k8, k9, k10, k11, k12, k13⟩ := hb.cells
  have hI := fun w => l1In_any e 1 10 w
  rw [h1] at hI
  have hN := fun w => rec_zeroN l v o p w
  rw [hz] at hN
  have HSD : Hid (∀ w', Below w.heap.size w w' → Calls Try.prog 25 #[.pointer (some ⟨g, 6, none⟩)] w' fun x w'' => x = .returned (.int .i64 (sdC so st sv pn z)) ∧ w'' = w') := fun w' hbq => l8Fault_off g 6 so st sv a pn c sx sk sy a' fn c' z w' (hb.below hbq).sd HZ
  have hnz := code_ne hd
  generalize sdC so st sv pn z = sd at *
  clear h1 hd HZ hb hz
  go_enter Try.func11, Try.ntmps11
  go_wp2_with fail
  refine (hI _).mono ?_
  rintro x wq ⟨rfl, hq⟩
  rw [hq]
  clear hq hI wq
  obtain ⟨w1, hw1⟩ : ∃ w1, w1 = w := ⟨_, rfl⟩
  have hb1 : Below w.heap.size w w1 := by rw [hw1]; exact Below.refl _ _
  have HW1 : Hid (w = w1) := hw1.symm
  clear hw1
  have hSd := HSD.out w1 hb1
  go_wp2_with fail
  rw [HW1.out]
  refine hSd.mono ?_
  rintro x w2 ⟨rfl, hw2⟩
  rw [hw2]
  clear hw2 hSd w2
  go_wp2
  go_ret
  exact ⟨rfl, hb1⟩
set_option maxRecDepth 100000 in
set_option maxHeartbeats 2000000 in
theorem l13Fault_finttt (g : Nat) (e : Int) (l : ByteArray) (v o p : Int) (so : Bool) (sv : Int) (a : Option Addr) (pn c : Nat) (sx : Bool) (sk sy : Int) (a' : Option Addr) (fn c' : Nat) (z : Bool) (w : World) (hb : RpB w g e true l v o p so true sv (.slice a pn c) sx sk sy (.slice a' fn c')) (HZ : Hid ((z = false ∧ (sx = true ∨ (sx = false ∧ ¬ (sk = 0 ∧ sy = 0)) ∨ (sx = false ∧ sk = 0 ∧ sy = 0 ∧ 0 < fn))) ∨ (z = true ∧ sx = false ∧ sk = 0 ∧ sy = 0 ∧ fn = 0))) (h1 : inB e 1 10 = true) (hs : l.size ≤ 1048576) (hc : recC l v o p = 0) (hd : sdC so true sv pn z = 0) (hq : sv = sumL (packL l v o p)) :
    Calls Try.prog 11 #[.pointer (some ⟨g, 0, none⟩)] w fun x w' => x = .returned (.int .i64 (0)) ∧ Below w.heap.size w w' := by
  obtain ⟨k0, k1, k2, k3, k4, k5, k6, k7, k8, k9, k10, k11, k12, k13⟩ := hb.cells
  have hI := fun w => l1In_any e 1 10 w
  rw [h1] at hI
  have hL0 := l3Fault_at g 2 l v o p w hb.rc hs
  rw [hc] at hL0
  have HSD : Hid (∀ w', Below w.heap.size w w' → Calls Try.prog 25 #[.pointer (some ⟨g, 6, none⟩)] w' fun x w'' => x = .returned (.int .i64 (sdC so true sv pn z)) ∧ w'' = w') := fun w' hbq => l8Fault_off g 6 so true sv a pn c sx sk sy a' fn c' z w' (hb.below hbq).sd HZ
  have HSM : Hid (∀ w', Below w.heap.size w w' → Calls Try.prog 26 #[.pointer (some ⟨g, 2, none⟩)] w' fun x w'' => x = .returned (.int .i64 (sumL (packL l v o p))) ∧ Below w'.heap.size w' w'') := fun w' hbq => l3Sum_at g 2 l v o p w' (hb.below hbq).rt (recOk hc) (hb.below hbq).lt
  have hqb : (sv != sumL (packL l v o p)) = false := by simp [hq]
  generalize sumL (packL l v o p) = rs at *
  rw [hd] at HSD
  have HBB : Hid (∀ w', Below w.heap.size w w' → w'.cell? ⟨g, 1, none⟩ = some (.bool true) ∧ w'.cell? ⟨g, 7, none⟩ = some (.bool true) ∧ w'.cell? ⟨g, 8, none⟩ = some (.int .i64 sv)) := fun w' hbq => ⟨(hb.below hbq).cells.2.1, (hb.below hbq).cells.2.2.2.2.2.2.2.1, (hb.below hbq).cells.2.2.2.2.2.2.2.2.1⟩
  clear h1 hd HZ hb hs hc hq
  go_enter Try.func11, Try.ntmps11
  go_wp2_with fail
  refine (hI _).mono ?_
  rintro x wq ⟨rfl, hq⟩
  rw [hq]
  clear hq hI wq
  go_wp2_with fail
  refine hL0.mono ?_
  rintro x w1 ⟨rfl, hb1⟩
  clear hL0 k0 k1 k2 k3 k4 k5 k6 k7 k8 k9 k10 k11 k12 k13
  have hSd := HSD.out w1 hb1
  go_wp2_with fail
  refine hSd.mono ?_
  rintro x w2 ⟨rfl, hw2⟩
  rw [hw2]
  clear hw2 hSd w2
  obtain ⟨d1, d7, d8⟩ := HBB.out w1 hb1
  have t1 := After.cell d1
  have t7 := After.cell d7
  have t8 := After.cell d8
  have hne := After.ne w1
  have hSm := fun w' (hbq : Below w1.heap.size w1 w') => HSM.out w' (below_after_of hb1 hbq)
  go_wp2_with fail
  refine wp_region_after (by kernel_rfl) (by kernel_rfl) ?_
  repeat (first | go_big_quiet_skip | (go_big_quiet_want; go_big_quiet_op; first | go_big_quiet_on | go_big_quiet_call (first | (go_at_call 26; refine (hSm _ (After.b _)).mono ?_; rintro x wq ⟨rfl, hbq⟩; exact ⟨rfl, after_mk (below_after_of (After.b _) hbq)⟩))))
  refine wpQuiet_nil ?_
  rintro _ ⟨n6, rfl⟩
  have hb6 := n6.b
  generalize n6.w = w6 at *
  have hb7 := below_after_of hb1 hb6
  clear hb1 hb6 t1 t7 t8 hne d1 d7 d8 n6
  go_wp2
  go_ret
  exact ⟨rfl, hb7⟩
set_option maxRecDepth 100000 in
set_option maxHeartbeats 2000000 in
theorem l13Fault_finttf (g : Nat) (e : Int) (l : ByteArray) (v o p : Int) (so : Bool) (sv : Int) (a : Option Addr) (pn c : Nat) (sx : Bool) (sk sy : Int) (a' : Option Addr) (fn c' : Nat) (z : Bool) (w : World) (hb : RpB w g e true l v o p so true sv (.slice a pn c) sx sk sy (.slice a' fn c')) (HZ : Hid ((z = false ∧ (sx = true ∨ (sx = false ∧ ¬ (sk = 0 ∧ sy = 0)) ∨ (sx = false ∧ sk = 0 ∧ sy = 0 ∧ 0 < fn))) ∨ (z = true ∧ sx = false ∧ sk = 0 ∧ sy = 0 ∧ fn = 0))) (h1 : inB e 1 10 = true) (hs : l.size ≤ 1048576) (hc : recC l v o p = 0) (hd : sdC so true sv pn z = 0) (hq : ¬ sv = sumL (packL l v o p)) :
    Calls Try.prog 11 #[.pointer (some ⟨g, 0, none⟩)] w fun x w' => x = .returned (.int .i64 (1)) ∧ Below w.heap.size w w' := by
  obtain ⟨k0, k1, k2, k3, k4, k5, k6, k7, k8, k9, k10, k11, k12, k13⟩ := hb.cells
  have hI := fun w => l1In_any e 1 10 w
  rw [h1] at hI
  have hL0 := l3Fault_at g 2 l v o p w hb.rc hs
  rw [hc] at hL0
  have HSD : Hid (∀ w', Below w.heap.size w w' → Calls Try.prog 25 #[.pointer (some ⟨g, 6, none⟩)] w' fun x w'' => x = .returned (.int .i64 (sdC so true sv pn z)) ∧ w'' = w') := fun w' hbq => l8Fault_off g 6 so true sv a pn c sx sk sy a' fn c' z w' (hb.below hbq).sd HZ
  have HSM : Hid (∀ w', Below w.heap.size w w' → Calls Try.prog 26 #[.pointer (some ⟨g, 2, none⟩)] w' fun x w'' => x = .returned (.int .i64 (sumL (packL l v o p))) ∧ Below w'.heap.size w' w'') := fun w' hbq => l3Sum_at g 2 l v o p w' (hb.below hbq).rt (recOk hc) (hb.below hbq).lt
  have hqb : (sv != sumL (packL l v o p)) = true := by simp [hq]
  generalize sumL (packL l v o p) = rs at *
  rw [hd] at HSD
  have HBB : Hid (∀ w', Below w.heap.size w w' → w'.cell? ⟨g, 1, none⟩ = some (.bool true) ∧ w'.cell? ⟨g, 7, none⟩ = some (.bool true) ∧ w'.cell? ⟨g, 8, none⟩ = some (.int .i64 sv)) := fun w' hbq => ⟨(hb.below hbq).cells.2.1, (hb.below hbq).cells.2.2.2.2.2.2.2.1, (hb.below hbq).cells.2.2.2.2.2.2.2.2.1⟩
  clear h1 hd HZ hb hs hc hq
  go_enter Try.func11, Try.ntmps11
  go_wp2_with fail
  refine (hI _).mono ?_
  rintro x wq ⟨rfl, hq⟩
  rw [hq]
  clear hq hI wq
  go_wp2_with fail
  refine hL0.mono ?_
  rintro x w1 ⟨rfl, hb1⟩
  clear hL0 k0 k1 k2 k3 k4 k5 k6 k7 k8 k9 k10 k11 k12 k13
  have hSd := HSD.out w1 hb1
  go_wp2_with fail
  refine hSd.mono ?_
  rintro x w2 ⟨rfl, hw2⟩
  rw [hw2]
  clear hw2 hSd w2
  obtain ⟨d1, d7, d8⟩ := HBB.out w1 hb1
  have t1 := After.cell d1
  have t7 := After.cell d7
  have t8 := After.cell d8
  have hne := After.ne w1
  have hSm := fun w' (hbq : Below w1.heap.size w1 w') => HSM.out w' (below_after_of hb1 hbq)
  go_wp2_with fail
  refine wp_region_after (by kernel_rfl) (by kernel_rfl) ?_
  repeat (first | go_big_quiet_skip | (go_big_quiet_want; go_big_quiet_op; first | go_big_quiet_on | go_big_quiet_call (first | (go_at_call 26; refine (hSm _ (After.b _)).mono ?_; rintro x wq ⟨rfl, hbq⟩; exact ⟨rfl, after_mk (below_after_of (After.b _) hbq)⟩))))
  refine wpQuiet_nil ?_
  rintro _ ⟨n6, rfl⟩
  have hb6 := n6.b
  generalize n6.w = w6 at *
  have hb7 := below_after_of hb1 hb6
  clear hb1 hb6 t1 t7 t8 hne d1 d7 d8 n6
  go_wp2
  go_ret
  exact ⟨rfl, hb7⟩
set_option maxRecDepth 100000 in
set_option maxHeartbeats 2000000 in
theorem l13Fault_fintf (g : Nat) (e : Int) (l : ByteArray) (v o p : Int) (so : Bool) (sv : Int) (a : Option Addr) (pn c : Nat) (sx : Bool) (sk sy : Int) (a' : Option Addr) (fn c' : Nat) (z : Bool) (w : World) (hb : RpB w g e true l v o p so false sv (.slice a pn c) sx sk sy (.slice a' fn c')) (HZ : Hid ((z = false ∧ (sx = true ∨ (sx = false ∧ ¬ (sk = 0 ∧ sy = 0)) ∨ (sx = false ∧ sk = 0 ∧ sy = 0 ∧ 0 < fn))) ∨ (z = true ∧ sx = false ∧ sk = 0 ∧ sy = 0 ∧ fn = 0))) (h1 : inB e 1 10 = true) (hs : l.size ≤ 1048576) (hc : recC l v o p = 0) (hd : sdC so false sv pn z = 0) :
    Calls Try.prog 11 #[.pointer (some ⟨g, 0, none⟩)] w fun x w' => x = .returned (.int .i64 (1)) ∧ Below w.heap.size w w' := by
  obtain ⟨k0, k1, k2, k3, k4, k5, k6, k7, k8, k9, k10, k11, k12, k13⟩ := hb.cells
  have hI := fun w => l1In_any e 1 10 w
  rw [h1] at hI
  have hL0 := l3Fault_at g 2 l v o p w hb.rc hs
  rw [hc] at hL0
  have HSD : Hid (∀ w', Below w.heap.size w w' → Calls Try.prog 25 #[.pointer (some ⟨g, 6, none⟩)] w' fun x w'' => x = .returned (.int .i64 (sdC so false sv pn z)) ∧ w'' = w') := fun w' hbq => l8Fault_off g 6 so false sv a pn c sx sk sy a' fn c' z w' (hb.below hbq).sd HZ
  rw [hd] at HSD
  have HBB : Hid (∀ w', Below w.heap.size w w' → w'.cell? ⟨g, 1, none⟩ = some (.bool true) ∧ w'.cell? ⟨g, 7, none⟩ = some (.bool false) ∧ w'.cell? ⟨g, 8, none⟩ = some (.int .i64 sv)) := fun w' hbq => ⟨(hb.below hbq).cells.2.1, (hb.below hbq).cells.2.2.2.2.2.2.2.1, (hb.below hbq).cells.2.2.2.2.2.2.2.2.1⟩
  clear h1 hd HZ hb hs hc
  go_enter Try.func11, Try.ntmps11
  go_wp2_with fail
  refine (hI _).mono ?_
  rintro x wq ⟨rfl, hq⟩
  rw [hq]
  clear hq hI wq
  go_wp2_with fail
  refine hL0.mono ?_
  rintro x w1 ⟨rfl, hb1⟩
  clear hL0 k0 k1 k2 k3 k4 k5 k6 k7 k8 k9 k10 k11 k12 k13
  have hSd := HSD.out w1 hb1
  go_wp2_with fail
  refine hSd.mono ?_
  rintro x w2 ⟨rfl, hw2⟩
  rw [hw2]
  clear hw2 hSd w2
  obtain ⟨d1, d7, d8⟩ := HBB.out w1 hb1
  have t1 := After.cell d1
  have t7 := After.cell d7
  have t8 := After.cell d8
  have hne := After.ne w1
  go_wp2_with fail
  refine wp_region_after (by kernel_rfl) (by kernel_rfl) ?_
  repeat (first | go_big_quiet_skip | (go_big_quiet_want; go_big_quiet_op; first | go_big_quiet_on | go_big_quiet_call (first | fail)))
  refine wpQuiet_nil ?_
  rintro _ ⟨n6, rfl⟩
  have hb6 := n6.b
  generalize n6.w = w6 at *
  have hb7 := below_after_of hb1 hb6
  clear hb1 hb6 t1 t7 t8 hne d1 d7 d8 n6
  go_wp2
  go_ret
  exact ⟨rfl, hb7⟩
set_option maxRecDepth 100000 in
set_option maxHeartbeats 2000000 in
theorem l13Fault_finft (g : Nat) (e : Int) (l : ByteArray) (v o p : Int) (so : Bool) (sv : Int) (a : Option Addr) (pn c : Nat) (sx : Bool) (sk sy : Int) (a' : Option Addr) (fn c' : Nat) (z : Bool) (w : World) (hb : RpB w g e false l v o p so true sv (.slice a pn c) sx sk sy (.slice a' fn c')) (HZ : Hid ((z = false ∧ (sx = true ∨ (sx = false ∧ ¬ (sk = 0 ∧ sy = 0)) ∨ (sx = false ∧ sk = 0 ∧ sy = 0 ∧ 0 < fn))) ∨ (z = true ∧ sx = false ∧ sk = 0 ∧ sy = 0 ∧ fn = 0))) (h1 : inB e 1 10 = true) (hz : zrR l v o p = true) (hd : sdC so true sv pn z = 0) :
    Calls Try.prog 11 #[.pointer (some ⟨g, 0, none⟩)] w fun x w' => x = .returned (.int .i64 (1)) ∧ Below w.heap.size w w' := by
  obtain ⟨k0, k1, k2, k3, k4, k5, k6, k7, k8, k9, k10, k11, k12, k13⟩ := hb.cells
  have hI := fun w => l1In_any e 1 10 w
  rw [h1] at hI
  have hN := fun w => rec_zeroN l v o p w
  rw [hz] at hN
  have HSD : Hid (∀ w', Below w.heap.size w w' → Calls Try.prog 25 #[.pointer (some ⟨g, 6, none⟩)] w' fun x w'' => x = .returned (.int .i64 (sdC so true sv pn z)) ∧ w'' = w') := fun w' hbq => l8Fault_off g 6 so true sv a pn c sx sk sy a' fn c' z w' (hb.below hbq).sd HZ
  rw [hd] at HSD
  have HBB : Hid (∀ w', Below w.heap.size w w' → w'.cell? ⟨g, 1, none⟩ = some (.bool false) ∧ w'.cell? ⟨g, 7, none⟩ = some (.bool true) ∧ w'.cell? ⟨g, 8, none⟩ = some (.int .i64 sv)) := fun w' hbq => ⟨(hb.below hbq).cells.2.1, (hb.below hbq).cells.2.2.2.2.2.2.2.1, (hb.below hbq).cells.2.2.2.2.2.2.2.2.1⟩
  clear h1 hd HZ hb hz
  go_enter Try.func11, Try.ntmps11
  go_wp2_with fail
  refine (hI _).mono ?_
  rintro x wq ⟨rfl, hq⟩
  rw [hq]
  clear hq hI wq
  obtain ⟨w1, hw1⟩ : ∃ w1, w1 = w := ⟨_, rfl⟩
  have hb1 : Below w.heap.size w w1 := by rw [hw1]; exact Below.refl _ _
  have HW1 : Hid (w = w1) := hw1.symm
  clear hw1
  have hSd := HSD.out w1 hb1
  go_wp2_with fail
  rw [HW1.out]
  refine hSd.mono ?_
  rintro x w2 ⟨rfl, hw2⟩
  rw [hw2]
  clear hw2 hSd w2
  clear k0 k1 k2 k3 k4 k5 k6 k7 k8 k9 k10 k11 k12 k13 HW1
  obtain ⟨d1, d7, d8⟩ := HBB.out w1 hb1
  have t1 := After.cell d1
  have t7 := After.cell d7
  have t8 := After.cell d8
  have hne := After.ne w1
  go_wp2_with fail
  refine wp_region_after (by kernel_rfl) (by kernel_rfl) ?_
  repeat (first | go_big_quiet_skip | (go_big_quiet_want; go_big_quiet_op; first | go_big_quiet_on | go_big_quiet_call (first | fail)))
  refine wpQuiet_nil ?_
  rintro _ ⟨n6, rfl⟩
  have hb6 := n6.b
  generalize n6.w = w6 at *
  have hb7 := below_after_of hb1 hb6
  clear hb1 hb6 t1 t7 t8 hne d1 d7 d8 n6
  go_wp2
  go_ret
  exact ⟨rfl, hb7⟩
set_option maxRecDepth 100000 in
set_option maxHeartbeats 2000000 in
theorem l13Fault_finff (g : Nat) (e : Int) (l : ByteArray) (v o p : Int) (so : Bool) (sv : Int) (a : Option Addr) (pn c : Nat) (sx : Bool) (sk sy : Int) (a' : Option Addr) (fn c' : Nat) (z : Bool) (w : World) (hb : RpB w g e false l v o p so false sv (.slice a pn c) sx sk sy (.slice a' fn c')) (HZ : Hid ((z = false ∧ (sx = true ∨ (sx = false ∧ ¬ (sk = 0 ∧ sy = 0)) ∨ (sx = false ∧ sk = 0 ∧ sy = 0 ∧ 0 < fn))) ∨ (z = true ∧ sx = false ∧ sk = 0 ∧ sy = 0 ∧ fn = 0))) (h1 : inB e 1 10 = true) (hz : zrR l v o p = true) (hd : sdC so false sv pn z = 0) :
    Calls Try.prog 11 #[.pointer (some ⟨g, 0, none⟩)] w fun x w' => x = .returned (.int .i64 (0)) ∧ Below w.heap.size w w' := by
  obtain ⟨k0, k1, k2, k3, k4, k5, k6, k7, k8, k9, k10, k11, k12, k13⟩ := hb.cells
  have hI := fun w => l1In_any e 1 10 w
  rw [h1] at hI
  have hN := fun w => rec_zeroN l v o p w
  rw [hz] at hN
  have HSD : Hid (∀ w', Below w.heap.size w w' → Calls Try.prog 25 #[.pointer (some ⟨g, 6, none⟩)] w' fun x w'' => x = .returned (.int .i64 (sdC so false sv pn z)) ∧ w'' = w') := fun w' hbq => l8Fault_off g 6 so false sv a pn c sx sk sy a' fn c' z w' (hb.below hbq).sd HZ
  rw [hd] at HSD
  have HBB : Hid (∀ w', Below w.heap.size w w' → w'.cell? ⟨g, 1, none⟩ = some (.bool false) ∧ w'.cell? ⟨g, 7, none⟩ = some (.bool false) ∧ w'.cell? ⟨g, 8, none⟩ = some (.int .i64 sv)) := fun w' hbq => ⟨(hb.below hbq).cells.2.1, (hb.below hbq).cells.2.2.2.2.2.2.2.1, (hb.below hbq).cells.2.2.2.2.2.2.2.2.1⟩
  clear h1 hd HZ hb hz
  go_enter Try.func11, Try.ntmps11
  go_wp2_with fail
  refine (hI _).mono ?_
  rintro x wq ⟨rfl, hq⟩
  rw [hq]
  clear hq hI wq
  obtain ⟨w1, hw1⟩ : ∃ w1, w1 = w := ⟨_, rfl⟩
  have hb1 : Below w.heap.size w w1 := by rw [hw1]; exact Below.refl _ _
  have HW1 : Hid (w = w1) := hw1.symm
  clear hw1
  have hSd := HSD.out w1 hb1
  go_wp2_with fail
  rw [HW1.out]
  refine hSd.mono ?_
  rintro x w2 ⟨rfl, hw2⟩
  rw [hw2]
  clear hw2 hSd w2
  clear k0 k1 k2 k3 k4 k5 k6 k7 k8 k9 k10 k11 k12 k13 HW1
  obtain ⟨d1, d7, d8⟩ := HBB.out w1 hb1
  have t1 := After.cell d1
  have t7 := After.cell d7
  have t8 := After.cell d8
  have hne := After.ne w1
  go_wp2_with fail
  refine wp_region_after (by kernel_rfl) (by kernel_rfl) ?_
  repeat (first | go_big_quiet_skip | (go_big_quiet_want; go_big_quiet_op; first | go_big_quiet_on | go_big_quiet_call (first | fail)))
  refine wpQuiet_nil ?_
  rintro _ ⟨n6, rfl⟩
  have hb6 := n6.b
  generalize n6.w = w6 at *
  have hb7 := below_after_of hb1 hb6
  clear hb1 hb6 t1 t7 t8 hne d1 d7 d8 n6
  go_wp2
  go_ret
  exact ⟨rfl, hb7⟩
theorem l13Fault_any (g : Nat) (e : Int) (hl : Bool) (l : ByteArray) (v o p : Int) (so st : Bool) (sv : Int) (a : Option Addr) (pn c : Nat) (sx : Bool) (sk sy : Int) (a' : Option Addr) (fn c' : Nat) (z : Bool) (w : World) (hb : RpB w g e hl l v o p so st sv (.slice a pn c) sx sk sy (.slice a' fn c')) (HZ : Hid ((z = false ∧ (sx = true ∨ (sx = false ∧ ¬ (sk = 0 ∧ sy = 0)) ∨ (sx = false ∧ sk = 0 ∧ sy = 0 ∧ 0 < fn))) ∨ (z = true ∧ sx = false ∧ sk = 0 ∧ sy = 0 ∧ fn = 0))) (hs : l.size ≤ 1048576) :
    Calls Try.prog 11 #[.pointer (some ⟨g, 0, none⟩)] w fun x w' => x = .returned (.int .i64 (rpC e hl l v o p st sv (sdC so st sv pn z))) ∧ Below w.heap.size w w' := by
  rcases Bool.eq_false_or_eq_true (inB e 1 10) with h1 | h1
  · cases hl
    · rcases Bool.eq_false_or_eq_true (zrR l v o p) with hz | hz
      · have hh : heC false l v o p = 0 := by unfold heC; rw [hz]; rfl
        by_cases hd : sdC so st sv pn z = 0
        · have hq0 : rpQ false l v o p (sdC so st sv pn z) = 0 := by unfold rpQ; rw [if_pos hh, hd]
          rw [rpC_fin h1 hq0]
          cases st
          · exact l13Fault_finff g e l v o p so sv a pn c sx sk sy a' fn c' z w hb HZ h1 hz hd
          · exact l13Fault_finft g e l v o p so sv a pn c sx sk sy a' fn c' z w hb HZ h1 hz hd
        · have hq0 : rpQ false l v o p (sdC so st sv pn z) = sdC so st sv pn z := by unfold rpQ; rw [if_pos hh]
          rw [rpC_bad h1 (by rw [hq0]; exact hd), hq0]
          exact l13Fault_saidf g e l v o p so st sv a pn c sx sk sy a' fn c' z w hb HZ h1 hz hd
      · have hh : heC false l v o p = 1 := by unfold heC; rw [hz]; rfl
        have hq0 : rpQ false l v o p (sdC so st sv pn z) = 1 := by unfold rpQ; rw [if_neg (by rw [hh]; decide), hh]
        rw [rpC_bad h1 (by rw [hq0]; decide), hq0]
        exact l13Fault_form g e l v o p so st sv a pn c sx sk sy a' fn c' w hb h1 hz
    · have hh : heC true l v o p = recC l v o p := by unfold heC; rw [if_pos rfl]
      by_cases hc : recC l v o p = 0
      · by_cases hd : sdC so st sv pn z = 0
        · have hq0 : rpQ true l v o p (sdC so st sv pn z) = 0 := by unfold rpQ; rw [if_pos (by rw [hh]; exact hc), hd]
          rw [rpC_fin h1 hq0]
          cases st
          · exact l13Fault_fintf g e l v o p so sv a pn c sx sk sy a' fn c' z w hb HZ h1 hs hc hd
          · by_cases hq : sv = sumL (packL l v o p)
            · have e0 : fiC true true sv (sumL (packL l v o p)) = 0 := by unfold fiC; rw [if_pos rfl, if_pos rfl, if_pos hq]
              rw [e0]
              exact l13Fault_finttt g e l v o p so sv a pn c sx sk sy a' fn c' z w hb HZ h1 hs hc hd hq
            · have e0 : fiC true true sv (sumL (packL l v o p)) = 1 := by unfold fiC; rw [if_pos rfl, if_pos rfl, if_neg hq]
              rw [e0]
              exact l13Fault_finttf g e l v o p so sv a pn c sx sk sy a' fn c' z w hb HZ h1 hs hc hd hq
        · have hq0 : rpQ true l v o p (sdC so st sv pn z) = sdC so st sv pn z := by unfold rpQ; rw [if_pos (by rw [hh]; exact hc)]
          rw [rpC_bad h1 (by rw [hq0]; exact hd), hq0]
          exact l13Fault_saidt g e l v o p so st sv a pn c sx sk sy a' fn c' z w hb HZ h1 hs hc hd
      · have hq0 : rpQ true l v o p (sdC so st sv pn z) = recC l v o p := by unfold rpQ; rw [if_neg (by rw [hh]; exact hc), hh]
        rw [rpC_bad h1 (by rw [hq0]; exact hc), hq0]
        exact l13Fault_rec g e l v o p so st sv a pn c sx sk sy a' fn c' w hb h1 hs hc
  · rw [rpC_out h1]
    exact l13Fault_out g e hl l v o p so st sv a pn c sx sk sy a' fn c' w hb h1
set_option maxRecDepth 100000 in
set_option maxHeartbeats 2000000 in
theorem specReplyFault_any (e : Int) (hl : Bool) (l : ByteArray) (v o p : Int) (so st : Bool) (sv : Int) (sp : Value) (ps : List Int) (sx : Bool) (sk sy : Int) (sf : Value) (f : Prl) (w : World) (hp : Ints .i64 w sp ps) (hv : Prs w sf f) (hs : l.size ≤ 1048576) :
    Calls Try.prog 5 #[rpV e hl l v o p so st sv sp sx sk sy sf] w fun x w' => x = .returned (.int .i64 (rpC e hl l v o p st sv (sdC so st sv ps.length (tlZ sx sk sy f)))) ∧ Below w.heap.size w w' := by
  have hz0 := tlZ_how sx sk sy f
  obtain ⟨a, c, rfl⟩ := hp.shape
  obtain ⟨a', c', rfl⟩ := hv.shape
  have hL := fun (g : Nat) (w : World) h => l13Fault_any g e hl l v o p so st sv a ps.length c sx sk sy a' f.length c' (tlZ sx sk sy f) w h hz0 hs
  have HB := RpB.new w e hl l v o p so st sv (.slice a ps.length c) sx sk sy (.slice a' f.length c')
  have hF := hL _ _ HB
  generalize rpC e hl l v o p st sv (sdC so st sv ps.length (tlZ sx sk sy f)) = q at *
  generalize ps.length = pn at *
  generalize f.length = fn at *
  clear hp hv hz0 hL HB
  unfold rpV
  go_enter Try.func5, Try.ntmps5
  go_wp2_with fail
  refine hF.mono ?_
  rintro x w1 ⟨rfl, hb1⟩
  go_wp2
  go_ret
  exact ⟨rfl, below_after hb1⟩
end U
end Go.Proofs.Ytdbbmclobmigdaa
