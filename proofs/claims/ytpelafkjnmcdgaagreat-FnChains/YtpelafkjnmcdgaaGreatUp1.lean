/- May a right record be put into a right directory? By the model, way by way. -/
import Derived.Test.YtpelafkjnmcdgaaGreatUpM
import Derived.Test.YtpelafkjnmcdgaaGreatAn2
namespace Go.Proofs.YtpelafkjnmcdgaaGreat
open Go.RowKit
namespace U
set_option maxRecDepth 100000 in
set_option maxHeartbeats 4000000 in
theorem l9May_taken (g p b off c n j : Nat) (s : Int) (x0 r0 : ByteArray) (x1 x2 r1 r2 ow kz : Int) (w : World) (hg : g < w.heap.size) (hp : p < w.heap.size) (hb : b < w.heap.size) (hj : j < n) (hD : w.cell? ⟨g, 0, none⟩ = some (.slice (some ⟨b, off, none⟩) n c))
    (hx0 : w.cell? ⟨b, off + j * 4, none⟩ = some (.string x0)) (hx1 : w.cell? ⟨b, off + j * 4 + 1, none⟩ = some (.int .i64 x1)) (hx2 : w.cell? ⟨b, off + j * 4 + 2, none⟩ = some (.int .i64 x2)) (hr0 : w.cell? ⟨p, 0, none⟩ = some (.string r0)) (hr1 : w.cell? ⟨p, 1, none⟩ = some (.int .i64 r1)) (hr2 : w.cell? ⟨p, 2, none⟩ = some (.int .i64 r2)) (_ : 1 ≤ x1 ∧ x1 ≤ 999) (hs : inB s 0 999 = true)
    (hl : (x0.toList == r0.toList) = false)
    (hK : ∀ w', Calls Tryz.prog 78 #[.string r0] w' fun e w'' => e = .returned (.int .i64 kz) ∧ Below w'.heap.size w' w'') (hA : ∀ w', Below w.heap.size w w' → Calls Tryz.prog 127 #[.pointer (some ⟨g, 0, none⟩), .int .i64 kz] w' fun e w'' => e = .returned (.int .i64 (j : Int)) ∧ Below w'.heap.size w' w'') (_ : ∀ w', Calls Tryz.prog 113 #[.int .i64 s] w' fun e w'' => e = .returned (.int .i64 ow) ∧ Below w'.heap.size w' w'') :
    Calls Tryz.prog 115 #[.pointer (some ⟨g, 0, none⟩), .pointer (some ⟨p, 0, none⟩), .int .i64 s] w fun e w' => e = .returned (.int .i64 6) ∧ Below w.heap.size w w' := by
  have hI := fun w => l1In_any s 0 999 w
  rw [hs] at hI
  have hji : (j : Int) < (n : Int) := by omega
  have hj0 : decide ((j : Int) < 0) = false := by simp
  have hj1 : decide (0 ≤ (j : Int)) = true := by simp
  have HR : Hid (∀ w', Below w.heap.size w w' → w'.cell? ⟨g, 0, none⟩ = some (.slice (some ⟨b, off, none⟩) n c) ∧ w'.cell? ⟨p, 0, none⟩ = some (.string r0) ∧ w'.cell? ⟨p, 1, none⟩ = some (.int .i64 r1) ∧ w'.cell? ⟨p, 2, none⟩ = some (.int .i64 r2) ∧ w'.cell? ⟨b, off + j * 4, none⟩ = some (.string x0) ∧ w'.cell? ⟨b, off + j * 4 + 1, none⟩ = some (.int .i64 x1) ∧ w'.cell? ⟨b, off + j * 4 + 2, none⟩ = some (.int .i64 x2)) := fun w' h => ⟨(h.cell (p := ⟨g, 0, none⟩) hg).trans hD, (h.cell (p := ⟨p, 0, none⟩) hp).trans hr0, (h.cell (p := ⟨p, 1, none⟩) hp).trans hr1, (h.cell (p := ⟨p, 2, none⟩) hp).trans hr2, (h.cell (p := ⟨b, off + j * 4, none⟩) hb).trans hx0, (h.cell (p := ⟨b, off + j * 4 + 1, none⟩) hb).trans hx1, (h.cell (p := ⟨b, off + j * 4 + 2, none⟩) hb).trans hx2⟩
  clear hs hD hr1 hr2 hx0 hx1 hx2
  go_enter Tryz.func115, Tryz.ntmps115
  go_wp2_with fail
  refine (hI _).mono ?_
  rintro e w0 ⟨rfl, rfl⟩
  clear hI
  go_wp2_with fail
  refine (hK _).mono ?_
  rintro e w1 ⟨rfl, hb1⟩
  clear hK hr0
  go_wp2_with fail
  refine (hA _ hb1).mono ?_
  rintro e w2 ⟨rfl, hb2⟩
  have hB2 := below_after_of hb1 hb2
  clear hA hb1 hb2
  obtain ⟨kD, k0, k1, k2, m0, m1, m2⟩ := HR.out _ hB2
  have qkD := After.cell kD
  have qk0 := After.cell k0
  have qk1 := After.cell k1
  have qk2 := After.cell k2
  have qm0 := After.cell m0
  have qm1 := After.cell m1
  have qm2 := After.cell m2
  have hne := After.ne w2
  go_wp2_with fail
  refine wp_region_after (by kernel_rfl) (by kernel_rfl) ?_
  repeat (first | go_big_quiet_skip | (go_big_quiet_want; go_big_quiet_op; first | go_big_quiet_on | go_big_quiet_call (first | (go_at_call 113; refine (hOw _).mono ?_; rintro e wq ⟨rfl, hbq⟩; exact ⟨rfl, after_mk (below_after_of (After.b _) hbq)⟩))))
  refine wpQuiet_nil ?_
  rintro _ ⟨n2, rfl⟩
  have hB3 := below_after_of hB2 n2.b
  generalize n2.w = w3 at *
  clear hne n2 qkD qk0 qk1 qk2 qm0 qm1 qm2 kD k0 k1 k2 m0 m1 m2 hB2
  obtain ⟨kD, k0, k1, k2, m0, m1, m2⟩ := HR.out _ hB3
  go_wp2
  go_ret
  exact ⟨rfl, hB3⟩
set_option maxRecDepth 100000 in
set_option maxHeartbeats 4000000 in
theorem l9May_owner (g p b off c n j : Nat) (s : Int) (x0 r0 : ByteArray) (x1 x2 r1 r2 ow kz : Int) (w : World) (hg : g < w.heap.size) (hp : p < w.heap.size) (hb : b < w.heap.size) (hj : j < n) (hD : w.cell? ⟨g, 0, none⟩ = some (.slice (some ⟨b, off, none⟩) n c))
    (hx0 : w.cell? ⟨b, off + j * 4, none⟩ = some (.string x0)) (hx1 : w.cell? ⟨b, off + j * 4 + 1, none⟩ = some (.int .i64 x1)) (hx2 : w.cell? ⟨b, off + j * 4 + 2, none⟩ = some (.int .i64 x2)) (hr0 : w.cell? ⟨p, 0, none⟩ = some (.string r0)) (hr1 : w.cell? ⟨p, 1, none⟩ = some (.int .i64 r1)) (hr2 : w.cell? ⟨p, 2, none⟩ = some (.int .i64 r2)) (_ : 1 ≤ x1 ∧ x1 ≤ 999) (hs : inB s 0 999 = true)
    (hl : (x0.toList == r0.toList) = true) (ho : (x2 != ow) = true)
    (hK : ∀ w', Calls Tryz.prog 78 #[.string r0] w' fun e w'' => e = .returned (.int .i64 kz) ∧ Below w'.heap.size w' w'') (hA : ∀ w', Below w.heap.size w w' → Calls Tryz.prog 127 #[.pointer (some ⟨g, 0, none⟩), .int .i64 kz] w' fun e w'' => e = .returned (.int .i64 (j : Int)) ∧ Below w'.heap.size w' w'') (hOw : ∀ w', Calls Tryz.prog 113 #[.int .i64 s] w' fun e w'' => e = .returned (.int .i64 ow) ∧ Below w'.heap.size w' w'') :
    Calls Tryz.prog 115 #[.pointer (some ⟨g, 0, none⟩), .pointer (some ⟨p, 0, none⟩), .int .i64 s] w fun e w' => e = .returned (.int .i64 8) ∧ Below w.heap.size w w' := by
  have hI := fun w => l1In_any s 0 999 w
  rw [hs] at hI
  have hji : (j : Int) < (n : Int) := by omega
  have hj0 : decide ((j : Int) < 0) = false := by simp
  have hj1 : decide (0 ≤ (j : Int)) = true := by simp
  have HR : Hid (∀ w', Below w.heap.size w w' → w'.cell? ⟨g, 0, none⟩ = some (.slice (some ⟨b, off, none⟩) n c) ∧ w'.cell? ⟨p, 0, none⟩ = some (.string r0) ∧ w'.cell? ⟨p, 1, none⟩ = some (.int .i64 r1) ∧ w'.cell? ⟨p, 2, none⟩ = some (.int .i64 r2) ∧ w'.cell? ⟨b, off + j * 4, none⟩ = some (.string x0) ∧ w'.cell? ⟨b, off + j * 4 + 1, none⟩ = some (.int .i64 x1) ∧ w'.cell? ⟨b, off + j * 4 + 2, none⟩ = some (.int .i64 x2)) := fun w' h => ⟨(h.cell (p := ⟨g, 0, none⟩) hg).trans hD, (h.cell (p := ⟨p, 0, none⟩) hp).trans hr0, (h.cell (p := ⟨p, 1, none⟩) hp).trans hr1, (h.cell (p := ⟨p, 2, none⟩) hp).trans hr2, (h.cell (p := ⟨b, off + j * 4, none⟩) hb).trans hx0, (h.cell (p := ⟨b, off + j * 4 + 1, none⟩) hb).trans hx1, (h.cell (p := ⟨b, off + j * 4 + 2, none⟩) hb).trans hx2⟩
  clear hs hD hr1 hr2 hx0 hx1 hx2
  go_enter Tryz.func115, Tryz.ntmps115
  go_wp2_with fail
  refine (hI _).mono ?_
  rintro e w0 ⟨rfl, rfl⟩
  clear hI
  go_wp2_with fail
  refine (hK _).mono ?_
  rintro e w1 ⟨rfl, hb1⟩
  clear hK hr0
  go_wp2_with fail
  refine (hA _ hb1).mono ?_
  rintro e w2 ⟨rfl, hb2⟩
  have hB2 := below_after_of hb1 hb2
  clear hA hb1 hb2
  obtain ⟨kD, k0, k1, k2, m0, m1, m2⟩ := HR.out _ hB2
  have qkD := After.cell kD
  have qk0 := After.cell k0
  have qk1 := After.cell k1
  have qk2 := After.cell k2
  have qm0 := After.cell m0
  have qm1 := After.cell m1
  have qm2 := After.cell m2
  have hne := After.ne w2
  go_wp2_with fail
  refine wp_region_after (by kernel_rfl) (by kernel_rfl) ?_
  repeat (first | go_big_quiet_skip | (go_big_quiet_want; go_big_quiet_op; first | go_big_quiet_on | go_big_quiet_call (first | (go_at_call 113; refine (hOw _).mono ?_; rintro e wq ⟨rfl, hbq⟩; exact ⟨rfl, after_mk (below_after_of (After.b _) hbq)⟩))))
  refine wpQuiet_nil ?_
  rintro _ ⟨n2, rfl⟩
  have hB3 := below_after_of hB2 n2.b
  generalize n2.w = w3 at *
  clear hne n2 qkD qk0 qk1 qk2 qm0 qm1 qm2 kD k0 k1 k2 m0 m1 m2 hB2
  obtain ⟨kD, k0, k1, k2, m0, m1, m2⟩ := HR.out _ hB3
  have qkD := After.cell kD
  have qk0 := After.cell k0
  have qk1 := After.cell k1
  have qk2 := After.cell k2
  have qm0 := After.cell m0
  have qm1 := After.cell m1
  have qm2 := After.cell m2
  have hne := After.ne w3
  go_wp2_with fail
  refine wp_region_after (by kernel_rfl) (by kernel_rfl) ?_
  repeat (first | go_big_quiet_skip | (go_big_quiet_want; go_big_quiet_op; first | go_big_quiet_on | go_big_quiet_call (first | (go_at_call 113; refine (hOw _).mono ?_; rintro e wq ⟨rfl, hbq⟩; exact ⟨rfl, after_mk (below_after_of (After.b _) hbq)⟩))))
  refine wpQuiet_nil ?_
  rintro _ ⟨n3, rfl⟩
  have hB4 := below_after_of hB3 n3.b
  generalize n3.w = w4 at *
  clear hne n3 qkD qk0 qk1 qk2 qm0 qm1 qm2 kD k0 k1 k2 m0 m1 m2 hB3
  obtain ⟨kD, k0, k1, k2, m0, m1, m2⟩ := HR.out _ hB4
  go_wp2
  go_ret
  exact ⟨rfl, hB4⟩
set_option maxRecDepth 100000 in
set_option maxHeartbeats 4000000 in
theorem l9May_version (g p b off c n j : Nat) (s : Int) (x0 r0 : ByteArray) (x1 x2 r1 r2 ow kz : Int) (w : World) (hg : g < w.heap.size) (hp : p < w.heap.size) (hb : b < w.heap.size) (hj : j < n) (hD : w.cell? ⟨g, 0, none⟩ = some (.slice (some ⟨b, off, none⟩) n c))
    (hx0 : w.cell? ⟨b, off + j * 4, none⟩ = some (.string x0)) (hx1 : w.cell? ⟨b, off + j * 4 + 1, none⟩ = some (.int .i64 x1)) (hx2 : w.cell? ⟨b, off + j * 4 + 2, none⟩ = some (.int .i64 x2)) (hr0 : w.cell? ⟨p, 0, none⟩ = some (.string r0)) (hr1 : w.cell? ⟨p, 1, none⟩ = some (.int .i64 r1)) (hr2 : w.cell? ⟨p, 2, none⟩ = some (.int .i64 r2)) (hv : 1 ≤ x1 ∧ x1 ≤ 999) (hs : inB s 0 999 = true)
    (hl : (x0.toList == r0.toList) = true) (ho : (x2 != ow) = false) (hvn : (x1 + 1 != r1) = true)
    (hK : ∀ w', Calls Tryz.prog 78 #[.string r0] w' fun e w'' => e = .returned (.int .i64 kz) ∧ Below w'.heap.size w' w'') (hA : ∀ w', Below w.heap.size w w' → Calls Tryz.prog 127 #[.pointer (some ⟨g, 0, none⟩), .int .i64 kz] w' fun e w'' => e = .returned (.int .i64 (j : Int)) ∧ Below w'.heap.size w' w'') (hOw : ∀ w', Calls Tryz.prog 113 #[.int .i64 s] w' fun e w'' => e = .returned (.int .i64 ow) ∧ Below w'.heap.size w' w'') :
    Calls Tryz.prog 115 #[.pointer (some ⟨g, 0, none⟩), .pointer (some ⟨p, 0, none⟩), .int .i64 s] w fun e w' => e = .returned (.int .i64 7) ∧ Below w.heap.size w w' := by
  have hI := fun w => l1In_any s 0 999 w
  rw [hs] at hI
  have hji : (j : Int) < (n : Int) := by omega
  have hj0 : decide ((j : Int) < 0) = false := by simp
  have hj1 : decide (0 ≤ (j : Int)) = true := by simp
  have HR : Hid (∀ w', Below w.heap.size w w' → w'.cell? ⟨g, 0, none⟩ = some (.slice (some ⟨b, off, none⟩) n c) ∧ w'.cell? ⟨p, 0, none⟩ = some (.string r0) ∧ w'.cell? ⟨p, 1, none⟩ = some (.int .i64 r1) ∧ w'.cell? ⟨p, 2, none⟩ = some (.int .i64 r2) ∧ w'.cell? ⟨b, off + j * 4, none⟩ = some (.string x0) ∧ w'.cell? ⟨b, off + j * 4 + 1, none⟩ = some (.int .i64 x1) ∧ w'.cell? ⟨b, off + j * 4 + 2, none⟩ = some (.int .i64 x2)) := fun w' h => ⟨(h.cell (p := ⟨g, 0, none⟩) hg).trans hD, (h.cell (p := ⟨p, 0, none⟩) hp).trans hr0, (h.cell (p := ⟨p, 1, none⟩) hp).trans hr1, (h.cell (p := ⟨p, 2, none⟩) hp).trans hr2, (h.cell (p := ⟨b, off + j * 4, none⟩) hb).trans hx0, (h.cell (p := ⟨b, off + j * 4 + 1, none⟩) hb).trans hx1, (h.cell (p := ⟨b, off + j * 4 + 2, none⟩) hb).trans hx2⟩
  clear hs hD hr1 hr2 hx0 hx1 hx2
  go_enter Tryz.func115, Tryz.ntmps115
  go_wp2_with fail
  refine (hI _).mono ?_
  rintro e w0 ⟨rfl, rfl⟩
  clear hI
  go_wp2_with fail
  refine (hK _).mono ?_
  rintro e w1 ⟨rfl, hb1⟩
  clear hK hr0
  go_wp2_with fail
  refine (hA _ hb1).mono ?_
  rintro e w2 ⟨rfl, hb2⟩
  have hB2 := below_after_of hb1 hb2
  clear hA hb1 hb2
  obtain ⟨kD, k0, k1, k2, m0, m1, m2⟩ := HR.out _ hB2
  have qkD := After.cell kD
  have qk0 := After.cell k0
  have qk1 := After.cell k1
  have qk2 := After.cell k2
  have qm0 := After.cell m0
  have qm1 := After.cell m1
  have qm2 := After.cell m2
  have hne := After.ne w2
  go_wp2_with fail
  refine wp_region_after (by kernel_rfl) (by kernel_rfl) ?_
  repeat (first | go_big_quiet_skip | (go_big_quiet_want; go_big_quiet_op; first | go_big_quiet_on | go_big_quiet_call (first | (go_at_call 113; refine (hOw _).mono ?_; rintro e wq ⟨rfl, hbq⟩; exact ⟨rfl, after_mk (below_after_of (After.b _) hbq)⟩))))
  refine wpQuiet_nil ?_
  rintro _ ⟨n2, rfl⟩
  have hB3 := below_after_of hB2 n2.b
  generalize n2.w = w3 at *
  clear hne n2 qkD qk0 qk1 qk2 qm0 qm1 qm2 kD k0 k1 k2 m0 m1 m2 hB2
  obtain ⟨kD, k0, k1, k2, m0, m1, m2⟩ := HR.out _ hB3
  have qkD := After.cell kD
  have qk0 := After.cell k0
  have qk1 := After.cell k1
  have qk2 := After.cell k2
  have qm0 := After.cell m0
  have qm1 := After.cell m1
  have qm2 := After.cell m2
  have hne := After.ne w3
  go_wp2_with fail
  refine wp_region_after (by kernel_rfl) (by kernel_rfl) ?_
  repeat (first | go_big_quiet_skip | (go_big_quiet_want; go_big_quiet_op; first | go_big_quiet_on | go_big_quiet_call (first | (go_at_call 113; refine (hOw _).mono ?_; rintro e wq ⟨rfl, hbq⟩; exact ⟨rfl, after_mk (below_after_of (After.b _) hbq)⟩))))
  refine wpQuiet_nil ?_
  rintro _ ⟨n3, rfl⟩
  have hB4 := below_after_of hB3 n3.b
  generalize n3.w = w4 at *
  clear hne n3 qkD qk0 qk1 qk2 qm0 qm1 qm2 kD k0 k1 k2 m0 m1 m2 hB3
  obtain ⟨kD, k0, k1, k2, m0, m1, m2⟩ := HR.out _ hB4
  have qkD := After.cell kD
  have qk0 := After.cell k0
  have qk1 := After.cell k1
  have qk2 := After.cell k2
  have qm0 := After.cell m0
  have qm1 := After.cell m1
  have qm2 := After.cell m2
  have hne := After.ne w4
  go_wp2_with fail
  refine wp_region_after (by kernel_rfl) (by kernel_rfl) ?_
  repeat (first | go_big_quiet_skip | (go_big_quiet_want; go_big_quiet_op; first | go_big_quiet_on | go_big_quiet_call (first | (go_at_call 113; refine (hOw _).mono ?_; rintro e wq ⟨rfl, hbq⟩; exact ⟨rfl, after_mk (below_after_of (After.b _) hbq)⟩))))
  refine wpQuiet_nil ?_
  rintro _ ⟨n4, rfl⟩
  have hB5 := below_after_of hB4 n4.b
  generalize n4.w = w5 at *
  clear hne n4 qkD qk0 qk1 qk2 qm0 qm1 qm2 kD k0 k1 k2 m0 m1 m2 hB4
  obtain ⟨kD, k0, k1, k2, m0, m1, m2⟩ := HR.out _ hB5
  go_wp2
  go_ret
  exact ⟨rfl, hB5⟩
set_option maxRecDepth 100000 in
set_option maxHeartbeats 4000000 in
theorem l9May_ok (g p b off c n j : Nat) (s : Int) (x0 r0 : ByteArray) (x1 x2 r1 r2 ow kz : Int) (w : World) (hg : g < w.heap.size) (hp : p < w.heap.size) (hb : b < w.heap.size) (hj : j < n) (hD : w.cell? ⟨g, 0, none⟩ = some (.slice (some ⟨b, off, none⟩) n c))
    (hx0 : w.cell? ⟨b, off + j * 4, none⟩ = some (.string x0)) (hx1 : w.cell? ⟨b, off + j * 4 + 1, none⟩ = some (.int .i64 x1)) (hx2 : w.cell? ⟨b, off + j * 4 + 2, none⟩ = some (.int .i64 x2)) (hr0 : w.cell? ⟨p, 0, none⟩ = some (.string r0)) (hr1 : w.cell? ⟨p, 1, none⟩ = some (.int .i64 r1)) (hr2 : w.cell? ⟨p, 2, none⟩ = some (.int .i64 r2)) (hv : 1 ≤ x1 ∧ x1 ≤ 999) (hs : inB s 0 999 = true)
    (hl : (x0.toList == r0.toList) = true) (ho : (x2 != ow) = false) (hvn : (x1 + 1 != r1) = false)
    (hK : ∀ w', Calls Tryz.prog 78 #[.string r0] w' fun e w'' => e = .returned (.int .i64 kz) ∧ Below w'.heap.size w' w'') (hA : ∀ w', Below w.heap.size w w' → Calls Tryz.prog 127 #[.pointer (some ⟨g, 0, none⟩), .int .i64 kz] w' fun e w'' => e = .returned (.int .i64 (j : Int)) ∧ Below w'.heap.size w' w'') (hOw : ∀ w', Calls Tryz.prog 113 #[.int .i64 s] w' fun e w'' => e = .returned (.int .i64 ow) ∧ Below w'.heap.size w' w'') :
    Calls Tryz.prog 115 #[.pointer (some ⟨g, 0, none⟩), .pointer (some ⟨p, 0, none⟩), .int .i64 s] w fun e w' => e = .returned (.int .i64 0) ∧ Below w.heap.size w w' := by
  have hI := fun w => l1In_any s 0 999 w
  rw [hs] at hI
  have hji : (j : Int) < (n : Int) := by omega
  have hj0 : decide ((j : Int) < 0) = false := by simp
  have hj1 : decide (0 ≤ (j : Int)) = true := by simp
  have HR : Hid (∀ w', Below w.heap.size w w' → w'.cell? ⟨g, 0, none⟩ = some (.slice (some ⟨b, off, none⟩) n c) ∧ w'.cell? ⟨p, 0, none⟩ = some (.string r0) ∧ w'.cell? ⟨p, 1, none⟩ = some (.int .i64 r1) ∧ w'.cell? ⟨p, 2, none⟩ = some (.int .i64 r2) ∧ w'.cell? ⟨b, off + j * 4, none⟩ = some (.string x0) ∧ w'.cell? ⟨b, off + j * 4 + 1, none⟩ = some (.int .i64 x1) ∧ w'.cell? ⟨b, off + j * 4 + 2, none⟩ = some (.int .i64 x2)) := fun w' h => ⟨(h.cell (p := ⟨g, 0, none⟩) hg).trans hD, (h.cell (p := ⟨p, 0, none⟩) hp).trans hr0, (h.cell (p := ⟨p, 1, none⟩) hp).trans hr1, (h.cell (p := ⟨p, 2, none⟩) hp).trans hr2, (h.cell (p := ⟨b, off + j * 4, none⟩) hb).trans hx0, (h.cell (p := ⟨b, off + j * 4 + 1, none⟩) hb).trans hx1, (h.cell (p := ⟨b, off + j * 4 + 2, none⟩) hb).trans hx2⟩
  clear hs hD hr1 hr2 hx0 hx1 hx2
  go_enter Tryz.func115, Tryz.ntmps115
  go_wp2_with fail
  refine (hI _).mono ?_
  rintro e w0 ⟨rfl, rfl⟩
  clear hI
  go_wp2_with fail
  refine (hK _).mono ?_
  rintro e w1 ⟨rfl, hb1⟩
  clear hK hr0
  go_wp2_with fail
  refine (hA _ hb1).mono ?_
  rintro e w2 ⟨rfl, hb2⟩
  have hB2 := below_after_of hb1 hb2
  clear hA hb1 hb2
  obtain ⟨kD, k0, k1, k2, m0, m1, m2⟩ := HR.out _ hB2
  have qkD := After.cell kD
  have qk0 := After.cell k0
  have qk1 := After.cell k1
  have qk2 := After.cell k2
  have qm0 := After.cell m0
  have qm1 := After.cell m1
  have qm2 := After.cell m2
  have hne := After.ne w2
  go_wp2_with fail
  refine wp_region_after (by kernel_rfl) (by kernel_rfl) ?_
  repeat (first | go_big_quiet_skip | (go_big_quiet_want; go_big_quiet_op; first | go_big_quiet_on | go_big_quiet_call (first | (go_at_call 113; refine (hOw _).mono ?_; rintro e wq ⟨rfl, hbq⟩; exact ⟨rfl, after_mk (below_after_of (After.b _) hbq)⟩))))
  refine wpQuiet_nil ?_
  rintro _ ⟨n2, rfl⟩
  have hB3 := below_after_of hB2 n2.b
  generalize n2.w = w3 at *
  clear hne n2 qkD qk0 qk1 qk2 qm0 qm1 qm2 kD k0 k1 k2 m0 m1 m2 hB2
  obtain ⟨kD, k0, k1, k2, m0, m1, m2⟩ := HR.out _ hB3
  have qkD := After.cell kD
  have qk0 := After.cell k0
  have qk1 := After.cell k1
  have qk2 := After.cell k2
  have qm0 := After.cell m0
  have qm1 := After.cell m1
  have qm2 := After.cell m2
  have hne := After.ne w3
  go_wp2_with fail
  refine wp_region_after (by kernel_rfl) (by kernel_rfl) ?_
  repeat (first | go_big_quiet_skip | (go_big_quiet_want; go_big_quiet_op; first | go_big_quiet_on | go_big_quiet_call (first | (go_at_call 113; refine (hOw _).mono ?_; rintro e wq ⟨rfl, hbq⟩; exact ⟨rfl, after_mk (below_after_of (After.b _) hbq)⟩))))
  refine wpQuiet_nil ?_
  rintro _ ⟨n3, rfl⟩
  have hB4 := below_after_of hB3 n3.b
  generalize n3.w = w4 at *
  clear hne n3 qkD qk0 qk1 qk2 qm0 qm1 qm2 kD k0 k1 k2 m0 m1 m2 hB3
  obtain ⟨kD, k0, k1, k2, m0, m1, m2⟩ := HR.out _ hB4
  have qkD := After.cell kD
  have qk0 := After.cell k0
  have qk1 := After.cell k1
  have qk2 := After.cell k2
  have qm0 := After.cell m0
  have qm1 := After.cell m1
  have qm2 := After.cell m2
  have hne := After.ne w4
  go_wp2_with fail
  refine wp_region_after (by kernel_rfl) (by kernel_rfl) ?_
  repeat (first | go_big_quiet_skip | (go_big_quiet_want; go_big_quiet_op; first | go_big_quiet_on | go_big_quiet_call (first | (go_at_call 113; refine (hOw _).mono ?_; rintro e wq ⟨rfl, hbq⟩; exact ⟨rfl, after_mk (below_after_of (After.b _) hbq)⟩))))
  refine wpQuiet_nil ?_
  rintro _ ⟨n4, rfl⟩
  have hB5 := below_after_of hB4 n4.b
  generalize n4.w = w5 at *
  clear hne n4 qkD qk0 qk1 qk2 qm0 qm1 qm2 kD k0 k1 k2 m0 m1 m2 hB4
  obtain ⟨kD, k0, k1, k2, m0, m1, m2⟩ := HR.out _ hB5
  have qkD := After.cell kD
  have qk0 := After.cell k0
  have qk1 := After.cell k1
  have qk2 := After.cell k2
  have qm0 := After.cell m0
  have qm1 := After.cell m1
  have qm2 := After.cell m2
  have hne := After.ne w5
  go_wp2_with fail
  refine wp_region_after (by kernel_rfl) (by kernel_rfl) ?_
  repeat (first | go_big_quiet_skip | (go_big_quiet_want; go_big_quiet_op; first | go_big_quiet_on | go_big_quiet_call (first | (go_at_call 113; refine (hOw _).mono ?_; rintro e wq ⟨rfl, hbq⟩; exact ⟨rfl, after_mk (below_after_of (After.b _) hbq)⟩))))
  refine wpQuiet_nil ?_
  rintro _ ⟨n5, rfl⟩
  have hB6 := below_after_of hB5 n5.b
  generalize n5.w = w6 at *
  clear hne n5 qkD qk0 qk1 qk2 qm0 qm1 qm2 kD k0 k1 k2 m0 m1 m2 hB5
  obtain ⟨kD, k0, k1, k2, m0, m1, m2⟩ := HR.out _ hB6
  go_wp2
  go_ret
  exact ⟨rfl, hB6⟩
set_option maxRecDepth 100000 in
set_option maxHeartbeats 4000000 in
theorem l9May_first (g p n c : Nat) (a : Option Addr) (s : Int) (r0 : ByteArray) (r1 r2 ow kz : Int) (w : World) (hg : g < w.heap.size) (hp : p < w.heap.size) (_ : n ≤ 12) (hD : w.cell? ⟨g, 0, none⟩ = some (.slice a n c))
    (hr0 : w.cell? ⟨p, 0, none⟩ = some (.string r0)) (hr1 : w.cell? ⟨p, 1, none⟩ = some (.int .i64 r1)) (hr2 : w.cell? ⟨p, 2, none⟩ = some (.int .i64 r2)) (hs : inB s 0 999 = true)
    (hvn : (r1 != 1) = true)
    (hK : ∀ w', Calls Tryz.prog 78 #[.string r0] w' fun e w'' => e = .returned (.int .i64 kz) ∧ Below w'.heap.size w' w'') (hA : ∀ w', Below w.heap.size w w' → Calls Tryz.prog 127 #[.pointer (some ⟨g, 0, none⟩), .int .i64 kz] w' fun e w'' => e = .returned (.int .i64 (-1)) ∧ Below w'.heap.size w' w'') (_ : ∀ w', Calls Tryz.prog 113 #[.int .i64 s] w' fun e w'' => e = .returned (.int .i64 ow) ∧ Below w'.heap.size w' w'') :
    Calls Tryz.prog 115 #[.pointer (some ⟨g, 0, none⟩), .pointer (some ⟨p, 0, none⟩), .int .i64 s] w fun e w' => e = .returned (.int .i64 7) ∧ Below w.heap.size w w' := by
  have hI := fun w => l1In_any s 0 999 w
  rw [hs] at hI
  have HR : Hid (∀ w', Below w.heap.size w w' → w'.cell? ⟨g, 0, none⟩ = some (.slice a n c) ∧ w'.cell? ⟨p, 0, none⟩ = some (.string r0) ∧ w'.cell? ⟨p, 1, none⟩ = some (.int .i64 r1) ∧ w'.cell? ⟨p, 2, none⟩ = some (.int .i64 r2)) := fun w' h => ⟨(h.cell (p := ⟨g, 0, none⟩) hg).trans hD, (h.cell (p := ⟨p, 0, none⟩) hp).trans hr0, (h.cell (p := ⟨p, 1, none⟩) hp).trans hr1, (h.cell (p := ⟨p, 2, none⟩) hp).trans hr2⟩
  clear hs hD hr1 hr2
  go_enter Tryz.func115, Tryz.ntmps115
  go_wp2_with fail
  refine (hI _).mono ?_
  rintro e w0 ⟨rfl, rfl⟩
  clear hI
  go_wp2_with fail
  refine (hK _).mono ?_
  rintro e w1 ⟨rfl, hb1⟩
  clear hK hr0
  go_wp2_with fail
  refine (hA _ hb1).mono ?_
  rintro e w2 ⟨rfl, hb2⟩
  have hB2 := below_after_of hb1 hb2
  clear hA hb1 hb2
  obtain ⟨kD, k0, k1, k2⟩ := HR.out _ hB2
  have qkD := After.cell kD
  have qk0 := After.cell k0
  have qk1 := After.cell k1
  have qk2 := After.cell k2
  have hne := After.ne w2
  go_wp2_with fail
  refine wp_region_after (by kernel_rfl) (by kernel_rfl) ?_
  repeat (first | go_big_quiet_skip | (go_big_quiet_want; go_big_quiet_op; first | go_big_quiet_on | go_big_quiet_call (first | (go_at_call 113; refine (hOw _).mono ?_; rintro e wq ⟨rfl, hbq⟩; exact ⟨rfl, after_mk (below_after_of (After.b _) hbq)⟩))))
  refine wpQuiet_nil ?_
  rintro _ ⟨n2, rfl⟩
  have hB3 := below_after_of hB2 n2.b
  generalize n2.w = w3 at *
  clear hne n2 qkD qk0 qk1 qk2 kD k0 k1 k2 hB2
  obtain ⟨kD, k0, k1, k2⟩ := HR.out _ hB3
  have qkD := After.cell kD
  have qk0 := After.cell k0
  have qk1 := After.cell k1
  have qk2 := After.cell k2
  have hne := After.ne w3
  go_wp2_with fail
  refine wp_region_after (by kernel_rfl) (by kernel_rfl) ?_
  repeat (first | go_big_quiet_skip | (go_big_quiet_want; go_big_quiet_op; first | go_big_quiet_on | go_big_quiet_call (first | (go_at_call 113; refine (hOw _).mono ?_; rintro e wq ⟨rfl, hbq⟩; exact ⟨rfl, after_mk (below_after_of (After.b _) hbq)⟩))))
  refine wpQuiet_nil ?_
  rintro _ ⟨n3, rfl⟩
  have hB4 := below_after_of hB3 n3.b
  generalize n3.w = w4 at *
  clear hne n3 qkD qk0 qk1 qk2 kD k0 k1 k2 hB3
  obtain ⟨kD, k0, k1, k2⟩ := HR.out _ hB4
  have qkD := After.cell kD
  have qk0 := After.cell k0
  have qk1 := After.cell k1
  have qk2 := After.cell k2
  have hne := After.ne w4
  go_wp2_with fail
  refine wp_region_after (by kernel_rfl) (by kernel_rfl) ?_
  repeat (first | go_big_quiet_skip | (go_big_quiet_want; go_big_quiet_op; first | go_big_quiet_on | go_big_quiet_call (first | (go_at_call 113; refine (hOw _).mono ?_; rintro e wq ⟨rfl, hbq⟩; exact ⟨rfl, after_mk (below_after_of (After.b _) hbq)⟩))))
  refine wpQuiet_nil ?_
  rintro _ ⟨n4, rfl⟩
  have hB5 := below_after_of hB4 n4.b
  generalize n4.w = w5 at *
  clear hne n4 qkD qk0 qk1 qk2 kD k0 k1 k2 hB4
  obtain ⟨kD, k0, k1, k2⟩ := HR.out _ hB5
  go_wp2
  go_ret
  exact ⟨rfl, hB5⟩
set_option maxRecDepth 100000 in
set_option maxHeartbeats 4000000 in
theorem l9May_new (g p n c : Nat) (a : Option Addr) (s : Int) (r0 : ByteArray) (r1 r2 ow kz : Int) (w : World) (hg : g < w.heap.size) (hp : p < w.heap.size) (_ : n ≤ 12) (hD : w.cell? ⟨g, 0, none⟩ = some (.slice a n c))
    (hr0 : w.cell? ⟨p, 0, none⟩ = some (.string r0)) (hr1 : w.cell? ⟨p, 1, none⟩ = some (.int .i64 r1)) (hr2 : w.cell? ⟨p, 2, none⟩ = some (.int .i64 r2)) (hs : inB s 0 999 = true)
    (hvn : (r1 != 1) = false) (ho : (r2 != ow) = true)
    (hK : ∀ w', Calls Tryz.prog 78 #[.string r0] w' fun e w'' => e = .returned (.int .i64 kz) ∧ Below w'.heap.size w' w'') (hA : ∀ w', Below w.heap.size w w' → Calls Tryz.prog 127 #[.pointer (some ⟨g, 0, none⟩), .int .i64 kz] w' fun e w'' => e = .returned (.int .i64 (-1)) ∧ Below w'.heap.size w' w'') (hOw : ∀ w', Calls Tryz.prog 113 #[.int .i64 s] w' fun e w'' => e = .returned (.int .i64 ow) ∧ Below w'.heap.size w' w'') :
    Calls Tryz.prog 115 #[.pointer (some ⟨g, 0, none⟩), .pointer (some ⟨p, 0, none⟩), .int .i64 s] w fun e w' => e = .returned (.int .i64 8) ∧ Below w.heap.size w w' := by
  have hI := fun w => l1In_any s 0 999 w
  rw [hs] at hI
  have HR : Hid (∀ w', Below w.heap.size w w' → w'.cell? ⟨g, 0, none⟩ = some (.slice a n c) ∧ w'.cell? ⟨p, 0, none⟩ = some (.string r0) ∧ w'.cell? ⟨p, 1, none⟩ = some (.int .i64 r1) ∧ w'.cell? ⟨p, 2, none⟩ = some (.int .i64 r2)) := fun w' h => ⟨(h.cell (p := ⟨g, 0, none⟩) hg).trans hD, (h.cell (p := ⟨p, 0, none⟩) hp).trans hr0, (h.cell (p := ⟨p, 1, none⟩) hp).trans hr1, (h.cell (p := ⟨p, 2, none⟩) hp).trans hr2⟩
  clear hs hD hr1 hr2
  go_enter Tryz.func115, Tryz.ntmps115
  go_wp2_with fail
  refine (hI _).mono ?_
  rintro e w0 ⟨rfl, rfl⟩
  clear hI
  go_wp2_with fail
  refine (hK _).mono ?_
  rintro e w1 ⟨rfl, hb1⟩
  clear hK hr0
  go_wp2_with fail
  refine (hA _ hb1).mono ?_
  rintro e w2 ⟨rfl, hb2⟩
  have hB2 := below_after_of hb1 hb2
  clear hA hb1 hb2
  obtain ⟨kD, k0, k1, k2⟩ := HR.out _ hB2
  have qkD := After.cell kD
  have qk0 := After.cell k0
  have qk1 := After.cell k1
  have qk2 := After.cell k2
  have hne := After.ne w2
  go_wp2_with fail
  refine wp_region_after (by kernel_rfl) (by kernel_rfl) ?_
  repeat (first | go_big_quiet_skip | (go_big_quiet_want; go_big_quiet_op; first | go_big_quiet_on | go_big_quiet_call (first | (go_at_call 113; refine (hOw _).mono ?_; rintro e wq ⟨rfl, hbq⟩; exact ⟨rfl, after_mk (below_after_of (After.b _) hbq)⟩))))
  refine wpQuiet_nil ?_
  rintro _ ⟨n2, rfl⟩
  have hB3 := below_after_of hB2 n2.b
  generalize n2.w = w3 at *
  clear hne n2 qkD qk0 qk1 qk2 kD k0 k1 k2 hB2
  obtain ⟨kD, k0, k1, k2⟩ := HR.out _ hB3
  have qkD := After.cell kD
  have qk0 := After.cell k0
  have qk1 := After.cell k1
  have qk2 := After.cell k2
  have hne := After.ne w3
  go_wp2_with fail
  refine wp_region_after (by kernel_rfl) (by kernel_rfl) ?_
  repeat (first | go_big_quiet_skip | (go_big_quiet_want; go_big_quiet_op; first | go_big_quiet_on | go_big_quiet_call (first | (go_at_call 113; refine (hOw _).mono ?_; rintro e wq ⟨rfl, hbq⟩; exact ⟨rfl, after_mk (below_after_of (After.b _) hbq)⟩))))
  refine wpQuiet_nil ?_
  rintro _ ⟨n3, rfl⟩
  have hB4 := below_after_of hB3 n3.b
  generalize n3.w = w4 at *
  clear hne n3 qkD qk0 qk1 qk2 kD k0 k1 k2 hB3
  obtain ⟨kD, k0, k1, k2⟩ := HR.out _ hB4
  have qkD := After.cell kD
  have qk0 := After.cell k0
  have qk1 := After.cell k1
  have qk2 := After.cell k2
  have hne := After.ne w4
  go_wp2_with fail
  refine wp_region_after (by kernel_rfl) (by kernel_rfl) ?_
  repeat (first | go_big_quiet_skip | (go_big_quiet_want; go_big_quiet_op; first | go_big_quiet_on | go_big_quiet_call (first | (go_at_call 113; refine (hOw _).mono ?_; rintro e wq ⟨rfl, hbq⟩; exact ⟨rfl, after_mk (below_after_of (After.b _) hbq)⟩))))
  refine wpQuiet_nil ?_
  rintro _ ⟨n4, rfl⟩
  have hB5 := below_after_of hB4 n4.b
  generalize n4.w = w5 at *
  clear hne n4 qkD qk0 qk1 qk2 kD k0 k1 k2 hB4
  obtain ⟨kD, k0, k1, k2⟩ := HR.out _ hB5
  have qkD := After.cell kD
  have qk0 := After.cell k0
  have qk1 := After.cell k1
  have qk2 := After.cell k2
  have hne := After.ne w5
  go_wp2_with fail
  refine wp_region_after (by kernel_rfl) (by kernel_rfl) ?_
  repeat (first | go_big_quiet_skip | (go_big_quiet_want; go_big_quiet_op; first | go_big_quiet_on | go_big_quiet_call (first | (go_at_call 113; refine (hOw _).mono ?_; rintro e wq ⟨rfl, hbq⟩; exact ⟨rfl, after_mk (below_after_of (After.b _) hbq)⟩))))
  refine wpQuiet_nil ?_
  rintro _ ⟨n5, rfl⟩
  have hB6 := below_after_of hB5 n5.b
  generalize n5.w = w6 at *
  clear hne n5 qkD qk0 qk1 qk2 kD k0 k1 k2 hB5
  obtain ⟨kD, k0, k1, k2⟩ := HR.out _ hB6
  go_wp2
  go_ret
  exact ⟨rfl, hB6⟩
set_option maxRecDepth 100000 in
set_option maxHeartbeats 4000000 in
theorem l9May_full (g p n c : Nat) (a : Option Addr) (s : Int) (r0 : ByteArray) (r1 r2 ow kz : Int) (w : World) (hg : g < w.heap.size) (hp : p < w.heap.size) (hn : n ≤ 12) (hD : w.cell? ⟨g, 0, none⟩ = some (.slice a n c))
    (hr0 : w.cell? ⟨p, 0, none⟩ = some (.string r0)) (hr1 : w.cell? ⟨p, 1, none⟩ = some (.int .i64 r1)) (hr2 : w.cell? ⟨p, 2, none⟩ = some (.int .i64 r2)) (hs : inB s 0 999 = true)
    (hvn : (r1 != 1) = false) (ho : (r2 != ow) = false) (hf : 12 ≤ n)
    (hK : ∀ w', Calls Tryz.prog 78 #[.string r0] w' fun e w'' => e = .returned (.int .i64 kz) ∧ Below w'.heap.size w' w'') (hA : ∀ w', Below w.heap.size w w' → Calls Tryz.prog 127 #[.pointer (some ⟨g, 0, none⟩), .int .i64 kz] w' fun e w'' => e = .returned (.int .i64 (-1)) ∧ Below w'.heap.size w' w'') (hOw : ∀ w', Calls Tryz.prog 113 #[.int .i64 s] w' fun e w'' => e = .returned (.int .i64 ow) ∧ Below w'.heap.size w' w'') :
    Calls Tryz.prog 115 #[.pointer (some ⟨g, 0, none⟩), .pointer (some ⟨p, 0, none⟩), .int .i64 s] w fun e w' => e = .returned (.int .i64 11) ∧ Below w.heap.size w w' := by
  have hI := fun w => l1In_any s 0 999 w
  rw [hs] at hI
  have HR : Hid (∀ w', Below w.heap.size w w' → w'.cell? ⟨g, 0, none⟩ = some (.slice a n c) ∧ w'.cell? ⟨p, 0, none⟩ = some (.string r0) ∧ w'.cell? ⟨p, 1, none⟩ = some (.int .i64 r1) ∧ w'.cell? ⟨p, 2, none⟩ = some (.int .i64 r2)) := fun w' h => ⟨(h.cell (p := ⟨g, 0, none⟩) hg).trans hD, (h.cell (p := ⟨p, 0, none⟩) hp).trans hr0, (h.cell (p := ⟨p, 1, none⟩) hp).trans hr1, (h.cell (p := ⟨p, 2, none⟩) hp).trans hr2⟩
  clear hs hD hr1 hr2
  go_enter Tryz.func115, Tryz.ntmps115
  go_wp2_with fail
  refine (hI _).mono ?_
  rintro e w0 ⟨rfl, rfl⟩
  clear hI
  go_wp2_with fail
  refine (hK _).mono ?_
  rintro e w1 ⟨rfl, hb1⟩
  clear hK hr0
  go_wp2_with fail
  refine (hA _ hb1).mono ?_
  rintro e w2 ⟨rfl, hb2⟩
  have hB2 := below_after_of hb1 hb2
  clear hA hb1 hb2
  obtain ⟨kD, k0, k1, k2⟩ := HR.out _ hB2
  have qkD := After.cell kD
  have qk0 := After.cell k0
  have qk1 := After.cell k1
  have qk2 := After.cell k2
  have hne := After.ne w2
  go_wp2_with fail
  refine wp_region_after (by kernel_rfl) (by kernel_rfl) ?_
  repeat (first | go_big_quiet_skip | (go_big_quiet_want; go_big_quiet_op; first | go_big_quiet_on | go_big_quiet_call (first | (go_at_call 113; refine (hOw _).mono ?_; rintro e wq ⟨rfl, hbq⟩; exact ⟨rfl, after_mk (below_after_of (After.b _) hbq)⟩))))
  refine wpQuiet_nil ?_
  rintro _ ⟨n2, rfl⟩
  have hB3 := below_after_of hB2 n2.b
  generalize n2.w = w3 at *
  clear hne n2 qkD qk0 qk1 qk2 kD k0 k1 k2 hB2
  obtain ⟨kD, k0, k1, k2⟩ := HR.out _ hB3
  have qkD := After.cell kD
  have qk0 := After.cell k0
  have qk1 := After.cell k1
  have qk2 := After.cell k2
  have hne := After.ne w3
  go_wp2_with fail
  refine wp_region_after (by kernel_rfl) (by kernel_rfl) ?_
  repeat (first | go_big_quiet_skip | (go_big_quiet_want; go_big_quiet_op; first | go_big_quiet_on | go_big_quiet_call (first | (go_at_call 113; refine (hOw _).mono ?_; rintro e wq ⟨rfl, hbq⟩; exact ⟨rfl, after_mk (below_after_of (After.b _) hbq)⟩))))
  refine wpQuiet_nil ?_
  rintro _ ⟨n3, rfl⟩
  have hB4 := below_after_of hB3 n3.b
  generalize n3.w = w4 at *
  clear hne n3 qkD qk0 qk1 qk2 kD k0 k1 k2 hB3
  obtain ⟨kD, k0, k1, k2⟩ := HR.out _ hB4
  have qkD := After.cell kD
  have qk0 := After.cell k0
  have qk1 := After.cell k1
  have qk2 := After.cell k2
  have hne := After.ne w4
  go_wp2_with fail
  refine wp_region_after (by kernel_rfl) (by kernel_rfl) ?_
  repeat (first | go_big_quiet_skip | (go_big_quiet_want; go_big_quiet_op; first | go_big_quiet_on | go_big_quiet_call (first | (go_at_call 113; refine (hOw _).mono ?_; rintro e wq ⟨rfl, hbq⟩; exact ⟨rfl, after_mk (below_after_of (After.b _) hbq)⟩))))
  refine wpQuiet_nil ?_
  rintro _ ⟨n4, rfl⟩
  have hB5 := below_after_of hB4 n4.b
  generalize n4.w = w5 at *
  clear hne n4 qkD qk0 qk1 qk2 kD k0 k1 k2 hB4
  obtain ⟨kD, k0, k1, k2⟩ := HR.out _ hB5
  have qkD := After.cell kD
  have qk0 := After.cell k0
  have qk1 := After.cell k1
  have qk2 := After.cell k2
  have hne := After.ne w5
  go_wp2_with fail
  refine wp_region_after (by kernel_rfl) (by kernel_rfl) ?_
  repeat (first | go_big_quiet_skip | (go_big_quiet_want; go_big_quiet_op; first | go_big_quiet_on | go_big_quiet_call (first | (go_at_call 113; refine (hOw _).mono ?_; rintro e wq ⟨rfl, hbq⟩; exact ⟨rfl, after_mk (below_after_of (After.b _) hbq)⟩))))
  refine wpQuiet_nil ?_
  rintro _ ⟨n5, rfl⟩
  have hB6 := below_after_of hB5 n5.b
  generalize n5.w = w6 at *
  clear hne n5 qkD qk0 qk1 qk2 kD k0 k1 k2 hB5
  obtain ⟨kD, k0, k1, k2⟩ := HR.out _ hB6
  go_wp2
  go_ret
  exact ⟨rfl, hB6⟩
set_option maxRecDepth 100000 in
set_option maxHeartbeats 4000000 in
theorem l9May_room (g p n c : Nat) (a : Option Addr) (s : Int) (r0 : ByteArray) (r1 r2 ow kz : Int) (w : World) (hg : g < w.heap.size) (hp : p < w.heap.size) (hn : n ≤ 12) (hD : w.cell? ⟨g, 0, none⟩ = some (.slice a n c))
    (hr0 : w.cell? ⟨p, 0, none⟩ = some (.string r0)) (hr1 : w.cell? ⟨p, 1, none⟩ = some (.int .i64 r1)) (hr2 : w.cell? ⟨p, 2, none⟩ = some (.int .i64 r2)) (hs : inB s 0 999 = true)
    (hvn : (r1 != 1) = false) (ho : (r2 != ow) = false) (hf : ¬ 12 ≤ n)
    (hK : ∀ w', Calls Tryz.prog 78 #[.string r0] w' fun e w'' => e = .returned (.int .i64 kz) ∧ Below w'.heap.size w' w'') (hA : ∀ w', Below w.heap.size w w' → Calls Tryz.prog 127 #[.pointer (some ⟨g, 0, none⟩), .int .i64 kz] w' fun e w'' => e = .returned (.int .i64 (-1)) ∧ Below w'.heap.size w' w'') (hOw : ∀ w', Calls Tryz.prog 113 #[.int .i64 s] w' fun e w'' => e = .returned (.int .i64 ow) ∧ Below w'.heap.size w' w'') :
    Calls Tryz.prog 115 #[.pointer (some ⟨g, 0, none⟩), .pointer (some ⟨p, 0, none⟩), .int .i64 s] w fun e w' => e = .returned (.int .i64 0) ∧ Below w.heap.size w w' := by
  have hI := fun w => l1In_any s 0 999 w
  rw [hs] at hI
  have HR : Hid (∀ w', Below w.heap.size w w' → w'.cell? ⟨g, 0, none⟩ = some (.slice a n c) ∧ w'.cell? ⟨p, 0, none⟩ = some (.string r0) ∧ w'.cell? ⟨p, 1, none⟩ = some (.int .i64 r1) ∧ w'.cell? ⟨p, 2, none⟩ = some (.int .i64 r2)) := fun w' h => ⟨(h.cell (p := ⟨g, 0, none⟩) hg).trans hD, (h.cell (p := ⟨p, 0, none⟩) hp).trans hr0, (h.cell (p := ⟨p, 1, none⟩) hp).trans hr1, (h.cell (p := ⟨p, 2, none⟩) hp).trans hr2⟩
  clear hs hD hr1 hr2
  go_enter Tryz.func115, Tryz.ntmps115
  go_wp2_with fail
  refine (hI _).mono ?_
  rintro e w0 ⟨rfl, rfl⟩
  clear hI
  go_wp2_with fail
  refine (hK _).mono ?_
  rintro e w1 ⟨rfl, hb1⟩
  clear hK hr0
  go_wp2_with fail
  refine (hA _ hb1).mono ?_
  rintro e w2 ⟨rfl, hb2⟩
  have hB2 := below_after_of hb1 hb2
  clear hA hb1 hb2
  obtain ⟨kD, k0, k1, k2⟩ := HR.out _ hB2
  have qkD := After.cell kD
  have qk0 := After.cell k0
  have qk1 := After.cell k1
  have qk2 := After.cell k2
  have hne := After.ne w2
  go_wp2_with fail
  refine wp_region_after (by kernel_rfl) (by kernel_rfl) ?_
  repeat (first | go_big_quiet_skip | (go_big_quiet_want; go_big_quiet_op; first | go_big_quiet_on | go_big_quiet_call (first | (go_at_call 113; refine (hOw _).mono ?_; rintro e wq ⟨rfl, hbq⟩; exact ⟨rfl, after_mk (below_after_of (After.b _) hbq)⟩))))
  refine wpQuiet_nil ?_
  rintro _ ⟨n2, rfl⟩
  have hB3 := below_after_of hB2 n2.b
  generalize n2.w = w3 at *
  clear hne n2 qkD qk0 qk1 qk2 kD k0 k1 k2 hB2
  obtain ⟨kD, k0, k1, k2⟩ := HR.out _ hB3
  have qkD := After.cell kD
  have qk0 := After.cell k0
  have qk1 := After.cell k1
  have qk2 := After.cell k2
  have hne := After.ne w3
  go_wp2_with fail
  refine wp_region_after (by kernel_rfl) (by kernel_rfl) ?_
  repeat (first | go_big_quiet_skip | (go_big_quiet_want; go_big_quiet_op; first | go_big_quiet_on | go_big_quiet_call (first | (go_at_call 113; refine (hOw _).mono ?_; rintro e wq ⟨rfl, hbq⟩; exact ⟨rfl, after_mk (below_after_of (After.b _) hbq)⟩))))
  refine wpQuiet_nil ?_
  rintro _ ⟨n3, rfl⟩
  have hB4 := below_after_of hB3 n3.b
  generalize n3.w = w4 at *
  clear hne n3 qkD qk0 qk1 qk2 kD k0 k1 k2 hB3
  obtain ⟨kD, k0, k1, k2⟩ := HR.out _ hB4
  have qkD := After.cell kD
  have qk0 := After.cell k0
  have qk1 := After.cell k1
  have qk2 := After.cell k2
  have hne := After.ne w4
  go_wp2_with fail
  refine wp_region_after (by kernel_rfl) (by kernel_rfl) ?_
  repeat (first | go_big_quiet_skip | (go_big_quiet_want; go_big_quiet_op; first | go_big_quiet_on | go_big_quiet_call (first | (go_at_call 113; refine (hOw _).mono ?_; rintro e wq ⟨rfl, hbq⟩; exact ⟨rfl, after_mk (below_after_of (After.b _) hbq)⟩))))
  refine wpQuiet_nil ?_
  rintro _ ⟨n4, rfl⟩
  have hB5 := below_after_of hB4 n4.b
  generalize n4.w = w5 at *
  clear hne n4 qkD qk0 qk1 qk2 kD k0 k1 k2 hB4
  obtain ⟨kD, k0, k1, k2⟩ := HR.out _ hB5
  have qkD := After.cell kD
  have qk0 := After.cell k0
  have qk1 := After.cell k1
  have qk2 := After.cell k2
  have hne := After.ne w5
  go_wp2_with fail
  refine wp_region_after (by kernel_rfl) (by kernel_rfl) ?_
  repeat (first | go_big_quiet_skip | (go_big_quiet_want; go_big_quiet_op; first | go_big_quiet_on | go_big_quiet_call (first | (go_at_call 113; refine (hOw _).mono ?_; rintro e wq ⟨rfl, hbq⟩; exact ⟨rfl, after_mk (below_after_of (After.b _) hbq)⟩))))
  refine wpQuiet_nil ?_
  rintro _ ⟨n5, rfl⟩
  have hB6 := below_after_of hB5 n5.b
  generalize n5.w = w6 at *
  clear hne n5 qkD qk0 qk1 qk2 kD k0 k1 k2 hB5
  obtain ⟨kD, k0, k1, k2⟩ := HR.out _ hB6
  go_wp2
  go_ret
  exact ⟨rfl, hB6⟩
end U
end Go.Proofs.YtpelafkjnmcdgaaGreat
