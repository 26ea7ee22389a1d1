/- The fault of a state, by the program. -/
import Derived.Test.YtjhmfaibpnagcaaGreatGSt2
namespace Go.Proofs.YtjhmfaibpnagcaaGreat
open Go.RowKit
namespace U
theorem isCursorIn_b (ph cu : Int) (w : World) : Calls Tryz.prog 80 #[.int .i64 ph, .int .i64 cu] w fun e w' => e = .returned (.bool (cuB ph cu)) ∧ Below w.heap.size w w' := by
  refine (isCursorIn_any ph cu w).mono ?_
  rintro e w' ⟨rfl, rfl⟩
  exact ⟨rfl, Below.refl _ _⟩
theorem implMayFollow_b (a b : Int) (w : World) : Calls Tryz.prog 83 #[.int .i64 a, .int .i64 b] w fun e w' => e = .returned (.bool (mfB a b)) ∧ Below w.heap.size w w' := by
  refine (implMayFollow_any a b w).mono ?_
  rintro e w' ⟨rfl, rfl⟩
  exact ⟨rfl, Below.refl _ _⟩
theorem mf_fol {a b : Int} (h : inB a 1 5 = true) (h1 : inB b 1 5 = true) : mfB a b = folB a b := by unfold mfB; rw [h, h1]; rfl
/-- New slots as the program tells them. -/
structure NsAt (W : World) (v : Value) (l : Rcl) (cu : Int) (m : Prl) : Prop where
  c : ∀ w', Below W.heap.size W w' → Calls Tryz.prog 51 #[.agg #[v], .int .i64 cu] w' fun e w'' => ∃ a c, e = .returned (.slice a m.length c) ∧ Below w'.heap.size w' w'' ∧ w''.ownsRow w'.heap.size 57 2 (.slice a m.length c) m.length ((fl m).map (Value.int .i64))
set_option maxRecDepth 100000 in
set_option maxHeartbeats 4000000 in
theorem implStateFault_ph (s : St) (v : Sv) (w : World) (hv : Sts w v s) (hB : StB s) (h1 : inB s.ph 1 5 = false) :
    Calls Tryz.prog 35 #[stV s v] w fun e w' => e = .returned (.int .i64 (3)) ∧ Below w.heap.size w w' := by
  obtain ⟨W, hW⟩ : ∃ W, W = w.alloc (stC s v 38) := ⟨_, rfl⟩
  have hBW : Below w.heap.size w W := by rw [hW]; exact one_new _
  have hC0 : StC W w.heap.size s v := by rw [hW]; exact StC.new w s v _
  have hvW := hv.below hBW
  have hPh := fun w => isPhase_any s.ph w
  have hD := fun w' hb => implDirectoryFault_any v.d s.d w' (hvW.d.below (w' := w') hb) hB.dl (by have := hB.d; omega)
  have hCu := fun w => isCursorIn_b s.ph s.cu w
  rw [h1] at hPh
  obtain ⟨a1, c1, e1⟩ := hv.d.shape
  obtain ⟨a2, c2, e2⟩ := hv.n.shape
  obtain ⟨a3, c3, e3⟩ := hv.h.shape
  obtain ⟨a4, c4, e4⟩ := hv.p.shape
  have HCC0 : Hid (∀ w', Below W.heap.size W w' → StC w' w.heap.size s v) := fun w' hb => hC0.below hb hC0.lt
  obtain ⟨ph, cu, d, n, h, p⟩ := s
  obtain ⟨vd, vn, vh, vp⟩ := v
  dsimp only at *
  subst e1 e2 e3 e4
  have HCC : Hid (∀ w', Below W.heap.size W w' → w'.cell? ⟨w.heap.size, 0, none⟩ = some (.int .i64 ph) ∧ w'.cell? ⟨w.heap.size, 1, none⟩ = some (.int .i64 cu) ∧ w'.cell? ⟨w.heap.size, 2, none⟩ = some (.slice a1 d.length c1) ∧ w'.cell? ⟨w.heap.size, 3, none⟩ = some (.slice a2 n.length c2) ∧ w'.cell? ⟨w.heap.size, 4, none⟩ = some (.slice a3 h.length c3) ∧ w'.cell? ⟨w.heap.size, 5, none⟩ = some (.slice a4 p.length c4)) := fun w' hb => ⟨(HCC0.out _ hb).c0, (HCC0.out _ hb).c1, (HCC0.out _ hb).c2, (HCC0.out _ hb).c3, (HCC0.out _ hb).c4, (HCC0.out _ hb).c5⟩
  unfold stV
  dsimp only
  have HW : Hid (w.alloc (.cells #[.int .i64 ph, .int .i64 cu, .slice a1 d.length c1, .slice a2 n.length c2, .slice a3 h.length c3, .slice a4 p.length c4] 38) = W) := hW.symm
  have hltW : w.heap.size < W.heap.size := hC0.lt
  have HBW : Hid (∀ w', Below W.heap.size W w' → Below w.heap.size w w') := fun w' hb => below_after_of hBW hb
  generalize d.length = dn at *
  generalize n.length = nn at *
  generalize h.length = hn at *
  generalize p.length = pn at *
  have HC4 : Hid (∀ w', Below W.heap.size W w' → w'.cell? ⟨w.heap.size, 0, none⟩ = some (.int .i64 ph) ∧ w'.cell? ⟨w.heap.size, 1, none⟩ = some (.int .i64 cu) ∧ w'.cell? ⟨w.heap.size, 2, none⟩ = some (.slice a1 dn c1) ∧ w'.cell? ⟨w.heap.size, 3, none⟩ = some (.slice a2 nn c2)) := fun w' hb => by
    obtain ⟨k0, k1, k2, k3, -, -⟩ := HCC.out w' hb
    exact ⟨k0, k1, k2, k3⟩
  clear hD hCu HC4
  clear hW hC0 HCC0 hv hvW hBW hB
  go_enter Tryz.func35, Tryz.ntmps35
  go_wp2_with fail
  rw [HW.out]
  refine (hPh _).mono ?_
  rintro e w0 ⟨rfl, hw0⟩
  have hbr : Below W.heap.size W w0 := by rw [hw0]; exact Below.refl _ _
  clear hw0 hPh HW
  obtain ⟨g0, g1, g2, g3, g4, g5⟩ := HCC.out _ hbr
  go_wp2
  go_ret
  exact ⟨rfl, HBW.out _ hbr⟩
set_option maxRecDepth 100000 in
set_option maxHeartbeats 4000000 in
theorem implStateFault_dir (s : St) (v : Sv) (w : World) (hv : Sts w v s) (hB : StB s) (h1 : inB s.ph 1 5 = true) (h2 : ¬ dirF s.d = 0) :
    Calls Tryz.prog 35 #[stV s v] w fun e w' => e = .returned (.int .i64 (dirF s.d)) ∧ Below w.heap.size w w' := by
  obtain ⟨W, hW⟩ : ∃ W, W = w.alloc (stC s v 38) := ⟨_, rfl⟩
  have hBW : Below w.heap.size w W := by rw [hW]; exact one_new _
  have hC0 : StC W w.heap.size s v := by rw [hW]; exact StC.new w s v _
  have hvW := hv.below hBW
  have hPh := fun w => isPhase_any s.ph w
  have hD := fun w' hb => implDirectoryFault_any v.d s.d w' (hvW.d.below (w' := w') hb) hB.dl (by have := hB.d; omega)
  have hCu := fun w => isCursorIn_b s.ph s.cu w
  rw [h1] at hPh
  have hnz : (dirF s.d != 0) = true := by simpa using h2
  obtain ⟨a1, c1, e1⟩ := hv.d.shape
  obtain ⟨a2, c2, e2⟩ := hv.n.shape
  obtain ⟨a3, c3, e3⟩ := hv.h.shape
  obtain ⟨a4, c4, e4⟩ := hv.p.shape
  have HCC0 : Hid (∀ w', Below W.heap.size W w' → StC w' w.heap.size s v) := fun w' hb => hC0.below hb hC0.lt
  obtain ⟨ph, cu, d, n, h, p⟩ := s
  obtain ⟨vd, vn, vh, vp⟩ := v
  dsimp only at *
  subst e1 e2 e3 e4
  have HCC : Hid (∀ w', Below W.heap.size W w' → w'.cell? ⟨w.heap.size, 0, none⟩ = some (.int .i64 ph) ∧ w'.cell? ⟨w.heap.size, 1, none⟩ = some (.int .i64 cu) ∧ w'.cell? ⟨w.heap.size, 2, none⟩ = some (.slice a1 d.length c1) ∧ w'.cell? ⟨w.heap.size, 3, none⟩ = some (.slice a2 n.length c2) ∧ w'.cell? ⟨w.heap.size, 4, none⟩ = some (.slice a3 h.length c3) ∧ w'.cell? ⟨w.heap.size, 5, none⟩ = some (.slice a4 p.length c4)) := fun w' hb => ⟨(HCC0.out _ hb).c0, (HCC0.out _ hb).c1, (HCC0.out _ hb).c2, (HCC0.out _ hb).c3, (HCC0.out _ hb).c4, (HCC0.out _ hb).c5⟩
  unfold stV
  dsimp only
  have HW : Hid (w.alloc (.cells #[.int .i64 ph, .int .i64 cu, .slice a1 d.length c1, .slice a2 n.length c2, .slice a3 h.length c3, .slice a4 p.length c4] 38) = W) := hW.symm
  have hltW : w.heap.size < W.heap.size := hC0.lt
  have HBW : Hid (∀ w', Below W.heap.size W w' → Below w.heap.size w w') := fun w' hb => below_after_of hBW hb
  generalize d.length = dn at *
  generalize n.length = nn at *
  generalize h.length = hn at *
  generalize p.length = pn at *
  have HC4 : Hid (∀ w', Below W.heap.size W w' → w'.cell? ⟨w.heap.size, 0, none⟩ = some (.int .i64 ph) ∧ w'.cell? ⟨w.heap.size, 1, none⟩ = some (.int .i64 cu) ∧ w'.cell? ⟨w.heap.size, 2, none⟩ = some (.slice a1 dn c1) ∧ w'.cell? ⟨w.heap.size, 3, none⟩ = some (.slice a2 nn c2)) := fun w' hb => by
    obtain ⟨k0, k1, k2, k3, -, -⟩ := HCC.out w' hb
    exact ⟨k0, k1, k2, k3⟩
  clear hCu HC4 h1
  generalize dirF d = fd at *
  clear hW hC0 HCC0 hv hvW hBW hB
  go_enter Tryz.func35, Tryz.ntmps35
  go_wp2_with fail
  rw [HW.out]
  refine (hPh _).mono ?_
  rintro e w0 ⟨rfl, hw0⟩
  have hbr : Below W.heap.size W w0 := by rw [hw0]; exact Below.refl _ _
  clear hw0 hPh HW
  obtain ⟨g0, g1, g2, g3, g4, g5⟩ := HCC.out _ hbr
  have hD1 := hD _ hbr
  clear hD
  go_wp2_with fail
  refine hD1.mono ?_
  rintro e w1 ⟨rfl, hb1⟩
  have hbr : Below W.heap.size W w1 := below_after_of hbr hb1
  clear hD1 hb1
  obtain ⟨g0, g1, g2, g3, g4, g5⟩ := HCC.out _ hbr
  go_wp2
  go_ret
  exact ⟨rfl, HBW.out _ hbr⟩
set_option maxRecDepth 100000 in
set_option maxHeartbeats 4000000 in
theorem implStateFault_cu (s : St) (v : Sv) (w : World) (hv : Sts w v s) (hB : StB s) (h1 : inB s.ph 1 5 = true) (h2 : dirF s.d = 0) (h3 : cuB s.ph s.cu = false) :
    Calls Tryz.prog 35 #[stV s v] w fun e w' => e = .returned (.int .i64 (1)) ∧ Below w.heap.size w w' := by
  obtain ⟨W, hW⟩ : ∃ W, W = w.alloc (stC s v 38) := ⟨_, rfl⟩
  have hBW : Below w.heap.size w W := by rw [hW]; exact one_new _
  have hC0 : StC W w.heap.size s v := by rw [hW]; exact StC.new w s v _
  have hvW := hv.below hBW
  have hPh := fun w => isPhase_any s.ph w
  have hD := fun w' hb => implDirectoryFault_any v.d s.d w' (hvW.d.below (w' := w') hb) hB.dl (by have := hB.d; omega)
  have hCu := fun w => isCursorIn_b s.ph s.cu w
  rw [h1] at hPh
  rw [h2] at hD
  rw [h3] at hCu
  obtain ⟨a1, c1, e1⟩ := hv.d.shape
  obtain ⟨a2, c2, e2⟩ := hv.n.shape
  obtain ⟨a3, c3, e3⟩ := hv.h.shape
  obtain ⟨a4, c4, e4⟩ := hv.p.shape
  have HCC0 : Hid (∀ w', Below W.heap.size W w' → StC w' w.heap.size s v) := fun w' hb => hC0.below hb hC0.lt
  obtain ⟨ph, cu, d, n, h, p⟩ := s
  obtain ⟨vd, vn, vh, vp⟩ := v
  dsimp only at *
  subst e1 e2 e3 e4
  have HCC : Hid (∀ w', Below W.heap.size W w' → w'.cell? ⟨w.heap.size, 0, none⟩ = some (.int .i64 ph) ∧ w'.cell? ⟨w.heap.size, 1, none⟩ = some (.int .i64 cu) ∧ w'.cell? ⟨w.heap.size, 2, none⟩ = some (.slice a1 d.length c1) ∧ w'.cell? ⟨w.heap.size, 3, none⟩ = some (.slice a2 n.length c2) ∧ w'.cell? ⟨w.heap.size, 4, none⟩ = some (.slice a3 h.length c3) ∧ w'.cell? ⟨w.heap.size, 5, none⟩ = some (.slice a4 p.length c4)) := fun w' hb => ⟨(HCC0.out _ hb).c0, (HCC0.out _ hb).c1, (HCC0.out _ hb).c2, (HCC0.out _ hb).c3, (HCC0.out _ hb).c4, (HCC0.out _ hb).c5⟩
  unfold stV
  dsimp only
  have HW : Hid (w.alloc (.cells #[.int .i64 ph, .int .i64 cu, .slice a1 d.length c1, .slice a2 n.length c2, .slice a3 h.length c3, .slice a4 p.length c4] 38) = W) := hW.symm
  have hltW : w.heap.size < W.heap.size := hC0.lt
  have HBW : Hid (∀ w', Below W.heap.size W w' → Below w.heap.size w w') := fun w' hb => below_after_of hBW hb
  generalize d.length = dn at *
  generalize n.length = nn at *
  generalize h.length = hn at *
  generalize p.length = pn at *
  have HC4 : Hid (∀ w', Below W.heap.size W w' → w'.cell? ⟨w.heap.size, 0, none⟩ = some (.int .i64 ph) ∧ w'.cell? ⟨w.heap.size, 1, none⟩ = some (.int .i64 cu) ∧ w'.cell? ⟨w.heap.size, 2, none⟩ = some (.slice a1 dn c1) ∧ w'.cell? ⟨w.heap.size, 3, none⟩ = some (.slice a2 nn c2)) := fun w' hb => by
    obtain ⟨k0, k1, k2, k3, -, -⟩ := HCC.out w' hb
    exact ⟨k0, k1, k2, k3⟩
  clear HC4 h1 h2 h3
  clear hW hC0 HCC0 hv hvW hBW hB
  go_enter Tryz.func35, Tryz.ntmps35
  go_wp2_with fail
  rw [HW.out]
  refine (hPh _).mono ?_
  rintro e w0 ⟨rfl, hw0⟩
  have hbr : Below W.heap.size W w0 := by rw [hw0]; exact Below.refl _ _
  clear hw0 hPh HW
  obtain ⟨g0, g1, g2, g3, g4, g5⟩ := HCC.out _ hbr
  have hD1 := hD _ hbr
  clear hD
  go_wp2_with fail
  refine hD1.mono ?_
  rintro e w1 ⟨rfl, hb1⟩
  have hbr : Below W.heap.size W w1 := below_after_of hbr hb1
  clear hD1 hb1
  obtain ⟨g0, g1, g2, g3, g4, g5⟩ := HCC.out _ hbr
  have q0 := After.cell g0
  have q1 := After.cell g1
  have hne := After.ne w1
  clear g0 g1 g2 g3 g4 g5
  go_wp2_with fail
  refine wp_region_after (by kernel_rfl) (by kernel_rfl) ?_
  repeat (first | go_big_quiet_skip | (go_big_quiet_want; go_big_quiet_op; first | go_big_quiet_on | go_big_quiet_call (first | (go_at_call 80; refine (hCu _).mono ?_; rintro e wq ⟨rfl, hbq⟩; exact ⟨rfl, after_mk (below_after_of (After.b _) hbq)⟩))))
  refine wpQuiet_nil ?_
  rintro _ ⟨n6, rfl⟩
  have hbr : Below W.heap.size W n6.w := below_after_of hbr n6.b
  generalize n6.w = w6 at *
  clear hne q0 q1 n6 hCu
  go_wp2
  go_ret
  exact ⟨rfl, HBW.out _ hbr⟩
set_option maxRecDepth 100000 in
set_option maxHeartbeats 4000000 in
theorem implStateFault_new (s : St) (v : Sv) (w : World) (hv : Sts w v s) (hB : StB s) (h1 : inB s.ph 1 5 = true) (h2 : dirF s.d = 0) (h3 : cuB s.ph s.cu = true) (h4 : eqP s.n (newL s.d s.cu) = false) :
    Calls Tryz.prog 35 #[stV s v] w fun e w' => e = .returned (.int .i64 (1)) ∧ Below w.heap.size w w' := by
  obtain ⟨W, hW⟩ : ∃ W, W = w.alloc (stC s v 38) := ⟨_, rfl⟩
  have hBW : Below w.heap.size w W := by rw [hW]; exact one_new _
  have hC0 : StC W w.heap.size s v := by rw [hW]; exact StC.new w s v _
  have hvW := hv.below hBW
  have hPh := fun w => isPhase_any s.ph w
  have hD := fun w' hb => implDirectoryFault_any v.d s.d w' (hvW.d.below (w' := w') hb) hB.dl (by have := hB.d; omega)
  have hCu := fun w => isCursorIn_b s.ph s.cu w
  have hbd := cuB_bd h3
  have HNS : NsAt W v.d s.d s.cu (newL s.d s.cu) := ⟨fun w' hb => newSlots_any v.d s.d s.cu w' (hvW.d.below hb) h2 hbd⟩
  have hlm : (newL s.d s.cu).length ≤ 1048576 := by have := newL_len s.d s.cu; have := (dirOk h2).len; omega
  have hE := fun u w' hb hu => slEq_any v.n u s.n (newL s.d s.cu) w' (hvW.n.below (w' := w') hb) hu hB.n hlm
  rw [h1] at hPh
  rw [h2] at hD
  rw [h3] at hCu
  rw [h4] at hE
  obtain ⟨a1, c1, e1⟩ := hv.d.shape
  obtain ⟨a2, c2, e2⟩ := hv.n.shape
  obtain ⟨a3, c3, e3⟩ := hv.h.shape
  obtain ⟨a4, c4, e4⟩ := hv.p.shape
  have HCC0 : Hid (∀ w', Below W.heap.size W w' → StC w' w.heap.size s v) := fun w' hb => hC0.below hb hC0.lt
  obtain ⟨ph, cu, d, n, h, p⟩ := s
  obtain ⟨vd, vn, vh, vp⟩ := v
  dsimp only at *
  subst e1 e2 e3 e4
  have HCC : Hid (∀ w', Below W.heap.size W w' → w'.cell? ⟨w.heap.size, 0, none⟩ = some (.int .i64 ph) ∧ w'.cell? ⟨w.heap.size, 1, none⟩ = some (.int .i64 cu) ∧ w'.cell? ⟨w.heap.size, 2, none⟩ = some (.slice a1 d.length c1) ∧ w'.cell? ⟨w.heap.size, 3, none⟩ = some (.slice a2 n.length c2) ∧ w'.cell? ⟨w.heap.size, 4, none⟩ = some (.slice a3 h.length c3) ∧ w'.cell? ⟨w.heap.size, 5, none⟩ = some (.slice a4 p.length c4)) := fun w' hb => ⟨(HCC0.out _ hb).c0, (HCC0.out _ hb).c1, (HCC0.out _ hb).c2, (HCC0.out _ hb).c3, (HCC0.out _ hb).c4, (HCC0.out _ hb).c5⟩
  unfold stV
  dsimp only
  have HW : Hid (w.alloc (.cells #[.int .i64 ph, .int .i64 cu, .slice a1 d.length c1, .slice a2 n.length c2, .slice a3 h.length c3, .slice a4 p.length c4] 38) = W) := hW.symm
  have hltW : w.heap.size < W.heap.size := hC0.lt
  have HBW : Hid (∀ w', Below W.heap.size W w' → Below w.heap.size w w') := fun w' hb => below_after_of hBW hb
  generalize d.length = dn at *
  generalize n.length = nn at *
  generalize h.length = hn at *
  generalize p.length = pn at *
  have HC4 : Hid (∀ w', Below W.heap.size W w' → w'.cell? ⟨w.heap.size, 0, none⟩ = some (.int .i64 ph) ∧ w'.cell? ⟨w.heap.size, 1, none⟩ = some (.int .i64 cu) ∧ w'.cell? ⟨w.heap.size, 2, none⟩ = some (.slice a1 dn c1) ∧ w'.cell? ⟨w.heap.size, 3, none⟩ = some (.slice a2 nn c2)) := fun w' hb => by
    obtain ⟨k0, k1, k2, k3, -, -⟩ := HCC.out w' hb
    exact ⟨k0, k1, k2, k3⟩
  clear h1 h2 h3 h4 hbd hlm
  clear hW hC0 HCC0 hv hvW hBW hB
  go_enter Tryz.func35, Tryz.ntmps35
  go_wp2_with fail
  rw [HW.out]
  refine (hPh _).mono ?_
  rintro e w0 ⟨rfl, hw0⟩
  have hbr : Below W.heap.size W w0 := by rw [hw0]; exact Below.refl _ _
  clear hw0 hPh HW
  obtain ⟨g0, g1, g2, g3, g4, g5⟩ := HCC.out _ hbr
  have hD1 := hD _ hbr
  clear hD
  go_wp2_with fail
  refine hD1.mono ?_
  rintro e w1 ⟨rfl, hb1⟩
  have hbr : Below W.heap.size W w1 := below_after_of hbr hb1
  clear hD1 hb1
  obtain ⟨g0, g1, g2, g3, g4, g5⟩ := HCC.out _ hbr
  clear g4 g5
  go_wp2_with fail
  go_region_held3 (fun w' => w'.cell? ⟨w.heap.size, 0, none⟩ = some (.int .i64 ph) ∧ w'.cell? ⟨w.heap.size, 1, none⟩ = some (.int .i64 cu) ∧ w'.cell? ⟨w.heap.size, 2, none⟩ = some (.slice a1 dn c1) ∧ w'.cell? ⟨w.heap.size, 3, none⟩ = some (.slice a2 nn c2))
    (first | with_reducible exact ⟨g0, g1, g2, g3⟩ | with_reducible exact HC4.out _ hbr | with_reducible exact HC4.out _ hbr.drew)
    (first
      | (go_at_call 80; refine (hCu _).mono ?_; rintro e w2 ⟨rfl, hb2⟩; have hbr : Below W.heap.size W w2 := (by first | exact below_after_of hbr hb2 | exact below_after_of hbr.drew hb2); clear hb2)
      | (go_at_call 51; refine (NsAt.c (by assumption) _ (by first | exact hbr | exact hbr.drew)).mono ?_; rintro e w3 ⟨a7, c7, rfl, hb3, o3⟩; have hp3 := own_prs o3; have hbr : Below W.heap.size W w3 := (by first | exact below_after_of hbr hb3 | exact below_after_of hbr.drew hb3); clear hb3 o3)
      | (go_at_call 81; refine (hE _ _ hbr hp3).mono ?_; rintro e w4 ⟨rfl, hb4⟩; have hbr : Below W.heap.size W w4 := below_after_of hbr hb4; clear hb4))
  clear hCu HNS hE g0 g1 g2 g3 hp3
  go_wp2
  go_ret
  exact ⟨rfl, HBW.out _ hbr⟩
set_option maxRecDepth 100000 in
set_option maxHeartbeats 4000000 in
theorem implStateFault_his (R : Rt) (hR : RtOk R) (s : St) (v : Sv) (w : World) (hv : Sts w v s) (hB : StB s) (h1 : inB s.ph 1 5 = true) (h2 : dirF s.d = 0) (h3 : cuB s.ph s.cu = true) (h4 : eqP s.n (newL s.d s.cu) = true) (h5 : ¬ hisF R s.h s.p = 0) :
    Calls Tryz.prog 35 #[stV s v] w fun e w' => e = .returned (.int .i64 (hisF R s.h s.p)) ∧ Below w.heap.size w w' := by
  obtain ⟨W, hW⟩ : ∃ W, W = w.alloc (stC s v 38) := ⟨_, rfl⟩
  have hBW : Below w.heap.size w W := by rw [hW]; exact one_new _
  have hC0 : StC W w.heap.size s v := by rw [hW]; exact StC.new w s v _
  have hvW := hv.below hBW
  have hPh := fun w => isPhase_any s.ph w
  have hD := fun w' hb => implDirectoryFault_any v.d s.d w' (hvW.d.below (w' := w') hb) hB.dl (by have := hB.d; omega)
  have hCu := fun w => isCursorIn_b s.ph s.cu w
  have hbd := cuB_bd h3
  have HNS : NsAt W v.d s.d s.cu (newL s.d s.cu) := ⟨fun w' hb => newSlots_any v.d s.d s.cu w' (hvW.d.below hb) h2 hbd⟩
  have hlm : (newL s.d s.cu).length ≤ 1048576 := by have := newL_len s.d s.cu; have := (dirOk h2).len; omega
  have hE := fun u w' hb hu => slEq_any v.n u s.n (newL s.d s.cu) w' (hvW.n.below (w' := w') hb) hu hB.n hlm
  have hH := fun w' hb => implHistory_any R hR v.h v.p s.h s.p w' (hvW.h.below (w' := w') hb) (hvW.p.below hb) hB.h hB.p hB.pd
  rw [h1] at hPh
  rw [h2] at hD
  rw [h3] at hCu
  rw [h4] at hE
  have hnz : (hisF R s.h s.p != 0) = true := by simpa using h5
  obtain ⟨a1, c1, e1⟩ := hv.d.shape
  obtain ⟨a2, c2, e2⟩ := hv.n.shape
  obtain ⟨a3, c3, e3⟩ := hv.h.shape
  obtain ⟨a4, c4, e4⟩ := hv.p.shape
  have HCC0 : Hid (∀ w', Below W.heap.size W w' → StC w' w.heap.size s v) := fun w' hb => hC0.below hb hC0.lt
  obtain ⟨ph, cu, d, n, h, p⟩ := s
  obtain ⟨vd, vn, vh, vp⟩ := v
  dsimp only at *
  subst e1 e2 e3 e4
  have HCC : Hid (∀ w', Below W.heap.size W w' → w'.cell? ⟨w.heap.size, 0, none⟩ = some (.int .i64 ph) ∧ w'.cell? ⟨w.heap.size, 1, none⟩ = some (.int .i64 cu) ∧ w'.cell? ⟨w.heap.size, 2, none⟩ = some (.slice a1 d.length c1) ∧ w'.cell? ⟨w.heap.size, 3, none⟩ = some (.slice a2 n.length c2) ∧ w'.cell? ⟨w.heap.size, 4, none⟩ = some (.slice a3 h.length c3) ∧ w'.cell? ⟨w.heap.size, 5, none⟩ = some (.slice a4 p.length c4)) := fun w' hb => ⟨(HCC0.out _ hb).c0, (HCC0.out _ hb).c1, (HCC0.out _ hb).c2, (HCC0.out _ hb).c3, (HCC0.out _ hb).c4, (HCC0.out _ hb).c5⟩
  unfold stV
  dsimp only
  have HW : Hid (w.alloc (.cells #[.int .i64 ph, .int .i64 cu, .slice a1 d.length c1, .slice a2 n.length c2, .slice a3 h.length c3, .slice a4 p.length c4] 38) = W) := hW.symm
  have hltW : w.heap.size < W.heap.size := hC0.lt
  have HBW : Hid (∀ w', Below W.heap.size W w' → Below w.heap.size w w') := fun w' hb => below_after_of hBW hb
  generalize d.length = dn at *
  generalize n.length = nn at *
  generalize h.length = hn at *
  generalize p.length = pn at *
  have HC4 : Hid (∀ w', Below W.heap.size W w' → w'.cell? ⟨w.heap.size, 0, none⟩ = some (.int .i64 ph) ∧ w'.cell? ⟨w.heap.size, 1, none⟩ = some (.int .i64 cu) ∧ w'.cell? ⟨w.heap.size, 2, none⟩ = some (.slice a1 dn c1) ∧ w'.cell? ⟨w.heap.size, 3, none⟩ = some (.slice a2 nn c2)) := fun w' hb => by
    obtain ⟨k0, k1, k2, k3, -, -⟩ := HCC.out w' hb
    exact ⟨k0, k1, k2, k3⟩
  clear hR h1 h2 h3 h4 hbd hlm
  generalize hisF R h p = fh at *
  clear hW hC0 HCC0 hv hvW hBW hB
  go_enter Tryz.func35, Tryz.ntmps35
  go_wp2_with fail
  rw [HW.out]
  refine (hPh _).mono ?_
  rintro e w0 ⟨rfl, hw0⟩
  have hbr : Below W.heap.size W w0 := by rw [hw0]; exact Below.refl _ _
  clear hw0 hPh HW
  obtain ⟨g0, g1, g2, g3, g4, g5⟩ := HCC.out _ hbr
  have hD1 := hD _ hbr
  clear hD
  go_wp2_with fail
  refine hD1.mono ?_
  rintro e w1 ⟨rfl, hb1⟩
  have hbr : Below W.heap.size W w1 := below_after_of hbr hb1
  clear hD1 hb1
  obtain ⟨g0, g1, g2, g3, g4, g5⟩ := HCC.out _ hbr
  clear g4 g5
  go_wp2_with fail
  go_region_held3 (fun w' => w'.cell? ⟨w.heap.size, 0, none⟩ = some (.int .i64 ph) ∧ w'.cell? ⟨w.heap.size, 1, none⟩ = some (.int .i64 cu) ∧ w'.cell? ⟨w.heap.size, 2, none⟩ = some (.slice a1 dn c1) ∧ w'.cell? ⟨w.heap.size, 3, none⟩ = some (.slice a2 nn c2))
    (first | with_reducible exact ⟨g0, g1, g2, g3⟩ | with_reducible exact HC4.out _ hbr | with_reducible exact HC4.out _ hbr.drew)
    (first
      | (go_at_call 80; refine (hCu _).mono ?_; rintro e w2 ⟨rfl, hb2⟩; have hbr : Below W.heap.size W w2 := (by first | exact below_after_of hbr hb2 | exact below_after_of hbr.drew hb2); clear hb2)
      | (go_at_call 51; refine (NsAt.c (by assumption) _ (by first | exact hbr | exact hbr.drew)).mono ?_; rintro e w3 ⟨a7, c7, rfl, hb3, o3⟩; have hp3 := own_prs o3; have hbr : Below W.heap.size W w3 := (by first | exact below_after_of hbr hb3 | exact below_after_of hbr.drew hb3); clear hb3 o3)
      | (go_at_call 81; refine (hE _ _ hbr hp3).mono ?_; rintro e w4 ⟨rfl, hb4⟩; have hbr : Below W.heap.size W w4 := below_after_of hbr hb4; clear hb4))
  clear hCu HNS hE g0 g1 g2 g3 hp3
  obtain ⟨g0, g1, g2, g3, g4, g5⟩ := HCC.out _ hbr
  have hH1 := hH _ hbr
  clear hH
  go_wp2_with fail
  refine hH1.mono ?_
  rintro e w5 ⟨rfl, hb5⟩
  have hbr : Below W.heap.size W w5 := below_after_of hbr hb5
  clear hH1 hb5 g0 g1 g2 g3 g4 g5
  obtain ⟨g0, g1, g2, g3, g4, g5⟩ := HCC.out _ hbr
  go_wp2
  go_ret
  exact ⟨rfl, HBW.out _ hbr⟩
set_option maxRecDepth 100000 in
set_option maxHeartbeats 4000000 in
theorem implStateFault_fol (R : Rt) (hR : RtOk R) (s : St) (v : Sv) (w : World) (hv : Sts w v s) (hB : StB s) (h1 : inB s.ph 1 5 = true) (h2 : dirF s.d = 0) (h3 : cuB s.ph s.cu = true) (h4 : eqP s.n (newL s.d s.cu) = true) (h5 : hisF R s.h s.p = 0) (h6 : folB (phL s.h) s.ph = false) :
    Calls Tryz.prog 35 #[stV s v] w fun e w' => e = .returned (.int .i64 (10)) ∧ Below w.heap.size w w' := by
  obtain ⟨W, hW⟩ : ∃ W, W = w.alloc (stC s v 38) := ⟨_, rfl⟩
  have hBW : Below w.heap.size w W := by rw [hW]; exact one_new _
  have hC0 : StC W w.heap.size s v := by rw [hW]; exact StC.new w s v _
  have hvW := hv.below hBW
  have hPh := fun w => isPhase_any s.ph w
  have hD := fun w' hb => implDirectoryFault_any v.d s.d w' (hvW.d.below (w' := w') hb) hB.dl (by have := hB.d; omega)
  have hCu := fun w => isCursorIn_b s.ph s.cu w
  have hbd := cuB_bd h3
  have HNS : NsAt W v.d s.d s.cu (newL s.d s.cu) := ⟨fun w' hb => newSlots_any v.d s.d s.cu w' (hvW.d.below hb) h2 hbd⟩
  have hlm : (newL s.d s.cu).length ≤ 1048576 := by have := newL_len s.d s.cu; have := (dirOk h2).len; omega
  have hE := fun u w' hb hu => slEq_any v.n u s.n (newL s.d s.cu) w' (hvW.n.below (w' := w') hb) hu hB.n hlm
  have hH := fun w' hb => implHistory_any R hR v.h v.p s.h s.p w' (hvW.h.below (w' := w') hb) (hvW.p.below hb) hB.h hB.p hB.pd
  obtain ⟨hch, -⟩ := hisF_ch h5
  have hCE := fun w' hb => chainEnd_any v.h s.h w' (hvW.h.below (w' := w') hb) (chF_all hch).2 hB.h
  have hMF := fun w => implMayFollow_b (phL s.h) s.ph w
  rw [mf_fol (phL_in hch) h1] at hMF
  rw [h1] at hPh
  rw [h2] at hD
  rw [h3] at hCu
  rw [h4] at hE
  rw [h5] at hH
  rw [h6] at hMF
  obtain ⟨a1, c1, e1⟩ := hv.d.shape
  obtain ⟨a2, c2, e2⟩ := hv.n.shape
  obtain ⟨a3, c3, e3⟩ := hv.h.shape
  obtain ⟨a4, c4, e4⟩ := hv.p.shape
  have HCC0 : Hid (∀ w', Below W.heap.size W w' → StC w' w.heap.size s v) := fun w' hb => hC0.below hb hC0.lt
  obtain ⟨ph, cu, d, n, h, p⟩ := s
  obtain ⟨vd, vn, vh, vp⟩ := v
  dsimp only at *
  subst e1 e2 e3 e4
  have HCC : Hid (∀ w', Below W.heap.size W w' → w'.cell? ⟨w.heap.size, 0, none⟩ = some (.int .i64 ph) ∧ w'.cell? ⟨w.heap.size, 1, none⟩ = some (.int .i64 cu) ∧ w'.cell? ⟨w.heap.size, 2, none⟩ = some (.slice a1 d.length c1) ∧ w'.cell? ⟨w.heap.size, 3, none⟩ = some (.slice a2 n.length c2) ∧ w'.cell? ⟨w.heap.size, 4, none⟩ = some (.slice a3 h.length c3) ∧ w'.cell? ⟨w.heap.size, 5, none⟩ = some (.slice a4 p.length c4)) := fun w' hb => ⟨(HCC0.out _ hb).c0, (HCC0.out _ hb).c1, (HCC0.out _ hb).c2, (HCC0.out _ hb).c3, (HCC0.out _ hb).c4, (HCC0.out _ hb).c5⟩
  unfold stV
  dsimp only
  have HW : Hid (w.alloc (.cells #[.int .i64 ph, .int .i64 cu, .slice a1 d.length c1, .slice a2 n.length c2, .slice a3 h.length c3, .slice a4 p.length c4] 38) = W) := hW.symm
  have hltW : w.heap.size < W.heap.size := hC0.lt
  have HBW : Hid (∀ w', Below W.heap.size W w' → Below w.heap.size w w') := fun w' hb => below_after_of hBW hb
  generalize d.length = dn at *
  generalize n.length = nn at *
  generalize h.length = hn at *
  generalize p.length = pn at *
  have HC4 : Hid (∀ w', Below W.heap.size W w' → w'.cell? ⟨w.heap.size, 0, none⟩ = some (.int .i64 ph) ∧ w'.cell? ⟨w.heap.size, 1, none⟩ = some (.int .i64 cu) ∧ w'.cell? ⟨w.heap.size, 2, none⟩ = some (.slice a1 dn c1) ∧ w'.cell? ⟨w.heap.size, 3, none⟩ = some (.slice a2 nn c2)) := fun w' hb => by
    obtain ⟨k0, k1, k2, k3, -, -⟩ := HCC.out w' hb
    exact ⟨k0, k1, k2, k3⟩
  clear hR h1 h2 h3 h4 h5 h6 hch hbd hlm
  clear hW hC0 HCC0 hv hvW hBW hB
  go_enter Tryz.func35, Tryz.ntmps35
  go_wp2_with fail
  rw [HW.out]
  refine (hPh _).mono ?_
  rintro e w0 ⟨rfl, hw0⟩
  have hbr : Below W.heap.size W w0 := by rw [hw0]; exact Below.refl _ _
  clear hw0 hPh HW
  obtain ⟨g0, g1, g2, g3, g4, g5⟩ := HCC.out _ hbr
  have hD1 := hD _ hbr
  clear hD
  go_wp2_with fail
  refine hD1.mono ?_
  rintro e w1 ⟨rfl, hb1⟩
  have hbr : Below W.heap.size W w1 := below_after_of hbr hb1
  clear hD1 hb1
  obtain ⟨g0, g1, g2, g3, g4, g5⟩ := HCC.out _ hbr
  clear g4 g5
  go_wp2_with fail
  go_region_held3 (fun w' => w'.cell? ⟨w.heap.size, 0, none⟩ = some (.int .i64 ph) ∧ w'.cell? ⟨w.heap.size, 1, none⟩ = some (.int .i64 cu) ∧ w'.cell? ⟨w.heap.size, 2, none⟩ = some (.slice a1 dn c1) ∧ w'.cell? ⟨w.heap.size, 3, none⟩ = some (.slice a2 nn c2))
    (first | with_reducible exact ⟨g0, g1, g2, g3⟩ | with_reducible exact HC4.out _ hbr | with_reducible exact HC4.out _ hbr.drew)
    (first
      | (go_at_call 80; refine (hCu _).mono ?_; rintro e w2 ⟨rfl, hb2⟩; have hbr : Below W.heap.size W w2 := (by first | exact below_after_of hbr hb2 | exact below_after_of hbr.drew hb2); clear hb2)
      | (go_at_call 51; refine (NsAt.c (by assumption) _ (by first | exact hbr | exact hbr.drew)).mono ?_; rintro e w3 ⟨a7, c7, rfl, hb3, o3⟩; have hp3 := own_prs o3; have hbr : Below W.heap.size W w3 := (by first | exact below_after_of hbr hb3 | exact below_after_of hbr.drew hb3); clear hb3 o3)
      | (go_at_call 81; refine (hE _ _ hbr hp3).mono ?_; rintro e w4 ⟨rfl, hb4⟩; have hbr : Below W.heap.size W w4 := below_after_of hbr hb4; clear hb4))
  clear hCu HNS hE g0 g1 g2 g3 hp3
  obtain ⟨g0, g1, g2, g3, g4, g5⟩ := HCC.out _ hbr
  have hH1 := hH _ hbr
  clear hH
  go_wp2_with fail
  refine hH1.mono ?_
  rintro e w5 ⟨rfl, hb5⟩
  have hbr : Below W.heap.size W w5 := below_after_of hbr hb5
  clear hH1 hb5 g0 g1 g2 g3 g4 g5
  obtain ⟨g0, g1, g2, g3, g4, g5⟩ := HCC.out _ hbr
  have hCE1 := hCE _ hbr
  clear hCE
  go_wp2_with fail
  refine hCE1.mono ?_
  rintro e w6 ⟨rfl, hb6⟩
  have hbr : Below W.heap.size W w6 := below_after_of hbr hb6
  clear hCE1 hb6 g0 g1 g2 g3 g4 g5
  obtain ⟨g0, g1, g2, g3, g4, g5⟩ := HCC.out _ hbr
  go_wp2_with fail
  refine (hMF _).mono ?_
  rintro e w7 ⟨rfl, hb7⟩
  have hbr : Below W.heap.size W w7 := below_after_of hbr hb7
  clear hMF hb7 g0 g1 g2 g3 g4 g5
  go_wp2
  go_ret
  exact ⟨rfl, HBW.out _ hbr⟩
set_option maxRecDepth 100000 in
set_option maxHeartbeats 4000000 in
theorem implStateFault_ok (R : Rt) (hR : RtOk R) (s : St) (v : Sv) (w : World) (hv : Sts w v s) (hB : StB s) (h1 : inB s.ph 1 5 = true) (h2 : dirF s.d = 0) (h3 : cuB s.ph s.cu = true) (h4 : eqP s.n (newL s.d s.cu) = true) (h5 : hisF R s.h s.p = 0) (h6 : folB (phL s.h) s.ph = true) :
    Calls Tryz.prog 35 #[stV s v] w fun e w' => e = .returned (.int .i64 (0)) ∧ Below w.heap.size w w' := by
  obtain ⟨W, hW⟩ : ∃ W, W = w.alloc (stC s v 38) := ⟨_, rfl⟩
  have hBW : Below w.heap.size w W := by rw [hW]; exact one_new _
  have hC0 : StC W w.heap.size s v := by rw [hW]; exact StC.new w s v _
  have hvW := hv.below hBW
  have hPh := fun w => isPhase_any s.ph w
  have hD := fun w' hb => implDirectoryFault_any v.d s.d w' (hvW.d.below (w' := w') hb) hB.dl (by have := hB.d; omega)
  have hCu := fun w => isCursorIn_b s.ph s.cu w
  have hbd := cuB_bd h3
  have HNS : NsAt W v.d s.d s.cu (newL s.d s.cu) := ⟨fun w' hb => newSlots_any v.d s.d s.cu w' (hvW.d.below hb) h2 hbd⟩
  have hlm : (newL s.d s.cu).length ≤ 1048576 := by have := newL_len s.d s.cu; have := (dirOk h2).len; omega
  have hE := fun u w' hb hu => slEq_any v.n u s.n (newL s.d s.cu) w' (hvW.n.below (w' := w') hb) hu hB.n hlm
  have hH := fun w' hb => implHistory_any R hR v.h v.p s.h s.p w' (hvW.h.below (w' := w') hb) (hvW.p.below hb) hB.h hB.p hB.pd
  obtain ⟨hch, -⟩ := hisF_ch h5
  have hCE := fun w' hb => chainEnd_any v.h s.h w' (hvW.h.below (w' := w') hb) (chF_all hch).2 hB.h
  have hMF := fun w => implMayFollow_b (phL s.h) s.ph w
  rw [mf_fol (phL_in hch) h1] at hMF
  rw [h1] at hPh
  rw [h2] at hD
  rw [h3] at hCu
  rw [h4] at hE
  rw [h5] at hH
  rw [h6] at hMF
  obtain ⟨a1, c1, e1⟩ := hv.d.shape
  obtain ⟨a2, c2, e2⟩ := hv.n.shape
  obtain ⟨a3, c3, e3⟩ := hv.h.shape
  obtain ⟨a4, c4, e4⟩ := hv.p.shape
  have HCC0 : Hid (∀ w', Below W.heap.size W w' → StC w' w.heap.size s v) := fun w' hb => hC0.below hb hC0.lt
  obtain ⟨ph, cu, d, n, h, p⟩ := s
  obtain ⟨vd, vn, vh, vp⟩ := v
  dsimp only at *
  subst e1 e2 e3 e4
  have HCC : Hid (∀ w', Below W.heap.size W w' → w'.cell? ⟨w.heap.size, 0, none⟩ = some (.int .i64 ph) ∧ w'.cell? ⟨w.heap.size, 1, none⟩ = some (.int .i64 cu) ∧ w'.cell? ⟨w.heap.size, 2, none⟩ = some (.slice a1 d.length c1) ∧ w'.cell? ⟨w.heap.size, 3, none⟩ = some (.slice a2 n.length c2) ∧ w'.cell? ⟨w.heap.size, 4, none⟩ = some (.slice a3 h.length c3) ∧ w'.cell? ⟨w.heap.size, 5, none⟩ = some (.slice a4 p.length c4)) := fun w' hb => ⟨(HCC0.out _ hb).c0, (HCC0.out _ hb).c1, (HCC0.out _ hb).c2, (HCC0.out _ hb).c3, (HCC0.out _ hb).c4, (HCC0.out _ hb).c5⟩
  unfold stV
  dsimp only
  have HW : Hid (w.alloc (.cells #[.int .i64 ph, .int .i64 cu, .slice a1 d.length c1, .slice a2 n.length c2, .slice a3 h.length c3, .slice a4 p.length c4] 38) = W) := hW.symm
  have hltW : w.heap.size < W.heap.size := hC0.lt
  have HBW : Hid (∀ w', Below W.heap.size W w' → Below w.heap.size w w') := fun w' hb => below_after_of hBW hb
  generalize d.length = dn at *
  generalize n.length = nn at *
  generalize h.length = hn at *
  generalize p.length = pn at *
  have HC4 : Hid (∀ w', Below W.heap.size W w' → w'.cell? ⟨w.heap.size, 0, none⟩ = some (.int .i64 ph) ∧ w'.cell? ⟨w.heap.size, 1, none⟩ = some (.int .i64 cu) ∧ w'.cell? ⟨w.heap.size, 2, none⟩ = some (.slice a1 dn c1) ∧ w'.cell? ⟨w.heap.size, 3, none⟩ = some (.slice a2 nn c2)) := fun w' hb => by
    obtain ⟨k0, k1, k2, k3, -, -⟩ := HCC.out w' hb
    exact ⟨k0, k1, k2, k3⟩
  clear hR h1 h2 h3 h4 h5 h6 hch hbd hlm
  clear hW hC0 HCC0 hv hvW hBW hB
  go_enter Tryz.func35, Tryz.ntmps35
  go_wp2_with fail
  rw [HW.out]
  refine (hPh _).mono ?_
  rintro e w0 ⟨rfl, hw0⟩
  have hbr : Below W.heap.size W w0 := by rw [hw0]; exact Below.refl _ _
  clear hw0 hPh HW
  obtain ⟨g0, g1, g2, g3, g4, g5⟩ := HCC.out _ hbr
  have hD1 := hD _ hbr
  clear hD
  go_wp2_with fail
  refine hD1.mono ?_
  rintro e w1 ⟨rfl, hb1⟩
  have hbr : Below W.heap.size W w1 := below_after_of hbr hb1
  clear hD1 hb1
  obtain ⟨g0, g1, g2, g3, g4, g5⟩ := HCC.out _ hbr
  clear g4 g5
  go_wp2_with fail
  go_region_held3 (fun w' => w'.cell? ⟨w.heap.size, 0, none⟩ = some (.int .i64 ph) ∧ w'.cell? ⟨w.heap.size, 1, none⟩ = some (.int .i64 cu) ∧ w'.cell? ⟨w.heap.size, 2, none⟩ = some (.slice a1 dn c1) ∧ w'.cell? ⟨w.heap.size, 3, none⟩ = some (.slice a2 nn c2))
    (first | with_reducible exact ⟨g0, g1, g2, g3⟩ | with_reducible exact HC4.out _ hbr | with_reducible exact HC4.out _ hbr.drew)
    (first
      | (go_at_call 80; refine (hCu _).mono ?_; rintro e w2 ⟨rfl, hb2⟩; have hbr : Below W.heap.size W w2 := (by first | exact below_after_of hbr hb2 | exact below_after_of hbr.drew hb2); clear hb2)
      | (go_at_call 51; refine (NsAt.c (by assumption) _ (by first | exact hbr | exact hbr.drew)).mono ?_; rintro e w3 ⟨a7, c7, rfl, hb3, o3⟩; have hp3 := own_prs o3; have hbr : Below W.heap.size W w3 := (by first | exact below_after_of hbr hb3 | exact below_after_of hbr.drew hb3); clear hb3 o3)
      | (go_at_call 81; refine (hE _ _ hbr hp3).mono ?_; rintro e w4 ⟨rfl, hb4⟩; have hbr : Below W.heap.size W w4 := below_after_of hbr hb4; clear hb4))
  clear hCu HNS hE g0 g1 g2 g3 hp3
  obtain ⟨g0, g1, g2, g3, g4, g5⟩ := HCC.out _ hbr
  have hH1 := hH _ hbr
  clear hH
  go_wp2_with fail
  refine hH1.mono ?_
  rintro e w5 ⟨rfl, hb5⟩
  have hbr : Below W.heap.size W w5 := below_after_of hbr hb5
  clear hH1 hb5 g0 g1 g2 g3 g4 g5
  obtain ⟨g0, g1, g2, g3, g4, g5⟩ := HCC.out _ hbr
  have hCE1 := hCE _ hbr
  clear hCE
  go_wp2_with fail
  refine hCE1.mono ?_
  rintro e w6 ⟨rfl, hb6⟩
  have hbr : Below W.heap.size W w6 := below_after_of hbr hb6
  clear hCE1 hb6 g0 g1 g2 g3 g4 g5
  obtain ⟨g0, g1, g2, g3, g4, g5⟩ := HCC.out _ hbr
  go_wp2_with fail
  refine (hMF _).mono ?_
  rintro e w7 ⟨rfl, hb7⟩
  have hbr : Below W.heap.size W w7 := below_after_of hbr hb7
  clear hMF hb7 g0 g1 g2 g3 g4 g5
  go_wp2
  go_ret
  exact ⟨rfl, HBW.out _ hbr⟩
theorem implStateFault_any (R : Rt) (hR : RtOk R) (s : St) (v : Sv) (w : World) (hv : Sts w v s) (hB : StB s) :
    Calls Tryz.prog 35 #[stV s v] w fun e w' => e = .returned (.int .i64 (stF R s)) ∧ Below w.heap.size w w' := by
  rcases Bool.eq_false_or_eq_true (inB s.ph 1 5) with h1 | h1
  · by_cases h2 : dirF s.d = 0
    · rcases Bool.eq_false_or_eq_true (cuB s.ph s.cu) with h3 | h3
      · rcases Bool.eq_false_or_eq_true (eqP s.n (newL s.d s.cu)) with h4 | h4
        · have hn : stN s = true := by unfold stN; rw [h3, h4]; rfl
          by_cases h5 : hisF R s.h s.p = 0
          · rcases Bool.eq_false_or_eq_true (folB (phL s.h) s.ph) with h6 | h6
            · rw [stF_none h1 h2 hn h5 h6]
              exact implStateFault_ok R hR s v w hv hB h1 h2 h3 h4 h5 h6
            · rw [stF_fol h1 h2 hn h5 h6]
              exact implStateFault_fol R hR s v w hv hB h1 h2 h3 h4 h5 h6
          · rw [stF_his h1 h2 hn h5]
            exact implStateFault_his R hR s v w hv hB h1 h2 h3 h4 h5
        · rw [stF_form h1 h2 (by unfold stN; rw [h3, h4]; rfl)]
          exact implStateFault_new s v w hv hB h1 h2 h3 h4
      · rw [stF_form h1 h2 (by unfold stN; rw [h3]; rfl)]
        exact implStateFault_cu s v w hv hB h1 h2 h3
    · rw [stF_dir h1 h2]
      exact implStateFault_dir s v w hv hB h1 h2
  · rw [stF_ph h1]
    exact implStateFault_ph s v w hv hB h1
end U
end Go.Proofs.YtjhmfaibpnagcaaGreat
