/- The fault of a state, by the model; both, at one state. -/
import Derived.Test.YtjhmfaibpnagcaaGreatGSt5
import Derived.Test.YtjhmfaibpnagcaaGreatGSt3
namespace Go.Proofs.YtjhmfaibpnagcaaGreat
open Go.RowKit
namespace U
set_option maxRecDepth 100000 in
set_option maxHeartbeats 4000000 in
theorem l11Fault_ph (g : Nat) (s : St) (v : Sv) (w : World) (hs : StC w g s v) (hv : Sts w v s) (hB : StB s) (h1 : inB s.ph 1 5 = false) :
    Calls Tryz.prog 28 #[.pointer (some ⟨g, 0, none⟩)] w fun e w' => e = .returned (.int .i64 (3)) ∧ Below w.heap.size w w' := by
  have hnn := hne_all
  have HST : Hid (∀ w', Below w.heap.size w w' → StC w' g s v) := fun w' hb => hs.below hb hs.lt
  have hI := fun w => l1In_any s.ph 1 5 w
  have hD := fun w' hb => l9Fault_off g 2 v.d s.d w' (HST.out w' hb).lt (HST.out w' hb).c2 (hv.d.below (w' := w') hb) hB.dl (by have := hB.d; omega)
  rw [h1] at hI
  have HK0 : Hid (∀ w', Below w.heap.size w w' → w'.cell? ⟨g, 0, none⟩ = some (.int .i64 s.ph)) := fun w' hb => (HST.out w' hb).c0
  have hbr : Below w.heap.size w w := Below.refl _ _
  obtain ⟨ph, cu, d, n, h, p⟩ := s
  dsimp only at *
  have g0 := HK0.out _ hbr
  clear hs hv hB HST
  go_enter Tryz.func28, Tryz.ntmps28
  go_wp2_with fail
  refine (hI _).mono ?_
  rintro e w0 ⟨rfl, hw0⟩
  have hbr : Below w.heap.size w w0 := by rw [hw0]; exact Below.refl _ _
  clear hw0 hI g0
  clear hD h1
  go_wp2
  go_ret
  exact ⟨rfl, hbr⟩
set_option maxRecDepth 100000 in
set_option maxHeartbeats 4000000 in
theorem l11Fault_dir (g : Nat) (s : St) (v : Sv) (w : World) (hs : StC w g s v) (hv : Sts w v s) (hB : StB s) (h1 : inB s.ph 1 5 = true) (h2 : ¬ dirF s.d = 0) :
    Calls Tryz.prog 28 #[.pointer (some ⟨g, 0, none⟩)] w fun e w' => e = .returned (.int .i64 (dirF s.d)) ∧ Below w.heap.size w w' := by
  have hnn := hne_all
  have HST : Hid (∀ w', Below w.heap.size w w' → StC w' g s v) := fun w' hb => hs.below hb hs.lt
  have hI := fun w => l1In_any s.ph 1 5 w
  have hD := fun w' hb => l9Fault_off g 2 v.d s.d w' (HST.out w' hb).lt (HST.out w' hb).c2 (hv.d.below (w' := w') hb) hB.dl (by have := hB.d; omega)
  rw [h1] at hI
  have hnz : (dirF s.d != 0) = true := by simpa using h2
  generalize dirF s.d = fd at *
  have HK0 : Hid (∀ w', Below w.heap.size w w' → w'.cell? ⟨g, 0, none⟩ = some (.int .i64 s.ph)) := fun w' hb => (HST.out w' hb).c0
  have hbr : Below w.heap.size w w := Below.refl _ _
  obtain ⟨ph, cu, d, n, h, p⟩ := s
  dsimp only at *
  have g0 := HK0.out _ hbr
  clear hs hv hB HST
  go_enter Tryz.func28, Tryz.ntmps28
  go_wp2_with fail
  refine (hI _).mono ?_
  rintro e w0 ⟨rfl, hw0⟩
  have hbr : Below w.heap.size w w0 := by rw [hw0]; exact Below.refl _ _
  clear hw0 hI g0
  clear h1 h2
  have hDX := hD _ hbr
  clear hD
  go_wp2_with fail
  refine hDX.mono ?_
  rintro e w1 ⟨rfl, hbX⟩
  have hbr : Below w.heap.size w w1 := below_after_of hbr hbX
  clear hDX hbX
  go_wp2
  go_ret
  exact ⟨rfl, hbr⟩
set_option maxRecDepth 100000 in
set_option maxHeartbeats 4000000 in
theorem l11Fault_form (g : Nat) (s : St) (v : Sv) (w : World) (hs : StC w g s v) (hv : Sts w v s) (hB : StB s) (h1 : inB s.ph 1 5 = true) (h2 : dirF s.d = 0) (h3 : stN s = false) :
    Calls Tryz.prog 28 #[.pointer (some ⟨g, 0, none⟩)] w fun e w' => e = .returned (.int .i64 (1)) ∧ Below w.heap.size w w' := by
  have hnn := hne_all
  have HST : Hid (∀ w', Below w.heap.size w w' → StC w' g s v) := fun w' hb => hs.below hb hs.lt
  have hI := fun w => l1In_any s.ph 1 5 w
  have hD := fun w' hb => l9Fault_off g 2 v.d s.d w' (HST.out w' hb).lt (HST.out w' hb).c2 (hv.d.below (w' := w') hb) hB.dl (by have := hB.d; omega)
  have hFo := fun w' hb => l11Form_any g s v w' (HST.out w' hb) (hv.below (w' := w') hb) hB h1 h2
  rw [h1] at hI
  rw [h2] at hD
  rw [h3] at hFo
  have HK0 : Hid (∀ w', Below w.heap.size w w' → w'.cell? ⟨g, 0, none⟩ = some (.int .i64 s.ph)) := fun w' hb => (HST.out w' hb).c0
  have hbr : Below w.heap.size w w := Below.refl _ _
  obtain ⟨ph, cu, d, n, h, p⟩ := s
  dsimp only at *
  have g0 := HK0.out _ hbr
  clear hs hv hB HST
  go_enter Tryz.func28, Tryz.ntmps28
  go_wp2_with fail
  refine (hI _).mono ?_
  rintro e w0 ⟨rfl, hw0⟩
  have hbr : Below w.heap.size w w0 := by rw [hw0]; exact Below.refl _ _
  clear hw0 hI g0
  clear h1 h2 h3
  have hDX := hD _ hbr
  clear hD
  go_wp2_with fail
  refine hDX.mono ?_
  rintro e w1 ⟨rfl, hbX⟩
  have hbr : Below w.heap.size w w1 := below_after_of hbr hbX
  clear hDX hbX
  have hFoX := hFo _ hbr
  clear hFo
  go_wp2_with fail
  refine hFoX.mono ?_
  rintro e w2 ⟨rfl, hbX⟩
  have hbr : Below w.heap.size w w2 := below_after_of hbr hbX
  clear hFoX hbX
  go_wp2
  go_ret
  exact ⟨rfl, hbr⟩
set_option maxRecDepth 100000 in
set_option maxHeartbeats 4000000 in
theorem l11Fault_his (R : Rt) (hR : RtOk R) (g : Nat) (s : St) (v : Sv) (w : World) (hs : StC w g s v) (hv : Sts w v s) (hB : StB s) (h1 : inB s.ph 1 5 = true) (h2 : dirF s.d = 0) (h3 : stN s = true) (h5 : ¬ hisF R s.h s.p = 0) :
    Calls Tryz.prog 28 #[.pointer (some ⟨g, 0, none⟩)] w fun e w' => e = .returned (.int .i64 (hisF R s.h s.p)) ∧ Below w.heap.size w w' := by
  have hnn := hne_all
  have HST : Hid (∀ w', Below w.heap.size w w' → StC w' g s v) := fun w' hb => hs.below hb hs.lt
  have hI := fun w => l1In_any s.ph 1 5 w
  have hD := fun w' hb => l9Fault_off g 2 v.d s.d w' (HST.out w' hb).lt (HST.out w' hb).c2 (hv.d.below (w' := w') hb) hB.dl (by have := hB.d; omega)
  have hFo := fun w' hb => l11Form_any g s v w' (HST.out w' hb) (hv.below (w' := w') hb) hB h1 h2
  have hH := fun w' hb => l11Past_any R hR g v.h v.p s.h s.p w' (HST.out w' hb).lt (HST.out w' hb).c4 (HST.out w' hb).c5 (hv.h.below (w' := w') hb) (hv.p.below hb) hB.h hB.p hB.pd
  rw [h1] at hI
  rw [h2] at hD
  rw [h3] at hFo
  have hnz : (hisF R s.h s.p != 0) = true := by simpa using h5
  generalize hisF R s.h s.p = fh at *
  have HK0 : Hid (∀ w', Below w.heap.size w w' → w'.cell? ⟨g, 0, none⟩ = some (.int .i64 s.ph)) := fun w' hb => (HST.out w' hb).c0
  have hbr : Below w.heap.size w w := Below.refl _ _
  obtain ⟨ph, cu, d, n, h, p⟩ := s
  dsimp only at *
  have g0 := HK0.out _ hbr
  clear hs hv hB HST
  go_enter Tryz.func28, Tryz.ntmps28
  go_wp2_with fail
  refine (hI _).mono ?_
  rintro e w0 ⟨rfl, hw0⟩
  have hbr : Below w.heap.size w w0 := by rw [hw0]; exact Below.refl _ _
  clear hw0 hI g0
  clear hR h1 h2 h3 h5
  have hDX := hD _ hbr
  clear hD
  go_wp2_with fail
  refine hDX.mono ?_
  rintro e w1 ⟨rfl, hbX⟩
  have hbr : Below w.heap.size w w1 := below_after_of hbr hbX
  clear hDX hbX
  have hFoX := hFo _ hbr
  clear hFo
  go_wp2_with fail
  refine hFoX.mono ?_
  rintro e w2 ⟨rfl, hbX⟩
  have hbr : Below w.heap.size w w2 := below_after_of hbr hbX
  clear hFoX hbX
  have hHX := hH _ hbr
  clear hH
  go_wp2_with fail
  refine hHX.mono ?_
  rintro e w3 ⟨rfl, hbX⟩
  have hbr : Below w.heap.size w w3 := below_after_of hbr hbX
  clear hHX hbX
  go_wp2
  go_ret
  exact ⟨rfl, hbr⟩
set_option maxRecDepth 100000 in
set_option maxHeartbeats 4000000 in
theorem l11Fault_fol (R : Rt) (hR : RtOk R) (g : Nat) (s : St) (v : Sv) (w : World) (hs : StC w g s v) (hv : Sts w v s) (hB : StB s) (h1 : inB s.ph 1 5 = true) (h2 : dirF s.d = 0) (h3 : stN s = true) (h5 : hisF R s.h s.p = 0) (h6 : folB (phL s.h) s.ph = false) :
    Calls Tryz.prog 28 #[.pointer (some ⟨g, 0, none⟩)] w fun e w' => e = .returned (.int .i64 (10)) ∧ Below w.heap.size w w' := by
  have hnn := hne_all
  have HST : Hid (∀ w', Below w.heap.size w w' → StC w' g s v) := fun w' hb => hs.below hb hs.lt
  have hI := fun w => l1In_any s.ph 1 5 w
  have hD := fun w' hb => l9Fault_off g 2 v.d s.d w' (HST.out w' hb).lt (HST.out w' hb).c2 (hv.d.below (w' := w') hb) hB.dl (by have := hB.d; omega)
  have hFo := fun w' hb => l11Form_any g s v w' (HST.out w' hb) (hv.below (w' := w') hb) hB h1 h2
  have hH := fun w' hb => l11Past_any R hR g v.h v.p s.h s.p w' (HST.out w' hb).lt (HST.out w' hb).c4 (HST.out w' hb).c5 (hv.h.below (w' := w') hb) (hv.p.below hb) hB.h hB.p hB.pd
  obtain ⟨hch, -⟩ := hisF_ch h5
  have hCE := fun w' hb => l11Last_any g v.h s.h w' (HST.out w' hb).c4 (hv.h.below (w' := w') hb) (chF_all hch).2 hB.h
  have hMF := fun w => l10Follow_any (phL s.h) s.ph w
  rw [h1] at hI
  rw [h2] at hD
  rw [h3] at hFo
  rw [h5] at hH
  rw [h6] at hMF
  have HK0 : Hid (∀ w', Below w.heap.size w w' → w'.cell? ⟨g, 0, none⟩ = some (.int .i64 s.ph)) := fun w' hb => (HST.out w' hb).c0
  have hbr : Below w.heap.size w w := Below.refl _ _
  obtain ⟨ph, cu, d, n, h, p⟩ := s
  dsimp only at *
  have g0 := HK0.out _ hbr
  clear hs hv hB HST
  go_enter Tryz.func28, Tryz.ntmps28
  go_wp2_with fail
  refine (hI _).mono ?_
  rintro e w0 ⟨rfl, hw0⟩
  have hbr : Below w.heap.size w w0 := by rw [hw0]; exact Below.refl _ _
  clear hw0 hI g0
  clear hR h1 h2 h3 h5 h6 hch
  have hDX := hD _ hbr
  clear hD
  go_wp2_with fail
  refine hDX.mono ?_
  rintro e w1 ⟨rfl, hbX⟩
  have hbr : Below w.heap.size w w1 := below_after_of hbr hbX
  clear hDX hbX
  have hFoX := hFo _ hbr
  clear hFo
  go_wp2_with fail
  refine hFoX.mono ?_
  rintro e w2 ⟨rfl, hbX⟩
  have hbr : Below w.heap.size w w2 := below_after_of hbr hbX
  clear hFoX hbX
  have hHX := hH _ hbr
  clear hH
  go_wp2_with fail
  refine hHX.mono ?_
  rintro e w3 ⟨rfl, hbX⟩
  have hbr : Below w.heap.size w w3 := below_after_of hbr hbX
  clear hHX hbX
  have hCEX := hCE _ hbr
  clear hCE
  go_wp2_with fail
  refine hCEX.mono ?_
  rintro e w4 ⟨rfl, hbX⟩
  have hbr : Below w.heap.size w w4 := below_after_of hbr hbX
  clear hCEX hbX
  have g0 := HK0.out _ hbr
  go_wp2_with fail
  refine (hMF _).mono ?_
  rintro e w7 ⟨rfl, hw7⟩
  have hbr : Below w.heap.size w w7 := by rw [hw7]; exact hbr
  clear hMF hw7 g0
  go_wp2
  go_ret
  exact ⟨rfl, hbr⟩
set_option maxRecDepth 100000 in
set_option maxHeartbeats 4000000 in
theorem l11Fault_ok (R : Rt) (hR : RtOk R) (g : Nat) (s : St) (v : Sv) (w : World) (hs : StC w g s v) (hv : Sts w v s) (hB : StB s) (h1 : inB s.ph 1 5 = true) (h2 : dirF s.d = 0) (h3 : stN s = true) (h5 : hisF R s.h s.p = 0) (h6 : folB (phL s.h) s.ph = true) :
    Calls Tryz.prog 28 #[.pointer (some ⟨g, 0, none⟩)] w fun e w' => e = .returned (.int .i64 (0)) ∧ Below w.heap.size w w' := by
  have hnn := hne_all
  have HST : Hid (∀ w', Below w.heap.size w w' → StC w' g s v) := fun w' hb => hs.below hb hs.lt
  have hI := fun w => l1In_any s.ph 1 5 w
  have hD := fun w' hb => l9Fault_off g 2 v.d s.d w' (HST.out w' hb).lt (HST.out w' hb).c2 (hv.d.below (w' := w') hb) hB.dl (by have := hB.d; omega)
  have hFo := fun w' hb => l11Form_any g s v w' (HST.out w' hb) (hv.below (w' := w') hb) hB h1 h2
  have hH := fun w' hb => l11Past_any R hR g v.h v.p s.h s.p w' (HST.out w' hb).lt (HST.out w' hb).c4 (HST.out w' hb).c5 (hv.h.below (w' := w') hb) (hv.p.below hb) hB.h hB.p hB.pd
  obtain ⟨hch, -⟩ := hisF_ch h5
  have hCE := fun w' hb => l11Last_any g v.h s.h w' (HST.out w' hb).c4 (hv.h.below (w' := w') hb) (chF_all hch).2 hB.h
  have hMF := fun w => l10Follow_any (phL s.h) s.ph w
  rw [h1] at hI
  rw [h2] at hD
  rw [h3] at hFo
  rw [h5] at hH
  rw [h6] at hMF
  have HK0 : Hid (∀ w', Below w.heap.size w w' → w'.cell? ⟨g, 0, none⟩ = some (.int .i64 s.ph)) := fun w' hb => (HST.out w' hb).c0
  have hbr : Below w.heap.size w w := Below.refl _ _
  obtain ⟨ph, cu, d, n, h, p⟩ := s
  dsimp only at *
  have g0 := HK0.out _ hbr
  clear hs hv hB HST
  go_enter Tryz.func28, Tryz.ntmps28
  go_wp2_with fail
  refine (hI _).mono ?_
  rintro e w0 ⟨rfl, hw0⟩
  have hbr : Below w.heap.size w w0 := by rw [hw0]; exact Below.refl _ _
  clear hw0 hI g0
  clear hR h1 h2 h3 h5 h6 hch
  have hDX := hD _ hbr
  clear hD
  go_wp2_with fail
  refine hDX.mono ?_
  rintro e w1 ⟨rfl, hbX⟩
  have hbr : Below w.heap.size w w1 := below_after_of hbr hbX
  clear hDX hbX
  have hFoX := hFo _ hbr
  clear hFo
  go_wp2_with fail
  refine hFoX.mono ?_
  rintro e w2 ⟨rfl, hbX⟩
  have hbr : Below w.heap.size w w2 := below_after_of hbr hbX
  clear hFoX hbX
  have hHX := hH _ hbr
  clear hH
  go_wp2_with fail
  refine hHX.mono ?_
  rintro e w3 ⟨rfl, hbX⟩
  have hbr : Below w.heap.size w w3 := below_after_of hbr hbX
  clear hHX hbX
  have hCEX := hCE _ hbr
  clear hCE
  go_wp2_with fail
  refine hCEX.mono ?_
  rintro e w4 ⟨rfl, hbX⟩
  have hbr : Below w.heap.size w w4 := below_after_of hbr hbX
  clear hCEX hbX
  have g0 := HK0.out _ hbr
  go_wp2_with fail
  refine (hMF _).mono ?_
  rintro e w7 ⟨rfl, hw7⟩
  have hbr : Below w.heap.size w w7 := by rw [hw7]; exact hbr
  clear hMF hw7 g0
  go_wp2
  go_ret
  exact ⟨rfl, hbr⟩
theorem l11Fault_any (R : Rt) (hR : RtOk R) (g : Nat) (s : St) (v : Sv) (w : World) (hs : StC w g s v) (hv : Sts w v s) (hB : StB s) :
    Calls Tryz.prog 28 #[.pointer (some ⟨g, 0, none⟩)] w fun e w' => e = .returned (.int .i64 (stF R s)) ∧ Below w.heap.size w w' := by
  rcases Bool.eq_false_or_eq_true (inB s.ph 1 5) with h1 | h1
  · by_cases h2 : dirF s.d = 0
    · rcases Bool.eq_false_or_eq_true (stN s) with h3 | h3
      · by_cases h5 : hisF R s.h s.p = 0
        · rcases Bool.eq_false_or_eq_true (folB (phL s.h) s.ph) with h6 | h6
          · rw [stF_none h1 h2 h3 h5 h6]
            exact l11Fault_ok R hR g s v w hs hv hB h1 h2 h3 h5 h6
          · rw [stF_fol h1 h2 h3 h5 h6]
            exact l11Fault_fol R hR g s v w hs hv hB h1 h2 h3 h5 h6
        · rw [stF_his h1 h2 h3 h5]
          exact l11Fault_his R hR g s v w hs hv hB h1 h2 h3 h5
      · rw [stF_form h1 h2 h3]
        exact l11Fault_form g s v w hs hv hB h1 h2 h3
    · rw [stF_dir h1 h2]
      exact l11Fault_dir g s v w hs hv hB h1 h2
  · rw [stF_ph h1]
    exact l11Fault_ph g s v w hs hv hB h1
end U
end Go.Proofs.YtjhmfaibpnagcaaGreat
