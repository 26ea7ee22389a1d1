/- An epoch closed, by the model. -/
import Derived.Deep.Cut
import Derived.Test.YtjhmfaibpnagcaaGreatGCl1
import Derived.Test.YtjhmfaibpnagcaaGreatGIm2h
import Derived.Test.YtjhmfaibpnagcaaGreatGSt5
namespace Go.Proofs.YtjhmfaibpnagcaaGreat
open Go.RowKit Go.Maps
namespace U
set_option maxRecDepth 100000 in
set_option maxHeartbeats 4000000 in
theorem l11Close_full (g : Nat) (s : St) (v : Sv) (w : World) (hv : Hds w v.h s.h) (hs : StC w g s v) (h10 : s.h.length = 10) :
    Calls Tryz.prog 30 #[.pointer (some ⟨g, 0, none⟩)] w fun e w' => StAns w 11 stZ e w' := by
  obtain ⟨W, hW⟩ : ∃ W, W = w.alloc (.cells #[.int .i64 0, .int .i64 0, .int .i64 0, .slice none 0 0, .slice none 0 0, .slice none 0 0, .slice none 0 0] 40) := ⟨_, rfl⟩
  have hBW : Below w.heap.size w W := by rw [hW]; exact one_new _
  have hRW : W.heap[w.heap.size]? = some (.cells #[.int .i64 0, .int .i64 0, .int .i64 0, .slice none 0 0, .slice none 0 0, .slice none 0 0, .slice none 0 0] 40) := by rw [hW]; exact heap_alloc_new w _
  have hLW : w.heap.size < W.heap.size := (Array.getElem?_eq_some_iff.1 hRW).1
  have hsW := hs.below hBW hs.lt
  have hC := l11Bad_any 11 W
  have HW : Hid (w.alloc (.cells #[.int .i64 0, .int .i64 0, .int .i64 0, .slice none 0 0, .slice none 0 0, .slice none 0 0, .slice none 0 0] 40) = W) := hW.symm
  obtain ⟨a3, c3, e3⟩ := hv.shape
  rw [h10] at e3
  have k4 := hsW.c4
  rw [e3, hW] at k4
  have hgw : g < w.heap.size := hs.lt
  have HBW : Hid (Below w.heap.size w W) := hBW
  have HLO : Hid (w.heap.size < W.heap.size) := hLW
  have HBK : Hid (w.heap.size ≤ w.heap.size) := Nat.le_refl _
  have HRW : Hid (W.heap[w.heap.size]? = some (.cells #[.int .i64 0, .int .i64 0, .int .i64 0, .slice none 0 0, .slice none 0 0, .slice none 0 0, .slice none 0 0] 40)) := hRW
  generalize stZ = t at *
  clear hs hsW hW hBW hRW hLW hv h10 e3
  go_enter Tryz.func30, Tryz.ntmps30
  go_wp2_with fail
  rw [HW.out]
  refine hC.mono ?_
  rintro e w1 ⟨u, us, rfl, hb1, h1⟩
  have HB1 : Hid (Below w.heap.size w w1) := below_after_of HBW.out hb1
  obtain ⟨⟨q0, q1, q2, q3, q4, q5, q6⟩, g0, g1, g2, g3, g4, g5, g6⟩ := seven_cellsR ((hb1.block w.heap.size HLO.out).trans HRW.out)
  clear hC HW k4 hb1 HRW HBW
  obtain ⟨b1, d1, f1⟩ := h1.sts.d.shape
  obtain ⟨b2, d2, f2⟩ := h1.sts.n.shape
  obtain ⟨b3, d3, f3⟩ := h1.sts.h.shape
  obtain ⟨b4, d4, f4⟩ := h1.sts.p.shape
  obtain ⟨td, tn, th, tp⟩ := u
  dsimp only at f1 f2 f3 f4
  subst f1 f2 f3 f4
  unfold srV
  dsimp only
  have HP : Hid (∀ x0 x1 x2 x3 x4 x5 x6 : Value, _) := (st_put (w := w) (b := w.heap.size) h1 HB1.out HBK.out HLO.out)
  clear h1
  go_wp2
  refine bodyPost_ret (v := .agg #[.int .i64 11, .int .i64 t.ph, .int .i64 t.cu, .slice b1 t.d.length d1, .slice b2 t.n.length d2, .slice b3 t.h.length d3, .slice b4 t.p.length d4]) (by simp [results, Tryz.results30, go_sem, q0, q1, q2, q3, q4, q5, q6]) rfl ⟨⟨.slice b1 t.d.length d1, .slice b2 t.n.length d2, .slice b3 t.h.length d3, .slice b4 t.p.length d4⟩, us, rfl, ?_, ?_⟩
  · exact (HP.out _ _ _ _ _ _ _).1
  · exact (HP.out _ _ _ _ _ _ _).2
set_option maxRecDepth 100000 in
set_option maxHeartbeats 4000000 in
theorem l11Close_ok (R : Rt) (hR : RtOk R) (lo0 hi0 g : Nat) (s : St) (v : Sv) (us0 : List Value) (w : World) (hso : StOwn lo0 hi0 w v us0 s) (hB : StB s) (hs : StC w g s v) (h : stF R s = 0) (h1 : ¬ s.h.length = 10) :
    Calls Tryz.prog 30 #[.pointer (some ⟨g, 0, none⟩)] w fun e w' => StAns w 0 (clT R s) e w' := by
  obtain ⟨W, hW⟩ : ∃ W, W = w.alloc (.cells #[.int .i64 0, .int .i64 0, .int .i64 0, .slice none 0 0, .slice none 0 0, .slice none 0 0, .slice none 0 0] 40) := ⟨_, rfl⟩
  have hBW : Below w.heap.size w W := by rw [hW]; exact one_new _
  have hRW : W.heap[w.heap.size]? = some (.cells #[.int .i64 0, .int .i64 0, .int .i64 0, .slice none 0 0, .slice none 0 0, .slice none 0 0, .slice none 0 0] 40) := by rw [hW]; exact heap_alloc_new w _
  have hLW : w.heap.size < W.heap.size := (Array.getElem?_eq_some_iff.1 hRW).1
  have hsW := hs.below hBW hs.lt
  have hv := hso.sts
  have hok := stOk h
  have hlen := heads_len h
  have hHR := hR (dirSl s.d) (dirSl_ok (dirOk hok.d))
  have hC := l11Copy_any lo0 hi0 s v us0 W (hso.below hBW) hB
  have HC : Hid (∀ w', Below W.heap.size W w' → StC w' g s v) := fun w' hb => hsW.below hb hsW.lt
  have HLA : Hid (∀ w', Below W.heap.size W w' → Calls Tryz.prog 70 #[.pointer (some ⟨g, 0, none⟩)] w' fun e w'' => e = .returned (.tuple #[.int .i64 (phL s.h), .int .i64 (smL s.h)]) ∧ Below w'.heap.size w' w'') := fun w' hb => l11Last_any g v.h s.h w' (HC.out w' hb).c4 (hv.h.below (below_after_of hBW hb)) (chF_all (hisF_ch hok.his).1).2 hB.h
  have HHF : Hid (∀ w', Below W.heap.size W w' → Calls Tryz.prog 73 #[.pointer (some ⟨g, 2, none⟩), .int .i64 ((s.h.length : Int) + 1), .int .i64 s.ph, .int .i64 (smL s.h)] w' fun x w'' => x = .returned (hdV (clH R s).e (clH R s).p (clH R s).o (clH R s).n (clH R s).v) ∧ Below w'.heap.size w' w'') := fun w' hb => l10Head_off g 2 v.d s.d _ _ _ _ _ w' (HC.out w' hb).lt (HC.out w' hb).c2 (hv.d.below (below_after_of hBW hb)) (dirOk hok.d) hHR
  have HT : Hid (∀ (u : Sv) (us : List Value) (w' : World), Below w.heap.size w w' → StOwn w.heap.size w'.heap.size w' u us (clT R s) → StAns w 0 (clT R s) (.returned (srV 0 (clT R s) u)) w') := fun u us w' hb ho => ⟨u, us, rfl, hb, ho⟩
  have hnil := hso.own.own (dRow v.d s.d) (by simp [sRows])
  obtain ⟨a1, c1, e1⟩ := hv.d.shape
  obtain ⟨a2, c2, e2⟩ := hv.n.shape
  obtain ⟨a3, c3, e3⟩ := hv.h.shape
  obtain ⟨a4, c4, e4⟩ := hv.p.shape
  have HCALL : Hid (∀ w', Below w.heap.size w w' → Calls Tryz.prog 74 #[.agg #[.slice a1 s.d.length c1]] w' fun e w'' => ∃ a c, e = .returned (.agg #[.slice a s.d.length c]) ∧ Below w'.heap.size w' w'' ∧ w''.ownsRow w'.heap.size 52 4 (.slice a s.d.length c) s.d.length (flR s.d)) := fun w' hb => l9Copy_any a1 s.d.length c1 s.d w' rfl (by rw [← e1]; exact hv.d.below hb) (own_nil7 hnil e1) hB.d
  have hne10 : ¬ 10 ≤ ((s.h.length : Nat) : Int) := by omega
  have hwr : IntKind.i64.wrap (((s.h.length : Nat) : Int) + 1) = ((s.h.length : Nat) : Int) + 1 := by rw [IntKind.wrap_i64]; omega
  obtain ⟨x, hx⟩ : ∃ x, x = clH R s := ⟨_, rfl⟩
  have HXX : Hid (x = clH R s) := hx
  rw [← hx] at HHF
  unfold hdV at HHF
  have hpl := hB.p
  obtain ⟨hgl, k0, k1, k2, k3, k4, k5⟩ := hsW
  have t0 := After.cell k0
  have t2 := After.cell k2
  have t4 := After.cell k4
  have hneW := After.ne W
  rw [e1] at t2 k2
  rw [e2] at k3
  rw [e3] at t4 k4
  rw [e4] at k5
  unfold stV at hC
  rw [e1, e2, e3, e4] at hC
  have HW : Hid (w.alloc (.cells #[.int .i64 0, .int .i64 0, .int .i64 0, .slice none 0 0, .slice none 0 0, .slice none 0 0, .slice none 0 0] 40) = W) := hW.symm
  rw [hW] at k0 k1 k2 k3 k4 k5
  have hgw : g < w.heap.size := hs.lt
  have HBW : Hid (Below w.heap.size w W) := hBW
  have HLT : Hid (w.heap.size < W.heap.size) := hLW
  have HR : Hid (∀ w', Below W.heap.size W w' → w'.heap[w.heap.size]? = some (.cells #[.int .i64 0, .int .i64 0, .int .i64 0, .slice none 0 0, .slice none 0 0, .slice none 0 0, .slice none 0 0] 40)) := fun w' hb => (hb.block _ hLW).trans hRW
  have hp0 : Hid (s.h.length ≤ 10) := hlen
  clear hv hso hB hs hW hR h hRW hLW hBW hok hHR hx hlen h1 hnil e1 e2 e3 e4
  go_enter Tryz.func30, Tryz.ntmps30
  go_wp2_with fail
  rw [HW.out]
  refine hC.mono ?_
  rintro e w2 ⟨u, us, rfl, h2⟩
  clear hC k0 k1 k2 k3 k4 k5 HW
  have HA2 : Hid (SaAns W s u us w2) := h2
  obtain ⟨b1, d1, f1⟩ := h2.sts.d.shape
  obtain ⟨b2, d2, f2⟩ := h2.sts.n.shape
  obtain ⟨b3, d3, f3⟩ := h2.sts.h.shape
  obtain ⟨b4, d4, f4⟩ := h2.sts.p.shape
  have hU : u = ⟨.slice b1 s.d.length d1, .slice b2 s.n.length d2, .slice b3 s.h.length d3, .slice b4 s.p.length d4⟩ := (by cases u; simp only at f1 f2 f3 f4; rw [f1, f2, f3, f4])
  rw [f1, f2, f3, f4]
  subst hU
  clear f1 f2 f3 f4 h2
  obtain ⟨W3, hW3⟩ : ∃ W3, W3 = w2.alloc (.cells #[.int .i64 s.ph, .int .i64 s.cu, .slice b1 s.d.length d1, .slice b2 s.n.length d2, .slice b3 s.h.length d3, .slice b4 s.p.length d4] 38) := ⟨_, rfl⟩
  have HX3 : Bxd W.heap.size W3 w2.heap.size s.ph s.cu ⟨.slice b1 s.d.length d1, .slice b2 s.n.length d2, .slice b3 s.h.length d3, .slice b4 s.p.length d4⟩ us s := by rw [hW3]; exact Bxd.new HA2.out.own HA2.out.below.size (Nat.le_refl _) s.ph s.cu
  have HW3 : Hid (w2.alloc (.cells #[.int .i64 s.ph, .int .i64 s.cu, .slice b1 s.d.length d1, .slice b2 s.n.length d2, .slice b3 s.h.length d3, .slice b4 s.p.length d4] 38) = W3) := hW3.symm
  have hb3 : Below W.heap.size W W3 := by rw [hW3]; exact below_after_of HA2.out.below (one_new _)
  have HBX : Hid (W.heap.size ≤ w2.heap.size) := HA2.out.below.size
  have hLA := HLA.out W3 hb3
  clear hW3 HA2
  go_upto_region 4 with fail
  rw [HW3.out]
  clear HW3
  generalize w2.heap.size = bx at *
  clear w2
  go_wp2_with fail
  refine hLA.mono ?_
  rintro e w4 ⟨rfl, hb4⟩
  clear hLA
  have hcur : Below W.heap.size W w4 := below_after_of hb3 hb4
  have HX0 := HX3.below hb4
  clear HX3 hb3 hb4 HLA HC
  have HLO : Hid (w.heap.size < W.heap.size) := HLT.out
  have HBK : Hid (w.heap.size ≤ w.heap.size) := Nat.le_refl _
  have HLX : Hid (W.heap.size ≤ bx) := HBX.out
  have HNE : Hid (¬ w.heap.size = bx ∧ ¬ bx = w.heap.size) := (by have := HLX.out; have := HLT.out; omega : ¬ w.heap.size = bx ∧ ¬ bx = w.heap.size)
  obtain ⟨lo, hlo⟩ : ∃ lo, lo = W.heap.size := ⟨_, rfl⟩
  have HWLO : Hid (W.heap.size ≤ lo) := Nat.le_of_eq hlo.symm
  rw [← hlo] at HX0 HLO
  clear hlo
  have HT : Hid (∀ (u : Sv) (us : List Value) (w' : World), Below w.heap.size w w' → StOwn w.heap.size w'.heap.size w' u us ⟨s.ph, s.cu, s.d, s.n, s.h ++ [x], s.p ++ [s.d]⟩ → StAns w 0 (clT R s) (.returned (.agg #[.int .i64 0, .int .i64 s.ph, .int .i64 s.cu, u.d, u.n, u.h, u.p])) w') := fun u us w' hb ho => by
    rw [HXX.out] at ho
    exact HT.out u us w' hb ho
  clear HXX HBX hne10
  have hlen := hp0.out
  go_upto_region 5 with fail
  obtain ⟨iN, hiN, hzN0, hzN1, hzN2⟩ := info_parts Tryz.infoHd
  have HLO2 : Hid (lo ≤ w4.drew.heap.size) := Nat.le_trans HX0.lt.1 (Nat.le_of_lt HX0.lt.2)
  have HBV : Hid (Below W.heap.size W w4.drew) := hcur.drew
  have HS : Hid (∀ w', Below w4.drew.heap.size w4.drew w' → w'.ownsRow lo 88 5 (.slice b3 s.h.length d3) s.h.length (flH s.h)) := fun w' hb => by
    have h9 := (HX0.below (Below.refl _ _).drew).below hb
    exact h9.own.own (hRow (.slice b3 s.h.length d3) s.h) (by simp [sRows])
  have HNB : Hid (∀ y, (Value.slice b3 s.h.length d3).ownBlock = some y → W.heap.size ≤ y) := fun y hy => Nat.le_trans HWLO.out ((HS.out _ (Below.refl _ _)).lt y hy).1
  have hHF := HHF
  clear HHF
  obtain ⟨V0, hV0⟩ : ∃ V0, V0 = w4 := ⟨_, rfl⟩
  rw [← hV0] at HX0 hcur HLO2 HBV HS ⊢
  clear hV0
  refine wp_region_held_drew (S := fun w' => ∃ n : After W, w' = n.w) (by kernel_rfl) (after_mk hcur.drew) (fun hHeld => ?_)
  have hcur := hcur.drew
  have HX0 := HX0.below (Below.refl _ _).drew
  have hbx := Below.refl V0.drew.heap.size V0.drew
  generalize V0.drew = V1 at *
  refine h_take (i := 0) (d := (some 22)) (v := ?vgh1) (by rfl) (by kernel_rfl) (by kernel_rfl) (by kernel_rfl) (fun _ _ _ h => h) (by rfl) ?hygh1 hHeld ?restgh1
  case hygh1 =>
    intro o ho
    simp only [List.getElem?_toArray, List.getElem?_cons_zero, Option.some.injEq] at ho
    subst ho
    rintro _ ⟨nw, rfl⟩
    first | (go_simp; done) | (go_simp; with_reducible rfl)
  try simp only [Act.put, List.setIfInBounds_toArray, List.set_cons_zero, List.set_cons_succ]
  refine h_take (i := 2) (d := (some 24)) (v := ?vgh2) (by rfl) (by kernel_rfl) (by kernel_rfl) (by kernel_rfl) (fun _ _ _ h => h) (by rfl) ?hygh2 hHeld ?restgh2
  case hygh2 =>
    intro o ho
    simp only [List.getElem?_toArray, List.getElem?_cons_succ, List.getElem?_cons_zero, Option.some.injEq] at ho
    subst ho
    rintro _ ⟨nw, rfl⟩
    first | (go_simp; done) | (go_simp; with_reducible rfl)
  try simp only [Act.put, List.setIfInBounds_toArray, List.set_cons_zero, List.set_cons_succ]
  refine h_take (i := 3) (d := (some 25)) (v := ?vgh3) (by rfl) (by kernel_rfl) (by kernel_rfl) (by kernel_rfl) (fun _ _ _ h => h) (by rfl) ?hygh3 hHeld ?restgh3
  case hygh3 =>
    intro o ho
    simp only [List.getElem?_toArray, List.getElem?_cons_succ, List.getElem?_cons_zero, Option.some.injEq] at ho
    subst ho
    rintro _ ⟨nw, rfl⟩
    first | (go_simp; done) | (go_simp; with_reducible rfl)
  try simp only [Act.put, List.setIfInBounds_toArray, List.set_cons_zero, List.set_cons_succ]
  refine h_take (i := 4) (d := (some 26)) (v := ?vgh4) (by rfl) (by kernel_rfl) (by kernel_rfl) (by kernel_rfl) (fun _ _ _ h => h) (by rfl) ?hygh4 hHeld ?restgh4
  case hygh4 =>
    intro o ho
    simp only [List.getElem?_toArray, List.getElem?_cons_succ, List.getElem?_cons_zero, Option.some.injEq] at ho
    subst ho
    rintro _ ⟨nw, rfl⟩
    first | (go_simp; done) | (go_simp; with_reducible rfl)
  try simp only [Act.put, List.setIfInBounds_toArray, List.set_cons_zero, List.set_cons_succ]
  refine h_take (i := 5) (d := (some 27)) (v := ?vgh5) (by rfl) (by kernel_rfl) (by kernel_rfl) (by kernel_rfl) (fun _ _ _ h => h) (by rfl) ?hygh5 hHeld ?restgh5
  case hygh5 =>
    intro o ho
    simp only [List.getElem?_toArray, List.getElem?_cons_succ, List.getElem?_cons_zero, Option.some.injEq] at ho
    subst ho
    rintro _ ⟨nw, rfl⟩
    first | (go_simp; done) | (go_simp; with_reducible rfl)
  try simp only [Act.put, List.setIfInBounds_toArray, List.set_cons_zero, List.set_cons_succ]
  refine h_take (i := 6) (d := (some 28)) (v := ?vgh6) (by rfl) (by kernel_rfl) (by kernel_rfl) (by kernel_rfl) (fun _ _ _ h => h) (by rfl) ?hygh6 hHeld ?restgh6
  case hygh6 =>
    intro o ho
    simp only [List.getElem?_toArray, List.getElem?_cons_succ, List.getElem?_cons_zero, Option.some.injEq] at ho
    subst ho
    rintro _ ⟨nw, rfl⟩
    first | (go_simp; done) | (go_simp; with_reducible rfl)
  try simp only [Act.put, List.setIfInBounds_toArray, List.set_cons_zero, List.set_cons_succ]
  refine h_take (i := 7) (d := (some 29)) (v := ?vgh7) (by rfl) (by kernel_rfl) (by kernel_rfl) (by kernel_rfl) (fun _ _ _ h => h) (by rfl) ?hygh7 hHeld ?restgh7
  case hygh7 =>
    intro o ho
    simp only [List.getElem?_toArray, List.getElem?_cons_succ, List.getElem?_cons_zero, Option.some.injEq] at ho
    subst ho
    rintro _ ⟨nw, rfl⟩
    first | (go_simp; done) | (go_simp; with_reducible rfl)
  try simp only [Act.put, List.setIfInBounds_toArray, List.set_cons_zero, List.set_cons_succ]
  refine h_take (i := 8) (d := (some 30)) (v := ?vgh8) (by rfl) (by kernel_rfl) (by kernel_rfl) (by kernel_rfl) (fun _ _ _ h => h) (by rfl) ?hygh8 hHeld ?restgh8
  case hygh8 =>
    intro o ho
    simp only [List.getElem?_toArray, List.getElem?_cons_succ, List.getElem?_cons_zero, Option.some.injEq] at ho
    subst ho
    rintro _ ⟨nw, rfl⟩
    first | (go_simp; done) | (go_simp; with_reducible rfl)
  try simp only [Act.put, List.setIfInBounds_toArray, List.set_cons_zero, List.set_cons_succ]
  refine h_take (i := 9) (d := (some 31)) (v := ?vgh9) (by rfl) (by kernel_rfl) (by kernel_rfl) (by kernel_rfl) (fun _ _ _ h => h) (by rfl) ?hygh9 hHeld ?restgh9
  case hygh9 =>
    intro o ho
    simp only [List.getElem?_toArray, List.getElem?_cons_succ, List.getElem?_cons_zero, Option.some.injEq] at ho
    subst ho
    rintro _ ⟨nw, rfl⟩
    first | (go_simp; done) | (go_simp; with_reducible rfl)
  try simp only [Act.put, List.setIfInBounds_toArray, List.set_cons_zero, List.set_cons_succ]
  refine h_take (i := 10) (d := (some 32)) (v := ?vgh10) (by rfl) (by kernel_rfl) (by kernel_rfl) (by kernel_rfl) (fun _ _ _ h => h) (by rfl) ?hygh10 hHeld ?restgh10
  case hygh10 =>
    intro o ho
    simp only [List.getElem?_toArray, List.getElem?_cons_succ, List.getElem?_cons_zero, Option.some.injEq] at ho
    subst ho
    rintro _ ⟨nw, rfl⟩
    first | (go_simp; done) | (go_simp; with_reducible rfl)
  try simp only [Act.put, List.setIfInBounds_toArray, List.set_cons_zero, List.set_cons_succ]
  refine h_take (i := 11) (d := (some 33)) (v := ?vgh11) (by rfl) (by kernel_rfl) (by kernel_rfl) (by kernel_rfl) (fun _ _ _ h => h) (by rfl) ?hygh11 hHeld ?restgh11
  case hygh11 =>
    intro o ho
    simp only [List.getElem?_toArray, List.getElem?_cons_succ, List.getElem?_cons_zero, Option.some.injEq] at ho
    subst ho
    rintro _ ⟨nw, rfl⟩
    first | (go_simp; done) | (go_simp; with_reducible rfl)
  try simp only [Act.put, List.setIfInBounds_toArray, List.set_cons_zero, List.set_cons_succ]
  refine h_take (i := 12) (d := (some 34)) (v := ?vgh12) (by rfl) (by kernel_rfl) (by kernel_rfl) (by kernel_rfl) (fun _ _ _ h => h) (by rfl) ?hygh12 hHeld ?restgh12
  case hygh12 =>
    intro o ho
    simp only [List.getElem?_toArray, List.getElem?_cons_succ, List.getElem?_cons_zero, Option.some.injEq] at ho
    subst ho
    rintro _ ⟨nw, rfl⟩
    first | (go_simp; done) | (go_simp; with_reducible rfl)
  try simp only [Act.put, List.setIfInBounds_toArray, List.set_cons_zero, List.set_cons_succ]
  refine h_take (i := 13) (d := (some 35)) (v := ?vgh13) (by rfl) (by kernel_rfl) (by kernel_rfl) (by kernel_rfl) (fun _ _ _ h => h) (by rfl) ?hygh13 hHeld ?restgh13
  case hygh13 =>
    intro o ho
    simp only [List.getElem?_toArray, List.getElem?_cons_succ, List.getElem?_cons_zero, Option.some.injEq] at ho
    subst ho
    rintro _ ⟨nw, rfl⟩
    first | (go_simp; done) | (go_simp; with_reducible rfl)
  try simp only [Act.put, List.setIfInBounds_toArray, List.set_cons_zero, List.set_cons_succ]
  refine h_take (i := 14) (d := (some 36)) (v := ?vgh14) (by rfl) (by kernel_rfl) (by kernel_rfl) (by kernel_rfl) (fun _ _ _ h => h) (by rfl) ?hygh14 hHeld ?restgh14
  case hygh14 =>
    intro o ho
    simp only [List.getElem?_toArray, List.getElem?_cons_succ, List.getElem?_cons_zero, Option.some.injEq] at ho
    subst ho
    rintro _ ⟨nw, rfl⟩
    first | (go_simp; done) | (go_simp; with_reducible rfl)
  try simp only [Act.put, List.setIfInBounds_toArray, List.set_cons_zero, List.set_cons_succ]
  refine h_take (i := 15) (d := (some 37)) (v := ?vgh15) (by rfl) (by kernel_rfl) (by kernel_rfl) (by kernel_rfl) (fun _ _ _ h => h) (by rfl) ?hygh15 hHeld ?restgh15
  case hygh15 =>
    intro o ho
    simp only [List.getElem?_toArray, List.getElem?_cons_succ, List.getElem?_cons_zero, Option.some.injEq] at ho
    subst ho
    rintro _ ⟨nw, rfl⟩
    first | (go_simp; done) | (go_simp; with_reducible rfl)
  try simp only [Act.put, List.setIfInBounds_toArray, List.set_cons_zero, List.set_cons_succ]
  refine wpAnyH_ready (rs := [1, 16]) (by kernel_rfl) (by simp) ?_
  refine AllReadyH.cons rfl (fun K hK => ?_) (AllReadyH.cons rfl (fun K hK => ?_) AllReadyH.nil)
  · have f1 := (HX0.below hbx).cells.1.2.2.2.2.1
    go_simp
    refine hK.out _ _ (after_mk hcur) (fun hHeld => ?_)
    clear hK K
    try simp only [Act.put, List.setIfInBounds_toArray, List.set_cons_zero, List.set_cons_succ]
    clear f1
    refine wpAnyH_ready (rs := [16]) (by kernel_rfl) (by simp) ?_
    refine AllReadyH.cons rfl (fun K hK => ?_) AllReadyH.nil
    go_simp
    refine (hHF.out _ (below_after_of HBV.out hbx)).mono ?_
    rintro e w5 ⟨rfl, hb5⟩
    have hbx : Below V1.heap.size V1 w5 := below_after_of hbx hb5
    have hcur := below_after_of hcur hb5
    clear hb5
    refine hK.out _ _ (after_mk hcur) (fun hHeld => ?_)
    clear hK K
    try simp only [Act.put, List.setIfInBounds_toArray, List.set_cons_zero, List.set_cons_succ]
    refine wpAnyH_ready (rs := [17]) (by kernel_rfl) (by simp) ?_
    refine AllReadyH.cons rfl (fun K hK => ?_) AllReadyH.nil
    go_simp
    have hbx := hbx.alloc hbx.size (.cells #[.int .i64 x.e, .int .i64 x.p, .int .i64 x.o, .int .i64 x.n, .int .i64 x.v] 88)
    have hcur := hcur.alloc hcur.size (.cells #[.int .i64 x.e, .int .i64 x.p, .int .i64 x.o, .int .i64 x.n, .int .i64 x.v] 88)
    refine hK.out _ _ (after_mk hcur) (fun hHeld => ?_)
    clear hK K
    try simp only [Act.put, List.setIfInBounds_toArray, List.set_cons_zero, List.set_cons_succ]
    refine wpAnyH_ready (rs := [18]) (by kernel_rfl) (by simp) ?_
    refine AllReadyH.cons rfl (fun K hK => ?_) AllReadyH.nil
    refine step_append_lies _ (by rfl) _ _ _ (by rfl) lo 88 iN _ 5 40 Tryz.underlying35 hiN hzN0 hzN1 hzN2 rfl (by omega) (.slice b3 s.h.length d3) s.h.length (flH s.h) (by rfl) (HS.out _ hbx) ⟨_, 0, none⟩ 1 1 [.int .i64 x.e, .int .i64 x.p, .int .i64 x.o, .int .i64 x.n, .int .i64 x.v] (by rfl) (by rfl) (World.news_of_block (heap_alloc_new _ _)) (by intro u hu; simp only [List.mem_cons, List.not_mem_nil, or_false] at hu; rcases hu with rfl | rfl | rfl | rfl | rfl <;> rfl) (by omega) (by unfold maxLen; omega) (by omega) (Nat.le_trans HLO2.out hbx.size) _ rfl ?_
    intro gN cN wN oN grN bkN ltN
    have hcur := hcur.grown grN hcur.size (fun x hx => HNB.out x hx)
    refine hK.out _ _ (after_mk hcur) (fun hHeld => ?_)
    clear hK K
    try simp only [Act.put, List.setIfInBounds_toArray]
    refine h_take (i := 19) (d := (some 41)) (v := ?vgh16) (by rfl) (by kernel_rfl) (by kernel_rfl) (by kernel_rfl) (fun _ _ _ h => h) (by rfl) ?hygh16 hHeld ?restgh16
    case hygh16 =>
      intro o ho
      simp only [List.getElem?_toArray, List.getElem?_cons_succ, List.getElem?_cons_zero, Option.some.injEq] at ho
      subst ho
      rintro _ ⟨nw, rfl⟩
      first | (go_simp; done) | (go_simp; with_reducible rfl)
    try simp only [Act.put]
    obtain ⟨⟨eN, fN⟩, HX2⟩ := Bxd.heads (HX0.below hbx) x (Nat.le_trans HLO2.out hbx.size) oN grN bkN
    refine wpAnyH_ready (rs := [20]) (by kernel_rfl) (by simp) ?_
    refine AllReadyH.cons rfl (fun K hK => ?_) AllReadyH.nil
    have hcur := hcur.setCell (p := ⟨bx, 4, none⟩) HLX.out (.slice (some ⟨gN, 0, none⟩) (s.h.length + 1) cN)
    go_simp
    refine hK.out _ _ (after_mk hcur) (fun hHeld => ?_)
    clear hK K
    skip
    refine wpAnyH_done (by kernel_rfl) ?_ _
    obtain ⟨g7, hg7⟩ : ∃ g7, g7 = gN := ⟨_, rfl⟩
    obtain ⟨c7, hc7⟩ : ∃ c7, c7 = cN := ⟨_, rfl⟩
    obtain ⟨V0, hV0⟩ : ∃ V0, V0 = wN.setCell ⟨bx, 4, none⟩ (.slice (some ⟨gN, 0, none⟩) (s.h.length + 1) cN) := ⟨_, rfl⟩
    have HV0 : Hid (wN.setCell ⟨bx, 4, none⟩ (.slice (some ⟨gN, 0, none⟩) (s.h.length + 1) cN) = V0) := hV0.symm
    rw [← hV0] at HX2 hcur
    rw [← hg7, ← hc7] at HX2
    clear hV0 oN grN bkN ltN HX0 hbx hHeld HS HNB HLO2 HBV hHF eN fN hiN hzN0 hzN1 hzN2 iN
    have HX0 : Bxd lo V0 bx s.ph s.cu ⟨.slice b1 s.d.length d1, .slice b2 s.n.length d2, .slice (some ⟨g7, 0, none⟩) (s.h.length + 1) c7, .slice b4 s.p.length d4⟩ us ⟨s.ph, s.cu, s.d, s.n, s.h ++ [x], s.p⟩ := HX2
    clear HX2
    go_upto_region 6 with fail
    rw [HV0.out]
    clear HV0 hg7 hc7
    obtain ⟨iN, hiN, hzN0, hzN1, hzN2⟩ := info_parts Tryz.infoDi
    have HLO2 : Hid (lo ≤ V0.drew.heap.size) := Nat.le_trans HX0.lt.1 (Nat.le_of_lt HX0.lt.2)
    have HLO3 : Hid (lo ≤ V0.drew.heap.size) := HLO2.out
    have HBV : Hid (Below w.heap.size w V0.drew) := below_after_of HBW.out hcur.drew
    have HS : Hid (∀ w', Below V0.drew.heap.size V0.drew w' → w'.ownsRow lo 33 1 (.slice b4 s.p.length d4) s.p.length us) := fun w' hb => by
      have h9 := (HX0.below (Below.refl _ _).drew).below hb
      have h8 := h9.own.own (oRow (.slice b4 s.p.length d4) us) (by simp [sRows])
      have h8 : w'.ownsRow lo 33 1 (.slice b4 s.p.length d4) us.length us := h8
      have e9 : us.length = s.p.length := HX0.len
      rw [e9] at h8
      exact h8
    have HNB : Hid (∀ y, (Value.slice b4 s.p.length d4).ownBlock = some y → W.heap.size ≤ y) := fun y hy => Nat.le_trans HWLO.out ((HS.out _ (Below.refl _ _)).lt y hy).1
    refine wp_region_held_drew (S := fun w' => ∃ n : After W, w' = n.w) (by kernel_rfl) (after_mk hcur.drew) (fun hHeld => ?_)
    have hcur := hcur.drew
    have HX0 := HX0.below (Below.refl _ _).drew
    have hbx := Below.refl V0.drew.heap.size V0.drew
    generalize V0.drew = V1 at *
    refine h_take (i := 0) (d := (some 42)) (v := ?vgp1_1) (by rfl) (by kernel_rfl) (by kernel_rfl) (by kernel_rfl) (fun _ _ _ h => h) (by rfl) ?hygp1_1 hHeld ?restgp1_1
    case hygp1_1 =>
      intro o ho
      simp only [List.getElem?_toArray, List.getElem?_cons_zero, Option.some.injEq] at ho
      subst ho
      rintro _ ⟨nw, rfl⟩
      first | (go_simp; done) | (go_simp; with_reducible rfl)
    try simp only [Act.put, List.setIfInBounds_toArray, List.set_cons_zero, List.set_cons_succ]
    refine h_take (i := 2) (d := (some 44)) (v := ?vgp1_2) (by rfl) (by kernel_rfl) (by kernel_rfl) (by kernel_rfl) (fun _ _ _ h => h) (by rfl) ?hygp1_2 hHeld ?restgp1_2
    case hygp1_2 =>
      intro o ho
      simp only [List.getElem?_toArray, List.getElem?_cons_succ, List.getElem?_cons_zero, Option.some.injEq] at ho
      subst ho
      rintro _ ⟨nw, rfl⟩
      first | (go_simp; done) | (go_simp; with_reducible rfl)
    try simp only [Act.put, List.setIfInBounds_toArray, List.set_cons_zero, List.set_cons_succ]
    refine h_take (i := 3) (d := (some 45)) (v := ?vgp1_3) (by rfl) (by kernel_rfl) (by kernel_rfl) (by kernel_rfl) (fun _ _ _ h => h) (by rfl) ?hygp1_3 hHeld ?restgp1_3
    case hygp1_3 =>
      intro o ho
      simp only [List.getElem?_toArray, List.getElem?_cons_succ, List.getElem?_cons_zero, Option.some.injEq] at ho
      subst ho
      rintro _ ⟨nw, rfl⟩
      first | (go_simp; done) | (go_simp; with_reducible rfl)
    try simp only [Act.put, List.setIfInBounds_toArray, List.set_cons_zero, List.set_cons_succ]
    refine h_take (i := 4) (d := (some 46)) (v := ?vgp1_4) (by rfl) (by kernel_rfl) (by kernel_rfl) (by kernel_rfl) (fun _ _ _ h => h) (by rfl) ?hygp1_4 hHeld ?restgp1_4
    case hygp1_4 =>
      intro o ho
      simp only [List.getElem?_toArray, List.getElem?_cons_succ, List.getElem?_cons_zero, Option.some.injEq] at ho
      subst ho
      rintro _ ⟨nw, rfl⟩
      first | (go_simp; done) | (go_simp; with_reducible rfl)
    try simp only [Act.put, List.setIfInBounds_toArray, List.set_cons_zero, List.set_cons_succ]
    refine h_take (i := 5) (d := (some 47)) (v := ?vgp1_5) (by rfl) (by kernel_rfl) (by kernel_rfl) (by kernel_rfl) (fun _ _ _ h => h) (by rfl) ?hygp1_5 hHeld ?restgp1_5
    case hygp1_5 =>
      intro o ho
      simp only [List.getElem?_toArray, List.getElem?_cons_succ, List.getElem?_cons_zero, Option.some.injEq] at ho
      subst ho
      rintro _ ⟨nw, rfl⟩
      first | (go_simp; done) | (go_simp; with_reducible rfl)
    try simp only [Act.put, List.setIfInBounds_toArray, List.set_cons_zero, List.set_cons_succ]
    refine wpAnyH_ready (rs := [1, 6]) (by kernel_rfl) (by simp) ?_
    refine AllReadyH.cons rfl (fun K hK => ?_) (AllReadyH.cons rfl (fun K hK => ?_) AllReadyH.nil)
    · have f1 := (HX0.below hbx).cells.1.2.2.2.2.2
      go_simp
      refine hK.out _ _ (after_mk hcur) (fun hHeld => ?_)
      clear hK K
      try simp only [Act.put, List.setIfInBounds_toArray, List.set_cons_zero, List.set_cons_succ]
      clear f1
      refine wpAnyH_ready (rs := [6]) (by kernel_rfl) (by simp) ?_
      refine AllReadyH.cons rfl (fun K hK => ?_) AllReadyH.nil
      go_simp
      refine (HCALL.out _ (below_after_of HBV.out hbx)).mono ?_
      rintro e w5 ⟨zz, kk, rfl, hb5, o5⟩
      have HV5 : Hid (V1.heap.size ≤ w5.heap.size ∧ w5.ownsRow V1.heap.size 52 4 (.slice zz s.d.length kk) s.d.length (flR s.d)) := ⟨hb5.size, o5⟩
      have hb5w : Below V1.heap.size V1 w5 := hb5
      have hbx : Below V1.heap.size V1 w5 := below_after_of hbx hb5
      have hcur := below_after_of hcur hb5
      clear hb5 o5
      refine hK.out _ _ (after_mk hcur) (fun hHeld => ?_)
      clear hK K
      try simp only [Act.put, List.setIfInBounds_toArray, List.set_cons_zero, List.set_cons_succ]
      refine wpAnyH_ready (rs := [7]) (by kernel_rfl) (by simp) ?_
      refine AllReadyH.cons rfl (fun K hK => ?_) AllReadyH.nil
      go_simp
      have hbx := hbx.alloc hbx.size (.cells #[.slice zz s.d.length kk] 33)
      have hcur := hcur.alloc hcur.size (.cells #[.slice zz s.d.length kk] 33)
      refine hK.out _ _ (after_mk hcur) (fun hHeld => ?_)
      clear hK K
      try simp only [Act.put, List.setIfInBounds_toArray, List.set_cons_zero, List.set_cons_succ]
      refine wpAnyH_ready (rs := [8]) (by kernel_rfl) (by simp) ?_
      refine AllReadyH.cons rfl (fun K hK => ?_) AllReadyH.nil
      refine step_append_lies _ (by rfl) _ _ _ (by rfl) lo 33 iN _ 1 24 Tryz.underlying36 hiN hzN0 hzN1 hzN2 rfl (by omega) (.slice b4 s.p.length d4) s.p.length (us) (by rfl) (HS.out _ hbx) ⟨w5.heap.size, 0, none⟩ 1 1 [.slice zz s.d.length kk] (by rfl) (by rfl) (World.news_of_block (heap_alloc_new _ _)) (by intro u hu; rw [List.mem_singleton] at hu; subst hu; rfl) (by omega) (by unfold maxLen; omega) (by omega) (Nat.le_trans HLO2.out hbx.size) _ rfl ?_
      intro gN cN wN oN grN bkN ltN
      have hcur := hcur.grown grN hcur.size (fun x hx => HNB.out x hx)
      refine hK.out _ _ (after_mk hcur) (fun hHeld => ?_)
      clear hK K
      try simp only [Act.put, List.setIfInBounds_toArray]
      refine h_take (i := 9) (d := (some 51)) (v := ?vgp1_6) (by rfl) (by kernel_rfl) (by kernel_rfl) (by kernel_rfl) (fun _ _ _ h => h) (by rfl) ?hygp1_6 hHeld ?restgp1_6
      case hygp1_6 =>
        intro o ho
        simp only [List.getElem?_toArray, List.getElem?_cons_succ, List.getElem?_cons_zero, Option.some.injEq] at ho
        subst ho
        rintro _ ⟨nw, rfl⟩
        first | (go_simp; done) | (go_simp; with_reducible rfl)
      try simp only [Act.put]
      obtain ⟨⟨eN, fN⟩, HX2⟩ := Bxd.past HX0 hb5w (Nat.le_refl _) HV5.out.1 (.slice zz s.d.length kk) s.d HV5.out.2 (one_new (.cells #[.slice zz s.d.length kk] 33)) HLO3.out oN grN bkN
      clear HV5
      refine wpAnyH_ready (rs := [10]) (by kernel_rfl) (by simp) ?_
      refine AllReadyH.cons rfl (fun K hK => ?_) AllReadyH.nil
      have hcur := hcur.setCell (p := ⟨bx, 5, none⟩) HLX.out (.slice (some ⟨gN, 0, none⟩) (s.p.length + 1) cN)
      go_simp
      refine hK.out _ _ (after_mk hcur) (fun hHeld => ?_)
      clear hK K
      skip
      refine wpAnyH_done (by kernel_rfl) ?_ _
      have hst := HX2.st
      have hcc := HX2.cells.1
      obtain ⟨y0, y1, y2, y3, y4, y5⟩ := hcc
      dsimp only at y0 y1 y2 y3 y4 y5
      obtain ⟨⟨q0, q1, q2, q3, q4, q5, q6⟩, g0, g1, g2, g3, g4, g5, g6⟩ := seven_cellsR (HR.out _ hcur)
      have HP : Hid (∀ x0 x1 x2 x3 x4 x5 x6 : Value, _) := (st_putC (w := w) (b := w.heap.size) hst (below_after_of HBW.out hcur) HBK.out HLO.out)
      have hn1 : ¬ w.heap.size = bx := HNE.out.1
      have hn2 : ¬ bx = w.heap.size := HNE.out.2
      clear HX2 hst hcur hbx HX0 hHeld HR HBW HS HNB eN fN oN grN bkN HCALL
      go_wp2
      refine bodyPost_ret (v := .agg #[.int .i64 0, .int .i64 s.ph, .int .i64 s.cu, .slice b1 s.d.length d1, .slice b2 s.n.length d2, .slice (some ⟨g7, 0, none⟩) (s.h.length + 1) c7, .slice (some ⟨gN, 0, none⟩) (s.p.length + 1) cN]) (by simp [results, Tryz.results30, go_sem, q0, q1, q2, q3, q4, q5, q6]) rfl ?_
      refine HT.out _ _ _ (HP.out _ _ _ _ _ _ _).1 (HP.out _ _ _ _ _ _ _).2
    · go_simp
      refine (HCALL.out _ (below_after_of HBV.out hbx)).mono ?_
      rintro e w5 ⟨zz, kk, rfl, hb5, o5⟩
      have HV5 : Hid (V1.heap.size ≤ w5.heap.size ∧ w5.ownsRow V1.heap.size 52 4 (.slice zz s.d.length kk) s.d.length (flR s.d)) := ⟨hb5.size, o5⟩
      have hb5w : Below V1.heap.size V1 w5 := hb5
      have hbx : Below V1.heap.size V1 w5 := below_after_of hbx hb5
      have hcur := below_after_of hcur hb5
      clear hb5 o5
      refine hK.out _ _ (after_mk hcur) (fun hHeld => ?_)
      clear hK K
      try simp only [Act.put, List.setIfInBounds_toArray, List.set_cons_zero, List.set_cons_succ]
      refine wpAnyH_ready (rs := [1, 7]) (by kernel_rfl) (by simp) ?_
      refine AllReadyH.cons rfl (fun K hK => ?_) (AllReadyH.cons rfl (fun K hK => ?_) AllReadyH.nil)
      · have f1 := (HX0.below hbx).cells.1.2.2.2.2.2
        go_simp
        refine hK.out _ _ (after_mk hcur) (fun hHeld => ?_)
        clear hK K
        try simp only [Act.put, List.setIfInBounds_toArray, List.set_cons_zero, List.set_cons_succ]
        clear f1
        refine wpAnyH_ready (rs := [7]) (by kernel_rfl) (by simp) ?_
        refine AllReadyH.cons rfl (fun K hK => ?_) AllReadyH.nil
        go_simp
        have hbx := hbx.alloc hbx.size (.cells #[.slice zz s.d.length kk] 33)
        have hcur := hcur.alloc hcur.size (.cells #[.slice zz s.d.length kk] 33)
        refine hK.out _ _ (after_mk hcur) (fun hHeld => ?_)
        clear hK K
        try simp only [Act.put, List.setIfInBounds_toArray, List.set_cons_zero, List.set_cons_succ]
        refine wpAnyH_ready (rs := [8]) (by kernel_rfl) (by simp) ?_
        refine AllReadyH.cons rfl (fun K hK => ?_) AllReadyH.nil
        refine step_append_lies _ (by rfl) _ _ _ (by rfl) lo 33 iN _ 1 24 Tryz.underlying36 hiN hzN0 hzN1 hzN2 rfl (by omega) (.slice b4 s.p.length d4) s.p.length (us) (by rfl) (HS.out _ hbx) ⟨w5.heap.size, 0, none⟩ 1 1 [.slice zz s.d.length kk] (by rfl) (by rfl) (World.news_of_block (heap_alloc_new _ _)) (by intro u hu; rw [List.mem_singleton] at hu; subst hu; rfl) (by omega) (by unfold maxLen; omega) (by omega) (Nat.le_trans HLO2.out hbx.size) _ rfl ?_
        intro gN cN wN oN grN bkN ltN
        have hcur := hcur.grown grN hcur.size (fun x hx => HNB.out x hx)
        refine hK.out _ _ (after_mk hcur) (fun hHeld => ?_)
        clear hK K
        try simp only [Act.put, List.setIfInBounds_toArray]
        refine h_take (i := 9) (d := (some 51)) (v := ?vgp1_7) (by rfl) (by kernel_rfl) (by kernel_rfl) (by kernel_rfl) (fun _ _ _ h => h) (by rfl) ?hygp1_7 hHeld ?restgp1_7
        case hygp1_7 =>
          intro o ho
          simp only [List.getElem?_toArray, List.getElem?_cons_succ, List.getElem?_cons_zero, Option.some.injEq] at ho
          subst ho
          rintro _ ⟨nw, rfl⟩
          first | (go_simp; done) | (go_simp; with_reducible rfl)
        try simp only [Act.put]
        obtain ⟨⟨eN, fN⟩, HX2⟩ := Bxd.past HX0 hb5w (Nat.le_refl _) HV5.out.1 (.slice zz s.d.length kk) s.d HV5.out.2 (one_new (.cells #[.slice zz s.d.length kk] 33)) HLO3.out oN grN bkN
        clear HV5
        refine wpAnyH_ready (rs := [10]) (by kernel_rfl) (by simp) ?_
        refine AllReadyH.cons rfl (fun K hK => ?_) AllReadyH.nil
        have hcur := hcur.setCell (p := ⟨bx, 5, none⟩) HLX.out (.slice (some ⟨gN, 0, none⟩) (s.p.length + 1) cN)
        go_simp
        refine hK.out _ _ (after_mk hcur) (fun hHeld => ?_)
        clear hK K
        skip
        refine wpAnyH_done (by kernel_rfl) ?_ _
        have hst := HX2.st
        have hcc := HX2.cells.1
        obtain ⟨y0, y1, y2, y3, y4, y5⟩ := hcc
        dsimp only at y0 y1 y2 y3 y4 y5
        obtain ⟨⟨q0, q1, q2, q3, q4, q5, q6⟩, g0, g1, g2, g3, g4, g5, g6⟩ := seven_cellsR (HR.out _ hcur)
        have HP : Hid (∀ x0 x1 x2 x3 x4 x5 x6 : Value, _) := (st_putC (w := w) (b := w.heap.size) hst (below_after_of HBW.out hcur) HBK.out HLO.out)
        have hn1 : ¬ w.heap.size = bx := HNE.out.1
        have hn2 : ¬ bx = w.heap.size := HNE.out.2
        clear HX2 hst hcur hbx HX0 hHeld HR HBW HS HNB eN fN oN grN bkN HCALL
        go_wp2
        refine bodyPost_ret (v := .agg #[.int .i64 0, .int .i64 s.ph, .int .i64 s.cu, .slice b1 s.d.length d1, .slice b2 s.n.length d2, .slice (some ⟨g7, 0, none⟩) (s.h.length + 1) c7, .slice (some ⟨gN, 0, none⟩) (s.p.length + 1) cN]) (by simp [results, Tryz.results30, go_sem, q0, q1, q2, q3, q4, q5, q6]) rfl ?_
        refine HT.out _ _ _ (HP.out _ _ _ _ _ _ _).1 (HP.out _ _ _ _ _ _ _).2
      · go_simp
        have hbx := hbx.alloc hbx.size (.cells #[.slice zz s.d.length kk] 33)
        have hcur := hcur.alloc hcur.size (.cells #[.slice zz s.d.length kk] 33)
        refine hK.out _ _ (after_mk hcur) (fun hHeld => ?_)
        clear hK K
        try simp only [Act.put, List.setIfInBounds_toArray, List.set_cons_zero, List.set_cons_succ]
        refine wpAnyH_ready (rs := [1]) (by kernel_rfl) (by simp) ?_
        refine AllReadyH.cons rfl (fun K hK => ?_) AllReadyH.nil
        have f1 := (HX0.below hbx).cells.1.2.2.2.2.2
        go_simp
        refine hK.out _ _ (after_mk hcur) (fun hHeld => ?_)
        clear hK K
        try simp only [Act.put, List.setIfInBounds_toArray, List.set_cons_zero, List.set_cons_succ]
        clear f1
        refine wpAnyH_ready (rs := [8]) (by kernel_rfl) (by simp) ?_
        refine AllReadyH.cons rfl (fun K hK => ?_) AllReadyH.nil
        refine step_append_lies _ (by rfl) _ _ _ (by rfl) lo 33 iN _ 1 24 Tryz.underlying36 hiN hzN0 hzN1 hzN2 rfl (by omega) (.slice b4 s.p.length d4) s.p.length (us) (by rfl) (HS.out _ hbx) ⟨w5.heap.size, 0, none⟩ 1 1 [.slice zz s.d.length kk] (by rfl) (by rfl) (World.news_of_block (heap_alloc_new _ _)) (by intro u hu; rw [List.mem_singleton] at hu; subst hu; rfl) (by omega) (by unfold maxLen; omega) (by omega) (Nat.le_trans HLO2.out hbx.size) _ rfl ?_
        intro gN cN wN oN grN bkN ltN
        have hcur := hcur.grown grN hcur.size (fun x hx => HNB.out x hx)
        refine hK.out _ _ (after_mk hcur) (fun hHeld => ?_)
        clear hK K
        try simp only [Act.put, List.setIfInBounds_toArray]
        refine h_take (i := 9) (d := (some 51)) (v := ?vgp1_8) (by rfl) (by kernel_rfl) (by kernel_rfl) (by kernel_rfl) (fun _ _ _ h => h) (by rfl) ?hygp1_8 hHeld ?restgp1_8
        case hygp1_8 =>
          intro o ho
          simp only [List.getElem?_toArray, List.getElem?_cons_succ, List.getElem?_cons_zero, Option.some.injEq] at ho
          subst ho
          rintro _ ⟨nw, rfl⟩
          first | (go_simp; done) | (go_simp; with_reducible rfl)
        try simp only [Act.put]
        obtain ⟨⟨eN, fN⟩, HX2⟩ := Bxd.past HX0 hb5w (Nat.le_refl _) HV5.out.1 (.slice zz s.d.length kk) s.d HV5.out.2 (one_new (.cells #[.slice zz s.d.length kk] 33)) HLO3.out oN grN bkN
        clear HV5
        refine wpAnyH_ready (rs := [10]) (by kernel_rfl) (by simp) ?_
        refine AllReadyH.cons rfl (fun K hK => ?_) AllReadyH.nil
        have hcur := hcur.setCell (p := ⟨bx, 5, none⟩) HLX.out (.slice (some ⟨gN, 0, none⟩) (s.p.length + 1) cN)
        go_simp
        refine hK.out _ _ (after_mk hcur) (fun hHeld => ?_)
        clear hK K
        skip
        refine wpAnyH_done (by kernel_rfl) ?_ _
        have hst := HX2.st
        have hcc := HX2.cells.1
        obtain ⟨y0, y1, y2, y3, y4, y5⟩ := hcc
        dsimp only at y0 y1 y2 y3 y4 y5
        obtain ⟨⟨q0, q1, q2, q3, q4, q5, q6⟩, g0, g1, g2, g3, g4, g5, g6⟩ := seven_cellsR (HR.out _ hcur)
        have HP : Hid (∀ x0 x1 x2 x3 x4 x5 x6 : Value, _) := (st_putC (w := w) (b := w.heap.size) hst (below_after_of HBW.out hcur) HBK.out HLO.out)
        have hn1 : ¬ w.heap.size = bx := HNE.out.1
        have hn2 : ¬ bx = w.heap.size := HNE.out.2
        clear HX2 hst hcur hbx HX0 hHeld HR HBW HS HNB eN fN oN grN bkN HCALL
        go_wp2
        refine bodyPost_ret (v := .agg #[.int .i64 0, .int .i64 s.ph, .int .i64 s.cu, .slice b1 s.d.length d1, .slice b2 s.n.length d2, .slice (some ⟨g7, 0, none⟩) (s.h.length + 1) c7, .slice (some ⟨gN, 0, none⟩) (s.p.length + 1) cN]) (by simp [results, Tryz.results30, go_sem, q0, q1, q2, q3, q4, q5, q6]) rfl ?_
        refine HT.out _ _ _ (HP.out _ _ _ _ _ _ _).1 (HP.out _ _ _ _ _ _ _).2
  · go_simp
    refine (hHF.out _ (below_after_of HBV.out hbx)).mono ?_
    rintro e w5 ⟨rfl, hb5⟩
    have hbx : Below V1.heap.size V1 w5 := below_after_of hbx hb5
    have hcur := below_after_of hcur hb5
    clear hb5
    refine hK.out _ _ (after_mk hcur) (fun hHeld => ?_)
    clear hK K
    try simp only [Act.put, List.setIfInBounds_toArray, List.set_cons_zero, List.set_cons_succ]
    refine wpAnyH_ready (rs := [1, 17]) (by kernel_rfl) (by simp) ?_
    refine AllReadyH.cons rfl (fun K hK => ?_) (AllReadyH.cons rfl (fun K hK => ?_) AllReadyH.nil)
    · have f1 := (HX0.below hbx).cells.1.2.2.2.2.1
      go_simp
      refine hK.out _ _ (after_mk hcur) (fun hHeld => ?_)
      clear hK K
      try simp only [Act.put, List.setIfInBounds_toArray, List.set_cons_zero, List.set_cons_succ]
      clear f1
      refine wpAnyH_ready (rs := [17]) (by kernel_rfl) (by simp) ?_
      refine AllReadyH.cons rfl (fun K hK => ?_) AllReadyH.nil
      go_simp
      have hbx := hbx.alloc hbx.size (.cells #[.int .i64 x.e, .int .i64 x.p, .int .i64 x.o, .int .i64 x.n, .int .i64 x.v] 88)
      have hcur := hcur.alloc hcur.size (.cells #[.int .i64 x.e, .int .i64 x.p, .int .i64 x.o, .int .i64 x.n, .int .i64 x.v] 88)
      refine hK.out _ _ (after_mk hcur) (fun hHeld => ?_)
      clear hK K
      try simp only [Act.put, List.setIfInBounds_toArray, List.set_cons_zero, List.set_cons_succ]
      refine wpAnyH_ready (rs := [18]) (by kernel_rfl) (by simp) ?_
      refine AllReadyH.cons rfl (fun K hK => ?_) AllReadyH.nil
      refine step_append_lies _ (by rfl) _ _ _ (by rfl) lo 88 iN _ 5 40 Tryz.underlying35 hiN hzN0 hzN1 hzN2 rfl (by omega) (.slice b3 s.h.length d3) s.h.length (flH s.h) (by rfl) (HS.out _ hbx) ⟨_, 0, none⟩ 1 1 [.int .i64 x.e, .int .i64 x.p, .int .i64 x.o, .int .i64 x.n, .int .i64 x.v] (by rfl) (by rfl) (World.news_of_block (heap_alloc_new _ _)) (by intro u hu; simp only [List.mem_cons, List.not_mem_nil, or_false] at hu; rcases hu with rfl | rfl | rfl | rfl | rfl <;> rfl) (by omega) (by unfold maxLen; omega) (by omega) (Nat.le_trans HLO2.out hbx.size) _ rfl ?_
      intro gN cN wN oN grN bkN ltN
      have hcur := hcur.grown grN hcur.size (fun x hx => HNB.out x hx)
      refine hK.out _ _ (after_mk hcur) (fun hHeld => ?_)
      clear hK K
      try simp only [Act.put, List.setIfInBounds_toArray]
      refine h_take (i := 19) (d := (some 41)) (v := ?vgh17) (by rfl) (by kernel_rfl) (by kernel_rfl) (by kernel_rfl) (fun _ _ _ h => h) (by rfl) ?hygh17 hHeld ?restgh17
      case hygh17 =>
        intro o ho
        simp only [List.getElem?_toArray, List.getElem?_cons_succ, List.getElem?_cons_zero, Option.some.injEq] at ho
        subst ho
        rintro _ ⟨nw, rfl⟩
        first | (go_simp; done) | (go_simp; with_reducible rfl)
      try simp only [Act.put]
      obtain ⟨⟨eN, fN⟩, HX2⟩ := Bxd.heads (HX0.below hbx) x (Nat.le_trans HLO2.out hbx.size) oN grN bkN
      refine wpAnyH_ready (rs := [20]) (by kernel_rfl) (by simp) ?_
      refine AllReadyH.cons rfl (fun K hK => ?_) AllReadyH.nil
      have hcur := hcur.setCell (p := ⟨bx, 4, none⟩) HLX.out (.slice (some ⟨gN, 0, none⟩) (s.h.length + 1) cN)
      go_simp
      refine hK.out _ _ (after_mk hcur) (fun hHeld => ?_)
      clear hK K
      skip
      refine wpAnyH_done (by kernel_rfl) ?_ _
      obtain ⟨g7, hg7⟩ : ∃ g7, g7 = gN := ⟨_, rfl⟩
      obtain ⟨c7, hc7⟩ : ∃ c7, c7 = cN := ⟨_, rfl⟩
      obtain ⟨V0, hV0⟩ : ∃ V0, V0 = wN.setCell ⟨bx, 4, none⟩ (.slice (some ⟨gN, 0, none⟩) (s.h.length + 1) cN) := ⟨_, rfl⟩
      have HV0 : Hid (wN.setCell ⟨bx, 4, none⟩ (.slice (some ⟨gN, 0, none⟩) (s.h.length + 1) cN) = V0) := hV0.symm
      rw [← hV0] at HX2 hcur
      rw [← hg7, ← hc7] at HX2
      clear hV0 oN grN bkN ltN HX0 hbx hHeld HS HNB HLO2 HBV hHF eN fN hiN hzN0 hzN1 hzN2 iN
      have HX0 : Bxd lo V0 bx s.ph s.cu ⟨.slice b1 s.d.length d1, .slice b2 s.n.length d2, .slice (some ⟨g7, 0, none⟩) (s.h.length + 1) c7, .slice b4 s.p.length d4⟩ us ⟨s.ph, s.cu, s.d, s.n, s.h ++ [x], s.p⟩ := HX2
      clear HX2
      go_upto_region 6 with fail
      rw [HV0.out]
      clear HV0 hg7 hc7
      obtain ⟨iN, hiN, hzN0, hzN1, hzN2⟩ := info_parts Tryz.infoDi
      have HLO2 : Hid (lo ≤ V0.drew.heap.size) := Nat.le_trans HX0.lt.1 (Nat.le_of_lt HX0.lt.2)
      have HLO3 : Hid (lo ≤ V0.drew.heap.size) := HLO2.out
      have HBV : Hid (Below w.heap.size w V0.drew) := below_after_of HBW.out hcur.drew
      have HS : Hid (∀ w', Below V0.drew.heap.size V0.drew w' → w'.ownsRow lo 33 1 (.slice b4 s.p.length d4) s.p.length us) := fun w' hb => by
        have h9 := (HX0.below (Below.refl _ _).drew).below hb
        have h8 := h9.own.own (oRow (.slice b4 s.p.length d4) us) (by simp [sRows])
        have h8 : w'.ownsRow lo 33 1 (.slice b4 s.p.length d4) us.length us := h8
        have e9 : us.length = s.p.length := HX0.len
        rw [e9] at h8
        exact h8
      have HNB : Hid (∀ y, (Value.slice b4 s.p.length d4).ownBlock = some y → W.heap.size ≤ y) := fun y hy => Nat.le_trans HWLO.out ((HS.out _ (Below.refl _ _)).lt y hy).1
      refine wp_region_held_drew (S := fun w' => ∃ n : After W, w' = n.w) (by kernel_rfl) (after_mk hcur.drew) (fun hHeld => ?_)
      have hcur := hcur.drew
      have HX0 := HX0.below (Below.refl _ _).drew
      have hbx := Below.refl V0.drew.heap.size V0.drew
      generalize V0.drew = V1 at *
      refine h_take (i := 0) (d := (some 42)) (v := ?vgp2_1) (by rfl) (by kernel_rfl) (by kernel_rfl) (by kernel_rfl) (fun _ _ _ h => h) (by rfl) ?hygp2_1 hHeld ?restgp2_1
      case hygp2_1 =>
        intro o ho
        simp only [List.getElem?_toArray, List.getElem?_cons_zero, Option.some.injEq] at ho
        subst ho
        rintro _ ⟨nw, rfl⟩
        first | (go_simp; done) | (go_simp; with_reducible rfl)
      try simp only [Act.put, List.setIfInBounds_toArray, List.set_cons_zero, List.set_cons_succ]
      refine h_take (i := 2) (d := (some 44)) (v := ?vgp2_2) (by rfl) (by kernel_rfl) (by kernel_rfl) (by kernel_rfl) (fun _ _ _ h => h) (by rfl) ?hygp2_2 hHeld ?restgp2_2
      case hygp2_2 =>
        intro o ho
        simp only [List.getElem?_toArray, List.getElem?_cons_succ, List.getElem?_cons_zero, Option.some.injEq] at ho
        subst ho
        rintro _ ⟨nw, rfl⟩
        first | (go_simp; done) | (go_simp; with_reducible rfl)
      try simp only [Act.put, List.setIfInBounds_toArray, List.set_cons_zero, List.set_cons_succ]
      refine h_take (i := 3) (d := (some 45)) (v := ?vgp2_3) (by rfl) (by kernel_rfl) (by kernel_rfl) (by kernel_rfl) (fun _ _ _ h => h) (by rfl) ?hygp2_3 hHeld ?restgp2_3
      case hygp2_3 =>
        intro o ho
        simp only [List.getElem?_toArray, List.getElem?_cons_succ, List.getElem?_cons_zero, Option.some.injEq] at ho
        subst ho
        rintro _ ⟨nw, rfl⟩
        first | (go_simp; done) | (go_simp; with_reducible rfl)
      try simp only [Act.put, List.setIfInBounds_toArray, List.set_cons_zero, List.set_cons_succ]
      refine h_take (i := 4) (d := (some 46)) (v := ?vgp2_4) (by rfl) (by kernel_rfl) (by kernel_rfl) (by kernel_rfl) (fun _ _ _ h => h) (by rfl) ?hygp2_4 hHeld ?restgp2_4
      case hygp2_4 =>
        intro o ho
        simp only [List.getElem?_toArray, List.getElem?_cons_succ, List.getElem?_cons_zero, Option.some.injEq] at ho
        subst ho
        rintro _ ⟨nw, rfl⟩
        first | (go_simp; done) | (go_simp; with_reducible rfl)
      try simp only [Act.put, List.setIfInBounds_toArray, List.set_cons_zero, List.set_cons_succ]
      refine h_take (i := 5) (d := (some 47)) (v := ?vgp2_5) (by rfl) (by kernel_rfl) (by kernel_rfl) (by kernel_rfl) (fun _ _ _ h => h) (by rfl) ?hygp2_5 hHeld ?restgp2_5
      case hygp2_5 =>
        intro o ho
        simp only [List.getElem?_toArray, List.getElem?_cons_succ, List.getElem?_cons_zero, Option.some.injEq] at ho
        subst ho
        rintro _ ⟨nw, rfl⟩
        first | (go_simp; done) | (go_simp; with_reducible rfl)
      try simp only [Act.put, List.setIfInBounds_toArray, List.set_cons_zero, List.set_cons_succ]
      refine wpAnyH_ready (rs := [1, 6]) (by kernel_rfl) (by simp) ?_
      refine AllReadyH.cons rfl (fun K hK => ?_) (AllReadyH.cons rfl (fun K hK => ?_) AllReadyH.nil)
      · have f1 := (HX0.below hbx).cells.1.2.2.2.2.2
        go_simp
        refine hK.out _ _ (after_mk hcur) (fun hHeld => ?_)
        clear hK K
        try simp only [Act.put, List.setIfInBounds_toArray, List.set_cons_zero, List.set_cons_succ]
        clear f1
        refine wpAnyH_ready (rs := [6]) (by kernel_rfl) (by simp) ?_
        refine AllReadyH.cons rfl (fun K hK => ?_) AllReadyH.nil
        go_simp
        refine (HCALL.out _ (below_after_of HBV.out hbx)).mono ?_
        rintro e w5 ⟨zz, kk, rfl, hb5, o5⟩
        have HV5 : Hid (V1.heap.size ≤ w5.heap.size ∧ w5.ownsRow V1.heap.size 52 4 (.slice zz s.d.length kk) s.d.length (flR s.d)) := ⟨hb5.size, o5⟩
        have hb5w : Below V1.heap.size V1 w5 := hb5
        have hbx : Below V1.heap.size V1 w5 := below_after_of hbx hb5
        have hcur := below_after_of hcur hb5
        clear hb5 o5
        refine hK.out _ _ (after_mk hcur) (fun hHeld => ?_)
        clear hK K
        try simp only [Act.put, List.setIfInBounds_toArray, List.set_cons_zero, List.set_cons_succ]
        refine wpAnyH_ready (rs := [7]) (by kernel_rfl) (by simp) ?_
        refine AllReadyH.cons rfl (fun K hK => ?_) AllReadyH.nil
        go_simp
        have hbx := hbx.alloc hbx.size (.cells #[.slice zz s.d.length kk] 33)
        have hcur := hcur.alloc hcur.size (.cells #[.slice zz s.d.length kk] 33)
        refine hK.out _ _ (after_mk hcur) (fun hHeld => ?_)
        clear hK K
        try simp only [Act.put, List.setIfInBounds_toArray, List.set_cons_zero, List.set_cons_succ]
        refine wpAnyH_ready (rs := [8]) (by kernel_rfl) (by simp) ?_
        refine AllReadyH.cons rfl (fun K hK => ?_) AllReadyH.nil
        refine step_append_lies _ (by rfl) _ _ _ (by rfl) lo 33 iN _ 1 24 Tryz.underlying36 hiN hzN0 hzN1 hzN2 rfl (by omega) (.slice b4 s.p.length d4) s.p.length (us) (by rfl) (HS.out _ hbx) ⟨w5.heap.size, 0, none⟩ 1 1 [.slice zz s.d.length kk] (by rfl) (by rfl) (World.news_of_block (heap_alloc_new _ _)) (by intro u hu; rw [List.mem_singleton] at hu; subst hu; rfl) (by omega) (by unfold maxLen; omega) (by omega) (Nat.le_trans HLO2.out hbx.size) _ rfl ?_
        intro gN cN wN oN grN bkN ltN
        have hcur := hcur.grown grN hcur.size (fun x hx => HNB.out x hx)
        refine hK.out _ _ (after_mk hcur) (fun hHeld => ?_)
        clear hK K
        try simp only [Act.put, List.setIfInBounds_toArray]
        refine h_take (i := 9) (d := (some 51)) (v := ?vgp2_6) (by rfl) (by kernel_rfl) (by kernel_rfl) (by kernel_rfl) (fun _ _ _ h => h) (by rfl) ?hygp2_6 hHeld ?restgp2_6
        case hygp2_6 =>
          intro o ho
          simp only [List.getElem?_toArray, List.getElem?_cons_succ, List.getElem?_cons_zero, Option.some.injEq] at ho
          subst ho
          rintro _ ⟨nw, rfl⟩
          first | (go_simp; done) | (go_simp; with_reducible rfl)
        try simp only [Act.put]
        obtain ⟨⟨eN, fN⟩, HX2⟩ := Bxd.past HX0 hb5w (Nat.le_refl _) HV5.out.1 (.slice zz s.d.length kk) s.d HV5.out.2 (one_new (.cells #[.slice zz s.d.length kk] 33)) HLO3.out oN grN bkN
        clear HV5
        refine wpAnyH_ready (rs := [10]) (by kernel_rfl) (by simp) ?_
        refine AllReadyH.cons rfl (fun K hK => ?_) AllReadyH.nil
        have hcur := hcur.setCell (p := ⟨bx, 5, none⟩) HLX.out (.slice (some ⟨gN, 0, none⟩) (s.p.length + 1) cN)
        go_simp
        refine hK.out _ _ (after_mk hcur) (fun hHeld => ?_)
        clear hK K
        skip
        refine wpAnyH_done (by kernel_rfl) ?_ _
        have hst := HX2.st
        have hcc := HX2.cells.1
        obtain ⟨y0, y1, y2, y3, y4, y5⟩ := hcc
        dsimp only at y0 y1 y2 y3 y4 y5
        obtain ⟨⟨q0, q1, q2, q3, q4, q5, q6⟩, g0, g1, g2, g3, g4, g5, g6⟩ := seven_cellsR (HR.out _ hcur)
        have HP : Hid (∀ x0 x1 x2 x3 x4 x5 x6 : Value, _) := (st_putC (w := w) (b := w.heap.size) hst (below_after_of HBW.out hcur) HBK.out HLO.out)
        have hn1 : ¬ w.heap.size = bx := HNE.out.1
        have hn2 : ¬ bx = w.heap.size := HNE.out.2
        clear HX2 hst hcur hbx HX0 hHeld HR HBW HS HNB eN fN oN grN bkN HCALL
        go_wp2
        refine bodyPost_ret (v := .agg #[.int .i64 0, .int .i64 s.ph, .int .i64 s.cu, .slice b1 s.d.length d1, .slice b2 s.n.length d2, .slice (some ⟨g7, 0, none⟩) (s.h.length + 1) c7, .slice (some ⟨gN, 0, none⟩) (s.p.length + 1) cN]) (by simp [results, Tryz.results30, go_sem, q0, q1, q2, q3, q4, q5, q6]) rfl ?_
        refine HT.out _ _ _ (HP.out _ _ _ _ _ _ _).1 (HP.out _ _ _ _ _ _ _).2
      · go_simp
        refine (HCALL.out _ (below_after_of HBV.out hbx)).mono ?_
        rintro e w5 ⟨zz, kk, rfl, hb5, o5⟩
        have HV5 : Hid (V1.heap.size ≤ w5.heap.size ∧ w5.ownsRow V1.heap.size 52 4 (.slice zz s.d.length kk) s.d.length (flR s.d)) := ⟨hb5.size, o5⟩
        have hb5w : Below V1.heap.size V1 w5 := hb5
        have hbx : Below V1.heap.size V1 w5 := below_after_of hbx hb5
        have hcur := below_after_of hcur hb5
        clear hb5 o5
        refine hK.out _ _ (after_mk hcur) (fun hHeld => ?_)
        clear hK K
        try simp only [Act.put, List.setIfInBounds_toArray, List.set_cons_zero, List.set_cons_succ]
        refine wpAnyH_ready (rs := [1, 7]) (by kernel_rfl) (by simp) ?_
        refine AllReadyH.cons rfl (fun K hK => ?_) (AllReadyH.cons rfl (fun K hK => ?_) AllReadyH.nil)
        · have f1 := (HX0.below hbx).cells.1.2.2.2.2.2
          go_simp
          refine hK.out _ _ (after_mk hcur) (fun hHeld => ?_)
          clear hK K
          try simp only [Act.put, List.setIfInBounds_toArray, List.set_cons_zero, List.set_cons_succ]
          clear f1
          refine wpAnyH_ready (rs := [7]) (by kernel_rfl) (by simp) ?_
          refine AllReadyH.cons rfl (fun K hK => ?_) AllReadyH.nil
          go_simp
          have hbx := hbx.alloc hbx.size (.cells #[.slice zz s.d.length kk] 33)
          have hcur := hcur.alloc hcur.size (.cells #[.slice zz s.d.length kk] 33)
          refine hK.out _ _ (after_mk hcur) (fun hHeld => ?_)
          clear hK K
          try simp only [Act.put, List.setIfInBounds_toArray, List.set_cons_zero, List.set_cons_succ]
          refine wpAnyH_ready (rs := [8]) (by kernel_rfl) (by simp) ?_
          refine AllReadyH.cons rfl (fun K hK => ?_) AllReadyH.nil
          refine step_append_lies _ (by rfl) _ _ _ (by rfl) lo 33 iN _ 1 24 Tryz.underlying36 hiN hzN0 hzN1 hzN2 rfl (by omega) (.slice b4 s.p.length d4) s.p.length (us) (by rfl) (HS.out _ hbx) ⟨w5.heap.size, 0, none⟩ 1 1 [.slice zz s.d.length kk] (by rfl) (by rfl) (World.news_of_block (heap_alloc_new _ _)) (by intro u hu; rw [List.mem_singleton] at hu; subst hu; rfl) (by omega) (by unfold maxLen; omega) (by omega) (Nat.le_trans HLO2.out hbx.size) _ rfl ?_
          intro gN cN wN oN grN bkN ltN
          have hcur := hcur.grown grN hcur.size (fun x hx => HNB.out x hx)
          refine hK.out _ _ (after_mk hcur) (fun hHeld => ?_)
          clear hK K
          try simp only [Act.put, List.setIfInBounds_toArray]
          refine h_take (i := 9) (d := (some 51)) (v := ?vgp2_7) (by rfl) (by kernel_rfl) (by kernel_rfl) (by kernel_rfl) (fun _ _ _ h => h) (by rfl) ?hygp2_7 hHeld ?restgp2_7
          case hygp2_7 =>
            intro o ho
            simp only [List.getElem?_toArray, List.getElem?_cons_succ, List.getElem?_cons_zero, Option.some.injEq] at ho
            subst ho
            rintro _ ⟨nw, rfl⟩
            first | (go_simp; done) | (go_simp; with_reducible rfl)
          try simp only [Act.put]
          obtain ⟨⟨eN, fN⟩, HX2⟩ := Bxd.past HX0 hb5w (Nat.le_refl _) HV5.out.1 (.slice zz s.d.length kk) s.d HV5.out.2 (one_new (.cells #[.slice zz s.d.length kk] 33)) HLO3.out oN grN bkN
          clear HV5
          refine wpAnyH_ready (rs := [10]) (by kernel_rfl) (by simp) ?_
          refine AllReadyH.cons rfl (fun K hK => ?_) AllReadyH.nil
          have hcur := hcur.setCell (p := ⟨bx, 5, none⟩) HLX.out (.slice (some ⟨gN, 0, none⟩) (s.p.length + 1) cN)
          go_simp
          refine hK.out _ _ (after_mk hcur) (fun hHeld => ?_)
          clear hK K
          skip
          refine wpAnyH_done (by kernel_rfl) ?_ _
          have hst := HX2.st
          have hcc := HX2.cells.1
          obtain ⟨y0, y1, y2, y3, y4, y5⟩ := hcc
          dsimp only at y0 y1 y2 y3 y4 y5
          obtain ⟨⟨q0, q1, q2, q3, q4, q5, q6⟩, g0, g1, g2, g3, g4, g5, g6⟩ := seven_cellsR (HR.out _ hcur)
          have HP : Hid (∀ x0 x1 x2 x3 x4 x5 x6 : Value, _) := (st_putC (w := w) (b := w.heap.size) hst (below_after_of HBW.out hcur) HBK.out HLO.out)
          have hn1 : ¬ w.heap.size = bx := HNE.out.1
          have hn2 : ¬ bx = w.heap.size := HNE.out.2
          clear HX2 hst hcur hbx HX0 hHeld HR HBW HS HNB eN fN oN grN bkN HCALL
          go_wp2
          refine bodyPost_ret (v := .agg #[.int .i64 0, .int .i64 s.ph, .int .i64 s.cu, .slice b1 s.d.length d1, .slice b2 s.n.length d2, .slice (some ⟨g7, 0, none⟩) (s.h.length + 1) c7, .slice (some ⟨gN, 0, none⟩) (s.p.length + 1) cN]) (by simp [results, Tryz.results30, go_sem, q0, q1, q2, q3, q4, q5, q6]) rfl ?_
          refine HT.out _ _ _ (HP.out _ _ _ _ _ _ _).1 (HP.out _ _ _ _ _ _ _).2
        · go_simp
          have hbx := hbx.alloc hbx.size (.cells #[.slice zz s.d.length kk] 33)
          have hcur := hcur.alloc hcur.size (.cells #[.slice zz s.d.length kk] 33)
          refine hK.out _ _ (after_mk hcur) (fun hHeld => ?_)
          clear hK K
          try simp only [Act.put, List.setIfInBounds_toArray, List.set_cons_zero, List.set_cons_succ]
          refine wpAnyH_ready (rs := [1]) (by kernel_rfl) (by simp) ?_
          refine AllReadyH.cons rfl (fun K hK => ?_) AllReadyH.nil
          have f1 := (HX0.below hbx).cells.1.2.2.2.2.2
          go_simp
          refine hK.out _ _ (after_mk hcur) (fun hHeld => ?_)
          clear hK K
          try simp only [Act.put, List.setIfInBounds_toArray, List.set_cons_zero, List.set_cons_succ]
          clear f1
          refine wpAnyH_ready (rs := [8]) (by kernel_rfl) (by simp) ?_
          refine AllReadyH.cons rfl (fun K hK => ?_) AllReadyH.nil
          refine step_append_lies _ (by rfl) _ _ _ (by rfl) lo 33 iN _ 1 24 Tryz.underlying36 hiN hzN0 hzN1 hzN2 rfl (by omega) (.slice b4 s.p.length d4) s.p.length (us) (by rfl) (HS.out _ hbx) ⟨w5.heap.size, 0, none⟩ 1 1 [.slice zz s.d.length kk] (by rfl) (by rfl) (World.news_of_block (heap_alloc_new _ _)) (by intro u hu; rw [List.mem_singleton] at hu; subst hu; rfl) (by omega) (by unfold maxLen; omega) (by omega) (Nat.le_trans HLO2.out hbx.size) _ rfl ?_
          intro gN cN wN oN grN bkN ltN
          have hcur := hcur.grown grN hcur.size (fun x hx => HNB.out x hx)
          refine hK.out _ _ (after_mk hcur) (fun hHeld => ?_)
          clear hK K
          try simp only [Act.put, List.setIfInBounds_toArray]
          refine h_take (i := 9) (d := (some 51)) (v := ?vgp2_8) (by rfl) (by kernel_rfl) (by kernel_rfl) (by kernel_rfl) (fun _ _ _ h => h) (by rfl) ?hygp2_8 hHeld ?restgp2_8
          case hygp2_8 =>
            intro o ho
            simp only [List.getElem?_toArray, List.getElem?_cons_succ, List.getElem?_cons_zero, Option.some.injEq] at ho
            subst ho
            rintro _ ⟨nw, rfl⟩
            first | (go_simp; done) | (go_simp; with_reducible rfl)
          try simp only [Act.put]
          obtain ⟨⟨eN, fN⟩, HX2⟩ := Bxd.past HX0 hb5w (Nat.le_refl _) HV5.out.1 (.slice zz s.d.length kk) s.d HV5.out.2 (one_new (.cells #[.slice zz s.d.length kk] 33)) HLO3.out oN grN bkN
          clear HV5
          refine wpAnyH_ready (rs := [10]) (by kernel_rfl) (by simp) ?_
          refine AllReadyH.cons rfl (fun K hK => ?_) AllReadyH.nil
          have hcur := hcur.setCell (p := ⟨bx, 5, none⟩) HLX.out (.slice (some ⟨gN, 0, none⟩) (s.p.length + 1) cN)
          go_simp
          refine hK.out _ _ (after_mk hcur) (fun hHeld => ?_)
          clear hK K
          skip
          refine wpAnyH_done (by kernel_rfl) ?_ _
          have hst := HX2.st
          have hcc := HX2.cells.1
          obtain ⟨y0, y1, y2, y3, y4, y5⟩ := hcc
          dsimp only at y0 y1 y2 y3 y4 y5
          obtain ⟨⟨q0, q1, q2, q3, q4, q5, q6⟩, g0, g1, g2, g3, g4, g5, g6⟩ := seven_cellsR (HR.out _ hcur)
          have HP : Hid (∀ x0 x1 x2 x3 x4 x5 x6 : Value, _) := (st_putC (w := w) (b := w.heap.size) hst (below_after_of HBW.out hcur) HBK.out HLO.out)
          have hn1 : ¬ w.heap.size = bx := HNE.out.1
          have hn2 : ¬ bx = w.heap.size := HNE.out.2
          clear HX2 hst hcur hbx HX0 hHeld HR HBW HS HNB eN fN oN grN bkN HCALL
          go_wp2
          refine bodyPost_ret (v := .agg #[.int .i64 0, .int .i64 s.ph, .int .i64 s.cu, .slice b1 s.d.length d1, .slice b2 s.n.length d2, .slice (some ⟨g7, 0, none⟩) (s.h.length + 1) c7, .slice (some ⟨gN, 0, none⟩) (s.p.length + 1) cN]) (by simp [results, Tryz.results30, go_sem, q0, q1, q2, q3, q4, q5, q6]) rfl ?_
          refine HT.out _ _ _ (HP.out _ _ _ _ _ _ _).1 (HP.out _ _ _ _ _ _ _).2
    · go_simp
      have hbx := hbx.alloc hbx.size (.cells #[.int .i64 x.e, .int .i64 x.p, .int .i64 x.o, .int .i64 x.n, .int .i64 x.v] 88)
      have hcur := hcur.alloc hcur.size (.cells #[.int .i64 x.e, .int .i64 x.p, .int .i64 x.o, .int .i64 x.n, .int .i64 x.v] 88)
      refine hK.out _ _ (after_mk hcur) (fun hHeld => ?_)
      clear hK K
      try simp only [Act.put, List.setIfInBounds_toArray, List.set_cons_zero, List.set_cons_succ]
      refine wpAnyH_ready (rs := [1]) (by kernel_rfl) (by simp) ?_
      refine AllReadyH.cons rfl (fun K hK => ?_) AllReadyH.nil
      have f1 := (HX0.below hbx).cells.1.2.2.2.2.1
      go_simp
      refine hK.out _ _ (after_mk hcur) (fun hHeld => ?_)
      clear hK K
      try simp only [Act.put, List.setIfInBounds_toArray, List.set_cons_zero, List.set_cons_succ]
      clear f1
      refine wpAnyH_ready (rs := [18]) (by kernel_rfl) (by simp) ?_
      refine AllReadyH.cons rfl (fun K hK => ?_) AllReadyH.nil
      refine step_append_lies _ (by rfl) _ _ _ (by rfl) lo 88 iN _ 5 40 Tryz.underlying35 hiN hzN0 hzN1 hzN2 rfl (by omega) (.slice b3 s.h.length d3) s.h.length (flH s.h) (by rfl) (HS.out _ hbx) ⟨_, 0, none⟩ 1 1 [.int .i64 x.e, .int .i64 x.p, .int .i64 x.o, .int .i64 x.n, .int .i64 x.v] (by rfl) (by rfl) (World.news_of_block (heap_alloc_new _ _)) (by intro u hu; simp only [List.mem_cons, List.not_mem_nil, or_false] at hu; rcases hu with rfl | rfl | rfl | rfl | rfl <;> rfl) (by omega) (by unfold maxLen; omega) (by omega) (Nat.le_trans HLO2.out hbx.size) _ rfl ?_
      intro gN cN wN oN grN bkN ltN
      have hcur := hcur.grown grN hcur.size (fun x hx => HNB.out x hx)
      refine hK.out _ _ (after_mk hcur) (fun hHeld => ?_)
      clear hK K
      try simp only [Act.put, List.setIfInBounds_toArray]
      refine h_take (i := 19) (d := (some 41)) (v := ?vgh18) (by rfl) (by kernel_rfl) (by kernel_rfl) (by kernel_rfl) (fun _ _ _ h => h) (by rfl) ?hygh18 hHeld ?restgh18
      case hygh18 =>
        intro o ho
        simp only [List.getElem?_toArray, List.getElem?_cons_succ, List.getElem?_cons_zero, Option.some.injEq] at ho
        subst ho
        rintro _ ⟨nw, rfl⟩
        first | (go_simp; done) | (go_simp; with_reducible rfl)
      try simp only [Act.put]
      obtain ⟨⟨eN, fN⟩, HX2⟩ := Bxd.heads (HX0.below hbx) x (Nat.le_trans HLO2.out hbx.size) oN grN bkN
      refine wpAnyH_ready (rs := [20]) (by kernel_rfl) (by simp) ?_
      refine AllReadyH.cons rfl (fun K hK => ?_) AllReadyH.nil
      have hcur := hcur.setCell (p := ⟨bx, 4, none⟩) HLX.out (.slice (some ⟨gN, 0, none⟩) (s.h.length + 1) cN)
      go_simp
      refine hK.out _ _ (after_mk hcur) (fun hHeld => ?_)
      clear hK K
      skip
      refine wpAnyH_done (by kernel_rfl) ?_ _
      obtain ⟨g7, hg7⟩ : ∃ g7, g7 = gN := ⟨_, rfl⟩
      obtain ⟨c7, hc7⟩ : ∃ c7, c7 = cN := ⟨_, rfl⟩
      obtain ⟨V0, hV0⟩ : ∃ V0, V0 = wN.setCell ⟨bx, 4, none⟩ (.slice (some ⟨gN, 0, none⟩) (s.h.length + 1) cN) := ⟨_, rfl⟩
      have HV0 : Hid (wN.setCell ⟨bx, 4, none⟩ (.slice (some ⟨gN, 0, none⟩) (s.h.length + 1) cN) = V0) := hV0.symm
      rw [← hV0] at HX2 hcur
      rw [← hg7, ← hc7] at HX2
      clear hV0 oN grN bkN ltN HX0 hbx hHeld HS HNB HLO2 HBV hHF eN fN hiN hzN0 hzN1 hzN2 iN
      have HX0 : Bxd lo V0 bx s.ph s.cu ⟨.slice b1 s.d.length d1, .slice b2 s.n.length d2, .slice (some ⟨g7, 0, none⟩) (s.h.length + 1) c7, .slice b4 s.p.length d4⟩ us ⟨s.ph, s.cu, s.d, s.n, s.h ++ [x], s.p⟩ := HX2
      clear HX2
      go_upto_region 6 with fail
      rw [HV0.out]
      clear HV0 hg7 hc7
      obtain ⟨iN, hiN, hzN0, hzN1, hzN2⟩ := info_parts Tryz.infoDi
      have HLO2 : Hid (lo ≤ V0.drew.heap.size) := Nat.le_trans HX0.lt.1 (Nat.le_of_lt HX0.lt.2)
      have HLO3 : Hid (lo ≤ V0.drew.heap.size) := HLO2.out
      have HBV : Hid (Below w.heap.size w V0.drew) := below_after_of HBW.out hcur.drew
      have HS : Hid (∀ w', Below V0.drew.heap.size V0.drew w' → w'.ownsRow lo 33 1 (.slice b4 s.p.length d4) s.p.length us) := fun w' hb => by
        have h9 := (HX0.below (Below.refl _ _).drew).below hb
        have h8 := h9.own.own (oRow (.slice b4 s.p.length d4) us) (by simp [sRows])
        have h8 : w'.ownsRow lo 33 1 (.slice b4 s.p.length d4) us.length us := h8
        have e9 : us.length = s.p.length := HX0.len
        rw [e9] at h8
        exact h8
      have HNB : Hid (∀ y, (Value.slice b4 s.p.length d4).ownBlock = some y → W.heap.size ≤ y) := fun y hy => Nat.le_trans HWLO.out ((HS.out _ (Below.refl _ _)).lt y hy).1
      refine wp_region_held_drew (S := fun w' => ∃ n : After W, w' = n.w) (by kernel_rfl) (after_mk hcur.drew) (fun hHeld => ?_)
      have hcur := hcur.drew
      have HX0 := HX0.below (Below.refl _ _).drew
      have hbx := Below.refl V0.drew.heap.size V0.drew
      generalize V0.drew = V1 at *
      refine h_take (i := 0) (d := (some 42)) (v := ?vgp3_1) (by rfl) (by kernel_rfl) (by kernel_rfl) (by kernel_rfl) (fun _ _ _ h => h) (by rfl) ?hygp3_1 hHeld ?restgp3_1
      case hygp3_1 =>
        intro o ho
        simp only [List.getElem?_toArray, List.getElem?_cons_zero, Option.some.injEq] at ho
        subst ho
        rintro _ ⟨nw, rfl⟩
        first | (go_simp; done) | (go_simp; with_reducible rfl)
      try simp only [Act.put, List.setIfInBounds_toArray, List.set_cons_zero, List.set_cons_succ]
      refine h_take (i := 2) (d := (some 44)) (v := ?vgp3_2) (by rfl) (by kernel_rfl) (by kernel_rfl) (by kernel_rfl) (fun _ _ _ h => h) (by rfl) ?hygp3_2 hHeld ?restgp3_2
      case hygp3_2 =>
        intro o ho
        simp only [List.getElem?_toArray, List.getElem?_cons_succ, List.getElem?_cons_zero, Option.some.injEq] at ho
        subst ho
        rintro _ ⟨nw, rfl⟩
        first | (go_simp; done) | (go_simp; with_reducible rfl)
      try simp only [Act.put, List.setIfInBounds_toArray, List.set_cons_zero, List.set_cons_succ]
      refine h_take (i := 3) (d := (some 45)) (v := ?vgp3_3) (by rfl) (by kernel_rfl) (by kernel_rfl) (by kernel_rfl) (fun _ _ _ h => h) (by rfl) ?hygp3_3 hHeld ?restgp3_3
      case hygp3_3 =>
        intro o ho
        simp only [List.getElem?_toArray, List.getElem?_cons_succ, List.getElem?_cons_zero, Option.some.injEq] at ho
        subst ho
        rintro _ ⟨nw, rfl⟩
        first | (go_simp; done) | (go_simp; with_reducible rfl)
      try simp only [Act.put, List.setIfInBounds_toArray, List.set_cons_zero, List.set_cons_succ]
      refine h_take (i := 4) (d := (some 46)) (v := ?vgp3_4) (by rfl) (by kernel_rfl) (by kernel_rfl) (by kernel_rfl) (fun _ _ _ h => h) (by rfl) ?hygp3_4 hHeld ?restgp3_4
      case hygp3_4 =>
        intro o ho
        simp only [List.getElem?_toArray, List.getElem?_cons_succ, List.getElem?_cons_zero, Option.some.injEq] at ho
        subst ho
        rintro _ ⟨nw, rfl⟩
        first | (go_simp; done) | (go_simp; with_reducible rfl)
      try simp only [Act.put, List.setIfInBounds_toArray, List.set_cons_zero, List.set_cons_succ]
      refine h_take (i := 5) (d := (some 47)) (v := ?vgp3_5) (by rfl) (by kernel_rfl) (by kernel_rfl) (by kernel_rfl) (fun _ _ _ h => h) (by rfl) ?hygp3_5 hHeld ?restgp3_5
      case hygp3_5 =>
        intro o ho
        simp only [List.getElem?_toArray, List.getElem?_cons_succ, List.getElem?_cons_zero, Option.some.injEq] at ho
        subst ho
        rintro _ ⟨nw, rfl⟩
        first | (go_simp; done) | (go_simp; with_reducible rfl)
      try simp only [Act.put, List.setIfInBounds_toArray, List.set_cons_zero, List.set_cons_succ]
      refine wpAnyH_ready (rs := [1, 6]) (by kernel_rfl) (by simp) ?_
      refine AllReadyH.cons rfl (fun K hK => ?_) (AllReadyH.cons rfl (fun K hK => ?_) AllReadyH.nil)
      · have f1 := (HX0.below hbx).cells.1.2.2.2.2.2
        go_simp
        refine hK.out _ _ (after_mk hcur) (fun hHeld => ?_)
        clear hK K
        try simp only [Act.put, List.setIfInBounds_toArray, List.set_cons_zero, List.set_cons_succ]
        clear f1
        refine wpAnyH_ready (rs := [6]) (by kernel_rfl) (by simp) ?_
        refine AllReadyH.cons rfl (fun K hK => ?_) AllReadyH.nil
        go_simp
        refine (HCALL.out _ (below_after_of HBV.out hbx)).mono ?_
        rintro e w5 ⟨zz, kk, rfl, hb5, o5⟩
        have HV5 : Hid (V1.heap.size ≤ w5.heap.size ∧ w5.ownsRow V1.heap.size 52 4 (.slice zz s.d.length kk) s.d.length (flR s.d)) := ⟨hb5.size, o5⟩
        have hb5w : Below V1.heap.size V1 w5 := hb5
        have hbx : Below V1.heap.size V1 w5 := below_after_of hbx hb5
        have hcur := below_after_of hcur hb5
        clear hb5 o5
        refine hK.out _ _ (after_mk hcur) (fun hHeld => ?_)
        clear hK K
        try simp only [Act.put, List.setIfInBounds_toArray, List.set_cons_zero, List.set_cons_succ]
        refine wpAnyH_ready (rs := [7]) (by kernel_rfl) (by simp) ?_
        refine AllReadyH.cons rfl (fun K hK => ?_) AllReadyH.nil
        go_simp
        have hbx := hbx.alloc hbx.size (.cells #[.slice zz s.d.length kk] 33)
        have hcur := hcur.alloc hcur.size (.cells #[.slice zz s.d.length kk] 33)
        refine hK.out _ _ (after_mk hcur) (fun hHeld => ?_)
        clear hK K
        try simp only [Act.put, List.setIfInBounds_toArray, List.set_cons_zero, List.set_cons_succ]
        refine wpAnyH_ready (rs := [8]) (by kernel_rfl) (by simp) ?_
        refine AllReadyH.cons rfl (fun K hK => ?_) AllReadyH.nil
        refine step_append_lies _ (by rfl) _ _ _ (by rfl) lo 33 iN _ 1 24 Tryz.underlying36 hiN hzN0 hzN1 hzN2 rfl (by omega) (.slice b4 s.p.length d4) s.p.length (us) (by rfl) (HS.out _ hbx) ⟨w5.heap.size, 0, none⟩ 1 1 [.slice zz s.d.length kk] (by rfl) (by rfl) (World.news_of_block (heap_alloc_new _ _)) (by intro u hu; rw [List.mem_singleton] at hu; subst hu; rfl) (by omega) (by unfold maxLen; omega) (by omega) (Nat.le_trans HLO2.out hbx.size) _ rfl ?_
        intro gN cN wN oN grN bkN ltN
        have hcur := hcur.grown grN hcur.size (fun x hx => HNB.out x hx)
        refine hK.out _ _ (after_mk hcur) (fun hHeld => ?_)
        clear hK K
        try simp only [Act.put, List.setIfInBounds_toArray]
        refine h_take (i := 9) (d := (some 51)) (v := ?vgp3_6) (by rfl) (by kernel_rfl) (by kernel_rfl) (by kernel_rfl) (fun _ _ _ h => h) (by rfl) ?hygp3_6 hHeld ?restgp3_6
        case hygp3_6 =>
          intro o ho
          simp only [List.getElem?_toArray, List.getElem?_cons_succ, List.getElem?_cons_zero, Option.some.injEq] at ho
          subst ho
          rintro _ ⟨nw, rfl⟩
          first | (go_simp; done) | (go_simp; with_reducible rfl)
        try simp only [Act.put]
        obtain ⟨⟨eN, fN⟩, HX2⟩ := Bxd.past HX0 hb5w (Nat.le_refl _) HV5.out.1 (.slice zz s.d.length kk) s.d HV5.out.2 (one_new (.cells #[.slice zz s.d.length kk] 33)) HLO3.out oN grN bkN
        clear HV5
        refine wpAnyH_ready (rs := [10]) (by kernel_rfl) (by simp) ?_
        refine AllReadyH.cons rfl (fun K hK => ?_) AllReadyH.nil
        have hcur := hcur.setCell (p := ⟨bx, 5, none⟩) HLX.out (.slice (some ⟨gN, 0, none⟩) (s.p.length + 1) cN)
        go_simp
        refine hK.out _ _ (after_mk hcur) (fun hHeld => ?_)
        clear hK K
        skip
        refine wpAnyH_done (by kernel_rfl) ?_ _
        have hst := HX2.st
        have hcc := HX2.cells.1
        obtain ⟨y0, y1, y2, y3, y4, y5⟩ := hcc
        dsimp only at y0 y1 y2 y3 y4 y5
        obtain ⟨⟨q0, q1, q2, q3, q4, q5, q6⟩, g0, g1, g2, g3, g4, g5, g6⟩ := seven_cellsR (HR.out _ hcur)
        have HP : Hid (∀ x0 x1 x2 x3 x4 x5 x6 : Value, _) := (st_putC (w := w) (b := w.heap.size) hst (below_after_of HBW.out hcur) HBK.out HLO.out)
        have hn1 : ¬ w.heap.size = bx := HNE.out.1
        have hn2 : ¬ bx = w.heap.size := HNE.out.2
        clear HX2 hst hcur hbx HX0 hHeld HR HBW HS HNB eN fN oN grN bkN HCALL
        go_wp2
        refine bodyPost_ret (v := .agg #[.int .i64 0, .int .i64 s.ph, .int .i64 s.cu, .slice b1 s.d.length d1, .slice b2 s.n.length d2, .slice (some ⟨g7, 0, none⟩) (s.h.length + 1) c7, .slice (some ⟨gN, 0, none⟩) (s.p.length + 1) cN]) (by simp [results, Tryz.results30, go_sem, q0, q1, q2, q3, q4, q5, q6]) rfl ?_
        refine HT.out _ _ _ (HP.out _ _ _ _ _ _ _).1 (HP.out _ _ _ _ _ _ _).2
      · go_simp
        refine (HCALL.out _ (below_after_of HBV.out hbx)).mono ?_
        rintro e w5 ⟨zz, kk, rfl, hb5, o5⟩
        have HV5 : Hid (V1.heap.size ≤ w5.heap.size ∧ w5.ownsRow V1.heap.size 52 4 (.slice zz s.d.length kk) s.d.length (flR s.d)) := ⟨hb5.size, o5⟩
        have hb5w : Below V1.heap.size V1 w5 := hb5
        have hbx : Below V1.heap.size V1 w5 := below_after_of hbx hb5
        have hcur := below_after_of hcur hb5
        clear hb5 o5
        refine hK.out _ _ (after_mk hcur) (fun hHeld => ?_)
        clear hK K
        try simp only [Act.put, List.setIfInBounds_toArray, List.set_cons_zero, List.set_cons_succ]
        refine wpAnyH_ready (rs := [1, 7]) (by kernel_rfl) (by simp) ?_
        refine AllReadyH.cons rfl (fun K hK => ?_) (AllReadyH.cons rfl (fun K hK => ?_) AllReadyH.nil)
        · have f1 := (HX0.below hbx).cells.1.2.2.2.2.2
          go_simp
          refine hK.out _ _ (after_mk hcur) (fun hHeld => ?_)
          clear hK K
          try simp only [Act.put, List.setIfInBounds_toArray, List.set_cons_zero, List.set_cons_succ]
          clear f1
          refine wpAnyH_ready (rs := [7]) (by kernel_rfl) (by simp) ?_
          refine AllReadyH.cons rfl (fun K hK => ?_) AllReadyH.nil
          go_simp
          have hbx := hbx.alloc hbx.size (.cells #[.slice zz s.d.length kk] 33)
          have hcur := hcur.alloc hcur.size (.cells #[.slice zz s.d.length kk] 33)
          refine hK.out _ _ (after_mk hcur) (fun hHeld => ?_)
          clear hK K
          try simp only [Act.put, List.setIfInBounds_toArray, List.set_cons_zero, List.set_cons_succ]
          refine wpAnyH_ready (rs := [8]) (by kernel_rfl) (by simp) ?_
          refine AllReadyH.cons rfl (fun K hK => ?_) AllReadyH.nil
          refine step_append_lies _ (by rfl) _ _ _ (by rfl) lo 33 iN _ 1 24 Tryz.underlying36 hiN hzN0 hzN1 hzN2 rfl (by omega) (.slice b4 s.p.length d4) s.p.length (us) (by rfl) (HS.out _ hbx) ⟨w5.heap.size, 0, none⟩ 1 1 [.slice zz s.d.length kk] (by rfl) (by rfl) (World.news_of_block (heap_alloc_new _ _)) (by intro u hu; rw [List.mem_singleton] at hu; subst hu; rfl) (by omega) (by unfold maxLen; omega) (by omega) (Nat.le_trans HLO2.out hbx.size) _ rfl ?_
          intro gN cN wN oN grN bkN ltN
          have hcur := hcur.grown grN hcur.size (fun x hx => HNB.out x hx)
          refine hK.out _ _ (after_mk hcur) (fun hHeld => ?_)
          clear hK K
          try simp only [Act.put, List.setIfInBounds_toArray]
          refine h_take (i := 9) (d := (some 51)) (v := ?vgp3_7) (by rfl) (by kernel_rfl) (by kernel_rfl) (by kernel_rfl) (fun _ _ _ h => h) (by rfl) ?hygp3_7 hHeld ?restgp3_7
          case hygp3_7 =>
            intro o ho
            simp only [List.getElem?_toArray, List.getElem?_cons_succ, List.getElem?_cons_zero, Option.some.injEq] at ho
            subst ho
            rintro _ ⟨nw, rfl⟩
            first | (go_simp; done) | (go_simp; with_reducible rfl)
          try simp only [Act.put]
          obtain ⟨⟨eN, fN⟩, HX2⟩ := Bxd.past HX0 hb5w (Nat.le_refl _) HV5.out.1 (.slice zz s.d.length kk) s.d HV5.out.2 (one_new (.cells #[.slice zz s.d.length kk] 33)) HLO3.out oN grN bkN
          clear HV5
          refine wpAnyH_ready (rs := [10]) (by kernel_rfl) (by simp) ?_
          refine AllReadyH.cons rfl (fun K hK => ?_) AllReadyH.nil
          have hcur := hcur.setCell (p := ⟨bx, 5, none⟩) HLX.out (.slice (some ⟨gN, 0, none⟩) (s.p.length + 1) cN)
          go_simp
          refine hK.out _ _ (after_mk hcur) (fun hHeld => ?_)
          clear hK K
          skip
          refine wpAnyH_done (by kernel_rfl) ?_ _
          have hst := HX2.st
          have hcc := HX2.cells.1
          obtain ⟨y0, y1, y2, y3, y4, y5⟩ := hcc
          dsimp only at y0 y1 y2 y3 y4 y5
          obtain ⟨⟨q0, q1, q2, q3, q4, q5, q6⟩, g0, g1, g2, g3, g4, g5, g6⟩ := seven_cellsR (HR.out _ hcur)
          have HP : Hid (∀ x0 x1 x2 x3 x4 x5 x6 : Value, _) := (st_putC (w := w) (b := w.heap.size) hst (below_after_of HBW.out hcur) HBK.out HLO.out)
          have hn1 : ¬ w.heap.size = bx := HNE.out.1
          have hn2 : ¬ bx = w.heap.size := HNE.out.2
          clear HX2 hst hcur hbx HX0 hHeld HR HBW HS HNB eN fN oN grN bkN HCALL
          go_wp2
          refine bodyPost_ret (v := .agg #[.int .i64 0, .int .i64 s.ph, .int .i64 s.cu, .slice b1 s.d.length d1, .slice b2 s.n.length d2, .slice (some ⟨g7, 0, none⟩) (s.h.length + 1) c7, .slice (some ⟨gN, 0, none⟩) (s.p.length + 1) cN]) (by simp [results, Tryz.results30, go_sem, q0, q1, q2, q3, q4, q5, q6]) rfl ?_
          refine HT.out _ _ _ (HP.out _ _ _ _ _ _ _).1 (HP.out _ _ _ _ _ _ _).2
        · go_simp
          have hbx := hbx.alloc hbx.size (.cells #[.slice zz s.d.length kk] 33)
          have hcur := hcur.alloc hcur.size (.cells #[.slice zz s.d.length kk] 33)
          refine hK.out _ _ (after_mk hcur) (fun hHeld => ?_)
          clear hK K
          try simp only [Act.put, List.setIfInBounds_toArray, List.set_cons_zero, List.set_cons_succ]
          refine wpAnyH_ready (rs := [1]) (by kernel_rfl) (by simp) ?_
          refine AllReadyH.cons rfl (fun K hK => ?_) AllReadyH.nil
          have f1 := (HX0.below hbx).cells.1.2.2.2.2.2
          go_simp
          refine hK.out _ _ (after_mk hcur) (fun hHeld => ?_)
          clear hK K
          try simp only [Act.put, List.setIfInBounds_toArray, List.set_cons_zero, List.set_cons_succ]
          clear f1
          refine wpAnyH_ready (rs := [8]) (by kernel_rfl) (by simp) ?_
          refine AllReadyH.cons rfl (fun K hK => ?_) AllReadyH.nil
          refine step_append_lies _ (by rfl) _ _ _ (by rfl) lo 33 iN _ 1 24 Tryz.underlying36 hiN hzN0 hzN1 hzN2 rfl (by omega) (.slice b4 s.p.length d4) s.p.length (us) (by rfl) (HS.out _ hbx) ⟨w5.heap.size, 0, none⟩ 1 1 [.slice zz s.d.length kk] (by rfl) (by rfl) (World.news_of_block (heap_alloc_new _ _)) (by intro u hu; rw [List.mem_singleton] at hu; subst hu; rfl) (by omega) (by unfold maxLen; omega) (by omega) (Nat.le_trans HLO2.out hbx.size) _ rfl ?_
          intro gN cN wN oN grN bkN ltN
          have hcur := hcur.grown grN hcur.size (fun x hx => HNB.out x hx)
          refine hK.out _ _ (after_mk hcur) (fun hHeld => ?_)
          clear hK K
          try simp only [Act.put, List.setIfInBounds_toArray]
          refine h_take (i := 9) (d := (some 51)) (v := ?vgp3_8) (by rfl) (by kernel_rfl) (by kernel_rfl) (by kernel_rfl) (fun _ _ _ h => h) (by rfl) ?hygp3_8 hHeld ?restgp3_8
          case hygp3_8 =>
            intro o ho
            simp only [List.getElem?_toArray, List.getElem?_cons_succ, List.getElem?_cons_zero, Option.some.injEq] at ho
            subst ho
            rintro _ ⟨nw, rfl⟩
            first | (go_simp; done) | (go_simp; with_reducible rfl)
          try simp only [Act.put]
          obtain ⟨⟨eN, fN⟩, HX2⟩ := Bxd.past HX0 hb5w (Nat.le_refl _) HV5.out.1 (.slice zz s.d.length kk) s.d HV5.out.2 (one_new (.cells #[.slice zz s.d.length kk] 33)) HLO3.out oN grN bkN
          clear HV5
          refine wpAnyH_ready (rs := [10]) (by kernel_rfl) (by simp) ?_
          refine AllReadyH.cons rfl (fun K hK => ?_) AllReadyH.nil
          have hcur := hcur.setCell (p := ⟨bx, 5, none⟩) HLX.out (.slice (some ⟨gN, 0, none⟩) (s.p.length + 1) cN)
          go_simp
          refine hK.out _ _ (after_mk hcur) (fun hHeld => ?_)
          clear hK K
          skip
          refine wpAnyH_done (by kernel_rfl) ?_ _
          have hst := HX2.st
          have hcc := HX2.cells.1
          obtain ⟨y0, y1, y2, y3, y4, y5⟩ := hcc
          dsimp only at y0 y1 y2 y3 y4 y5
          obtain ⟨⟨q0, q1, q2, q3, q4, q5, q6⟩, g0, g1, g2, g3, g4, g5, g6⟩ := seven_cellsR (HR.out _ hcur)
          have HP : Hid (∀ x0 x1 x2 x3 x4 x5 x6 : Value, _) := (st_putC (w := w) (b := w.heap.size) hst (below_after_of HBW.out hcur) HBK.out HLO.out)
          have hn1 : ¬ w.heap.size = bx := HNE.out.1
          have hn2 : ¬ bx = w.heap.size := HNE.out.2
          clear HX2 hst hcur hbx HX0 hHeld HR HBW HS HNB eN fN oN grN bkN HCALL
          go_wp2
          refine bodyPost_ret (v := .agg #[.int .i64 0, .int .i64 s.ph, .int .i64 s.cu, .slice b1 s.d.length d1, .slice b2 s.n.length d2, .slice (some ⟨g7, 0, none⟩) (s.h.length + 1) c7, .slice (some ⟨gN, 0, none⟩) (s.p.length + 1) cN]) (by simp [results, Tryz.results30, go_sem, q0, q1, q2, q3, q4, q5, q6]) rfl ?_
          refine HT.out _ _ _ (HP.out _ _ _ _ _ _ _).1 (HP.out _ _ _ _ _ _ _).2
end U
end Go.Proofs.YtjhmfaibpnagcaaGreat
