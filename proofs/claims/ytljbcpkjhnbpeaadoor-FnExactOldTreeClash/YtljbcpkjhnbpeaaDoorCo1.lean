/- What is summed for a part of the old tree, as the program tells it. -/
import Derived.Test.YtljbcpkjhnbpeaaDoorOp7
import Derived.Test.YtljbcpkjhnbpeaaDoorSl11
import Derived.Test.YtljbcpkjhnbpeaaDoorExO
import Derived.Test.YtljbcpkjhnbpeaaDoorHeldBy
import Derived.Deep.MidRow
import Derived.Deep.RegionHeld3
namespace Go.Proofs.YtljbcpkjhnbpeaaDoor
open Go.RowKit
namespace U
theorem nd_side8 {l : Prl} (hr : Ris l) (hf : ∀ p ∈ l, fine p = true) (k : Nat) (q : Int) : prt (cut l (q * (2 ^ k : Nat)) (q * (2 ^ k : Nat) + (2 ^ k : Nat))) k = nd l k q := by
  rw [prt_nd (cut_ris hr _ _) (fun p hp => (fine_bd (hf p (cut_mem.1 hp).1)).1.1) (q := q) (fun p hp => in_part.2 (cut_mem.1 hp).2), nd_cut]
theorem nd_sideK {l : Prl} (hr : Ris l) (hf : ∀ p ∈ l, fine p = true) (k : Nat) (K q a b : Int) (hK : K = ((2 ^ k : Nat) : Int)) (ha : a = q * K) (hb : b = a + K) : prt (cut l a b) k = nd l k q := by
  subst hK ha hb
  exact nd_side8 hr hf k q
theorem ex_load_mid {P : Program} {w : World} {a : Act} {o : Oper} (ty : TypeId) (x : Operand) (ho : o.op = .load ty x) (b off : Nat) (hx : a.eval x = .pointer (some ⟨b, off, none⟩)) (cs : List Value) (d : TypeDesc) (hc : w.rangeAt b off cs)
    (hu : P.underlying ty = some d) (hd : d.isRow = true) (hi : (P.info? ty).map (·.size) = some cs.length) : (execOp a.eval o).run P w = .ok (.value (.agg cs.toArray)) w := by
  unfold execOp
  simp only [ho, hx, Instr.loadAt, Instr.sureAddr, Sem.run_bind, Sem.run_pure, Result.andThen_ok, run_loadVar_mid w b off ty cs d hc hu hd hi]
/-- The sums of nothing, as they lie. -/
def emL : List Value := [.int .i64 (emp 0), .int .i64 (emp 1), .int .i64 (emp 2), .int .i64 (emp 3), .int .i64 (emp 4), .int .i64 (emp 5), .int .i64 (emp 6), .int .i64 (emp 7), .int .i64 (emp 8)]
theorem emL_arr : arrA emp = emL.toArray := rfl
theorem emL_len : emL.length = 9 := rfl
theorem Tryd.infoLs : (Tryd.prog.info? 93).map (·.size) = some emL.length := by kernel_rfl
/-- The box of the sums of nothing. -/
structure EmB (w : World) (g : Nat) : Prop where
  r : w.rangeAt g 0 emL
  lt : g < w.heap.size
theorem EmB.below {w w' : World} {g : Nat} (h : EmB w g) (hb : Below w.heap.size w w') : EmB w' g := ⟨fun j v hv => (hb.cell (p := ⟨g, 0 + j, none⟩) h.lt).trans (h.r j v hv), Nat.lt_of_lt_of_le h.lt hb.size⟩
theorem EmB.new (w : World) (t : TypeId) : EmB (w.alloc (.cells emL.toArray t)) w.heap.size := by
  refine ⟨fun j v hv => ?_, by simp⟩
  have hh := heap_alloc_new w (.cells emL.toArray t)
  unfold World.cell?
  rw [hh]
  simp [hv]
/-- The piece of a part, by its level. -/
def ptL (l : Prl) : Nat → Int → List Int
  | 0, q => lfT l q
  | n + 1, q => optL l n q
theorem ptL_ok {l : Prl} (h0 : slF l = 0) (n : Nat) {q : Int} (hq : n = 0 → 0 ≤ q ∧ q ≤ 255) : Bts (ptL l n q) ∧ (ptL l n q).length ≤ 200 := by
  rcases n with _ | n
  · exact ⟨leafL_bts (lfT_askd h0 (hq rfl)), Nat.le_trans (leafL_len _ _ _) (by omega)⟩
  · exact ⟨nd_two_bts (nd_bd _ _ _) (nd_bd _ _ _), by show (tagL 2 _).length ≤ 200; rw [nd_two_len]; omega⟩
/-- What is summed for a part. -/
structure PbAt (l : Prl) (n : Nat) (f q : Int) : Prop where
  c : ∀ v w, Prs w v l → Okv v → Calls Tryd.prog 56 #[v, .int .i64 f, .int .i64 (n : Int), .agg emL.toArray] w fun e w' => ∃ v', e = .returned v' ∧ w'.ownsRow w.heap.size 5 1 v' (ptL l n q).length ((ptL l n q).map (Value.int .u8)) ∧ Below w.heap.size w w'
set_option maxRecDepth 100000 in
set_option maxHeartbeats 1000000 in
theorem partBytes_0 {l : Prl} {q : Int} (h0 : slF l = 0) (hq : 0 ≤ q ∧ q ≤ 255) : PbAt l 0 q q := by
  refine ⟨fun v w hv ho => ?_⟩
  have hL := fun w' h => leafOf_any v l q w' (hv.below (w' := w') h) (by have := (slF_ok h0).len; omega) h0 hq
  rw [show ptL l 0 q = lfT l q from rfl]
  obtain ⟨a, c, rfl⟩ := hv.shape
  generalize lfT l q = ys at *
  generalize l.length = n at *
  generalize emL = cs at *
  clear hv ho h0
  go_enter Tryd.func56, Tryd.ntmps56
  go_wp2_with fail
  refine (hL _ (one_new _)).mono ?_
  rintro e w1 ⟨v1, rfl, own1, hb1⟩
  have HO : Hid (w1.ownsRow w.heap.size 5 1 v1 ys.length (ys.map (Value.int .u8))) := own_mono own1 (by simp)
  obtain ⟨a1, c1, rfl⟩ := own_shape own1
  have hB1 := below_after hb1
  clear hL own1 hb1
  go_wp2
  go_ret
  exact ⟨_, rfl, HO.out, hB1⟩
set_option maxRecDepth 100000 in
set_option maxHeartbeats 2000000 in
theorem partBytes_1 {l : Prl} {f q : Int} (h0 : slF l = 0) (HF : Hid (f = q * 2)) (hq : 0 ≤ f ∧ f ≤ 255) : PbAt l 1 f q := by
  refine ⟨fun v w hv ho => ?_⟩
  have hs := slF_ok h0
  have hC1 := fun w' h => slotsBetween_any v l f (f + 1) w' (hv.below (w' := w') h) ho hs.len hs.ris (by omega)
  have hC2 := fun w' h => slotsBetween_any v l (f + 1) (f + 2) w' (hv.below (w' := w') h) ho hs.len hs.ris (by omega)
  have hP1 := fun v w h => partSum_any v (cut l f (f + 1)) 0 w h (Nat.le_trans (cut_len _ _ _) hs.len) (cut_ris hs.ris _ _) (fun p hp => hs.fin p (cut_mem.1 hp).1) (by omega)
  have hP2 := fun v w h => partSum_any v (cut l (f + 1) (f + 2)) 0 w h (Nat.le_trans (cut_len _ _ _) hs.len) (cut_ris hs.ris _ _) (fun p hp => hs.fin p (cut_mem.1 hp).1) (by omega)
  rw [nd_sideK hs.ris hs.fin 0 1 (2 * q) f (f + 1) rfl (by have := HF.out; omega) rfl] at hP1
  rw [nd_sideK hs.ris hs.fin 0 1 (2 * q + 1) (f + 1) (f + 2) rfl (by have := HF.out; omega) (by omega)] at hP2
  have hT := fun u w hu => implTagBytes_any 2 u [nd l 0 (2 * q), nd l 0 (2 * q + 1)] w hu (by simp)
  have htg := tg_ok (tag := 2) (xs := [nd l 0 (2 * q), nd l 0 (2 * q + 1)]) rfl (by simp) (by have := nd_bd l 0 (2 * q); have := nd_bd l 0 (2 * q + 1); simp [sumB_iff]; omega)
  rw [htg.1, htg.2] at hT
  rw [show ptL l 1 q = tagL 2 [nd l 0 (2 * q), nd l 0 (2 * q + 1)] from rfl]
  generalize tagL 2 [nd l 0 (2 * q), nd l 0 (2 * q + 1)] = ys at *
  generalize nd l 0 (2 * q) = x at *
  generalize nd l 0 (2 * q + 1) = y at *
  obtain ⟨c1, hc1⟩ : ∃ c1, c1 = cut l f (f + 1) := ⟨_, rfl⟩
  obtain ⟨c2, hc2⟩ : ∃ c2, c2 = cut l (f + 1) (f + 2) := ⟨_, rfl⟩
  rw [← hc1] at hC1 hP1
  rw [← hc2] at hC2 hP2
  obtain ⟨a, c, rfl⟩ := hv.shape
  generalize l.length = n at *
  clear hv ho h0 hs htg hc1 hc2
  have hE0 := EmB.new w 93
  obtain ⟨W, hW⟩ : ∃ W, W = w.alloc (.cells emL.toArray 93) := ⟨_, rfl⟩
  have HW : Hid (w.alloc (.cells emL.toArray 93) = W) := hW.symm
  have hBW : Below w.heap.size w W := by rw [hW]; exact one_new _
  rw [← hW] at hE0
  have HE0 : Hid (∀ w', Below W.heap.size W w' → w'.rangeAt w.heap.size 0 emL) := fun w' h => (hE0.below h).r
  have hul := Tryd.underlying93
  have hil := Tryd.infoLs
  have hld : ∀ (w' : World), w'.rangeAt w.heap.size 0 emL → ∀ (a : Act) (o : Oper), o.op = .load 93 (.tmp 7) → a.eval (.tmp 7) = .pointer (some ⟨w.heap.size, 0, none⟩) → (execOp a.eval o).run Tryd.prog w' = .ok (Next.value (.agg emL.toArray)) w' := fun w' h a o h1 h2 => ex_load_mid _ _ h1 _ _ h2 emL _ h hul rfl hil
  clear hul hil
  rw [emL_arr] at hP1 hP2
  clear hW hE0
  generalize emL = cs at *
  go_enter Tryd.func56, Tryd.ntmps56
  go_wp2_with fail
  rw [HW.out]
  refine (hC1 _ hBW).mono ?_
  rintro e w1 ⟨⟨a1, d1, rfl, hp1, -⟩, hb1⟩
  have hB1 := below_after_of hBW hb1
  have hp1 := hp1.below hb1
  clear hC1
  go_wp2_with fail
  refine (hC2 _ hB1).mono ?_
  rintro e w2 ⟨⟨a2, d2, rfl, hp2, -⟩, hb2⟩
  have hB2 := below_after_of hB1 hb2
  have hp1 := hp1.below hb2
  have hp2 := hp2.below hb2
  have HE : Hid (∀ w', Below w2.heap.size w2 w' → w'.rangeAt w.heap.size 0 cs) := fun w' h => HE0.out w' (below_after_of (below_after_of hb1 hb2) h)
  have hbr := Below.refl w2.heap.size w2
  have hp2' := fun w' h => hp2.below (w' := w') h
  have hp1' := fun w' h => hp1.below (w' := w') h
  have e0 := HE.out _ hbr
  generalize c1.length = m1 at *
  generalize c2.length = m2 at *
  clear hC2 hb1 hb2 hp1 hp2 hB1 HE0
  go_wp2
  refine wp_region_held_drew (S := fun w' => w'.rangeAt w.heap.size 0 cs) (by kernel_rfl) (HE.out _ hbr.drew) (fun hHeld => ?_)
  refine h_take (i := 0) (d := (some 36)) (v := ?vp1) (by rfl) (by kernel_rfl) (by kernel_rfl) (by kernel_rfl) (fun _ _ _ h => h) (by rfl) ?hyp1 hHeld ?restp1
  case hyp1 =>
    intro o ho
    simp only [List.getElem?_toArray, List.getElem?_cons_zero, Option.some.injEq] at ho
    subst ho
    intro w' hSw
    first | (go_simp; done) | (go_simp; with_reducible rfl)
  try simp only [Act.put, List.setIfInBounds_toArray, List.set_cons_zero, List.set_cons_succ]
  refine h_take (i := 1) (d := (some 37)) (v := ?vp2) (by rfl) (by kernel_rfl) (by kernel_rfl) (by kernel_rfl) (fun _ _ _ h => h) (by rfl) ?hyp2 hHeld ?restp2
  case hyp2 =>
    intro o ho
    simp only [List.getElem?_toArray, List.getElem?_cons_succ, List.getElem?_cons_zero, Option.some.injEq] at ho
    subst ho
    intro w' hSw
    first | (go_simp; done) | (go_simp; with_reducible rfl)
  try simp only [Act.put, List.setIfInBounds_toArray, List.set_cons_zero, List.set_cons_succ]
  refine h_take (i := 2) (d := (some 38)) (v := ?vp3) (by rfl) (by kernel_rfl) (by kernel_rfl) (by kernel_rfl) (fun _ _ _ h => h) (by rfl) ?hyp3 hHeld ?restp3
  case hyp3 =>
    intro o ho
    simp only [List.getElem?_toArray, List.getElem?_cons_succ, List.getElem?_cons_zero, Option.some.injEq] at ho
    subst ho
    intro w' hSw
    first | (go_simp; done) | (go_simp; with_reducible rfl)
  try simp only [Act.put, List.setIfInBounds_toArray, List.set_cons_zero, List.set_cons_succ]
  refine h_take (i := 3) (d := (some 39)) (v := ?vp4) (by rfl) (by kernel_rfl) (by kernel_rfl) (by kernel_rfl) (fun _ _ _ h => h) (by rfl) ?hyp4 hHeld ?restp4
  case hyp4 =>
    intro o ho
    simp only [List.getElem?_toArray, List.getElem?_cons_succ, List.getElem?_cons_zero, Option.some.injEq] at ho
    subst ho
    intro w' hSw
    (rw [hld w' hSw] <;> first | with_reducible rfl | rfl)
  try simp only [Act.put, List.setIfInBounds_toArray, List.set_cons_zero, List.set_cons_succ]
  refine h_take (i := 5) (d := (some 41)) (v := ?vp5) (by rfl) (by kernel_rfl) (by kernel_rfl) (by kernel_rfl) (fun _ _ _ h => h) (by rfl) ?hyp5 hHeld ?restp5
  case hyp5 =>
    intro o ho
    simp only [List.getElem?_toArray, List.getElem?_cons_succ, List.getElem?_cons_zero, Option.some.injEq] at ho
    subst ho
    intro w' hSw
    first | (go_simp; done) | (go_simp; with_reducible rfl)
  try simp only [Act.put, List.setIfInBounds_toArray, List.set_cons_zero, List.set_cons_succ]
  refine h_take (i := 6) (d := (some 42)) (v := ?vp6) (by rfl) (by kernel_rfl) (by kernel_rfl) (by kernel_rfl) (fun _ _ _ h => h) (by rfl) ?hyp6 hHeld ?restp6
  case hyp6 =>
    intro o ho
    simp only [List.getElem?_toArray, List.getElem?_cons_succ, List.getElem?_cons_zero, Option.some.injEq] at ho
    subst ho
    intro w' hSw
    first | (go_simp; done) | (go_simp; with_reducible rfl)
  try simp only [Act.put, List.setIfInBounds_toArray, List.set_cons_zero, List.set_cons_succ]
  refine h_take (i := 7) (d := (some 43)) (v := ?vp7) (by rfl) (by kernel_rfl) (by kernel_rfl) (by kernel_rfl) (fun _ _ _ h => h) (by rfl) ?hyp7 hHeld ?restp7
  case hyp7 =>
    intro o ho
    simp only [List.getElem?_toArray, List.getElem?_cons_succ, List.getElem?_cons_zero, Option.some.injEq] at ho
    subst ho
    intro w' hSw
    first | (go_simp; done) | (go_simp; with_reducible rfl)
  try simp only [Act.put, List.setIfInBounds_toArray, List.set_cons_zero, List.set_cons_succ]
  refine h_take (i := 8) (d := (some 44)) (v := ?vp8) (by rfl) (by kernel_rfl) (by kernel_rfl) (by kernel_rfl) (fun _ _ _ h => h) (by rfl) ?hyp8 hHeld ?restp8
  case hyp8 =>
    intro o ho
    simp only [List.getElem?_toArray, List.getElem?_cons_succ, List.getElem?_cons_zero, Option.some.injEq] at ho
    subst ho
    intro w' hSw
    (rw [hld w' hSw] <;> first | with_reducible rfl | rfl)
  try simp only [Act.put, List.setIfInBounds_toArray, List.set_cons_zero, List.set_cons_succ]
  refine wpAnyH_ready (rs := [4]) (by kernel_rfl) (by simp) ?_
  refine AllReadyH.cons rfl (fun K hK => ?_) AllReadyH.nil
  go_simp
  refine (hP1 _ _ (hp1' _ hbr.drew)).mono ?_
  rintro e wq ⟨rfl, hbq⟩
  have hbr : Below w2.heap.size w2 wq := below_after_of hbr.drew hbq
  refine hK.out _ _ ?_ (fun hHeld => ?_)
  · first | exact HE.out _ hbr | exact HE.out _ (hbr.alloc hbr.size _)
  clear hK K
  try simp only [Act.put, List.setIfInBounds_toArray, List.set_cons_zero, List.set_cons_succ]
  refine wpAnyH_ready (rs := [9]) (by kernel_rfl) (by simp) ?_
  refine AllReadyH.cons rfl (fun K hK => ?_) AllReadyH.nil
  go_simp
  refine (hP2 _ _ (hp2' _ hbr)).mono ?_
  rintro e wr ⟨rfl, hbq2⟩
  have hbr : Below w2.heap.size w2 wr := below_after_of hbr hbq2
  refine hK.out _ _ ?_ (fun hHeld => ?_)
  · first | exact HE.out _ hbr | exact HE.out _ (hbr.alloc hbr.size _)
  clear hK K
  try simp only [Act.put, List.setIfInBounds_toArray, List.set_cons_zero, List.set_cons_succ]
  refine wpAnyH_ready (rs := [10]) (by kernel_rfl) (by simp) ?_
  refine AllReadyH.cons rfl (fun K hK => ?_) AllReadyH.nil
  go_simp
  try skip
  refine hK.out _ _ ?_ (fun hHeld => ?_)
  · first | exact HE.out _ hbr | exact HE.out _ (hbr.alloc hbr.size _)
  clear hK K
  try simp only [Act.put, List.setIfInBounds_toArray, List.set_cons_zero, List.set_cons_succ]
  refine h_take (i := 11) (d := (some 12)) (v := ?vp9) (by rfl) (by kernel_rfl) (by kernel_rfl) (by kernel_rfl) (fun _ _ _ h => h) (by rfl) ?hyp9 hHeld ?restp9
  case hyp9 =>
    intro o ho
    simp only [List.getElem?_toArray, List.getElem?_cons_succ, List.getElem?_cons_zero, Option.some.injEq] at ho
    subst ho
    intro w' hSw
    first | (go_simp; done) | (go_simp; with_reducible rfl)
  try simp only [Act.put, List.setIfInBounds_toArray, List.set_cons_zero, List.set_cons_succ]
  refine wpAnyH_done (by kernel_rfl) ?_ _
  have hNA := one_new (w := wr) (.cells #[.int .i64 x, .int .i64 y] 2)
  have hB3 := below_after_of (below_after_of hB2 hbr) hNA
  clear hP1 hP2 hp1' hp2' hbq hbq2 HE e0 hld
  go_wp2_with fail
  refine (hT _ _ (two_ints_at rfl)).mono ?_
  intro e w4 h4
  obtain ⟨a4, c4, rfl, hb4, own4⟩ := h4.use
  have kf := fun w => field_BR1 0 a4 ys.length c4 w
  have HO : Hid (w4.ownsRow w.heap.size 5 1 (.slice a4 ys.length c4) ys.length (ys.map (Value.int .u8))) := own_mono own4 hB3.size
  have hB4 := below_after_of hB3 hb4
  clear hT h4 own4 hb4
  go_wp2
  go_ret
  exact ⟨_, rfl, HO.out, hB4⟩
set_option maxRecDepth 100000 in
set_option maxHeartbeats 2000000 in
theorem partBytes_2 {l : Prl} {f q : Int} (h0 : slF l = 0) (HF : Hid (f = q * 4)) (hq : 0 ≤ f ∧ f ≤ 255) : PbAt l 2 f q := by
  refine ⟨fun v w hv ho => ?_⟩
  have hs := slF_ok h0
  have hC1 := fun w' h => slotsBetween_any v l f (f + 2) w' (hv.below (w' := w') h) ho hs.len hs.ris (by omega)
  have hC2 := fun w' h => slotsBetween_any v l (f + 2) (f + 4) w' (hv.below (w' := w') h) ho hs.len hs.ris (by omega)
  have hP1 := fun v w h => partSum_any v (cut l f (f + 2)) 1 w h (Nat.le_trans (cut_len _ _ _) hs.len) (cut_ris hs.ris _ _) (fun p hp => hs.fin p (cut_mem.1 hp).1) (by omega)
  have hP2 := fun v w h => partSum_any v (cut l (f + 2) (f + 4)) 1 w h (Nat.le_trans (cut_len _ _ _) hs.len) (cut_ris hs.ris _ _) (fun p hp => hs.fin p (cut_mem.1 hp).1) (by omega)
  rw [nd_sideK hs.ris hs.fin 1 2 (2 * q) f (f + 2) rfl (by have := HF.out; omega) rfl] at hP1
  rw [nd_sideK hs.ris hs.fin 1 2 (2 * q + 1) (f + 2) (f + 4) rfl (by have := HF.out; omega) (by omega)] at hP2
  have hT := fun u w hu => implTagBytes_any 2 u [nd l 1 (2 * q), nd l 1 (2 * q + 1)] w hu (by simp)
  have htg := tg_ok (tag := 2) (xs := [nd l 1 (2 * q), nd l 1 (2 * q + 1)]) rfl (by simp) (by have := nd_bd l 1 (2 * q); have := nd_bd l 1 (2 * q + 1); simp [sumB_iff]; omega)
  rw [htg.1, htg.2] at hT
  rw [show ptL l 2 q = tagL 2 [nd l 1 (2 * q), nd l 1 (2 * q + 1)] from rfl]
  generalize tagL 2 [nd l 1 (2 * q), nd l 1 (2 * q + 1)] = ys at *
  generalize nd l 1 (2 * q) = x at *
  generalize nd l 1 (2 * q + 1) = y at *
  obtain ⟨c1, hc1⟩ : ∃ c1, c1 = cut l f (f + 2) := ⟨_, rfl⟩
  obtain ⟨c2, hc2⟩ : ∃ c2, c2 = cut l (f + 2) (f + 4) := ⟨_, rfl⟩
  rw [← hc1] at hC1 hP1
  rw [← hc2] at hC2 hP2
  obtain ⟨a, c, rfl⟩ := hv.shape
  generalize l.length = n at *
  clear hv ho h0 hs htg hc1 hc2
  have hE0 := EmB.new w 93
  obtain ⟨W, hW⟩ : ∃ W, W = w.alloc (.cells emL.toArray 93) := ⟨_, rfl⟩
  have HW : Hid (w.alloc (.cells emL.toArray 93) = W) := hW.symm
  have hBW : Below w.heap.size w W := by rw [hW]; exact one_new _
  rw [← hW] at hE0
  have HE0 : Hid (∀ w', Below W.heap.size W w' → w'.rangeAt w.heap.size 0 emL) := fun w' h => (hE0.below h).r
  have hul := Tryd.underlying93
  have hil := Tryd.infoLs
  have hld : ∀ (w' : World), w'.rangeAt w.heap.size 0 emL → ∀ (a : Act) (o : Oper), o.op = .load 93 (.tmp 7) → a.eval (.tmp 7) = .pointer (some ⟨w.heap.size, 0, none⟩) → (execOp a.eval o).run Tryd.prog w' = .ok (Next.value (.agg emL.toArray)) w' := fun w' h a o h1 h2 => ex_load_mid _ _ h1 _ _ h2 emL _ h hul rfl hil
  clear hul hil
  rw [emL_arr] at hP1 hP2
  clear hW hE0
  generalize emL = cs at *
  go_enter Tryd.func56, Tryd.ntmps56
  go_wp2_with fail
  rw [HW.out]
  refine (hC1 _ hBW).mono ?_
  rintro e w1 ⟨⟨a1, d1, rfl, hp1, -⟩, hb1⟩
  have hB1 := below_after_of hBW hb1
  have hp1 := hp1.below hb1
  clear hC1
  go_wp2_with fail
  refine (hC2 _ hB1).mono ?_
  rintro e w2 ⟨⟨a2, d2, rfl, hp2, -⟩, hb2⟩
  have hB2 := below_after_of hB1 hb2
  have hp1 := hp1.below hb2
  have hp2 := hp2.below hb2
  have HE : Hid (∀ w', Below w2.heap.size w2 w' → w'.rangeAt w.heap.size 0 cs) := fun w' h => HE0.out w' (below_after_of (below_after_of hb1 hb2) h)
  have hbr := Below.refl w2.heap.size w2
  have hp2' := fun w' h => hp2.below (w' := w') h
  have hp1' := fun w' h => hp1.below (w' := w') h
  have e0 := HE.out _ hbr
  generalize c1.length = m1 at *
  generalize c2.length = m2 at *
  clear hC2 hb1 hb2 hp1 hp2 hB1 HE0
  go_wp2
  refine wp_region_held_drew (S := fun w' => w'.rangeAt w.heap.size 0 cs) (by kernel_rfl) (HE.out _ hbr.drew) (fun hHeld => ?_)
  refine h_take (i := 0) (d := (some 36)) (v := ?vp1) (by rfl) (by kernel_rfl) (by kernel_rfl) (by kernel_rfl) (fun _ _ _ h => h) (by rfl) ?hyp1 hHeld ?restp1
  case hyp1 =>
    intro o ho
    simp only [List.getElem?_toArray, List.getElem?_cons_zero, Option.some.injEq] at ho
    subst ho
    intro w' hSw
    first | (go_simp; done) | (go_simp; with_reducible rfl)
  try simp only [Act.put, List.setIfInBounds_toArray, List.set_cons_zero, List.set_cons_succ]
  refine h_take (i := 1) (d := (some 37)) (v := ?vp2) (by rfl) (by kernel_rfl) (by kernel_rfl) (by kernel_rfl) (fun _ _ _ h => h) (by rfl) ?hyp2 hHeld ?restp2
  case hyp2 =>
    intro o ho
    simp only [List.getElem?_toArray, List.getElem?_cons_succ, List.getElem?_cons_zero, Option.some.injEq] at ho
    subst ho
    intro w' hSw
    first | (go_simp; done) | (go_simp; with_reducible rfl)
  try simp only [Act.put, List.setIfInBounds_toArray, List.set_cons_zero, List.set_cons_succ]
  refine h_take (i := 2) (d := (some 38)) (v := ?vp3) (by rfl) (by kernel_rfl) (by kernel_rfl) (by kernel_rfl) (fun _ _ _ h => h) (by rfl) ?hyp3 hHeld ?restp3
  case hyp3 =>
    intro o ho
    simp only [List.getElem?_toArray, List.getElem?_cons_succ, List.getElem?_cons_zero, Option.some.injEq] at ho
    subst ho
    intro w' hSw
    first | (go_simp; done) | (go_simp; with_reducible rfl)
  try simp only [Act.put, List.setIfInBounds_toArray, List.set_cons_zero, List.set_cons_succ]
  refine h_take (i := 3) (d := (some 39)) (v := ?vp4) (by rfl) (by kernel_rfl) (by kernel_rfl) (by kernel_rfl) (fun _ _ _ h => h) (by rfl) ?hyp4 hHeld ?restp4
  case hyp4 =>
    intro o ho
    simp only [List.getElem?_toArray, List.getElem?_cons_succ, List.getElem?_cons_zero, Option.some.injEq] at ho
    subst ho
    intro w' hSw
    (rw [hld w' hSw] <;> first | with_reducible rfl | rfl)
  try simp only [Act.put, List.setIfInBounds_toArray, List.set_cons_zero, List.set_cons_succ]
  refine h_take (i := 5) (d := (some 41)) (v := ?vp5) (by rfl) (by kernel_rfl) (by kernel_rfl) (by kernel_rfl) (fun _ _ _ h => h) (by rfl) ?hyp5 hHeld ?restp5
  case hyp5 =>
    intro o ho
    simp only [List.getElem?_toArray, List.getElem?_cons_succ, List.getElem?_cons_zero, Option.some.injEq] at ho
    subst ho
    intro w' hSw
    first | (go_simp; done) | (go_simp; with_reducible rfl)
  try simp only [Act.put, List.setIfInBounds_toArray, List.set_cons_zero, List.set_cons_succ]
  refine h_take (i := 6) (d := (some 42)) (v := ?vp6) (by rfl) (by kernel_rfl) (by kernel_rfl) (by kernel_rfl) (fun _ _ _ h => h) (by rfl) ?hyp6 hHeld ?restp6
  case hyp6 =>
    intro o ho
    simp only [List.getElem?_toArray, List.getElem?_cons_succ, List.getElem?_cons_zero, Option.some.injEq] at ho
    subst ho
    intro w' hSw
    first | (go_simp; done) | (go_simp; with_reducible rfl)
  try simp only [Act.put, List.setIfInBounds_toArray, List.set_cons_zero, List.set_cons_succ]
  refine h_take (i := 7) (d := (some 43)) (v := ?vp7) (by rfl) (by kernel_rfl) (by kernel_rfl) (by kernel_rfl) (fun _ _ _ h => h) (by rfl) ?hyp7 hHeld ?restp7
  case hyp7 =>
    intro o ho
    simp only [List.getElem?_toArray, List.getElem?_cons_succ, List.getElem?_cons_zero, Option.some.injEq] at ho
    subst ho
    intro w' hSw
    first | (go_simp; done) | (go_simp; with_reducible rfl)
  try simp only [Act.put, List.setIfInBounds_toArray, List.set_cons_zero, List.set_cons_succ]
  refine h_take (i := 8) (d := (some 44)) (v := ?vp8) (by rfl) (by kernel_rfl) (by kernel_rfl) (by kernel_rfl) (fun _ _ _ h => h) (by rfl) ?hyp8 hHeld ?restp8
  case hyp8 =>
    intro o ho
    simp only [List.getElem?_toArray, List.getElem?_cons_succ, List.getElem?_cons_zero, Option.some.injEq] at ho
    subst ho
    intro w' hSw
    (rw [hld w' hSw] <;> first | with_reducible rfl | rfl)
  try simp only [Act.put, List.setIfInBounds_toArray, List.set_cons_zero, List.set_cons_succ]
  refine wpAnyH_ready (rs := [4]) (by kernel_rfl) (by simp) ?_
  refine AllReadyH.cons rfl (fun K hK => ?_) AllReadyH.nil
  go_simp
  refine (hP1 _ _ (hp1' _ hbr.drew)).mono ?_
  rintro e wq ⟨rfl, hbq⟩
  have hbr : Below w2.heap.size w2 wq := below_after_of hbr.drew hbq
  refine hK.out _ _ ?_ (fun hHeld => ?_)
  · first | exact HE.out _ hbr | exact HE.out _ (hbr.alloc hbr.size _)
  clear hK K
  try simp only [Act.put, List.setIfInBounds_toArray, List.set_cons_zero, List.set_cons_succ]
  refine wpAnyH_ready (rs := [9]) (by kernel_rfl) (by simp) ?_
  refine AllReadyH.cons rfl (fun K hK => ?_) AllReadyH.nil
  go_simp
  refine (hP2 _ _ (hp2' _ hbr)).mono ?_
  rintro e wr ⟨rfl, hbq2⟩
  have hbr : Below w2.heap.size w2 wr := below_after_of hbr hbq2
  refine hK.out _ _ ?_ (fun hHeld => ?_)
  · first | exact HE.out _ hbr | exact HE.out _ (hbr.alloc hbr.size _)
  clear hK K
  try simp only [Act.put, List.setIfInBounds_toArray, List.set_cons_zero, List.set_cons_succ]
  refine wpAnyH_ready (rs := [10]) (by kernel_rfl) (by simp) ?_
  refine AllReadyH.cons rfl (fun K hK => ?_) AllReadyH.nil
  go_simp
  try skip
  refine hK.out _ _ ?_ (fun hHeld => ?_)
  · first | exact HE.out _ hbr | exact HE.out _ (hbr.alloc hbr.size _)
  clear hK K
  try simp only [Act.put, List.setIfInBounds_toArray, List.set_cons_zero, List.set_cons_succ]
  refine h_take (i := 11) (d := (some 12)) (v := ?vp9) (by rfl) (by kernel_rfl) (by kernel_rfl) (by kernel_rfl) (fun _ _ _ h => h) (by rfl) ?hyp9 hHeld ?restp9
  case hyp9 =>
    intro o ho
    simp only [List.getElem?_toArray, List.getElem?_cons_succ, List.getElem?_cons_zero, Option.some.injEq] at ho
    subst ho
    intro w' hSw
    first | (go_simp; done) | (go_simp; with_reducible rfl)
  try simp only [Act.put, List.setIfInBounds_toArray, List.set_cons_zero, List.set_cons_succ]
  refine wpAnyH_done (by kernel_rfl) ?_ _
  have hNA := one_new (w := wr) (.cells #[.int .i64 x, .int .i64 y] 2)
  have hB3 := below_after_of (below_after_of hB2 hbr) hNA
  clear hP1 hP2 hp1' hp2' hbq hbq2 HE e0 hld
  go_wp2_with fail
  refine (hT _ _ (two_ints_at rfl)).mono ?_
  intro e w4 h4
  obtain ⟨a4, c4, rfl, hb4, own4⟩ := h4.use
  have kf := fun w => field_BR1 0 a4 ys.length c4 w
  have HO : Hid (w4.ownsRow w.heap.size 5 1 (.slice a4 ys.length c4) ys.length (ys.map (Value.int .u8))) := own_mono own4 hB3.size
  have hB4 := below_after_of hB3 hb4
  clear hT h4 own4 hb4
  go_wp2
  go_ret
  exact ⟨_, rfl, HO.out, hB4⟩
set_option maxRecDepth 100000 in
set_option maxHeartbeats 2000000 in
theorem partBytes_3 {l : Prl} {f q : Int} (h0 : slF l = 0) (HF : Hid (f = q * 8)) (hq : 0 ≤ f ∧ f ≤ 255) : PbAt l 3 f q := by
  refine ⟨fun v w hv ho => ?_⟩
  have hs := slF_ok h0
  have hC1 := fun w' h => slotsBetween_any v l f (f + 4) w' (hv.below (w' := w') h) ho hs.len hs.ris (by omega)
  have hC2 := fun w' h => slotsBetween_any v l (f + 4) (f + 8) w' (hv.below (w' := w') h) ho hs.len hs.ris (by omega)
  have hP1 := fun v w h => partSum_any v (cut l f (f + 4)) 2 w h (Nat.le_trans (cut_len _ _ _) hs.len) (cut_ris hs.ris _ _) (fun p hp => hs.fin p (cut_mem.1 hp).1) (by omega)
  have hP2 := fun v w h => partSum_any v (cut l (f + 4) (f + 8)) 2 w h (Nat.le_trans (cut_len _ _ _) hs.len) (cut_ris hs.ris _ _) (fun p hp => hs.fin p (cut_mem.1 hp).1) (by omega)
  rw [nd_sideK hs.ris hs.fin 2 4 (2 * q) f (f + 4) rfl (by have := HF.out; omega) rfl] at hP1
  rw [nd_sideK hs.ris hs.fin 2 4 (2 * q + 1) (f + 4) (f + 8) rfl (by have := HF.out; omega) (by omega)] at hP2
  have hT := fun u w hu => implTagBytes_any 2 u [nd l 2 (2 * q), nd l 2 (2 * q + 1)] w hu (by simp)
  have htg := tg_ok (tag := 2) (xs := [nd l 2 (2 * q), nd l 2 (2 * q + 1)]) rfl (by simp) (by have := nd_bd l 2 (2 * q); have := nd_bd l 2 (2 * q + 1); simp [sumB_iff]; omega)
  rw [htg.1, htg.2] at hT
  rw [show ptL l 3 q = tagL 2 [nd l 2 (2 * q), nd l 2 (2 * q + 1)] from rfl]
  generalize tagL 2 [nd l 2 (2 * q), nd l 2 (2 * q + 1)] = ys at *
  generalize nd l 2 (2 * q) = x at *
  generalize nd l 2 (2 * q + 1) = y at *
  obtain ⟨c1, hc1⟩ : ∃ c1, c1 = cut l f (f + 4) := ⟨_, rfl⟩
  obtain ⟨c2, hc2⟩ : ∃ c2, c2 = cut l (f + 4) (f + 8) := ⟨_, rfl⟩
  rw [← hc1] at hC1 hP1
  rw [← hc2] at hC2 hP2
  obtain ⟨a, c, rfl⟩ := hv.shape
  generalize l.length = n at *
  clear hv ho h0 hs htg hc1 hc2
  have hE0 := EmB.new w 93
  obtain ⟨W, hW⟩ : ∃ W, W = w.alloc (.cells emL.toArray 93) := ⟨_, rfl⟩
  have HW : Hid (w.alloc (.cells emL.toArray 93) = W) := hW.symm
  have hBW : Below w.heap.size w W := by rw [hW]; exact one_new _
  rw [← hW] at hE0
  have HE0 : Hid (∀ w', Below W.heap.size W w' → w'.rangeAt w.heap.size 0 emL) := fun w' h => (hE0.below h).r
  have hul := Tryd.underlying93
  have hil := Tryd.infoLs
  have hld : ∀ (w' : World), w'.rangeAt w.heap.size 0 emL → ∀ (a : Act) (o : Oper), o.op = .load 93 (.tmp 7) → a.eval (.tmp 7) = .pointer (some ⟨w.heap.size, 0, none⟩) → (execOp a.eval o).run Tryd.prog w' = .ok (Next.value (.agg emL.toArray)) w' := fun w' h a o h1 h2 => ex_load_mid _ _ h1 _ _ h2 emL _ h hul rfl hil
  clear hul hil
  rw [emL_arr] at hP1 hP2
  clear hW hE0
  generalize emL = cs at *
  go_enter Tryd.func56, Tryd.ntmps56
  go_wp2_with fail
  rw [HW.out]
  refine (hC1 _ hBW).mono ?_
  rintro e w1 ⟨⟨a1, d1, rfl, hp1, -⟩, hb1⟩
  have hB1 := below_after_of hBW hb1
  have hp1 := hp1.below hb1
  clear hC1
  go_wp2_with fail
  refine (hC2 _ hB1).mono ?_
  rintro e w2 ⟨⟨a2, d2, rfl, hp2, -⟩, hb2⟩
  have hB2 := below_after_of hB1 hb2
  have hp1 := hp1.below hb2
  have hp2 := hp2.below hb2
  have HE : Hid (∀ w', Below w2.heap.size w2 w' → w'.rangeAt w.heap.size 0 cs) := fun w' h => HE0.out w' (below_after_of (below_after_of hb1 hb2) h)
  have hbr := Below.refl w2.heap.size w2
  have hp2' := fun w' h => hp2.below (w' := w') h
  have hp1' := fun w' h => hp1.below (w' := w') h
  have e0 := HE.out _ hbr
  generalize c1.length = m1 at *
  generalize c2.length = m2 at *
  clear hC2 hb1 hb2 hp1 hp2 hB1 HE0
  go_wp2
  refine wp_region_held_drew (S := fun w' => w'.rangeAt w.heap.size 0 cs) (by kernel_rfl) (HE.out _ hbr.drew) (fun hHeld => ?_)
  refine h_take (i := 0) (d := (some 36)) (v := ?vp1) (by rfl) (by kernel_rfl) (by kernel_rfl) (by kernel_rfl) (fun _ _ _ h => h) (by rfl) ?hyp1 hHeld ?restp1
  case hyp1 =>
    intro o ho
    simp only [List.getElem?_toArray, List.getElem?_cons_zero, Option.some.injEq] at ho
    subst ho
    intro w' hSw
    first | (go_simp; done) | (go_simp; with_reducible rfl)
  try simp only [Act.put, List.setIfInBounds_toArray, List.set_cons_zero, List.set_cons_succ]
  refine h_take (i := 1) (d := (some 37)) (v := ?vp2) (by rfl) (by kernel_rfl) (by kernel_rfl) (by kernel_rfl) (fun _ _ _ h => h) (by rfl) ?hyp2 hHeld ?restp2
  case hyp2 =>
    intro o ho
    simp only [List.getElem?_toArray, List.getElem?_cons_succ, List.getElem?_cons_zero, Option.some.injEq] at ho
    subst ho
    intro w' hSw
    first | (go_simp; done) | (go_simp; with_reducible rfl)
  try simp only [Act.put, List.setIfInBounds_toArray, List.set_cons_zero, List.set_cons_succ]
  refine h_take (i := 2) (d := (some 38)) (v := ?vp3) (by rfl) (by kernel_rfl) (by kernel_rfl) (by kernel_rfl) (fun _ _ _ h => h) (by rfl) ?hyp3 hHeld ?restp3
  case hyp3 =>
    intro o ho
    simp only [List.getElem?_toArray, List.getElem?_cons_succ, List.getElem?_cons_zero, Option.some.injEq] at ho
    subst ho
    intro w' hSw
    first | (go_simp; done) | (go_simp; with_reducible rfl)
  try simp only [Act.put, List.setIfInBounds_toArray, List.set_cons_zero, List.set_cons_succ]
  refine h_take (i := 3) (d := (some 39)) (v := ?vp4) (by rfl) (by kernel_rfl) (by kernel_rfl) (by kernel_rfl) (fun _ _ _ h => h) (by rfl) ?hyp4 hHeld ?restp4
  case hyp4 =>
    intro o ho
    simp only [List.getElem?_toArray, List.getElem?_cons_succ, List.getElem?_cons_zero, Option.some.injEq] at ho
    subst ho
    intro w' hSw
    (rw [hld w' hSw] <;> first | with_reducible rfl | rfl)
  try simp only [Act.put, List.setIfInBounds_toArray, List.set_cons_zero, List.set_cons_succ]
  refine h_take (i := 5) (d := (some 41)) (v := ?vp5) (by rfl) (by kernel_rfl) (by kernel_rfl) (by kernel_rfl) (fun _ _ _ h => h) (by rfl) ?hyp5 hHeld ?restp5
  case hyp5 =>
    intro o ho
    simp only [List.getElem?_toArray, List.getElem?_cons_succ, List.getElem?_cons_zero, Option.some.injEq] at ho
    subst ho
    intro w' hSw
    first | (go_simp; done) | (go_simp; with_reducible rfl)
  try simp only [Act.put, List.setIfInBounds_toArray, List.set_cons_zero, List.set_cons_succ]
  refine h_take (i := 6) (d := (some 42)) (v := ?vp6) (by rfl) (by kernel_rfl) (by kernel_rfl) (by kernel_rfl) (fun _ _ _ h => h) (by rfl) ?hyp6 hHeld ?restp6
  case hyp6 =>
    intro o ho
    simp only [List.getElem?_toArray, List.getElem?_cons_succ, List.getElem?_cons_zero, Option.some.injEq] at ho
    subst ho
    intro w' hSw
    first | (go_simp; done) | (go_simp; with_reducible rfl)
  try simp only [Act.put, List.setIfInBounds_toArray, List.set_cons_zero, List.set_cons_succ]
  refine h_take (i := 7) (d := (some 43)) (v := ?vp7) (by rfl) (by kernel_rfl) (by kernel_rfl) (by kernel_rfl) (fun _ _ _ h => h) (by rfl) ?hyp7 hHeld ?restp7
  case hyp7 =>
    intro o ho
    simp only [List.getElem?_toArray, List.getElem?_cons_succ, List.getElem?_cons_zero, Option.some.injEq] at ho
    subst ho
    intro w' hSw
    first | (go_simp; done) | (go_simp; with_reducible rfl)
  try simp only [Act.put, List.setIfInBounds_toArray, List.set_cons_zero, List.set_cons_succ]
  refine h_take (i := 8) (d := (some 44)) (v := ?vp8) (by rfl) (by kernel_rfl) (by kernel_rfl) (by kernel_rfl) (fun _ _ _ h => h) (by rfl) ?hyp8 hHeld ?restp8
  case hyp8 =>
    intro o ho
    simp only [List.getElem?_toArray, List.getElem?_cons_succ, List.getElem?_cons_zero, Option.some.injEq] at ho
    subst ho
    intro w' hSw
    (rw [hld w' hSw] <;> first | with_reducible rfl | rfl)
  try simp only [Act.put, List.setIfInBounds_toArray, List.set_cons_zero, List.set_cons_succ]
  refine wpAnyH_ready (rs := [4]) (by kernel_rfl) (by simp) ?_
  refine AllReadyH.cons rfl (fun K hK => ?_) AllReadyH.nil
  go_simp
  refine (hP1 _ _ (hp1' _ hbr.drew)).mono ?_
  rintro e wq ⟨rfl, hbq⟩
  have hbr : Below w2.heap.size w2 wq := below_after_of hbr.drew hbq
  refine hK.out _ _ ?_ (fun hHeld => ?_)
  · first | exact HE.out _ hbr | exact HE.out _ (hbr.alloc hbr.size _)
  clear hK K
  try simp only [Act.put, List.setIfInBounds_toArray, List.set_cons_zero, List.set_cons_succ]
  refine wpAnyH_ready (rs := [9]) (by kernel_rfl) (by simp) ?_
  refine AllReadyH.cons rfl (fun K hK => ?_) AllReadyH.nil
  go_simp
  refine (hP2 _ _ (hp2' _ hbr)).mono ?_
  rintro e wr ⟨rfl, hbq2⟩
  have hbr : Below w2.heap.size w2 wr := below_after_of hbr hbq2
  refine hK.out _ _ ?_ (fun hHeld => ?_)
  · first | exact HE.out _ hbr | exact HE.out _ (hbr.alloc hbr.size _)
  clear hK K
  try simp only [Act.put, List.setIfInBounds_toArray, List.set_cons_zero, List.set_cons_succ]
  refine wpAnyH_ready (rs := [10]) (by kernel_rfl) (by simp) ?_
  refine AllReadyH.cons rfl (fun K hK => ?_) AllReadyH.nil
  go_simp
  try skip
  refine hK.out _ _ ?_ (fun hHeld => ?_)
  · first | exact HE.out _ hbr | exact HE.out _ (hbr.alloc hbr.size _)
  clear hK K
  try simp only [Act.put, List.setIfInBounds_toArray, List.set_cons_zero, List.set_cons_succ]
  refine h_take (i := 11) (d := (some 12)) (v := ?vp9) (by rfl) (by kernel_rfl) (by kernel_rfl) (by kernel_rfl) (fun _ _ _ h => h) (by rfl) ?hyp9 hHeld ?restp9
  case hyp9 =>
    intro o ho
    simp only [List.getElem?_toArray, List.getElem?_cons_succ, List.getElem?_cons_zero, Option.some.injEq] at ho
    subst ho
    intro w' hSw
    first | (go_simp; done) | (go_simp; with_reducible rfl)
  try simp only [Act.put, List.setIfInBounds_toArray, List.set_cons_zero, List.set_cons_succ]
  refine wpAnyH_done (by kernel_rfl) ?_ _
  have hNA := one_new (w := wr) (.cells #[.int .i64 x, .int .i64 y] 2)
  have hB3 := below_after_of (below_after_of hB2 hbr) hNA
  clear hP1 hP2 hp1' hp2' hbq hbq2 HE e0 hld
  go_wp2_with fail
  refine (hT _ _ (two_ints_at rfl)).mono ?_
  intro e w4 h4
  obtain ⟨a4, c4, rfl, hb4, own4⟩ := h4.use
  have kf := fun w => field_BR1 0 a4 ys.length c4 w
  have HO : Hid (w4.ownsRow w.heap.size 5 1 (.slice a4 ys.length c4) ys.length (ys.map (Value.int .u8))) := own_mono own4 hB3.size
  have hB4 := below_after_of hB3 hb4
  clear hT h4 own4 hb4
  go_wp2
  go_ret
  exact ⟨_, rfl, HO.out, hB4⟩
set_option maxRecDepth 100000 in
set_option maxHeartbeats 2000000 in
theorem partBytes_4 {l : Prl} {f q : Int} (h0 : slF l = 0) (HF : Hid (f = q * 16)) (hq : 0 ≤ f ∧ f ≤ 255) : PbAt l 4 f q := by
  refine ⟨fun v w hv ho => ?_⟩
  have hs := slF_ok h0
  have hC1 := fun w' h => slotsBetween_any v l f (f + 8) w' (hv.below (w' := w') h) ho hs.len hs.ris (by omega)
  have hC2 := fun w' h => slotsBetween_any v l (f + 8) (f + 16) w' (hv.below (w' := w') h) ho hs.len hs.ris (by omega)
  have hP1 := fun v w h => partSum_any v (cut l f (f + 8)) 3 w h (Nat.le_trans (cut_len _ _ _) hs.len) (cut_ris hs.ris _ _) (fun p hp => hs.fin p (cut_mem.1 hp).1) (by omega)
  have hP2 := fun v w h => partSum_any v (cut l (f + 8) (f + 16)) 3 w h (Nat.le_trans (cut_len _ _ _) hs.len) (cut_ris hs.ris _ _) (fun p hp => hs.fin p (cut_mem.1 hp).1) (by omega)
  rw [nd_sideK hs.ris hs.fin 3 8 (2 * q) f (f + 8) rfl (by have := HF.out; omega) rfl] at hP1
  rw [nd_sideK hs.ris hs.fin 3 8 (2 * q + 1) (f + 8) (f + 16) rfl (by have := HF.out; omega) (by omega)] at hP2
  have hT := fun u w hu => implTagBytes_any 2 u [nd l 3 (2 * q), nd l 3 (2 * q + 1)] w hu (by simp)
  have htg := tg_ok (tag := 2) (xs := [nd l 3 (2 * q), nd l 3 (2 * q + 1)]) rfl (by simp) (by have := nd_bd l 3 (2 * q); have := nd_bd l 3 (2 * q + 1); simp [sumB_iff]; omega)
  rw [htg.1, htg.2] at hT
  rw [show ptL l 4 q = tagL 2 [nd l 3 (2 * q), nd l 3 (2 * q + 1)] from rfl]
  generalize tagL 2 [nd l 3 (2 * q), nd l 3 (2 * q + 1)] = ys at *
  generalize nd l 3 (2 * q) = x at *
  generalize nd l 3 (2 * q + 1) = y at *
  obtain ⟨c1, hc1⟩ : ∃ c1, c1 = cut l f (f + 8) := ⟨_, rfl⟩
  obtain ⟨c2, hc2⟩ : ∃ c2, c2 = cut l (f + 8) (f + 16) := ⟨_, rfl⟩
  rw [← hc1] at hC1 hP1
  rw [← hc2] at hC2 hP2
  obtain ⟨a, c, rfl⟩ := hv.shape
  generalize l.length = n at *
  clear hv ho h0 hs htg hc1 hc2
  have hE0 := EmB.new w 93
  obtain ⟨W, hW⟩ : ∃ W, W = w.alloc (.cells emL.toArray 93) := ⟨_, rfl⟩
  have HW : Hid (w.alloc (.cells emL.toArray 93) = W) := hW.symm
  have hBW : Below w.heap.size w W := by rw [hW]; exact one_new _
  rw [← hW] at hE0
  have HE0 : Hid (∀ w', Below W.heap.size W w' → w'.rangeAt w.heap.size 0 emL) := fun w' h => (hE0.below h).r
  have hul := Tryd.underlying93
  have hil := Tryd.infoLs
  have hld : ∀ (w' : World), w'.rangeAt w.heap.size 0 emL → ∀ (a : Act) (o : Oper), o.op = .load 93 (.tmp 7) → a.eval (.tmp 7) = .pointer (some ⟨w.heap.size, 0, none⟩) → (execOp a.eval o).run Tryd.prog w' = .ok (Next.value (.agg emL.toArray)) w' := fun w' h a o h1 h2 => ex_load_mid _ _ h1 _ _ h2 emL _ h hul rfl hil
  clear hul hil
  rw [emL_arr] at hP1 hP2
  clear hW hE0
  generalize emL = cs at *
  go_enter Tryd.func56, Tryd.ntmps56
  go_wp2_with fail
  rw [HW.out]
  refine (hC1 _ hBW).mono ?_
  rintro e w1 ⟨⟨a1, d1, rfl, hp1, -⟩, hb1⟩
  have hB1 := below_after_of hBW hb1
  have hp1 := hp1.below hb1
  clear hC1
  go_wp2_with fail
  refine (hC2 _ hB1).mono ?_
  rintro e w2 ⟨⟨a2, d2, rfl, hp2, -⟩, hb2⟩
  have hB2 := below_after_of hB1 hb2
  have hp1 := hp1.below hb2
  have hp2 := hp2.below hb2
  have HE : Hid (∀ w', Below w2.heap.size w2 w' → w'.rangeAt w.heap.size 0 cs) := fun w' h => HE0.out w' (below_after_of (below_after_of hb1 hb2) h)
  have hbr := Below.refl w2.heap.size w2
  have hp2' := fun w' h => hp2.below (w' := w') h
  have hp1' := fun w' h => hp1.below (w' := w') h
  have e0 := HE.out _ hbr
  generalize c1.length = m1 at *
  generalize c2.length = m2 at *
  clear hC2 hb1 hb2 hp1 hp2 hB1 HE0
  go_wp2
  refine wp_region_held_drew (S := fun w' => w'.rangeAt w.heap.size 0 cs) (by kernel_rfl) (HE.out _ hbr.drew) (fun hHeld => ?_)
  refine h_take (i := 0) (d := (some 36)) (v := ?vp1) (by rfl) (by kernel_rfl) (by kernel_rfl) (by kernel_rfl) (fun _ _ _ h => h) (by rfl) ?hyp1 hHeld ?restp1
  case hyp1 =>
    intro o ho
    simp only [List.getElem?_toArray, List.getElem?_cons_zero, Option.some.injEq] at ho
    subst ho
    intro w' hSw
    first | (go_simp; done) | (go_simp; with_reducible rfl)
  try simp only [Act.put, List.setIfInBounds_toArray, List.set_cons_zero, List.set_cons_succ]
  refine h_take (i := 1) (d := (some 37)) (v := ?vp2) (by rfl) (by kernel_rfl) (by kernel_rfl) (by kernel_rfl) (fun _ _ _ h => h) (by rfl) ?hyp2 hHeld ?restp2
  case hyp2 =>
    intro o ho
    simp only [List.getElem?_toArray, List.getElem?_cons_succ, List.getElem?_cons_zero, Option.some.injEq] at ho
    subst ho
    intro w' hSw
    first | (go_simp; done) | (go_simp; with_reducible rfl)
  try simp only [Act.put, List.setIfInBounds_toArray, List.set_cons_zero, List.set_cons_succ]
  refine h_take (i := 2) (d := (some 38)) (v := ?vp3) (by rfl) (by kernel_rfl) (by kernel_rfl) (by kernel_rfl) (fun _ _ _ h => h) (by rfl) ?hyp3 hHeld ?restp3
  case hyp3 =>
    intro o ho
    simp only [List.getElem?_toArray, List.getElem?_cons_succ, List.getElem?_cons_zero, Option.some.injEq] at ho
    subst ho
    intro w' hSw
    first | (go_simp; done) | (go_simp; with_reducible rfl)
  try simp only [Act.put, List.setIfInBounds_toArray, List.set_cons_zero, List.set_cons_succ]
  refine h_take (i := 3) (d := (some 39)) (v := ?vp4) (by rfl) (by kernel_rfl) (by kernel_rfl) (by kernel_rfl) (fun _ _ _ h => h) (by rfl) ?hyp4 hHeld ?restp4
  case hyp4 =>
    intro o ho
    simp only [List.getElem?_toArray, List.getElem?_cons_succ, List.getElem?_cons_zero, Option.some.injEq] at ho
    subst ho
    intro w' hSw
    (rw [hld w' hSw] <;> first | with_reducible rfl | rfl)
  try simp only [Act.put, List.setIfInBounds_toArray, List.set_cons_zero, List.set_cons_succ]
  refine h_take (i := 5) (d := (some 41)) (v := ?vp5) (by rfl) (by kernel_rfl) (by kernel_rfl) (by kernel_rfl) (fun _ _ _ h => h) (by rfl) ?hyp5 hHeld ?restp5
  case hyp5 =>
    intro o ho
    simp only [List.getElem?_toArray, List.getElem?_cons_succ, List.getElem?_cons_zero, Option.some.injEq] at ho
    subst ho
    intro w' hSw
    first | (go_simp; done) | (go_simp; with_reducible rfl)
  try simp only [Act.put, List.setIfInBounds_toArray, List.set_cons_zero, List.set_cons_succ]
  refine h_take (i := 6) (d := (some 42)) (v := ?vp6) (by rfl) (by kernel_rfl) (by kernel_rfl) (by kernel_rfl) (fun _ _ _ h => h) (by rfl) ?hyp6 hHeld ?restp6
  case hyp6 =>
    intro o ho
    simp only [List.getElem?_toArray, List.getElem?_cons_succ, List.getElem?_cons_zero, Option.some.injEq] at ho
    subst ho
    intro w' hSw
    first | (go_simp; done) | (go_simp; with_reducible rfl)
  try simp only [Act.put, List.setIfInBounds_toArray, List.set_cons_zero, List.set_cons_succ]
  refine h_take (i := 7) (d := (some 43)) (v := ?vp7) (by rfl) (by kernel_rfl) (by kernel_rfl) (by kernel_rfl) (fun _ _ _ h => h) (by rfl) ?hyp7 hHeld ?restp7
  case hyp7 =>
    intro o ho
    simp only [List.getElem?_toArray, List.getElem?_cons_succ, List.getElem?_cons_zero, Option.some.injEq] at ho
    subst ho
    intro w' hSw
    first | (go_simp; done) | (go_simp; with_reducible rfl)
  try simp only [Act.put, List.setIfInBounds_toArray, List.set_cons_zero, List.set_cons_succ]
  refine h_take (i := 8) (d := (some 44)) (v := ?vp8) (by rfl) (by kernel_rfl) (by kernel_rfl) (by kernel_rfl) (fun _ _ _ h => h) (by rfl) ?hyp8 hHeld ?restp8
  case hyp8 =>
    intro o ho
    simp only [List.getElem?_toArray, List.getElem?_cons_succ, List.getElem?_cons_zero, Option.some.injEq] at ho
    subst ho
    intro w' hSw
    (rw [hld w' hSw] <;> first | with_reducible rfl | rfl)
  try simp only [Act.put, List.setIfInBounds_toArray, List.set_cons_zero, List.set_cons_succ]
  refine wpAnyH_ready (rs := [4]) (by kernel_rfl) (by simp) ?_
  refine AllReadyH.cons rfl (fun K hK => ?_) AllReadyH.nil
  go_simp
  refine (hP1 _ _ (hp1' _ hbr.drew)).mono ?_
  rintro e wq ⟨rfl, hbq⟩
  have hbr : Below w2.heap.size w2 wq := below_after_of hbr.drew hbq
  refine hK.out _ _ ?_ (fun hHeld => ?_)
  · first | exact HE.out _ hbr | exact HE.out _ (hbr.alloc hbr.size _)
  clear hK K
  try simp only [Act.put, List.setIfInBounds_toArray, List.set_cons_zero, List.set_cons_succ]
  refine wpAnyH_ready (rs := [9]) (by kernel_rfl) (by simp) ?_
  refine AllReadyH.cons rfl (fun K hK => ?_) AllReadyH.nil
  go_simp
  refine (hP2 _ _ (hp2' _ hbr)).mono ?_
  rintro e wr ⟨rfl, hbq2⟩
  have hbr : Below w2.heap.size w2 wr := below_after_of hbr hbq2
  refine hK.out _ _ ?_ (fun hHeld => ?_)
  · first | exact HE.out _ hbr | exact HE.out _ (hbr.alloc hbr.size _)
  clear hK K
  try simp only [Act.put, List.setIfInBounds_toArray, List.set_cons_zero, List.set_cons_succ]
  refine wpAnyH_ready (rs := [10]) (by kernel_rfl) (by simp) ?_
  refine AllReadyH.cons rfl (fun K hK => ?_) AllReadyH.nil
  go_simp
  try skip
  refine hK.out _ _ ?_ (fun hHeld => ?_)
  · first | exact HE.out _ hbr | exact HE.out _ (hbr.alloc hbr.size _)
  clear hK K
  try simp only [Act.put, List.setIfInBounds_toArray, List.set_cons_zero, List.set_cons_succ]
  refine h_take (i := 11) (d := (some 12)) (v := ?vp9) (by rfl) (by kernel_rfl) (by kernel_rfl) (by kernel_rfl) (fun _ _ _ h => h) (by rfl) ?hyp9 hHeld ?restp9
  case hyp9 =>
    intro o ho
    simp only [List.getElem?_toArray, List.getElem?_cons_succ, List.getElem?_cons_zero, Option.some.injEq] at ho
    subst ho
    intro w' hSw
    first | (go_simp; done) | (go_simp; with_reducible rfl)
  try simp only [Act.put, List.setIfInBounds_toArray, List.set_cons_zero, List.set_cons_succ]
  refine wpAnyH_done (by kernel_rfl) ?_ _
  have hNA := one_new (w := wr) (.cells #[.int .i64 x, .int .i64 y] 2)
  have hB3 := below_after_of (below_after_of hB2 hbr) hNA
  clear hP1 hP2 hp1' hp2' hbq hbq2 HE e0 hld
  go_wp2_with fail
  refine (hT _ _ (two_ints_at rfl)).mono ?_
  intro e w4 h4
  obtain ⟨a4, c4, rfl, hb4, own4⟩ := h4.use
  have kf := fun w => field_BR1 0 a4 ys.length c4 w
  have HO : Hid (w4.ownsRow w.heap.size 5 1 (.slice a4 ys.length c4) ys.length (ys.map (Value.int .u8))) := own_mono own4 hB3.size
  have hB4 := below_after_of hB3 hb4
  clear hT h4 own4 hb4
  go_wp2
  go_ret
  exact ⟨_, rfl, HO.out, hB4⟩
set_option maxRecDepth 100000 in
set_option maxHeartbeats 2000000 in
theorem partBytes_5 {l : Prl} {f q : Int} (h0 : slF l = 0) (HF : Hid (f = q * 32)) (hq : 0 ≤ f ∧ f ≤ 255) : PbAt l 5 f q := by
  refine ⟨fun v w hv ho => ?_⟩
  have hs := slF_ok h0
  have hC1 := fun w' h => slotsBetween_any v l f (f + 16) w' (hv.below (w' := w') h) ho hs.len hs.ris (by omega)
  have hC2 := fun w' h => slotsBetween_any v l (f + 16) (f + 32) w' (hv.below (w' := w') h) ho hs.len hs.ris (by omega)
  have hP1 := fun v w h => partSum_any v (cut l f (f + 16)) 4 w h (Nat.le_trans (cut_len _ _ _) hs.len) (cut_ris hs.ris _ _) (fun p hp => hs.fin p (cut_mem.1 hp).1) (by omega)
  have hP2 := fun v w h => partSum_any v (cut l (f + 16) (f + 32)) 4 w h (Nat.le_trans (cut_len _ _ _) hs.len) (cut_ris hs.ris _ _) (fun p hp => hs.fin p (cut_mem.1 hp).1) (by omega)
  rw [nd_sideK hs.ris hs.fin 4 16 (2 * q) f (f + 16) rfl (by have := HF.out; omega) rfl] at hP1
  rw [nd_sideK hs.ris hs.fin 4 16 (2 * q + 1) (f + 16) (f + 32) rfl (by have := HF.out; omega) (by omega)] at hP2
  have hT := fun u w hu => implTagBytes_any 2 u [nd l 4 (2 * q), nd l 4 (2 * q + 1)] w hu (by simp)
  have htg := tg_ok (tag := 2) (xs := [nd l 4 (2 * q), nd l 4 (2 * q + 1)]) rfl (by simp) (by have := nd_bd l 4 (2 * q); have := nd_bd l 4 (2 * q + 1); simp [sumB_iff]; omega)
  rw [htg.1, htg.2] at hT
  rw [show ptL l 5 q = tagL 2 [nd l 4 (2 * q), nd l 4 (2 * q + 1)] from rfl]
  generalize tagL 2 [nd l 4 (2 * q), nd l 4 (2 * q + 1)] = ys at *
  generalize nd l 4 (2 * q) = x at *
  generalize nd l 4 (2 * q + 1) = y at *
  obtain ⟨c1, hc1⟩ : ∃ c1, c1 = cut l f (f + 16) := ⟨_, rfl⟩
  obtain ⟨c2, hc2⟩ : ∃ c2, c2 = cut l (f + 16) (f + 32) := ⟨_, rfl⟩
  rw [← hc1] at hC1 hP1
  rw [← hc2] at hC2 hP2
  obtain ⟨a, c, rfl⟩ := hv.shape
  generalize l.length = n at *
  clear hv ho h0 hs htg hc1 hc2
  have hE0 := EmB.new w 93
  obtain ⟨W, hW⟩ : ∃ W, W = w.alloc (.cells emL.toArray 93) := ⟨_, rfl⟩
  have HW : Hid (w.alloc (.cells emL.toArray 93) = W) := hW.symm
  have hBW : Below w.heap.size w W := by rw [hW]; exact one_new _
  rw [← hW] at hE0
  have HE0 : Hid (∀ w', Below W.heap.size W w' → w'.rangeAt w.heap.size 0 emL) := fun w' h => (hE0.below h).r
  have hul := Tryd.underlying93
  have hil := Tryd.infoLs
  have hld : ∀ (w' : World), w'.rangeAt w.heap.size 0 emL → ∀ (a : Act) (o : Oper), o.op = .load 93 (.tmp 7) → a.eval (.tmp 7) = .pointer (some ⟨w.heap.size, 0, none⟩) → (execOp a.eval o).run Tryd.prog w' = .ok (Next.value (.agg emL.toArray)) w' := fun w' h a o h1 h2 => ex_load_mid _ _ h1 _ _ h2 emL _ h hul rfl hil
  clear hul hil
  rw [emL_arr] at hP1 hP2
  clear hW hE0
  generalize emL = cs at *
  go_enter Tryd.func56, Tryd.ntmps56
  go_wp2_with fail
  rw [HW.out]
  refine (hC1 _ hBW).mono ?_
  rintro e w1 ⟨⟨a1, d1, rfl, hp1, -⟩, hb1⟩
  have hB1 := below_after_of hBW hb1
  have hp1 := hp1.below hb1
  clear hC1
  go_wp2_with fail
  refine (hC2 _ hB1).mono ?_
  rintro e w2 ⟨⟨a2, d2, rfl, hp2, -⟩, hb2⟩
  have hB2 := below_after_of hB1 hb2
  have hp1 := hp1.below hb2
  have hp2 := hp2.below hb2
  have HE : Hid (∀ w', Below w2.heap.size w2 w' → w'.rangeAt w.heap.size 0 cs) := fun w' h => HE0.out w' (below_after_of (below_after_of hb1 hb2) h)
  have hbr := Below.refl w2.heap.size w2
  have hp2' := fun w' h => hp2.below (w' := w') h
  have hp1' := fun w' h => hp1.below (w' := w') h
  have e0 := HE.out _ hbr
  generalize c1.length = m1 at *
  generalize c2.length = m2 at *
  clear hC2 hb1 hb2 hp1 hp2 hB1 HE0
  go_wp2
  refine wp_region_held_drew (S := fun w' => w'.rangeAt w.heap.size 0 cs) (by kernel_rfl) (HE.out _ hbr.drew) (fun hHeld => ?_)
  refine h_take (i := 0) (d := (some 36)) (v := ?vp1) (by rfl) (by kernel_rfl) (by kernel_rfl) (by kernel_rfl) (fun _ _ _ h => h) (by rfl) ?hyp1 hHeld ?restp1
  case hyp1 =>
    intro o ho
    simp only [List.getElem?_toArray, List.getElem?_cons_zero, Option.some.injEq] at ho
    subst ho
    intro w' hSw
    first | (go_simp; done) | (go_simp; with_reducible rfl)
  try simp only [Act.put, List.setIfInBounds_toArray, List.set_cons_zero, List.set_cons_succ]
  refine h_take (i := 1) (d := (some 37)) (v := ?vp2) (by rfl) (by kernel_rfl) (by kernel_rfl) (by kernel_rfl) (fun _ _ _ h => h) (by rfl) ?hyp2 hHeld ?restp2
  case hyp2 =>
    intro o ho
    simp only [List.getElem?_toArray, List.getElem?_cons_succ, List.getElem?_cons_zero, Option.some.injEq] at ho
    subst ho
    intro w' hSw
    first | (go_simp; done) | (go_simp; with_reducible rfl)
  try simp only [Act.put, List.setIfInBounds_toArray, List.set_cons_zero, List.set_cons_succ]
  refine h_take (i := 2) (d := (some 38)) (v := ?vp3) (by rfl) (by kernel_rfl) (by kernel_rfl) (by kernel_rfl) (fun _ _ _ h => h) (by rfl) ?hyp3 hHeld ?restp3
  case hyp3 =>
    intro o ho
    simp only [List.getElem?_toArray, List.getElem?_cons_succ, List.getElem?_cons_zero, Option.some.injEq] at ho
    subst ho
    intro w' hSw
    first | (go_simp; done) | (go_simp; with_reducible rfl)
  try simp only [Act.put, List.setIfInBounds_toArray, List.set_cons_zero, List.set_cons_succ]
  refine h_take (i := 3) (d := (some 39)) (v := ?vp4) (by rfl) (by kernel_rfl) (by kernel_rfl) (by kernel_rfl) (fun _ _ _ h => h) (by rfl) ?hyp4 hHeld ?restp4
  case hyp4 =>
    intro o ho
    simp only [List.getElem?_toArray, List.getElem?_cons_succ, List.getElem?_cons_zero, Option.some.injEq] at ho
    subst ho
    intro w' hSw
    (rw [hld w' hSw] <;> first | with_reducible rfl | rfl)
  try simp only [Act.put, List.setIfInBounds_toArray, List.set_cons_zero, List.set_cons_succ]
  refine h_take (i := 5) (d := (some 41)) (v := ?vp5) (by rfl) (by kernel_rfl) (by kernel_rfl) (by kernel_rfl) (fun _ _ _ h => h) (by rfl) ?hyp5 hHeld ?restp5
  case hyp5 =>
    intro o ho
    simp only [List.getElem?_toArray, List.getElem?_cons_succ, List.getElem?_cons_zero, Option.some.injEq] at ho
    subst ho
    intro w' hSw
    first | (go_simp; done) | (go_simp; with_reducible rfl)
  try simp only [Act.put, List.setIfInBounds_toArray, List.set_cons_zero, List.set_cons_succ]
  refine h_take (i := 6) (d := (some 42)) (v := ?vp6) (by rfl) (by kernel_rfl) (by kernel_rfl) (by kernel_rfl) (fun _ _ _ h => h) (by rfl) ?hyp6 hHeld ?restp6
  case hyp6 =>
    intro o ho
    simp only [List.getElem?_toArray, List.getElem?_cons_succ, List.getElem?_cons_zero, Option.some.injEq] at ho
    subst ho
    intro w' hSw
    first | (go_simp; done) | (go_simp; with_reducible rfl)
  try simp only [Act.put, List.setIfInBounds_toArray, List.set_cons_zero, List.set_cons_succ]
  refine h_take (i := 7) (d := (some 43)) (v := ?vp7) (by rfl) (by kernel_rfl) (by kernel_rfl) (by kernel_rfl) (fun _ _ _ h => h) (by rfl) ?hyp7 hHeld ?restp7
  case hyp7 =>
    intro o ho
    simp only [List.getElem?_toArray, List.getElem?_cons_succ, List.getElem?_cons_zero, Option.some.injEq] at ho
    subst ho
    intro w' hSw
    first | (go_simp; done) | (go_simp; with_reducible rfl)
  try simp only [Act.put, List.setIfInBounds_toArray, List.set_cons_zero, List.set_cons_succ]
  refine h_take (i := 8) (d := (some 44)) (v := ?vp8) (by rfl) (by kernel_rfl) (by kernel_rfl) (by kernel_rfl) (fun _ _ _ h => h) (by rfl) ?hyp8 hHeld ?restp8
  case hyp8 =>
    intro o ho
    simp only [List.getElem?_toArray, List.getElem?_cons_succ, List.getElem?_cons_zero, Option.some.injEq] at ho
    subst ho
    intro w' hSw
    (rw [hld w' hSw] <;> first | with_reducible rfl | rfl)
  try simp only [Act.put, List.setIfInBounds_toArray, List.set_cons_zero, List.set_cons_succ]
  refine wpAnyH_ready (rs := [4]) (by kernel_rfl) (by simp) ?_
  refine AllReadyH.cons rfl (fun K hK => ?_) AllReadyH.nil
  go_simp
  refine (hP1 _ _ (hp1' _ hbr.drew)).mono ?_
  rintro e wq ⟨rfl, hbq⟩
  have hbr : Below w2.heap.size w2 wq := below_after_of hbr.drew hbq
  refine hK.out _ _ ?_ (fun hHeld => ?_)
  · first | exact HE.out _ hbr | exact HE.out _ (hbr.alloc hbr.size _)
  clear hK K
  try simp only [Act.put, List.setIfInBounds_toArray, List.set_cons_zero, List.set_cons_succ]
  refine wpAnyH_ready (rs := [9]) (by kernel_rfl) (by simp) ?_
  refine AllReadyH.cons rfl (fun K hK => ?_) AllReadyH.nil
  go_simp
  refine (hP2 _ _ (hp2' _ hbr)).mono ?_
  rintro e wr ⟨rfl, hbq2⟩
  have hbr : Below w2.heap.size w2 wr := below_after_of hbr hbq2
  refine hK.out _ _ ?_ (fun hHeld => ?_)
  · first | exact HE.out _ hbr | exact HE.out _ (hbr.alloc hbr.size _)
  clear hK K
  try simp only [Act.put, List.setIfInBounds_toArray, List.set_cons_zero, List.set_cons_succ]
  refine wpAnyH_ready (rs := [10]) (by kernel_rfl) (by simp) ?_
  refine AllReadyH.cons rfl (fun K hK => ?_) AllReadyH.nil
  go_simp
  try skip
  refine hK.out _ _ ?_ (fun hHeld => ?_)
  · first | exact HE.out _ hbr | exact HE.out _ (hbr.alloc hbr.size _)
  clear hK K
  try simp only [Act.put, List.setIfInBounds_toArray, List.set_cons_zero, List.set_cons_succ]
  refine h_take (i := 11) (d := (some 12)) (v := ?vp9) (by rfl) (by kernel_rfl) (by kernel_rfl) (by kernel_rfl) (fun _ _ _ h => h) (by rfl) ?hyp9 hHeld ?restp9
  case hyp9 =>
    intro o ho
    simp only [List.getElem?_toArray, List.getElem?_cons_succ, List.getElem?_cons_zero, Option.some.injEq] at ho
    subst ho
    intro w' hSw
    first | (go_simp; done) | (go_simp; with_reducible rfl)
  try simp only [Act.put, List.setIfInBounds_toArray, List.set_cons_zero, List.set_cons_succ]
  refine wpAnyH_done (by kernel_rfl) ?_ _
  have hNA := one_new (w := wr) (.cells #[.int .i64 x, .int .i64 y] 2)
  have hB3 := below_after_of (below_after_of hB2 hbr) hNA
  clear hP1 hP2 hp1' hp2' hbq hbq2 HE e0 hld
  go_wp2_with fail
  refine (hT _ _ (two_ints_at rfl)).mono ?_
  intro e w4 h4
  obtain ⟨a4, c4, rfl, hb4, own4⟩ := h4.use
  have kf := fun w => field_BR1 0 a4 ys.length c4 w
  have HO : Hid (w4.ownsRow w.heap.size 5 1 (.slice a4 ys.length c4) ys.length (ys.map (Value.int .u8))) := own_mono own4 hB3.size
  have hB4 := below_after_of hB3 hb4
  clear hT h4 own4 hb4
  go_wp2
  go_ret
  exact ⟨_, rfl, HO.out, hB4⟩
set_option maxRecDepth 100000 in
set_option maxHeartbeats 2000000 in
theorem partBytes_6 {l : Prl} {f q : Int} (h0 : slF l = 0) (HF : Hid (f = q * 64)) (hq : 0 ≤ f ∧ f ≤ 255) : PbAt l 6 f q := by
  refine ⟨fun v w hv ho => ?_⟩
  have hs := slF_ok h0
  have hC1 := fun w' h => slotsBetween_any v l f (f + 32) w' (hv.below (w' := w') h) ho hs.len hs.ris (by omega)
  have hC2 := fun w' h => slotsBetween_any v l (f + 32) (f + 64) w' (hv.below (w' := w') h) ho hs.len hs.ris (by omega)
  have hP1 := fun v w h => partSum_any v (cut l f (f + 32)) 5 w h (Nat.le_trans (cut_len _ _ _) hs.len) (cut_ris hs.ris _ _) (fun p hp => hs.fin p (cut_mem.1 hp).1) (by omega)
  have hP2 := fun v w h => partSum_any v (cut l (f + 32) (f + 64)) 5 w h (Nat.le_trans (cut_len _ _ _) hs.len) (cut_ris hs.ris _ _) (fun p hp => hs.fin p (cut_mem.1 hp).1) (by omega)
  rw [nd_sideK hs.ris hs.fin 5 32 (2 * q) f (f + 32) rfl (by have := HF.out; omega) rfl] at hP1
  rw [nd_sideK hs.ris hs.fin 5 32 (2 * q + 1) (f + 32) (f + 64) rfl (by have := HF.out; omega) (by omega)] at hP2
  have hT := fun u w hu => implTagBytes_any 2 u [nd l 5 (2 * q), nd l 5 (2 * q + 1)] w hu (by simp)
  have htg := tg_ok (tag := 2) (xs := [nd l 5 (2 * q), nd l 5 (2 * q + 1)]) rfl (by simp) (by have := nd_bd l 5 (2 * q); have := nd_bd l 5 (2 * q + 1); simp [sumB_iff]; omega)
  rw [htg.1, htg.2] at hT
  rw [show ptL l 6 q = tagL 2 [nd l 5 (2 * q), nd l 5 (2 * q + 1)] from rfl]
  generalize tagL 2 [nd l 5 (2 * q), nd l 5 (2 * q + 1)] = ys at *
  generalize nd l 5 (2 * q) = x at *
  generalize nd l 5 (2 * q + 1) = y at *
  obtain ⟨c1, hc1⟩ : ∃ c1, c1 = cut l f (f + 32) := ⟨_, rfl⟩
  obtain ⟨c2, hc2⟩ : ∃ c2, c2 = cut l (f + 32) (f + 64) := ⟨_, rfl⟩
  rw [← hc1] at hC1 hP1
  rw [← hc2] at hC2 hP2
  obtain ⟨a, c, rfl⟩ := hv.shape
  generalize l.length = n at *
  clear hv ho h0 hs htg hc1 hc2
  have hE0 := EmB.new w 93
  obtain ⟨W, hW⟩ : ∃ W, W = w.alloc (.cells emL.toArray 93) := ⟨_, rfl⟩
  have HW : Hid (w.alloc (.cells emL.toArray 93) = W) := hW.symm
  have hBW : Below w.heap.size w W := by rw [hW]; exact one_new _
  rw [← hW] at hE0
  have HE0 : Hid (∀ w', Below W.heap.size W w' → w'.rangeAt w.heap.size 0 emL) := fun w' h => (hE0.below h).r
  have hul := Tryd.underlying93
  have hil := Tryd.infoLs
  have hld : ∀ (w' : World), w'.rangeAt w.heap.size 0 emL → ∀ (a : Act) (o : Oper), o.op = .load 93 (.tmp 7) → a.eval (.tmp 7) = .pointer (some ⟨w.heap.size, 0, none⟩) → (execOp a.eval o).run Tryd.prog w' = .ok (Next.value (.agg emL.toArray)) w' := fun w' h a o h1 h2 => ex_load_mid _ _ h1 _ _ h2 emL _ h hul rfl hil
  clear hul hil
  rw [emL_arr] at hP1 hP2
  clear hW hE0
  generalize emL = cs at *
  go_enter Tryd.func56, Tryd.ntmps56
  go_wp2_with fail
  rw [HW.out]
  refine (hC1 _ hBW).mono ?_
  rintro e w1 ⟨⟨a1, d1, rfl, hp1, -⟩, hb1⟩
  have hB1 := below_after_of hBW hb1
  have hp1 := hp1.below hb1
  clear hC1
  go_wp2_with fail
  refine (hC2 _ hB1).mono ?_
  rintro e w2 ⟨⟨a2, d2, rfl, hp2, -⟩, hb2⟩
  have hB2 := below_after_of hB1 hb2
  have hp1 := hp1.below hb2
  have hp2 := hp2.below hb2
  have HE : Hid (∀ w', Below w2.heap.size w2 w' → w'.rangeAt w.heap.size 0 cs) := fun w' h => HE0.out w' (below_after_of (below_after_of hb1 hb2) h)
  have hbr := Below.refl w2.heap.size w2
  have hp2' := fun w' h => hp2.below (w' := w') h
  have hp1' := fun w' h => hp1.below (w' := w') h
  have e0 := HE.out _ hbr
  generalize c1.length = m1 at *
  generalize c2.length = m2 at *
  clear hC2 hb1 hb2 hp1 hp2 hB1 HE0
  go_wp2
  refine wp_region_held_drew (S := fun w' => w'.rangeAt w.heap.size 0 cs) (by kernel_rfl) (HE.out _ hbr.drew) (fun hHeld => ?_)
  refine h_take (i := 0) (d := (some 36)) (v := ?vp1) (by rfl) (by kernel_rfl) (by kernel_rfl) (by kernel_rfl) (fun _ _ _ h => h) (by rfl) ?hyp1 hHeld ?restp1
  case hyp1 =>
    intro o ho
    simp only [List.getElem?_toArray, List.getElem?_cons_zero, Option.some.injEq] at ho
    subst ho
    intro w' hSw
    first | (go_simp; done) | (go_simp; with_reducible rfl)
  try simp only [Act.put, List.setIfInBounds_toArray, List.set_cons_zero, List.set_cons_succ]
  refine h_take (i := 1) (d := (some 37)) (v := ?vp2) (by rfl) (by kernel_rfl) (by kernel_rfl) (by kernel_rfl) (fun _ _ _ h => h) (by rfl) ?hyp2 hHeld ?restp2
  case hyp2 =>
    intro o ho
    simp only [List.getElem?_toArray, List.getElem?_cons_succ, List.getElem?_cons_zero, Option.some.injEq] at ho
    subst ho
    intro w' hSw
    first | (go_simp; done) | (go_simp; with_reducible rfl)
  try simp only [Act.put, List.setIfInBounds_toArray, List.set_cons_zero, List.set_cons_succ]
  refine h_take (i := 2) (d := (some 38)) (v := ?vp3) (by rfl) (by kernel_rfl) (by kernel_rfl) (by kernel_rfl) (fun _ _ _ h => h) (by rfl) ?hyp3 hHeld ?restp3
  case hyp3 =>
    intro o ho
    simp only [List.getElem?_toArray, List.getElem?_cons_succ, List.getElem?_cons_zero, Option.some.injEq] at ho
    subst ho
    intro w' hSw
    first | (go_simp; done) | (go_simp; with_reducible rfl)
  try simp only [Act.put, List.setIfInBounds_toArray, List.set_cons_zero, List.set_cons_succ]
  refine h_take (i := 3) (d := (some 39)) (v := ?vp4) (by rfl) (by kernel_rfl) (by kernel_rfl) (by kernel_rfl) (fun _ _ _ h => h) (by rfl) ?hyp4 hHeld ?restp4
  case hyp4 =>
    intro o ho
    simp only [List.getElem?_toArray, List.getElem?_cons_succ, List.getElem?_cons_zero, Option.some.injEq] at ho
    subst ho
    intro w' hSw
    (rw [hld w' hSw] <;> first | with_reducible rfl | rfl)
  try simp only [Act.put, List.setIfInBounds_toArray, List.set_cons_zero, List.set_cons_succ]
  refine h_take (i := 5) (d := (some 41)) (v := ?vp5) (by rfl) (by kernel_rfl) (by kernel_rfl) (by kernel_rfl) (fun _ _ _ h => h) (by rfl) ?hyp5 hHeld ?restp5
  case hyp5 =>
    intro o ho
    simp only [List.getElem?_toArray, List.getElem?_cons_succ, List.getElem?_cons_zero, Option.some.injEq] at ho
    subst ho
    intro w' hSw
    first | (go_simp; done) | (go_simp; with_reducible rfl)
  try simp only [Act.put, List.setIfInBounds_toArray, List.set_cons_zero, List.set_cons_succ]
  refine h_take (i := 6) (d := (some 42)) (v := ?vp6) (by rfl) (by kernel_rfl) (by kernel_rfl) (by kernel_rfl) (fun _ _ _ h => h) (by rfl) ?hyp6 hHeld ?restp6
  case hyp6 =>
    intro o ho
    simp only [List.getElem?_toArray, List.getElem?_cons_succ, List.getElem?_cons_zero, Option.some.injEq] at ho
    subst ho
    intro w' hSw
    first | (go_simp; done) | (go_simp; with_reducible rfl)
  try simp only [Act.put, List.setIfInBounds_toArray, List.set_cons_zero, List.set_cons_succ]
  refine h_take (i := 7) (d := (some 43)) (v := ?vp7) (by rfl) (by kernel_rfl) (by kernel_rfl) (by kernel_rfl) (fun _ _ _ h => h) (by rfl) ?hyp7 hHeld ?restp7
  case hyp7 =>
    intro o ho
    simp only [List.getElem?_toArray, List.getElem?_cons_succ, List.getElem?_cons_zero, Option.some.injEq] at ho
    subst ho
    intro w' hSw
    first | (go_simp; done) | (go_simp; with_reducible rfl)
  try simp only [Act.put, List.setIfInBounds_toArray, List.set_cons_zero, List.set_cons_succ]
  refine h_take (i := 8) (d := (some 44)) (v := ?vp8) (by rfl) (by kernel_rfl) (by kernel_rfl) (by kernel_rfl) (fun _ _ _ h => h) (by rfl) ?hyp8 hHeld ?restp8
  case hyp8 =>
    intro o ho
    simp only [List.getElem?_toArray, List.getElem?_cons_succ, List.getElem?_cons_zero, Option.some.injEq] at ho
    subst ho
    intro w' hSw
    (rw [hld w' hSw] <;> first | with_reducible rfl | rfl)
  try simp only [Act.put, List.setIfInBounds_toArray, List.set_cons_zero, List.set_cons_succ]
  refine wpAnyH_ready (rs := [4]) (by kernel_rfl) (by simp) ?_
  refine AllReadyH.cons rfl (fun K hK => ?_) AllReadyH.nil
  go_simp
  refine (hP1 _ _ (hp1' _ hbr.drew)).mono ?_
  rintro e wq ⟨rfl, hbq⟩
  have hbr : Below w2.heap.size w2 wq := below_after_of hbr.drew hbq
  refine hK.out _ _ ?_ (fun hHeld => ?_)
  · first | exact HE.out _ hbr | exact HE.out _ (hbr.alloc hbr.size _)
  clear hK K
  try simp only [Act.put, List.setIfInBounds_toArray, List.set_cons_zero, List.set_cons_succ]
  refine wpAnyH_ready (rs := [9]) (by kernel_rfl) (by simp) ?_
  refine AllReadyH.cons rfl (fun K hK => ?_) AllReadyH.nil
  go_simp
  refine (hP2 _ _ (hp2' _ hbr)).mono ?_
  rintro e wr ⟨rfl, hbq2⟩
  have hbr : Below w2.heap.size w2 wr := below_after_of hbr hbq2
  refine hK.out _ _ ?_ (fun hHeld => ?_)
  · first | exact HE.out _ hbr | exact HE.out _ (hbr.alloc hbr.size _)
  clear hK K
  try simp only [Act.put, List.setIfInBounds_toArray, List.set_cons_zero, List.set_cons_succ]
  refine wpAnyH_ready (rs := [10]) (by kernel_rfl) (by simp) ?_
  refine AllReadyH.cons rfl (fun K hK => ?_) AllReadyH.nil
  go_simp
  try skip
  refine hK.out _ _ ?_ (fun hHeld => ?_)
  · first | exact HE.out _ hbr | exact HE.out _ (hbr.alloc hbr.size _)
  clear hK K
  try simp only [Act.put, List.setIfInBounds_toArray, List.set_cons_zero, List.set_cons_succ]
  refine h_take (i := 11) (d := (some 12)) (v := ?vp9) (by rfl) (by kernel_rfl) (by kernel_rfl) (by kernel_rfl) (fun _ _ _ h => h) (by rfl) ?hyp9 hHeld ?restp9
  case hyp9 =>
    intro o ho
    simp only [List.getElem?_toArray, List.getElem?_cons_succ, List.getElem?_cons_zero, Option.some.injEq] at ho
    subst ho
    intro w' hSw
    first | (go_simp; done) | (go_simp; with_reducible rfl)
  try simp only [Act.put, List.setIfInBounds_toArray, List.set_cons_zero, List.set_cons_succ]
  refine wpAnyH_done (by kernel_rfl) ?_ _
  have hNA := one_new (w := wr) (.cells #[.int .i64 x, .int .i64 y] 2)
  have hB3 := below_after_of (below_after_of hB2 hbr) hNA
  clear hP1 hP2 hp1' hp2' hbq hbq2 HE e0 hld
  go_wp2_with fail
  refine (hT _ _ (two_ints_at rfl)).mono ?_
  intro e w4 h4
  obtain ⟨a4, c4, rfl, hb4, own4⟩ := h4.use
  have kf := fun w => field_BR1 0 a4 ys.length c4 w
  have HO : Hid (w4.ownsRow w.heap.size 5 1 (.slice a4 ys.length c4) ys.length (ys.map (Value.int .u8))) := own_mono own4 hB3.size
  have hB4 := below_after_of hB3 hb4
  clear hT h4 own4 hb4
  go_wp2
  go_ret
  exact ⟨_, rfl, HO.out, hB4⟩
set_option maxRecDepth 100000 in
set_option maxHeartbeats 2000000 in
theorem partBytes_7 {l : Prl} {f q : Int} (h0 : slF l = 0) (HF : Hid (f = q * 128)) (hq : 0 ≤ f ∧ f ≤ 255) : PbAt l 7 f q := by
  refine ⟨fun v w hv ho => ?_⟩
  have hs := slF_ok h0
  have hC1 := fun w' h => slotsBetween_any v l f (f + 64) w' (hv.below (w' := w') h) ho hs.len hs.ris (by omega)
  have hC2 := fun w' h => slotsBetween_any v l (f + 64) (f + 128) w' (hv.below (w' := w') h) ho hs.len hs.ris (by omega)
  have hP1 := fun v w h => partSum_any v (cut l f (f + 64)) 6 w h (Nat.le_trans (cut_len _ _ _) hs.len) (cut_ris hs.ris _ _) (fun p hp => hs.fin p (cut_mem.1 hp).1) (by omega)
  have hP2 := fun v w h => partSum_any v (cut l (f + 64) (f + 128)) 6 w h (Nat.le_trans (cut_len _ _ _) hs.len) (cut_ris hs.ris _ _) (fun p hp => hs.fin p (cut_mem.1 hp).1) (by omega)
  rw [nd_sideK hs.ris hs.fin 6 64 (2 * q) f (f + 64) rfl (by have := HF.out; omega) rfl] at hP1
  rw [nd_sideK hs.ris hs.fin 6 64 (2 * q + 1) (f + 64) (f + 128) rfl (by have := HF.out; omega) (by omega)] at hP2
  have hT := fun u w hu => implTagBytes_any 2 u [nd l 6 (2 * q), nd l 6 (2 * q + 1)] w hu (by simp)
  have htg := tg_ok (tag := 2) (xs := [nd l 6 (2 * q), nd l 6 (2 * q + 1)]) rfl (by simp) (by have := nd_bd l 6 (2 * q); have := nd_bd l 6 (2 * q + 1); simp [sumB_iff]; omega)
  rw [htg.1, htg.2] at hT
  rw [show ptL l 7 q = tagL 2 [nd l 6 (2 * q), nd l 6 (2 * q + 1)] from rfl]
  generalize tagL 2 [nd l 6 (2 * q), nd l 6 (2 * q + 1)] = ys at *
  generalize nd l 6 (2 * q) = x at *
  generalize nd l 6 (2 * q + 1) = y at *
  obtain ⟨c1, hc1⟩ : ∃ c1, c1 = cut l f (f + 64) := ⟨_, rfl⟩
  obtain ⟨c2, hc2⟩ : ∃ c2, c2 = cut l (f + 64) (f + 128) := ⟨_, rfl⟩
  rw [← hc1] at hC1 hP1
  rw [← hc2] at hC2 hP2
  obtain ⟨a, c, rfl⟩ := hv.shape
  generalize l.length = n at *
  clear hv ho h0 hs htg hc1 hc2
  have hE0 := EmB.new w 93
  obtain ⟨W, hW⟩ : ∃ W, W = w.alloc (.cells emL.toArray 93) := ⟨_, rfl⟩
  have HW : Hid (w.alloc (.cells emL.toArray 93) = W) := hW.symm
  have hBW : Below w.heap.size w W := by rw [hW]; exact one_new _
  rw [← hW] at hE0
  have HE0 : Hid (∀ w', Below W.heap.size W w' → w'.rangeAt w.heap.size 0 emL) := fun w' h => (hE0.below h).r
  have hul := Tryd.underlying93
  have hil := Tryd.infoLs
  have hld : ∀ (w' : World), w'.rangeAt w.heap.size 0 emL → ∀ (a : Act) (o : Oper), o.op = .load 93 (.tmp 7) → a.eval (.tmp 7) = .pointer (some ⟨w.heap.size, 0, none⟩) → (execOp a.eval o).run Tryd.prog w' = .ok (Next.value (.agg emL.toArray)) w' := fun w' h a o h1 h2 => ex_load_mid _ _ h1 _ _ h2 emL _ h hul rfl hil
  clear hul hil
  rw [emL_arr] at hP1 hP2
  clear hW hE0
  generalize emL = cs at *
  go_enter Tryd.func56, Tryd.ntmps56
  go_wp2_with fail
  rw [HW.out]
  refine (hC1 _ hBW).mono ?_
  rintro e w1 ⟨⟨a1, d1, rfl, hp1, -⟩, hb1⟩
  have hB1 := below_after_of hBW hb1
  have hp1 := hp1.below hb1
  clear hC1
  go_wp2_with fail
  refine (hC2 _ hB1).mono ?_
  rintro e w2 ⟨⟨a2, d2, rfl, hp2, -⟩, hb2⟩
  have hB2 := below_after_of hB1 hb2
  have hp1 := hp1.below hb2
  have hp2 := hp2.below hb2
  have HE : Hid (∀ w', Below w2.heap.size w2 w' → w'.rangeAt w.heap.size 0 cs) := fun w' h => HE0.out w' (below_after_of (below_after_of hb1 hb2) h)
  have hbr := Below.refl w2.heap.size w2
  have hp2' := fun w' h => hp2.below (w' := w') h
  have hp1' := fun w' h => hp1.below (w' := w') h
  have e0 := HE.out _ hbr
  generalize c1.length = m1 at *
  generalize c2.length = m2 at *
  clear hC2 hb1 hb2 hp1 hp2 hB1 HE0
  go_wp2
  refine wp_region_held_drew (S := fun w' => w'.rangeAt w.heap.size 0 cs) (by kernel_rfl) (HE.out _ hbr.drew) (fun hHeld => ?_)
  refine h_take (i := 0) (d := (some 36)) (v := ?vp1) (by rfl) (by kernel_rfl) (by kernel_rfl) (by kernel_rfl) (fun _ _ _ h => h) (by rfl) ?hyp1 hHeld ?restp1
  case hyp1 =>
    intro o ho
    simp only [List.getElem?_toArray, List.getElem?_cons_zero, Option.some.injEq] at ho
    subst ho
    intro w' hSw
    first | (go_simp; done) | (go_simp; with_reducible rfl)
  try simp only [Act.put, List.setIfInBounds_toArray, List.set_cons_zero, List.set_cons_succ]
  refine h_take (i := 1) (d := (some 37)) (v := ?vp2) (by rfl) (by kernel_rfl) (by kernel_rfl) (by kernel_rfl) (fun _ _ _ h => h) (by rfl) ?hyp2 hHeld ?restp2
  case hyp2 =>
    intro o ho
    simp only [List.getElem?_toArray, List.getElem?_cons_succ, List.getElem?_cons_zero, Option.some.injEq] at ho
    subst ho
    intro w' hSw
    first | (go_simp; done) | (go_simp; with_reducible rfl)
  try simp only [Act.put, List.setIfInBounds_toArray, List.set_cons_zero, List.set_cons_succ]
  refine h_take (i := 2) (d := (some 38)) (v := ?vp3) (by rfl) (by kernel_rfl) (by kernel_rfl) (by kernel_rfl) (fun _ _ _ h => h) (by rfl) ?hyp3 hHeld ?restp3
  case hyp3 =>
    intro o ho
    simp only [List.getElem?_toArray, List.getElem?_cons_succ, List.getElem?_cons_zero, Option.some.injEq] at ho
    subst ho
    intro w' hSw
    first | (go_simp; done) | (go_simp; with_reducible rfl)
  try simp only [Act.put, List.setIfInBounds_toArray, List.set_cons_zero, List.set_cons_succ]
  refine h_take (i := 3) (d := (some 39)) (v := ?vp4) (by rfl) (by kernel_rfl) (by kernel_rfl) (by kernel_rfl) (fun _ _ _ h => h) (by rfl) ?hyp4 hHeld ?restp4
  case hyp4 =>
    intro o ho
    simp only [List.getElem?_toArray, List.getElem?_cons_succ, List.getElem?_cons_zero, Option.some.injEq] at ho
    subst ho
    intro w' hSw
    (rw [hld w' hSw] <;> first | with_reducible rfl | rfl)
  try simp only [Act.put, List.setIfInBounds_toArray, List.set_cons_zero, List.set_cons_succ]
  refine h_take (i := 5) (d := (some 41)) (v := ?vp5) (by rfl) (by kernel_rfl) (by kernel_rfl) (by kernel_rfl) (fun _ _ _ h => h) (by rfl) ?hyp5 hHeld ?restp5
  case hyp5 =>
    intro o ho
    simp only [List.getElem?_toArray, List.getElem?_cons_succ, List.getElem?_cons_zero, Option.some.injEq] at ho
    subst ho
    intro w' hSw
    first | (go_simp; done) | (go_simp; with_reducible rfl)
  try simp only [Act.put, List.setIfInBounds_toArray, List.set_cons_zero, List.set_cons_succ]
  refine h_take (i := 6) (d := (some 42)) (v := ?vp6) (by rfl) (by kernel_rfl) (by kernel_rfl) (by kernel_rfl) (fun _ _ _ h => h) (by rfl) ?hyp6 hHeld ?restp6
  case hyp6 =>
    intro o ho
    simp only [List.getElem?_toArray, List.getElem?_cons_succ, List.getElem?_cons_zero, Option.some.injEq] at ho
    subst ho
    intro w' hSw
    first | (go_simp; done) | (go_simp; with_reducible rfl)
  try simp only [Act.put, List.setIfInBounds_toArray, List.set_cons_zero, List.set_cons_succ]
  refine h_take (i := 7) (d := (some 43)) (v := ?vp7) (by rfl) (by kernel_rfl) (by kernel_rfl) (by kernel_rfl) (fun _ _ _ h => h) (by rfl) ?hyp7 hHeld ?restp7
  case hyp7 =>
    intro o ho
    simp only [List.getElem?_toArray, List.getElem?_cons_succ, List.getElem?_cons_zero, Option.some.injEq] at ho
    subst ho
    intro w' hSw
    first | (go_simp; done) | (go_simp; with_reducible rfl)
  try simp only [Act.put, List.setIfInBounds_toArray, List.set_cons_zero, List.set_cons_succ]
  refine h_take (i := 8) (d := (some 44)) (v := ?vp8) (by rfl) (by kernel_rfl) (by kernel_rfl) (by kernel_rfl) (fun _ _ _ h => h) (by rfl) ?hyp8 hHeld ?restp8
  case hyp8 =>
    intro o ho
    simp only [List.getElem?_toArray, List.getElem?_cons_succ, List.getElem?_cons_zero, Option.some.injEq] at ho
    subst ho
    intro w' hSw
    (rw [hld w' hSw] <;> first | with_reducible rfl | rfl)
  try simp only [Act.put, List.setIfInBounds_toArray, List.set_cons_zero, List.set_cons_succ]
  refine wpAnyH_ready (rs := [4]) (by kernel_rfl) (by simp) ?_
  refine AllReadyH.cons rfl (fun K hK => ?_) AllReadyH.nil
  go_simp
  refine (hP1 _ _ (hp1' _ hbr.drew)).mono ?_
  rintro e wq ⟨rfl, hbq⟩
  have hbr : Below w2.heap.size w2 wq := below_after_of hbr.drew hbq
  refine hK.out _ _ ?_ (fun hHeld => ?_)
  · first | exact HE.out _ hbr | exact HE.out _ (hbr.alloc hbr.size _)
  clear hK K
  try simp only [Act.put, List.setIfInBounds_toArray, List.set_cons_zero, List.set_cons_succ]
  refine wpAnyH_ready (rs := [9]) (by kernel_rfl) (by simp) ?_
  refine AllReadyH.cons rfl (fun K hK => ?_) AllReadyH.nil
  go_simp
  refine (hP2 _ _ (hp2' _ hbr)).mono ?_
  rintro e wr ⟨rfl, hbq2⟩
  have hbr : Below w2.heap.size w2 wr := below_after_of hbr hbq2
  refine hK.out _ _ ?_ (fun hHeld => ?_)
  · first | exact HE.out _ hbr | exact HE.out _ (hbr.alloc hbr.size _)
  clear hK K
  try simp only [Act.put, List.setIfInBounds_toArray, List.set_cons_zero, List.set_cons_succ]
  refine wpAnyH_ready (rs := [10]) (by kernel_rfl) (by simp) ?_
  refine AllReadyH.cons rfl (fun K hK => ?_) AllReadyH.nil
  go_simp
  try skip
  refine hK.out _ _ ?_ (fun hHeld => ?_)
  · first | exact HE.out _ hbr | exact HE.out _ (hbr.alloc hbr.size _)
  clear hK K
  try simp only [Act.put, List.setIfInBounds_toArray, List.set_cons_zero, List.set_cons_succ]
  refine h_take (i := 11) (d := (some 12)) (v := ?vp9) (by rfl) (by kernel_rfl) (by kernel_rfl) (by kernel_rfl) (fun _ _ _ h => h) (by rfl) ?hyp9 hHeld ?restp9
  case hyp9 =>
    intro o ho
    simp only [List.getElem?_toArray, List.getElem?_cons_succ, List.getElem?_cons_zero, Option.some.injEq] at ho
    subst ho
    intro w' hSw
    first | (go_simp; done) | (go_simp; with_reducible rfl)
  try simp only [Act.put, List.setIfInBounds_toArray, List.set_cons_zero, List.set_cons_succ]
  refine wpAnyH_done (by kernel_rfl) ?_ _
  have hNA := one_new (w := wr) (.cells #[.int .i64 x, .int .i64 y] 2)
  have hB3 := below_after_of (below_after_of hB2 hbr) hNA
  clear hP1 hP2 hp1' hp2' hbq hbq2 HE e0 hld
  go_wp2_with fail
  refine (hT _ _ (two_ints_at rfl)).mono ?_
  intro e w4 h4
  obtain ⟨a4, c4, rfl, hb4, own4⟩ := h4.use
  have kf := fun w => field_BR1 0 a4 ys.length c4 w
  have HO : Hid (w4.ownsRow w.heap.size 5 1 (.slice a4 ys.length c4) ys.length (ys.map (Value.int .u8))) := own_mono own4 hB3.size
  have hB4 := below_after_of hB3 hb4
  clear hT h4 own4 hb4
  go_wp2
  go_ret
  exact ⟨_, rfl, HO.out, hB4⟩
set_option maxRecDepth 100000 in
set_option maxHeartbeats 2000000 in
theorem partBytes_8 {l : Prl} {f q : Int} (h0 : slF l = 0) (HF : Hid (f = q * 256)) (hq : 0 ≤ f ∧ f ≤ 255) : PbAt l 8 f q := by
  refine ⟨fun v w hv ho => ?_⟩
  have hs := slF_ok h0
  have hC1 := fun w' h => slotsBetween_any v l f (f + 128) w' (hv.below (w' := w') h) ho hs.len hs.ris (by omega)
  have hC2 := fun w' h => slotsBetween_any v l (f + 128) (f + 256) w' (hv.below (w' := w') h) ho hs.len hs.ris (by omega)
  have hP1 := fun v w h => partSum_any v (cut l f (f + 128)) 7 w h (Nat.le_trans (cut_len _ _ _) hs.len) (cut_ris hs.ris _ _) (fun p hp => hs.fin p (cut_mem.1 hp).1) (by omega)
  have hP2 := fun v w h => partSum_any v (cut l (f + 128) (f + 256)) 7 w h (Nat.le_trans (cut_len _ _ _) hs.len) (cut_ris hs.ris _ _) (fun p hp => hs.fin p (cut_mem.1 hp).1) (by omega)
  rw [nd_sideK hs.ris hs.fin 7 128 (2 * q) f (f + 128) rfl (by have := HF.out; omega) rfl] at hP1
  rw [nd_sideK hs.ris hs.fin 7 128 (2 * q + 1) (f + 128) (f + 256) rfl (by have := HF.out; omega) (by omega)] at hP2
  have hT := fun u w hu => implTagBytes_any 2 u [nd l 7 (2 * q), nd l 7 (2 * q + 1)] w hu (by simp)
  have htg := tg_ok (tag := 2) (xs := [nd l 7 (2 * q), nd l 7 (2 * q + 1)]) rfl (by simp) (by have := nd_bd l 7 (2 * q); have := nd_bd l 7 (2 * q + 1); simp [sumB_iff]; omega)
  rw [htg.1, htg.2] at hT
  rw [show ptL l 8 q = tagL 2 [nd l 7 (2 * q), nd l 7 (2 * q + 1)] from rfl]
  generalize tagL 2 [nd l 7 (2 * q), nd l 7 (2 * q + 1)] = ys at *
  generalize nd l 7 (2 * q) = x at *
  generalize nd l 7 (2 * q + 1) = y at *
  obtain ⟨c1, hc1⟩ : ∃ c1, c1 = cut l f (f + 128) := ⟨_, rfl⟩
  obtain ⟨c2, hc2⟩ : ∃ c2, c2 = cut l (f + 128) (f + 256) := ⟨_, rfl⟩
  rw [← hc1] at hC1 hP1
  rw [← hc2] at hC2 hP2
  obtain ⟨a, c, rfl⟩ := hv.shape
  generalize l.length = n at *
  clear hv ho h0 hs htg hc1 hc2
  have hE0 := EmB.new w 93
  obtain ⟨W, hW⟩ : ∃ W, W = w.alloc (.cells emL.toArray 93) := ⟨_, rfl⟩
  have HW : Hid (w.alloc (.cells emL.toArray 93) = W) := hW.symm
  have hBW : Below w.heap.size w W := by rw [hW]; exact one_new _
  rw [← hW] at hE0
  have HE0 : Hid (∀ w', Below W.heap.size W w' → w'.rangeAt w.heap.size 0 emL) := fun w' h => (hE0.below h).r
  have hul := Tryd.underlying93
  have hil := Tryd.infoLs
  have hld : ∀ (w' : World), w'.rangeAt w.heap.size 0 emL → ∀ (a : Act) (o : Oper), o.op = .load 93 (.tmp 7) → a.eval (.tmp 7) = .pointer (some ⟨w.heap.size, 0, none⟩) → (execOp a.eval o).run Tryd.prog w' = .ok (Next.value (.agg emL.toArray)) w' := fun w' h a o h1 h2 => ex_load_mid _ _ h1 _ _ h2 emL _ h hul rfl hil
  clear hul hil
  rw [emL_arr] at hP1 hP2
  clear hW hE0
  generalize emL = cs at *
  go_enter Tryd.func56, Tryd.ntmps56
  go_wp2_with fail
  rw [HW.out]
  refine (hC1 _ hBW).mono ?_
  rintro e w1 ⟨⟨a1, d1, rfl, hp1, -⟩, hb1⟩
  have hB1 := below_after_of hBW hb1
  have hp1 := hp1.below hb1
  clear hC1
  go_wp2_with fail
  refine (hC2 _ hB1).mono ?_
  rintro e w2 ⟨⟨a2, d2, rfl, hp2, -⟩, hb2⟩
  have hB2 := below_after_of hB1 hb2
  have hp1 := hp1.below hb2
  have hp2 := hp2.below hb2
  have HE : Hid (∀ w', Below w2.heap.size w2 w' → w'.rangeAt w.heap.size 0 cs) := fun w' h => HE0.out w' (below_after_of (below_after_of hb1 hb2) h)
  have hbr := Below.refl w2.heap.size w2
  have hp2' := fun w' h => hp2.below (w' := w') h
  have hp1' := fun w' h => hp1.below (w' := w') h
  have e0 := HE.out _ hbr
  generalize c1.length = m1 at *
  generalize c2.length = m2 at *
  clear hC2 hb1 hb2 hp1 hp2 hB1 HE0
  go_wp2
  refine wp_region_held_drew (S := fun w' => w'.rangeAt w.heap.size 0 cs) (by kernel_rfl) (HE.out _ hbr.drew) (fun hHeld => ?_)
  refine h_take (i := 0) (d := (some 36)) (v := ?vp1) (by rfl) (by kernel_rfl) (by kernel_rfl) (by kernel_rfl) (fun _ _ _ h => h) (by rfl) ?hyp1 hHeld ?restp1
  case hyp1 =>
    intro o ho
    simp only [List.getElem?_toArray, List.getElem?_cons_zero, Option.some.injEq] at ho
    subst ho
    intro w' hSw
    first | (go_simp; done) | (go_simp; with_reducible rfl)
  try simp only [Act.put, List.setIfInBounds_toArray, List.set_cons_zero, List.set_cons_succ]
  refine h_take (i := 1) (d := (some 37)) (v := ?vp2) (by rfl) (by kernel_rfl) (by kernel_rfl) (by kernel_rfl) (fun _ _ _ h => h) (by rfl) ?hyp2 hHeld ?restp2
  case hyp2 =>
    intro o ho
    simp only [List.getElem?_toArray, List.getElem?_cons_succ, List.getElem?_cons_zero, Option.some.injEq] at ho
    subst ho
    intro w' hSw
    first | (go_simp; done) | (go_simp; with_reducible rfl)
  try simp only [Act.put, List.setIfInBounds_toArray, List.set_cons_zero, List.set_cons_succ]
  refine h_take (i := 2) (d := (some 38)) (v := ?vp3) (by rfl) (by kernel_rfl) (by kernel_rfl) (by kernel_rfl) (fun _ _ _ h => h) (by rfl) ?hyp3 hHeld ?restp3
  case hyp3 =>
    intro o ho
    simp only [List.getElem?_toArray, List.getElem?_cons_succ, List.getElem?_cons_zero, Option.some.injEq] at ho
    subst ho
    intro w' hSw
    first | (go_simp; done) | (go_simp; with_reducible rfl)
  try simp only [Act.put, List.setIfInBounds_toArray, List.set_cons_zero, List.set_cons_succ]
  refine h_take (i := 3) (d := (some 39)) (v := ?vp4) (by rfl) (by kernel_rfl) (by kernel_rfl) (by kernel_rfl) (fun _ _ _ h => h) (by rfl) ?hyp4 hHeld ?restp4
  case hyp4 =>
    intro o ho
    simp only [List.getElem?_toArray, List.getElem?_cons_succ, List.getElem?_cons_zero, Option.some.injEq] at ho
    subst ho
    intro w' hSw
    (rw [hld w' hSw] <;> first | with_reducible rfl | rfl)
  try simp only [Act.put, List.setIfInBounds_toArray, List.set_cons_zero, List.set_cons_succ]
  refine h_take (i := 5) (d := (some 41)) (v := ?vp5) (by rfl) (by kernel_rfl) (by kernel_rfl) (by kernel_rfl) (fun _ _ _ h => h) (by rfl) ?hyp5 hHeld ?restp5
  case hyp5 =>
    intro o ho
    simp only [List.getElem?_toArray, List.getElem?_cons_succ, List.getElem?_cons_zero, Option.some.injEq] at ho
    subst ho
    intro w' hSw
    first | (go_simp; done) | (go_simp; with_reducible rfl)
  try simp only [Act.put, List.setIfInBounds_toArray, List.set_cons_zero, List.set_cons_succ]
  refine h_take (i := 6) (d := (some 42)) (v := ?vp6) (by rfl) (by kernel_rfl) (by kernel_rfl) (by kernel_rfl) (fun _ _ _ h => h) (by rfl) ?hyp6 hHeld ?restp6
  case hyp6 =>
    intro o ho
    simp only [List.getElem?_toArray, List.getElem?_cons_succ, List.getElem?_cons_zero, Option.some.injEq] at ho
    subst ho
    intro w' hSw
    first | (go_simp; done) | (go_simp; with_reducible rfl)
  try simp only [Act.put, List.setIfInBounds_toArray, List.set_cons_zero, List.set_cons_succ]
  refine h_take (i := 7) (d := (some 43)) (v := ?vp7) (by rfl) (by kernel_rfl) (by kernel_rfl) (by kernel_rfl) (fun _ _ _ h => h) (by rfl) ?hyp7 hHeld ?restp7
  case hyp7 =>
    intro o ho
    simp only [List.getElem?_toArray, List.getElem?_cons_succ, List.getElem?_cons_zero, Option.some.injEq] at ho
    subst ho
    intro w' hSw
    first | (go_simp; done) | (go_simp; with_reducible rfl)
  try simp only [Act.put, List.setIfInBounds_toArray, List.set_cons_zero, List.set_cons_succ]
  refine h_take (i := 8) (d := (some 44)) (v := ?vp8) (by rfl) (by kernel_rfl) (by kernel_rfl) (by kernel_rfl) (fun _ _ _ h => h) (by rfl) ?hyp8 hHeld ?restp8
  case hyp8 =>
    intro o ho
    simp only [List.getElem?_toArray, List.getElem?_cons_succ, List.getElem?_cons_zero, Option.some.injEq] at ho
    subst ho
    intro w' hSw
    (rw [hld w' hSw] <;> first | with_reducible rfl | rfl)
  try simp only [Act.put, List.setIfInBounds_toArray, List.set_cons_zero, List.set_cons_succ]
  refine wpAnyH_ready (rs := [4]) (by kernel_rfl) (by simp) ?_
  refine AllReadyH.cons rfl (fun K hK => ?_) AllReadyH.nil
  go_simp
  refine (hP1 _ _ (hp1' _ hbr.drew)).mono ?_
  rintro e wq ⟨rfl, hbq⟩
  have hbr : Below w2.heap.size w2 wq := below_after_of hbr.drew hbq
  refine hK.out _ _ ?_ (fun hHeld => ?_)
  · first | exact HE.out _ hbr | exact HE.out _ (hbr.alloc hbr.size _)
  clear hK K
  try simp only [Act.put, List.setIfInBounds_toArray, List.set_cons_zero, List.set_cons_succ]
  refine wpAnyH_ready (rs := [9]) (by kernel_rfl) (by simp) ?_
  refine AllReadyH.cons rfl (fun K hK => ?_) AllReadyH.nil
  go_simp
  refine (hP2 _ _ (hp2' _ hbr)).mono ?_
  rintro e wr ⟨rfl, hbq2⟩
  have hbr : Below w2.heap.size w2 wr := below_after_of hbr hbq2
  refine hK.out _ _ ?_ (fun hHeld => ?_)
  · first | exact HE.out _ hbr | exact HE.out _ (hbr.alloc hbr.size _)
  clear hK K
  try simp only [Act.put, List.setIfInBounds_toArray, List.set_cons_zero, List.set_cons_succ]
  refine wpAnyH_ready (rs := [10]) (by kernel_rfl) (by simp) ?_
  refine AllReadyH.cons rfl (fun K hK => ?_) AllReadyH.nil
  go_simp
  try skip
  refine hK.out _ _ ?_ (fun hHeld => ?_)
  · first | exact HE.out _ hbr | exact HE.out _ (hbr.alloc hbr.size _)
  clear hK K
  try simp only [Act.put, List.setIfInBounds_toArray, List.set_cons_zero, List.set_cons_succ]
  refine h_take (i := 11) (d := (some 12)) (v := ?vp9) (by rfl) (by kernel_rfl) (by kernel_rfl) (by kernel_rfl) (fun _ _ _ h => h) (by rfl) ?hyp9 hHeld ?restp9
  case hyp9 =>
    intro o ho
    simp only [List.getElem?_toArray, List.getElem?_cons_succ, List.getElem?_cons_zero, Option.some.injEq] at ho
    subst ho
    intro w' hSw
    first | (go_simp; done) | (go_simp; with_reducible rfl)
  try simp only [Act.put, List.setIfInBounds_toArray, List.set_cons_zero, List.set_cons_succ]
  refine wpAnyH_done (by kernel_rfl) ?_ _
  have hNA := one_new (w := wr) (.cells #[.int .i64 x, .int .i64 y] 2)
  have hB3 := below_after_of (below_after_of hB2 hbr) hNA
  clear hP1 hP2 hp1' hp2' hbq hbq2 HE e0 hld
  go_wp2_with fail
  refine (hT _ _ (two_ints_at rfl)).mono ?_
  intro e w4 h4
  obtain ⟨a4, c4, rfl, hb4, own4⟩ := h4.use
  have kf := fun w => field_BR1 0 a4 ys.length c4 w
  have HO : Hid (w4.ownsRow w.heap.size 5 1 (.slice a4 ys.length c4) ys.length (ys.map (Value.int .u8))) := own_mono own4 hB3.size
  have hB4 := below_after_of hB3 hb4
  clear hT h4 own4 hb4
  go_wp2
  go_ret
  exact ⟨_, rfl, HO.out, hB4⟩
end U
end Go.Proofs.YtljbcpkjhnbpeaaDoor
