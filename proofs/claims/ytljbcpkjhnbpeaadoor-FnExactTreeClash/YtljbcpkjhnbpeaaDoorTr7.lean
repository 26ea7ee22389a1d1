/- What is summed for slots, their root and their forks, as the model makes them. -/
import Derived.Test.YtljbcpkjhnbpeaaDoorTr6
import Derived.Test.YtljbcpkjhnbpeaaDoorTr3
namespace Go.Proofs.YtljbcpkjhnbpeaaDoor
open Go.RowKit
namespace U
/-- The piece of slots, as the model makes it. -/
structure ByAt (l : Prl) (t : Tr) : Prop where
  c : ∀ (v : Value) (w : World), Prs w v l → Calls Tryd.prog 36 #[v] w fun e w' => ∃ v', e = .returned v' ∧ w'.ownsRow w.heap.size 5 1 v' t.bts.length (t.bts.map (Value.int .u8)) ∧ Below w.heap.size w w'
/-- The root of slots, as the model makes it. -/
structure RtAt (l : Prl) (x : Int) : Prop where
  c : ∀ (v : Value) (w : World), Prs w v l → Calls Tryd.prog 17 #[v] w fun e w' => e = .returned (.int .i64 x) ∧ Below w.heap.size w w'
set_option maxRecDepth 100000 in
set_option maxHeartbeats 1000000 in
theorem l6Root_of {l : Prl} {t : Tr} (h : ByAt l t) (hok : t.Ok) : RtAt l t.sum := by
  refine ⟨fun v w hv => ?_⟩
  have hB := h.c v w hv
  have hS := fun u w hu => l2Sum_any u t.bts w hu hok.bts (by have := t.len; omega)
  obtain ⟨ad, c, rfl⟩ := hv.shape
  have e1 : sumL t.bts = t.sum := rfl
  rw [e1] at hS
  generalize t.sum = x at *
  generalize t.bts = ys at *
  generalize l.length = n at *
  clear hv h hok e1
  go_enter Tryd.func17, Tryd.ntmps17
  go_wp2_with fail
  refine hB.mono ?_
  rintro e w1 ⟨u, rfl, own1, hb1⟩
  have HI := own_ints own1
  obtain ⟨a1, c1, rfl⟩ := own_shape own1
  clear hB own1
  go_wp2_with fail
  refine (hS _ _ HI).mono ?_
  rintro e w2 ⟨rfl, rfl⟩
  clear hS HI
  go_wp2
  go_ret
  exact ⟨rfl, hb1⟩
set_option maxRecDepth 100000 in
set_option maxHeartbeats 1000000 in
theorem l6Bytes_none : ByAt [] .none := by
  refine ⟨fun v w hv => ?_⟩
  have hT := fun w => l2Bytes_any 9 (.slice none 0 0) [] w (Or.inl ⟨rfl, _, _, rfl⟩) (by simp) (by omega) rfl
  obtain ⟨ad, c, rfl⟩ := hv.shape
  have e1 : tagL 9 [] = Tr.none.bts := rfl
  rw [e1] at hT
  generalize Tr.bts _ = ys at *
  clear hv e1
  go_enter Tryd.func36, Tryd.ntmps36
  go_wp2_with fail
  refine (hT _).mono ?_
  rintro e w2 ⟨u, rfl, own2, hb2⟩
  obtain ⟨a2, c2, rfl⟩ := own_shape own2
  clear hT
  go_wp2
  go_ret
  exact ⟨_, rfl, own2, hb2⟩
set_option maxRecDepth 100000 in
set_option maxHeartbeats 1000000 in
theorem l6Bytes_leaf {k y : Int} (h : (Tr.leaf k y).Ok) : ByAt [(k, y)] (.leaf k y) := by
  refine ⟨fun v w hv => ?_⟩
  have hT := fun u w hu => l2Bytes_any 4 u [k, y] w hu (by simp) (by omega) (Tr.Ok.nums2 h.1 h.2)
  obtain ⟨ad, c, rfl⟩ := hv.shape
  obtain ⟨-, b, off, rfl, hlt, hc⟩ := hv.at (by simp)
  have c0 : w.cell? ⟨b, off, none⟩ = some (.int .i64 k) := by simpa [pAt] using (hc 0 (by simp)).1
  have c1 : w.cell? ⟨b, off + 1, none⟩ = some (.int .i64 y) := by simpa [pAt] using (hc 0 (by simp)).2
  have e1 : tagL 4 [k, y] = (Tr.leaf k y).bts := rfl
  rw [e1] at hT
  generalize Tr.bts _ = ys at *
  have HG : Hid (∀ w', Below w.heap.size w w' → w'.cell? ⟨b, off, none⟩ = some (.int .i64 k) ∧ w'.cell? ⟨b, off + 1, none⟩ = some (.int .i64 y)) := fun w' h => ⟨(h.cell (p := ⟨b, off, none⟩) hlt).trans c0, (h.cell (p := ⟨b, off + 1, none⟩) hlt).trans c1⟩
  clear hv e1 h hc
  have hbr := Below.refl w.heap.size w
  go_enter Tryd.func36, Tryd.ntmps36
  go_wp2
  go_region_held3 (fun w' => w'.cell? ⟨b, off, none⟩ = some (.int .i64 k) ∧ w'.cell? ⟨b, off + 1, none⟩ = some (.int .i64 y))
    (first | exact ⟨c0, c1⟩ | exact HG.out _ hbr | exact HG.out _ hbr.drew | exact HG.out _ (one_new _) | exact HG.out _ (hbr.drew.alloc hbr.drew.size _))
    (first
      | (go_at_call 60; refine (hT _ _ ((two_ints w k y 2).below (Below.refl _ _).drew)).mono ?_; rintro e wt ⟨u, rfl, own2, hbt⟩; obtain ⟨a2, c2, rfl⟩ := own_shape own2; have hbd : Below w.heap.size w (w.alloc (.cells #[.int .i64 k, .int .i64 y] 2)).drew := (one_new _).drew; have own3 := own_mono own2 hbd.size; have hbr : Below w.heap.size w wt := below_after_of hbd hbt))
  go_wp2
  go_ret
  exact ⟨_, rfl, own3, hbr⟩
set_option maxRecDepth 100000 in
set_option maxHeartbeats 1000000 in
theorem l6Bytes_fork {l : Prl} {b : Nat} {L R : Tr} (hs : Sls l) (h2 : 2 ≤ l.length) (hb : FB l b) (r0 : RtAt (sd l b 0) L.sum) (r1 : RtAt (sd l b 1) R.sum) : ByAt l (.fork b L R) := by
  refine ⟨fun v w hv => ?_⟩
  have hF := fun w' h => l6Fork_any v l b w' (hv.below h) hs h2 hb
  have hS := fun s w' h => l6Side_any v l b s w' (hv.below h) hs hb.le
  have hT := fun u w hu => l2Bytes_any 5 u [(b : Int), L.sum, R.sum] w hu (by simp) (by omega) (Tr.Ok.nums3 hb.le L R)
  have e1 : tagL 5 [(b : Int), L.sum, R.sum] = (Tr.fork b L R).bts := rfl
  rw [e1] at hT
  have hn := hs.len
  obtain ⟨ad, c, rfl⟩ := hv.shape
  have R0 := fun a c w h => r0.c (.slice a (sd l b 0).length c) w h
  have R1 := fun a c w h => r1.c (.slice a (sd l b 1).length c) w h
  have S0 := hS 0
  have S1 := hS 1
  generalize L.sum = x at *
  generalize R.sum = y at *
  generalize Tr.bts _ = ys at *
  generalize sd l b 0 = m0 at *
  generalize sd l b 1 = m1 at *
  generalize l.length = n at *
  clear hv e1 hs hS r0 r1 hb
  have d1 : ¬ ((n : Int) = 0) := by omega
  have d2 : ¬ ((n : Int) = 1) := by omega
  have d1' : ((n : Int) == 0) = false := by simpa using d1
  have d2' : ((n : Int) == 1) = false := by simpa using d2
  go_enter Tryd.func36, Tryd.ntmps36
  go_wp2_with fail
  refine (hF _ (Below.refl _ _)).mono ?_
  rintro e w1 ⟨rfl, hb1⟩
  clear hF
  go_wp2_with fail
  refine (S0 _ hb1).mono ?_
  rintro e w2 ⟨a2, c2, rfl, own2, hb2⟩
  have hB2 := below_after_of hb1 hb2
  clear S0 hb1 hb2
  go_wp2_with fail
  refine (R0 _ _ _ (own_prs' own2)).mono ?_
  rintro e w3 ⟨rfl, hb3⟩
  have hB3 := below_after_of hB2 hb3
  clear R0 hB2 hb3 own2
  go_wp2_with fail
  refine (S1 _ hB3).mono ?_
  rintro e w4 ⟨a4, c4, rfl, own4, hb4⟩
  have hB4 := below_after_of hB3 hb4
  clear S1 hB3 hb4
  go_wp2_with fail
  refine (R1 _ _ _ (own_prs' own4)).mono ?_
  rintro e w5 ⟨rfl, hb5⟩
  have hB5 := below_after_of hB4 hb5
  clear R1 hB4 hb5 own4
  go_wp2_with fail
  refine (hT _ _ (three_ints _ _ _ _ _)).mono ?_
  rintro e w6 ⟨u, rfl, own6, hb6⟩
  rw [World.size_alloc] at own6
  have own7 := own_mono own6 (Nat.le_succ_of_le hB5.size)
  have hB6 := below_after_of (hB5.alloc hB5.size _) hb6
  obtain ⟨a6, c6, rfl⟩ := own_shape own7
  clear hT own6 hb6 hB5
  go_wp2
  go_ret
  exact ⟨_, rfl, own7, hB6⟩
theorem l6Bytes_any {l : Prl} {t : Tr} (h : IsTr l t) : Sls l → ByAt l t := by
  induction h using IsTr.ind with
  | none => intro _; exact l6Bytes_none
  | leaf k y => intro hs; exact l6Bytes_leaf ((IsTr.leaf k y).ok hs)
  | fork h2 hb h3 h4 ih1 ih2 =>
    intro hs
    exact l6Bytes_fork hs h2 hb (l6Root_of (ih1 (sd_sls hs _ _)) (h3.ok (sd_sls hs _ _))) (l6Root_of (ih2 (sd_sls hs _ _)) (h4.ok (sd_sls hs _ _)))
theorem l6Root_any {l : Prl} {t : Tr} (h : IsTr l t) (hs : Sls l) : RtAt l t.sum := l6Root_of (l6Bytes_any h hs) (h.ok hs)
end U
end Go.Proofs.YtljbcpkjhnbpeaaDoor
