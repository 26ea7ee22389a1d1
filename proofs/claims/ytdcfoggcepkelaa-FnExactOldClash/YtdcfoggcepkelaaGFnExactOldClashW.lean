/- The law on OldClash, walked: true, and nothing that was there has turned. -/
import Derived.Test.YtdcfoggcepkelaaGOp12
import Derived.Test.YtdcfoggcepkelaaGD
import Derived.Test.YtdcfoggcepkelaaGC
import Derived.Test.YtdcfoggcepkelaaGA
namespace Go.Proofs.Ytdcfoggcepkelaa
open Go.RowKit
namespace U
set_option maxRecDepth 100000 in
set_option maxHeartbeats 4000000 in
theorem fnExactOldClash_small (v : Value) (l : Prl) (x : Int) (b : Bool) (y : Int) (u : Value) (xs : List Int) (w : World) (hv : Prs w v l) (hu : Ints .i64 w u xs) (hxa : l.length ≤ 1048576) (hxb : xs.length ≤ 1048576) :
    Calls Try.prog 8 #[v, .int .i64 x, .bool b, .int .i64 y, u] w fun e w' => e = .returned (.bool true) ∧ Below w.heap.size w w' := by
  have hT1 := fun w' h => toSlotS_any v l w' (hv.below (w' := w') h) hxa
  have hT2 := fun w' h => toInt64S_any u xs w' (hu.below (w' := w') h) hxb
  have hS := fun v u w hv hu hk => specOldClash_any v l x b y u xs w hv hxa hu hk hxb
  have hI := fun v u w hv hk hu => implOldClash_any v l x b y u xs w hv hk hxa hu
  have hM1 := fun B v k0 w h => markSlotS_any B v l k0 w h (by omega)
  have hM2 := fun B v k0 w h => markInt64S_any B v xs k0 w h (by omega)
  have hE1 := fun v u w h1 h2 => eqSlotS_any v u l l w h1 h2 (by omega) (by omega)
  have hE2 := fun v u w h1 h2 => eqInt64S_any v u xs xs w h1 h2 (by omega) (by omega)
  rw [decide_eq_true rfl] at hE1
  rw [decide_eq_true rfl] at hE2
  obtain ⟨a, c, rfl⟩ := hv.shape
  obtain ⟨a', c', rfl⟩ := hu.shape
  have hZ := fun w => szSlotS_any a l.length c w (by unfold maxLen; omega)
  rw [if_pos hxa] at hZ
  have hz0 : ¬ ((1048576 - l.length : Int) < 0) := by omega
  generalize (1048576 - l.length : Int) = z at *
  clear hv hu
  obtain ⟨ps, hps⟩ : ∃ ps, ps = pick (ocF l x b y xs) (ocP l x b y xs).1 := ⟨_, rfl⟩
  obtain ⟨qs, hqs⟩ : ∃ qs, qs = pick (ocF l x b y xs) (ocP l x b y xs).2 := ⟨_, rfl⟩
  have HPS : Hid (ps = pick (ocF l x b y xs) (ocP l x b y xs).1) := hps
  have HQS : Hid (qs = pick (ocF l x b y xs) (ocP l x b y xs).2) := hqs
  have hoc := ocW_len (l := l) (x := x) (s := sumL (leafL x b y)) (p := xs) (leafL_len x b y) (leafL_len x (thr l x) (fsV l x)) 8
  have hpl : ps.length ≤ 1048576 := by rw [hps]; exact Nat.le_trans (pick_len _ _) (Nat.le_trans hoc.1 (by omega))
  have hql : qs.length ≤ 1048576 := by rw [hqs]; exact Nat.le_trans (pick_len _ _) (Nat.le_trans hoc.2 (by omega))
  clear hps hqs hoc
  generalize ocC l x b y xs = code at *
  generalize ocF l x b y xs = f at *
  generalize ocP l x b y xs = pq at *
  obtain ⟨n, hn⟩ : ∃ n, n = l.length := ⟨_, rfl⟩
  obtain ⟨m, hm⟩ : ∃ m, m = xs.length := ⟨_, rfl⟩
  have HN : Hid (n = l.length) := hn
  have HM : Hid (m = xs.length) := hm
  rw [← hn] at hxa hT1 hM1 hZ ⊢
  rw [← hm] at hxb hT2 hM2 ⊢
  clear hn hm
  have hk1 : decide (((1 + n * 2 + m : Nat) : Int) < 0) = false := by simp; omega
  have hk2 : decide (((1 + ps.length + qs.length : Nat) : Int) < 0) = false := by simp; omega
  go_enter Try.func8, Try.ntmps8
  go_wp2_with fail
  refine (hZ _).mono ?_
  rintro e w0 ⟨rfl, h0w⟩
  rw [h0w]
  clear hZ h0w
  go_wp2_with fail
  refine (hT1 _ (Below.refl _ _)).mono ?_
  rintro e w1 ⟨a1, c1, rfl, hb1, own1⟩
  go_wp2_with fail
  refine (hT2 _ hb1).mono ?_
  rintro e w2 ⟨a2, c2, rfl, hb2, own2⟩
  have own1' := own_below own1 hb2
  have hB2 := below_after_of hb1 hb2
  clear hb1 hb2 own1
  go_wp2_with fail
  -- the model's answer
  refine (hS _ _ _ (own_prs_n HN.out own1') (own_ints_n HM.out own2) (own_okv1 own2)).mono ?_
  intro e w3 h3
  obtain ⟨a3, c3, a3', c3', rfl, hb3, own3, own3', ap3⟩ := h3.use HPS.out HQS.out
  have hN3 := one_new (w := w3) (.cells #[.int .i64 code, .bool f, .slice a3 ps.length c3, .slice a3' qs.length c3'] 31)
  have Q3 := Quad.new w3 (.int .i64 code) (.bool f) (.slice a3 ps.length c3) (.slice a3' qs.length c3') 31
  have i3 := (own_ints own3).below hN3
  have j3 := (own_ints own3').below hN3
  have hlt3 := fun k hk => own3.lt k hk
  have hlt3' := fun k hk => own3'.lt k hk
  have hB3 := below_after_of (below_after_of hB2 hb3) hN3
  have hw3 : w.heap.size ≤ w3.heap.size := Nat.le_trans hB2.size hb3.size
  clear h3 hS own1' own2 hB2 hb3 own3 own3' ap3
  go_wp2_with fail
  -- the arguments, copied
  refine (hT1 _ hB3).mono ?_
  rintro e w4 ⟨a4, c4, rfl, hb4, own4⟩
  have Q4 := Q3.below hb4
  have i4 := i3.below hb4
  have j4 := j3.below hb4
  have hB4 := below_after_of hB3 hb4
  have hlt4 : ∀ k, (Value.slice a4 n c4).ownBlock = some k → w3.heap.size + 1 ≤ k ∧ k < w4.heap.size := fun k hk => by have := own4.lt k hk; simpa using this
  clear Q3 i3 j3 hB3 hb4 hN3
  go_wp2_with fail
  refine (hT2 _ hB4).mono ?_
  rintro e w5 ⟨a5, c5, rfl, hb5, own5⟩
  have Q5 := Q4.below hb5
  have i5 := i4.below hb5
  have j5 := j4.below hb5
  have hB5 := below_after_of hB4 hb5
  have own4 := own_below own4 hb5
  have hlt5 := fun k hk => own5.lt k hk
  have hz45 : w4.heap.size ≤ w5.heap.size := hb5.size
  have hz34 : w3.heap.size < w4.heap.size := Q4.1
  clear Q4 i4 j4 hB4 hb5
  go_wp2_with fail
  -- the program's answer
  refine (hI _ _ _ (own_prs_n HN.out own4) (own_okv own4) (own_ints_n HM.out own5)).mono ?_
  intro e w6 h6
  obtain ⟨a6, c6, a6', c6', rfl, hb6, own6, own6', ap6⟩ := h6.use HPS.out HQS.out
  obtain ⟨W6, hW6⟩ : ∃ W6, W6 = w6.alloc (.cells #[.int .i64 code, .bool f, .slice a6 ps.length c6, .slice a6' qs.length c6'] 31) := ⟨_, rfl⟩
  have hN6 : Below w6.heap.size w6 W6 := by rw [hW6]; exact one_new _
  have hlt6 := fun k hk => own6.lt k hk
  have hlt6' := fun k hk => own6'.lt k hk
  have hz56 : w5.heap.size ≤ w6.heap.size := hb6.size
  have C6 : Hid (∀ w', Below W6.heap.size W6 w' → Quad w' w3.heap.size (.int .i64 code) (.bool f) (.slice a3 ps.length c3) (.slice a3' qs.length c3') ∧ Quad w' w6.heap.size (.int .i64 code) (.bool f) (.slice a6 ps.length c6) (.slice a6' qs.length c6') ∧ Ints .u8 w' (.slice a3 ps.length c3) ps ∧ Ints .u8 w' (.slice a3' qs.length c3') qs ∧
      w'.ownsRow w5.heap.size 5 1 (.slice a6 ps.length c6) ps.length (ps.map (Value.int .u8)) ∧ w'.ownsRow w5.heap.size 5 1 (.slice a6' qs.length c6') qs.length (qs.map (Value.int .u8)) ∧ w'.ownsRow (w3.heap.size + 1) 119 2 (.slice a4 n c4) n ((fl l).map (Value.int .i64)) ∧ w'.ownsRow w4.heap.size 2 1 (.slice a5 m c5) m (xs.map (Value.int .i64)) ∧ Below w.heap.size w w') := by
    intro w' h
    have h0 := below_after_of hb6 hN6
    refine ⟨(Q5.below h0).below h, ?_, (i5.below h0).below h, (j5.below h0).below h, own_below (own_below own6 hN6) h, own_below (own_below own6' hN6) h, own_below (own_below ?_ h0) h, own_below (own_below own5 h0) h, below_after_of (below_after_of hB5 h0) h⟩
    · rw [hW6] at h; exact (Quad.new w6 _ _ _ _ _).below h
    · simpa using own4
  have Q6 := Q5.below hb6
  have p0 := Q6.2.1
  have p1 := Q6.2.2.1
  have p2 := Q6.2.2.2.1
  have p3 := Q6.2.2.2.2
  have p4 := Q6.1
  have HW6 : Hid (W6 = w6.alloc (.cells #[.int .i64 code, .bool f, .slice a6 ps.length c6, .slice a6' qs.length c6'] 31)) := hW6
  clear h6 own4 own5 own6 own6' hb6 hB5 hN6 Q5 Q6 i5 j5 hW6
  go_wp2_with fail
  rw [← HW6.out]
  clear p0 p1 p2 p3 HW6
  -- the two are the same
  obtain ⟨_, _, i6, j6, o6, o6', _, _, _⟩ := C6.out W6 (Below.refl _ _)
  refine (eqClashResult_same code f _ _ _ _ ps qs _ (own_ints o6) (own_ints o6') i6 j6 (by omega) (by omega)).mono ?_
  rintro e w7 ⟨rfl, hb7⟩
  clear i6 j6 o6 o6'
  have hB7 := (C6.out _ hb7).2.2.2.2.2.2.2.2
  go_wp2_with fail
  refine (hT1 _ hB7).mono ?_
  rintro e w8 ⟨a8, c8, rfl, hb8, own8⟩
  have hb8' := below_after_of hb7 hb8
  have o4 := (C6.out _ hb8').2.2.2.2.2.2.1
  go_wp2_with fail
  refine (hE1 _ _ _ (own_prs_n HN.out o4) (own_prs_n HN.out own8)).mono ?_
  rintro e w9 ⟨rfl, hb9e⟩
  have hb9 := below_after_of hb8' hb9e
  clear hb9e
  have hB9 := (C6.out _ hb9).2.2.2.2.2.2.2.2
  clear o4 own8 hb7 hb8 hb8' hB7
  go_wp2_with fail
  refine (hT2 _ hB9).mono ?_
  rintro e w10 ⟨a10, c10, rfl, hb10, own10⟩
  have hb10' := below_after_of hb9 hb10
  have o5 := (C6.out _ hb10').2.2.2.2.2.2.2.1
  go_wp2_with fail
  refine (hE2 _ _ _ (own_ints_n HM.out o5) (own_ints_n HM.out own10)).mono ?_
  rintro e w11 ⟨rfl, n11, rfl⟩
  have hb11 := below_drewN hb10' n11
  obtain ⟨Q3, Q6, i3, j3, o6, o6', o4, o5, hB11⟩ := C6.out _ hb11
  clear own10 hb9 hb10 hb10' hB9 C6 hE1 hE2
  -- the arguments are marked
  go_wp2_with fail
  refine (hM1 _ _ 1 _ o4 (by omega)).mono ?_
  rintro e w12 ⟨rfl, hg12, own12⟩
  have Q3 := Q3.grown hg12 (fun e => by have := hlt4 _ e.symm; omega)
  have Q6 := Q6.grown hg12 (fun e => by have := hlt4 _ e.symm; omega)
  have i3 := i3.grown hg12 (apart_lt (fun k hk j hj => by have := hlt3 k hk; have := hlt4 j hj; omega))
  have j3 := j3.grown hg12 (apart_lt (fun k hk j hj => by have := hlt3' k hk; have := hlt4 j hj; omega))
  have o6 := own_grown o6 hg12 (apart_gt (fun k hk j hj => by have := hlt6 k hk; have := hlt4 j hj; omega))
  have o6' := own_grown o6' hg12 (apart_gt (fun k hk j hj => by have := hlt6' k hk; have := hlt4 j hj; omega))
  have o5 := own_grown o5 hg12 (apart_gt (fun k hk j hj => by have := hlt5 k hk; have := hlt4 j hj; omega))
  have hB12 := hB11.grown hg12 hB11.size (fun k hk => by have := hlt4 k hk; omega)
  clear hg12 own12 o4 hB11
  go_wp2_with fail
  refine (hM2 _ _ (1 + n * 2) _ o5 (by omega)).mono ?_
  rintro e w13 ⟨rfl, hg13, own13⟩
  have Q3 := Q3.grown hg13 (fun e => by have := hlt5 _ e.symm; omega)
  have Q6 := Q6.grown hg13 (fun e => by have := hlt5 _ e.symm; omega)
  have i3 := i3.grown hg13 (apart_lt (fun k hk j hj => by have := hlt3 k hk; have := hlt5 j hj; omega))
  have j3 := j3.grown hg13 (apart_lt (fun k hk j hj => by have := hlt3' k hk; have := hlt5 j hj; omega))
  have o6 := own_grown o6 hg13 (apart_gt (fun k hk j hj => by have := hlt6 k hk; have := hlt5 j hj; omega))
  have o6' := own_grown o6' hg13 (apart_gt (fun k hk j hj => by have := hlt6' k hk; have := hlt5 j hj; omega))
  have hB13 := hB12.grown hg13 hB12.size (fun k hk => by have := hlt5 k hk; omega)
  clear hg13 own13 o5 hB12 hlt4 hlt5 hM1 hM2
  have p0 := Q3.2.1
  have p1 := Q3.2.2.1
  have p2 := Q3.2.2.2.1
  have p3 := Q3.2.2.2.2
  have q0 := Q6.2.1
  have q1 := Q6.2.2.1
  have q2 := Q6.2.2.2.1
  have q3 := Q6.2.2.2.2
  go_wp2_with fail
  -- the two are still the same
  refine (eqClashResult_same code f _ _ _ _ ps qs _ (own_ints o6) (own_ints o6') i3 j3 (by omega) (by omega)).mono ?_
  rintro e w14 ⟨rfl, hb14⟩
  have Q3 := Q3.below hb14
  have Q6 := Q6.below hb14
  have i3 := i3.below hb14
  have j3 := j3.below hb14
  have o6 := own_below o6 hb14
  have o6' := own_below o6' hb14
  have hB14 := below_after_of hB13 hb14
  clear hb14 hB13 p0 p1 p2 p3 q0 q1 q2 q3
  have q0 := Q6.2.1
  have q1 := Q6.2.2.1
  have q2 := Q6.2.2.2.1
  have q3 := Q6.2.2.2.2
  go_wp2_with fail
  -- the answer is marked
  refine (markClashResult_any _ _ code f _ _ ps qs 1 _ o6 o6' ap6 (by omega) (by omega) (by omega)).mono ?_
  rintro e w15 ⟨rfl, wm, hg15, hg15', m15, m15'⟩
  have Q3 := (Q3.grown hg15 (fun e => by have := hlt6 _ e.symm; omega)).grown hg15' (fun e => by have := hlt6' _ e.symm; omega)
  have Q6 := (Q6.grown hg15 (fun e => by have := hlt6 _ e.symm; omega)).grown hg15' (fun e => by have := hlt6' _ e.symm; omega)
  have i3 := (i3.grown hg15 (apart_lt (fun k hk j hj => by have := hlt3 k hk; have := hlt6 j hj; omega))).grown hg15' (apart_lt (fun k hk j hj => by have := hlt3 k hk; have := hlt6' j hj; omega))
  have j3 := (j3.grown hg15 (apart_lt (fun k hk j hj => by have := hlt3' k hk; have := hlt6 j hj; omega))).grown hg15' (apart_lt (fun k hk j hj => by have := hlt3' k hk; have := hlt6' j hj; omega))
  have hB15 := hB14.grown hg15 hB14.size (fun k hk => by have := hlt6 k hk; omega)
  have hB15' := hB15.grown hg15' hB15.size (fun k hk => by have := hlt6' k hk; omega)
  have C15 : Hid (∀ w', Below w15.heap.size w15 w' → Quad w' w3.heap.size (.int .i64 code) (.bool f) (.slice a3 ps.length c3) (.slice a3' qs.length c3') ∧ Quad w' w6.heap.size (.int .i64 code) (.bool f) (.slice a6 ps.length c6) (.slice a6' qs.length c6') ∧ Ints .u8 w' (.slice a3 ps.length c3) ps ∧ Ints .u8 w' (.slice a3' qs.length c3') qs ∧ Ints .u8 w' (.slice a6 ps.length c6) (marksB 1 ps.length) ∧ Ints .u8 w' (.slice a6' qs.length c6') (marksB (1 + ps.length) qs.length) ∧ Below w.heap.size w w') :=
    fun w' h => ⟨Q3.below h, Q6.below h, i3.below h, j3.below h, m15.below h, m15'.below h, below_after_of hB15' h⟩
  clear hg15 hg15' o6 o6' hB14 hB15 hlt3 hlt3' hlt6 hlt6' ap6 q0 q1 q2 q3
  have q0 := Q6.2.1
  have q1 := Q6.2.2.1
  have q2 := Q6.2.2.2.1
  have q3 := Q6.2.2.2.2
  clear Q3 Q6 i3 j3 hB15'
  go_wp2_with fail
  refine (heldClashResult_any code f _ _ ps.length qs.length 1 _ m15 m15' (by omega) (by omega) (by omega)).mono ?_
  rintro e w16 ⟨rfl, hb16⟩
  have hB16 := (C15.out _ hb16).2.2.2.2.2.2
  clear q0 q1 q2 q3 m15 m15'
  go_wp2_with fail
  refine (hT1 _ hB16).mono ?_
  rintro e w17 ⟨a17, c17, rfl, hb17, own17⟩
  have hb17' := below_after_of hb16 hb17
  have hB17 := (C15.out _ hb17').2.2.2.2.2.2
  clear hb16 hb17 hB16
  go_wp2_with fail
  refine (hT2 _ hB17).mono ?_
  rintro e w18 ⟨a18, c18, rfl, hb18, own18⟩
  have hb18' := below_after_of hb17' hb18
  have own17 := own_below own17 hb18
  clear hb18 hb17' hB17
  go_wp2_with fail
  -- the program's answer, once more
  refine (hI _ _ _ (own_prs_n HN.out own17) (own_okv own17) (own_ints_n HM.out own18)).mono ?_
  intro e w19 h19
  obtain ⟨a19, c19, a19', c19', rfl, hb19, own19, own19', ap19⟩ := h19.use HPS.out HQS.out
  have hb19' := below_after_of hb18' hb19
  obtain ⟨Q3, _, _, _, _, _, _⟩ := C15.out _ hb19'
  have hN19 := one_new (w := w19) (.cells #[.int .i64 code, .bool f, .slice a19 ps.length c19, .slice a19' qs.length c19'] 31)
  have i19 := (own_ints own19).below hN19
  have j19 := (own_ints own19').below hN19
  have hb19n := below_after_of hb19' hN19
  clear h19 own19 own19' own17 own18 hb18' hb19 hb19' ap19 hI hT1 hT2 hN19
  have p0 := Q3.2.1
  have p1 := Q3.2.2.1
  have p2 := Q3.2.2.2.1
  have p3 := Q3.2.2.2.2
  have p4 := Q3.1
  go_wp2_with fail
  refine (eqClashResult_same code f _ _ _ _ ps qs _ i19 j19 (C15.out _ hb19n).2.2.1 (C15.out _ hb19n).2.2.2.1 (by omega) (by omega)).mono ?_
  rintro e w20 ⟨rfl, hb20⟩
  have hb20' := below_after_of hb19n hb20
  obtain ⟨_, Q6, _, _, m20, m20', hB20⟩ := C15.out _ hb20'
  clear Q3 p0 p1 p2 p3 i19 j19 hb19n hb20 hb20' C15
  have q0 := Q6.2.1
  have q1 := Q6.2.2.1
  have q2 := Q6.2.2.2.1
  have q3 := Q6.2.2.2.2
  go_wp2_with fail
  refine (heldClashResult_any code f _ _ ps.length qs.length 1 _ m20 m20' (by omega) (by omega) (by omega)).mono ?_
  rintro e w21 ⟨rfl, hb21⟩
  have hB21 := below_after_of hB20 hb21
  clear m20 m20' q0 q1 q2 q3 Q6 hb21 hB20
  go_wp2
  go_ret
  exact ⟨rfl, hB21⟩
set_option maxHeartbeats 1000000 in
theorem fnExactOldClash_walk (v : Value) (l : Prl) (x : Int) (b : Bool) (y : Int) (u : Value) (xs : List Int) (w : World) (hv : Prs w v l) (hxa : l.length ≤ maxLen) (hu : Ints .i64 w u xs) (hxb : xs.length ≤ maxLen) :
    Calls Try.prog 8 #[v, .int .i64 x, .bool b, .int .i64 y, u] w fun e w' => e = .returned (.bool true) ∧ Below w.heap.size w w' := by
  by_cases h2 : xs.length ≤ 1048576
  · by_cases h1 : l.length ≤ 1048576
    · exact fnExactOldClash_small v l x b y u xs w hv hu h1 h2
    · obtain ⟨a, c, rfl⟩ := hv.shape
      obtain ⟨a', c', rfl⟩ := hu.shape
      have hZ := fun w => szSlotS_any a l.length c w hxa
      rw [if_neg h1] at hZ
      generalize l.length = n at *
      generalize xs.length = m at *
      clear hv hu
      go_enter Try.func8, Try.ntmps8
      go_wp2_with fail
      refine (hZ _).mono ?_
      rintro e w1 ⟨rfl, rfl⟩
      clear hZ
      go_wp2
      go_ret
      exact ⟨rfl, Below.refl _ _⟩
  · obtain ⟨a, c, rfl⟩ := hv.shape
    obtain ⟨a', c', rfl⟩ := hu.shape
    unfold maxLen at hxa hxb
    generalize l.length = n at *
    generalize xs.length = m at *
    clear hv hu
    go_enter Try.func8, Try.ntmps8
    go_wp2
    go_ret
    exact ⟨rfl, Below.refl _ _⟩
end U
end Go.Proofs.Ytdcfoggcepkelaa
