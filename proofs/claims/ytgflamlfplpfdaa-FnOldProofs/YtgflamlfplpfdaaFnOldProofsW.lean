/- The law on proofs of the old tree, walked: true, and nothing that was there has turned. -/
import Derived.Test.YtgflamlfplpfdaaOp14
import Derived.Test.YtgflamlfplpfdaaSl19
import Derived.Test.YtgflamlfplpfdaaSlF
import Derived.Test.YtgflamlfplpfdaaQuiet
import Derived.Test.YtgflamlfplpfdaaPairs
namespace Go.Proofs.Ytgflamlfplpfdaa
open Go.RowKit
namespace U
theorem fldI0 (x y : Int) (w : World) : (Instr.field 38 (.agg #[.int .i64 x, .int .i64 y]) 0).run Try.prog w = .ok (.int .i64 x) w := by kernel_rfl
theorem fldI1 (x y : Int) (w : World) : (Instr.field 38 (.agg #[.int .i64 x, .int .i64 y]) 1).run Try.prog w = .ok (.int .i64 y) w := by kernel_rfl
theorem fldN0 (c : Int) (a : Option Addr) (n k : Nat) (w : World) : (Instr.field 44 (.agg #[.int .i64 c, .slice a n k]) 0).run Try.prog w = .ok (.int .i64 c) w := by kernel_rfl
/-- Of a tree as it is, what it shows is taken. -/
theorem honest_taken {l : Prl} {x : Int} (h0 : slF l = 0) (hx : 0 ≤ x ∧ x ≤ 255) : acB x (thr l x) (fsV l x) (pth l x 8) (nd l 8 0) = true := by
  have ha := lfT_askd (l := l) (x := x) h0 hx
  have h := co_ok ha (pth_len l x 8) (pth_ok l x 8)
  have e : clm x (sumL (leafL x (thr l x) (fsV l x))) (pth l x 8) 8 = nd l 8 (x / (2 ^ 8 : Nat)) := clm_honest l x (lfT_sum h0) 8 (Nat.le_refl _)
  have e2 : x / ((2 ^ 8 : Nat) : Int) = 0 := by
    have : ((2 ^ 8 : Nat) : Int) = 256 := rfl
    rw [this]
    omega
  rw [e2] at e
  unfold acB
  rw [h.1, h.2, e]
  simp
theorem opC_zero {l : Prl} {x : Int} (h : opC l x = 0) : slF l = 0 ∧ 0 ≤ x ∧ x ≤ 255 := by
  unfold opC at h
  by_cases h0 : slF l = 0
  · rw [if_pos h0] at h
    rcases Bool.eq_false_or_eq_true (inB x 0 255) with hb | hb
    · exact ⟨h0, inB_bd hb⟩
    · rw [hb, if_neg (by simp)] at h; omega
  · rw [if_neg h0] at h; exact absurd h h0
set_option maxRecDepth 100000 in
set_option maxHeartbeats 16000000 in
theorem fnOldProofs_small (cv : Value) (cs : List Int) (w : World) (h : Code w cv cs) (hob : cs ≠ [] → ∀ g, cv.ownBlock = some g → g < w.heap.size) :
    Calls Try.prog 4 #[cv] w fun e w' => e = .returned (.bool true) ∧ Below w.heap.size w w' := by
  obtain ⟨cva, cvc, rfl⟩ := h.1.shape
  have hbig : decide (1048576 < cs.length) = false := by simp; exact h.2.1
  have hlb := fun w => lwBig4 cva cs.length cvc w (by have := h.2.1; unfold maxLen; omega)
  rw [hbig] at hlb
  obtain ⟨cl, hcl⟩ : ∃ cl, cl = cs.length := ⟨_, rfl⟩
  rw [← hcl] at h hob hlb ⊢
  have HC : Hid (∀ w', Below w.heap.size w w' → Code w' (.slice cva cl cvc) cs) := fun w' hb => h.below hb
  have HOB : Hid (∀ w', Below w.heap.size w w' → cs ≠ [] → ∀ g, (Value.slice cva cl cvc).ownBlock = some g → g < w'.heap.size) := fun w' hb hz g e => Nat.lt_of_lt_of_le (hob hz g e) hb.size
  clear hcl hbig h hob
  go_enter Try.func4, Try.ntmps4
  go_wp2_with fail
  refine (hlb _).mono ?_
  rintro e w0 ⟨rfl, h0w⟩
  rw [h0w]
  clear hlb h0w w0
  go_wp2_with fail
  -- the slots and the key
  refine (drawOldPath_any _ cs _ (HC.out _ (Below.refl _ _)) (HOB.out _ (Below.refl _ _))).mono ?_
  rintro e w1 ⟨a1, c1, l, x, rfl, hl13, ho1, hb1⟩
  have P1 := own_prs ho1
  have K1 := own_okv ho1
  have HP1 : Hid (∀ w', Below w1.heap.size w1 w' → Prs w' (.slice a1 l.length c1) l) := fun w' h => P1.below h
  clear ho1
  go_wp2_with fail
  refine (implOldPath_any _ l x _ P1 K1 (by omega)).mono ?_
  intro e w2 h2
  obtain ⟨a2, c2, t2, rfl, hb2, own2⟩ := h2.use
  obtain ⟨W2, hW2⟩ : ∃ W2, W2 = w2.alloc (.cells #[.int .i64 (opC l x), .slice a2 (opL l x).length c2] 44) := ⟨_, rfl⟩
  have hN2 : Below w2.heap.size w2 W2 := by rw [hW2]; exact one_new _
  have HB2 : Hid (Below w1.heap.size w1 W2) := below_after_of hb2 hN2
  have HQ2 : Hid (∀ w', Below W2.heap.size W2 w' → Pair w' w2.heap.size (.int .i64 (opC l x)) (.slice a2 (opL l x).length c2) ∧ Ints .i64 w' (.slice a2 (opL l x).length c2) (opL l x)) := fun w' h => ⟨by rw [hW2] at h; exact (Pair.new w2 _ _ _).below h, ((own_ints own2).below hN2).below h⟩
  have HBW2 : Hid (Below w.heap.size w W2) := below_after_of hb1 HB2.out
  have HW2 : Hid (w2.alloc (.cells #[.int .i64 (opC l x), .slice a2 (opL l x).length c2] 44) = W2) := hW2.symm
  have HOC : Hid (opC l x = 0 → slF l = 0 ∧ (0 ≤ x ∧ x ≤ 255) ∧ opL l x = pth l x 8) := fun h => ⟨(opC_zero h).1, (opC_zero h).2, by unfold opL; rw [if_pos ⟨(opC_zero h).1, inB_t (opC_zero h).2.1 (opC_zero h).2.2⟩]⟩
  have HSP : Hid (∀ w', Below w1.heap.size w1 w' → Calls Try.prog 33 #[.slice a1 l.length c1, .int .i64 x] w' fun e w'' => NumsAns w' (opC l x) (opL l x) e w'') := fun w' h => specOldPath_any _ l x w' (P1.below h) (by omega)
  generalize opC l x = oc at *
  generalize opL l x = ol at *
  clear h2 own2 hb2 hN2 hW2 P1
  obtain ⟨ln, hln⟩ : ∃ ln, ln = l.length := ⟨_, rfl⟩
  rw [← hln] at HP1 HSP K1 ⊢
  have HLN : Hid (ln = l.length) := hln
  clear hln
  generalize hon : ol.length = on at *
  have HON : Hid (ol.length = on) := hon
  clear hon
  go_wp2_with fail
  rw [HW2.out]
  -- a proof to climb
  refine (drawClimbOld_any _ cs _ (HC.out _ HBW2.out) (HOB.out _ HBW2.out)).mono ?_
  rintro e w3 ⟨ka, ba, ya, pa, pc, p, rfl, hp8, hp3, hb3⟩
  have HI4 := fun w' h => implClimbOld_any ka ba ya _ p w' (hp3.below (w' := w') h)
  have HS4 := fun w' h => specClimbOld_any ka ba ya _ p w' (hp3.below (w' := w') h) (by omega)
  generalize coC ka ba ya p = cc at *
  generalize coV ka ba ya p = cy at *
  generalize p.length = pn at *
  clear hp3
  go_wp2_with fail
  refine (HI4 _ (Below.refl _ _)).mono ?_
  rintro e w4 ⟨rfl, hb4⟩
  obtain ⟨W4, hW4⟩ : ∃ W4, W4 = w4.alloc (.cells #[.int .i64 cc, .int .i64 cy] 38) := ⟨_, rfl⟩
  have hN4 : Below w4.heap.size w4 W4 := by rw [hW4]; exact one_new _
  have HB4 : Hid (Below w3.heap.size w3 W4) := below_after_of hb4 hN4
  have HB24 : Hid (Below W2.heap.size W2 W4) := below_after_of hb3 HB4.out
  have HBW4 : Hid (Below w.heap.size w W4) := below_after_of HBW2.out HB24.out
  have HQ4 : Hid (Pair W4 w4.heap.size (.int .i64 cc) (.int .i64 cy)) := by rw [hW4]; exact Pair.new w4 _ _ _
  have HW4 : Hid (w4.alloc (.cells #[.int .i64 cc, .int .i64 cy] 38) = W4) := hW4.symm
  clear HI4 hb3 hb4 hN4 hW4
  go_wp2_with fail
  rw [HW4.out]
  -- a proof to take
  refine (drawAcceptOld_any _ cs _ (HC.out _ HBW4.out) (HOB.out _ HBW4.out)).mono ?_
  rintro e w5 ⟨kb, bb, yb, pb, pd, p', r, rfl, hp8', hp5, hb5⟩
  have HI6 := fun w' h => implAcceptOld_any kb bb yb _ p' r w' (hp5.below (w' := w') h)
  have HS6 := fun w' h => specAcceptOld_any kb bb yb _ p' r w' (hp5.below (w' := w') h) (by omega)
  generalize acB kb bb yb p' r = ac at *
  generalize p'.length = pm at *
  have HB45 : Hid (Below W4.heap.size W4 w5) := hb5
  have HBW5 : Hid (Below w.heap.size w w5) := below_after_of HBW4.out hb5
  clear hp5
  go_wp2_with fail
  refine (drawEmptySum_any _ cs _ (HC.out _ HBW5.out) (HOB.out _ HBW5.out)).mono ?_
  rintro e w6 ⟨ne, rfl, hb6⟩
  have HB46 := below_after_of HB45.out hb6
  have HBW6 := below_after_of HBW5.out hb6
  have hIE := fun w' => implEmptySum_any ne w'
  have hSE := fun w' => specEmptySum_any ne w'
  generalize eC ne = ec at *
  generalize eV ne = ev at *
  have q4 := HQ4.out.below HB46
  have hc0 := After.cell q4.2.1
  have hc1 := After.cell q4.2.2
  have hf0 := fldI0
  have hf1 := fldI1
  have hnn : ∀ i : Int, (i != i) = false := by simp
  have hnb : ∀ i : Bool, (i != i) = false := by simp
  have hne := After.ne w6
  have hb36 : Below w3.heap.size w3 w6 := below_after_of HB4.out HB46
  go_wp2_with fail
  refine wp_region_after (by kernel_rfl) (by kernel_rfl) ?_
  repeat (first | go_big_quiet_skip | (go_big_quiet_want; go_big_quiet_op; first | go_big_quiet_on | go_big_quiet_call (first
    | (go_at_call 28; refine (HS4 _ (below_after_of hb36 (After.b _))).mono ?_; rintro e wq ⟨rfl, hbq⟩; exact ⟨rfl, after_mk (below_after_of (After.b _) hbq)⟩)
    | (go_at_call 29; refine (HI6 _ (below_after_of hb6 (After.b _))).mono ?_; rintro e wq ⟨rfl, hbq⟩; exact ⟨rfl, after_mk (below_after_of (After.b _) hbq)⟩)
    | (go_at_call 30; refine (HS6 _ (below_after_of hb6 (After.b _))).mono ?_; rintro e wq ⟨rfl, hbq⟩; exact ⟨rfl, after_mk (below_after_of (After.b _) hbq)⟩)
    | (go_at_call 31; refine (hIE _).mono ?_; rintro e wq ⟨rfl, hbq⟩; exact ⟨rfl, after_mk (below_after_of (After.b _) hbq)⟩)
    | (go_at_call 32; refine (hSE _).mono ?_; rintro e wq ⟨rfl, hbq⟩; exact ⟨rfl, after_mk (below_after_of (After.b _) hbq)⟩))))
  refine wpQuiet_nil ?_
  rintro _ ⟨n7, rfl⟩
  have hb7 := n7.b
  generalize n7.w = w7 at *
  have HB27 : Hid (Below W2.heap.size W2 w7) := below_after_of (below_after_of HB24.out HB46) hb7
  have HBW7 : Hid (Below w.heap.size w w7) := below_after_of HBW6 hb7
  have HB17 : Hid (Below w1.heap.size w1 w7) := below_after_of HB2.out HB27.out
  have Q2 := (HQ2.out _ HB27.out).1
  have p0 := Q2.2.1
  have p1 := Q2.2.2
  have p2 := Q2.1
  clear hb7 hIE hSE HS4 HI6 HS6 hc0 hc1 hne q4 hb36 hb6 HB46 HBW6 n7 HB4 HB24 HBW4 HQ4 HW4 HB45 HBW5 hb5 HW2 hb1 HC HOB
  by_cases hoc : oc = 0
  · obtain ⟨h0, hx, hol⟩ := HOC.out hoc
    have hF := fun w' h => implFindSlot_any _ l x w' (HP1.out w' h) (by omega)
    have hR := fun w' h => implOldRoot_any _ l w' (HP1.out w' h) (by omega)
    have hSR := fun w' h => specOldRoot_any _ l w' (HP1.out w' h) (by omega)
    have hNR := fun w' => implOldRoot_any (.slice none 0 0) [] w' (Or.inl ⟨rfl, _, _, rfl⟩) (by simp)
    have hE8 := fun w' => implEmptySum_any 8 w'
    have e1 : orC l = 0 := h0
    have e2 : orV l = nd l 8 0 := by unfold orV; rw [if_pos h0]
    have e3 : eC 8 = 0 ∧ eV 8 = emp 8 := by decide +kernel
    have e4 : orC [] = 0 ∧ orV [] = emp 8 := by decide +kernel
    have e5 : fsC l x = if thr l x = true then 0 else 4 := by unfold fsC; rw [if_pos h0]
    have hA := fun w' h => implAcceptOld_any x (thr l x) (fsV l x) (.slice a2 on c2) ol (nd l 8 0) w' (HQ2.out w' h).2
    rw [hol, honest_taken h0 hx] at hA
    have hon : on = 8 := by rw [← HON.out, hol, pth_len]
    subst hoc hon
    rw [e1, e2] at hR hSR
    rw [e4.1, e4.2] at hNR
    rw [e3.1, e3.2] at hE8
    rw [e5] at hF
    clear e1 e2 e3 e4 e5 HOC HON hol h0 hx HSP
    generalize nd l 8 0 = rt at *
    generalize emp 8 = em at *
    generalize fsV l x = fv at *
    rcases Bool.eq_false_or_eq_true (thr l x) with ht | ht
    · rw [ht] at hA hF
      rw [if_pos rfl] at hF
      clear ht
      have hB8x := HB17.out
      go_wp2_with fail
      refine (hF _ HB17.out).mono ?_
      rintro e w8 ⟨rfl, hb8⟩
      obtain ⟨W8, hW8⟩ : ∃ W8, W8 = w8.alloc (.cells #[.int .i64 0, .int .i64 fv] 38) := ⟨_, rfl⟩
      have hN8 : Below w8.heap.size w8 W8 := by rw [hW8]; exact one_new _
      have hb78 : Below w7.heap.size w7 W8 := below_after_of hb8 hN8
      have HQ8 : Hid (Pair W8 w8.heap.size (.int .i64 0) (.int .i64 fv)) := by rw [hW8]; exact Pair.new w8 _ _ _
      have HW8 : Hid (w8.alloc (.cells #[.int .i64 0, .int .i64 fv] 38) = W8) := hW8.symm
      clear hF hb8 hN8 hW8 hB8x
      go_wp2_with fail
      rw [HW8.out]
      refine (hR _ (below_after_of HB17.out hb78)).mono ?_
      rintro e w9 ⟨rfl, hb9⟩
      obtain ⟨W9, hW9⟩ : ∃ W9, W9 = w9.alloc (.cells #[.int .i64 0, .int .i64 rt] 38) := ⟨_, rfl⟩
      have hN9 : Below w9.heap.size w9 W9 := by rw [hW9]; exact one_new _
      have hb89 : Below W8.heap.size W8 W9 := below_after_of hb9 hN9
      have Q9 : Pair W9 w9.heap.size (.int .i64 0) (.int .i64 rt) := by rw [hW9]; exact Pair.new w9 _ _ _
      have Q8 := HQ8.out.below hb89
      have hb79 : Below w7.heap.size w7 W9 := below_after_of hb78 hb89
      have Q2 := Q2.below hb79
      have HW9 : Hid (w9.alloc (.cells #[.int .i64 0, .int .i64 rt] 38) = W9) := hW9.symm
      have hb29 : Below W2.heap.size W2 W9 := below_after_of HB27.out hb79
      have hb19 : Below w1.heap.size w1 W9 := below_after_of HB17.out hb79
      have hBW9 : Below w.heap.size w W9 := below_after_of HBW7.out hb79
      have hc0 := After.cell Q2.2.1
      have hc1 := After.cell Q2.2.2
      have hc2 := After.cell Q8.2.1
      have hc3 := After.cell Q8.2.2
      have hc4 := After.cell Q9.2.1
      have hc5 := After.cell Q9.2.2
      have hne := After.ne W9
      have hii : ∀ i : Int, (i == i) = true := by simp
      clear hR hb9 hN9 hW9 hb78 hb89 hb79 HQ8 HW8 Q8 Q9 Q2 p0 p1 p2
      go_wp2_with fail
      rw [HW9.out]
      refine wp_region_after (by kernel_rfl) (by kernel_rfl) ?_
      repeat (first | go_big_quiet_skip | (go_big_quiet_want; go_big_quiet_op; first | go_big_quiet_on | go_big_quiet_call (first
        | (go_at_call 29; refine (hA _ (below_after_of hb29 (After.b _))).mono ?_; rintro e wq ⟨rfl, hbq⟩; exact ⟨rfl, after_mk (below_after_of (After.b _) hbq)⟩)
        | (go_at_call 35; refine (hSR _ (below_after_of hb19 (After.b _))).mono ?_; rintro e wq ⟨rfl, hbq⟩; exact ⟨rfl, after_mk (below_after_of (After.b _) hbq)⟩)
        | (go_at_call 34; refine (hNR _).mono ?_; rintro e wq ⟨rfl, hbq⟩; exact ⟨rfl, after_mk (below_after_of (After.b _) hbq)⟩)
        | (go_at_call 31; refine (hE8 _).mono ?_; rintro e wq ⟨rfl, hbq⟩; exact ⟨rfl, after_mk (below_after_of (After.b _) hbq)⟩))))
      refine wpQuiet_nil ?_
      rintro _ ⟨n10, rfl⟩
      have hB10 := below_after_of hBW9 n10.b
      generalize n10.w = w10 at *
      clear hc0 hc1 hc2 hc3 hc4 hc5 hne hA hSR hNR hE8 hb29 hb19 hBW9
      go_wp2
      go_ret
      exact ⟨rfl, hB10⟩
    · rw [ht] at hA hF
      rw [if_neg (by simp)] at hF
      clear ht
      have hB8x := HB17.out
      go_wp2_with fail
      refine (hF _ HB17.out).mono ?_
      rintro e w8 ⟨rfl, hb8⟩
      obtain ⟨W8, hW8⟩ : ∃ W8, W8 = w8.alloc (.cells #[.int .i64 4, .int .i64 fv] 38) := ⟨_, rfl⟩
      have hN8 : Below w8.heap.size w8 W8 := by rw [hW8]; exact one_new _
      have hb78 : Below w7.heap.size w7 W8 := below_after_of hb8 hN8
      have HQ8 : Hid (Pair W8 w8.heap.size (.int .i64 4) (.int .i64 fv)) := by rw [hW8]; exact Pair.new w8 _ _ _
      have HW8 : Hid (w8.alloc (.cells #[.int .i64 4, .int .i64 fv] 38) = W8) := hW8.symm
      clear hF hb8 hN8 hW8 hB8x
      go_wp2_with fail
      rw [HW8.out]
      refine (hR _ (below_after_of HB17.out hb78)).mono ?_
      rintro e w9 ⟨rfl, hb9⟩
      obtain ⟨W9, hW9⟩ : ∃ W9, W9 = w9.alloc (.cells #[.int .i64 0, .int .i64 rt] 38) := ⟨_, rfl⟩
      have hN9 : Below w9.heap.size w9 W9 := by rw [hW9]; exact one_new _
      have hb89 : Below W8.heap.size W8 W9 := below_after_of hb9 hN9
      have Q9 : Pair W9 w9.heap.size (.int .i64 0) (.int .i64 rt) := by rw [hW9]; exact Pair.new w9 _ _ _
      have Q8 := HQ8.out.below hb89
      have hb79 : Below w7.heap.size w7 W9 := below_after_of hb78 hb89
      have Q2 := Q2.below hb79
      have HW9 : Hid (w9.alloc (.cells #[.int .i64 0, .int .i64 rt] 38) = W9) := hW9.symm
      have hb29 : Below W2.heap.size W2 W9 := below_after_of HB27.out hb79
      have hb19 : Below w1.heap.size w1 W9 := below_after_of HB17.out hb79
      have hBW9 : Below w.heap.size w W9 := below_after_of HBW7.out hb79
      have hc0 := After.cell Q2.2.1
      have hc1 := After.cell Q2.2.2
      have hc2 := After.cell Q8.2.1
      have hc3 := After.cell Q8.2.2
      have hc4 := After.cell Q9.2.1
      have hc5 := After.cell Q9.2.2
      have hne := After.ne W9
      have hii : ∀ i : Int, (i == i) = true := by simp
      clear hR hb9 hN9 hW9 hb78 hb89 hb79 HQ8 HW8 Q8 Q9 Q2 p0 p1 p2
      go_wp2_with fail
      rw [HW9.out]
      refine wp_region_after (by kernel_rfl) (by kernel_rfl) ?_
      repeat (first | go_big_quiet_skip | (go_big_quiet_want; go_big_quiet_op; first | go_big_quiet_on | go_big_quiet_call (first
        | (go_at_call 29; refine (hA _ (below_after_of hb29 (After.b _))).mono ?_; rintro e wq ⟨rfl, hbq⟩; exact ⟨rfl, after_mk (below_after_of (After.b _) hbq)⟩)
        | (go_at_call 35; refine (hSR _ (below_after_of hb19 (After.b _))).mono ?_; rintro e wq ⟨rfl, hbq⟩; exact ⟨rfl, after_mk (below_after_of (After.b _) hbq)⟩)
        | (go_at_call 34; refine (hNR _).mono ?_; rintro e wq ⟨rfl, hbq⟩; exact ⟨rfl, after_mk (below_after_of (After.b _) hbq)⟩)
        | (go_at_call 31; refine (hE8 _).mono ?_; rintro e wq ⟨rfl, hbq⟩; exact ⟨rfl, after_mk (below_after_of (After.b _) hbq)⟩))))
      refine wpQuiet_nil ?_
      rintro _ ⟨n10, rfl⟩
      have hB10 := below_after_of hBW9 n10.b
      generalize n10.w = w10 at *
      clear hc0 hc1 hc2 hc3 hc4 hc5 hne hA hSR hNR hE8 hb29 hb19 hBW9
      go_wp2
      go_ret
      exact ⟨rfl, hB10⟩
  · have hS := fun w' h => HSP.out w' h
    have hoc' : (oc == oc) = true := by simp
    have HPP : Hid (∀ w', Below w7.heap.size w7 w' → w'.cell? ⟨w2.heap.size, 0, none⟩ = some (.int .i64 oc)) := fun w' h => (Q2.below h).2.1
    have hfn := fun a n k w => fldN0 oc a n k w
    clear HSP HOC p1 Q2
    go_wp2
    go_region_held3 (fun w' => w'.cell? ⟨w2.heap.size, 0, none⟩ = some (.int .i64 oc))
      (first | exact p0 | exact HPP.out _ hbr)
      (first | (go_at_call 33; refine (hS _ (HB17.out.drew)).mono ?_; intro e wq hqq; obtain ⟨aq, cq, tq, rfl, hbq, -⟩ := hqq.use; have hbr : Below w7.heap.size w7 wq := below_after_of (Below.refl _ _).drew hbq; have pq := HPP.out _ hbr; clear hbq hqq))
    have hB10 := below_after_of HBW7.out hbr
    clear hbr hS
    go_wp2
    go_ret
    exact ⟨rfl, hB10⟩
set_option maxRecDepth 100000 in
set_option maxHeartbeats 1000000 in
theorem fnOldProofs_walk (v : Value) (xs : List Int) (w : World) (hv : Ints .u8 w v xs) (hx : xs.length ≤ maxLen) (hw : ∀ n ∈ xs, (Lit.int .u8 n).wf = true) :
    Calls Try.prog 4 #[v] w fun e w' => e = .returned (.bool true) ∧ Below w.heap.size w w' := by
  by_cases h : xs.length ≤ 1048576
  · exact fnOldProofs_small v xs w ⟨hv, h, hw⟩ (ints_far hv)
  · obtain ⟨a, c, rfl⟩ := hv.shape
    have hlb := fun w => lwBig4 a xs.length c w hx
    rw [show decide (1048576 < xs.length) = true by simp; omega] at hlb
    generalize xs.length = n at *
    clear hv hw
    go_enter Try.func4, Try.ntmps4
    go_wp2_with fail
    refine (hlb _).mono ?_
    rintro e w0 ⟨rfl, rfl⟩
    clear hlb
    go_wp2
    go_ret
    exact ⟨rfl, Below.refl _ _⟩
end U
end Go.Proofs.Ytgflamlfplpfdaa
