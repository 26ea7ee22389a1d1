/- OldClash, by the program. -/
import Derived.Test.YtgflamlfplpfdaaOp10
import Derived.Test.YtgflamlfplpfdaaSl19
import Derived.Test.YtgflamlfplpfdaaHeldBy
namespace Go.Proofs.Ytgflamlfplpfdaa
open Go.RowKit
namespace U
/-- A pass from a label ends well within n jumps. -/
def Good (P : Program) (R : Code) (l : Nat) (Q : Exit → Act → World → Prop) : Nat → Act → World → Prop
  | 0, _, _ => False
  | n + 1, a, w => R.wp P (Exit.jump l (Good P R l Q n) Q) a w
theorem good_jump {P : Program} {R : Code} {l : Nat} {Q : Exit → Act → World → Prop} {J : Act → World → Prop} {n : Nat} {a : Act} {w : World} (h : Good P R l Q n a w) (hJ : ∀ m a w, m < n → Good P R l Q m a w → J a w) : R.wp P (Exit.jump l J Q) a w := by
  cases n with
  | zero => exact h.elim
  | succ n =>
    refine Code.wp_mono ?_ h
    intro e a' w' h'
    cases e <;> first | exact h' | exact ⟨h'.1, hJ n _ _ (Nat.lt_succ_self _) h'.2⟩
theorem least_of {p : Nat → Prop} (h : ∃ n, p n) : ∃ n, p n ∧ ∀ m, p m → n ≤ m := by
  obtain ⟨n, hn⟩ := h
  induction n using Nat.strongRecOn with
  | _ n ih =>
    by_cases hm : ∃ m, m < n ∧ p m
    · obtain ⟨m, hlt, hp⟩ := hm
      exact ih m hlt hp
    · exact ⟨n, hn, fun m hp => Nat.le_of_not_lt fun hlt => hm ⟨m, hlt, hp⟩⟩
/-- A scope with one label to which the run jumps back: what holds at a jump is told behind the label. -/
theorem wp_scope_good {P : Program} {a : Act} {w : World} {Q : Exit → Act → World → Prop} {c R : Code} (l : Nat) (hf : findLabel c l = some (Code.skip.seq R))
    (first : ∀ G : Nat → Act → World → Prop, (∀ n a w, R.wp P (Exit.jump l (G n) Q) a w → G (n + 1) a w) → (∀ n a w, G n a w → R.wp P (Exit.jump l (fun a w => ∃ n, G n a w) Q) a w) → c.wp P (Exit.jump l (fun a w => ∃ n, G n a w) Q) a w) : (Code.scope c).wp P Q a w := by
  classical
  refine wp_scope_jumps l (fun a w => ∃ n, Good P R l Q n a w) (fun a w => if h : ∃ n, Good P R l Q n a w then Classical.choose (least_of h) else 0) hf (first (Good P R l Q) (fun _ _ _ h => h) (fun n a w h => good_jump h fun m a w _ hg => ⟨m, hg⟩)) ?_
  intro a w h
  refine wp_seq (wp_skip ?_)
  refine good_jump (Classical.choose_spec (least_of h)).1 fun m a' w' hm hg => ⟨⟨m, hg⟩, ?_⟩
  have h' : ∃ n, Good P R l Q n a' w' := ⟨m, hg⟩
  rw [dif_pos h', dif_pos h]
  exact Nat.lt_of_le_of_lt ((Classical.choose_spec (least_of h')).2 m hg) hm
theorem ClashAns.use2 {w w' : World} {code : Int} {f : Bool} {ls bs : List Int} {e : Ending} (h : ClashAns w code f ls bs e w') : ∃ a1 n1 c1 a2 n2 c2, e = .returned (.agg #[.int .i64 code, .bool f, .slice a1 n1 c1, .slice a2 n2 c2]) ∧ Below w.heap.size w w' ∧ Rows2 w w' (.slice a1 n1 c1) (.slice a2 n2 c2) f ls bs := by
  obtain ⟨hb, v1, v2, rfl, hr⟩ := h
  obtain ⟨⟨a1, c1, rfl⟩, a2, c2, rfl⟩ := hr.shape
  exact ⟨_, _, _, _, _, _, rfl, hb, hr⟩
theorem Qd.drew {w : World} {g : Nat} {x y z t : Value} (h : Qd w g x y z t) : Qd w.drew g x y z t := h.below (Below.refl _ _).drew
theorem Qd.set {w : World} {g : Nat} {x y z t : Value} (h : Qd w g x y z t) (x' y' z' t' : Value) : Qd ((((w.setCell ⟨g, 0, none⟩ x').setCell ⟨g, 1, none⟩ y').setCell ⟨g, 2, none⟩ z').setCell ⟨g, 3, none⟩ t') g x' y' z' t' := by
  refine ⟨?_, ?_, ?_, ?_, ?_, ?_, ?_, ?_, by simpa using h.lt⟩
  · exact (World.cell?_setCell_other _ _ _ _ (by simp)).trans ((World.cell?_setCell_other _ _ _ _ (by simp)).trans ((World.cell?_setCell_other _ _ _ _ (by simp)).trans (World.cell?_setCell_same _ _ _ h.c0)))
  · exact (World.cell?_setCell_other _ _ _ _ (by simp)).trans ((World.cell?_setCell_other _ _ _ _ (by simp)).trans (World.cell?_setCell_same _ _ _ ((World.cell?_setCell_other _ _ _ _ (by simp)).trans h.c1)))
  · exact (World.cell?_setCell_other _ _ _ _ (by simp)).trans (World.cell?_setCell_same _ _ _ ((World.cell?_setCell_other _ _ _ _ (by simp)).trans ((World.cell?_setCell_other _ _ _ _ (by simp)).trans h.c2)))
  · exact World.cell?_setCell_same _ _ _ ((World.cell?_setCell_other _ _ _ _ (by simp)).trans ((World.cell?_setCell_other _ _ _ _ (by simp)).trans ((World.cell?_setCell_other _ _ _ _ (by simp)).trans h.c3)))
  · simpa [World.frozen?_setCell] using h.f0
  · simpa [World.frozen?_setCell] using h.f1
  · simpa [World.frozen?_setCell] using h.f2
  · simpa [World.frozen?_setCell] using h.f3
theorem field_NR1 (c : Int) (a : Option Addr) (n k : Nat) (w : World) : (Instr.field 44 (.agg #[.int .i64 c, .slice a n k]) 1).run Try.prog w = .ok (.slice a n k) w := by kernel_rfl
theorem okv_of_shape {a : Option Addr} {n c : Nat} (h : n ≤ c ∧ (a = none → c = 0)) : Okv (.slice a n c) := by
  intro a' n' c' e
  cases e
  exact h
set_option maxRecDepth 100000 in
set_option maxHeartbeats 8000000 in
theorem implOldClash_ok (v : Value) (l : Prl) (x : Int) (b : Bool) (y : Int) (pv : Value) (p : List Int) (w : World) (hv : Prs w v l) (hvk : Okv v) (hp : Ints .i64 w pv p) (h0 : slF l = 0) (hc : coC x b y p = 0) (hr : coV x b y p = nd l 8 0) :
    Calls Try.prog 37 #[v, .int .i64 x, .bool b, .int .i64 y, pv] w fun e w' => ClashAns w (ocC l x b y p) (ocF l x b y p) (ocP l x b y p).1 (ocP l x b y p).2 e w' := by
  have hsl := slF_ok h0
  have hlen := hsl.len
  have hF : ∀ w', Below w.heap.size w w' → Calls Try.prog 19 #[v] w' fun e w'' => e = .returned (.int .i64 0) ∧ Below w'.heap.size w' w'' := fun w' h => (implSlotsFault_any v l w' (hv.below h) (by omega)).mono fun e w'' h => by rw [h0] at h; exact h
  obtain ⟨ha, h8, hs⟩ := co_zero hc
  have hk := askd_key ha
  have hM := fun w' h => implClimbOld_any x b y pv p w' (hp.below (w' := w') h)
  rw [hc, hr] at hM
  have hR := fun w' h => implOldRoot_any v l w' (hv.below (w' := w') h) (by omega)
  have e1 : orC l = 0 := h0
  have e2 : orV l = nd l 8 0 := by unfold orV; rw [if_pos h0]
  rw [e1, e2] at hR
  have hL := fun w => implLeafBytes_any x b y w
  rw [(lb_ok ha).1, (lb_ok ha).2] at hL
  have hT := fun w' h => leafOf_any v l x w' (hv.below (w' := w') h) (by omega) h0 hk
  have HC1 : Hid (∀ u w', Below w.heap.size w w' → Ints .u8 w' u (leafL x b y) → Calls Try.prog 76 #[.int .i64 x, u, pv] w' fun e w'' => e = .returned (.tuple #[.agg (arrV (nds x (sumL (leafL x b y)) p 8)), .int .i64 (clm x (sumL (leafL x b y)) p 8)]) ∧ Below w'.heap.size w' w'') :=
    fun u w' h h' => climb_any x u pv (leafL x b y) p w' hk h' (leafL_bts ha) (by have := leafL_len x b y; omega) (hp.below h) h8 hs
  have HC2 : Hid (∀ u u' w', Ints .u8 w' u (lfT l x) → Ints .i64 w' u' (pth l x 8) → Calls Try.prog 76 #[.int .i64 x, u, u'] w' fun e w'' => e = .returned (.tuple #[.agg (arrV (nds x (sumL (lfT l x)) (pth l x 8) 8)), .int .i64 (clm x (sumL (lfT l x)) (pth l x 8) 8)]) ∧ Below w'.heap.size w' w'') :=
    fun u u' w' h h' => climb_any x u u' (lfT l x) (pth l x 8) w' hk h (leafL_bts (lfT_askd h0 hk)) (by have := leafL_len x (thr l x) (fsV l x); unfold lfT; omega) h' (pth_len l x 8) (pth_ok l x 8)
  have hP := fun w' h => implOldPath_any v l x w' (hv.below (w' := w') h) hvk (by omega)
  have e3 : opC l x = 0 := by unfold opC; rw [if_pos h0, if_pos (inB_t hk.1 hk.2)]
  have e4 : opL l x = pth l x 8 := by unfold opL; rw [if_pos ⟨h0, inB_t hk.1 hk.2⟩]
  rw [e3, e4] at hP
  rw [(oc_ok h0 hc hr).1, (oc_ok h0 hc hr).2]
  obtain ⟨va, vc, rfl⟩ := hv.shape
  obtain ⟨pa, pc, rfl⟩ := hp.shape
  have HN1 : Hid (∀ n, n < 8 → ∀ w', Calls Try.prog 87 #[nds x (sumL (leafL x b y)) p 8 n] w' fun e w'' => ∃ v', e = .returned v' ∧ w''.ownsRow w'.heap.size 5 1 v' 5 ((ndP x (sumL (leafL x b y)) p n).map (Value.int .u8)) ∧ Below w'.heap.size w' w'') := fun n hn w' => by
    have e : nds x (sumL (leafL x b y)) p 8 n = cx (sdL x (sumL (leafL x b y)) p n) (sdR x (sumL (leafL x b y)) p n) := by unfold nds; rw [if_pos hn]
    have hd := sd_bd (x := x) (sumL_bd (leafL x b y)) hs n
    have h := nodeBytes_any _ _ w' hd.1 hd.2
    rw [nd_two_len] at h
    rw [e]
    exact h
  have HN2 : Hid (∀ n, n < 8 → ∀ w', Calls Try.prog 87 #[nds x (sumL (lfT l x)) (pth l x 8) 8 n] w' fun e w'' => ∃ v', e = .returned v' ∧ w''.ownsRow w'.heap.size 5 1 v' 5 ((ndT l x n).map (Value.int .u8)) ∧ Below w'.heap.size w' w'') := fun n hn w' => by
    have e : nds x (sumL (lfT l x)) (pth l x 8) 8 n = cx (sdL x (sumL (lfT l x)) (pth l x 8) n) (sdR x (sumL (lfT l x)) (pth l x 8) n) := by unfold nds; rw [if_pos hn]
    have hd := sd_bd (x := x) (sumL_bd (lfT l x)) (pth_ok l x 8) n
    have h := nodeBytes_any _ _ w' hd.1 hd.2
    rw [nd_two_len] at h
    rw [e, ← ndP_there h0 hn]
    exact h
  have HLK : Hid (∀ (A B : Nat) n v u w', n < 8 → w'.ownsRow A 5 1 v 5 ((ndP x (sumL (leafL x b y)) p n).map (Value.int .u8)) → w'.ownsRow B 5 1 u 5 ((ndT l x n).map (Value.int .u8)) → Calls Try.prog 86 #[v, u] w' fun e w'' => ClashAns w' 0 (l2B (ndP x (sumL (leafL x b y)) p n) (ndT l x n)) (ndP x (sumL (leafL x b y)) p n) (ndT l x n) e w'') := fun A B n v u w' hn h1 h2 => by
    have l1 := ndP_len x (sumL (leafL x b y)) p n
    have l2 := ndT_len l x n
    have h := implLookClash_any A B v u (ndP x (sumL (leafL x b y)) p n) (ndT l x n) w' (by rw [l1]; exact h1) (by rw [l2]; exact h2) (ndP_bts (sumL_bd _) hs n) (ndT_bts l x n) (by omega) (by omega)
    rw [(lk_ok (by omega)).1, (lk_ok (by omega)).2] at h
    exact h
  have HLF : Hid (∀ (A B : Nat) v u w', w'.ownsRow A 5 1 v (leafL x b y).length ((leafL x b y).map (Value.int .u8)) → w'.ownsRow B 5 1 u (lfT l x).length ((lfT l x).map (Value.int .u8)) → Calls Try.prog 86 #[v, u] w' fun e w'' => ClashAns w' 0 (l2B (leafL x b y) (lfT l x)) (leafL x b y) (lfT l x) e w'') := fun A B v u w' h1 h2 => by
    have l1 := leafL_len x b y
    have l2 : (lfT l x).length ≤ 5 := leafL_len _ _ _
    have h := implLookClash_any A B v u (leafL x b y) (lfT l x) w' h1 h2 (leafL_bts ha) (leafL_bts (lfT_askd h0 hk)) (by omega) (by omega)
    rw [(lk_ok (by omega)).1, (lk_ok (by omega)).2] at h
    exact h
  have HPQ : Hid (ocP l x b y p = ocW l x (sumL (leafL x b y)) p (leafL x b y) (lfT l x) 8) := rfl
  have HX1 := arr_cx x (sumL (leafL x b y)) p
  have HX2 := arr_cx x (sumL (lfT l x)) (pth l x 8)
  generalize ocP l x b y p = pq at *
  generalize clm x (sumL (leafL x b y)) p 8 = k1 at *
  generalize clm x (sumL (lfT l x)) (pth l x 8) 8 = k2 at *
  generalize nd l 8 0 = rt at *
  generalize sumL (leafL x b y) = s at *
  generalize leafL x b y = ls at *
  generalize sumL (lfT l x) = s' at *
  generalize lfT l x = tt at *
  generalize hpt : pth l x 8 = pt at *
  have HPT : Hid (pt.length = 8) := by show _ = _; rw [← hpt, pth_len]
  generalize p.length = pn at *
  generalize l.length = n at *
  have hrr : (rt == rt) = true := by simp
  have hrn : (rt != rt) = false := by simp
  obtain ⟨W0, hW0⟩ : ∃ W0, W0 = w.alloc (.cells #[.int .i64 0, .bool false, .slice none 0 0, .slice none 0 0] 60) := ⟨_, rfl⟩
  have HW0 : Hid (w.alloc (.cells #[.int .i64 0, .bool false, .slice none 0 0, .slice none 0 0] 60) = W0) := hW0.symm
  have HBW : Hid (Below w.heap.size w W0) := by rw [hW0]; exact one_new _
  have HQ0 : Hid (Qd W0 w.heap.size (.int .i64 0) (.bool false) (.slice none 0 0) (.slice none 0 0)) := by rw [hW0]; exact Qd.new _ _ _ _ _ _
  have HUP : Hid (∀ w', Below W0.heap.size W0 w' → Below w.heap.size w w') := fun w' h => by rw [hW0] at h; exact below_after h
  have HSZ : Hid (w.heap.size + 1 = W0.heap.size) := by show _ = _; rw [hW0]; simp
  clear hv hvk hp h0 hc hr hsl hlen ha h8 hs hk e1 e2 e3 e4 hpt hW0
  go_enter Try.func37, Try.ntmps37
  go_wp2
  rename_i Q0
  have HQQ : Hid (∀ a' w', bodyPost Try.prog Try.f37 (fun e w' => ClashAns w 0 (l2B pq.1 pq.2) pq.1 pq.2 e w') .ret a' w' → Q0 .ret a' w') := fun _ _ h => h
  clear_value Q0
  refine wp_scope_good 0 rfl ?_
  intro G hin hout
  go_wp2_with fail
  refine (hF _ (one_new _)).mono ?_
  rintro e w1 ⟨rfl, hb1⟩
  rw [HW0.out] at hb1
  clear hF
  go_wp2_with fail
  refine (hM _ (HUP.out _ hb1)).mono ?_
  rintro e w2 ⟨rfl, hb2⟩
  have hB2 := below_after_of (below_after_of hb1 hb2) (one_new (.cells #[.int .i64 0, .int .i64 rt] 38))
  have g2 := two_cellsV (heap_alloc_new w2 (.cells #[.int .i64 0, .int .i64 rt] 38))
  obtain ⟨W2, hW2⟩ : ∃ W2, W2 = w2.alloc (.cells #[.int .i64 0, .int .i64 rt] 38) := ⟨_, rfl⟩
  rw [← hW2] at hB2 g2
  have hlt2 : w2.heap.size < W2.heap.size := by rw [hW2]; simp
  have HW2 : Hid (w2.alloc (.cells #[.int .i64 0, .int .i64 rt] 38) = W2) := hW2.symm
  have HG : Hid (∀ w', Below W2.heap.size W2 w' → w'.cell? ⟨w2.heap.size, 0, none⟩ = some (.int .i64 0) ∧ w'.cell? ⟨w2.heap.size, 1, none⟩ = some (.int .i64 rt)) := fun w' h => ⟨(h.cell (p := ⟨w2.heap.size, 0, none⟩) hlt2).trans g2.1, (h.cell (p := ⟨w2.heap.size, 1, none⟩) hlt2).trans g2.2.1⟩
  clear hM hb1 hb2 hW2 hlt2 g2
  go_wp2
  rw [HW2.out]
  have cR0 := (HG.out _ (Below.refl _ _)).1
  have cR1 := (HG.out _ (Below.refl _ _)).2
  have hBB : Below w.heap.size w W2 := HUP.out _ hB2
  go_region_held3 (fun w' => w'.cell? ⟨w2.heap.size, 0, none⟩ = some (.int .i64 0) ∧ w'.cell? ⟨w2.heap.size, 1, none⟩ = some (.int .i64 rt))
    (first | exact ⟨cR0, cR1⟩ | exact HG.out _ hbr)
    (first | (go_at_call 34; refine (hR _ (hBB.drew)).mono ?_; rintro e wq ⟨rfl, hbq⟩; have hbr : Below W2.heap.size W2 wq := below_after_of (Below.refl _ _).drew hbq; have hR0 := (HG.out _ hbr).1; have hR1 := (HG.out _ hbr).2; clear hbq))
  have hB3 := below_after_of hB2 hbr
  clear hbr hBB hB2 cR0 cR1 hR HG
  go_wp2_with fail
  refine (hL _).mono ?_
  intro e w4 h4
  obtain ⟨a4, c4, rfl, hb4, own4⟩ := h4.use
  have kf := fun w => field_BR1 0 a4 ls.length c4 w
  have hB4 := below_after_of hB3 hb4
  clear hL h4 hb4 hB3
  go_wp2_with fail
  refine (hT _ (HUP.out _ hB4)).mono ?_
  rintro e w5 ⟨v5, rfl, own5, hb5⟩
  obtain ⟨a5, c5, rfl⟩ := own_shape own5
  have own4 := own_below own4 hb5
  have hB5 := below_after_of hB4 hb5
  clear hT hb5 hB4 kf
  have hC1 := HC1.out _ _ (HUP.out _ hB5) (own_ints own4)
  clear HC1
  obtain ⟨r0, i0, r1, i1, r2, i2, r3, i3, r4, i4, r5, i5, r6, i6, r7, i7, hX1⟩ := HX1
  rw [hX1] at hC1
  have HX1 : Hid (arrV (nds x s p 8) = #[.complex .f64 r0 i0, .complex .f64 r1 i1, .complex .f64 r2 i2, .complex .f64 r3 i3, .complex .f64 r4 i4, .complex .f64 r5 i5, .complex .f64 r6 i6, .complex .f64 r7 i7]) := hX1
  clear hX1
  have kst := fun (w : World) (a : Addr) (m : Mode) (r i : Nat) => run_store Try.prog w a (.complex .f64 r i) m rfl
  have HO45 : Hid (w5.ownsRow 0 5 1 (.slice a4 ls.length c4) ls.length (ls.map (Value.int .u8)) ∧ w5.ownsRow 0 5 1 (.slice a5 tt.length c5) tt.length (tt.map (Value.int .u8))) := ⟨own_mono own4 (Nat.zero_le _), own_mono own5 (Nat.zero_le _)⟩
  clear own4 own5
  generalize hlsn : ls.length = lsn at *
  generalize httn : tt.length = ttn at *
  have HLN : Hid (ls.length = lsn ∧ tt.length = ttn) := ⟨hlsn, httn⟩
  clear hlsn httn
  go_wp2_with fail
  refine hC1.mono ?_
  rintro e w6 ⟨rfl, hb6⟩
  have hB6 := below_after_of hB5 (below_after_of hb6 (one_new (.cells (arrV (nds x s p 8)) 104)))
  have HO6 : Hid (Below w5.heap.size w5 (w6.alloc (.cells (arrV (nds x s p 8)) 104))) := below_after_of hb6 (one_new _)
  have HA1 : Hid (ArrV (w6.alloc (.cells (arrV (nds x s p 8)) 104)) w6.heap.size (nds x s p 8)) := ArrV.of (heap_alloc_new _ _)
  rw [HX1.out] at hB6 HO6 HA1
  clear hC1 hb6 hB5
  go_wp2_with fail
  obtain ⟨W6, hW6⟩ : ∃ W6, W6 = w6.alloc (.cells #[.complex .f64 r0 i0, .complex .f64 r1 i1, .complex .f64 r2 i2, .complex .f64 r3 i3, .complex .f64 r4 i4, .complex .f64 r5 i5, .complex .f64 r6 i6, .complex .f64 r7 i7] 104) := ⟨_, rfl⟩
  rw [← hW6] at hB6 HO6 HA1 ⊢
  have hlt6 : w6.heap.size < W6.heap.size := by rw [hW6]; simp
  clear hW6
  refine (hP _ (HUP.out _ hB6)).mono ?_
  intro e w7 h7
  obtain ⟨a7, c7, t7, rfl, hb7, own7⟩ := h7.use
  have i7' := own_ints own7
  rw [HPT.out] at i7' ⊢
  have hB7 := below_after_of hB6 hb7
  have HO7 : Hid (Below w5.heap.size w5 w7) := below_after_of HO6.out hb7
  have HA1 : Hid (ArrV w7 w6.heap.size (nds x s p 8)) := HA1.out.below hb7 hlt6
  have hlt7 : w6.heap.size < w7.heap.size := Nat.lt_of_lt_of_le hlt6 hb7.size
  have kf := fun w => field_NR1 0 a7 8 c7 w
  have i5' := own_ints_n HLN.out.2.symm (own_below HO45.out.2 HO7.out)
  have hC2 := HC2.out _ _ _ i5' i7'
  clear hP h7 hb7 own7 hB6 HO6 hlt6 i7' HC2
  obtain ⟨R0, I0, R1, I1, R2, I2, R3, I3, R4, I4, R5, I5, R6, I6, R7, I7, hX2⟩ := HX2
  rw [hX2] at hC2
  have HX2 : Hid (arrV (nds x s' pt 8) = #[.complex .f64 R0 I0, .complex .f64 R1 I1, .complex .f64 R2 I2, .complex .f64 R3 I3, .complex .f64 R4 I4, .complex .f64 R5 I5, .complex .f64 R6 I6, .complex .f64 R7 I7]) := hX2
  clear hX2 i5'
  go_wp2_with fail
  refine hC2.mono ?_
  rintro e w8 ⟨rfl, hb8⟩
  have hB8 := below_after_of hB7 (below_after_of hb8 (one_new (.cells (arrV (nds x s' pt 8)) 104)))
  have HO8 : Hid (Below w5.heap.size w5 (w8.alloc (.cells (arrV (nds x s' pt 8)) 104))) := below_after_of HO7.out (below_after_of hb8 (one_new _))
  have HA2 : Hid (ArrV (w8.alloc (.cells (arrV (nds x s' pt 8)) 104)) w8.heap.size (nds x s' pt 8)) := ArrV.of (heap_alloc_new _ _)
  have HA1 : Hid (ArrV (w8.alloc (.cells (arrV (nds x s' pt 8)) 104)) w6.heap.size (nds x s p 8)) := HA1.out.below (below_after_of hb8 (one_new _)) hlt7
  have hlt8 : w6.heap.size < w8.heap.size := Nat.lt_of_lt_of_le hlt7 hb8.size
  rw [HX2.out] at hB8 HO8 HA1 HA2
  clear hC2 hb8 hB7 kf
  go_wp2
  obtain ⟨W8, hW8⟩ : ∃ W8, W8 = w8.alloc (.cells #[.complex .f64 R0 I0, .complex .f64 R1 I1, .complex .f64 R2 I2, .complex .f64 R3 I3, .complex .f64 R4 I4, .complex .f64 R5 I5, .complex .f64 R6 I6, .complex .f64 R7 I7] 104) := ⟨_, rfl⟩
  rw [← hW8] at hB8 HO8 HA1 HA2 ⊢
  have hlt9 : w8.heap.size < W8.heap.size := by rw [hW8]; simp
  clear hW8
  go_step3
  rename_i hK
  refine hK _ _ (hout 8 _ _ ?_)
  clear hK hout
  have key : ∀ k : Nat, k ≤ 8 → ∀ (u0 u1 u2 u3 u4 u5 u6 u7 u8 u9 u11 u12 u16 u18 u20 u21 u22 u23 u24 u25 u26 u27 u28 u29 u30 u31 u32 u33 u34 u35 u36 u37 u38 u39 u40 u41 u42 u43 u44 u45 u46 u47 u48 u49 u50 u51 u52 u53 u54 u55 u56 u57 u58 u59 u60 u61 u62 u63 u64 u65 u66 u67 u68 u69 u70 u71 u72 u73 u74 u75 u76 u77 u78 u79 u80 u81 u82 u83 u84 u85 u86 u87 : Value) (wr : World), 1 ≤ k → Hid (Below W8.heap.size W8 wr) → Hid (pq = ocW l x s p ls tt k) → G k { tmps := #[u0, u1, u2, u3, u4, u5, u6, u7, u8, u9, .pointer (some ⟨w.heap.size, 0, none⟩), u11, u12, .slice a4 lsn c4, .slice a5 ttn c5, .pointer (some ⟨w6.heap.size, 0, none⟩), u16, .pointer (some ⟨w8.heap.size, 0, none⟩), u18, .int .i64 (k : Int), u20, u21, u22, u23, u24, u25, u26, u27, u28, u29, u30, u31, u32, u33, u34, u35, u36, u37, u38, u39, u40, u41, u42, u43, u44, u45, u46, u47, u48, u49, u50, u51, u52, u53, u54, u55, u56, u57, u58, u59, u60, u61, u62, u63, u64, u65, u66, u67, u68, u69, u70, u71, u72, u73, u74, u75, u76, u77, u78, u79, u80, u81, u82, u83, u84, u85, u86, u87], defers := [] } wr := by
    intro k
    induction k with
    | zero => intro _; intros; omega
    | succ m ih =>
      intro hm8 u0 u1 u2 u3 u4 u5 u6 u7 u8 u9 u11 u12 u16 u18 u20 u21 u22 u23 u24 u25 u26 u27 u28 u29 u30 u31 u32 u33 u34 u35 u36 u37 u38 u39 u40 u41 u42 u43 u44 u45 u46 u47 u48 u49 u50 u51 u52 u53 u54 u55 u56 u57 u58 u59 u60 u61 u62 u63 u64 u65 u66 u67 u68 u69 u70 u71 u72 u73 u74 u75 u76 u77 u78 u79 u80 u81 u82 u83 u84 u85 u86 u87 wr _ hB hW
      have hmn : m < 8 := hm8
      have hm0 : (0 : Int) ≤ (m : Int) := by omega
      have hm1 : (m : Int) < 8 := by omega
      have hcast : ((m + 1 : Nat) : Int) = (m : Int) + 1 := by omega
      rw [hcast]
      have hwrap : IntKind.i64.wrap ((m : Int) + 1 - 1) = (m : Int) := by rw [IntKind.wrap_i64]; omega
      have HIH : Hid (∀ (u0 u1 u2 u3 u4 u5 u6 u7 u8 u9 u11 u12 u16 u18 u20 u21 u22 u23 u24 u25 u26 u27 u28 u29 u30 u31 u32 u33 u34 u35 u36 u37 u38 u39 u40 u41 u42 u43 u44 u45 u46 u47 u48 u49 u50 u51 u52 u53 u54 u55 u56 u57 u58 u59 u60 u61 u62 u63 u64 u65 u66 u67 u68 u69 u70 u71 u72 u73 u74 u75 u76 u77 u78 u79 u80 u81 u82 u83 u84 u85 u86 u87 : Value) (wr : World), 1 ≤ m → Hid (Below W8.heap.size W8 wr) → Hid (pq = ocW l x s p ls tt m) → G m { tmps := #[u0, u1, u2, u3, u4, u5, u6, u7, u8, u9, .pointer (some ⟨w.heap.size, 0, none⟩), u11, u12, .slice a4 lsn c4, .slice a5 ttn c5, .pointer (some ⟨w6.heap.size, 0, none⟩), u16, .pointer (some ⟨w8.heap.size, 0, none⟩), u18, .int .i64 (m : Int), u20, u21, u22, u23, u24, u25, u26, u27, u28, u29, u30, u31, u32, u33, u34, u35, u36, u37, u38, u39, u40, u41, u42, u43, u44, u45, u46, u47, u48, u49, u50, u51, u52, u53, u54, u55, u56, u57, u58, u59, u60, u61, u62, u63, u64, u65, u66, u67, u68, u69, u70, u71, u72, u73, u74, u75, u76, u77, u78, u79, u80, u81, u82, u83, u84, u85, u86, u87], defers := [] } wr) := ih (by omega)
      have hN1 := HN1.out m hmn
      have hN2 := HN2.out m hmn
      have hLK := fun A B v u w' => HLK.out A B m v u w' hmn
      have HA1' : Hid (∀ w', Below wr.heap.size wr w' → w'.cell? ⟨w6.heap.size, m, none⟩ = some (nds x s p 8 m) ∧ w'.cell? ⟨w8.heap.size, m, none⟩ = some (nds x s' pt 8 m)) := fun w' h => by
        have h' := below_after_of hB.out h
        exact ⟨(HA1.out.below h' (by omega)).c m hmn, (HA2.out.below h' hlt9).c m hmn⟩
      have q15 : ∀ w', Below wr.heap.size wr w' → w'.cell? ⟨w6.heap.size, m, none⟩ = some (nds x s p 8 m) := fun w' h => (HA1'.out w' h).1
      have q17 : ∀ w', Below wr.heap.size wr w' → w'.cell? ⟨w8.heap.size, m, none⟩ = some (nds x s' pt 8 m) := fun w' h => (HA1'.out w' h).2
      have HYN : Hid ((l2B (ndP x s p m) (ndT l x m) = true → pq = (ndP x s p m, ndT l x m)) ∧ (l2B (ndP x s p m) (ndT l x m) = false → pq = ocW l x s p ls tt m)) := ⟨fun h => by rw [hW.out, ocW_yes h], fun h => by rw [hW.out, ocW_no h]⟩
      generalize nds x s p 8 m = n1 at *
      generalize nds x s' pt 8 m = n2 at *
      generalize ndP x s p m = P at *
      generalize ndT l x m = Q at *
      generalize hf : l2B P Q = f at *
      have HFF : Hid (l2B P Q = f) := hf
      clear hf ih hW hcast HA1'
      refine hin m _ _ ?_
      go_wp2
      refine Code.wp_mono (Q := fun e a' w' => e = Exit.normal ∧ ∃ (g : Nat) (A3 : Option Addr) (N3 C3 : Nat) (A4 : Option Addr) (N4 C4 : Nat) (t70 t71 t72 t73 t74 t75 t76 t77 t78 : Value), a' = { tmps := #[u0, u1, u2, u3, u4, u5, u6, u7, u8, u9, .pointer (some ⟨w.heap.size, 0, none⟩), u11, u12, .slice a4 lsn c4, .slice a5 ttn c5, .pointer (some ⟨w6.heap.size, 0, none⟩), u16, .pointer (some ⟨w8.heap.size, 0, none⟩), u18, .int .i64 (m : Int), .pointer (some ⟨g, 0, none⟩), u21, u22, u23, u24, u25, u26, u27, u28, u29, u30, u31, u32, u33, u34, u35, u36, u37, u38, u39, u40, u41, u42, u43, u44, u45, u46, u47, u48, u49, u50, u51, u52, u53, u54, u55, u56, u57, u58, u59, u60, u61, u62, u63, u64, u65, u66, u67, .int .i64 ((m : Int) + 1), .int .i64 (m : Int), t70, t71, t72, t73, t74, t75, t76, t77, t78, u79, u80, u81, u82, u83, u84, u85, u86, u87], defers := [] } ∧ Qd w' g (.int .i64 0) (.bool f) (.slice A3 N3 C3) (.slice A4 N4 C4) ∧ Rows2 wr w' (.slice A3 N3 C3) (.slice A4 N4 C4) f P Q ∧ wr.heap.size ≤ g ∧ Below wr.heap.size wr w') ?tail ?reg
      case reg =>
        refine wp_region_held_drew (S := fun w' => Below wr.heap.size wr w') (by kernel_rfl) ((Below.refl _ _).drew) (fun hHeld => ?_)
        refine h_take (i := 0) (d := some 70) (v := ?vr1) (by rfl) (by kernel_rfl) (by kernel_rfl) (by kernel_rfl) (fun _ _ _ h => (by cases h.1)) (by rfl) ?hyr1 hHeld ?restr1
        case hyr1 =>
          intro o ho
          simp only [List.getElem?_toArray, List.getElem?_cons_zero, Option.some.injEq] at ho
          subst ho
          intro w' hSw
          first | (go_simp; done) | (go_simp; with_reducible rfl)
        try simp only [Act.put, List.setIfInBounds_toArray, List.set_cons_zero, List.set_cons_succ]
        refine h_take (i := 1) (d := some 71) (v := ?vr2) (by rfl) (by kernel_rfl) (by kernel_rfl) (by kernel_rfl) (fun _ _ _ h => (by cases h.1)) (by rfl) ?hyr2 hHeld ?restr2
        case hyr2 =>
          intro o ho
          simp only [List.getElem?_toArray, List.getElem?_cons_succ, List.getElem?_cons_zero, Option.some.injEq] at ho
          subst ho
          intro w' hSw
          first | (go_simp; done) | (go_simp; with_reducible rfl)
        try simp only [Act.put, List.setIfInBounds_toArray, List.set_cons_zero, List.set_cons_succ]
        refine h_take (i := 2) (d := some 72) (v := ?vr3) (by rfl) (by kernel_rfl) (by kernel_rfl) (by kernel_rfl) (fun _ _ _ h => (by cases h.1)) (by rfl) ?hyr3 hHeld ?restr3
        case hyr3 =>
          intro o ho
          simp only [List.getElem?_toArray, List.getElem?_cons_succ, List.getElem?_cons_zero, Option.some.injEq] at ho
          subst ho
          intro w' hSw
          first | (go_simp; done) | (go_simp; with_reducible rfl)
        try simp only [Act.put, List.setIfInBounds_toArray, List.set_cons_zero, List.set_cons_succ]
        refine h_take (i := 4) (d := some 74) (v := ?vr4) (by rfl) (by kernel_rfl) (by kernel_rfl) (by kernel_rfl) (fun _ _ _ h => (by cases h.1)) (by rfl) ?hyr4 hHeld ?restr4
        case hyr4 =>
          intro o ho
          simp only [List.getElem?_toArray, List.getElem?_cons_succ, List.getElem?_cons_zero, Option.some.injEq] at ho
          subst ho
          intro w' hSw
          first | (go_simp; done) | (go_simp; with_reducible rfl)
        try simp only [Act.put, List.setIfInBounds_toArray, List.set_cons_zero, List.set_cons_succ]
        refine h_take (i := 5) (d := some 75) (v := ?vr5) (by rfl) (by kernel_rfl) (by kernel_rfl) (by kernel_rfl) (fun _ _ _ h => (by cases h.1)) (by rfl) ?hyr5 hHeld ?restr5
        case hyr5 =>
          intro o ho
          simp only [List.getElem?_toArray, List.getElem?_cons_succ, List.getElem?_cons_zero, Option.some.injEq] at ho
          subst ho
          intro w' hSw
          first | (go_simp; done) | (go_simp; with_reducible rfl)
        try simp only [Act.put, List.setIfInBounds_toArray, List.set_cons_zero, List.set_cons_succ]
        refine h_take (i := 6) (d := some 76) (v := ?vr6) (by rfl) (by kernel_rfl) (by kernel_rfl) (by kernel_rfl) (fun _ _ _ h => (by cases h.1)) (by rfl) ?hyr6 hHeld ?restr6
        case hyr6 =>
          intro o ho
          simp only [List.getElem?_toArray, List.getElem?_cons_succ, List.getElem?_cons_zero, Option.some.injEq] at ho
          subst ho
          intro w' hSw
          first | (go_simp; done) | (go_simp; with_reducible rfl)
        try simp only [Act.put, List.setIfInBounds_toArray, List.set_cons_zero, List.set_cons_succ]
        refine wpAnyH_ready (rs := [3, 9]) (by kernel_rfl) (by simp) ?_
        refine AllReadyH.cons rfl (fun K hK => ?_) (AllReadyH.cons rfl (fun K hK => ?_) AllReadyH.nil)
        · go_simp
          refine (hN1 _).mono ?_
          rintro e wq ⟨v1, rfl, own1, hbq⟩
          obtain ⟨A1, C1, rfl⟩ := own_shape own1
          have hq := below_after_of hHeld hbq
          try (have GG := GG.below hbq)
          refine hK.out _ _ ?_ (fun hHeld => ?_)
          · exact hq
          clear hK K
          try simp only [Act.put, List.setIfInBounds_toArray, List.set_cons_zero, List.set_cons_succ]
          refine wpAnyH_ready (rs := [7, 9]) (by kernel_rfl) (by simp) ?_
          refine AllReadyH.cons rfl (fun K hK => ?_) (AllReadyH.cons rfl (fun K hK => ?_) AllReadyH.nil)
          · go_simp
            refine (hN2 _).mono ?_
            rintro e wq ⟨v2, rfl, own2, hbq⟩
            obtain ⟨A2, C2, rfl⟩ := own_shape own2
            have own1 := own_below own1 hbq
            have hq := below_after_of hHeld hbq
            try (have GG := GG.below hbq)
            refine hK.out _ _ ?_ (fun hHeld => ?_)
            · exact hq
            clear hK K
            try simp only [Act.put, List.setIfInBounds_toArray, List.set_cons_zero, List.set_cons_succ]
            refine wpAnyH_ready (rs := [8, 9]) (by kernel_rfl) (by simp) ?_
            refine AllReadyH.cons rfl (fun K hK => ?_) (AllReadyH.cons rfl (fun K hK => ?_) AllReadyH.nil)
            · go_simp
              refine (hLK _ _ _ _ _ own1 own2).mono ?_
              intro e wq hqq
              obtain ⟨A3, N3, C3, A4, N4, C4, rfl, hbq, R2⟩ := hqq.use2
              have hq := below_after_of hHeld hbq
              have hw8 := hHeld.size
              try (have hg2 := GG.lt)
              try (have GG := GG.below hbq)
              clear hqq
              refine hK.out _ _ ?_ (fun hHeld => ?_)
              · exact hq
              clear hK K
              try simp only [Act.put, List.setIfInBounds_toArray, List.set_cons_zero, List.set_cons_succ]
              refine wpAnyH_ready (rs := [9]) (by kernel_rfl) (by simp) ?_
              refine AllReadyH.cons rfl (fun K hK => ?_) AllReadyH.nil
              · go_simp
                first | (have GG := Qd.new wq (.int .i64 0) (.bool false) (.slice none 0 0) (.slice none 0 0) 60; have hgg := hq.size) | (have GG := (Qd.new wr (.int .i64 0) (.bool false) (.slice none 0 0) (.slice none 0 0) 60).drew; have hgg := Nat.le_refl wr.heap.size)
                try (have own1 := own_below own1 (one_new (.cells #[.int .i64 0, .bool false, .slice none 0 0, .slice none 0 0] 60)))
                try (have own2 := own_below own2 (one_new (.cells #[.int .i64 0, .bool false, .slice none 0 0, .slice none 0 0] 60)))
                refine hK.out _ _ ?_ (fun hHeld => ?_)
                · exact below_after_of hHeld (one_new _)
                clear hK K
                try simp only [Act.put, List.setIfInBounds_toArray, List.set_cons_zero, List.set_cons_succ]
                have ⟨x0, x1, x2, x3, z0, z1, z2, z3, hgl⟩ := GG
                refine wpAnyH_ready (rs := [10]) (by kernel_rfl) (by simp) ?_
                refine AllReadyH.cons rfl (fun K hK => ?_) AllReadyH.nil
                go_simp
                refine hK.out _ _ ?_ (fun hHeld => ?_)
                · first | exact (((hHeld.setCell (by exact hgg) _).setCell (by exact hgg) _).setCell (by exact hgg) _).setCell (by exact hgg) _ | exact below_after_of hq (one_new _)
                clear hK K
                try simp only [Act.put, List.setIfInBounds_toArray, List.set_cons_zero, List.set_cons_succ]
                refine wpAnyH_done (by kernel_rfl) ?_ _
                refine ⟨rfl, _, A3, N3, C3, A4, N4, C4, _, _, _, _, _, _, _, _, _, rfl, ?_, ?_, hgg, hHeld⟩
                · first | exact Qd.set GG _ _ _ _ | exact Qd.new _ _ _ _ _ _
                · first | exact ((((R2.set hg2 0 _).set hg2 1 _).set hg2 2 _).set hg2 3 _).mono hw8 | exact (R2.below (one_new _)).mono hw8
            · go_simp
              first | (have GG := Qd.new wq (.int .i64 0) (.bool false) (.slice none 0 0) (.slice none 0 0) 60; have hgg := hq.size) | (have GG := (Qd.new wr (.int .i64 0) (.bool false) (.slice none 0 0) (.slice none 0 0) 60).drew; have hgg := Nat.le_refl wr.heap.size)
              try (have own1 := own_below own1 (one_new (.cells #[.int .i64 0, .bool false, .slice none 0 0, .slice none 0 0] 60)))
              try (have own2 := own_below own2 (one_new (.cells #[.int .i64 0, .bool false, .slice none 0 0, .slice none 0 0] 60)))
              refine hK.out _ _ ?_ (fun hHeld => ?_)
              · exact below_after_of hHeld (one_new _)
              clear hK K
              try simp only [Act.put, List.setIfInBounds_toArray, List.set_cons_zero, List.set_cons_succ]
              refine wpAnyH_ready (rs := [8]) (by kernel_rfl) (by simp) ?_
              refine AllReadyH.cons rfl (fun K hK => ?_) AllReadyH.nil
              · go_simp
                refine (hLK _ _ _ _ _ own1 own2).mono ?_
                intro e wq hqq
                obtain ⟨A3, N3, C3, A4, N4, C4, rfl, hbq, R2⟩ := hqq.use2
                have hq := below_after_of hHeld hbq
                have hw8 := hHeld.size
                try (have hg2 := GG.lt)
                try (have GG := GG.below hbq)
                clear hqq
                refine hK.out _ _ ?_ (fun hHeld => ?_)
                · exact hq
                clear hK K
                try simp only [Act.put, List.setIfInBounds_toArray, List.set_cons_zero, List.set_cons_succ]
                have ⟨x0, x1, x2, x3, z0, z1, z2, z3, hgl⟩ := GG
                refine wpAnyH_ready (rs := [10]) (by kernel_rfl) (by simp) ?_
                refine AllReadyH.cons rfl (fun K hK => ?_) AllReadyH.nil
                go_simp
                refine hK.out _ _ ?_ (fun hHeld => ?_)
                · first | exact (((hHeld.setCell (by exact hgg) _).setCell (by exact hgg) _).setCell (by exact hgg) _).setCell (by exact hgg) _ | exact below_after_of hq (one_new _)
                clear hK K
                try simp only [Act.put, List.setIfInBounds_toArray, List.set_cons_zero, List.set_cons_succ]
                refine wpAnyH_done (by kernel_rfl) ?_ _
                refine ⟨rfl, _, A3, N3, C3, A4, N4, C4, _, _, _, _, _, _, _, _, _, rfl, ?_, ?_, hgg, hHeld⟩
                · first | exact Qd.set GG _ _ _ _ | exact Qd.new _ _ _ _ _ _
                · first | exact ((((R2.set hg2 0 _).set hg2 1 _).set hg2 2 _).set hg2 3 _).mono hw8 | exact (R2.below (one_new _)).mono hw8
          · go_simp
            first | (have GG := Qd.new wq (.int .i64 0) (.bool false) (.slice none 0 0) (.slice none 0 0) 60; have hgg := hq.size) | (have GG := (Qd.new wr (.int .i64 0) (.bool false) (.slice none 0 0) (.slice none 0 0) 60).drew; have hgg := Nat.le_refl wr.heap.size)
            try (have own1 := own_below own1 (one_new (.cells #[.int .i64 0, .bool false, .slice none 0 0, .slice none 0 0] 60)))
            try (have own2 := own_below own2 (one_new (.cells #[.int .i64 0, .bool false, .slice none 0 0, .slice none 0 0] 60)))
            refine hK.out _ _ ?_ (fun hHeld => ?_)
            · exact below_after_of hHeld (one_new _)
            clear hK K
            try simp only [Act.put, List.setIfInBounds_toArray, List.set_cons_zero, List.set_cons_succ]
            refine wpAnyH_ready (rs := [7]) (by kernel_rfl) (by simp) ?_
            refine AllReadyH.cons rfl (fun K hK => ?_) AllReadyH.nil
            · go_simp
              refine (hN2 _).mono ?_
              rintro e wq ⟨v2, rfl, own2, hbq⟩
              obtain ⟨A2, C2, rfl⟩ := own_shape own2
              have own1 := own_below own1 hbq
              have hq := below_after_of hHeld hbq
              try (have GG := GG.below hbq)
              refine hK.out _ _ ?_ (fun hHeld => ?_)
              · exact hq
              clear hK K
              try simp only [Act.put, List.setIfInBounds_toArray, List.set_cons_zero, List.set_cons_succ]
              refine wpAnyH_ready (rs := [8]) (by kernel_rfl) (by simp) ?_
              refine AllReadyH.cons rfl (fun K hK => ?_) AllReadyH.nil
              · go_simp
                refine (hLK _ _ _ _ _ own1 own2).mono ?_
                intro e wq hqq
                obtain ⟨A3, N3, C3, A4, N4, C4, rfl, hbq, R2⟩ := hqq.use2
                have hq := below_after_of hHeld hbq
                have hw8 := hHeld.size
                try (have hg2 := GG.lt)
                try (have GG := GG.below hbq)
                clear hqq
                refine hK.out _ _ ?_ (fun hHeld => ?_)
                · exact hq
                clear hK K
                try simp only [Act.put, List.setIfInBounds_toArray, List.set_cons_zero, List.set_cons_succ]
                have ⟨x0, x1, x2, x3, z0, z1, z2, z3, hgl⟩ := GG
                refine wpAnyH_ready (rs := [10]) (by kernel_rfl) (by simp) ?_
                refine AllReadyH.cons rfl (fun K hK => ?_) AllReadyH.nil
                go_simp
                refine hK.out _ _ ?_ (fun hHeld => ?_)
                · first | exact (((hHeld.setCell (by exact hgg) _).setCell (by exact hgg) _).setCell (by exact hgg) _).setCell (by exact hgg) _ | exact below_after_of hq (one_new _)
                clear hK K
                try simp only [Act.put, List.setIfInBounds_toArray, List.set_cons_zero, List.set_cons_succ]
                refine wpAnyH_done (by kernel_rfl) ?_ _
                refine ⟨rfl, _, A3, N3, C3, A4, N4, C4, _, _, _, _, _, _, _, _, _, rfl, ?_, ?_, hgg, hHeld⟩
                · first | exact Qd.set GG _ _ _ _ | exact Qd.new _ _ _ _ _ _
                · first | exact ((((R2.set hg2 0 _).set hg2 1 _).set hg2 2 _).set hg2 3 _).mono hw8 | exact (R2.below (one_new _)).mono hw8
        · go_simp
          first | (have GG := Qd.new wq (.int .i64 0) (.bool false) (.slice none 0 0) (.slice none 0 0) 60; have hgg := hq.size) | (have GG := (Qd.new wr (.int .i64 0) (.bool false) (.slice none 0 0) (.slice none 0 0) 60).drew; have hgg := Nat.le_refl wr.heap.size)
          try (have own1 := own_below own1 (one_new (.cells #[.int .i64 0, .bool false, .slice none 0 0, .slice none 0 0] 60)))
          try (have own2 := own_below own2 (one_new (.cells #[.int .i64 0, .bool false, .slice none 0 0, .slice none 0 0] 60)))
          refine hK.out _ _ ?_ (fun hHeld => ?_)
          · exact below_after_of hHeld (one_new _)
          clear hK K
          try simp only [Act.put, List.setIfInBounds_toArray, List.set_cons_zero, List.set_cons_succ]
          refine wpAnyH_ready (rs := [3]) (by kernel_rfl) (by simp) ?_
          refine AllReadyH.cons rfl (fun K hK => ?_) AllReadyH.nil
          · go_simp
            refine (hN1 _).mono ?_
            rintro e wq ⟨v1, rfl, own1, hbq⟩
            obtain ⟨A1, C1, rfl⟩ := own_shape own1
            have hq := below_after_of hHeld hbq
            try (have GG := GG.below hbq)
            refine hK.out _ _ ?_ (fun hHeld => ?_)
            · exact hq
            clear hK K
            try simp only [Act.put, List.setIfInBounds_toArray, List.set_cons_zero, List.set_cons_succ]
            refine wpAnyH_ready (rs := [7]) (by kernel_rfl) (by simp) ?_
            refine AllReadyH.cons rfl (fun K hK => ?_) AllReadyH.nil
            · go_simp
              refine (hN2 _).mono ?_
              rintro e wq ⟨v2, rfl, own2, hbq⟩
              obtain ⟨A2, C2, rfl⟩ := own_shape own2
              have own1 := own_below own1 hbq
              have hq := below_after_of hHeld hbq
              try (have GG := GG.below hbq)
              refine hK.out _ _ ?_ (fun hHeld => ?_)
              · exact hq
              clear hK K
              try simp only [Act.put, List.setIfInBounds_toArray, List.set_cons_zero, List.set_cons_succ]
              refine wpAnyH_ready (rs := [8]) (by kernel_rfl) (by simp) ?_
              refine AllReadyH.cons rfl (fun K hK => ?_) AllReadyH.nil
              · go_simp
                refine (hLK _ _ _ _ _ own1 own2).mono ?_
                intro e wq hqq
                obtain ⟨A3, N3, C3, A4, N4, C4, rfl, hbq, R2⟩ := hqq.use2
                have hq := below_after_of hHeld hbq
                have hw8 := hHeld.size
                try (have hg2 := GG.lt)
                try (have GG := GG.below hbq)
                clear hqq
                refine hK.out _ _ ?_ (fun hHeld => ?_)
                · exact hq
                clear hK K
                try simp only [Act.put, List.setIfInBounds_toArray, List.set_cons_zero, List.set_cons_succ]
                have ⟨x0, x1, x2, x3, z0, z1, z2, z3, hgl⟩ := GG
                refine wpAnyH_ready (rs := [10]) (by kernel_rfl) (by simp) ?_
                refine AllReadyH.cons rfl (fun K hK => ?_) AllReadyH.nil
                go_simp
                refine hK.out _ _ ?_ (fun hHeld => ?_)
                · first | exact (((hHeld.setCell (by exact hgg) _).setCell (by exact hgg) _).setCell (by exact hgg) _).setCell (by exact hgg) _ | exact below_after_of hq (one_new _)
                clear hK K
                try simp only [Act.put, List.setIfInBounds_toArray, List.set_cons_zero, List.set_cons_succ]
                refine wpAnyH_done (by kernel_rfl) ?_ _
                refine ⟨rfl, _, A3, N3, C3, A4, N4, C4, _, _, _, _, _, _, _, _, _, rfl, ?_, ?_, hgg, hHeld⟩
                · first | exact Qd.set GG _ _ _ _ | exact Qd.new _ _ _ _ _ _
                · first | exact ((((R2.set hg2 0 _).set hg2 1 _).set hg2 2 _).set hg2 3 _).mono hw8 | exact (R2.below (one_new _)).mono hw8
      rintro _ _ W ⟨rfl, g, A3, N3, C3, A4, N4, C4, t70, t71, t72, t73, t74, t75, t76, t77, t78, rfl, GG, R2, hgg, hBW'⟩
      dsimp only
      have hB9 := below_after_of hB.out hBW'
      have hB0 := below_after_of hB8 hB9
      obtain ⟨g0, g1, g2, g3, -, -, -, -, hgl⟩ := GG
      have hlw : w.heap.size < wr.heap.size := by have h1 := hB8.size; have h2 := hB.out.size; have h3 := HSZ.out; omega
      have hlW : wr.heap.size ≤ W.heap.size := hBW'.size
      clear hN1 hN2 hLK q15 q17 hBW'
      cases f
      · by_cases hmz : m = 0
        · have hz : ¬ (0 : Int) < (m : Int) := by omega
          have hpq : Hid (pq = (ls, tt)) := by
            show _ = _
            rw [HYN.out.2 (by first | rfl | trivial), hmz]
            rfl
          have hLF := HLF.out _ _ _ _ _ (own_below (own_below HO45.out.1 HO8.out) hB9) (own_below (own_below HO45.out.2 HO8.out) hB9)
          clear HYN HIH R2
          go_wp2_with fail
          refine hLF.mono ?_
          intro e w9 h9
          obtain ⟨B1, M1, D1, B2, M2, D2, rfl, hb9, R9⟩ := h9.use2
          have hB10 := below_after_of hB0 hb9
          obtain ⟨q0, q1, q2, q3, f0, f1, f2, f3, -⟩ := HQ0.out.below hB10
          have HB10 := HUP.out _ hB10
          have hlt : w.heap.size < W.heap.size := Nat.lt_of_lt_of_le hlw hlW
          have HR9 : Hid (Rows2 W w9 (.slice B1 M1 D1) (.slice B2 M2 D2) (l2B ls tt) ls tt) := R9
          clear hLF h9 hb9 hB10 R9
          go_wp2
          show Q0 .ret _ _
          refine HQQ.out _ _ ?_
          exact bodyPost_ret (v := .agg #[.int .i64 0, .bool (l2B ls tt), .slice B1 M1 D1, .slice B2 M2 D2]) (by simp [results, Try.results37, go_sem, q0, q1, q2, q3]) rfl (by
            rw [hpq.out]
            exact ⟨(((HB10.setCell (Nat.le_refl _) _).setCell (Nat.le_refl _) _).setCell (Nat.le_refl _) _).setCell (Nat.le_refl _) _, _, _, rfl, (((((HR9.out.set hlt 0 _).set hlt 1 _).set hlt 2 _)).set hlt 3 _).mono (by omega)⟩)
        · have hz : (0 : Int) < (m : Int) := by omega
          go_wp2
          go_step3
          exact ⟨rfl, HIH.out _ _ _ _ _ _ _ _ _ _ _ _ _ _ _ _ _ _ _ _ _ _ _ _ _ _ _ _ _ _ _ _ _ _ _ _ _ _ _ _ _ _ _ _ _ _ _ _ _ _ _ _ _ _ _ _ _ _ _ _ _ _ _ _ _ _ _ _ _ _ _ _ _ _ _ _ _ _ _ _ _ _ W (by omega) hB9 (HYN.out.2 (by first | rfl | trivial))⟩
      · obtain ⟨q0, q1, q2, q3, f0, f1, f2, f3, -⟩ := HQ0.out.below hB0
        have HB0 := HUP.out _ hB0
        have hpq : Hid (pq = (P, Q)) := HYN.out.1 (by first | rfl | trivial)
        have HR2 : Hid (Rows2 wr W (.slice A3 N3 C3) (.slice A4 N4 C4) true P Q) := R2
        clear R2 HYN HIH
        go_wp2
        show Q0 .ret _ _
        refine HQQ.out _ _ ?_
        exact bodyPost_ret (v := .agg #[.int .i64 0, .bool true, .slice A3 N3 C3, .slice A4 N4 C4]) (by simp [results, Try.results37, go_sem, q0, q1, q2, q3]) rfl (by
          rw [hpq.out, HFF.out]
          exact ⟨(((HB0.setCell (Nat.le_refl _) _).setCell (Nat.le_refl _) _).setCell (Nat.le_refl _) _).setCell (Nat.le_refl _) _, _, _, rfl, (((((HR2.out.set hlw 0 _).set hlw 1 _).set hlw 2 _)).set hlw 3 _).mono (by omega)⟩)
  exact key 8 (Nat.le_refl _) _ _ _ _ _ _ _ _ _ _ _ _ _ _ _ _ _ _ _ _ _ _ _ _ _ _ _ _ _ _ _ _ _ _ _ _ _ _ _ _ _ _ _ _ _ _ _ _ _ _ _ _ _ _ _ _ _ _ _ _ _ _ _ _ _ _ _ _ _ _ _ _ _ _ _ _ _ _ _ _ _ _ W8 (by omega) (Below.refl _ _) HPQ
end U
end Go.Proofs.Ytgflamlfplpfdaa
