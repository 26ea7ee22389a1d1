/- The law on slots, walked: true, and nothing that was there has turned. -/
import Derived.Test.YtgflamlfplpfdaaSlE
import Derived.Test.YtgflamlfplpfdaaSlF
import Derived.Test.YtgflamlfplpfdaaSl17
import Derived.Test.YtgflamlfplpfdaaPairs
import Derived.Deep.RegionHeld3
namespace Go.Proofs.Ytgflamlfplpfdaa
open Go.RowKit
namespace U
theorem low_zero {l : Prl} (h : ∀ p ∈ l, 0 ≤ p.1) : low l 0 = 0 := by
  unfold low
  rw [List.countP_eq_zero]
  intro p hp
  have := h p hp
  simp
  omega
theorem low_top {l : Prl} (h : ∀ p ∈ l, p.1 ≤ 255) : low l 256 = l.length := by
  unfold low
  rw [List.countP_eq_length]
  intro p hp
  have := h p hp
  simp
  omega
/-- What is cut in parts is all of it. -/
theorem cut_three {l : Prl} (hs : Sls l) {a b : Int} (h : a ≤ b) : cut l 0 a ++ cut l a b ++ cut l b 256 = l := by
  have h0 := low_zero (fun p hp => (fine_bd (hs.fin p hp)).1.1)
  have h1 := low_top (fun p hp => (fine_bd (hs.fin p hp)).1.2)
  have h2 := low_mono l h
  rw [cut_eq hs.ris, cut_eq hs.ris, cut_eq hs.ris, h0, h1, List.take_length, List.drop_zero]
  generalize low l a = i at *
  generalize low l b = j at *
  have e : List.take j l = List.take i l ++ List.drop i (List.take j l) := by
    have := (List.take_append_drop i (List.take j l)).symm
    rwa [List.take_take, Nat.min_eq_left h2] at this
  rw [← e, List.take_append_drop]
theorem put_sls {l : Prl} {s : Int × Int} (hs : Sls l) (hf : fine s = true) (h : ¬ 12 < (put l s).length) : Sls (put l s) :=
  ⟨by omega, put_ris hs.ris s, fun p hp => by
    rcases (put_mem hs.ris s).1 hp with rfl | ⟨h1, _⟩
    · exact hf
    · exact hs.fin p h1⟩
/-- What is among slots is found. -/
theorem found {m : Prl} (hs : Sls m) {p : Int × Int} (hp : p ∈ m) : fsC m p.1 = 0 ∧ fsV m p.1 = p.2 := by
  have h0 := slF_all hs
  have ht := (thr_iff hs.ris p.1).2 ⟨p, hp, rfl⟩
  unfold fsC fsV
  rw [if_pos h0, if_pos ht, if_pos ⟨h0, ht⟩]
  refine ⟨rfl, ?_⟩
  obtain ⟨i, hi, rfl⟩ := List.mem_iff_getElem.1 hp
  have := at_low hs.ris hi (by rw [pAt_eq hi])
  rw [← this, pAt_eq hi]
theorem field_SR0 (x : Int) (a : Option Addr) (n c : Nat) (w : World) : (Instr.field 30 (.agg #[.int .i64 x, .slice a n c]) 0).run Try.prog w = .ok (.int .i64 x) w := by kernel_rfl
theorem field_SR1 (x : Int) (a : Option Addr) (n c : Nat) (w : World) : (Instr.field 30 (.agg #[.int .i64 x, .slice a n c]) 1).run Try.prog w = .ok (.slice a n c) w := by kernel_rfl
theorem field_IR0 (x y : Int) (w : World) : (Instr.field 38 (.agg #[.int .i64 x, .int .i64 y]) 0).run Try.prog w = .ok (.int .i64 x) w := by kernel_rfl
theorem step_append_prs {P : Program} {w : World} {ops : Array Oper} {o : Oper} {a : Act} {K : Act → World → Prop} {Q : Exit → Act → World → Prop} {E : Prop} (hgd : o.guard = none) (s x : Operand) (t : TypeId)
    (ho : o.op = .call { callee := .builtin .append, args := #[s, x], argTypes := #[t, t] })
    (base : Nat) (e : TypeId) (i : TypeInfo) (z : Value) (ht : P.underlying t = some (.slice e)) (hi : P.info? e = some i) (hz : i.zero = some z)
    (hsize : i.size = 2) (hby : i.bytes = 16) (hzs : z.cells.size = 2)
    (v : Value) (n : Nat) (xs : List Value) (hs : a.eval s = v) (hown : w.ownsRow base e 2 v n xs)
    (u : Value) (l : Prl) (hx : a.eval x = u) (hu : Prs w u l) (hok : Okv u) (h63 : n + l.length ≤ 1000000) (hbase : base ≤ w.heap.size)
    (h : ∀ b c' w', w'.ownsRow base e 2 (.slice b (n + l.length) c') (n + l.length) (xs ++ (fl l).map (Value.int .i64)) → w.grownBy w' v.ownBlock → K (a.put o.dst (.slice b (n + l.length) c')) w') :
    if Region.wanted o (yielded ops a.tmps) = true then Oper.wp P o a w K Q else E := by
  have hw : Region.wanted o (yielded ops a.tmps) = true := by simp [Region.wanted, hgd]
  rw [if_pos hw]
  obtain ⟨ad, c, rfl⟩ := hu.shape
  have hk := hok _ _ _ rfl
  rcases ad with _ | ad
  · have hc0 : c = 0 := hk.2 rfl
    subst hc0
    have hl0 : l.length = 0 := by omega
    have e1 : l = [] := List.eq_nil_of_length_eq_zero hl0
    subst e1
    have hrun := run_append_owned_none (P := P) (w := w) base t o.type e i 2 ht hi v n xs hown
    obtain ⟨b, c', rfl⟩ := own_shape2 hown
    have hx0 : a.eval x = .slice none 0 0 := hx
    unfold Oper.wp
    simp [execOp, ho, resolve, invoke, builtin, hs, hx0, hrun, Result.andThen]
    exact h b c' w (by simpa [fl] using hown) (World.grownBy.refl _ _)
  · refine wp_append_own w s x t ho base e i z 2 16 ht hi hz hsize hby hzs (by decide) v n xs hs hown ad l.length c ((fl l).map (Value.int .i64)) hx (by rw [List.length_map, fl_len]) (prs_news hu) (ints_oneCell .i64 (fl l)) (by unfold maxLen; omega) (by omega) hbase (fun v' w' h1 h2 _ => ?_)
    obtain ⟨b, c', rfl⟩ := own_shape2 h1
    exact h b c' w' h1 h2
theorem cs_zero {l : Prl} {a b : Int} (h : csC l a b = 0) : slF l = 0 ∧ cutB a b = true := by
  unfold csC at h
  by_cases h0 : slF l = 0
  · rw [if_pos h0] at h
    by_cases h1 : cutB a b = true
    · exact ⟨h0, h1⟩
    · rw [if_neg h1] at h; cases h
  · rw [if_neg h0] at h; exact absurd h h0
theorem cs_ok {l : Prl} {a b : Int} (h0 : slF l = 0) (h1 : 0 ≤ a ∧ a ≤ b ∧ b ≤ 256) : csC l a b = 0 ∧ csL l a b = cut l a b := by
  have hb : cutB a b = true := by unfold cutB; rw [inB_t h1.1 (by omega), inB_t h1.2.1 h1.2.2]; rfl
  unfold csC csL
  rw [if_pos h0, if_pos hb, if_pos ⟨h0, hb⟩]
  exact ⟨rfl, rfl⟩
theorem cutB_bd {a b : Int} (h : cutB a b = true) : 0 ≤ a ∧ a ≤ b ∧ b ≤ 256 := by
  unfold cutB at h
  rw [Bool.and_eq_true] at h
  have h1 := inB_bd h.1
  have h2 := inB_bd h.2
  omega
set_option maxRecDepth 100000 in
set_option maxHeartbeats 8000000 in
theorem fnSlots_small (cv : Value) (cs : List Int) (w : World) (h : Code w cv cs) (hob : cs ≠ [] → ∀ g, cv.ownBlock = some g → g < w.heap.size) :
    Calls Try.prog 3 #[cv] w fun e w' => e = .returned (.bool true) ∧ Below w.heap.size w w' := by
  obtain ⟨cva, cvc, rfl⟩ := h.1.shape
  have hbig : decide (1048576 < cs.length) = false := by simp; exact h.2.1
  have hlb := fun w => lwBig4 cva cs.length cvc w (by have := h.2.1; unfold maxLen; omega)
  rw [hbig] at hlb
  obtain ⟨cl, hcl⟩ : ∃ cl, cl = cs.length := ⟨_, rfl⟩
  rw [← hcl] at h hob hlb ⊢
  have HC : Hid (∀ w', Below w.heap.size w w' → Code w' (.slice cva cl cvc) cs) := fun w' hb => h.below hb
  have HOB : Hid (∀ w', Below w.heap.size w w' → cs ≠ [] → ∀ g, (Value.slice cva cl cvc).ownBlock = some g → g < w'.heap.size) := fun w' hb hz g e => Nat.lt_of_lt_of_le (hob hz g e) hb.size
  clear hcl hbig h hob
  go_enter Try.func3, Try.ntmps3
  go_wp2_with fail
  refine (hlb _).mono ?_
  rintro e w0 ⟨rfl, rfl⟩
  clear hlb
  go_wp2_with fail
  refine (drawPutSlot_any _ cs _ (HC.out _ (Below.refl _ _)) (HOB.out _ (Below.refl _ _))).mono ?_
  rintro e w1 ⟨a1, c1, l, sk, sv, rfl, hl13, hsk, hsv, ho1, hb1⟩
  have S1 := two_cellsV (heap_alloc_new w1 (.cells #[.int .i64 sk, .int .i64 sv] 26))
  have hB1a := below_after_of hb1 (one_new (.cells #[.int .i64 sk, .int .i64 sv] 26))
  have P1 := (own_prs ho1).below (one_new (.cells #[.int .i64 sk, .int .i64 sv] 26))
  have K1 := own_okv ho1
  have Q1 := Pair.new w1 (.int .i64 sk) (.int .i64 sv) 26
  clear ho1 hb1 hsk hsv S1
  go_wp2_with fail
  refine (implPutSlot_any _ l sk sv _ P1 K1 (by omega)).mono ?_
  intro e w2 h2
  obtain ⟨a2, c2, rfl, hb2, ho2⟩ := h2.use
  obtain ⟨pc, hpc⟩ : ∃ pc, pc = psC l (sk, sv) := ⟨_, rfl⟩
  obtain ⟨ys, hys⟩ : ∃ ys, ys = psL l (sk, sv) := ⟨_, rfl⟩
  have HPC : Hid (pc = psC l (sk, sv) ∧ ys = psL l (sk, sv)) := ⟨hpc, hys⟩
  have hy12 : ys.length ≤ 12 := by rw [hys]; exact psL_len _ _
  rw [← hpc, ← hys]
  rw [← hys] at ho2
  clear hpc hys h2
  have hb2n := below_after_of hb2 (one_new (.cells #[.int .i64 pc, .slice a2 ys.length c2] 30))
  have hB2 := below_after_of hB1a hb2n
  have P1 := P1.below hb2n
  have Q1 := Q1.below hb2n
  have P2 := (own_prs ho2).below (one_new (.cells #[.int .i64 pc, .slice a2 ys.length c2] 30))
  have K2 := own_okv ho2
  have Q2 := Pair.new w2 (.int .i64 pc) (.slice a2 ys.length c2) 30
  clear ho2 hb2 hb2n hB1a
  go_wp2_with fail
  refine (drawCutSlots_any _ cs _ (HC.out _ hB2) (HOB.out _ hB2)).mono ?_
  rintro e w3 ⟨a3, c3, lx, fr, to, rfl, hx13, hfr, hto, ho3, hb3⟩
  have hB3 := below_after_of hB2 hb3
  have P1 := P1.below hb3
  have Q1 := Q1.below hb3
  have P2 := P2.below hb3
  have Q2 := Q2.below hb3
  have P3 := own_prs ho3
  have K3 := own_okv ho3
  clear hB2 hb3 ho3 hfr hto HC HOB
  go_wp2_with fail
  refine (implCutSlots_any _ lx fr to _ P3 K3 (by omega)).mono ?_
  intro e w4 h4
  obtain ⟨a4, c4, rfl, hb4, ho4⟩ := h4.use
  obtain ⟨cc, hcc⟩ : ∃ cc, cc = csC lx fr to := ⟨_, rfl⟩
  obtain ⟨zs, hzs⟩ : ∃ zs, zs = csL lx fr to := ⟨_, rfl⟩
  have HCC : Hid (cc = csC lx fr to ∧ zs = csL lx fr to) := ⟨hcc, hzs⟩
  have hz13 : zs.length ≤ 13 := by rw [hzs]; exact Nat.le_trans (csL_len _ _ _) hx13
  have hSC := fun w' hu => specCutSlots_any (.slice a3 lx.length c3) lx fr to w' hu (by omega)
  rw [← hcc, ← hzs] at hSC ⊢
  rw [← hzs] at ho4
  clear hcc hzs h4
  obtain ⟨W, hW⟩ : ∃ W, W = w4.alloc (.cells #[.int .i64 cc, .slice a4 zs.length c4] 30) := ⟨_, rfl⟩
  have hN4 : Below w4.heap.size w4 W := by rw [hW]; exact one_new _
  have hb4n := below_after_of hb4 hN4
  have Q4 : Pair W w4.heap.size (.int .i64 cc) (.slice a4 zs.length c4) := by rw [hW]; exact Pair.new w4 _ _ _
  have P4 := (own_prs ho4).below hN4
  have K4 := own_okv ho4
  have P1 := P1.below hb4n
  have Q1 := Q1.below hb4n
  have P2 := P2.below hb4n
  have Q2 := Q2.below hb4n
  have P3 := P3.below hb4n
  have hBW := below_after_of hB3 hb4n
  have F : Hid (∀ w', Below W.heap.size W w' → Prs w' (.slice a1 l.length c1) l ∧ Pair w' w1.heap.size (.int .i64 sk) (.int .i64 sv) ∧ Prs w' (.slice a2 ys.length c2) ys ∧ Pair w' w2.heap.size (.int .i64 pc) (.slice a2 ys.length c2) ∧ Prs w' (.slice a3 lx.length c3) lx ∧ Prs w' (.slice a4 zs.length c4) zs ∧ Pair w' w4.heap.size (.int .i64 cc) (.slice a4 zs.length c4) ∧ Below w0.heap.size w0 w') :=
    fun w' hb => ⟨P1.below hb, Q1.below hb, P2.below hb, Q2.below hb, P3.below hb, P4.below hb, Q4.below hb, below_after_of hBW hb⟩
  have HOK : Hid (Okv (.slice a1 l.length c1) ∧ Okv (.slice a2 ys.length c2) ∧ Okv (.slice a3 lx.length c3) ∧ Okv (.slice a4 zs.length c4)) := ⟨K1, K2, K3, K4⟩
  have HW : Hid (W = w4.alloc (.cells #[.int .i64 cc, .slice a4 zs.length c4] 30)) := hW
  have mk : Hid (∀ w', Below W.heap.size W w' → Below W.heap.size W w' ∧ w'.cell? ⟨w4.heap.size, 0, none⟩ = some (.int .i64 cc) ∧ w'.cell? ⟨w4.heap.size, 1, none⟩ = some (.slice a4 zs.length c4)) := fun w' hb => ⟨hb, (Q4.below hb).2.1, (Q4.below hb).2.2⟩
  have hf0 := fun a n c w => field_SR0 cc a n c w
  have hf1 := fun a n c w => field_SR1 cc a n c w
  have hnn : (cc != cc) = false := by simp
  clear P1 Q1 P2 Q2 P3 P4 Q4 K1 K2 K3 K4 hb4 hb4n hN4 ho4 hB3 hW hBW
  go_wp2_with fail
  rw [← HW.out]
  clear HW
  go_region_held3 (fun w' => Below W.heap.size W w' ∧ w'.cell? ⟨w4.heap.size, 0, none⟩ = some (.int .i64 cc) ∧ w'.cell? ⟨w4.heap.size, 1, none⟩ = some (.slice a4 zs.length c4))
    (first | exact mk.out _ (Below.refl _ _).drew | (go_split_ands; exact mk.out _ (below_drewN (by assumption) _)) | (go_split_ands; exact mk.out _ (below_after_of (by assumption) hbq)))
    (first
      | (go_at_call 16; go_split_ands; refine (hSC _ (F.out _ (by assumption)).2.2.2.2.1).mono ?_; intro e wq hqq; obtain ⟨aq, cq, rfl, hbq, hoq⟩ := hqq.use; clear hqq)
      | (go_at_call 17; go_split_ands; refine (lwSlots_any _ _ zs _ (F.out _ (by assumption)).2.2.2.2.2.1 (own_prs hoq) (by omega)).mono ?_; rintro e wq ⟨rfl, nq, rfl⟩))
  obtain ⟨W7, hW7⟩ : ∃ W7, W7 = wq.drewN nq := ⟨_, rfl⟩
  go_split_ands
  have hb7 : Below W.heap.size W (wq.drewN nq) := by assumption
  rw [← hW7] at hb7 ⊢
  have HB7 : Hid (Below W.heap.size W W7) := hb7
  have F7 : Hid (∀ w', Below W7.heap.size W7 w' → Below W.heap.size W w') := fun w' h => below_after_of hb7 h
  have p0 := (F.out _ hb7).2.2.2.2.2.2.1.2.1
  have p1 := (F.out _ hb7).2.2.2.2.2.2.1.2.2
  have p9 := (F.out _ hb7).2.2.2.2.2.2.1.1
  clear hb7 hW7 mk hSC hnn
  -- what is left behind the parts
  by_cases hc0 : cc = 0
  · obtain ⟨i0, hi, hz0, hz1, hz2⟩ := info_parts Try.infoSl
    have hcz := cs_zero (HCC.out.1.symm.trans hc0)
    have hcbd := cutB_bd hcz.2
    have hzs2 : zs = cut lx fr to := by rw [HCC.out.2]; exact (cs_ok hcz.1 hcbd).2
    have hI0 := fun w' hu => implCutSlots_any (.slice a3 lx.length c3) lx 0 fr w' hu HOK.out.2.2.1 (by omega)
    have hI1 := fun w' hu => implCutSlots_any (.slice a3 lx.length c3) lx to 256 w' hu HOK.out.2.2.1 (by omega)
    rw [(cs_ok hcz.1 (by omega)).1, (cs_ok hcz.1 (by omega)).2] at hI0
    rw [(cs_ok hcz.1 (by omega)).1, (cs_ok hcz.1 (by omega)).2] at hI1
    have h3 := cut_three (slF_ok hcz.1) hcbd.2.1
    rw [← hzs2] at h3
    have hla := cut_len lx 0 fr
    have hlb := cut_len lx to 256
    obtain ⟨za, hza⟩ : ∃ za, za = cut lx 0 fr := ⟨_, rfl⟩
    obtain ⟨zb, hzb⟩ : ∃ zb, zb = cut lx to 256 := ⟨_, rfl⟩
    rw [← hza] at hI0 h3 hla
    rw [← hzb] at hI1 h3 hlb
    have H3 : Hid (za ++ zs ++ zb = lx) := h3
    have hk1 := fun x a n c w => field_SR1 x a n c w
    have FX : Hid (∀ w', Below W7.heap.size W7 w' → Prs w' (.slice a3 lx.length c3) lx) := fun w' hb => (F.out _ (F7.out _ hb)).2.2.2.2.1
    have FZ : Hid (∀ w', Below W7.heap.size W7 w' → Prs w' (.slice a4 zs.length c4) zs) := fun w' hb => (F.out _ (F7.out _ hb)).2.2.2.2.2.1
    have mk9 : Hid (∀ w', Below W7.heap.size W7 w' → Below W7.heap.size W7 w' ∧ w'.cell? ⟨w4.heap.size, 1, none⟩ = some (.slice a4 zs.length c4)) := fun w' hb => ⟨hb, (F.out _ (F7.out _ hb)).2.2.2.2.2.2.1.2.2⟩
    subst hc0
    clear hza hzb hzs2 hcz hcbd h3 HCC
    go_wp2
    go_region_held3 (fun w' => Below W7.heap.size W7 w' ∧ w'.cell? ⟨w4.heap.size, 1, none⟩ = some (.slice a4 zs.length c4))
      (first | exact mk9.out _ (Below.refl _ _).drew | exact mk9.out _ hbS | (go_split_ands; exact mk9.out _ (below_after_of (by assumption) (one_new _))))
      (first
        | (go_at_call 15; go_split_ands; refine (hI0 _ (FX.out _ (by assumption))).mono ?_; intro e wq hqq; obtain ⟨ap, cp, rfl, hbq, hop⟩ := hqq.use; have hbS := below_after_of (by assumption : Below W7.heap.size W7 _) hbq; have hpp := own_prs hop; have hkk := own_okv hop; have hbs := hbS.size; clear hqq)
        | (refine step_append_prs (by rfl) _ _ _ (by rfl) W7.heap.size 26 i0 (.agg #[.int .i64 0, .int .i64 0]) Try.underlying24 hi hz0 hz1 hz2 rfl (.slice (some ⟨W7.heap.size, 0, none⟩) 0 0) 0 [] (by rfl) (own_below ((none_own W7 26 W7.heap.size (Nat.le_refl _)).drew) hbq) (.slice ap za.length cp) za (by rfl) hpp hkk (by omega) hbs ?_; intro b8 k8 w8 ho8 hg8; have hbS := hbS.grown hg8 hbs (fun k hk => by cases hk; exact Nat.le_refl _); have hbs := hbS.size)
        | (refine step_append_prs (by rfl) _ _ _ (by rfl) W7.heap.size 26 i0 (.agg #[.int .i64 0, .int .i64 0]) Try.underlying24 hi hz0 hz1 hz2 rfl (.slice (some ⟨wq.heap.size, 0, none⟩) 0 0) 0 [] (by rfl) (none_own wq 26 W7.heap.size hbs) (.slice ap za.length cp) za (by rfl) (hpp.below (one_new _)) hkk (by omega) (by simp; omega) ?_; intro b8 k8 w8 ho8 hg8; have hbS := (below_after_of hbS (one_new _)).grown hg8 (by simp; omega) (fun k hk => by cases hk; exact hbs); have hbs := hbS.size)
        | (refine step_append_prs (by rfl) _ _ _ (by rfl) W7.heap.size 26 i0 (.agg #[.int .i64 0, .int .i64 0]) Try.underlying24 hi hz0 hz1 hz2 rfl (.slice b8 (0 + za.length) k8) (0 + za.length) _ (by first | rfl | simp [Act.eval]) ho8 (.slice a4 zs.length c4) zs (by rfl) (FZ.out _ hbS) HOK.out.2.2.2 (by omega) hbs ?_; intro b9 k9 w9 ho9 hg9; have hbS := hbS.grown hg9 hbs (fun k hk => (ho8.lt k hk).1); have hbs := hbS.size))
    · have HB9 : Hid (Below W7.heap.size W7 w9) := hbS
      have HN9 : Hid (za.length + zs.length + zb.length = lx.length) := by
        show _ = _
        rw [← H3.out]
        simp
        omega
      have HO9 : Hid (w9.ownsRow W7.heap.size 26 2 (.slice b9 (za.length + zs.length) k9) (za.length + zs.length) ((fl (za ++ zs)).map (Value.int .i64))) := by
        show w9.ownsRow _ _ _ _ _ _
        have h := ho9
        rw [Nat.zero_add, List.nil_append, ← List.map_append, ← fl_app] at h
        exact h
      have hN26 : za.length + zs.length + zb.length ≤ 13 := by rw [HN9.out]; exact hx13
      clear ho9 hg9 ho8 hg8 hbq hop hpp hkk
      go_wp2_with fail
      refine (hI1 _ (FX.out _ HB9.out)).mono ?_
      intro e wA hqq
      obtain ⟨aA, cA, rfl, hbA, hoA⟩ := hqq.use
      have hbA' := below_after_of HB9.out hbA
      have hsA := hbA'.size
      have ho10 := own_below HO9.out hbA
      clear hqq hI1 hI0
      go_wp2_with (at_builtin; refine wpList_append_prs rfl _ _ 24 rfl W7.heap.size 26 i0 (.agg #[.int .i64 0, .int .i64 0]) Try.underlying24 hi hz0 hz1 hz2 rfl _ _ _ rfl ho10 (.slice aA zb.length cA) zb rfl (own_prs hoA) (own_okv hoA) (by omega) hsA ?_)
      intro vB wB hoB hgB
      have hbB : Below W7.heap.size W7 wB := hbA'.grown hgB hsA (fun k hk => (ho10.lt k hk).1)
      have hoB2 : wB.ownsRow W7.heap.size 26 2 vB lx.length ((fl lx).map (Value.int .i64)) := by
        have h := hoB
        rw [HN9.out, ← List.map_append, ← fl_app, H3.out] at h
        exact h
      obtain ⟨aB, cB, rfl⟩ := own_shape2 hoB2
      have pB := own_prs hoB2
      have pX := FX.out _ hbB
      have HBB : Hid (Below W7.heap.size W7 wB) := hbB
      clear hoB hoB2 hgB hbA hbA' hoA ho10 HO9 HB9 hbB
      go_wp2_with fail
      refine (lwSlots_any _ _ lx _ pB pX (by omega)).mono ?_
      rintro e wC ⟨rfl, nC, rfl⟩
      obtain ⟨W8, hW8⟩ : ∃ W8, W8 = wB.drewN nC := ⟨_, rfl⟩
      rw [← hW8]
      have HB8 : Hid (Below W.heap.size W W8) := by rw [hW8]; exact below_after_of HB7.out (below_drewN HBB.out nC)
      clear hW8 pB pX HBB
      obtain ⟨FP, FS, FY, FQ, -, -, -, hB8⟩ := F.out _ HB8.out
      have r0 := FQ.2.1
      have r1 := FQ.2.2
      have r9 := FQ.1
      have t0 := FS.2.1
      have t1 := FS.2.2
      have t9 := FS.1
      by_cases hp0 : pc = 0
      · have hys := HPC.out
        have hz : slF l = 0 ∧ fine (sk, sv) = true ∧ ¬ 12 < (put l (sk, sv)).length := by
          have h1 := hys.1.symm.trans hp0
          unfold psC at h1
          by_cases a0 : slF l = 0
          · rw [if_pos a0] at h1
            by_cases a1 : fine (sk, sv) = true
            · rw [if_pos a1] at h1
              by_cases a2 : 12 < (put l (sk, sv)).length
              · rw [if_pos a2] at h1; cases h1
              · exact ⟨a0, a1, a2⟩
            · rw [if_neg a1] at h1; cases h1
          · rw [if_neg a0] at h1; exact absurd h1 a0
        have hy : ys = put l (sk, sv) := by rw [hys.2]; unfold psL; rw [if_pos hz]
        have hsl := slF_ok hz.1
        have HSY : Hid (Sls ys) := by rw [hy]; exact put_sls hsl hz.2.1 hz.2.2
        have HMS : Hid ((sk, sv) ∈ ys ∧ ∀ p ∈ l, ¬ p.1 = sk → p ∈ ys) := by
          rw [hy]
          exact ⟨(put_mem hsl.ris _).2 (Or.inl rfl), fun p hp hne => (put_mem hsl.ris _).2 (Or.inr ⟨hp, hne⟩)⟩
        have hyl : ys.length ≤ l.length + 1 := by rw [hy, put_len]; split <;> omega
        have HL : Hid (Prs W8 (.slice a1 l.length c1) l) := FP
        have hFS := fun k w' hu => implFindSlot_any (.slice a2 ys.length c2) ys k w' hu (by omega)
        have hSF := fun w' hu => implSlotsFault_any (.slice a2 ys.length c2) ys w' hu (by omega)
        rw [slF_all HSY.out] at hSF
        have HB8b : Hid (Below w0.heap.size w0 W8) := hB8
        subst hp0
        clear hys hy hz hsl FP FS FY FQ hB8
        go_wp2
        go_loopw [11] (fun i wr => ∃ k : Nat, k ≤ l.length ∧ i = .int .i64 k ∧ Hid (Below W.heap.size W wr)) (fun i _ => l.length - (intOf i).toNat)
        case atStart => exact ⟨0, Nat.zero_le _, rfl, HB8⟩
        case round =>
          obtain ⟨k, hk, rfl, HBr⟩ := hrel
          obtain ⟨FP, FS, FY, FQ, -, -, -, hBr⟩ := F.out _ HBr.out
          clear r0 r1 r9 t0 t1 t9
          have r1 := After.cell FQ.2.2
          have t0 := After.cell FS.2.1
          have t1 := After.cell FS.2.2
          have hne := After.ne wr
          have hf1 := field_IR1
          have hf0 := field_IR0
          have FYA : ∀ n : After wr, Prs n.w (.slice a2 ys.length c2) ys := fun n => FY.below n.b
          by_cases hkl : k < l.length
          · have hki : (k : Int) < (l.length : Int) := by omega
            obtain ⟨-, bk, off, rfl, hbk, hc⟩ := FP.at (by omega)
            have d0 := After.cell (hc k hkl).1
            have d1 := After.cell (hc k hkl).2
            have HMM : Hid (¬ (pAt l k).1 = sk → fsC ys (pAt l k).1 = 0 ∧ fsV ys (pAt l k).1 = (pAt l k).2) := fun hn => by
              have h1 := HMS.out.2 (pAt l k) (by rw [pAt_eq hkl]; exact List.getElem_mem _) hn
              exact found HSY.out h1
            have HBR : Hid (Below w0.heap.size w0 wr) := hBr
            generalize (pAt l k).1 = x at *
            generalize (pAt l k).2 = y at *
            clear hc FP FS FQ FY hBr
            by_cases hxs : x = sk
            · have hxb : (x != sk) = false := by simpa using hxs
              clear hxs HMM hSF
              go_wp2
              refine wp_region_after (by kernel_rfl) (by kernel_rfl) ?_
              repeat (first | go_big_quiet_skip | (go_big_quiet_want; go_big_quiet_op; first | go_big_quiet_on | go_big_quiet_call (first
                | (go_at_call 21; refine (hFS _ _ (FYA _)).mono ?_; rintro e wq ⟨rfl, hbq⟩; exact ⟨rfl, after_mk (below_after_of (After.b _) hbq)⟩))))
              refine wpQuiet_nil ?_
              rintro _ ⟨n2, rfl⟩
              have hb2 : Below W.heap.size W n2.w := below_after_of HBr.out n2.b
              clear d0 d1 r1 t0 t1 hne FYA
              go_wp2
              go_roundw
              case rel => exact ⟨k + 1, by omega, by go_num, hb2⟩
              case measure => simp [intOf]; omega
            · have hxb : (x != sk) = true := by simpa using hxs
              have hv := HMM.out hxs
              have hFX := hFS x
              rw [hv.1, hv.2] at hFX
              have hyy : (y != y) = false := by simp
              clear hxs HMM hv hFS hSF
              go_wp2
              refine wp_region_after (by kernel_rfl) (by kernel_rfl) ?_
              repeat (first | go_big_quiet_skip | (go_big_quiet_want; go_big_quiet_op; first | go_big_quiet_on | go_big_quiet_call (first
                | (go_at_call 21; refine (hFX _ (FYA _)).mono ?_; rintro e wq ⟨rfl, hbq⟩; exact ⟨rfl, after_mk (below_after_of (After.b _) hbq)⟩))))
              refine wpQuiet_nil ?_
              rintro _ ⟨n2, rfl⟩
              have hb2 : Below W.heap.size W n2.w := below_after_of HBr.out n2.b
              clear d0 d1 r1 t0 t1 hne FYA
              go_wp2
              go_roundw
              case rel => exact ⟨k + 1, by omega, by go_num, hb2⟩
              case measure => simp [intOf]; omega
          · have hkl2 : ¬ (k : Int) < (l.length : Int) := by omega
            have hv := found HSY.out HMS.out.1
            dsimp only at hv
            have hFX := hFS sk
            rw [hv.1, hv.2] at hFX
            have hss : (sv == sv) = true := by simp
            have hle : decide ((ys.length : Int) ≤ (l.length : Int) + 1) = true := by simp; omega
            have hwl : IntKind.i64.wrap ((l.length : Int) + 1) = (l.length : Int) + 1 := by rw [IntKind.wrap_i64]; omega
            have HBR : Hid (Below w0.heap.size w0 wr) := hBr
            clear hv hFS FP FS FQ FY hBr
            go_wp2
            refine wp_region_after (by kernel_rfl) (by kernel_rfl) ?_
            repeat (first | go_big_quiet_skip | (go_big_quiet_want; go_big_quiet_op; first | go_big_quiet_on | go_big_quiet_call (first
              | (go_at_call 21; refine (hFX _ (FYA _)).mono ?_; rintro e wq ⟨rfl, hbq⟩; exact ⟨rfl, after_mk (below_after_of (After.b _) hbq)⟩)
              | (go_at_call 19; refine (hSF _ (FYA _)).mono ?_; rintro e wq ⟨rfl, hbq⟩; exact ⟨rfl, after_mk (below_after_of (After.b _) hbq)⟩))))
            refine wpQuiet_nil ?_
            rintro _ ⟨n2, rfl⟩
            have hb2 : Below w0.heap.size w0 n2.w := below_after_of HBR.out n2.b
            clear r1 t0 t1 hne FYA
            go_wp2
            go_ret
            exact ⟨rfl, hb2⟩
      · have hpn : (pc != 0) = true := by simpa using hp0
        have hpe : (pc == pc) = true := by simp
        have hSP := fun w' hu => specPutSlot_any (.slice a1 l.length c1) l sk sv w' hu (by omega)
        rw [← HPC.out.1, ← HPC.out.2] at hSP
        have hI5 := fun w' hu => implSlotsFault_any (.slice a1 l.length c1) l w' hu (by omega)
        have hS5 := fun w' hu => specSlotsFault_any (.slice a1 l.length c1) l w' hu (by omega)
        generalize slF l = fl0 at *
        have hfe : (fl0 == fl0) = true := by simp
        have hf0 := fun a n c w => field_SR0 pc a n c w
        have mk8 : Hid (∀ w', Below W8.heap.size W8 w' → Below W8.heap.size W8 w' ∧ w'.cell? ⟨w1.heap.size, 0, none⟩ = some (.int .i64 sk) ∧ w'.cell? ⟨w1.heap.size, 1, none⟩ = some (.int .i64 sv) ∧ w'.cell? ⟨w2.heap.size, 0, none⟩ = some (.int .i64 pc)) := fun w' hb => ⟨hb, (FS.below hb).2.1, (FS.below hb).2.2, (FQ.below hb).2.1⟩
        have FP8 : Hid (∀ w', Below W8.heap.size W8 w' → Prs w' (.slice a1 l.length c1) l) := fun w' hb => FP.below hb
        have HB8b : Hid (Below w0.heap.size w0 W8) := hB8
        clear FP FS FY FQ hB8 hp0
        go_wp2
        go_region_held3 (fun w' => Below W8.heap.size W8 w' ∧ w'.cell? ⟨w1.heap.size, 0, none⟩ = some (.int .i64 sk) ∧ w'.cell? ⟨w1.heap.size, 1, none⟩ = some (.int .i64 sv) ∧ w'.cell? ⟨w2.heap.size, 0, none⟩ = some (.int .i64 pc))
          (first | exact mk8.out _ (Below.refl _ _).drew | (go_split_ands; exact mk8.out _ (below_drewN (by assumption) _)) | (go_split_ands; exact mk8.out _ (below_after_of (by assumption) hbq)))
          (first
            | (go_at_call 18; go_split_ands; refine (hSP _ (FP8.out _ (by assumption))).mono ?_; intro e wq hqq; obtain ⟨aq, cq, rfl, hbq, hoq⟩ := hqq.use; clear hqq)
            | (go_at_call 19; go_split_ands; refine (hI5 _ (FP8.out _ (by assumption))).mono ?_; rintro e wq ⟨rfl, hbq⟩)
            | (go_at_call 20; go_split_ands; refine (hS5 _ (FP8.out _ (by assumption))).mono ?_; rintro e wq ⟨rfl, nq, rfl⟩))
        go_split_ands
        have hbe := below_after_of HB8b.out (by assumption)
        go_wp2
        go_ret
        exact ⟨rfl, hbe⟩
    · have HB9 : Hid (Below W7.heap.size W7 w9) := hbS
      have HN9 : Hid (za.length + zs.length + zb.length = lx.length) := by
        show _ = _
        rw [← H3.out]
        simp
        omega
      have HO9 : Hid (w9.ownsRow W7.heap.size 26 2 (.slice b9 (za.length + zs.length) k9) (za.length + zs.length) ((fl (za ++ zs)).map (Value.int .i64))) := by
        show w9.ownsRow _ _ _ _ _ _
        have h := ho9
        rw [Nat.zero_add, List.nil_append, ← List.map_append, ← fl_app] at h
        exact h
      have hN26 : za.length + zs.length + zb.length ≤ 13 := by rw [HN9.out]; exact hx13
      clear ho9 hg9 ho8 hg8 hbq hop hpp hkk
      go_wp2_with fail
      refine (hI1 _ (FX.out _ HB9.out)).mono ?_
      intro e wA hqq
      obtain ⟨aA, cA, rfl, hbA, hoA⟩ := hqq.use
      have hbA' := below_after_of HB9.out hbA
      have hsA := hbA'.size
      have ho10 := own_below HO9.out hbA
      clear hqq hI1 hI0
      go_wp2_with (at_builtin; refine wpList_append_prs rfl _ _ 24 rfl W7.heap.size 26 i0 (.agg #[.int .i64 0, .int .i64 0]) Try.underlying24 hi hz0 hz1 hz2 rfl _ _ _ rfl ho10 (.slice aA zb.length cA) zb rfl (own_prs hoA) (own_okv hoA) (by omega) hsA ?_)
      intro vB wB hoB hgB
      have hbB : Below W7.heap.size W7 wB := hbA'.grown hgB hsA (fun k hk => (ho10.lt k hk).1)
      have hoB2 : wB.ownsRow W7.heap.size 26 2 vB lx.length ((fl lx).map (Value.int .i64)) := by
        have h := hoB
        rw [HN9.out, ← List.map_append, ← fl_app, H3.out] at h
        exact h
      obtain ⟨aB, cB, rfl⟩ := own_shape2 hoB2
      have pB := own_prs hoB2
      have pX := FX.out _ hbB
      have HBB : Hid (Below W7.heap.size W7 wB) := hbB
      clear hoB hoB2 hgB hbA hbA' hoA ho10 HO9 HB9 hbB
      go_wp2_with fail
      refine (lwSlots_any _ _ lx _ pB pX (by omega)).mono ?_
      rintro e wC ⟨rfl, nC, rfl⟩
      obtain ⟨W8, hW8⟩ : ∃ W8, W8 = wB.drewN nC := ⟨_, rfl⟩
      rw [← hW8]
      have HB8 : Hid (Below W.heap.size W W8) := by rw [hW8]; exact below_after_of HB7.out (below_drewN HBB.out nC)
      clear hW8 pB pX HBB
      obtain ⟨FP, FS, FY, FQ, -, -, -, hB8⟩ := F.out _ HB8.out
      have r0 := FQ.2.1
      have r1 := FQ.2.2
      have r9 := FQ.1
      have t0 := FS.2.1
      have t1 := FS.2.2
      have t9 := FS.1
      by_cases hp0 : pc = 0
      · have hys := HPC.out
        have hz : slF l = 0 ∧ fine (sk, sv) = true ∧ ¬ 12 < (put l (sk, sv)).length := by
          have h1 := hys.1.symm.trans hp0
          unfold psC at h1
          by_cases a0 : slF l = 0
          · rw [if_pos a0] at h1
            by_cases a1 : fine (sk, sv) = true
            · rw [if_pos a1] at h1
              by_cases a2 : 12 < (put l (sk, sv)).length
              · rw [if_pos a2] at h1; cases h1
              · exact ⟨a0, a1, a2⟩
            · rw [if_neg a1] at h1; cases h1
          · rw [if_neg a0] at h1; exact absurd h1 a0
        have hy : ys = put l (sk, sv) := by rw [hys.2]; unfold psL; rw [if_pos hz]
        have hsl := slF_ok hz.1
        have HSY : Hid (Sls ys) := by rw [hy]; exact put_sls hsl hz.2.1 hz.2.2
        have HMS : Hid ((sk, sv) ∈ ys ∧ ∀ p ∈ l, ¬ p.1 = sk → p ∈ ys) := by
          rw [hy]
          exact ⟨(put_mem hsl.ris _).2 (Or.inl rfl), fun p hp hne => (put_mem hsl.ris _).2 (Or.inr ⟨hp, hne⟩)⟩
        have hyl : ys.length ≤ l.length + 1 := by rw [hy, put_len]; split <;> omega
        have HL : Hid (Prs W8 (.slice a1 l.length c1) l) := FP
        have hFS := fun k w' hu => implFindSlot_any (.slice a2 ys.length c2) ys k w' hu (by omega)
        have hSF := fun w' hu => implSlotsFault_any (.slice a2 ys.length c2) ys w' hu (by omega)
        rw [slF_all HSY.out] at hSF
        have HB8b : Hid (Below w0.heap.size w0 W8) := hB8
        subst hp0
        clear hys hy hz hsl FP FS FY FQ hB8
        go_wp2
        go_loopw [11] (fun i wr => ∃ k : Nat, k ≤ l.length ∧ i = .int .i64 k ∧ Hid (Below W.heap.size W wr)) (fun i _ => l.length - (intOf i).toNat)
        case atStart => exact ⟨0, Nat.zero_le _, rfl, HB8⟩
        case round =>
          obtain ⟨k, hk, rfl, HBr⟩ := hrel
          obtain ⟨FP, FS, FY, FQ, -, -, -, hBr⟩ := F.out _ HBr.out
          clear r0 r1 r9 t0 t1 t9
          have r1 := After.cell FQ.2.2
          have t0 := After.cell FS.2.1
          have t1 := After.cell FS.2.2
          have hne := After.ne wr
          have hf1 := field_IR1
          have hf0 := field_IR0
          have FYA : ∀ n : After wr, Prs n.w (.slice a2 ys.length c2) ys := fun n => FY.below n.b
          by_cases hkl : k < l.length
          · have hki : (k : Int) < (l.length : Int) := by omega
            obtain ⟨-, bk, off, rfl, hbk, hc⟩ := FP.at (by omega)
            have d0 := After.cell (hc k hkl).1
            have d1 := After.cell (hc k hkl).2
            have HMM : Hid (¬ (pAt l k).1 = sk → fsC ys (pAt l k).1 = 0 ∧ fsV ys (pAt l k).1 = (pAt l k).2) := fun hn => by
              have h1 := HMS.out.2 (pAt l k) (by rw [pAt_eq hkl]; exact List.getElem_mem _) hn
              exact found HSY.out h1
            have HBR : Hid (Below w0.heap.size w0 wr) := hBr
            generalize (pAt l k).1 = x at *
            generalize (pAt l k).2 = y at *
            clear hc FP FS FQ FY hBr
            by_cases hxs : x = sk
            · have hxb : (x != sk) = false := by simpa using hxs
              clear hxs HMM hSF
              go_wp2
              refine wp_region_after (by kernel_rfl) (by kernel_rfl) ?_
              repeat (first | go_big_quiet_skip | (go_big_quiet_want; go_big_quiet_op; first | go_big_quiet_on | go_big_quiet_call (first
                | (go_at_call 21; refine (hFS _ _ (FYA _)).mono ?_; rintro e wq ⟨rfl, hbq⟩; exact ⟨rfl, after_mk (below_after_of (After.b _) hbq)⟩))))
              refine wpQuiet_nil ?_
              rintro _ ⟨n2, rfl⟩
              have hb2 : Below W.heap.size W n2.w := below_after_of HBr.out n2.b
              clear d0 d1 r1 t0 t1 hne FYA
              go_wp2
              go_roundw
              case rel => exact ⟨k + 1, by omega, by go_num, hb2⟩
              case measure => simp [intOf]; omega
            · have hxb : (x != sk) = true := by simpa using hxs
              have hv := HMM.out hxs
              have hFX := hFS x
              rw [hv.1, hv.2] at hFX
              have hyy : (y != y) = false := by simp
              clear hxs HMM hv hFS hSF
              go_wp2
              refine wp_region_after (by kernel_rfl) (by kernel_rfl) ?_
              repeat (first | go_big_quiet_skip | (go_big_quiet_want; go_big_quiet_op; first | go_big_quiet_on | go_big_quiet_call (first
                | (go_at_call 21; refine (hFX _ (FYA _)).mono ?_; rintro e wq ⟨rfl, hbq⟩; exact ⟨rfl, after_mk (below_after_of (After.b _) hbq)⟩))))
              refine wpQuiet_nil ?_
              rintro _ ⟨n2, rfl⟩
              have hb2 : Below W.heap.size W n2.w := below_after_of HBr.out n2.b
              clear d0 d1 r1 t0 t1 hne FYA
              go_wp2
              go_roundw
              case rel => exact ⟨k + 1, by omega, by go_num, hb2⟩
              case measure => simp [intOf]; omega
          · have hkl2 : ¬ (k : Int) < (l.length : Int) := by omega
            have hv := found HSY.out HMS.out.1
            dsimp only at hv
            have hFX := hFS sk
            rw [hv.1, hv.2] at hFX
            have hss : (sv == sv) = true := by simp
            have hle : decide ((ys.length : Int) ≤ (l.length : Int) + 1) = true := by simp; omega
            have hwl : IntKind.i64.wrap ((l.length : Int) + 1) = (l.length : Int) + 1 := by rw [IntKind.wrap_i64]; omega
            have HBR : Hid (Below w0.heap.size w0 wr) := hBr
            clear hv hFS FP FS FQ FY hBr
            go_wp2
            refine wp_region_after (by kernel_rfl) (by kernel_rfl) ?_
            repeat (first | go_big_quiet_skip | (go_big_quiet_want; go_big_quiet_op; first | go_big_quiet_on | go_big_quiet_call (first
              | (go_at_call 21; refine (hFX _ (FYA _)).mono ?_; rintro e wq ⟨rfl, hbq⟩; exact ⟨rfl, after_mk (below_after_of (After.b _) hbq)⟩)
              | (go_at_call 19; refine (hSF _ (FYA _)).mono ?_; rintro e wq ⟨rfl, hbq⟩; exact ⟨rfl, after_mk (below_after_of (After.b _) hbq)⟩))))
            refine wpQuiet_nil ?_
            rintro _ ⟨n2, rfl⟩
            have hb2 : Below w0.heap.size w0 n2.w := below_after_of HBR.out n2.b
            clear r1 t0 t1 hne FYA
            go_wp2
            go_ret
            exact ⟨rfl, hb2⟩
      · have hpn : (pc != 0) = true := by simpa using hp0
        have hpe : (pc == pc) = true := by simp
        have hSP := fun w' hu => specPutSlot_any (.slice a1 l.length c1) l sk sv w' hu (by omega)
        rw [← HPC.out.1, ← HPC.out.2] at hSP
        have hI5 := fun w' hu => implSlotsFault_any (.slice a1 l.length c1) l w' hu (by omega)
        have hS5 := fun w' hu => specSlotsFault_any (.slice a1 l.length c1) l w' hu (by omega)
        generalize slF l = fl0 at *
        have hfe : (fl0 == fl0) = true := by simp
        have hf0 := fun a n c w => field_SR0 pc a n c w
        have mk8 : Hid (∀ w', Below W8.heap.size W8 w' → Below W8.heap.size W8 w' ∧ w'.cell? ⟨w1.heap.size, 0, none⟩ = some (.int .i64 sk) ∧ w'.cell? ⟨w1.heap.size, 1, none⟩ = some (.int .i64 sv) ∧ w'.cell? ⟨w2.heap.size, 0, none⟩ = some (.int .i64 pc)) := fun w' hb => ⟨hb, (FS.below hb).2.1, (FS.below hb).2.2, (FQ.below hb).2.1⟩
        have FP8 : Hid (∀ w', Below W8.heap.size W8 w' → Prs w' (.slice a1 l.length c1) l) := fun w' hb => FP.below hb
        have HB8b : Hid (Below w0.heap.size w0 W8) := hB8
        clear FP FS FY FQ hB8 hp0
        go_wp2
        go_region_held3 (fun w' => Below W8.heap.size W8 w' ∧ w'.cell? ⟨w1.heap.size, 0, none⟩ = some (.int .i64 sk) ∧ w'.cell? ⟨w1.heap.size, 1, none⟩ = some (.int .i64 sv) ∧ w'.cell? ⟨w2.heap.size, 0, none⟩ = some (.int .i64 pc))
          (first | exact mk8.out _ (Below.refl _ _).drew | (go_split_ands; exact mk8.out _ (below_drewN (by assumption) _)) | (go_split_ands; exact mk8.out _ (below_after_of (by assumption) hbq)))
          (first
            | (go_at_call 18; go_split_ands; refine (hSP _ (FP8.out _ (by assumption))).mono ?_; intro e wq hqq; obtain ⟨aq, cq, rfl, hbq, hoq⟩ := hqq.use; clear hqq)
            | (go_at_call 19; go_split_ands; refine (hI5 _ (FP8.out _ (by assumption))).mono ?_; rintro e wq ⟨rfl, hbq⟩)
            | (go_at_call 20; go_split_ands; refine (hS5 _ (FP8.out _ (by assumption))).mono ?_; rintro e wq ⟨rfl, nq, rfl⟩))
        go_split_ands
        have hbe := below_after_of HB8b.out (by assumption)
        go_wp2
        go_ret
        exact ⟨rfl, hbe⟩
  · have hcb : (cc == 0) = false := by simpa using hc0
    have HB8 : Hid (Below W.heap.size W W7) := HB7
    clear hc0
    obtain ⟨FP, FS, FY, FQ, -, -, -, hB8⟩ := F.out _ HB8.out
    have r0 := FQ.2.1
    have r1 := FQ.2.2
    have r9 := FQ.1
    have t0 := FS.2.1
    have t1 := FS.2.2
    have t9 := FS.1
    by_cases hp0 : pc = 0
    · have hys := HPC.out
      have hz : slF l = 0 ∧ fine (sk, sv) = true ∧ ¬ 12 < (put l (sk, sv)).length := by
        have h1 := hys.1.symm.trans hp0
        unfold psC at h1
        by_cases a0 : slF l = 0
        · rw [if_pos a0] at h1
          by_cases a1 : fine (sk, sv) = true
          · rw [if_pos a1] at h1
            by_cases a2 : 12 < (put l (sk, sv)).length
            · rw [if_pos a2] at h1; cases h1
            · exact ⟨a0, a1, a2⟩
          · rw [if_neg a1] at h1; cases h1
        · rw [if_neg a0] at h1; exact absurd h1 a0
      have hy : ys = put l (sk, sv) := by rw [hys.2]; unfold psL; rw [if_pos hz]
      have hsl := slF_ok hz.1
      have HSY : Hid (Sls ys) := by rw [hy]; exact put_sls hsl hz.2.1 hz.2.2
      have HMS : Hid ((sk, sv) ∈ ys ∧ ∀ p ∈ l, ¬ p.1 = sk → p ∈ ys) := by
        rw [hy]
        exact ⟨(put_mem hsl.ris _).2 (Or.inl rfl), fun p hp hne => (put_mem hsl.ris _).2 (Or.inr ⟨hp, hne⟩)⟩
      have hyl : ys.length ≤ l.length + 1 := by rw [hy, put_len]; split <;> omega
      have HL : Hid (Prs W7 (.slice a1 l.length c1) l) := FP
      have hFS := fun k w' hu => implFindSlot_any (.slice a2 ys.length c2) ys k w' hu (by omega)
      have hSF := fun w' hu => implSlotsFault_any (.slice a2 ys.length c2) ys w' hu (by omega)
      rw [slF_all HSY.out] at hSF
      have HB8b : Hid (Below w0.heap.size w0 W7) := hB8
      subst hp0
      clear hys hy hz hsl FP FS FY FQ hB8
      go_wp2
      go_loopw [11] (fun i wr => ∃ k : Nat, k ≤ l.length ∧ i = .int .i64 k ∧ Hid (Below W.heap.size W wr)) (fun i _ => l.length - (intOf i).toNat)
      case atStart => exact ⟨0, Nat.zero_le _, rfl, HB8⟩
      case round =>
        obtain ⟨k, hk, rfl, HBr⟩ := hrel
        obtain ⟨FP, FS, FY, FQ, -, -, -, hBr⟩ := F.out _ HBr.out
        clear r0 r1 r9 t0 t1 t9
        have r1 := After.cell FQ.2.2
        have t0 := After.cell FS.2.1
        have t1 := After.cell FS.2.2
        have hne := After.ne wr
        have hf1 := field_IR1
        have hf0 := field_IR0
        have FYA : ∀ n : After wr, Prs n.w (.slice a2 ys.length c2) ys := fun n => FY.below n.b
        by_cases hkl : k < l.length
        · have hki : (k : Int) < (l.length : Int) := by omega
          obtain ⟨-, bk, off, rfl, hbk, hc⟩ := FP.at (by omega)
          have d0 := After.cell (hc k hkl).1
          have d1 := After.cell (hc k hkl).2
          have HMM : Hid (¬ (pAt l k).1 = sk → fsC ys (pAt l k).1 = 0 ∧ fsV ys (pAt l k).1 = (pAt l k).2) := fun hn => by
            have h1 := HMS.out.2 (pAt l k) (by rw [pAt_eq hkl]; exact List.getElem_mem _) hn
            exact found HSY.out h1
          have HBR : Hid (Below w0.heap.size w0 wr) := hBr
          generalize (pAt l k).1 = x at *
          generalize (pAt l k).2 = y at *
          clear hc FP FS FQ FY hBr
          by_cases hxs : x = sk
          · have hxb : (x != sk) = false := by simpa using hxs
            clear hxs HMM hSF
            go_wp2
            refine wp_region_after (by kernel_rfl) (by kernel_rfl) ?_
            repeat (first | go_big_quiet_skip | (go_big_quiet_want; go_big_quiet_op; first | go_big_quiet_on | go_big_quiet_call (first
              | (go_at_call 21; refine (hFS _ _ (FYA _)).mono ?_; rintro e wq ⟨rfl, hbq⟩; exact ⟨rfl, after_mk (below_after_of (After.b _) hbq)⟩))))
            refine wpQuiet_nil ?_
            rintro _ ⟨n2, rfl⟩
            have hb2 : Below W.heap.size W n2.w := below_after_of HBr.out n2.b
            clear d0 d1 r1 t0 t1 hne FYA
            go_wp2
            go_roundw
            case rel => exact ⟨k + 1, by omega, by go_num, hb2⟩
            case measure => simp [intOf]; omega
          · have hxb : (x != sk) = true := by simpa using hxs
            have hv := HMM.out hxs
            have hFX := hFS x
            rw [hv.1, hv.2] at hFX
            have hyy : (y != y) = false := by simp
            clear hxs HMM hv hFS hSF
            go_wp2
            refine wp_region_after (by kernel_rfl) (by kernel_rfl) ?_
            repeat (first | go_big_quiet_skip | (go_big_quiet_want; go_big_quiet_op; first | go_big_quiet_on | go_big_quiet_call (first
              | (go_at_call 21; refine (hFX _ (FYA _)).mono ?_; rintro e wq ⟨rfl, hbq⟩; exact ⟨rfl, after_mk (below_after_of (After.b _) hbq)⟩))))
            refine wpQuiet_nil ?_
            rintro _ ⟨n2, rfl⟩
            have hb2 : Below W.heap.size W n2.w := below_after_of HBr.out n2.b
            clear d0 d1 r1 t0 t1 hne FYA
            go_wp2
            go_roundw
            case rel => exact ⟨k + 1, by omega, by go_num, hb2⟩
            case measure => simp [intOf]; omega
        · have hkl2 : ¬ (k : Int) < (l.length : Int) := by omega
          have hv := found HSY.out HMS.out.1
          dsimp only at hv
          have hFX := hFS sk
          rw [hv.1, hv.2] at hFX
          have hss : (sv == sv) = true := by simp
          have hle : decide ((ys.length : Int) ≤ (l.length : Int) + 1) = true := by simp; omega
          have hwl : IntKind.i64.wrap ((l.length : Int) + 1) = (l.length : Int) + 1 := by rw [IntKind.wrap_i64]; omega
          have HBR : Hid (Below w0.heap.size w0 wr) := hBr
          clear hv hFS FP FS FQ FY hBr
          go_wp2
          refine wp_region_after (by kernel_rfl) (by kernel_rfl) ?_
          repeat (first | go_big_quiet_skip | (go_big_quiet_want; go_big_quiet_op; first | go_big_quiet_on | go_big_quiet_call (first
            | (go_at_call 21; refine (hFX _ (FYA _)).mono ?_; rintro e wq ⟨rfl, hbq⟩; exact ⟨rfl, after_mk (below_after_of (After.b _) hbq)⟩)
            | (go_at_call 19; refine (hSF _ (FYA _)).mono ?_; rintro e wq ⟨rfl, hbq⟩; exact ⟨rfl, after_mk (below_after_of (After.b _) hbq)⟩))))
          refine wpQuiet_nil ?_
          rintro _ ⟨n2, rfl⟩
          have hb2 : Below w0.heap.size w0 n2.w := below_after_of HBR.out n2.b
          clear r1 t0 t1 hne FYA
          go_wp2
          go_ret
          exact ⟨rfl, hb2⟩
    · have hpn : (pc != 0) = true := by simpa using hp0
      have hpe : (pc == pc) = true := by simp
      have hSP := fun w' hu => specPutSlot_any (.slice a1 l.length c1) l sk sv w' hu (by omega)
      rw [← HPC.out.1, ← HPC.out.2] at hSP
      have hI5 := fun w' hu => implSlotsFault_any (.slice a1 l.length c1) l w' hu (by omega)
      have hS5 := fun w' hu => specSlotsFault_any (.slice a1 l.length c1) l w' hu (by omega)
      generalize slF l = fl0 at *
      have hfe : (fl0 == fl0) = true := by simp
      have hf0 := fun a n c w => field_SR0 pc a n c w
      have mk8 : Hid (∀ w', Below W7.heap.size W7 w' → Below W7.heap.size W7 w' ∧ w'.cell? ⟨w1.heap.size, 0, none⟩ = some (.int .i64 sk) ∧ w'.cell? ⟨w1.heap.size, 1, none⟩ = some (.int .i64 sv) ∧ w'.cell? ⟨w2.heap.size, 0, none⟩ = some (.int .i64 pc)) := fun w' hb => ⟨hb, (FS.below hb).2.1, (FS.below hb).2.2, (FQ.below hb).2.1⟩
      have FP8 : Hid (∀ w', Below W7.heap.size W7 w' → Prs w' (.slice a1 l.length c1) l) := fun w' hb => FP.below hb
      have HB8b : Hid (Below w0.heap.size w0 W7) := hB8
      clear FP FS FY FQ hB8 hp0
      go_wp2
      go_region_held3 (fun w' => Below W7.heap.size W7 w' ∧ w'.cell? ⟨w1.heap.size, 0, none⟩ = some (.int .i64 sk) ∧ w'.cell? ⟨w1.heap.size, 1, none⟩ = some (.int .i64 sv) ∧ w'.cell? ⟨w2.heap.size, 0, none⟩ = some (.int .i64 pc))
        (first | exact mk8.out _ (Below.refl _ _).drew | (go_split_ands; exact mk8.out _ (below_drewN (by assumption) _)) | (go_split_ands; exact mk8.out _ (below_after_of (by assumption) hbq)))
        (first
          | (go_at_call 18; go_split_ands; refine (hSP _ (FP8.out _ (by assumption))).mono ?_; intro e wq hqq; obtain ⟨aq, cq, rfl, hbq, hoq⟩ := hqq.use; clear hqq)
          | (go_at_call 19; go_split_ands; refine (hI5 _ (FP8.out _ (by assumption))).mono ?_; rintro e wq ⟨rfl, hbq⟩)
          | (go_at_call 20; go_split_ands; refine (hS5 _ (FP8.out _ (by assumption))).mono ?_; rintro e wq ⟨rfl, nq, rfl⟩))
      go_split_ands
      have hbe := below_after_of HB8b.out (by assumption)
      go_wp2
      go_ret
      exact ⟨rfl, hbe⟩
set_option maxRecDepth 100000 in
set_option maxHeartbeats 1000000 in
theorem fnSlots_walk (v : Value) (xs : List Int) (w : World) (hv : Ints .u8 w v xs) (hx : xs.length ≤ maxLen) (hw : ∀ n ∈ xs, (Lit.int .u8 n).wf = true) :
    Calls Try.prog 3 #[v] w fun e w' => e = .returned (.bool true) ∧ Below w.heap.size w w' := by
  by_cases h : xs.length ≤ 1048576
  · exact fnSlots_small v xs w ⟨hv, h, hw⟩ (ints_far hv)
  · obtain ⟨a, c, rfl⟩ := hv.shape
    have hlb := fun w => lwBig4 a xs.length c w hx
    rw [show decide (1048576 < xs.length) = true by simp; omega] at hlb
    generalize xs.length = n at *
    clear hv hw
    go_enter Try.func3, Try.ntmps3
    go_wp2_with fail
    refine (hlb _).mono ?_
    rintro e w0 ⟨rfl, rfl⟩
    clear hlb
    go_wp2
    go_ret
    exact ⟨rfl, Below.refl _ _⟩
end U
end Go.Proofs.Ytgflamlfplpfdaa
