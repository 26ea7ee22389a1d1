/- The law on what the old tree shows, walked: true, and nothing that was there has turned. -/
import Derived.Test.YtdcfoggcepkelaaGOp12
import Derived.Test.YtdcfoggcepkelaaGOp15
import Derived.Test.YtdcfoggcepkelaaGD
import Derived.Test.YtdcfoggcepkelaaGDraw5
import Derived.Test.YtdcfoggcepkelaaGH
import Derived.Test.YtdcfoggcepkelaaGA
namespace Go.Proofs.Ytdcfoggcepkelaa
open Go.RowKit
namespace U
theorem fldB0 (c : Int) (a : Option Addr) (n k : Nat) (w : World) : (Instr.field 37 (.agg #[.int .i64 c, .slice a n k]) 0).run Try.prog w = .ok (.int .i64 c) w := by kernel_rfl
theorem fldC0 (c : Int) (f : Bool) (a : Option Addr) (n k : Nat) (a' : Option Addr) (n' k' : Nat) (w : World) : (Instr.field 31 (.agg #[.int .i64 c, .bool f, .slice a n k, .slice a' n' k']) 0).run Try.prog w = .ok (.int .i64 c) w := by kernel_rfl
theorem ocF_true {l : Prl} {x y : Int} {b : Bool} {p : List Int} (h : ocF l x b y p = true) : arB (ocP l x b y p).1 (ocP l x b y p).2 = true ∧ (ocP l x b y p).1.length ≤ 5 ∧ (ocP l x b y p).2.length ≤ 5 ∧ Bts (ocP l x b y p).1 ∧ Bts (ocP l x b y p).2 := by
  have hl : (ocP l x b y p).1.length ≤ 5 ∧ (ocP l x b y p).2.length ≤ 5 := ocW_len (l := l) (x := x) (s := sumL (leafL x b y)) (p := p) (leafL_len x b y) (leafL_len x (thr l x) (fsV l x)) 8
  unfold ocF at h
  rw [Bool.and_eq_true] at h
  have h1 := of_decide_eq_true h.1
  have e : arB (ocP l x b y p).1 (ocP l x b y p).2 = true := by rw [l2B_ar (Nat.le_trans hl.1 (by omega)) (Nat.le_trans hl.2 (by omega))]; exact h.2
  have hcc : slF l = 0 ∧ coC x b y p = 0 := by
    unfold ocC at h1
    by_cases h0 : slF l = 0
    · rw [if_pos h0] at h1
      by_cases hc : coC x b y p = 0
      · exact ⟨h0, hc⟩
      · rw [if_neg hc] at h1; exact absurd h1 hc
    · rw [if_neg h0] at h1; exact absurd h1 h0
  obtain ⟨ha, h8, hs⟩ := co_zero hcc.2
  have hb := oc_bts (l := l) (x := x) (s := sumL (leafL x b y)) (p := p) (sumL_bd _) hs (leafL_bts ha) (leafL_bts (lfT_askd hcc.1 (askd_key ha))) 8
  exact ⟨e, hl.1, hl.2, hb.1, hb.2⟩
set_option maxRecDepth 100000 in
set_option maxHeartbeats 16000000 in
theorem fnOldTrue_small (cv : Value) (cs : List Int) (w : World) (h : Code w cv cs) (hob : cs ≠ [] → ∀ g, cv.ownBlock = some g → g < w.heap.size) :
    Calls Try.prog 5 #[cv] w fun e w' => e = .returned (.bool true) ∧ Below w.heap.size w w' := by
  obtain ⟨cva, cvc, rfl⟩ := h.1.shape
  have hbig : decide (1048576 < cs.length) = false := by simp; exact h.2.1
  have hlb := fun w => lwBig4 cva cs.length cvc w (by have := h.2.1; unfold maxLen; omega)
  rw [hbig] at hlb
  obtain ⟨cl, hcl⟩ : ∃ cl, cl = cs.length := ⟨_, rfl⟩
  rw [← hcl] at h hob hlb ⊢
  have HC : Hid (∀ w', Below w.heap.size w w' → Code w' (.slice cva cl cvc) cs) := fun w' hb => h.below hb
  have HOB : Hid (∀ w', Below w.heap.size w w' → cs ≠ [] → ∀ g, (Value.slice cva cl cvc).ownBlock = some g → g < w'.heap.size) := fun w' hb hz g e => Nat.lt_of_lt_of_le (hob hz g e) hb.size
  clear hcl hbig h hob
  go_enter Try.func5, Try.ntmps5
  go_wp2_with fail
  refine (hlb _).mono ?_
  rintro e w0 ⟨rfl, h0w⟩
  rw [h0w]
  clear hlb h0w w0
  go_wp2_with fail
  -- the slots and what is shown
  refine (drawOldClash_any _ cs _ (HC.out _ (Below.refl _ _)) (HOB.out _ (Below.refl _ _))).mono ?_
  rintro e w1 ⟨a1, c1, l, x, b, y, pa, pc, p, rfl, hl13, hp8, ho1, hp1, hok, hb1⟩
  have P1 := own_prs ho1
  have K1 := own_okv ho1
  have hI := implOldClash_any _ l x b y _ p w1 P1 K1 (by omega) hp1
  have HSP : Hid (∀ w', Below w1.heap.size w1 w' → Calls Try.prog 44 #[.slice a1 l.length c1, .int .i64 x, .bool b, .int .i64 y, .slice pa p.length pc] w' fun e w'' => ClashAns w' (ocC l x b y p) (ocF l x b y p) (ocP l x b y p).1 (ocP l x b y p).2 e w'') := fun w' h => specOldClash_any _ l x b y _ p w' (P1.below h) (by omega) (hp1.below h) hok (by omega)
  have HF : Hid (∀ w', Below w1.heap.size w1 w' → Calls Try.prog 36 #[.slice a1 l.length c1, .int .i64 x] w' fun e w'' => IntAns w' (fsC l x) (fsV l x) e w'') := fun w' h => implFindSlot_any _ l x w' (P1.below h) (by omega)
  have HT : Hid (ocC l x b y p = 0 → ocF l x b y p = false → thr l x = b ∧ (b = true → fsV l x = y)) := fun h1 h2 => (old_true h1 h2).2
  have HZ : Hid (ocC l x b y p = 0 → fsC l x = if thr l x = true then 0 else 4) := fun h => by
    have h0 : slF l = 0 := by
      apply Classical.byContradiction
      intro hn
      rw [(oc_slots hn).1] at h
      exact hn h
    unfold fsC
    rw [if_pos h0]
  have HFT : Hid (ocF l x b y p = true → arB (ocP l x b y p).1 (ocP l x b y p).2 = true ∧ (ocP l x b y p).1.length ≤ 5 ∧ (ocP l x b y p).2.length ≤ 5 ∧ Bts (ocP l x b y p).1 ∧ Bts (ocP l x b y p).2) := ocF_true
  generalize ocC l x b y p = oc at *
  generalize ocF l x b y p = f at *
  generalize (ocP l x b y p).1 = P at *
  generalize (ocP l x b y p).2 = Q at *
  generalize fsC l x = fc at *
  generalize fsV l x = fv at *
  generalize l.length = ln at *
  generalize p.length = pn at *
  clear ho1 hp1 hok P1 K1
  go_wp2_with fail
  refine hI.mono ?_
  intro e w2 h2
  obtain ⟨A1, N1, C1, A2, N2, C2, rfl, hb2, R2⟩ := h2.use2
  obtain ⟨W2, hW2⟩ : ∃ W2, W2 = w2.alloc (.cells #[.int .i64 oc, .bool f, .slice A1 N1 C1, .slice A2 N2 C2] 31) := ⟨_, rfl⟩
  have hN2 : Below w2.heap.size w2 W2 := by rw [hW2]; exact one_new _
  have HB2 : Hid (Below w1.heap.size w1 W2) := below_after_of hb2 hN2
  have HQ2 : Hid (Qd W2 w2.heap.size (.int .i64 oc) (.bool f) (.slice A1 N1 C1) (.slice A2 N2 C2)) := by rw [hW2]; exact Qd.new _ _ _ _ _ _
  have HR2 : Hid (Rows2 w1 W2 (.slice A1 N1 C1) (.slice A2 N2 C2) f P Q) := R2.below hN2
  have HBW2 : Hid (Below w.heap.size w W2) := below_after_of hb1 HB2.out
  have HW2 : Hid (w2.alloc (.cells #[.int .i64 oc, .bool f, .slice A1 N1 C1, .slice A2 N2 C2] 31) = W2) := hW2.symm
  clear h2 hI hb2 hN2 hW2 R2 hb1
  go_wp2_with fail
  rw [HW2.out]
  -- a leaf
  refine (drawLeafBytes_any _ cs _ (HC.out _ HBW2.out) (HOB.out _ HBW2.out)).mono ?_
  rintro e w3 ⟨ka, ba, ya, rfl, hb3⟩
  have hLI := fun w => implLeafBytes_any ka ba ya w
  have hLS := fun w => specLeafBytes_any ka ba ya w
  have hll := lbL_len ka ba ya
  have HLB : Hid (Bts (lbL ka ba ya)) := by
    show Bts _
    unfold lbL
    split
    · exact leafL_bts (by assumption)
    · intro b hb; cases hb
  generalize lbC ka ba ya = lc at *
  generalize lbL ka ba ya = ls at *
  have hnn : (lc != lc) = false := by simp
  have hf0 := fun a n k w => fldB0 lc a n k w
  have hf1 := fun a n k w => field_BR1 lc a n k w
  clear HW2
  go_wp2_with fail
  refine (hLI _).mono ?_
  intro e w4 h4
  obtain ⟨a4, c4, rfl, hb4, -⟩ := h4.use
  have hB4 := below_after_of hb3 hb4
  clear h4 hb4
  obtain ⟨n4, hn4⟩ : ∃ n4, n4 = ls.length := ⟨_, rfl⟩
  have HN4 : Hid (n4 = ls.length) := hn4
  rw [← hn4]
  clear hn4
  go_wp2_with fail
  refine (hLS _).mono ?_
  intro e w5 h5
  obtain ⟨a5, c5, rfl, hb5, -⟩ := h5.use
  have hB5 := below_after_of hB4 hb5
  clear h5 hb5 hB4
  rw [← HN4.out]
  go_wp2_with fail
  refine (hLI _).mono ?_
  intro e w6 h6
  obtain ⟨a6, c6, rfl, hb6, own6⟩ := h6.use
  have hB6 := below_after_of hB5 hb6
  have i6 := own_ints own6
  clear h6 hb6 hB5 own6
  rw [← HN4.out] at i6 ⊢
  go_wp2_with fail
  refine (hLS _).mono ?_
  intro e w7 h7
  obtain ⟨a7, c7, rfl, hb7, own7⟩ := h7.use
  have hB7 := below_after_of hB6 hb7
  have i7 := own_ints own7
  have i6 := i6.below hb7
  clear h7 hb7 hB6 own7
  rw [← HN4.out] at i7 ⊢
  have hLW := lwBytes_any _ _ ls ls w7 i6 i7 HLB.out HLB.out
  rw [decide_eq_true rfl] at hLW
  clear i6 i7 hLI hLS
  go_wp2_with fail
  refine hLW.mono ?_
  rintro e w8 ⟨rfl, h8w⟩
  rw [h8w]
  clear hLW h8w w8
  have HB27 : Hid (Below W2.heap.size W2 w7) := hB7
  have HBW7 : Hid (Below w.heap.size w w7) := below_after_of HBW2.out hB7
  have HB17 : Hid (Below w1.heap.size w1 w7) := below_after_of HB2.out hB7
  have Q7 := HQ2.out.below hB7
  obtain ⟨p0, p1, p2, p3, -, -, -, -, p4⟩ := Q7
  clear hB7 HBW2 HC HOB hb3 hf0 hf1 hnn
  by_cases hoc : oc = 0
  · have hF := HF.out
    have hfc := HZ.out hoc
    subst hoc
    rw [hfc] at hF
    have HT' := HT.out rfl
    clear HSP HF HZ HT hfc
    have q0 := p0
    cases f
    · have hT := HT' rfl
      have hFT : Hid True := trivial
      clear HT' HFT
      cases b
      · rw [hT.1, if_neg (by simp)] at hF
        clear hT
        go_wp2_with fail
        refine (hF _ HB17.out).mono ?_
        rintro e w9 ⟨rfl, hb9⟩
        obtain ⟨W9, hW9⟩ : ∃ W9, W9 = w9.alloc (.cells #[.int .i64 4, .int .i64 fv] 41) := ⟨_, rfl⟩
        have hN9 : Below w9.heap.size w9 W9 := by rw [hW9]; exact one_new _
        have Q9 : Pair W9 w9.heap.size (.int .i64 4) (.int .i64 fv) := by rw [hW9]; exact Pair.new w9 _ _ _
        have hb79 : Below w7.heap.size w7 W9 := below_after_of hb9 hN9
        have r0 := Q9.2.1
        have r1 := Q9.2.2
        have s0 := (hb79.cell (p := ⟨w2.heap.size, 1, none⟩) p4).trans p1
        have s1 := (hb79.cell (p := ⟨w2.heap.size, 2, none⟩) p4).trans p2
        have s2 := (hb79.cell (p := ⟨w2.heap.size, 3, none⟩) p4).trans p3
        have hBW9 := below_after_of HBW7.out hb79
        rw [hW9] at r0 r1 s0 s1 s2 hBW9 hb79
        clear hF hb9 hN9 hW9 Q9 p0 p1 p2 p3 q0
        go_wp2
        go_ret
        exact ⟨rfl, hBW9⟩
      · have hvy := hT.2 rfl
        subst hvy
        rw [hT.1, if_pos rfl] at hF
        clear hT
        go_wp2_with fail
        refine (hF _ HB17.out).mono ?_
        rintro e w9 ⟨rfl, hb9⟩
        obtain ⟨W9, hW9⟩ : ∃ W9, W9 = w9.alloc (.cells #[.int .i64 0, .int .i64 fv] 41) := ⟨_, rfl⟩
        have hN9 : Below w9.heap.size w9 W9 := by rw [hW9]; exact one_new _
        have Q9 : Pair W9 w9.heap.size (.int .i64 0) (.int .i64 fv) := by rw [hW9]; exact Pair.new w9 _ _ _
        have hb79 : Below w7.heap.size w7 W9 := below_after_of hb9 hN9
        have r0 := Q9.2.1
        have r1 := Q9.2.2
        have s0 := (hb79.cell (p := ⟨w2.heap.size, 1, none⟩) p4).trans p1
        have s1 := (hb79.cell (p := ⟨w2.heap.size, 2, none⟩) p4).trans p2
        have s2 := (hb79.cell (p := ⟨w2.heap.size, 3, none⟩) p4).trans p3
        have hBW9 := below_after_of HBW7.out hb79
        rw [hW9] at r0 r1 s0 s1 s2 hBW9 hb79
        clear hF hb9 hN9 hW9 Q9 p0 p1 p2 p3 q0
        go_wp2
        go_ret
        exact ⟨rfl, hBW9⟩
    · obtain ⟨har, hlp, hlq, hbp, hbq⟩ := HFT.out rfl
      have R7 := HR2.out.below HB27.out
      have hIC : ∀ w', Below w7.heap.size w7 w' → Calls Try.prog 12 #[.agg #[.bool true, .slice A1 N1 C1, .slice A2 N2 C2]] w' fun e w'' => e = .returned (.bool true) ∧ Below w'.heap.size w' w'' := fun w' h => by
        have i1 : Ints .u8 w' (.slice A1 N1 C1) P := (own_ints R7.1).below h
        have i2 : Ints .u8 w' (.slice A2 N2 C2) Q := (own_ints R7.2.1).below h
        have hc := implIsClash_any true _ _ P Q w' i1 i2 hbp hbq (by omega) (by omega)
        rw [har] at hc
        exact hc
      clear HT' HFT R7 har hlp hlq hbp hbq
      rcases Bool.eq_false_or_eq_true (thr l x) with ht | ht
      · rw [ht, if_pos rfl] at hF
        clear ht
        cases b
        · go_wp2_with fail
          refine (hF _ HB17.out).mono ?_
          rintro e w9 ⟨rfl, hb9⟩
          obtain ⟨W9, hW9⟩ : ∃ W9, W9 = w9.alloc (.cells #[.int .i64 0, .int .i64 fv] 41) := ⟨_, rfl⟩
          have hN9 : Below w9.heap.size w9 W9 := by rw [hW9]; exact one_new _
          have Q9 : Pair W9 w9.heap.size (.int .i64 0) (.int .i64 fv) := by rw [hW9]; exact Pair.new w9 _ _ _
          have hb79 : Below w7.heap.size w7 W9 := below_after_of hb9 hN9
          have r0 := Q9.2.1
          have r1 := Q9.2.2
          have s0 := (hb79.cell (p := ⟨w2.heap.size, 1, none⟩) p4).trans p1
          have s1 := (hb79.cell (p := ⟨w2.heap.size, 2, none⟩) p4).trans p2
          have s2 := (hb79.cell (p := ⟨w2.heap.size, 3, none⟩) p4).trans p3
          have hBW9 := below_after_of HBW7.out hb79
          rw [hW9] at r0 r1 s0 s1 s2 hBW9 hb79
          clear hF hb9 hN9 hW9 Q9 p0 p1 p2 p3 q0
          go_wp2_with fail
          refine (hIC _ hb79).mono ?_
          rintro e w10 ⟨rfl, hb10⟩
          have hB10 := below_after_of hBW9 hb10
          clear hIC hb10 hb79
          go_wp2
          go_ret
          exact ⟨rfl, hB10⟩
        · by_cases hvy : fv = y
          · subst hvy
            go_wp2_with fail
            refine (hF _ HB17.out).mono ?_
            rintro e w9 ⟨rfl, hb9⟩
            obtain ⟨W9, hW9⟩ : ∃ W9, W9 = w9.alloc (.cells #[.int .i64 0, .int .i64 fv] 41) := ⟨_, rfl⟩
            have hN9 : Below w9.heap.size w9 W9 := by rw [hW9]; exact one_new _
            have Q9 : Pair W9 w9.heap.size (.int .i64 0) (.int .i64 fv) := by rw [hW9]; exact Pair.new w9 _ _ _
            have hb79 : Below w7.heap.size w7 W9 := below_after_of hb9 hN9
            have r0 := Q9.2.1
            have r1 := Q9.2.2
            have s0 := (hb79.cell (p := ⟨w2.heap.size, 1, none⟩) p4).trans p1
            have s1 := (hb79.cell (p := ⟨w2.heap.size, 2, none⟩) p4).trans p2
            have s2 := (hb79.cell (p := ⟨w2.heap.size, 3, none⟩) p4).trans p3
            have hBW9 := below_after_of HBW7.out hb79
            rw [hW9] at r0 r1 s0 s1 s2 hBW9 hb79
            clear hF hb9 hN9 hW9 Q9 p0 p1 p2 p3 q0
            go_wp2_with fail
            refine (hIC _ hb79).mono ?_
            rintro e w10 ⟨rfl, hb10⟩
            have hB10 := below_after_of hBW9 hb10
            clear hIC hb10 hb79
            go_wp2
            go_ret
            exact ⟨rfl, hB10⟩
          · go_wp2_with fail
            refine (hF _ HB17.out).mono ?_
            rintro e w9 ⟨rfl, hb9⟩
            obtain ⟨W9, hW9⟩ : ∃ W9, W9 = w9.alloc (.cells #[.int .i64 0, .int .i64 fv] 41) := ⟨_, rfl⟩
            have hN9 : Below w9.heap.size w9 W9 := by rw [hW9]; exact one_new _
            have Q9 : Pair W9 w9.heap.size (.int .i64 0) (.int .i64 fv) := by rw [hW9]; exact Pair.new w9 _ _ _
            have hb79 : Below w7.heap.size w7 W9 := below_after_of hb9 hN9
            have r0 := Q9.2.1
            have r1 := Q9.2.2
            have s0 := (hb79.cell (p := ⟨w2.heap.size, 1, none⟩) p4).trans p1
            have s1 := (hb79.cell (p := ⟨w2.heap.size, 2, none⟩) p4).trans p2
            have s2 := (hb79.cell (p := ⟨w2.heap.size, 3, none⟩) p4).trans p3
            have hBW9 := below_after_of HBW7.out hb79
            rw [hW9] at r0 r1 s0 s1 s2 hBW9 hb79
            clear hF hb9 hN9 hW9 Q9 p0 p1 p2 p3 q0
            go_wp2_with fail
            refine (hIC _ hb79).mono ?_
            rintro e w10 ⟨rfl, hb10⟩
            have hB10 := below_after_of hBW9 hb10
            clear hIC hb10 hb79
            go_wp2
            go_ret
            exact ⟨rfl, hB10⟩
      · rw [ht, if_neg (by simp)] at hF
        clear ht
        cases b
        · go_wp2_with fail
          refine (hF _ HB17.out).mono ?_
          rintro e w9 ⟨rfl, hb9⟩
          obtain ⟨W9, hW9⟩ : ∃ W9, W9 = w9.alloc (.cells #[.int .i64 4, .int .i64 fv] 41) := ⟨_, rfl⟩
          have hN9 : Below w9.heap.size w9 W9 := by rw [hW9]; exact one_new _
          have Q9 : Pair W9 w9.heap.size (.int .i64 4) (.int .i64 fv) := by rw [hW9]; exact Pair.new w9 _ _ _
          have hb79 : Below w7.heap.size w7 W9 := below_after_of hb9 hN9
          have r0 := Q9.2.1
          have r1 := Q9.2.2
          have s0 := (hb79.cell (p := ⟨w2.heap.size, 1, none⟩) p4).trans p1
          have s1 := (hb79.cell (p := ⟨w2.heap.size, 2, none⟩) p4).trans p2
          have s2 := (hb79.cell (p := ⟨w2.heap.size, 3, none⟩) p4).trans p3
          have hBW9 := below_after_of HBW7.out hb79
          rw [hW9] at r0 r1 s0 s1 s2 hBW9 hb79
          clear hF hb9 hN9 hW9 Q9 p0 p1 p2 p3 q0
          go_wp2_with fail
          refine (hIC _ hb79).mono ?_
          rintro e w10 ⟨rfl, hb10⟩
          have hB10 := below_after_of hBW9 hb10
          clear hIC hb10 hb79
          go_wp2
          go_ret
          exact ⟨rfl, hB10⟩
        · go_wp2_with fail
          refine (hF _ HB17.out).mono ?_
          rintro e w9 ⟨rfl, hb9⟩
          obtain ⟨W9, hW9⟩ : ∃ W9, W9 = w9.alloc (.cells #[.int .i64 4, .int .i64 fv] 41) := ⟨_, rfl⟩
          have hN9 : Below w9.heap.size w9 W9 := by rw [hW9]; exact one_new _
          have Q9 : Pair W9 w9.heap.size (.int .i64 4) (.int .i64 fv) := by rw [hW9]; exact Pair.new w9 _ _ _
          have hb79 : Below w7.heap.size w7 W9 := below_after_of hb9 hN9
          have r0 := Q9.2.1
          have r1 := Q9.2.2
          have s0 := (hb79.cell (p := ⟨w2.heap.size, 1, none⟩) p4).trans p1
          have s1 := (hb79.cell (p := ⟨w2.heap.size, 2, none⟩) p4).trans p2
          have s2 := (hb79.cell (p := ⟨w2.heap.size, 3, none⟩) p4).trans p3
          have hBW9 := below_after_of HBW7.out hb79
          rw [hW9] at r0 r1 s0 s1 s2 hBW9 hb79
          clear hF hb9 hN9 hW9 Q9 p0 p1 p2 p3 q0
          go_wp2_with fail
          refine (hIC _ hb79).mono ?_
          rintro e w10 ⟨rfl, hb10⟩
          have hB10 := below_after_of hBW9 hb10
          clear hIC hb10 hb79
          go_wp2
          go_ret
          exact ⟨rfl, hB10⟩
  · have hS := HSP.out
    have hoc' : (oc == oc) = true := by simp
    have HPP : Hid (∀ w', Below w7.heap.size w7 w' → w'.cell? ⟨w2.heap.size, 0, none⟩ = some (.int .i64 oc)) := fun w' h => (h.cell (p := ⟨w2.heap.size, 0, none⟩) p4).trans p0
    have hfn := fun f a n k a' n' k' w => fldC0 oc f a n k a' n' k' w
    clear HSP HF HZ HT HFT HR2 HQ2 p1 p2 p3
    go_wp2
    go_region_held3 (fun w' => w'.cell? ⟨w2.heap.size, 0, none⟩ = some (.int .i64 oc))
      (first | exact p0 | exact HPP.out _ hbr)
      (first | (go_at_call 44; refine (hS _ (HB17.out.drew)).mono ?_; intro e wq hqq; obtain ⟨B1, M1, D1, B2, M2, D2, rfl, hbq, -⟩ := hqq.use2; have hbr : Below w7.heap.size w7 wq := below_after_of (Below.refl _ _).drew hbq; have pq := HPP.out _ hbr; clear hbq hqq))
    have hB10 := below_after_of HBW7.out hbr
    clear hbr hS
    go_wp2
    go_ret
    exact ⟨rfl, hB10⟩
set_option maxRecDepth 100000 in
set_option maxHeartbeats 1000000 in
theorem fnOldTrue_walk (v : Value) (xs : List Int) (w : World) (hv : Ints .u8 w v xs) (hx : xs.length ≤ maxLen) (hw : ∀ n ∈ xs, (Lit.int .u8 n).wf = true) :
    Calls Try.prog 5 #[v] w fun e w' => e = .returned (.bool true) ∧ Below w.heap.size w w' := by
  by_cases h : xs.length ≤ 1048576
  · exact fnOldTrue_small v xs w ⟨hv, h, hw⟩ (ints_far hv)
  · obtain ⟨a, c, rfl⟩ := hv.shape
    have hlb := fun w => lwBig4 a xs.length c w hx
    rw [show decide (1048576 < xs.length) = true by simp; omega] at hlb
    generalize xs.length = n at *
    clear hv hw
    go_enter Try.func5, Try.ntmps5
    go_wp2_with fail
    refine (hlb _).mono ?_
    rintro e w0 ⟨rfl, rfl⟩
    clear hlb
    go_wp2
    go_ret
    exact ⟨rfl, Below.refl _ _⟩
end U
end Go.Proofs.Ytdcfoggcepkelaa
