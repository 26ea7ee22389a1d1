/- The law on heads, walked: true, and nothing that was there has turned. -/
import Derived.Test.YtbjdplipgghndaaGreatGHP
import Derived.Test.YtbjdplipgghndaaGreatGHQ
import Derived.Test.YtbjdplipgghndaaGreatPairs
import Derived.Test.YtbjdplipgghndaaGreatHeldBy
import Derived.Deep.DeepCutAuto
namespace Go.Proofs.YtbjdplipgghndaaGreat
open Go.RowKit Go.Maps
namespace U
set_option maxHeartbeats 400000 in
theorem lwBigD (a : Option Addr) (n c : Nat) (w : World) (hn : n ≤ maxLen) :
    Calls Tryz.prog 8 #[.slice a n c] w fun e w' => e = .returned (.bool (decide (1048576 < n))) ∧ w' = w := by
  unfold maxLen at hn
  go_enter Tryz.func8, Tryz.ntmps8
  go_wp2
  go_ret
  exact ⟨ret_bool (by simp; omega), rfl⟩
/-- What the law's first part asks, from a world on. -/
structure HdAt (W : World) (d pv : Value) (ys hl : List Int) (rc r0 r1 r2 r3 r4 pc e p o n v s : Int) : Prop where
  c3 : ∀ w', Below W.heap.size W w' → Calls Tryz.prog 13 #[d] w' fun x w'' => x = .returned (hrV rc r0 r1 r2 r3 r4) ∧ Below w'.heap.size w' w''
  c13 : rc = 0 → ∀ w', Calls Tryz.prog 12 #[hdV r0 r1 r2 r3 r4] w' fun x w'' => BytesAns w' 0 ys x w''
  c16 : ∀ u w', Below W.heap.size W w' → Ints .u8 w' u ys → Calls Tryz.prog 14 #[u, d] w' fun x w'' => x = .returned (.bool true) ∧ w'' = w'
  c24 : ∀ w', Calls Tryz.prog 15 #[hdV e p o n v] w' fun x w'' => BytesAns w' pc hl x w''
  c32 : ∀ w', Calls Tryz.prog 16 #[hdV e p o n v] w' fun x w'' => x = .returned (.int .i64 pc) ∧ Below w'.heap.size w' w''
  c42 : pc = 0 → ∀ w', Below W.heap.size W w' → Calls Tryz.prog 10 #[pv] w' fun x w'' => x = .returned (hrV 0 e p o n v) ∧ Below w'.heap.size w' w''
  c55 : pc = 0 → ∀ w', Calls Tryz.prog 17 #[hdV e p o n v] w' fun x w'' => x = .returned (.agg #[.int .i64 0, .int .i64 s]) ∧ Below w'.heap.size w' w''
  c59 : pc = 0 → ∀ w', Below W.heap.size W w' → Calls Tryz.prog 18 #[pv] w' fun x w'' => x = .returned (.agg #[.int .i64 0, .int .i64 s]) ∧ Below w'.heap.size w' w''
theorem hdAt_mk {W : World} {d pv : Value} {ys : List Int} {rc r0 r1 r2 r3 r4 e p o n v : Int} (hr : rdV ys = hrV rc r0 r1 r2 r3 r4) (hb : Bts ys) (hd : Ints .u8 W d ys) (hp : Ints .u8 W pv (hdL e p o n v)) : HdAt W d pv ys (hdL e p o n v) rc r0 r1 r2 r3 r4 (hdC e p o n v) e p o n v (hdS e p o n v) := by
  refine ⟨fun w' h => ?_, fun h0 w' => ?_, fun u w' h hu => lwBytesH u d ys w' hu (hd.below h) hb, fun w' => specPackHead_any e p o n v w', fun w' => implHeadFault_any e p o n v w', fun h0 w' h => ?_, fun h0 w' => ?_, fun h0 w' h => ?_⟩
  · have := specReadHead_any d ys w' (hd.below h) hb
    rw [hr] at this
    exact this
  · have h2 := rd_ok_of hr h0 hb
    have := implPackHead_any r0 r1 r2 r3 r4 w'
    rw [h2.1, h2.2] at this
    exact this
  · have h2 := hp.below h
    rw [hdL_ok h0] at h2
    have := implReadHead_any pv _ w' h2 (hdOk h0).bts
    rw [rd_of (hdOk h0)] at this
    exact this
  · have := implHeadSum_any e p o n v w'
    rw [hdSv_ok h0, h0] at this
    exact this
  · have h2 := hp.below h
    rw [hdL_ok h0] at h2
    have hl := hdB_len e p o n v
    have hsm := sm_ok (bs := hdB e p o n v) (by omega)
    have := implSumOf_any pv _ w' h2 (hdOk h0).bts (by omega)
    rw [hsm.1, hsm.2] at this
    exact this
set_option maxRecDepth 100000 in
set_option maxHeartbeats 16000000 in
theorem fnHeads_small (cv : Value) (cs : List Int) (w : World) (h : Code w cv cs) (hob : cs ≠ [] → ∀ g, cv.ownBlock = some g → g < w.heap.size) :
    Calls Tryz.prog 3 #[cv] w fun e w' => e = .returned (.bool true) ∧ Below w.heap.size w w' := by
  obtain ⟨cva, cvc, rfl⟩ := h.1.shape
  have hbig : decide (1048576 < cs.length) = false := by simp; exact h.2.1
  have hlb := fun w => lwBigD cva cs.length cvc w (by have := h.2.1; unfold maxLen; omega)
  rw [hbig] at hlb
  obtain ⟨cl, hcl⟩ : ∃ cl, cl = cs.length := ⟨_, rfl⟩
  rw [← hcl] at h hob hlb ⊢
  have hD := drawReadHead_any _ cs _ h hob
  have HD1 : Hid (∀ w', Below w.heap.size w w' → Calls Tryz.prog 11 #[.slice cva cl cvc] w' fun x w'' => ∃ e p o n v : Int, x = .returned (hdV e p o n v) ∧ Below w'.heap.size w' w'') :=
    fun w' hb => drawPackHead_any _ cs _ (h.below hb) (fun q g e => Nat.lt_of_lt_of_le (hob q g e) hb.size)
  have HD2 : Hid (∀ w', Below w.heap.size w w' → Calls Tryz.prog 19 #[.slice cva cl cvc] w' fun x w'' => ∃ (u : Option Addr) (c : Nat) (L : Rcl) (e p v : Int), x = .returned (.tuple #[.agg #[.slice u L.length c], .int .i64 e, .int .i64 p, .int .i64 v]) ∧ L.length ≤ 13 ∧ Lbs L ∧ Rcs w'' (.slice u L.length c) L ∧ Below w'.heap.size w' w'') :=
    fun w' hb => drawHeadFor_any _ cs _ (h.below hb) (fun q g e => Nat.lt_of_lt_of_le (hob q g e) hb.size)
  clear hcl hbig h hob
  go_enter Tryz.func3, Tryz.ntmps3
  go_wp2_with fail
  refine (hlb _).mono ?_
  rintro e w0 ⟨rfl, h0w⟩
  rw [h0w]
  clear hlb h0w w0
  go_wp2_with fail
  refine hD.mono ?_
  rintro x w1 ⟨du, dc, ys, rfl, hly, hbt, hI1, hb1⟩
  obtain ⟨rc, r0, r1, r2, r3, r4, hr⟩ := (show ∃ c e p o n v, rdV ys = hrV c e p o n v by
    unfold rdV
    split
    · split
      · split <;> exact ⟨_, _, _, _, _, _, rfl⟩
      · exact ⟨_, _, _, _, _, _, rfl⟩
    · exact ⟨_, _, _, _, _, _, rfl⟩)
  have hR := implReadHead_any _ ys w1 hI1 hbt
  rw [hr] at hR
  have HMK : Hid (∀ W pv e p o n v, Below w1.heap.size w1 W → Ints .u8 W pv (hdL e p o n v) → HdAt W (.slice du ys.length dc) pv ys (hdL e p o n v) rc r0 r1 r2 r3 r4 (hdC e p o n v) e p o n v (hdS e p o n v)) := fun W pv e p o n v hb hp => hdAt_mk hr hbt (hI1.below hb) hp
  unfold hrV at hR
  obtain ⟨yn, hyn⟩ : ∃ yn, yn = ys.length := ⟨_, rfl⟩
  rw [← hyn] at hR HMK ⊢
  clear hD hr hbt hI1 hyn hly
  go_wp2_with fail
  refine hR.mono ?_
  rintro x w2 ⟨rfl, hb2⟩
  obtain ⟨W2, hW2⟩ : ∃ W2, W2 = w2.alloc (.cells #[.int .i64 rc, .int .i64 r0, .int .i64 r1, .int .i64 r2, .int .i64 r3, .int .i64 r4] 28) := ⟨_, rfl⟩
  have HW2 : Hid (w2.alloc (.cells #[.int .i64 rc, .int .i64 r0, .int .i64 r1, .int .i64 r2, .int .i64 r3, .int .i64 r4] 28) = W2) := hW2.symm
  have A2 : W2.heap[w2.heap.size]? = some (.cells #[.int .i64 rc, .int .i64 r0, .int .i64 r1, .int .i64 r2, .int .i64 r3, .int .i64 r4] 28) := by rw [hW2]; exact heap_alloc_new w2 _
  have hb2' : Below w1.heap.size w1 W2 := by rw [hW2]; exact hb2.alloc hb2.size _
  have hB2 := below_after_of hb1 hb2'
  have hD1 := HD1.out _ hB2
  clear hR hb2 hW2 HD1
  go_wp2_with fail
  rw [HW2.out]
  clear HW2
  refine hD1.mono ?_
  rintro x w3 ⟨e, p, o, n, v, rfl, hb3⟩
  have hP := fun w => implPackHead_any e p o n v w
  obtain ⟨W3, hW3⟩ : ∃ W3, W3 = w3.alloc (.cells #[.int .i64 e, .int .i64 p, .int .i64 o, .int .i64 n, .int .i64 v] 26) := ⟨_, rfl⟩
  have HW3 : Hid (w3.alloc (.cells #[.int .i64 e, .int .i64 p, .int .i64 o, .int .i64 n, .int .i64 v] 26) = W3) := hW3.symm
  have B3 : W3.heap[w3.heap.size]? = some (.cells #[.int .i64 e, .int .i64 p, .int .i64 o, .int .i64 n, .int .i64 v] 26) := by rw [hW3]; exact heap_alloc_new w3 _
  have hb3' : Below W2.heap.size W2 W3 := by rw [hW3]; exact hb3.alloc hb3.size _
  have A3 := (hb3'.block _ (Array.getElem?_eq_some_iff.1 A2).1).trans A2
  have hb13 := below_after_of hb2' hb3'
  have hB3 := below_after_of hB2 hb3'
  have HMK2 : Hid (∀ W pv, Below w1.heap.size w1 W → Ints .u8 W pv (hdL e p o n v) → HdAt W (.slice du yn dc) pv ys (hdL e p o n v) rc r0 r1 r2 r3 r4 (hdC e p o n v) e p o n v (hdS e p o n v)) := fun W pv hb hp => HMK.out W pv e p o n v hb hp
  unfold hdV at *
  generalize hdL e p o n v = hl at *
  generalize hdC e p o n v = pc at *
  generalize hdS e p o n v = hs at *
  clear hD1 hb3 hW3 A2 hb2' HMK hB2
  go_wp2_with fail
  rw [HW3.out]
  clear HW3
  refine (hP _).mono ?_
  intro x w4 h4
  obtain ⟨pa, pk, rfl, hb4, o4⟩ := h4.use
  obtain ⟨W4, hW4⟩ : ∃ W4, W4 = w4.alloc (.cells #[.int .i64 pc, .slice pa hl.length pk] 32) := ⟨_, rfl⟩
  have HW4 : Hid (w4.alloc (.cells #[.int .i64 pc, .slice pa hl.length pk] 32) = W4) := hW4.symm
  have C4 : W4.heap[w4.heap.size]? = some (.cells #[.int .i64 pc, .slice pa hl.length pk] 32) := by rw [hW4]; exact heap_alloc_new w4 _
  have hN4 : Below w4.heap.size w4 W4 := by rw [hW4]; exact one_new _
  have hb34 := below_after_of hb4 hN4
  have A4 := (hb34.block _ (Array.getElem?_eq_some_iff.1 A3).1).trans A3
  have B4 := (hb34.block _ (Array.getElem?_eq_some_iff.1 B3).1).trans B3
  have hb14 := below_after_of hb13 hb34
  have HB4 : Hid (Below w.heap.size w W4) := below_after_of hB3 hb34
  have T := HMK2.out W4 _ hb14 ((own_ints o4).below hN4)
  obtain ⟨⟨u0, u1, u2, u3, u4, u5⟩, -⟩ := six_cellsH A4
  obtain ⟨j0, j1, j2, j3, j4⟩ := five_cells B4
  obtain ⟨s0, s1, -, -⟩ := two_cells C4
  have qu0 := After.cell u0
  have qu1 := After.cell u1
  have qu2 := After.cell u2
  have qu3 := After.cell u3
  have qu4 := After.cell u4
  have qu5 := After.cell u5
  have qj0 := After.cell j0
  have qj1 := After.cell j1
  have qj2 := After.cell j2
  have qj3 := After.cell j3
  have qj4 := After.cell j4
  have qs0 := After.cell s0
  have qs1 := After.cell s1
  have hne := After.ne W4
  generalize hl.length = pn at *
  clear h4 hP o4 hb4 hN4 hb34 A3 B3 A4 B4 C4 hW4 hb14 hb13 hB3 HMK2 u0 u1 u2 u3 u4 u5 j0 j1 j2 j3 j4 s0 s1
  go_upto_region 7 with fail
  rw [HW4.out]
  clear HW4
  generalize w2.heap.size = bu at *
  generalize w3.heap.size = bh at *
  generalize w4.heap.size = bp at *
  go_cut [89] (fun s wx => s = .bool false ∧ Hid (Below W4.heap.size W4 wx))
  case first =>
    have hnr : (rc != rc) = false := by simp
    have hnp : (pc != pc) = false := by simp
    have hns : (hs != hs) = false := by simp
    have C24 := T.c24
    have C32 := T.c32
    have kR := fun w => fldR0 rc r0 r1 r2 r3 r4 w
    have kH0 := fun w => fldR0 0 e p o n v w
    have kH1 := fun w => fldR1 0 e p o n v w
    have kne := fun w => hd_neq e p o n v w
    have kS := fun w => fieldI1 0 hs w
    unfold hdV at C24 C32
    unfold hrV at kR kH0 kH1
    unfold hdV at kH1 kne
    dsimp only [List.append]
    by_cases hr0 : rc = 0
    · by_cases hp0 : pc = 0
      · subst hr0
        have C13 := T.c13 rfl
        unfold hdV at C13
        subst hp0
        have C42 := T.c42 rfl
        have C55 := T.c55 rfl
        have C59 := T.c59 rfl
        unfold hrV at C42
        unfold hdV at C55
        refine wp_region_held_drew (S := fun w' => ∃ n : After W4, w' = n.w) (by kernel_rfl) (after_mk (Below.refl _ _).drew) (fun hHeld => ?_)
        have hcur : Below W4.heap.size W4 W4.drew := (Below.refl _ _).drew
        refine h_take (i := 0) (d := (some 25)) (v := ?vh1) (by rfl) (by kernel_rfl) (by kernel_rfl) (by kernel_rfl) (fun _ _ _ h => h) (by rfl) ?hyh1 hHeld ?resth1
        case hyh1 =>
          intro o ho
          simp only [List.getElem?_toArray, List.getElem?_cons_zero, Option.some.injEq] at ho
          subst ho
          rintro _ ⟨nw, rfl⟩
          first | (go_simp; done) | (go_simp; with_reducible rfl)
        try simp only [Act.put, List.setIfInBounds_toArray, List.set_cons_zero, List.set_cons_succ]
        as_aux_lemma =>
         refine h_take (i := 1) (d := (some 26)) (v := ?vh2) (by rfl) (by kernel_rfl) (by kernel_rfl) (by kernel_rfl) (fun _ _ _ h => h) (by rfl) ?hyh2 hHeld ?resth2
         case hyh2 =>
           intro o ho
           simp only [List.getElem?_toArray, List.getElem?_cons_succ, List.getElem?_cons_zero, Option.some.injEq] at ho
           subst ho
           rintro _ ⟨nw, rfl⟩
           first | (go_simp; done) | (go_simp; with_reducible rfl)
         try simp only [Act.put, List.setIfInBounds_toArray, List.set_cons_zero, List.set_cons_succ]
         as_aux_lemma =>
          refine h_take (i := 2) (d := (some 27)) (v := ?vh3) (by rfl) (by kernel_rfl) (by kernel_rfl) (by kernel_rfl) (fun _ _ _ h => h) (by rfl) ?hyh3 hHeld ?resth3
          case hyh3 =>
            intro o ho
            simp only [List.getElem?_toArray, List.getElem?_cons_succ, List.getElem?_cons_zero, Option.some.injEq] at ho
            subst ho
            rintro _ ⟨nw, rfl⟩
            first | (go_simp; done) | (go_simp; with_reducible rfl)
          try simp only [Act.put, List.setIfInBounds_toArray, List.set_cons_zero, List.set_cons_succ]
          as_aux_lemma =>
           refine wpAnyH_ready (rs := [3]) (by kernel_rfl) (by simp) ?_
           refine AllReadyH.cons rfl (fun K hK => ?_) AllReadyH.nil
           go_simp
           refine (T.c3 _ hcur).mono ?_
           rintro x wq ⟨rfl, hbq⟩
           unfold hrV
           have hcur := below_after_of hcur hbq
           clear hbq
           refine hK.out _ _ ?_ (fun hHeld => ?_)
           · exact after_mk hcur
           clear hK K
           try simp only [Act.put, List.setIfInBounds_toArray, List.set_cons_zero, List.set_cons_succ]
           as_aux_lemma =>
            refine h_take (i := 4) (d := (some 29)) (v := ?vh4) (by rfl) (by kernel_rfl) (by kernel_rfl) (by kernel_rfl) (fun _ _ _ h => h) (by rfl) ?hyh4 hHeld ?resth4
            case hyh4 =>
              intro o ho
              simp only [List.getElem?_toArray, List.getElem?_cons_succ, List.getElem?_cons_zero, Option.some.injEq] at ho
              subst ho
              rintro _ ⟨nw, rfl⟩
              first | (go_simp; done) | (go_simp; with_reducible rfl)
            try simp only [Act.put, List.setIfInBounds_toArray, List.set_cons_zero, List.set_cons_succ]
            as_aux_lemma =>
             refine h_take (i := 5) (d := (some 30)) (v := ?vh5) (by rfl) (by kernel_rfl) (by kernel_rfl) (by kernel_rfl) (fun _ _ _ h => h) (by rfl) ?hyh5 hHeld ?resth5
             case hyh5 =>
               intro o ho
               simp only [List.getElem?_toArray, List.getElem?_cons_succ, List.getElem?_cons_zero, Option.some.injEq] at ho
               subst ho
               rintro _ ⟨nw, rfl⟩
               first | (go_simp; done) | (go_simp; with_reducible rfl)
             try simp only [Act.put, List.setIfInBounds_toArray, List.set_cons_zero, List.set_cons_succ]
             as_aux_lemma =>
              refine h_take (i := 6) (d := (some 31)) (v := ?vh6) (by rfl) (by kernel_rfl) (by kernel_rfl) (by kernel_rfl) (fun _ _ _ h => h) (by rfl) ?hyh6 hHeld ?resth6
              case hyh6 =>
                intro o ho
                simp only [List.getElem?_toArray, List.getElem?_cons_succ, List.getElem?_cons_zero, Option.some.injEq] at ho
                subst ho
                rintro _ ⟨nw, rfl⟩
                first | (go_simp; done) | (go_simp; with_reducible rfl)
              try simp only [Act.put, List.setIfInBounds_toArray, List.set_cons_zero, List.set_cons_succ]
              as_aux_lemma =>
               refine h_take (i := 7) (d := (some 32)) (v := ?vh7) (by rfl) (by kernel_rfl) (by kernel_rfl) (by kernel_rfl) (fun _ _ _ h => h) (by rfl) ?hyh7 hHeld ?resth7
               case hyh7 =>
                 intro o ho
                 simp only [List.getElem?_toArray, List.getElem?_cons_succ, List.getElem?_cons_zero, Option.some.injEq] at ho
                 subst ho
                 rintro _ ⟨nw, rfl⟩
                 first | (go_simp; done) | (go_simp; with_reducible rfl)
               try simp only [Act.put, List.setIfInBounds_toArray, List.set_cons_zero, List.set_cons_succ]
               as_aux_lemma =>
                refine h_take (i := 8) (d := (some 33)) (v := ?vh8) (by rfl) (by kernel_rfl) (by kernel_rfl) (by kernel_rfl) (fun _ _ _ h => h) (by rfl) ?hyh8 hHeld ?resth8
                case hyh8 =>
                  intro o ho
                  simp only [List.getElem?_toArray, List.getElem?_cons_succ, List.getElem?_cons_zero, Option.some.injEq] at ho
                  subst ho
                  rintro _ ⟨nw, rfl⟩
                  first | (go_simp; done) | (go_simp; with_reducible rfl)
                try simp only [Act.put, List.setIfInBounds_toArray, List.set_cons_zero, List.set_cons_succ]
                as_aux_lemma =>
                 refine h_take (i := 9) (d := (some 34)) (v := ?vh9) (by rfl) (by kernel_rfl) (by kernel_rfl) (by kernel_rfl) (fun _ _ _ h => h) (by rfl) ?hyh9 hHeld ?resth9
                 case hyh9 =>
                   intro o ho
                   simp only [List.getElem?_toArray, List.getElem?_cons_succ, List.getElem?_cons_zero, Option.some.injEq] at ho
                   subst ho
                   rintro _ ⟨nw, rfl⟩
                   first | (go_simp; done) | (go_simp; with_reducible rfl)
                 try simp only [Act.put, List.setIfInBounds_toArray, List.set_cons_zero, List.set_cons_succ]
                 as_aux_lemma =>
                  refine h_take (i := 10) (d := (some 35)) (v := ?vh10) (by rfl) (by kernel_rfl) (by kernel_rfl) (by kernel_rfl) (fun _ _ _ h => h) (by rfl) ?hyh10 hHeld ?resth10
                  case hyh10 =>
                    intro o ho
                    simp only [List.getElem?_toArray, List.getElem?_cons_succ, List.getElem?_cons_zero, Option.some.injEq] at ho
                    subst ho
                    rintro _ ⟨nw, rfl⟩
                    first | (go_simp; done) | (go_simp; with_reducible rfl)
                  try simp only [Act.put, List.setIfInBounds_toArray, List.set_cons_zero, List.set_cons_succ]
                  as_aux_lemma =>
                   refine h_take (i := 11) (d := (some 36)) (v := ?vh11) (by rfl) (by kernel_rfl) (by kernel_rfl) (by kernel_rfl) (fun _ _ _ h => h) (by rfl) ?hyh11 hHeld ?resth11
                   case hyh11 =>
                     intro o ho
                     simp only [List.getElem?_toArray, List.getElem?_cons_succ, List.getElem?_cons_zero, Option.some.injEq] at ho
                     subst ho
                     rintro _ ⟨nw, rfl⟩
                     first | (go_simp; done) | (go_simp; with_reducible rfl)
                   try simp only [Act.put, List.setIfInBounds_toArray, List.set_cons_zero, List.set_cons_succ]
                   as_aux_lemma =>
                    refine h_take (i := 12) (d := (some 37)) (v := ?vh12) (by rfl) (by kernel_rfl) (by kernel_rfl) (by kernel_rfl) (fun _ _ _ h => h) (by rfl) ?hyh12 hHeld ?resth12
                    case hyh12 =>
                      intro o ho
                      simp only [List.getElem?_toArray, List.getElem?_cons_succ, List.getElem?_cons_zero, Option.some.injEq] at ho
                      subst ho
                      rintro _ ⟨nw, rfl⟩
                      first | (go_simp; done) | (go_simp; with_reducible rfl)
                    try simp only [Act.put, List.setIfInBounds_toArray, List.set_cons_zero, List.set_cons_succ]
                    as_aux_lemma =>
                     refine h_take (i := 15) (d := (some 40)) (v := ?vh13) (by rfl) (by kernel_rfl) (by kernel_rfl) (by kernel_rfl) (fun _ _ _ h => h) (by rfl) ?hyh13 hHeld ?resth13
                     case hyh13 =>
                       intro o ho
                       simp only [List.getElem?_toArray, List.getElem?_cons_succ, List.getElem?_cons_zero, Option.some.injEq] at ho
                       subst ho
                       rintro _ ⟨nw, rfl⟩
                       first | (go_simp; done) | (go_simp; with_reducible rfl)
                     try simp only [Act.put, List.setIfInBounds_toArray, List.set_cons_zero, List.set_cons_succ]
                     as_aux_lemma =>
                      refine wpAnyH_ready (rs := [13]) (by kernel_rfl) (by simp) ?_
                      refine AllReadyH.cons rfl (fun K hK => ?_) AllReadyH.nil
                      go_simp
                      refine (C13 _).mono ?_
                      intro x wq h13
                      obtain ⟨a13, k13, rfl, hbq, o13⟩ := h13.use
                      have i13 := own_ints o13
                      have hb13 := hbq
                      have kf13 := fun w => fldB1 0 a13 ys.length k13 w
                      generalize ys.length = n13 at *
                      have hcur := below_after_of hcur hbq
                      clear hbq
                      clear h13 o13 hb13
                      refine hK.out _ _ ?_ (fun hHeld => ?_)
                      · exact after_mk hcur
                      clear hK K
                      try simp only [Act.put, List.setIfInBounds_toArray, List.set_cons_zero, List.set_cons_succ]
                      as_aux_lemma =>
                       refine h_take (i := 14) (d := (some 39)) (v := ?vh14) (by rfl) (by kernel_rfl) (by kernel_rfl) (by kernel_rfl) (fun _ _ _ h => h) (by rfl) ?hyh14 hHeld ?resth14
                       case hyh14 =>
                         intro o ho
                         simp only [List.getElem?_toArray, List.getElem?_cons_succ, List.getElem?_cons_zero, Option.some.injEq] at ho
                         subst ho
                         rintro _ ⟨nw, rfl⟩
                         first | (go_simp; done) | (go_simp; with_reducible rfl)
                       try simp only [Act.put, List.setIfInBounds_toArray, List.set_cons_zero, List.set_cons_succ]
                       as_aux_lemma =>
                        refine wpAnyH_ready (rs := [16]) (by kernel_rfl) (by simp) ?_
                        refine AllReadyH.cons rfl (fun K hK => ?_) AllReadyH.nil
                        go_simp
                        refine (T.c16 _ _ hcur i13).mono ?_
                        rintro x wq ⟨rfl, hwq⟩
                        rw [hwq]
                        clear hwq wq i13
                        refine hK.out _ _ ?_ (fun hHeld => ?_)
                        · exact after_mk hcur
                        clear hK K
                        try simp only [Act.put, List.setIfInBounds_toArray, List.set_cons_zero, List.set_cons_succ]
                        as_aux_lemma =>
                         refine h_take (i := 17) (d := (some 42)) (v := ?vh15) (by rfl) (by kernel_rfl) (by kernel_rfl) (by kernel_rfl) (fun _ _ _ h => h) (by rfl) ?hyh15 hHeld ?resth15
                         case hyh15 =>
                           intro o ho
                           simp only [List.getElem?_toArray, List.getElem?_cons_succ, List.getElem?_cons_zero, Option.some.injEq] at ho
                           subst ho
                           rintro _ ⟨nw, rfl⟩
                           first | (go_simp; done) | (go_simp; with_reducible rfl)
                         try simp only [Act.put, List.setIfInBounds_toArray, List.set_cons_zero, List.set_cons_succ]
                         as_aux_lemma =>
                          refine h_take (i := 18) (d := (some 43)) (v := ?vh16) (by rfl) (by kernel_rfl) (by kernel_rfl) (by kernel_rfl) (fun _ _ _ h => h) (by rfl) ?hyh16 hHeld ?resth16
                          case hyh16 =>
                            intro o ho
                            simp only [List.getElem?_toArray, List.getElem?_cons_succ, List.getElem?_cons_zero, Option.some.injEq] at ho
                            subst ho
                            rintro _ ⟨nw, rfl⟩
                            first | (go_simp; done) | (go_simp; with_reducible rfl)
                          try simp only [Act.put, List.setIfInBounds_toArray, List.set_cons_zero, List.set_cons_succ]
                          as_aux_lemma =>
                           refine h_take (i := 19) (d := (some 44)) (v := ?vh17) (by rfl) (by kernel_rfl) (by kernel_rfl) (by kernel_rfl) (fun _ _ _ h => h) (by rfl) ?hyh17 hHeld ?resth17
                           case hyh17 =>
                             intro o ho
                             simp only [List.getElem?_toArray, List.getElem?_cons_succ, List.getElem?_cons_zero, Option.some.injEq] at ho
                             subst ho
                             rintro _ ⟨nw, rfl⟩
                             first | (go_simp; done) | (go_simp; with_reducible rfl)
                           try simp only [Act.put, List.setIfInBounds_toArray, List.set_cons_zero, List.set_cons_succ]
                           as_aux_lemma =>
                            refine h_take (i := 20) (d := (some 45)) (v := ?vh18) (by rfl) (by kernel_rfl) (by kernel_rfl) (by kernel_rfl) (fun _ _ _ h => h) (by rfl) ?hyh18 hHeld ?resth18
                            case hyh18 =>
                              intro o ho
                              simp only [List.getElem?_toArray, List.getElem?_cons_succ, List.getElem?_cons_zero, Option.some.injEq] at ho
                              subst ho
                              rintro _ ⟨nw, rfl⟩
                              first | (go_simp; done) | (go_simp; with_reducible rfl)
                            try simp only [Act.put, List.setIfInBounds_toArray, List.set_cons_zero, List.set_cons_succ]
                            as_aux_lemma =>
                             refine h_take (i := 21) (d := (some 46)) (v := ?vh19) (by rfl) (by kernel_rfl) (by kernel_rfl) (by kernel_rfl) (fun _ _ _ h => h) (by rfl) ?hyh19 hHeld ?resth19
                             case hyh19 =>
                               intro o ho
                               simp only [List.getElem?_toArray, List.getElem?_cons_succ, List.getElem?_cons_zero, Option.some.injEq] at ho
                               subst ho
                               rintro _ ⟨nw, rfl⟩
                               first | (go_simp; done) | (go_simp; with_reducible rfl)
                             try simp only [Act.put, List.setIfInBounds_toArray, List.set_cons_zero, List.set_cons_succ]
                             as_aux_lemma =>
                              refine h_take (i := 22) (d := (some 47)) (v := ?vh20) (by rfl) (by kernel_rfl) (by kernel_rfl) (by kernel_rfl) (fun _ _ _ h => h) (by rfl) ?hyh20 hHeld ?resth20
                              case hyh20 =>
                                intro o ho
                                simp only [List.getElem?_toArray, List.getElem?_cons_succ, List.getElem?_cons_zero, Option.some.injEq] at ho
                                subst ho
                                rintro _ ⟨nw, rfl⟩
                                first | (go_simp; done) | (go_simp; with_reducible rfl)
                              try simp only [Act.put, List.setIfInBounds_toArray, List.set_cons_zero, List.set_cons_succ]
                              as_aux_lemma =>
                               refine h_take (i := 23) (d := (some 48)) (v := ?vh21) (by rfl) (by kernel_rfl) (by kernel_rfl) (by kernel_rfl) (fun _ _ _ h => h) (by rfl) ?hyh21 hHeld ?resth21
                               case hyh21 =>
                                 intro o ho
                                 simp only [List.getElem?_toArray, List.getElem?_cons_succ, List.getElem?_cons_zero, Option.some.injEq] at ho
                                 subst ho
                                 rintro _ ⟨nw, rfl⟩
                                 first | (go_simp; done) | (go_simp; with_reducible rfl)
                               try simp only [Act.put, List.setIfInBounds_toArray, List.set_cons_zero, List.set_cons_succ]
                               as_aux_lemma =>
                                refine wpAnyH_ready (rs := [24]) (by kernel_rfl) (by simp) ?_
                                refine AllReadyH.cons rfl (fun K hK => ?_) AllReadyH.nil
                                go_simp
                                refine (C24 _).mono ?_
                                intro x wq h24
                                obtain ⟨a24, k24, rfl, hbq, -⟩ := h24.use
                                have kf24 := fun w => fldB0 0 a24 hl.length k24 w
                                generalize hl.length = n24 at *
                                have hcur := below_after_of hcur hbq
                                clear hbq
                                clear h24
                                refine hK.out _ _ ?_ (fun hHeld => ?_)
                                · exact after_mk hcur
                                clear hK K
                                try simp only [Act.put, List.setIfInBounds_toArray, List.set_cons_zero, List.set_cons_succ]
                                as_aux_lemma =>
                                 refine h_take (i := 25) (d := (some 50)) (v := ?vh22) (by rfl) (by kernel_rfl) (by kernel_rfl) (by kernel_rfl) (fun _ _ _ h => h) (by rfl) ?hyh22 hHeld ?resth22
                                 case hyh22 =>
                                   intro o ho
                                   simp only [List.getElem?_toArray, List.getElem?_cons_succ, List.getElem?_cons_zero, Option.some.injEq] at ho
                                   subst ho
                                   rintro _ ⟨nw, rfl⟩
                                   first | (go_simp; done) | (go_simp; with_reducible rfl)
                                 try simp only [Act.put, List.setIfInBounds_toArray, List.set_cons_zero, List.set_cons_succ]
                                 as_aux_lemma =>
                                  refine h_take (i := 26) (d := (some 51)) (v := ?vh23) (by rfl) (by kernel_rfl) (by kernel_rfl) (by kernel_rfl) (fun _ _ _ h => h) (by rfl) ?hyh23 hHeld ?resth23
                                  case hyh23 =>
                                    intro o ho
                                    simp only [List.getElem?_toArray, List.getElem?_cons_succ, List.getElem?_cons_zero, Option.some.injEq] at ho
                                    subst ho
                                    rintro _ ⟨nw, rfl⟩
                                    first | (go_simp; done) | (go_simp; with_reducible rfl)
                                  try simp only [Act.put, List.setIfInBounds_toArray, List.set_cons_zero, List.set_cons_succ]
                                  as_aux_lemma =>
                                   refine h_take (i := 27) (d := (some 52)) (v := ?vh24) (by rfl) (by kernel_rfl) (by kernel_rfl) (by kernel_rfl) (fun _ _ _ h => h) (by rfl) ?hyh24 hHeld ?resth24
                                   case hyh24 =>
                                     intro o ho
                                     simp only [List.getElem?_toArray, List.getElem?_cons_succ, List.getElem?_cons_zero, Option.some.injEq] at ho
                                     subst ho
                                     rintro _ ⟨nw, rfl⟩
                                     first | (go_simp; done) | (go_simp; with_reducible rfl)
                                   try simp only [Act.put, List.setIfInBounds_toArray, List.set_cons_zero, List.set_cons_succ]
                                   as_aux_lemma =>
                                    refine h_take (i := 28) (d := (some 53)) (v := ?vh25) (by rfl) (by kernel_rfl) (by kernel_rfl) (by kernel_rfl) (fun _ _ _ h => h) (by rfl) ?hyh25 hHeld ?resth25
                                    case hyh25 =>
                                      intro o ho
                                      simp only [List.getElem?_toArray, List.getElem?_cons_succ, List.getElem?_cons_zero, Option.some.injEq] at ho
                                      subst ho
                                      rintro _ ⟨nw, rfl⟩
                                      first | (go_simp; done) | (go_simp; with_reducible rfl)
                                    try simp only [Act.put, List.setIfInBounds_toArray, List.set_cons_zero, List.set_cons_succ]
                                    as_aux_lemma =>
                                     refine h_take (i := 29) (d := (some 54)) (v := ?vh26) (by rfl) (by kernel_rfl) (by kernel_rfl) (by kernel_rfl) (fun _ _ _ h => h) (by rfl) ?hyh26 hHeld ?resth26
                                     case hyh26 =>
                                       intro o ho
                                       simp only [List.getElem?_toArray, List.getElem?_cons_succ, List.getElem?_cons_zero, Option.some.injEq] at ho
                                       subst ho
                                       rintro _ ⟨nw, rfl⟩
                                       first | (go_simp; done) | (go_simp; with_reducible rfl)
                                     try simp only [Act.put, List.setIfInBounds_toArray, List.set_cons_zero, List.set_cons_succ]
                                     as_aux_lemma =>
                                      refine h_take (i := 30) (d := (some 55)) (v := ?vh27) (by rfl) (by kernel_rfl) (by kernel_rfl) (by kernel_rfl) (fun _ _ _ h => h) (by rfl) ?hyh27 hHeld ?resth27
                                      case hyh27 =>
                                        intro o ho
                                        simp only [List.getElem?_toArray, List.getElem?_cons_succ, List.getElem?_cons_zero, Option.some.injEq] at ho
                                        subst ho
                                        rintro _ ⟨nw, rfl⟩
                                        first | (go_simp; done) | (go_simp; with_reducible rfl)
                                      try simp only [Act.put, List.setIfInBounds_toArray, List.set_cons_zero, List.set_cons_succ]
                                      as_aux_lemma =>
                                       refine h_take (i := 31) (d := (some 56)) (v := ?vh28) (by rfl) (by kernel_rfl) (by kernel_rfl) (by kernel_rfl) (fun _ _ _ h => h) (by rfl) ?hyh28 hHeld ?resth28
                                       case hyh28 =>
                                         intro o ho
                                         simp only [List.getElem?_toArray, List.getElem?_cons_succ, List.getElem?_cons_zero, Option.some.injEq] at ho
                                         subst ho
                                         rintro _ ⟨nw, rfl⟩
                                         first | (go_simp; done) | (go_simp; with_reducible rfl)
                                       try simp only [Act.put, List.setIfInBounds_toArray, List.set_cons_zero, List.set_cons_succ]
                                       as_aux_lemma =>
                                        refine wpAnyH_ready (rs := [32]) (by kernel_rfl) (by simp) ?_
                                        refine AllReadyH.cons rfl (fun K hK => ?_) AllReadyH.nil
                                        go_simp
                                        refine (C32 _).mono ?_
                                        rintro x wq ⟨rfl, hbq⟩
                                        have hcur := below_after_of hcur hbq
                                        clear hbq
                                        refine hK.out _ _ ?_ (fun hHeld => ?_)
                                        · exact after_mk hcur
                                        clear hK K
                                        try simp only [Act.put, List.setIfInBounds_toArray, List.set_cons_zero, List.set_cons_succ]
                                        as_aux_lemma =>
                                         refine h_take (i := 33) (d := (some 58)) (v := ?vh29) (by rfl) (by kernel_rfl) (by kernel_rfl) (by kernel_rfl) (fun _ _ _ h => h) (by rfl) ?hyh29 hHeld ?resth29
                                         case hyh29 =>
                                           intro o ho
                                           simp only [List.getElem?_toArray, List.getElem?_cons_succ, List.getElem?_cons_zero, Option.some.injEq] at ho
                                           subst ho
                                           rintro _ ⟨nw, rfl⟩
                                           first | (go_simp; done) | (go_simp; with_reducible rfl)
                                         try simp only [Act.put, List.setIfInBounds_toArray, List.set_cons_zero, List.set_cons_succ]
                                         as_aux_lemma =>
                                          refine h_take (i := 34) (d := (some 59)) (v := ?vh30) (by rfl) (by kernel_rfl) (by kernel_rfl) (by kernel_rfl) (fun _ _ _ h => h) (by rfl) ?hyh30 hHeld ?resth30
                                          case hyh30 =>
                                            intro o ho
                                            simp only [List.getElem?_toArray, List.getElem?_cons_succ, List.getElem?_cons_zero, Option.some.injEq] at ho
                                            subst ho
                                            rintro _ ⟨nw, rfl⟩
                                            first | (go_simp; done) | (go_simp; with_reducible rfl)
                                          try simp only [Act.put, List.setIfInBounds_toArray, List.set_cons_zero, List.set_cons_succ]
                                          as_aux_lemma =>
                                           refine h_take (i := 35) (d := (some 60)) (v := ?vh31) (by rfl) (by kernel_rfl) (by kernel_rfl) (by kernel_rfl) (fun _ _ _ h => h) (by rfl) ?hyh31 hHeld ?resth31
                                           case hyh31 =>
                                             intro o ho
                                             simp only [List.getElem?_toArray, List.getElem?_cons_succ, List.getElem?_cons_zero, Option.some.injEq] at ho
                                             subst ho
                                             rintro _ ⟨nw, rfl⟩
                                             first | (go_simp; done) | (go_simp; with_reducible rfl)
                                           try simp only [Act.put, List.setIfInBounds_toArray, List.set_cons_zero, List.set_cons_succ]
                                           as_aux_lemma =>
                                            refine h_take (i := 36) (d := (some 61)) (v := ?vh32) (by rfl) (by kernel_rfl) (by kernel_rfl) (by kernel_rfl) (fun _ _ _ h => h) (by rfl) ?hyh32 hHeld ?resth32
                                            case hyh32 =>
                                              intro o ho
                                              simp only [List.getElem?_toArray, List.getElem?_cons_succ, List.getElem?_cons_zero, Option.some.injEq] at ho
                                              subst ho
                                              rintro _ ⟨nw, rfl⟩
                                              first | (go_simp; done) | (go_simp; with_reducible rfl)
                                            try simp only [Act.put, List.setIfInBounds_toArray, List.set_cons_zero, List.set_cons_succ]
                                            as_aux_lemma =>
                                             refine h_take (i := 37) (d := (some 62)) (v := ?vh33) (by rfl) (by kernel_rfl) (by kernel_rfl) (by kernel_rfl) (fun _ _ _ h => h) (by rfl) ?hyh33 hHeld ?resth33
                                             case hyh33 =>
                                               intro o ho
                                               simp only [List.getElem?_toArray, List.getElem?_cons_succ, List.getElem?_cons_zero, Option.some.injEq] at ho
                                               subst ho
                                               rintro _ ⟨nw, rfl⟩
                                               first | (go_simp; done) | (go_simp; with_reducible rfl)
                                             try simp only [Act.put, List.setIfInBounds_toArray, List.set_cons_zero, List.set_cons_succ]
                                             as_aux_lemma =>
                                              refine h_take (i := 38) (d := (some 63)) (v := ?vh34) (by rfl) (by kernel_rfl) (by kernel_rfl) (by kernel_rfl) (fun _ _ _ h => h) (by rfl) ?hyh34 hHeld ?resth34
                                              case hyh34 =>
                                                intro o ho
                                                simp only [List.getElem?_toArray, List.getElem?_cons_succ, List.getElem?_cons_zero, Option.some.injEq] at ho
                                                subst ho
                                                rintro _ ⟨nw, rfl⟩
                                                first | (go_simp; done) | (go_simp; with_reducible rfl)
                                              try simp only [Act.put, List.setIfInBounds_toArray, List.set_cons_zero, List.set_cons_succ]
                                              as_aux_lemma =>
                                               refine h_take (i := 39) (d := (some 64)) (v := ?vh35) (by rfl) (by kernel_rfl) (by kernel_rfl) (by kernel_rfl) (fun _ _ _ h => h) (by rfl) ?hyh35 hHeld ?resth35
                                               case hyh35 =>
                                                 intro o ho
                                                 simp only [List.getElem?_toArray, List.getElem?_cons_succ, List.getElem?_cons_zero, Option.some.injEq] at ho
                                                 subst ho
                                                 rintro _ ⟨nw, rfl⟩
                                                 first | (go_simp; done) | (go_simp; with_reducible rfl)
                                               try simp only [Act.put, List.setIfInBounds_toArray, List.set_cons_zero, List.set_cons_succ]
                                               as_aux_lemma =>
                                                refine h_take (i := 40) (d := (some 65)) (v := ?vh36) (by rfl) (by kernel_rfl) (by kernel_rfl) (by kernel_rfl) (fun _ _ _ h => h) (by rfl) ?hyh36 hHeld ?resth36
                                                case hyh36 =>
                                                  intro o ho
                                                  simp only [List.getElem?_toArray, List.getElem?_cons_succ, List.getElem?_cons_zero, Option.some.injEq] at ho
                                                  subst ho
                                                  rintro _ ⟨nw, rfl⟩
                                                  first | (go_simp; done) | (go_simp; with_reducible rfl)
                                                try simp only [Act.put, List.setIfInBounds_toArray, List.set_cons_zero, List.set_cons_succ]
                                                as_aux_lemma =>
                                                 refine h_take (i := 41) (d := (some 66)) (v := ?vh37) (by rfl) (by kernel_rfl) (by kernel_rfl) (by kernel_rfl) (fun _ _ _ h => h) (by rfl) ?hyh37 hHeld ?resth37
                                                 case hyh37 =>
                                                   intro o ho
                                                   simp only [List.getElem?_toArray, List.getElem?_cons_succ, List.getElem?_cons_zero, Option.some.injEq] at ho
                                                   subst ho
                                                   rintro _ ⟨nw, rfl⟩
                                                   first | (go_simp; done) | (go_simp; with_reducible rfl)
                                                 try simp only [Act.put, List.setIfInBounds_toArray, List.set_cons_zero, List.set_cons_succ]
                                                 as_aux_lemma =>
                                                  refine h_take (i := 44) (d := (some 69)) (v := ?vh38) (by rfl) (by kernel_rfl) (by kernel_rfl) (by kernel_rfl) (fun _ _ _ h => h) (by rfl) ?hyh38 hHeld ?resth38
                                                  case hyh38 =>
                                                    intro o ho
                                                    simp only [List.getElem?_toArray, List.getElem?_cons_succ, List.getElem?_cons_zero, Option.some.injEq] at ho
                                                    subst ho
                                                    rintro _ ⟨nw, rfl⟩
                                                    first | (go_simp; done) | (go_simp; with_reducible rfl)
                                                  try simp only [Act.put, List.setIfInBounds_toArray, List.set_cons_zero, List.set_cons_succ]
                                                  as_aux_lemma =>
                                                   refine wpAnyH_ready (rs := [42]) (by kernel_rfl) (by simp) ?_
                                                   refine AllReadyH.cons rfl (fun K hK => ?_) AllReadyH.nil
                                                   go_simp
                                                   refine (C42 _ hcur).mono ?_
                                                   rintro x wq ⟨rfl, hbq⟩
                                                   have hcur := below_after_of hcur hbq
                                                   clear hbq
                                                   refine hK.out _ _ ?_ (fun hHeld => ?_)
                                                   · exact after_mk hcur
                                                   clear hK K
                                                   try simp only [Act.put, List.setIfInBounds_toArray, List.set_cons_zero, List.set_cons_succ]
                                                   as_aux_lemma =>
                                                    refine h_take (i := 43) (d := (some 68)) (v := ?vh39) (by rfl) (by kernel_rfl) (by kernel_rfl) (by kernel_rfl) (fun _ _ _ h => h) (by rfl) ?hyh39 hHeld ?resth39
                                                    case hyh39 =>
                                                      intro o ho
                                                      simp only [List.getElem?_toArray, List.getElem?_cons_succ, List.getElem?_cons_zero, Option.some.injEq] at ho
                                                      subst ho
                                                      rintro _ ⟨nw, rfl⟩
                                                      first | (go_simp; done) | (go_simp; with_reducible rfl)
                                                    try simp only [Act.put, List.setIfInBounds_toArray, List.set_cons_zero, List.set_cons_succ]
                                                    as_aux_lemma =>
                                                     refine h_take (i := 45) (d := (some 70)) (v := ?vh40) (by rfl) (by kernel_rfl) (by kernel_rfl) (by kernel_rfl) (fun _ _ _ h => h) (by rfl) ?hyh40 hHeld ?resth40
                                                     case hyh40 =>
                                                       intro o ho
                                                       simp only [List.getElem?_toArray, List.getElem?_cons_succ, List.getElem?_cons_zero, Option.some.injEq] at ho
                                                       subst ho
                                                       rintro _ ⟨nw, rfl⟩
                                                       first | (go_simp; done) | (go_simp; with_reducible rfl)
                                                     try simp only [Act.put, List.setIfInBounds_toArray, List.set_cons_zero, List.set_cons_succ]
                                                     as_aux_lemma =>
                                                      refine h_take (i := 46) (d := (some 71)) (v := ?vh41) (by rfl) (by kernel_rfl) (by kernel_rfl) (by kernel_rfl) (fun _ _ _ h => h) (by rfl) ?hyh41 hHeld ?resth41
                                                      case hyh41 =>
                                                        intro o ho
                                                        simp only [List.getElem?_toArray, List.getElem?_cons_succ, List.getElem?_cons_zero, Option.some.injEq] at ho
                                                        subst ho
                                                        rintro _ ⟨nw, rfl⟩
                                                        first | (go_simp; done) | (go_simp; with_reducible rfl)
                                                      try simp only [Act.put, List.setIfInBounds_toArray, List.set_cons_zero, List.set_cons_succ]
                                                      as_aux_lemma =>
                                                       refine h_take (i := 47) (d := (some 72)) (v := ?vh42) (by rfl) (by kernel_rfl) (by kernel_rfl) (by kernel_rfl) (fun _ _ _ h => h) (by rfl) ?hyh42 hHeld ?resth42
                                                       case hyh42 =>
                                                         intro o ho
                                                         simp only [List.getElem?_toArray, List.getElem?_cons_succ, List.getElem?_cons_zero, Option.some.injEq] at ho
                                                         subst ho
                                                         rintro _ ⟨nw, rfl⟩
                                                         first | (go_simp; done) | (go_simp; with_reducible rfl)
                                                       try simp only [Act.put, List.setIfInBounds_toArray, List.set_cons_zero, List.set_cons_succ]
                                                       as_aux_lemma =>
                                                        refine h_take (i := 48) (d := (some 73)) (v := ?vh43) (by rfl) (by kernel_rfl) (by kernel_rfl) (by kernel_rfl) (fun _ _ _ h => h) (by rfl) ?hyh43 hHeld ?resth43
                                                        case hyh43 =>
                                                          intro o ho
                                                          simp only [List.getElem?_toArray, List.getElem?_cons_succ, List.getElem?_cons_zero, Option.some.injEq] at ho
                                                          subst ho
                                                          rintro _ ⟨nw, rfl⟩
                                                          first | (go_simp; done) | (go_simp; with_reducible rfl)
                                                        try simp only [Act.put, List.setIfInBounds_toArray, List.set_cons_zero, List.set_cons_succ]
                                                        as_aux_lemma =>
                                                         refine wpAnyH_ready (rs := [49]) (by kernel_rfl) (by simp) ?_
                                                         refine AllReadyH.cons rfl (fun K hK => ?_) AllReadyH.nil
                                                         go_simp
                                                         refine (C42 _ hcur).mono ?_
                                                         rintro x wq ⟨rfl, hbq⟩
                                                         have hcur := below_after_of hcur hbq
                                                         clear hbq
                                                         refine hK.out _ _ ?_ (fun hHeld => ?_)
                                                         · exact after_mk hcur
                                                         clear hK K
                                                         try simp only [Act.put, List.setIfInBounds_toArray, List.set_cons_zero, List.set_cons_succ]
                                                         as_aux_lemma =>
                                                          refine h_take (i := 50) (d := (some 75)) (v := ?vh44) (by rfl) (by kernel_rfl) (by kernel_rfl) (by kernel_rfl) (fun _ _ _ h => h) (by rfl) ?hyh44 hHeld ?resth44
                                                          case hyh44 =>
                                                            intro o ho
                                                            simp only [List.getElem?_toArray, List.getElem?_cons_succ, List.getElem?_cons_zero, Option.some.injEq] at ho
                                                            subst ho
                                                            rintro _ ⟨nw, rfl⟩
                                                            first | (go_simp; done) | (go_simp; with_reducible rfl)
                                                          try simp only [Act.put, List.setIfInBounds_toArray, List.set_cons_zero, List.set_cons_succ]
                                                          as_aux_lemma =>
                                                           refine h_take (i := 51) (d := (some 76)) (v := ?vh45) (by rfl) (by kernel_rfl) (by kernel_rfl) (by kernel_rfl) (fun _ _ _ h => h) (by rfl) ?hyh45 hHeld ?resth45
                                                           case hyh45 =>
                                                             intro o ho
                                                             simp only [List.getElem?_toArray, List.getElem?_cons_succ, List.getElem?_cons_zero, Option.some.injEq] at ho
                                                             subst ho
                                                             rintro _ ⟨nw, rfl⟩
                                                             first | (go_simp; done) | (go_simp; with_reducible rfl)
                                                           try simp only [Act.put, List.setIfInBounds_toArray, List.set_cons_zero, List.set_cons_succ]
                                                           as_aux_lemma =>
                                                            refine h_take (i := 52) (d := (some 77)) (v := ?vh46) (by rfl) (by kernel_rfl) (by kernel_rfl) (by kernel_rfl) (fun _ _ _ h => h) (by rfl) ?hyh46 hHeld ?resth46
                                                            case hyh46 =>
                                                              intro o ho
                                                              simp only [List.getElem?_toArray, List.getElem?_cons_succ, List.getElem?_cons_zero, Option.some.injEq] at ho
                                                              subst ho
                                                              rintro _ ⟨nw, rfl⟩
                                                              first | (go_simp; done) | (go_simp; with_reducible rfl)
                                                            try simp only [Act.put, List.setIfInBounds_toArray, List.set_cons_zero, List.set_cons_succ]
                                                            as_aux_lemma =>
                                                             refine h_take (i := 53) (d := (some 78)) (v := ?vh47) (by rfl) (by kernel_rfl) (by kernel_rfl) (by kernel_rfl) (fun _ _ _ h => h) (by rfl) ?hyh47 hHeld ?resth47
                                                             case hyh47 =>
                                                               intro o ho
                                                               simp only [List.getElem?_toArray, List.getElem?_cons_succ, List.getElem?_cons_zero, Option.some.injEq] at ho
                                                               subst ho
                                                               rintro _ ⟨nw, rfl⟩
                                                               first | (go_simp; done) | (go_simp; with_reducible rfl)
                                                             try simp only [Act.put, List.setIfInBounds_toArray, List.set_cons_zero, List.set_cons_succ]
                                                             as_aux_lemma =>
                                                              refine h_take (i := 54) (d := (some 79)) (v := ?vh48) (by rfl) (by kernel_rfl) (by kernel_rfl) (by kernel_rfl) (fun _ _ _ h => h) (by rfl) ?hyh48 hHeld ?resth48
                                                              case hyh48 =>
                                                                intro o ho
                                                                simp only [List.getElem?_toArray, List.getElem?_cons_succ, List.getElem?_cons_zero, Option.some.injEq] at ho
                                                                subst ho
                                                                rintro _ ⟨nw, rfl⟩
                                                                first | (go_simp; done) | (go_simp; with_reducible rfl)
                                                              try simp only [Act.put, List.setIfInBounds_toArray, List.set_cons_zero, List.set_cons_succ]
                                                              as_aux_lemma =>
                                                               refine h_take (i := 57) (d := (some 82)) (v := ?vh49) (by rfl) (by kernel_rfl) (by kernel_rfl) (by kernel_rfl) (fun _ _ _ h => h) (by rfl) ?hyh49 hHeld ?resth49
                                                               case hyh49 =>
                                                                 intro o ho
                                                                 simp only [List.getElem?_toArray, List.getElem?_cons_succ, List.getElem?_cons_zero, Option.some.injEq] at ho
                                                                 subst ho
                                                                 rintro _ ⟨nw, rfl⟩
                                                                 first | (go_simp; done) | (go_simp; with_reducible rfl)
                                                               try simp only [Act.put, List.setIfInBounds_toArray, List.set_cons_zero, List.set_cons_succ]
                                                               as_aux_lemma =>
                                                                refine h_take (i := 58) (d := (some 83)) (v := ?vh50) (by rfl) (by kernel_rfl) (by kernel_rfl) (by kernel_rfl) (fun _ _ _ h => h) (by rfl) ?hyh50 hHeld ?resth50
                                                                case hyh50 =>
                                                                  intro o ho
                                                                  simp only [List.getElem?_toArray, List.getElem?_cons_succ, List.getElem?_cons_zero, Option.some.injEq] at ho
                                                                  subst ho
                                                                  rintro _ ⟨nw, rfl⟩
                                                                  first | (go_simp; done) | (go_simp; with_reducible rfl)
                                                                try simp only [Act.put, List.setIfInBounds_toArray, List.set_cons_zero, List.set_cons_succ]
                                                                as_aux_lemma =>
                                                                 refine wpAnyH_ready (rs := [55]) (by kernel_rfl) (by simp) ?_
                                                                 refine AllReadyH.cons rfl (fun K hK => ?_) AllReadyH.nil
                                                                 go_simp
                                                                 refine (C55 _).mono ?_
                                                                 rintro x wq ⟨rfl, hbq⟩
                                                                 have hcur := below_after_of hcur hbq
                                                                 clear hbq
                                                                 refine hK.out _ _ ?_ (fun hHeld => ?_)
                                                                 · exact after_mk hcur
                                                                 clear hK K
                                                                 try simp only [Act.put, List.setIfInBounds_toArray, List.set_cons_zero, List.set_cons_succ]
                                                                 as_aux_lemma =>
                                                                  refine h_take (i := 56) (d := (some 81)) (v := ?vh51) (by rfl) (by kernel_rfl) (by kernel_rfl) (by kernel_rfl) (fun _ _ _ h => h) (by rfl) ?hyh51 hHeld ?resth51
                                                                  case hyh51 =>
                                                                    intro o ho
                                                                    simp only [List.getElem?_toArray, List.getElem?_cons_succ, List.getElem?_cons_zero, Option.some.injEq] at ho
                                                                    subst ho
                                                                    rintro _ ⟨nw, rfl⟩
                                                                    first | (go_simp; done) | (go_simp; with_reducible rfl)
                                                                  try simp only [Act.put, List.setIfInBounds_toArray, List.set_cons_zero, List.set_cons_succ]
                                                                  as_aux_lemma =>
                                                                   refine wpAnyH_ready (rs := [59]) (by kernel_rfl) (by simp) ?_
                                                                   refine AllReadyH.cons rfl (fun K hK => ?_) AllReadyH.nil
                                                                   go_simp
                                                                   refine (C59 _ hcur).mono ?_
                                                                   rintro x wq ⟨rfl, hbq⟩
                                                                   have hcur := below_after_of hcur hbq
                                                                   clear hbq
                                                                   refine hK.out _ _ ?_ (fun hHeld => ?_)
                                                                   · exact after_mk hcur
                                                                   clear hK K
                                                                   try simp only [Act.put, List.setIfInBounds_toArray, List.set_cons_zero, List.set_cons_succ]
                                                                   as_aux_lemma =>
                                                                    refine h_take (i := 60) (d := (some 85)) (v := ?vh52) (by rfl) (by kernel_rfl) (by kernel_rfl) (by kernel_rfl) (fun _ _ _ h => h) (by rfl) ?hyh52 hHeld ?resth52
                                                                    case hyh52 =>
                                                                      intro o ho
                                                                      simp only [List.getElem?_toArray, List.getElem?_cons_succ, List.getElem?_cons_zero, Option.some.injEq] at ho
                                                                      subst ho
                                                                      rintro _ ⟨nw, rfl⟩
                                                                      first | (go_simp; done) | (go_simp; with_reducible rfl)
                                                                    try simp only [Act.put, List.setIfInBounds_toArray, List.set_cons_zero, List.set_cons_succ]
                                                                    as_aux_lemma =>
                                                                     refine h_take (i := 61) (d := (some 86)) (v := ?vh53) (by rfl) (by kernel_rfl) (by kernel_rfl) (by kernel_rfl) (fun _ _ _ h => h) (by rfl) ?hyh53 hHeld ?resth53
                                                                     case hyh53 =>
                                                                       intro o ho
                                                                       simp only [List.getElem?_toArray, List.getElem?_cons_succ, List.getElem?_cons_zero, Option.some.injEq] at ho
                                                                       subst ho
                                                                       rintro _ ⟨nw, rfl⟩
                                                                       first | (go_simp; done) | (go_simp; with_reducible rfl)
                                                                     try simp only [Act.put, List.setIfInBounds_toArray, List.set_cons_zero, List.set_cons_succ]
                                                                     as_aux_lemma =>
                                                                      refine h_take (i := 62) (d := (some 87)) (v := ?vh54) (by rfl) (by kernel_rfl) (by kernel_rfl) (by kernel_rfl) (fun _ _ _ h => h) (by rfl) ?hyh54 hHeld ?resth54
                                                                      case hyh54 =>
                                                                        intro o ho
                                                                        simp only [List.getElem?_toArray, List.getElem?_cons_succ, List.getElem?_cons_zero, Option.some.injEq] at ho
                                                                        subst ho
                                                                        rintro _ ⟨nw, rfl⟩
                                                                        first | (go_simp; done) | (go_simp; with_reducible rfl)
                                                                      try simp only [Act.put, List.setIfInBounds_toArray, List.set_cons_zero, List.set_cons_succ]
                                                                      as_aux_lemma =>
                                                                       refine h_take (i := 63) (d := (some 88)) (v := ?vh55) (by rfl) (by kernel_rfl) (by kernel_rfl) (by kernel_rfl) (fun _ _ _ h => h) (by rfl) ?hyh55 hHeld ?resth55
                                                                       case hyh55 =>
                                                                         intro o ho
                                                                         simp only [List.getElem?_toArray, List.getElem?_cons_succ, List.getElem?_cons_zero, Option.some.injEq] at ho
                                                                         subst ho
                                                                         rintro _ ⟨nw, rfl⟩
                                                                         first | (go_simp; done) | (go_simp; with_reducible rfl)
                                                                       try simp only [Act.put, List.setIfInBounds_toArray, List.set_cons_zero, List.set_cons_succ]
                                                                       as_aux_lemma =>
                                                                        refine h_take (i := 64) (d := (some 89)) (v := ?vh56) (by rfl) (by kernel_rfl) (by kernel_rfl) (by kernel_rfl) (fun _ _ _ h => h) (by rfl) ?hyh56 hHeld ?resth56
                                                                        case hyh56 =>
                                                                          intro o ho
                                                                          simp only [List.getElem?_toArray, List.getElem?_cons_succ, List.getElem?_cons_zero, Option.some.injEq] at ho
                                                                          subst ho
                                                                          rintro _ ⟨nw, rfl⟩
                                                                          first | (go_simp; done) | (go_simp; with_reducible rfl)
                                                                        try simp only [Act.put, List.setIfInBounds_toArray, List.set_cons_zero, List.set_cons_succ]
                                                                        as_aux_lemma =>
                                                                         refine wpAnyH_done (by kernel_rfl) ?_ _
                                                                         go_wp2
                                                                         go_meet
                                                                         case rel => exact ⟨rfl, hcur⟩
      · subst hr0
        have C13 := T.c13 rfl
        unfold hdV at C13
        have hpe : (pc == 0) = false := by simpa using hp0
        clear hp0
        refine wp_region_held_drew (S := fun w' => ∃ n : After W4, w' = n.w) (by kernel_rfl) (after_mk (Below.refl _ _).drew) (fun hHeld => ?_)
        have hcur : Below W4.heap.size W4 W4.drew := (Below.refl _ _).drew
        refine h_take (i := 0) (d := (some 25)) (v := ?vh57) (by rfl) (by kernel_rfl) (by kernel_rfl) (by kernel_rfl) (fun _ _ _ h => h) (by rfl) ?hyh57 hHeld ?resth57
        case hyh57 =>
          intro o ho
          simp only [List.getElem?_toArray, List.getElem?_cons_zero, Option.some.injEq] at ho
          subst ho
          rintro _ ⟨nw, rfl⟩
          first | (go_simp; done) | (go_simp; with_reducible rfl)
        try simp only [Act.put, List.setIfInBounds_toArray, List.set_cons_zero, List.set_cons_succ]
        as_aux_lemma =>
         refine h_take (i := 1) (d := (some 26)) (v := ?vh58) (by rfl) (by kernel_rfl) (by kernel_rfl) (by kernel_rfl) (fun _ _ _ h => h) (by rfl) ?hyh58 hHeld ?resth58
         case hyh58 =>
           intro o ho
           simp only [List.getElem?_toArray, List.getElem?_cons_succ, List.getElem?_cons_zero, Option.some.injEq] at ho
           subst ho
           rintro _ ⟨nw, rfl⟩
           first | (go_simp; done) | (go_simp; with_reducible rfl)
         try simp only [Act.put, List.setIfInBounds_toArray, List.set_cons_zero, List.set_cons_succ]
         as_aux_lemma =>
          refine h_take (i := 2) (d := (some 27)) (v := ?vh59) (by rfl) (by kernel_rfl) (by kernel_rfl) (by kernel_rfl) (fun _ _ _ h => h) (by rfl) ?hyh59 hHeld ?resth59
          case hyh59 =>
            intro o ho
            simp only [List.getElem?_toArray, List.getElem?_cons_succ, List.getElem?_cons_zero, Option.some.injEq] at ho
            subst ho
            rintro _ ⟨nw, rfl⟩
            first | (go_simp; done) | (go_simp; with_reducible rfl)
          try simp only [Act.put, List.setIfInBounds_toArray, List.set_cons_zero, List.set_cons_succ]
          as_aux_lemma =>
           refine wpAnyH_ready (rs := [3]) (by kernel_rfl) (by simp) ?_
           refine AllReadyH.cons rfl (fun K hK => ?_) AllReadyH.nil
           go_simp
           refine (T.c3 _ hcur).mono ?_
           rintro x wq ⟨rfl, hbq⟩
           unfold hrV
           have hcur := below_after_of hcur hbq
           clear hbq
           refine hK.out _ _ ?_ (fun hHeld => ?_)
           · exact after_mk hcur
           clear hK K
           try simp only [Act.put, List.setIfInBounds_toArray, List.set_cons_zero, List.set_cons_succ]
           as_aux_lemma =>
            refine h_take (i := 4) (d := (some 29)) (v := ?vh60) (by rfl) (by kernel_rfl) (by kernel_rfl) (by kernel_rfl) (fun _ _ _ h => h) (by rfl) ?hyh60 hHeld ?resth60
            case hyh60 =>
              intro o ho
              simp only [List.getElem?_toArray, List.getElem?_cons_succ, List.getElem?_cons_zero, Option.some.injEq] at ho
              subst ho
              rintro _ ⟨nw, rfl⟩
              first | (go_simp; done) | (go_simp; with_reducible rfl)
            try simp only [Act.put, List.setIfInBounds_toArray, List.set_cons_zero, List.set_cons_succ]
            as_aux_lemma =>
             refine h_take (i := 5) (d := (some 30)) (v := ?vh61) (by rfl) (by kernel_rfl) (by kernel_rfl) (by kernel_rfl) (fun _ _ _ h => h) (by rfl) ?hyh61 hHeld ?resth61
             case hyh61 =>
               intro o ho
               simp only [List.getElem?_toArray, List.getElem?_cons_succ, List.getElem?_cons_zero, Option.some.injEq] at ho
               subst ho
               rintro _ ⟨nw, rfl⟩
               first | (go_simp; done) | (go_simp; with_reducible rfl)
             try simp only [Act.put, List.setIfInBounds_toArray, List.set_cons_zero, List.set_cons_succ]
             as_aux_lemma =>
              refine h_take (i := 6) (d := (some 31)) (v := ?vh62) (by rfl) (by kernel_rfl) (by kernel_rfl) (by kernel_rfl) (fun _ _ _ h => h) (by rfl) ?hyh62 hHeld ?resth62
              case hyh62 =>
                intro o ho
                simp only [List.getElem?_toArray, List.getElem?_cons_succ, List.getElem?_cons_zero, Option.some.injEq] at ho
                subst ho
                rintro _ ⟨nw, rfl⟩
                first | (go_simp; done) | (go_simp; with_reducible rfl)
              try simp only [Act.put, List.setIfInBounds_toArray, List.set_cons_zero, List.set_cons_succ]
              as_aux_lemma =>
               refine h_take (i := 7) (d := (some 32)) (v := ?vh63) (by rfl) (by kernel_rfl) (by kernel_rfl) (by kernel_rfl) (fun _ _ _ h => h) (by rfl) ?hyh63 hHeld ?resth63
               case hyh63 =>
                 intro o ho
                 simp only [List.getElem?_toArray, List.getElem?_cons_succ, List.getElem?_cons_zero, Option.some.injEq] at ho
                 subst ho
                 rintro _ ⟨nw, rfl⟩
                 first | (go_simp; done) | (go_simp; with_reducible rfl)
               try simp only [Act.put, List.setIfInBounds_toArray, List.set_cons_zero, List.set_cons_succ]
               as_aux_lemma =>
                refine h_take (i := 8) (d := (some 33)) (v := ?vh64) (by rfl) (by kernel_rfl) (by kernel_rfl) (by kernel_rfl) (fun _ _ _ h => h) (by rfl) ?hyh64 hHeld ?resth64
                case hyh64 =>
                  intro o ho
                  simp only [List.getElem?_toArray, List.getElem?_cons_succ, List.getElem?_cons_zero, Option.some.injEq] at ho
                  subst ho
                  rintro _ ⟨nw, rfl⟩
                  first | (go_simp; done) | (go_simp; with_reducible rfl)
                try simp only [Act.put, List.setIfInBounds_toArray, List.set_cons_zero, List.set_cons_succ]
                as_aux_lemma =>
                 refine h_take (i := 9) (d := (some 34)) (v := ?vh65) (by rfl) (by kernel_rfl) (by kernel_rfl) (by kernel_rfl) (fun _ _ _ h => h) (by rfl) ?hyh65 hHeld ?resth65
                 case hyh65 =>
                   intro o ho
                   simp only [List.getElem?_toArray, List.getElem?_cons_succ, List.getElem?_cons_zero, Option.some.injEq] at ho
                   subst ho
                   rintro _ ⟨nw, rfl⟩
                   first | (go_simp; done) | (go_simp; with_reducible rfl)
                 try simp only [Act.put, List.setIfInBounds_toArray, List.set_cons_zero, List.set_cons_succ]
                 as_aux_lemma =>
                  refine h_take (i := 10) (d := (some 35)) (v := ?vh66) (by rfl) (by kernel_rfl) (by kernel_rfl) (by kernel_rfl) (fun _ _ _ h => h) (by rfl) ?hyh66 hHeld ?resth66
                  case hyh66 =>
                    intro o ho
                    simp only [List.getElem?_toArray, List.getElem?_cons_succ, List.getElem?_cons_zero, Option.some.injEq] at ho
                    subst ho
                    rintro _ ⟨nw, rfl⟩
                    first | (go_simp; done) | (go_simp; with_reducible rfl)
                  try simp only [Act.put, List.setIfInBounds_toArray, List.set_cons_zero, List.set_cons_succ]
                  as_aux_lemma =>
                   refine h_take (i := 11) (d := (some 36)) (v := ?vh67) (by rfl) (by kernel_rfl) (by kernel_rfl) (by kernel_rfl) (fun _ _ _ h => h) (by rfl) ?hyh67 hHeld ?resth67
                   case hyh67 =>
                     intro o ho
                     simp only [List.getElem?_toArray, List.getElem?_cons_succ, List.getElem?_cons_zero, Option.some.injEq] at ho
                     subst ho
                     rintro _ ⟨nw, rfl⟩
                     first | (go_simp; done) | (go_simp; with_reducible rfl)
                   try simp only [Act.put, List.setIfInBounds_toArray, List.set_cons_zero, List.set_cons_succ]
                   as_aux_lemma =>
                    refine h_take (i := 12) (d := (some 37)) (v := ?vh68) (by rfl) (by kernel_rfl) (by kernel_rfl) (by kernel_rfl) (fun _ _ _ h => h) (by rfl) ?hyh68 hHeld ?resth68
                    case hyh68 =>
                      intro o ho
                      simp only [List.getElem?_toArray, List.getElem?_cons_succ, List.getElem?_cons_zero, Option.some.injEq] at ho
                      subst ho
                      rintro _ ⟨nw, rfl⟩
                      first | (go_simp; done) | (go_simp; with_reducible rfl)
                    try simp only [Act.put, List.setIfInBounds_toArray, List.set_cons_zero, List.set_cons_succ]
                    as_aux_lemma =>
                     refine h_take (i := 15) (d := (some 40)) (v := ?vh69) (by rfl) (by kernel_rfl) (by kernel_rfl) (by kernel_rfl) (fun _ _ _ h => h) (by rfl) ?hyh69 hHeld ?resth69
                     case hyh69 =>
                       intro o ho
                       simp only [List.getElem?_toArray, List.getElem?_cons_succ, List.getElem?_cons_zero, Option.some.injEq] at ho
                       subst ho
                       rintro _ ⟨nw, rfl⟩
                       first | (go_simp; done) | (go_simp; with_reducible rfl)
                     try simp only [Act.put, List.setIfInBounds_toArray, List.set_cons_zero, List.set_cons_succ]
                     as_aux_lemma =>
                      refine wpAnyH_ready (rs := [13]) (by kernel_rfl) (by simp) ?_
                      refine AllReadyH.cons rfl (fun K hK => ?_) AllReadyH.nil
                      go_simp
                      refine (C13 _).mono ?_
                      intro x wq h13
                      obtain ⟨a13, k13, rfl, hbq, o13⟩ := h13.use
                      have i13 := own_ints o13
                      have hb13 := hbq
                      have kf13 := fun w => fldB1 0 a13 ys.length k13 w
                      generalize ys.length = n13 at *
                      have hcur := below_after_of hcur hbq
                      clear hbq
                      clear h13 o13 hb13
                      refine hK.out _ _ ?_ (fun hHeld => ?_)
                      · exact after_mk hcur
                      clear hK K
                      try simp only [Act.put, List.setIfInBounds_toArray, List.set_cons_zero, List.set_cons_succ]
                      as_aux_lemma =>
                       refine h_take (i := 14) (d := (some 39)) (v := ?vh70) (by rfl) (by kernel_rfl) (by kernel_rfl) (by kernel_rfl) (fun _ _ _ h => h) (by rfl) ?hyh70 hHeld ?resth70
                       case hyh70 =>
                         intro o ho
                         simp only [List.getElem?_toArray, List.getElem?_cons_succ, List.getElem?_cons_zero, Option.some.injEq] at ho
                         subst ho
                         rintro _ ⟨nw, rfl⟩
                         first | (go_simp; done) | (go_simp; with_reducible rfl)
                       try simp only [Act.put, List.setIfInBounds_toArray, List.set_cons_zero, List.set_cons_succ]
                       as_aux_lemma =>
                        refine wpAnyH_ready (rs := [16]) (by kernel_rfl) (by simp) ?_
                        refine AllReadyH.cons rfl (fun K hK => ?_) AllReadyH.nil
                        go_simp
                        refine (T.c16 _ _ hcur i13).mono ?_
                        rintro x wq ⟨rfl, hwq⟩
                        rw [hwq]
                        clear hwq wq i13
                        refine hK.out _ _ ?_ (fun hHeld => ?_)
                        · exact after_mk hcur
                        clear hK K
                        try simp only [Act.put, List.setIfInBounds_toArray, List.set_cons_zero, List.set_cons_succ]
                        as_aux_lemma =>
                         refine h_take (i := 17) (d := (some 42)) (v := ?vh71) (by rfl) (by kernel_rfl) (by kernel_rfl) (by kernel_rfl) (fun _ _ _ h => h) (by rfl) ?hyh71 hHeld ?resth71
                         case hyh71 =>
                           intro o ho
                           simp only [List.getElem?_toArray, List.getElem?_cons_succ, List.getElem?_cons_zero, Option.some.injEq] at ho
                           subst ho
                           rintro _ ⟨nw, rfl⟩
                           first | (go_simp; done) | (go_simp; with_reducible rfl)
                         try simp only [Act.put, List.setIfInBounds_toArray, List.set_cons_zero, List.set_cons_succ]
                         as_aux_lemma =>
                          refine h_take (i := 18) (d := (some 43)) (v := ?vh72) (by rfl) (by kernel_rfl) (by kernel_rfl) (by kernel_rfl) (fun _ _ _ h => h) (by rfl) ?hyh72 hHeld ?resth72
                          case hyh72 =>
                            intro o ho
                            simp only [List.getElem?_toArray, List.getElem?_cons_succ, List.getElem?_cons_zero, Option.some.injEq] at ho
                            subst ho
                            rintro _ ⟨nw, rfl⟩
                            first | (go_simp; done) | (go_simp; with_reducible rfl)
                          try simp only [Act.put, List.setIfInBounds_toArray, List.set_cons_zero, List.set_cons_succ]
                          as_aux_lemma =>
                           refine h_take (i := 19) (d := (some 44)) (v := ?vh73) (by rfl) (by kernel_rfl) (by kernel_rfl) (by kernel_rfl) (fun _ _ _ h => h) (by rfl) ?hyh73 hHeld ?resth73
                           case hyh73 =>
                             intro o ho
                             simp only [List.getElem?_toArray, List.getElem?_cons_succ, List.getElem?_cons_zero, Option.some.injEq] at ho
                             subst ho
                             rintro _ ⟨nw, rfl⟩
                             first | (go_simp; done) | (go_simp; with_reducible rfl)
                           try simp only [Act.put, List.setIfInBounds_toArray, List.set_cons_zero, List.set_cons_succ]
                           as_aux_lemma =>
                            refine h_take (i := 20) (d := (some 45)) (v := ?vh74) (by rfl) (by kernel_rfl) (by kernel_rfl) (by kernel_rfl) (fun _ _ _ h => h) (by rfl) ?hyh74 hHeld ?resth74
                            case hyh74 =>
                              intro o ho
                              simp only [List.getElem?_toArray, List.getElem?_cons_succ, List.getElem?_cons_zero, Option.some.injEq] at ho
                              subst ho
                              rintro _ ⟨nw, rfl⟩
                              first | (go_simp; done) | (go_simp; with_reducible rfl)
                            try simp only [Act.put, List.setIfInBounds_toArray, List.set_cons_zero, List.set_cons_succ]
                            as_aux_lemma =>
                             refine h_take (i := 21) (d := (some 46)) (v := ?vh75) (by rfl) (by kernel_rfl) (by kernel_rfl) (by kernel_rfl) (fun _ _ _ h => h) (by rfl) ?hyh75 hHeld ?resth75
                             case hyh75 =>
                               intro o ho
                               simp only [List.getElem?_toArray, List.getElem?_cons_succ, List.getElem?_cons_zero, Option.some.injEq] at ho
                               subst ho
                               rintro _ ⟨nw, rfl⟩
                               first | (go_simp; done) | (go_simp; with_reducible rfl)
                             try simp only [Act.put, List.setIfInBounds_toArray, List.set_cons_zero, List.set_cons_succ]
                             as_aux_lemma =>
                              refine h_take (i := 22) (d := (some 47)) (v := ?vh76) (by rfl) (by kernel_rfl) (by kernel_rfl) (by kernel_rfl) (fun _ _ _ h => h) (by rfl) ?hyh76 hHeld ?resth76
                              case hyh76 =>
                                intro o ho
                                simp only [List.getElem?_toArray, List.getElem?_cons_succ, List.getElem?_cons_zero, Option.some.injEq] at ho
                                subst ho
                                rintro _ ⟨nw, rfl⟩
                                first | (go_simp; done) | (go_simp; with_reducible rfl)
                              try simp only [Act.put, List.setIfInBounds_toArray, List.set_cons_zero, List.set_cons_succ]
                              as_aux_lemma =>
                               refine h_take (i := 23) (d := (some 48)) (v := ?vh77) (by rfl) (by kernel_rfl) (by kernel_rfl) (by kernel_rfl) (fun _ _ _ h => h) (by rfl) ?hyh77 hHeld ?resth77
                               case hyh77 =>
                                 intro o ho
                                 simp only [List.getElem?_toArray, List.getElem?_cons_succ, List.getElem?_cons_zero, Option.some.injEq] at ho
                                 subst ho
                                 rintro _ ⟨nw, rfl⟩
                                 first | (go_simp; done) | (go_simp; with_reducible rfl)
                               try simp only [Act.put, List.setIfInBounds_toArray, List.set_cons_zero, List.set_cons_succ]
                               as_aux_lemma =>
                                refine wpAnyH_ready (rs := [24]) (by kernel_rfl) (by simp) ?_
                                refine AllReadyH.cons rfl (fun K hK => ?_) AllReadyH.nil
                                go_simp
                                refine (C24 _).mono ?_
                                intro x wq h24
                                obtain ⟨a24, k24, rfl, hbq, -⟩ := h24.use
                                have kf24 := fun w => fldB0 pc a24 hl.length k24 w
                                generalize hl.length = n24 at *
                                have hcur := below_after_of hcur hbq
                                clear hbq
                                clear h24
                                refine hK.out _ _ ?_ (fun hHeld => ?_)
                                · exact after_mk hcur
                                clear hK K
                                try simp only [Act.put, List.setIfInBounds_toArray, List.set_cons_zero, List.set_cons_succ]
                                as_aux_lemma =>
                                 refine h_take (i := 25) (d := (some 50)) (v := ?vh78) (by rfl) (by kernel_rfl) (by kernel_rfl) (by kernel_rfl) (fun _ _ _ h => h) (by rfl) ?hyh78 hHeld ?resth78
                                 case hyh78 =>
                                   intro o ho
                                   simp only [List.getElem?_toArray, List.getElem?_cons_succ, List.getElem?_cons_zero, Option.some.injEq] at ho
                                   subst ho
                                   rintro _ ⟨nw, rfl⟩
                                   first | (go_simp; done) | (go_simp; with_reducible rfl)
                                 try simp only [Act.put, List.setIfInBounds_toArray, List.set_cons_zero, List.set_cons_succ]
                                 as_aux_lemma =>
                                  refine h_take (i := 26) (d := (some 51)) (v := ?vh79) (by rfl) (by kernel_rfl) (by kernel_rfl) (by kernel_rfl) (fun _ _ _ h => h) (by rfl) ?hyh79 hHeld ?resth79
                                  case hyh79 =>
                                    intro o ho
                                    simp only [List.getElem?_toArray, List.getElem?_cons_succ, List.getElem?_cons_zero, Option.some.injEq] at ho
                                    subst ho
                                    rintro _ ⟨nw, rfl⟩
                                    first | (go_simp; done) | (go_simp; with_reducible rfl)
                                  try simp only [Act.put, List.setIfInBounds_toArray, List.set_cons_zero, List.set_cons_succ]
                                  as_aux_lemma =>
                                   refine h_take (i := 27) (d := (some 52)) (v := ?vh80) (by rfl) (by kernel_rfl) (by kernel_rfl) (by kernel_rfl) (fun _ _ _ h => h) (by rfl) ?hyh80 hHeld ?resth80
                                   case hyh80 =>
                                     intro o ho
                                     simp only [List.getElem?_toArray, List.getElem?_cons_succ, List.getElem?_cons_zero, Option.some.injEq] at ho
                                     subst ho
                                     rintro _ ⟨nw, rfl⟩
                                     first | (go_simp; done) | (go_simp; with_reducible rfl)
                                   try simp only [Act.put, List.setIfInBounds_toArray, List.set_cons_zero, List.set_cons_succ]
                                   as_aux_lemma =>
                                    refine h_take (i := 28) (d := (some 53)) (v := ?vh81) (by rfl) (by kernel_rfl) (by kernel_rfl) (by kernel_rfl) (fun _ _ _ h => h) (by rfl) ?hyh81 hHeld ?resth81
                                    case hyh81 =>
                                      intro o ho
                                      simp only [List.getElem?_toArray, List.getElem?_cons_succ, List.getElem?_cons_zero, Option.some.injEq] at ho
                                      subst ho
                                      rintro _ ⟨nw, rfl⟩
                                      first | (go_simp; done) | (go_simp; with_reducible rfl)
                                    try simp only [Act.put, List.setIfInBounds_toArray, List.set_cons_zero, List.set_cons_succ]
                                    as_aux_lemma =>
                                     refine h_take (i := 29) (d := (some 54)) (v := ?vh82) (by rfl) (by kernel_rfl) (by kernel_rfl) (by kernel_rfl) (fun _ _ _ h => h) (by rfl) ?hyh82 hHeld ?resth82
                                     case hyh82 =>
                                       intro o ho
                                       simp only [List.getElem?_toArray, List.getElem?_cons_succ, List.getElem?_cons_zero, Option.some.injEq] at ho
                                       subst ho
                                       rintro _ ⟨nw, rfl⟩
                                       first | (go_simp; done) | (go_simp; with_reducible rfl)
                                     try simp only [Act.put, List.setIfInBounds_toArray, List.set_cons_zero, List.set_cons_succ]
                                     as_aux_lemma =>
                                      refine h_take (i := 30) (d := (some 55)) (v := ?vh83) (by rfl) (by kernel_rfl) (by kernel_rfl) (by kernel_rfl) (fun _ _ _ h => h) (by rfl) ?hyh83 hHeld ?resth83
                                      case hyh83 =>
                                        intro o ho
                                        simp only [List.getElem?_toArray, List.getElem?_cons_succ, List.getElem?_cons_zero, Option.some.injEq] at ho
                                        subst ho
                                        rintro _ ⟨nw, rfl⟩
                                        first | (go_simp; done) | (go_simp; with_reducible rfl)
                                      try simp only [Act.put, List.setIfInBounds_toArray, List.set_cons_zero, List.set_cons_succ]
                                      as_aux_lemma =>
                                       refine h_take (i := 31) (d := (some 56)) (v := ?vh84) (by rfl) (by kernel_rfl) (by kernel_rfl) (by kernel_rfl) (fun _ _ _ h => h) (by rfl) ?hyh84 hHeld ?resth84
                                       case hyh84 =>
                                         intro o ho
                                         simp only [List.getElem?_toArray, List.getElem?_cons_succ, List.getElem?_cons_zero, Option.some.injEq] at ho
                                         subst ho
                                         rintro _ ⟨nw, rfl⟩
                                         first | (go_simp; done) | (go_simp; with_reducible rfl)
                                       try simp only [Act.put, List.setIfInBounds_toArray, List.set_cons_zero, List.set_cons_succ]
                                       as_aux_lemma =>
                                        refine wpAnyH_ready (rs := [32]) (by kernel_rfl) (by simp) ?_
                                        refine AllReadyH.cons rfl (fun K hK => ?_) AllReadyH.nil
                                        go_simp
                                        refine (C32 _).mono ?_
                                        rintro x wq ⟨rfl, hbq⟩
                                        have hcur := below_after_of hcur hbq
                                        clear hbq
                                        refine hK.out _ _ ?_ (fun hHeld => ?_)
                                        · exact after_mk hcur
                                        clear hK K
                                        try simp only [Act.put, List.setIfInBounds_toArray, List.set_cons_zero, List.set_cons_succ]
                                        as_aux_lemma =>
                                         refine h_take (i := 33) (d := (some 58)) (v := ?vh85) (by rfl) (by kernel_rfl) (by kernel_rfl) (by kernel_rfl) (fun _ _ _ h => h) (by rfl) ?hyh85 hHeld ?resth85
                                         case hyh85 =>
                                           intro o ho
                                           simp only [List.getElem?_toArray, List.getElem?_cons_succ, List.getElem?_cons_zero, Option.some.injEq] at ho
                                           subst ho
                                           rintro _ ⟨nw, rfl⟩
                                           first | (go_simp; done) | (go_simp; with_reducible rfl)
                                         try simp only [Act.put, List.setIfInBounds_toArray, List.set_cons_zero, List.set_cons_succ]
                                         as_aux_lemma =>
                                          refine h_take (i := 34) (d := (some 59)) (v := ?vh86) (by rfl) (by kernel_rfl) (by kernel_rfl) (by kernel_rfl) (fun _ _ _ h => h) (by rfl) ?hyh86 hHeld ?resth86
                                          case hyh86 =>
                                            intro o ho
                                            simp only [List.getElem?_toArray, List.getElem?_cons_succ, List.getElem?_cons_zero, Option.some.injEq] at ho
                                            subst ho
                                            rintro _ ⟨nw, rfl⟩
                                            first | (go_simp; done) | (go_simp; with_reducible rfl)
                                          try simp only [Act.put, List.setIfInBounds_toArray, List.set_cons_zero, List.set_cons_succ]
                                          as_aux_lemma =>
                                           refine h_take (i := 35) (d := (some 60)) (v := ?vh87) (by rfl) (by kernel_rfl) (by kernel_rfl) (by kernel_rfl) (fun _ _ _ h => h) (by rfl) ?hyh87 hHeld ?resth87
                                           case hyh87 =>
                                             intro o ho
                                             simp only [List.getElem?_toArray, List.getElem?_cons_succ, List.getElem?_cons_zero, Option.some.injEq] at ho
                                             subst ho
                                             rintro _ ⟨nw, rfl⟩
                                             first | (go_simp; done) | (go_simp; with_reducible rfl)
                                           try simp only [Act.put, List.setIfInBounds_toArray, List.set_cons_zero, List.set_cons_succ]
                                           as_aux_lemma =>
                                            refine h_take (i := 36) (d := (some 61)) (v := ?vh88) (by rfl) (by kernel_rfl) (by kernel_rfl) (by kernel_rfl) (fun _ _ _ h => h) (by rfl) ?hyh88 hHeld ?resth88
                                            case hyh88 =>
                                              intro o ho
                                              simp only [List.getElem?_toArray, List.getElem?_cons_succ, List.getElem?_cons_zero, Option.some.injEq] at ho
                                              subst ho
                                              rintro _ ⟨nw, rfl⟩
                                              first | (go_simp; done) | (go_simp; with_reducible rfl)
                                            try simp only [Act.put, List.setIfInBounds_toArray, List.set_cons_zero, List.set_cons_succ]
                                            as_aux_lemma =>
                                             refine h_take (i := 37) (d := (some 62)) (v := ?vh89) (by rfl) (by kernel_rfl) (by kernel_rfl) (by kernel_rfl) (fun _ _ _ h => h) (by rfl) ?hyh89 hHeld ?resth89
                                             case hyh89 =>
                                               intro o ho
                                               simp only [List.getElem?_toArray, List.getElem?_cons_succ, List.getElem?_cons_zero, Option.some.injEq] at ho
                                               subst ho
                                               rintro _ ⟨nw, rfl⟩
                                               first | (go_simp; done) | (go_simp; with_reducible rfl)
                                             try simp only [Act.put, List.setIfInBounds_toArray, List.set_cons_zero, List.set_cons_succ]
                                             as_aux_lemma =>
                                              refine h_take (i := 38) (d := (some 63)) (v := ?vh90) (by rfl) (by kernel_rfl) (by kernel_rfl) (by kernel_rfl) (fun _ _ _ h => h) (by rfl) ?hyh90 hHeld ?resth90
                                              case hyh90 =>
                                                intro o ho
                                                simp only [List.getElem?_toArray, List.getElem?_cons_succ, List.getElem?_cons_zero, Option.some.injEq] at ho
                                                subst ho
                                                rintro _ ⟨nw, rfl⟩
                                                first | (go_simp; done) | (go_simp; with_reducible rfl)
                                              try simp only [Act.put, List.setIfInBounds_toArray, List.set_cons_zero, List.set_cons_succ]
                                              as_aux_lemma =>
                                               refine h_take (i := 39) (d := (some 64)) (v := ?vh91) (by rfl) (by kernel_rfl) (by kernel_rfl) (by kernel_rfl) (fun _ _ _ h => h) (by rfl) ?hyh91 hHeld ?resth91
                                               case hyh91 =>
                                                 intro o ho
                                                 simp only [List.getElem?_toArray, List.getElem?_cons_succ, List.getElem?_cons_zero, Option.some.injEq] at ho
                                                 subst ho
                                                 rintro _ ⟨nw, rfl⟩
                                                 first | (go_simp; done) | (go_simp; with_reducible rfl)
                                               try simp only [Act.put, List.setIfInBounds_toArray, List.set_cons_zero, List.set_cons_succ]
                                               as_aux_lemma =>
                                                refine h_skip (i := 40) (d := (some 65)) (by rfl) (by kernel_rfl) (by kernel_rfl) (by kernel_rfl) (fun _ _ _ h => h) (by rfl) hHeld ?_
                                                try simp only [Act.put, List.setIfInBounds_toArray, List.set_cons_zero, List.set_cons_succ]
                                                as_aux_lemma =>
                                                 refine h_skip (i := 41) (d := (some 66)) (by rfl) (by kernel_rfl) (by kernel_rfl) (by kernel_rfl) (fun _ _ _ h => h) (by rfl) hHeld ?_
                                                 try simp only [Act.put, List.setIfInBounds_toArray, List.set_cons_zero, List.set_cons_succ]
                                                 as_aux_lemma =>
                                                  refine h_skip (i := 44) (d := (some 69)) (by rfl) (by kernel_rfl) (by kernel_rfl) (by kernel_rfl) (fun _ _ _ h => h) (by rfl) hHeld ?_
                                                  try simp only [Act.put, List.setIfInBounds_toArray, List.set_cons_zero, List.set_cons_succ]
                                                  as_aux_lemma =>
                                                   refine h_skip (i := 42) (d := (some 67)) (by rfl) (by kernel_rfl) (by kernel_rfl) (by kernel_rfl) (fun _ _ _ h => h) (by rfl) hHeld ?_
                                                   try simp only [Act.put, List.setIfInBounds_toArray, List.set_cons_zero, List.set_cons_succ]
                                                   as_aux_lemma =>
                                                    refine h_skip (i := 43) (d := (some 68)) (by rfl) (by kernel_rfl) (by kernel_rfl) (by kernel_rfl) (fun _ _ _ h => h) (by rfl) hHeld ?_
                                                    try simp only [Act.put, List.setIfInBounds_toArray, List.set_cons_zero, List.set_cons_succ]
                                                    as_aux_lemma =>
                                                     refine h_skip (i := 45) (d := (some 70)) (by rfl) (by kernel_rfl) (by kernel_rfl) (by kernel_rfl) (fun _ _ _ h => h) (by rfl) hHeld ?_
                                                     try simp only [Act.put, List.setIfInBounds_toArray, List.set_cons_zero, List.set_cons_succ]
                                                     as_aux_lemma =>
                                                      refine h_skip (i := 46) (d := (some 71)) (by rfl) (by kernel_rfl) (by kernel_rfl) (by kernel_rfl) (fun _ _ _ h => h) (by rfl) hHeld ?_
                                                      try simp only [Act.put, List.setIfInBounds_toArray, List.set_cons_zero, List.set_cons_succ]
                                                      as_aux_lemma =>
                                                       refine h_skip (i := 47) (d := (some 72)) (by rfl) (by kernel_rfl) (by kernel_rfl) (by kernel_rfl) (fun _ _ _ h => h) (by rfl) hHeld ?_
                                                       try simp only [Act.put, List.setIfInBounds_toArray, List.set_cons_zero, List.set_cons_succ]
                                                       as_aux_lemma =>
                                                        refine h_skip (i := 48) (d := (some 73)) (by rfl) (by kernel_rfl) (by kernel_rfl) (by kernel_rfl) (fun _ _ _ h => h) (by rfl) hHeld ?_
                                                        try simp only [Act.put, List.setIfInBounds_toArray, List.set_cons_zero, List.set_cons_succ]
                                                        as_aux_lemma =>
                                                         refine h_skip (i := 49) (d := (some 74)) (by rfl) (by kernel_rfl) (by kernel_rfl) (by kernel_rfl) (fun _ _ _ h => h) (by rfl) hHeld ?_
                                                         try simp only [Act.put, List.setIfInBounds_toArray, List.set_cons_zero, List.set_cons_succ]
                                                         as_aux_lemma =>
                                                          refine h_skip (i := 50) (d := (some 75)) (by rfl) (by kernel_rfl) (by kernel_rfl) (by kernel_rfl) (fun _ _ _ h => h) (by rfl) hHeld ?_
                                                          try simp only [Act.put, List.setIfInBounds_toArray, List.set_cons_zero, List.set_cons_succ]
                                                          as_aux_lemma =>
                                                           refine h_skip (i := 51) (d := (some 76)) (by rfl) (by kernel_rfl) (by kernel_rfl) (by kernel_rfl) (fun _ _ _ h => h) (by rfl) hHeld ?_
                                                           try simp only [Act.put, List.setIfInBounds_toArray, List.set_cons_zero, List.set_cons_succ]
                                                           as_aux_lemma =>
                                                            refine h_skip (i := 52) (d := (some 77)) (by rfl) (by kernel_rfl) (by kernel_rfl) (by kernel_rfl) (fun _ _ _ h => h) (by rfl) hHeld ?_
                                                            try simp only [Act.put, List.setIfInBounds_toArray, List.set_cons_zero, List.set_cons_succ]
                                                            as_aux_lemma =>
                                                             refine h_skip (i := 53) (d := (some 78)) (by rfl) (by kernel_rfl) (by kernel_rfl) (by kernel_rfl) (fun _ _ _ h => h) (by rfl) hHeld ?_
                                                             try simp only [Act.put, List.setIfInBounds_toArray, List.set_cons_zero, List.set_cons_succ]
                                                             as_aux_lemma =>
                                                              refine h_skip (i := 54) (d := (some 79)) (by rfl) (by kernel_rfl) (by kernel_rfl) (by kernel_rfl) (fun _ _ _ h => h) (by rfl) hHeld ?_
                                                              try simp only [Act.put, List.setIfInBounds_toArray, List.set_cons_zero, List.set_cons_succ]
                                                              as_aux_lemma =>
                                                               refine h_skip (i := 57) (d := (some 82)) (by rfl) (by kernel_rfl) (by kernel_rfl) (by kernel_rfl) (fun _ _ _ h => h) (by rfl) hHeld ?_
                                                               try simp only [Act.put, List.setIfInBounds_toArray, List.set_cons_zero, List.set_cons_succ]
                                                               as_aux_lemma =>
                                                                refine h_skip (i := 58) (d := (some 83)) (by rfl) (by kernel_rfl) (by kernel_rfl) (by kernel_rfl) (fun _ _ _ h => h) (by rfl) hHeld ?_
                                                                try simp only [Act.put, List.setIfInBounds_toArray, List.set_cons_zero, List.set_cons_succ]
                                                                as_aux_lemma =>
                                                                 refine h_skip (i := 55) (d := (some 80)) (by rfl) (by kernel_rfl) (by kernel_rfl) (by kernel_rfl) (fun _ _ _ h => h) (by rfl) hHeld ?_
                                                                 try simp only [Act.put, List.setIfInBounds_toArray, List.set_cons_zero, List.set_cons_succ]
                                                                 as_aux_lemma =>
                                                                  refine h_skip (i := 56) (d := (some 81)) (by rfl) (by kernel_rfl) (by kernel_rfl) (by kernel_rfl) (fun _ _ _ h => h) (by rfl) hHeld ?_
                                                                  try simp only [Act.put, List.setIfInBounds_toArray, List.set_cons_zero, List.set_cons_succ]
                                                                  as_aux_lemma =>
                                                                   refine h_skip (i := 59) (d := (some 84)) (by rfl) (by kernel_rfl) (by kernel_rfl) (by kernel_rfl) (fun _ _ _ h => h) (by rfl) hHeld ?_
                                                                   try simp only [Act.put, List.setIfInBounds_toArray, List.set_cons_zero, List.set_cons_succ]
                                                                   as_aux_lemma =>
                                                                    refine h_skip (i := 60) (d := (some 85)) (by rfl) (by kernel_rfl) (by kernel_rfl) (by kernel_rfl) (fun _ _ _ h => h) (by rfl) hHeld ?_
                                                                    try simp only [Act.put, List.setIfInBounds_toArray, List.set_cons_zero, List.set_cons_succ]
                                                                    as_aux_lemma =>
                                                                     refine h_skip (i := 61) (d := (some 86)) (by rfl) (by kernel_rfl) (by kernel_rfl) (by kernel_rfl) (fun _ _ _ h => h) (by rfl) hHeld ?_
                                                                     try simp only [Act.put, List.setIfInBounds_toArray, List.set_cons_zero, List.set_cons_succ]
                                                                     as_aux_lemma =>
                                                                      refine h_skip (i := 62) (d := (some 87)) (by rfl) (by kernel_rfl) (by kernel_rfl) (by kernel_rfl) (fun _ _ _ h => h) (by rfl) hHeld ?_
                                                                      try simp only [Act.put, List.setIfInBounds_toArray, List.set_cons_zero, List.set_cons_succ]
                                                                      as_aux_lemma =>
                                                                       refine h_take (i := 63) (d := (some 88)) (v := ?vh92) (by rfl) (by kernel_rfl) (by kernel_rfl) (by kernel_rfl) (fun _ _ _ h => h) (by rfl) ?hyh92 hHeld ?resth92
                                                                       case hyh92 =>
                                                                         intro o ho
                                                                         simp only [List.getElem?_toArray, List.getElem?_cons_succ, List.getElem?_cons_zero, Option.some.injEq] at ho
                                                                         subst ho
                                                                         rintro _ ⟨nw, rfl⟩
                                                                         first | (go_simp; done) | (go_simp; with_reducible rfl)
                                                                       try simp only [Act.put, List.setIfInBounds_toArray, List.set_cons_zero, List.set_cons_succ]
                                                                       as_aux_lemma =>
                                                                        refine h_take (i := 64) (d := (some 89)) (v := ?vh93) (by rfl) (by kernel_rfl) (by kernel_rfl) (by kernel_rfl) (fun _ _ _ h => h) (by rfl) ?hyh93 hHeld ?resth93
                                                                        case hyh93 =>
                                                                          intro o ho
                                                                          simp only [List.getElem?_toArray, List.getElem?_cons_succ, List.getElem?_cons_zero, Option.some.injEq] at ho
                                                                          subst ho
                                                                          rintro _ ⟨nw, rfl⟩
                                                                          first | (go_simp; done) | (go_simp; with_reducible rfl)
                                                                        try simp only [Act.put, List.setIfInBounds_toArray, List.set_cons_zero, List.set_cons_succ]
                                                                        as_aux_lemma =>
                                                                         refine wpAnyH_done (by kernel_rfl) ?_ _
                                                                         go_wp2
                                                                         go_meet
                                                                         case rel => exact ⟨rfl, hcur⟩
    · by_cases hp0 : pc = 0
      · have hre : (rc == 0) = false := by simpa using hr0
        clear hr0
        subst hp0
        have C42 := T.c42 rfl
        have C55 := T.c55 rfl
        have C59 := T.c59 rfl
        unfold hrV at C42
        unfold hdV at C55
        refine wp_region_held_drew (S := fun w' => ∃ n : After W4, w' = n.w) (by kernel_rfl) (after_mk (Below.refl _ _).drew) (fun hHeld => ?_)
        have hcur : Below W4.heap.size W4 W4.drew := (Below.refl _ _).drew
        refine h_take (i := 0) (d := (some 25)) (v := ?vh94) (by rfl) (by kernel_rfl) (by kernel_rfl) (by kernel_rfl) (fun _ _ _ h => h) (by rfl) ?hyh94 hHeld ?resth94
        case hyh94 =>
          intro o ho
          simp only [List.getElem?_toArray, List.getElem?_cons_zero, Option.some.injEq] at ho
          subst ho
          rintro _ ⟨nw, rfl⟩
          first | (go_simp; done) | (go_simp; with_reducible rfl)
        try simp only [Act.put, List.setIfInBounds_toArray, List.set_cons_zero, List.set_cons_succ]
        as_aux_lemma =>
         refine h_take (i := 1) (d := (some 26)) (v := ?vh95) (by rfl) (by kernel_rfl) (by kernel_rfl) (by kernel_rfl) (fun _ _ _ h => h) (by rfl) ?hyh95 hHeld ?resth95
         case hyh95 =>
           intro o ho
           simp only [List.getElem?_toArray, List.getElem?_cons_succ, List.getElem?_cons_zero, Option.some.injEq] at ho
           subst ho
           rintro _ ⟨nw, rfl⟩
           first | (go_simp; done) | (go_simp; with_reducible rfl)
         try simp only [Act.put, List.setIfInBounds_toArray, List.set_cons_zero, List.set_cons_succ]
         as_aux_lemma =>
          refine h_take (i := 2) (d := (some 27)) (v := ?vh96) (by rfl) (by kernel_rfl) (by kernel_rfl) (by kernel_rfl) (fun _ _ _ h => h) (by rfl) ?hyh96 hHeld ?resth96
          case hyh96 =>
            intro o ho
            simp only [List.getElem?_toArray, List.getElem?_cons_succ, List.getElem?_cons_zero, Option.some.injEq] at ho
            subst ho
            rintro _ ⟨nw, rfl⟩
            first | (go_simp; done) | (go_simp; with_reducible rfl)
          try simp only [Act.put, List.setIfInBounds_toArray, List.set_cons_zero, List.set_cons_succ]
          as_aux_lemma =>
           refine wpAnyH_ready (rs := [3]) (by kernel_rfl) (by simp) ?_
           refine AllReadyH.cons rfl (fun K hK => ?_) AllReadyH.nil
           go_simp
           refine (T.c3 _ hcur).mono ?_
           rintro x wq ⟨rfl, hbq⟩
           unfold hrV
           have hcur := below_after_of hcur hbq
           clear hbq
           refine hK.out _ _ ?_ (fun hHeld => ?_)
           · exact after_mk hcur
           clear hK K
           try simp only [Act.put, List.setIfInBounds_toArray, List.set_cons_zero, List.set_cons_succ]
           as_aux_lemma =>
            refine h_take (i := 4) (d := (some 29)) (v := ?vh97) (by rfl) (by kernel_rfl) (by kernel_rfl) (by kernel_rfl) (fun _ _ _ h => h) (by rfl) ?hyh97 hHeld ?resth97
            case hyh97 =>
              intro o ho
              simp only [List.getElem?_toArray, List.getElem?_cons_succ, List.getElem?_cons_zero, Option.some.injEq] at ho
              subst ho
              rintro _ ⟨nw, rfl⟩
              first | (go_simp; done) | (go_simp; with_reducible rfl)
            try simp only [Act.put, List.setIfInBounds_toArray, List.set_cons_zero, List.set_cons_succ]
            as_aux_lemma =>
             refine h_take (i := 5) (d := (some 30)) (v := ?vh98) (by rfl) (by kernel_rfl) (by kernel_rfl) (by kernel_rfl) (fun _ _ _ h => h) (by rfl) ?hyh98 hHeld ?resth98
             case hyh98 =>
               intro o ho
               simp only [List.getElem?_toArray, List.getElem?_cons_succ, List.getElem?_cons_zero, Option.some.injEq] at ho
               subst ho
               rintro _ ⟨nw, rfl⟩
               first | (go_simp; done) | (go_simp; with_reducible rfl)
             try simp only [Act.put, List.setIfInBounds_toArray, List.set_cons_zero, List.set_cons_succ]
             as_aux_lemma =>
              refine h_take (i := 6) (d := (some 31)) (v := ?vh99) (by rfl) (by kernel_rfl) (by kernel_rfl) (by kernel_rfl) (fun _ _ _ h => h) (by rfl) ?hyh99 hHeld ?resth99
              case hyh99 =>
                intro o ho
                simp only [List.getElem?_toArray, List.getElem?_cons_succ, List.getElem?_cons_zero, Option.some.injEq] at ho
                subst ho
                rintro _ ⟨nw, rfl⟩
                first | (go_simp; done) | (go_simp; with_reducible rfl)
              try simp only [Act.put, List.setIfInBounds_toArray, List.set_cons_zero, List.set_cons_succ]
              as_aux_lemma =>
               refine h_take (i := 7) (d := (some 32)) (v := ?vh100) (by rfl) (by kernel_rfl) (by kernel_rfl) (by kernel_rfl) (fun _ _ _ h => h) (by rfl) ?hyh100 hHeld ?resth100
               case hyh100 =>
                 intro o ho
                 simp only [List.getElem?_toArray, List.getElem?_cons_succ, List.getElem?_cons_zero, Option.some.injEq] at ho
                 subst ho
                 rintro _ ⟨nw, rfl⟩
                 first | (go_simp; done) | (go_simp; with_reducible rfl)
               try simp only [Act.put, List.setIfInBounds_toArray, List.set_cons_zero, List.set_cons_succ]
               as_aux_lemma =>
                refine h_take (i := 8) (d := (some 33)) (v := ?vh101) (by rfl) (by kernel_rfl) (by kernel_rfl) (by kernel_rfl) (fun _ _ _ h => h) (by rfl) ?hyh101 hHeld ?resth101
                case hyh101 =>
                  intro o ho
                  simp only [List.getElem?_toArray, List.getElem?_cons_succ, List.getElem?_cons_zero, Option.some.injEq] at ho
                  subst ho
                  rintro _ ⟨nw, rfl⟩
                  first | (go_simp; done) | (go_simp; with_reducible rfl)
                try simp only [Act.put, List.setIfInBounds_toArray, List.set_cons_zero, List.set_cons_succ]
                as_aux_lemma =>
                 refine h_take (i := 9) (d := (some 34)) (v := ?vh102) (by rfl) (by kernel_rfl) (by kernel_rfl) (by kernel_rfl) (fun _ _ _ h => h) (by rfl) ?hyh102 hHeld ?resth102
                 case hyh102 =>
                   intro o ho
                   simp only [List.getElem?_toArray, List.getElem?_cons_succ, List.getElem?_cons_zero, Option.some.injEq] at ho
                   subst ho
                   rintro _ ⟨nw, rfl⟩
                   first | (go_simp; done) | (go_simp; with_reducible rfl)
                 try simp only [Act.put, List.setIfInBounds_toArray, List.set_cons_zero, List.set_cons_succ]
                 as_aux_lemma =>
                  refine h_take (i := 10) (d := (some 35)) (v := ?vh103) (by rfl) (by kernel_rfl) (by kernel_rfl) (by kernel_rfl) (fun _ _ _ h => h) (by rfl) ?hyh103 hHeld ?resth103
                  case hyh103 =>
                    intro o ho
                    simp only [List.getElem?_toArray, List.getElem?_cons_succ, List.getElem?_cons_zero, Option.some.injEq] at ho
                    subst ho
                    rintro _ ⟨nw, rfl⟩
                    first | (go_simp; done) | (go_simp; with_reducible rfl)
                  try simp only [Act.put, List.setIfInBounds_toArray, List.set_cons_zero, List.set_cons_succ]
                  as_aux_lemma =>
                   refine h_skip (i := 11) (d := (some 36)) (by rfl) (by kernel_rfl) (by kernel_rfl) (by kernel_rfl) (fun _ _ _ h => h) (by rfl) hHeld ?_
                   try simp only [Act.put, List.setIfInBounds_toArray, List.set_cons_zero, List.set_cons_succ]
                   as_aux_lemma =>
                    refine h_skip (i := 12) (d := (some 37)) (by rfl) (by kernel_rfl) (by kernel_rfl) (by kernel_rfl) (fun _ _ _ h => h) (by rfl) hHeld ?_
                    try simp only [Act.put, List.setIfInBounds_toArray, List.set_cons_zero, List.set_cons_succ]
                    as_aux_lemma =>
                     refine h_skip (i := 15) (d := (some 40)) (by rfl) (by kernel_rfl) (by kernel_rfl) (by kernel_rfl) (fun _ _ _ h => h) (by rfl) hHeld ?_
                     try simp only [Act.put, List.setIfInBounds_toArray, List.set_cons_zero, List.set_cons_succ]
                     as_aux_lemma =>
                      refine h_skip (i := 13) (d := (some 38)) (by rfl) (by kernel_rfl) (by kernel_rfl) (by kernel_rfl) (fun _ _ _ h => h) (by rfl) hHeld ?_
                      try simp only [Act.put, List.setIfInBounds_toArray, List.set_cons_zero, List.set_cons_succ]
                      as_aux_lemma =>
                       refine h_skip (i := 14) (d := (some 39)) (by rfl) (by kernel_rfl) (by kernel_rfl) (by kernel_rfl) (fun _ _ _ h => h) (by rfl) hHeld ?_
                       try simp only [Act.put, List.setIfInBounds_toArray, List.set_cons_zero, List.set_cons_succ]
                       as_aux_lemma =>
                        refine h_skip (i := 16) (d := (some 41)) (by rfl) (by kernel_rfl) (by kernel_rfl) (by kernel_rfl) (fun _ _ _ h => h) (by rfl) hHeld ?_
                        try simp only [Act.put, List.setIfInBounds_toArray, List.set_cons_zero, List.set_cons_succ]
                        as_aux_lemma =>
                         refine h_skip (i := 17) (d := (some 42)) (by rfl) (by kernel_rfl) (by kernel_rfl) (by kernel_rfl) (fun _ _ _ h => h) (by rfl) hHeld ?_
                         try simp only [Act.put, List.setIfInBounds_toArray, List.set_cons_zero, List.set_cons_succ]
                         as_aux_lemma =>
                          refine h_take (i := 18) (d := (some 43)) (v := ?vh104) (by rfl) (by kernel_rfl) (by kernel_rfl) (by kernel_rfl) (fun _ _ _ h => h) (by rfl) ?hyh104 hHeld ?resth104
                          case hyh104 =>
                            intro o ho
                            simp only [List.getElem?_toArray, List.getElem?_cons_succ, List.getElem?_cons_zero, Option.some.injEq] at ho
                            subst ho
                            rintro _ ⟨nw, rfl⟩
                            first | (go_simp; done) | (go_simp; with_reducible rfl)
                          try simp only [Act.put, List.setIfInBounds_toArray, List.set_cons_zero, List.set_cons_succ]
                          as_aux_lemma =>
                           refine h_take (i := 19) (d := (some 44)) (v := ?vh105) (by rfl) (by kernel_rfl) (by kernel_rfl) (by kernel_rfl) (fun _ _ _ h => h) (by rfl) ?hyh105 hHeld ?resth105
                           case hyh105 =>
                             intro o ho
                             simp only [List.getElem?_toArray, List.getElem?_cons_succ, List.getElem?_cons_zero, Option.some.injEq] at ho
                             subst ho
                             rintro _ ⟨nw, rfl⟩
                             first | (go_simp; done) | (go_simp; with_reducible rfl)
                           try simp only [Act.put, List.setIfInBounds_toArray, List.set_cons_zero, List.set_cons_succ]
                           as_aux_lemma =>
                            refine h_take (i := 20) (d := (some 45)) (v := ?vh106) (by rfl) (by kernel_rfl) (by kernel_rfl) (by kernel_rfl) (fun _ _ _ h => h) (by rfl) ?hyh106 hHeld ?resth106
                            case hyh106 =>
                              intro o ho
                              simp only [List.getElem?_toArray, List.getElem?_cons_succ, List.getElem?_cons_zero, Option.some.injEq] at ho
                              subst ho
                              rintro _ ⟨nw, rfl⟩
                              first | (go_simp; done) | (go_simp; with_reducible rfl)
                            try simp only [Act.put, List.setIfInBounds_toArray, List.set_cons_zero, List.set_cons_succ]
                            as_aux_lemma =>
                             refine h_take (i := 21) (d := (some 46)) (v := ?vh107) (by rfl) (by kernel_rfl) (by kernel_rfl) (by kernel_rfl) (fun _ _ _ h => h) (by rfl) ?hyh107 hHeld ?resth107
                             case hyh107 =>
                               intro o ho
                               simp only [List.getElem?_toArray, List.getElem?_cons_succ, List.getElem?_cons_zero, Option.some.injEq] at ho
                               subst ho
                               rintro _ ⟨nw, rfl⟩
                               first | (go_simp; done) | (go_simp; with_reducible rfl)
                             try simp only [Act.put, List.setIfInBounds_toArray, List.set_cons_zero, List.set_cons_succ]
                             as_aux_lemma =>
                              refine h_take (i := 22) (d := (some 47)) (v := ?vh108) (by rfl) (by kernel_rfl) (by kernel_rfl) (by kernel_rfl) (fun _ _ _ h => h) (by rfl) ?hyh108 hHeld ?resth108
                              case hyh108 =>
                                intro o ho
                                simp only [List.getElem?_toArray, List.getElem?_cons_succ, List.getElem?_cons_zero, Option.some.injEq] at ho
                                subst ho
                                rintro _ ⟨nw, rfl⟩
                                first | (go_simp; done) | (go_simp; with_reducible rfl)
                              try simp only [Act.put, List.setIfInBounds_toArray, List.set_cons_zero, List.set_cons_succ]
                              as_aux_lemma =>
                               refine h_take (i := 23) (d := (some 48)) (v := ?vh109) (by rfl) (by kernel_rfl) (by kernel_rfl) (by kernel_rfl) (fun _ _ _ h => h) (by rfl) ?hyh109 hHeld ?resth109
                               case hyh109 =>
                                 intro o ho
                                 simp only [List.getElem?_toArray, List.getElem?_cons_succ, List.getElem?_cons_zero, Option.some.injEq] at ho
                                 subst ho
                                 rintro _ ⟨nw, rfl⟩
                                 first | (go_simp; done) | (go_simp; with_reducible rfl)
                               try simp only [Act.put, List.setIfInBounds_toArray, List.set_cons_zero, List.set_cons_succ]
                               as_aux_lemma =>
                                refine wpAnyH_ready (rs := [24]) (by kernel_rfl) (by simp) ?_
                                refine AllReadyH.cons rfl (fun K hK => ?_) AllReadyH.nil
                                go_simp
                                refine (C24 _).mono ?_
                                intro x wq h24
                                obtain ⟨a24, k24, rfl, hbq, -⟩ := h24.use
                                have kf24 := fun w => fldB0 0 a24 hl.length k24 w
                                generalize hl.length = n24 at *
                                have hcur := below_after_of hcur hbq
                                clear hbq
                                clear h24
                                refine hK.out _ _ ?_ (fun hHeld => ?_)
                                · exact after_mk hcur
                                clear hK K
                                try simp only [Act.put, List.setIfInBounds_toArray, List.set_cons_zero, List.set_cons_succ]
                                as_aux_lemma =>
                                 refine h_take (i := 25) (d := (some 50)) (v := ?vh110) (by rfl) (by kernel_rfl) (by kernel_rfl) (by kernel_rfl) (fun _ _ _ h => h) (by rfl) ?hyh110 hHeld ?resth110
                                 case hyh110 =>
                                   intro o ho
                                   simp only [List.getElem?_toArray, List.getElem?_cons_succ, List.getElem?_cons_zero, Option.some.injEq] at ho
                                   subst ho
                                   rintro _ ⟨nw, rfl⟩
                                   first | (go_simp; done) | (go_simp; with_reducible rfl)
                                 try simp only [Act.put, List.setIfInBounds_toArray, List.set_cons_zero, List.set_cons_succ]
                                 as_aux_lemma =>
                                  refine h_take (i := 26) (d := (some 51)) (v := ?vh111) (by rfl) (by kernel_rfl) (by kernel_rfl) (by kernel_rfl) (fun _ _ _ h => h) (by rfl) ?hyh111 hHeld ?resth111
                                  case hyh111 =>
                                    intro o ho
                                    simp only [List.getElem?_toArray, List.getElem?_cons_succ, List.getElem?_cons_zero, Option.some.injEq] at ho
                                    subst ho
                                    rintro _ ⟨nw, rfl⟩
                                    first | (go_simp; done) | (go_simp; with_reducible rfl)
                                  try simp only [Act.put, List.setIfInBounds_toArray, List.set_cons_zero, List.set_cons_succ]
                                  as_aux_lemma =>
                                   refine h_take (i := 27) (d := (some 52)) (v := ?vh112) (by rfl) (by kernel_rfl) (by kernel_rfl) (by kernel_rfl) (fun _ _ _ h => h) (by rfl) ?hyh112 hHeld ?resth112
                                   case hyh112 =>
                                     intro o ho
                                     simp only [List.getElem?_toArray, List.getElem?_cons_succ, List.getElem?_cons_zero, Option.some.injEq] at ho
                                     subst ho
                                     rintro _ ⟨nw, rfl⟩
                                     first | (go_simp; done) | (go_simp; with_reducible rfl)
                                   try simp only [Act.put, List.setIfInBounds_toArray, List.set_cons_zero, List.set_cons_succ]
                                   as_aux_lemma =>
                                    refine h_take (i := 28) (d := (some 53)) (v := ?vh113) (by rfl) (by kernel_rfl) (by kernel_rfl) (by kernel_rfl) (fun _ _ _ h => h) (by rfl) ?hyh113 hHeld ?resth113
                                    case hyh113 =>
                                      intro o ho
                                      simp only [List.getElem?_toArray, List.getElem?_cons_succ, List.getElem?_cons_zero, Option.some.injEq] at ho
                                      subst ho
                                      rintro _ ⟨nw, rfl⟩
                                      first | (go_simp; done) | (go_simp; with_reducible rfl)
                                    try simp only [Act.put, List.setIfInBounds_toArray, List.set_cons_zero, List.set_cons_succ]
                                    as_aux_lemma =>
                                     refine h_take (i := 29) (d := (some 54)) (v := ?vh114) (by rfl) (by kernel_rfl) (by kernel_rfl) (by kernel_rfl) (fun _ _ _ h => h) (by rfl) ?hyh114 hHeld ?resth114
                                     case hyh114 =>
                                       intro o ho
                                       simp only [List.getElem?_toArray, List.getElem?_cons_succ, List.getElem?_cons_zero, Option.some.injEq] at ho
                                       subst ho
                                       rintro _ ⟨nw, rfl⟩
                                       first | (go_simp; done) | (go_simp; with_reducible rfl)
                                     try simp only [Act.put, List.setIfInBounds_toArray, List.set_cons_zero, List.set_cons_succ]
                                     as_aux_lemma =>
                                      refine h_take (i := 30) (d := (some 55)) (v := ?vh115) (by rfl) (by kernel_rfl) (by kernel_rfl) (by kernel_rfl) (fun _ _ _ h => h) (by rfl) ?hyh115 hHeld ?resth115
                                      case hyh115 =>
                                        intro o ho
                                        simp only [List.getElem?_toArray, List.getElem?_cons_succ, List.getElem?_cons_zero, Option.some.injEq] at ho
                                        subst ho
                                        rintro _ ⟨nw, rfl⟩
                                        first | (go_simp; done) | (go_simp; with_reducible rfl)
                                      try simp only [Act.put, List.setIfInBounds_toArray, List.set_cons_zero, List.set_cons_succ]
                                      as_aux_lemma =>
                                       refine h_take (i := 31) (d := (some 56)) (v := ?vh116) (by rfl) (by kernel_rfl) (by kernel_rfl) (by kernel_rfl) (fun _ _ _ h => h) (by rfl) ?hyh116 hHeld ?resth116
                                       case hyh116 =>
                                         intro o ho
                                         simp only [List.getElem?_toArray, List.getElem?_cons_succ, List.getElem?_cons_zero, Option.some.injEq] at ho
                                         subst ho
                                         rintro _ ⟨nw, rfl⟩
                                         first | (go_simp; done) | (go_simp; with_reducible rfl)
                                       try simp only [Act.put, List.setIfInBounds_toArray, List.set_cons_zero, List.set_cons_succ]
                                       as_aux_lemma =>
                                        refine wpAnyH_ready (rs := [32]) (by kernel_rfl) (by simp) ?_
                                        refine AllReadyH.cons rfl (fun K hK => ?_) AllReadyH.nil
                                        go_simp
                                        refine (C32 _).mono ?_
                                        rintro x wq ⟨rfl, hbq⟩
                                        have hcur := below_after_of hcur hbq
                                        clear hbq
                                        refine hK.out _ _ ?_ (fun hHeld => ?_)
                                        · exact after_mk hcur
                                        clear hK K
                                        try simp only [Act.put, List.setIfInBounds_toArray, List.set_cons_zero, List.set_cons_succ]
                                        as_aux_lemma =>
                                         refine h_take (i := 33) (d := (some 58)) (v := ?vh117) (by rfl) (by kernel_rfl) (by kernel_rfl) (by kernel_rfl) (fun _ _ _ h => h) (by rfl) ?hyh117 hHeld ?resth117
                                         case hyh117 =>
                                           intro o ho
                                           simp only [List.getElem?_toArray, List.getElem?_cons_succ, List.getElem?_cons_zero, Option.some.injEq] at ho
                                           subst ho
                                           rintro _ ⟨nw, rfl⟩
                                           first | (go_simp; done) | (go_simp; with_reducible rfl)
                                         try simp only [Act.put, List.setIfInBounds_toArray, List.set_cons_zero, List.set_cons_succ]
                                         as_aux_lemma =>
                                          refine h_take (i := 34) (d := (some 59)) (v := ?vh118) (by rfl) (by kernel_rfl) (by kernel_rfl) (by kernel_rfl) (fun _ _ _ h => h) (by rfl) ?hyh118 hHeld ?resth118
                                          case hyh118 =>
                                            intro o ho
                                            simp only [List.getElem?_toArray, List.getElem?_cons_succ, List.getElem?_cons_zero, Option.some.injEq] at ho
                                            subst ho
                                            rintro _ ⟨nw, rfl⟩
                                            first | (go_simp; done) | (go_simp; with_reducible rfl)
                                          try simp only [Act.put, List.setIfInBounds_toArray, List.set_cons_zero, List.set_cons_succ]
                                          as_aux_lemma =>
                                           refine h_take (i := 35) (d := (some 60)) (v := ?vh119) (by rfl) (by kernel_rfl) (by kernel_rfl) (by kernel_rfl) (fun _ _ _ h => h) (by rfl) ?hyh119 hHeld ?resth119
                                           case hyh119 =>
                                             intro o ho
                                             simp only [List.getElem?_toArray, List.getElem?_cons_succ, List.getElem?_cons_zero, Option.some.injEq] at ho
                                             subst ho
                                             rintro _ ⟨nw, rfl⟩
                                             first | (go_simp; done) | (go_simp; with_reducible rfl)
                                           try simp only [Act.put, List.setIfInBounds_toArray, List.set_cons_zero, List.set_cons_succ]
                                           as_aux_lemma =>
                                            refine h_take (i := 36) (d := (some 61)) (v := ?vh120) (by rfl) (by kernel_rfl) (by kernel_rfl) (by kernel_rfl) (fun _ _ _ h => h) (by rfl) ?hyh120 hHeld ?resth120
                                            case hyh120 =>
                                              intro o ho
                                              simp only [List.getElem?_toArray, List.getElem?_cons_succ, List.getElem?_cons_zero, Option.some.injEq] at ho
                                              subst ho
                                              rintro _ ⟨nw, rfl⟩
                                              first | (go_simp; done) | (go_simp; with_reducible rfl)
                                            try simp only [Act.put, List.setIfInBounds_toArray, List.set_cons_zero, List.set_cons_succ]
                                            as_aux_lemma =>
                                             refine h_take (i := 37) (d := (some 62)) (v := ?vh121) (by rfl) (by kernel_rfl) (by kernel_rfl) (by kernel_rfl) (fun _ _ _ h => h) (by rfl) ?hyh121 hHeld ?resth121
                                             case hyh121 =>
                                               intro o ho
                                               simp only [List.getElem?_toArray, List.getElem?_cons_succ, List.getElem?_cons_zero, Option.some.injEq] at ho
                                               subst ho
                                               rintro _ ⟨nw, rfl⟩
                                               first | (go_simp; done) | (go_simp; with_reducible rfl)
                                             try simp only [Act.put, List.setIfInBounds_toArray, List.set_cons_zero, List.set_cons_succ]
                                             as_aux_lemma =>
                                              refine h_take (i := 38) (d := (some 63)) (v := ?vh122) (by rfl) (by kernel_rfl) (by kernel_rfl) (by kernel_rfl) (fun _ _ _ h => h) (by rfl) ?hyh122 hHeld ?resth122
                                              case hyh122 =>
                                                intro o ho
                                                simp only [List.getElem?_toArray, List.getElem?_cons_succ, List.getElem?_cons_zero, Option.some.injEq] at ho
                                                subst ho
                                                rintro _ ⟨nw, rfl⟩
                                                first | (go_simp; done) | (go_simp; with_reducible rfl)
                                              try simp only [Act.put, List.setIfInBounds_toArray, List.set_cons_zero, List.set_cons_succ]
                                              as_aux_lemma =>
                                               refine h_take (i := 39) (d := (some 64)) (v := ?vh123) (by rfl) (by kernel_rfl) (by kernel_rfl) (by kernel_rfl) (fun _ _ _ h => h) (by rfl) ?hyh123 hHeld ?resth123
                                               case hyh123 =>
                                                 intro o ho
                                                 simp only [List.getElem?_toArray, List.getElem?_cons_succ, List.getElem?_cons_zero, Option.some.injEq] at ho
                                                 subst ho
                                                 rintro _ ⟨nw, rfl⟩
                                                 first | (go_simp; done) | (go_simp; with_reducible rfl)
                                               try simp only [Act.put, List.setIfInBounds_toArray, List.set_cons_zero, List.set_cons_succ]
                                               as_aux_lemma =>
                                                refine h_take (i := 40) (d := (some 65)) (v := ?vh124) (by rfl) (by kernel_rfl) (by kernel_rfl) (by kernel_rfl) (fun _ _ _ h => h) (by rfl) ?hyh124 hHeld ?resth124
                                                case hyh124 =>
                                                  intro o ho
                                                  simp only [List.getElem?_toArray, List.getElem?_cons_succ, List.getElem?_cons_zero, Option.some.injEq] at ho
                                                  subst ho
                                                  rintro _ ⟨nw, rfl⟩
                                                  first | (go_simp; done) | (go_simp; with_reducible rfl)
                                                try simp only [Act.put, List.setIfInBounds_toArray, List.set_cons_zero, List.set_cons_succ]
                                                as_aux_lemma =>
                                                 refine h_take (i := 41) (d := (some 66)) (v := ?vh125) (by rfl) (by kernel_rfl) (by kernel_rfl) (by kernel_rfl) (fun _ _ _ h => h) (by rfl) ?hyh125 hHeld ?resth125
                                                 case hyh125 =>
                                                   intro o ho
                                                   simp only [List.getElem?_toArray, List.getElem?_cons_succ, List.getElem?_cons_zero, Option.some.injEq] at ho
                                                   subst ho
                                                   rintro _ ⟨nw, rfl⟩
                                                   first | (go_simp; done) | (go_simp; with_reducible rfl)
                                                 try simp only [Act.put, List.setIfInBounds_toArray, List.set_cons_zero, List.set_cons_succ]
                                                 as_aux_lemma =>
                                                  refine h_take (i := 44) (d := (some 69)) (v := ?vh126) (by rfl) (by kernel_rfl) (by kernel_rfl) (by kernel_rfl) (fun _ _ _ h => h) (by rfl) ?hyh126 hHeld ?resth126
                                                  case hyh126 =>
                                                    intro o ho
                                                    simp only [List.getElem?_toArray, List.getElem?_cons_succ, List.getElem?_cons_zero, Option.some.injEq] at ho
                                                    subst ho
                                                    rintro _ ⟨nw, rfl⟩
                                                    first | (go_simp; done) | (go_simp; with_reducible rfl)
                                                  try simp only [Act.put, List.setIfInBounds_toArray, List.set_cons_zero, List.set_cons_succ]
                                                  as_aux_lemma =>
                                                   refine wpAnyH_ready (rs := [42]) (by kernel_rfl) (by simp) ?_
                                                   refine AllReadyH.cons rfl (fun K hK => ?_) AllReadyH.nil
                                                   go_simp
                                                   refine (C42 _ hcur).mono ?_
                                                   rintro x wq ⟨rfl, hbq⟩
                                                   have hcur := below_after_of hcur hbq
                                                   clear hbq
                                                   refine hK.out _ _ ?_ (fun hHeld => ?_)
                                                   · exact after_mk hcur
                                                   clear hK K
                                                   try simp only [Act.put, List.setIfInBounds_toArray, List.set_cons_zero, List.set_cons_succ]
                                                   as_aux_lemma =>
                                                    refine h_take (i := 43) (d := (some 68)) (v := ?vh127) (by rfl) (by kernel_rfl) (by kernel_rfl) (by kernel_rfl) (fun _ _ _ h => h) (by rfl) ?hyh127 hHeld ?resth127
                                                    case hyh127 =>
                                                      intro o ho
                                                      simp only [List.getElem?_toArray, List.getElem?_cons_succ, List.getElem?_cons_zero, Option.some.injEq] at ho
                                                      subst ho
                                                      rintro _ ⟨nw, rfl⟩
                                                      first | (go_simp; done) | (go_simp; with_reducible rfl)
                                                    try simp only [Act.put, List.setIfInBounds_toArray, List.set_cons_zero, List.set_cons_succ]
                                                    as_aux_lemma =>
                                                     refine h_take (i := 45) (d := (some 70)) (v := ?vh128) (by rfl) (by kernel_rfl) (by kernel_rfl) (by kernel_rfl) (fun _ _ _ h => h) (by rfl) ?hyh128 hHeld ?resth128
                                                     case hyh128 =>
                                                       intro o ho
                                                       simp only [List.getElem?_toArray, List.getElem?_cons_succ, List.getElem?_cons_zero, Option.some.injEq] at ho
                                                       subst ho
                                                       rintro _ ⟨nw, rfl⟩
                                                       first | (go_simp; done) | (go_simp; with_reducible rfl)
                                                     try simp only [Act.put, List.setIfInBounds_toArray, List.set_cons_zero, List.set_cons_succ]
                                                     as_aux_lemma =>
                                                      refine h_take (i := 46) (d := (some 71)) (v := ?vh129) (by rfl) (by kernel_rfl) (by kernel_rfl) (by kernel_rfl) (fun _ _ _ h => h) (by rfl) ?hyh129 hHeld ?resth129
                                                      case hyh129 =>
                                                        intro o ho
                                                        simp only [List.getElem?_toArray, List.getElem?_cons_succ, List.getElem?_cons_zero, Option.some.injEq] at ho
                                                        subst ho
                                                        rintro _ ⟨nw, rfl⟩
                                                        first | (go_simp; done) | (go_simp; with_reducible rfl)
                                                      try simp only [Act.put, List.setIfInBounds_toArray, List.set_cons_zero, List.set_cons_succ]
                                                      as_aux_lemma =>
                                                       refine h_take (i := 47) (d := (some 72)) (v := ?vh130) (by rfl) (by kernel_rfl) (by kernel_rfl) (by kernel_rfl) (fun _ _ _ h => h) (by rfl) ?hyh130 hHeld ?resth130
                                                       case hyh130 =>
                                                         intro o ho
                                                         simp only [List.getElem?_toArray, List.getElem?_cons_succ, List.getElem?_cons_zero, Option.some.injEq] at ho
                                                         subst ho
                                                         rintro _ ⟨nw, rfl⟩
                                                         first | (go_simp; done) | (go_simp; with_reducible rfl)
                                                       try simp only [Act.put, List.setIfInBounds_toArray, List.set_cons_zero, List.set_cons_succ]
                                                       as_aux_lemma =>
                                                        refine h_take (i := 48) (d := (some 73)) (v := ?vh131) (by rfl) (by kernel_rfl) (by kernel_rfl) (by kernel_rfl) (fun _ _ _ h => h) (by rfl) ?hyh131 hHeld ?resth131
                                                        case hyh131 =>
                                                          intro o ho
                                                          simp only [List.getElem?_toArray, List.getElem?_cons_succ, List.getElem?_cons_zero, Option.some.injEq] at ho
                                                          subst ho
                                                          rintro _ ⟨nw, rfl⟩
                                                          first | (go_simp; done) | (go_simp; with_reducible rfl)
                                                        try simp only [Act.put, List.setIfInBounds_toArray, List.set_cons_zero, List.set_cons_succ]
                                                        as_aux_lemma =>
                                                         refine wpAnyH_ready (rs := [49]) (by kernel_rfl) (by simp) ?_
                                                         refine AllReadyH.cons rfl (fun K hK => ?_) AllReadyH.nil
                                                         go_simp
                                                         refine (C42 _ hcur).mono ?_
                                                         rintro x wq ⟨rfl, hbq⟩
                                                         have hcur := below_after_of hcur hbq
                                                         clear hbq
                                                         refine hK.out _ _ ?_ (fun hHeld => ?_)
                                                         · exact after_mk hcur
                                                         clear hK K
                                                         try simp only [Act.put, List.setIfInBounds_toArray, List.set_cons_zero, List.set_cons_succ]
                                                         as_aux_lemma =>
                                                          refine h_take (i := 50) (d := (some 75)) (v := ?vh132) (by rfl) (by kernel_rfl) (by kernel_rfl) (by kernel_rfl) (fun _ _ _ h => h) (by rfl) ?hyh132 hHeld ?resth132
                                                          case hyh132 =>
                                                            intro o ho
                                                            simp only [List.getElem?_toArray, List.getElem?_cons_succ, List.getElem?_cons_zero, Option.some.injEq] at ho
                                                            subst ho
                                                            rintro _ ⟨nw, rfl⟩
                                                            first | (go_simp; done) | (go_simp; with_reducible rfl)
                                                          try simp only [Act.put, List.setIfInBounds_toArray, List.set_cons_zero, List.set_cons_succ]
                                                          as_aux_lemma =>
                                                           refine h_take (i := 51) (d := (some 76)) (v := ?vh133) (by rfl) (by kernel_rfl) (by kernel_rfl) (by kernel_rfl) (fun _ _ _ h => h) (by rfl) ?hyh133 hHeld ?resth133
                                                           case hyh133 =>
                                                             intro o ho
                                                             simp only [List.getElem?_toArray, List.getElem?_cons_succ, List.getElem?_cons_zero, Option.some.injEq] at ho
                                                             subst ho
                                                             rintro _ ⟨nw, rfl⟩
                                                             first | (go_simp; done) | (go_simp; with_reducible rfl)
                                                           try simp only [Act.put, List.setIfInBounds_toArray, List.set_cons_zero, List.set_cons_succ]
                                                           as_aux_lemma =>
                                                            refine h_take (i := 52) (d := (some 77)) (v := ?vh134) (by rfl) (by kernel_rfl) (by kernel_rfl) (by kernel_rfl) (fun _ _ _ h => h) (by rfl) ?hyh134 hHeld ?resth134
                                                            case hyh134 =>
                                                              intro o ho
                                                              simp only [List.getElem?_toArray, List.getElem?_cons_succ, List.getElem?_cons_zero, Option.some.injEq] at ho
                                                              subst ho
                                                              rintro _ ⟨nw, rfl⟩
                                                              first | (go_simp; done) | (go_simp; with_reducible rfl)
                                                            try simp only [Act.put, List.setIfInBounds_toArray, List.set_cons_zero, List.set_cons_succ]
                                                            as_aux_lemma =>
                                                             refine h_take (i := 53) (d := (some 78)) (v := ?vh135) (by rfl) (by kernel_rfl) (by kernel_rfl) (by kernel_rfl) (fun _ _ _ h => h) (by rfl) ?hyh135 hHeld ?resth135
                                                             case hyh135 =>
                                                               intro o ho
                                                               simp only [List.getElem?_toArray, List.getElem?_cons_succ, List.getElem?_cons_zero, Option.some.injEq] at ho
                                                               subst ho
                                                               rintro _ ⟨nw, rfl⟩
                                                               first | (go_simp; done) | (go_simp; with_reducible rfl)
                                                             try simp only [Act.put, List.setIfInBounds_toArray, List.set_cons_zero, List.set_cons_succ]
                                                             as_aux_lemma =>
                                                              refine h_take (i := 54) (d := (some 79)) (v := ?vh136) (by rfl) (by kernel_rfl) (by kernel_rfl) (by kernel_rfl) (fun _ _ _ h => h) (by rfl) ?hyh136 hHeld ?resth136
                                                              case hyh136 =>
                                                                intro o ho
                                                                simp only [List.getElem?_toArray, List.getElem?_cons_succ, List.getElem?_cons_zero, Option.some.injEq] at ho
                                                                subst ho
                                                                rintro _ ⟨nw, rfl⟩
                                                                first | (go_simp; done) | (go_simp; with_reducible rfl)
                                                              try simp only [Act.put, List.setIfInBounds_toArray, List.set_cons_zero, List.set_cons_succ]
                                                              as_aux_lemma =>
                                                               refine h_take (i := 57) (d := (some 82)) (v := ?vh137) (by rfl) (by kernel_rfl) (by kernel_rfl) (by kernel_rfl) (fun _ _ _ h => h) (by rfl) ?hyh137 hHeld ?resth137
                                                               case hyh137 =>
                                                                 intro o ho
                                                                 simp only [List.getElem?_toArray, List.getElem?_cons_succ, List.getElem?_cons_zero, Option.some.injEq] at ho
                                                                 subst ho
                                                                 rintro _ ⟨nw, rfl⟩
                                                                 first | (go_simp; done) | (go_simp; with_reducible rfl)
                                                               try simp only [Act.put, List.setIfInBounds_toArray, List.set_cons_zero, List.set_cons_succ]
                                                               as_aux_lemma =>
                                                                refine h_take (i := 58) (d := (some 83)) (v := ?vh138) (by rfl) (by kernel_rfl) (by kernel_rfl) (by kernel_rfl) (fun _ _ _ h => h) (by rfl) ?hyh138 hHeld ?resth138
                                                                case hyh138 =>
                                                                  intro o ho
                                                                  simp only [List.getElem?_toArray, List.getElem?_cons_succ, List.getElem?_cons_zero, Option.some.injEq] at ho
                                                                  subst ho
                                                                  rintro _ ⟨nw, rfl⟩
                                                                  first | (go_simp; done) | (go_simp; with_reducible rfl)
                                                                try simp only [Act.put, List.setIfInBounds_toArray, List.set_cons_zero, List.set_cons_succ]
                                                                as_aux_lemma =>
                                                                 refine wpAnyH_ready (rs := [55]) (by kernel_rfl) (by simp) ?_
                                                                 refine AllReadyH.cons rfl (fun K hK => ?_) AllReadyH.nil
                                                                 go_simp
                                                                 refine (C55 _).mono ?_
                                                                 rintro x wq ⟨rfl, hbq⟩
                                                                 have hcur := below_after_of hcur hbq
                                                                 clear hbq
                                                                 refine hK.out _ _ ?_ (fun hHeld => ?_)
                                                                 · exact after_mk hcur
                                                                 clear hK K
                                                                 try simp only [Act.put, List.setIfInBounds_toArray, List.set_cons_zero, List.set_cons_succ]
                                                                 as_aux_lemma =>
                                                                  refine h_take (i := 56) (d := (some 81)) (v := ?vh139) (by rfl) (by kernel_rfl) (by kernel_rfl) (by kernel_rfl) (fun _ _ _ h => h) (by rfl) ?hyh139 hHeld ?resth139
                                                                  case hyh139 =>
                                                                    intro o ho
                                                                    simp only [List.getElem?_toArray, List.getElem?_cons_succ, List.getElem?_cons_zero, Option.some.injEq] at ho
                                                                    subst ho
                                                                    rintro _ ⟨nw, rfl⟩
                                                                    first | (go_simp; done) | (go_simp; with_reducible rfl)
                                                                  try simp only [Act.put, List.setIfInBounds_toArray, List.set_cons_zero, List.set_cons_succ]
                                                                  as_aux_lemma =>
                                                                   refine wpAnyH_ready (rs := [59]) (by kernel_rfl) (by simp) ?_
                                                                   refine AllReadyH.cons rfl (fun K hK => ?_) AllReadyH.nil
                                                                   go_simp
                                                                   refine (C59 _ hcur).mono ?_
                                                                   rintro x wq ⟨rfl, hbq⟩
                                                                   have hcur := below_after_of hcur hbq
                                                                   clear hbq
                                                                   refine hK.out _ _ ?_ (fun hHeld => ?_)
                                                                   · exact after_mk hcur
                                                                   clear hK K
                                                                   try simp only [Act.put, List.setIfInBounds_toArray, List.set_cons_zero, List.set_cons_succ]
                                                                   as_aux_lemma =>
                                                                    refine h_take (i := 60) (d := (some 85)) (v := ?vh140) (by rfl) (by kernel_rfl) (by kernel_rfl) (by kernel_rfl) (fun _ _ _ h => h) (by rfl) ?hyh140 hHeld ?resth140
                                                                    case hyh140 =>
                                                                      intro o ho
                                                                      simp only [List.getElem?_toArray, List.getElem?_cons_succ, List.getElem?_cons_zero, Option.some.injEq] at ho
                                                                      subst ho
                                                                      rintro _ ⟨nw, rfl⟩
                                                                      first | (go_simp; done) | (go_simp; with_reducible rfl)
                                                                    try simp only [Act.put, List.setIfInBounds_toArray, List.set_cons_zero, List.set_cons_succ]
                                                                    as_aux_lemma =>
                                                                     refine h_take (i := 61) (d := (some 86)) (v := ?vh141) (by rfl) (by kernel_rfl) (by kernel_rfl) (by kernel_rfl) (fun _ _ _ h => h) (by rfl) ?hyh141 hHeld ?resth141
                                                                     case hyh141 =>
                                                                       intro o ho
                                                                       simp only [List.getElem?_toArray, List.getElem?_cons_succ, List.getElem?_cons_zero, Option.some.injEq] at ho
                                                                       subst ho
                                                                       rintro _ ⟨nw, rfl⟩
                                                                       first | (go_simp; done) | (go_simp; with_reducible rfl)
                                                                     try simp only [Act.put, List.setIfInBounds_toArray, List.set_cons_zero, List.set_cons_succ]
                                                                     as_aux_lemma =>
                                                                      refine h_take (i := 62) (d := (some 87)) (v := ?vh142) (by rfl) (by kernel_rfl) (by kernel_rfl) (by kernel_rfl) (fun _ _ _ h => h) (by rfl) ?hyh142 hHeld ?resth142
                                                                      case hyh142 =>
                                                                        intro o ho
                                                                        simp only [List.getElem?_toArray, List.getElem?_cons_succ, List.getElem?_cons_zero, Option.some.injEq] at ho
                                                                        subst ho
                                                                        rintro _ ⟨nw, rfl⟩
                                                                        first | (go_simp; done) | (go_simp; with_reducible rfl)
                                                                      try simp only [Act.put, List.setIfInBounds_toArray, List.set_cons_zero, List.set_cons_succ]
                                                                      as_aux_lemma =>
                                                                       refine h_take (i := 63) (d := (some 88)) (v := ?vh143) (by rfl) (by kernel_rfl) (by kernel_rfl) (by kernel_rfl) (fun _ _ _ h => h) (by rfl) ?hyh143 hHeld ?resth143
                                                                       case hyh143 =>
                                                                         intro o ho
                                                                         simp only [List.getElem?_toArray, List.getElem?_cons_succ, List.getElem?_cons_zero, Option.some.injEq] at ho
                                                                         subst ho
                                                                         rintro _ ⟨nw, rfl⟩
                                                                         first | (go_simp; done) | (go_simp; with_reducible rfl)
                                                                       try simp only [Act.put, List.setIfInBounds_toArray, List.set_cons_zero, List.set_cons_succ]
                                                                       as_aux_lemma =>
                                                                        refine h_take (i := 64) (d := (some 89)) (v := ?vh144) (by rfl) (by kernel_rfl) (by kernel_rfl) (by kernel_rfl) (fun _ _ _ h => h) (by rfl) ?hyh144 hHeld ?resth144
                                                                        case hyh144 =>
                                                                          intro o ho
                                                                          simp only [List.getElem?_toArray, List.getElem?_cons_succ, List.getElem?_cons_zero, Option.some.injEq] at ho
                                                                          subst ho
                                                                          rintro _ ⟨nw, rfl⟩
                                                                          first | (go_simp; done) | (go_simp; with_reducible rfl)
                                                                        try simp only [Act.put, List.setIfInBounds_toArray, List.set_cons_zero, List.set_cons_succ]
                                                                        as_aux_lemma =>
                                                                         refine wpAnyH_done (by kernel_rfl) ?_ _
                                                                         go_wp2
                                                                         go_meet
                                                                         case rel => exact ⟨rfl, hcur⟩
      · have hre : (rc == 0) = false := by simpa using hr0
        clear hr0
        have hpe : (pc == 0) = false := by simpa using hp0
        clear hp0
        refine wp_region_held_drew (S := fun w' => ∃ n : After W4, w' = n.w) (by kernel_rfl) (after_mk (Below.refl _ _).drew) (fun hHeld => ?_)
        have hcur : Below W4.heap.size W4 W4.drew := (Below.refl _ _).drew
        refine h_take (i := 0) (d := (some 25)) (v := ?vh145) (by rfl) (by kernel_rfl) (by kernel_rfl) (by kernel_rfl) (fun _ _ _ h => h) (by rfl) ?hyh145 hHeld ?resth145
        case hyh145 =>
          intro o ho
          simp only [List.getElem?_toArray, List.getElem?_cons_zero, Option.some.injEq] at ho
          subst ho
          rintro _ ⟨nw, rfl⟩
          first | (go_simp; done) | (go_simp; with_reducible rfl)
        try simp only [Act.put, List.setIfInBounds_toArray, List.set_cons_zero, List.set_cons_succ]
        as_aux_lemma =>
         refine h_take (i := 1) (d := (some 26)) (v := ?vh146) (by rfl) (by kernel_rfl) (by kernel_rfl) (by kernel_rfl) (fun _ _ _ h => h) (by rfl) ?hyh146 hHeld ?resth146
         case hyh146 =>
           intro o ho
           simp only [List.getElem?_toArray, List.getElem?_cons_succ, List.getElem?_cons_zero, Option.some.injEq] at ho
           subst ho
           rintro _ ⟨nw, rfl⟩
           first | (go_simp; done) | (go_simp; with_reducible rfl)
         try simp only [Act.put, List.setIfInBounds_toArray, List.set_cons_zero, List.set_cons_succ]
         as_aux_lemma =>
          refine h_take (i := 2) (d := (some 27)) (v := ?vh147) (by rfl) (by kernel_rfl) (by kernel_rfl) (by kernel_rfl) (fun _ _ _ h => h) (by rfl) ?hyh147 hHeld ?resth147
          case hyh147 =>
            intro o ho
            simp only [List.getElem?_toArray, List.getElem?_cons_succ, List.getElem?_cons_zero, Option.some.injEq] at ho
            subst ho
            rintro _ ⟨nw, rfl⟩
            first | (go_simp; done) | (go_simp; with_reducible rfl)
          try simp only [Act.put, List.setIfInBounds_toArray, List.set_cons_zero, List.set_cons_succ]
          as_aux_lemma =>
           refine wpAnyH_ready (rs := [3]) (by kernel_rfl) (by simp) ?_
           refine AllReadyH.cons rfl (fun K hK => ?_) AllReadyH.nil
           go_simp
           refine (T.c3 _ hcur).mono ?_
           rintro x wq ⟨rfl, hbq⟩
           unfold hrV
           have hcur := below_after_of hcur hbq
           clear hbq
           refine hK.out _ _ ?_ (fun hHeld => ?_)
           · exact after_mk hcur
           clear hK K
           try simp only [Act.put, List.setIfInBounds_toArray, List.set_cons_zero, List.set_cons_succ]
           as_aux_lemma =>
            refine h_take (i := 4) (d := (some 29)) (v := ?vh148) (by rfl) (by kernel_rfl) (by kernel_rfl) (by kernel_rfl) (fun _ _ _ h => h) (by rfl) ?hyh148 hHeld ?resth148
            case hyh148 =>
              intro o ho
              simp only [List.getElem?_toArray, List.getElem?_cons_succ, List.getElem?_cons_zero, Option.some.injEq] at ho
              subst ho
              rintro _ ⟨nw, rfl⟩
              first | (go_simp; done) | (go_simp; with_reducible rfl)
            try simp only [Act.put, List.setIfInBounds_toArray, List.set_cons_zero, List.set_cons_succ]
            as_aux_lemma =>
             refine h_take (i := 5) (d := (some 30)) (v := ?vh149) (by rfl) (by kernel_rfl) (by kernel_rfl) (by kernel_rfl) (fun _ _ _ h => h) (by rfl) ?hyh149 hHeld ?resth149
             case hyh149 =>
               intro o ho
               simp only [List.getElem?_toArray, List.getElem?_cons_succ, List.getElem?_cons_zero, Option.some.injEq] at ho
               subst ho
               rintro _ ⟨nw, rfl⟩
               first | (go_simp; done) | (go_simp; with_reducible rfl)
             try simp only [Act.put, List.setIfInBounds_toArray, List.set_cons_zero, List.set_cons_succ]
             as_aux_lemma =>
              refine h_take (i := 6) (d := (some 31)) (v := ?vh150) (by rfl) (by kernel_rfl) (by kernel_rfl) (by kernel_rfl) (fun _ _ _ h => h) (by rfl) ?hyh150 hHeld ?resth150
              case hyh150 =>
                intro o ho
                simp only [List.getElem?_toArray, List.getElem?_cons_succ, List.getElem?_cons_zero, Option.some.injEq] at ho
                subst ho
                rintro _ ⟨nw, rfl⟩
                first | (go_simp; done) | (go_simp; with_reducible rfl)
              try simp only [Act.put, List.setIfInBounds_toArray, List.set_cons_zero, List.set_cons_succ]
              as_aux_lemma =>
               refine h_take (i := 7) (d := (some 32)) (v := ?vh151) (by rfl) (by kernel_rfl) (by kernel_rfl) (by kernel_rfl) (fun _ _ _ h => h) (by rfl) ?hyh151 hHeld ?resth151
               case hyh151 =>
                 intro o ho
                 simp only [List.getElem?_toArray, List.getElem?_cons_succ, List.getElem?_cons_zero, Option.some.injEq] at ho
                 subst ho
                 rintro _ ⟨nw, rfl⟩
                 first | (go_simp; done) | (go_simp; with_reducible rfl)
               try simp only [Act.put, List.setIfInBounds_toArray, List.set_cons_zero, List.set_cons_succ]
               as_aux_lemma =>
                refine h_take (i := 8) (d := (some 33)) (v := ?vh152) (by rfl) (by kernel_rfl) (by kernel_rfl) (by kernel_rfl) (fun _ _ _ h => h) (by rfl) ?hyh152 hHeld ?resth152
                case hyh152 =>
                  intro o ho
                  simp only [List.getElem?_toArray, List.getElem?_cons_succ, List.getElem?_cons_zero, Option.some.injEq] at ho
                  subst ho
                  rintro _ ⟨nw, rfl⟩
                  first | (go_simp; done) | (go_simp; with_reducible rfl)
                try simp only [Act.put, List.setIfInBounds_toArray, List.set_cons_zero, List.set_cons_succ]
                as_aux_lemma =>
                 refine h_take (i := 9) (d := (some 34)) (v := ?vh153) (by rfl) (by kernel_rfl) (by kernel_rfl) (by kernel_rfl) (fun _ _ _ h => h) (by rfl) ?hyh153 hHeld ?resth153
                 case hyh153 =>
                   intro o ho
                   simp only [List.getElem?_toArray, List.getElem?_cons_succ, List.getElem?_cons_zero, Option.some.injEq] at ho
                   subst ho
                   rintro _ ⟨nw, rfl⟩
                   first | (go_simp; done) | (go_simp; with_reducible rfl)
                 try simp only [Act.put, List.setIfInBounds_toArray, List.set_cons_zero, List.set_cons_succ]
                 as_aux_lemma =>
                  refine h_take (i := 10) (d := (some 35)) (v := ?vh154) (by rfl) (by kernel_rfl) (by kernel_rfl) (by kernel_rfl) (fun _ _ _ h => h) (by rfl) ?hyh154 hHeld ?resth154
                  case hyh154 =>
                    intro o ho
                    simp only [List.getElem?_toArray, List.getElem?_cons_succ, List.getElem?_cons_zero, Option.some.injEq] at ho
                    subst ho
                    rintro _ ⟨nw, rfl⟩
                    first | (go_simp; done) | (go_simp; with_reducible rfl)
                  try simp only [Act.put, List.setIfInBounds_toArray, List.set_cons_zero, List.set_cons_succ]
                  as_aux_lemma =>
                   refine h_skip (i := 11) (d := (some 36)) (by rfl) (by kernel_rfl) (by kernel_rfl) (by kernel_rfl) (fun _ _ _ h => h) (by rfl) hHeld ?_
                   try simp only [Act.put, List.setIfInBounds_toArray, List.set_cons_zero, List.set_cons_succ]
                   as_aux_lemma =>
                    refine h_skip (i := 12) (d := (some 37)) (by rfl) (by kernel_rfl) (by kernel_rfl) (by kernel_rfl) (fun _ _ _ h => h) (by rfl) hHeld ?_
                    try simp only [Act.put, List.setIfInBounds_toArray, List.set_cons_zero, List.set_cons_succ]
                    as_aux_lemma =>
                     refine h_skip (i := 15) (d := (some 40)) (by rfl) (by kernel_rfl) (by kernel_rfl) (by kernel_rfl) (fun _ _ _ h => h) (by rfl) hHeld ?_
                     try simp only [Act.put, List.setIfInBounds_toArray, List.set_cons_zero, List.set_cons_succ]
                     as_aux_lemma =>
                      refine h_skip (i := 13) (d := (some 38)) (by rfl) (by kernel_rfl) (by kernel_rfl) (by kernel_rfl) (fun _ _ _ h => h) (by rfl) hHeld ?_
                      try simp only [Act.put, List.setIfInBounds_toArray, List.set_cons_zero, List.set_cons_succ]
                      as_aux_lemma =>
                       refine h_skip (i := 14) (d := (some 39)) (by rfl) (by kernel_rfl) (by kernel_rfl) (by kernel_rfl) (fun _ _ _ h => h) (by rfl) hHeld ?_
                       try simp only [Act.put, List.setIfInBounds_toArray, List.set_cons_zero, List.set_cons_succ]
                       as_aux_lemma =>
                        refine h_skip (i := 16) (d := (some 41)) (by rfl) (by kernel_rfl) (by kernel_rfl) (by kernel_rfl) (fun _ _ _ h => h) (by rfl) hHeld ?_
                        try simp only [Act.put, List.setIfInBounds_toArray, List.set_cons_zero, List.set_cons_succ]
                        as_aux_lemma =>
                         refine h_skip (i := 17) (d := (some 42)) (by rfl) (by kernel_rfl) (by kernel_rfl) (by kernel_rfl) (fun _ _ _ h => h) (by rfl) hHeld ?_
                         try simp only [Act.put, List.setIfInBounds_toArray, List.set_cons_zero, List.set_cons_succ]
                         as_aux_lemma =>
                          refine h_take (i := 18) (d := (some 43)) (v := ?vh155) (by rfl) (by kernel_rfl) (by kernel_rfl) (by kernel_rfl) (fun _ _ _ h => h) (by rfl) ?hyh155 hHeld ?resth155
                          case hyh155 =>
                            intro o ho
                            simp only [List.getElem?_toArray, List.getElem?_cons_succ, List.getElem?_cons_zero, Option.some.injEq] at ho
                            subst ho
                            rintro _ ⟨nw, rfl⟩
                            first | (go_simp; done) | (go_simp; with_reducible rfl)
                          try simp only [Act.put, List.setIfInBounds_toArray, List.set_cons_zero, List.set_cons_succ]
                          as_aux_lemma =>
                           refine h_take (i := 19) (d := (some 44)) (v := ?vh156) (by rfl) (by kernel_rfl) (by kernel_rfl) (by kernel_rfl) (fun _ _ _ h => h) (by rfl) ?hyh156 hHeld ?resth156
                           case hyh156 =>
                             intro o ho
                             simp only [List.getElem?_toArray, List.getElem?_cons_succ, List.getElem?_cons_zero, Option.some.injEq] at ho
                             subst ho
                             rintro _ ⟨nw, rfl⟩
                             first | (go_simp; done) | (go_simp; with_reducible rfl)
                           try simp only [Act.put, List.setIfInBounds_toArray, List.set_cons_zero, List.set_cons_succ]
                           as_aux_lemma =>
                            refine h_take (i := 20) (d := (some 45)) (v := ?vh157) (by rfl) (by kernel_rfl) (by kernel_rfl) (by kernel_rfl) (fun _ _ _ h => h) (by rfl) ?hyh157 hHeld ?resth157
                            case hyh157 =>
                              intro o ho
                              simp only [List.getElem?_toArray, List.getElem?_cons_succ, List.getElem?_cons_zero, Option.some.injEq] at ho
                              subst ho
                              rintro _ ⟨nw, rfl⟩
                              first | (go_simp; done) | (go_simp; with_reducible rfl)
                            try simp only [Act.put, List.setIfInBounds_toArray, List.set_cons_zero, List.set_cons_succ]
                            as_aux_lemma =>
                             refine h_take (i := 21) (d := (some 46)) (v := ?vh158) (by rfl) (by kernel_rfl) (by kernel_rfl) (by kernel_rfl) (fun _ _ _ h => h) (by rfl) ?hyh158 hHeld ?resth158
                             case hyh158 =>
                               intro o ho
                               simp only [List.getElem?_toArray, List.getElem?_cons_succ, List.getElem?_cons_zero, Option.some.injEq] at ho
                               subst ho
                               rintro _ ⟨nw, rfl⟩
                               first | (go_simp; done) | (go_simp; with_reducible rfl)
                             try simp only [Act.put, List.setIfInBounds_toArray, List.set_cons_zero, List.set_cons_succ]
                             as_aux_lemma =>
                              refine h_take (i := 22) (d := (some 47)) (v := ?vh159) (by rfl) (by kernel_rfl) (by kernel_rfl) (by kernel_rfl) (fun _ _ _ h => h) (by rfl) ?hyh159 hHeld ?resth159
                              case hyh159 =>
                                intro o ho
                                simp only [List.getElem?_toArray, List.getElem?_cons_succ, List.getElem?_cons_zero, Option.some.injEq] at ho
                                subst ho
                                rintro _ ⟨nw, rfl⟩
                                first | (go_simp; done) | (go_simp; with_reducible rfl)
                              try simp only [Act.put, List.setIfInBounds_toArray, List.set_cons_zero, List.set_cons_succ]
                              as_aux_lemma =>
                               refine h_take (i := 23) (d := (some 48)) (v := ?vh160) (by rfl) (by kernel_rfl) (by kernel_rfl) (by kernel_rfl) (fun _ _ _ h => h) (by rfl) ?hyh160 hHeld ?resth160
                               case hyh160 =>
                                 intro o ho
                                 simp only [List.getElem?_toArray, List.getElem?_cons_succ, List.getElem?_cons_zero, Option.some.injEq] at ho
                                 subst ho
                                 rintro _ ⟨nw, rfl⟩
                                 first | (go_simp; done) | (go_simp; with_reducible rfl)
                               try simp only [Act.put, List.setIfInBounds_toArray, List.set_cons_zero, List.set_cons_succ]
                               as_aux_lemma =>
                                refine wpAnyH_ready (rs := [24]) (by kernel_rfl) (by simp) ?_
                                refine AllReadyH.cons rfl (fun K hK => ?_) AllReadyH.nil
                                go_simp
                                refine (C24 _).mono ?_
                                intro x wq h24
                                obtain ⟨a24, k24, rfl, hbq, -⟩ := h24.use
                                have kf24 := fun w => fldB0 pc a24 hl.length k24 w
                                generalize hl.length = n24 at *
                                have hcur := below_after_of hcur hbq
                                clear hbq
                                clear h24
                                refine hK.out _ _ ?_ (fun hHeld => ?_)
                                · exact after_mk hcur
                                clear hK K
                                try simp only [Act.put, List.setIfInBounds_toArray, List.set_cons_zero, List.set_cons_succ]
                                as_aux_lemma =>
                                 refine h_take (i := 25) (d := (some 50)) (v := ?vh161) (by rfl) (by kernel_rfl) (by kernel_rfl) (by kernel_rfl) (fun _ _ _ h => h) (by rfl) ?hyh161 hHeld ?resth161
                                 case hyh161 =>
                                   intro o ho
                                   simp only [List.getElem?_toArray, List.getElem?_cons_succ, List.getElem?_cons_zero, Option.some.injEq] at ho
                                   subst ho
                                   rintro _ ⟨nw, rfl⟩
                                   first | (go_simp; done) | (go_simp; with_reducible rfl)
                                 try simp only [Act.put, List.setIfInBounds_toArray, List.set_cons_zero, List.set_cons_succ]
                                 as_aux_lemma =>
                                  refine h_take (i := 26) (d := (some 51)) (v := ?vh162) (by rfl) (by kernel_rfl) (by kernel_rfl) (by kernel_rfl) (fun _ _ _ h => h) (by rfl) ?hyh162 hHeld ?resth162
                                  case hyh162 =>
                                    intro o ho
                                    simp only [List.getElem?_toArray, List.getElem?_cons_succ, List.getElem?_cons_zero, Option.some.injEq] at ho
                                    subst ho
                                    rintro _ ⟨nw, rfl⟩
                                    first | (go_simp; done) | (go_simp; with_reducible rfl)
                                  try simp only [Act.put, List.setIfInBounds_toArray, List.set_cons_zero, List.set_cons_succ]
                                  as_aux_lemma =>
                                   refine h_take (i := 27) (d := (some 52)) (v := ?vh163) (by rfl) (by kernel_rfl) (by kernel_rfl) (by kernel_rfl) (fun _ _ _ h => h) (by rfl) ?hyh163 hHeld ?resth163
                                   case hyh163 =>
                                     intro o ho
                                     simp only [List.getElem?_toArray, List.getElem?_cons_succ, List.getElem?_cons_zero, Option.some.injEq] at ho
                                     subst ho
                                     rintro _ ⟨nw, rfl⟩
                                     first | (go_simp; done) | (go_simp; with_reducible rfl)
                                   try simp only [Act.put, List.setIfInBounds_toArray, List.set_cons_zero, List.set_cons_succ]
                                   as_aux_lemma =>
                                    refine h_take (i := 28) (d := (some 53)) (v := ?vh164) (by rfl) (by kernel_rfl) (by kernel_rfl) (by kernel_rfl) (fun _ _ _ h => h) (by rfl) ?hyh164 hHeld ?resth164
                                    case hyh164 =>
                                      intro o ho
                                      simp only [List.getElem?_toArray, List.getElem?_cons_succ, List.getElem?_cons_zero, Option.some.injEq] at ho
                                      subst ho
                                      rintro _ ⟨nw, rfl⟩
                                      first | (go_simp; done) | (go_simp; with_reducible rfl)
                                    try simp only [Act.put, List.setIfInBounds_toArray, List.set_cons_zero, List.set_cons_succ]
                                    as_aux_lemma =>
                                     refine h_take (i := 29) (d := (some 54)) (v := ?vh165) (by rfl) (by kernel_rfl) (by kernel_rfl) (by kernel_rfl) (fun _ _ _ h => h) (by rfl) ?hyh165 hHeld ?resth165
                                     case hyh165 =>
                                       intro o ho
                                       simp only [List.getElem?_toArray, List.getElem?_cons_succ, List.getElem?_cons_zero, Option.some.injEq] at ho
                                       subst ho
                                       rintro _ ⟨nw, rfl⟩
                                       first | (go_simp; done) | (go_simp; with_reducible rfl)
                                     try simp only [Act.put, List.setIfInBounds_toArray, List.set_cons_zero, List.set_cons_succ]
                                     as_aux_lemma =>
                                      refine h_take (i := 30) (d := (some 55)) (v := ?vh166) (by rfl) (by kernel_rfl) (by kernel_rfl) (by kernel_rfl) (fun _ _ _ h => h) (by rfl) ?hyh166 hHeld ?resth166
                                      case hyh166 =>
                                        intro o ho
                                        simp only [List.getElem?_toArray, List.getElem?_cons_succ, List.getElem?_cons_zero, Option.some.injEq] at ho
                                        subst ho
                                        rintro _ ⟨nw, rfl⟩
                                        first | (go_simp; done) | (go_simp; with_reducible rfl)
                                      try simp only [Act.put, List.setIfInBounds_toArray, List.set_cons_zero, List.set_cons_succ]
                                      as_aux_lemma =>
                                       refine h_take (i := 31) (d := (some 56)) (v := ?vh167) (by rfl) (by kernel_rfl) (by kernel_rfl) (by kernel_rfl) (fun _ _ _ h => h) (by rfl) ?hyh167 hHeld ?resth167
                                       case hyh167 =>
                                         intro o ho
                                         simp only [List.getElem?_toArray, List.getElem?_cons_succ, List.getElem?_cons_zero, Option.some.injEq] at ho
                                         subst ho
                                         rintro _ ⟨nw, rfl⟩
                                         first | (go_simp; done) | (go_simp; with_reducible rfl)
                                       try simp only [Act.put, List.setIfInBounds_toArray, List.set_cons_zero, List.set_cons_succ]
                                       as_aux_lemma =>
                                        refine wpAnyH_ready (rs := [32]) (by kernel_rfl) (by simp) ?_
                                        refine AllReadyH.cons rfl (fun K hK => ?_) AllReadyH.nil
                                        go_simp
                                        refine (C32 _).mono ?_
                                        rintro x wq ⟨rfl, hbq⟩
                                        have hcur := below_after_of hcur hbq
                                        clear hbq
                                        refine hK.out _ _ ?_ (fun hHeld => ?_)
                                        · exact after_mk hcur
                                        clear hK K
                                        try simp only [Act.put, List.setIfInBounds_toArray, List.set_cons_zero, List.set_cons_succ]
                                        as_aux_lemma =>
                                         refine h_take (i := 33) (d := (some 58)) (v := ?vh168) (by rfl) (by kernel_rfl) (by kernel_rfl) (by kernel_rfl) (fun _ _ _ h => h) (by rfl) ?hyh168 hHeld ?resth168
                                         case hyh168 =>
                                           intro o ho
                                           simp only [List.getElem?_toArray, List.getElem?_cons_succ, List.getElem?_cons_zero, Option.some.injEq] at ho
                                           subst ho
                                           rintro _ ⟨nw, rfl⟩
                                           first | (go_simp; done) | (go_simp; with_reducible rfl)
                                         try simp only [Act.put, List.setIfInBounds_toArray, List.set_cons_zero, List.set_cons_succ]
                                         as_aux_lemma =>
                                          refine h_take (i := 34) (d := (some 59)) (v := ?vh169) (by rfl) (by kernel_rfl) (by kernel_rfl) (by kernel_rfl) (fun _ _ _ h => h) (by rfl) ?hyh169 hHeld ?resth169
                                          case hyh169 =>
                                            intro o ho
                                            simp only [List.getElem?_toArray, List.getElem?_cons_succ, List.getElem?_cons_zero, Option.some.injEq] at ho
                                            subst ho
                                            rintro _ ⟨nw, rfl⟩
                                            first | (go_simp; done) | (go_simp; with_reducible rfl)
                                          try simp only [Act.put, List.setIfInBounds_toArray, List.set_cons_zero, List.set_cons_succ]
                                          as_aux_lemma =>
                                           refine h_take (i := 35) (d := (some 60)) (v := ?vh170) (by rfl) (by kernel_rfl) (by kernel_rfl) (by kernel_rfl) (fun _ _ _ h => h) (by rfl) ?hyh170 hHeld ?resth170
                                           case hyh170 =>
                                             intro o ho
                                             simp only [List.getElem?_toArray, List.getElem?_cons_succ, List.getElem?_cons_zero, Option.some.injEq] at ho
                                             subst ho
                                             rintro _ ⟨nw, rfl⟩
                                             first | (go_simp; done) | (go_simp; with_reducible rfl)
                                           try simp only [Act.put, List.setIfInBounds_toArray, List.set_cons_zero, List.set_cons_succ]
                                           as_aux_lemma =>
                                            refine h_take (i := 36) (d := (some 61)) (v := ?vh171) (by rfl) (by kernel_rfl) (by kernel_rfl) (by kernel_rfl) (fun _ _ _ h => h) (by rfl) ?hyh171 hHeld ?resth171
                                            case hyh171 =>
                                              intro o ho
                                              simp only [List.getElem?_toArray, List.getElem?_cons_succ, List.getElem?_cons_zero, Option.some.injEq] at ho
                                              subst ho
                                              rintro _ ⟨nw, rfl⟩
                                              first | (go_simp; done) | (go_simp; with_reducible rfl)
                                            try simp only [Act.put, List.setIfInBounds_toArray, List.set_cons_zero, List.set_cons_succ]
                                            as_aux_lemma =>
                                             refine h_take (i := 37) (d := (some 62)) (v := ?vh172) (by rfl) (by kernel_rfl) (by kernel_rfl) (by kernel_rfl) (fun _ _ _ h => h) (by rfl) ?hyh172 hHeld ?resth172
                                             case hyh172 =>
                                               intro o ho
                                               simp only [List.getElem?_toArray, List.getElem?_cons_succ, List.getElem?_cons_zero, Option.some.injEq] at ho
                                               subst ho
                                               rintro _ ⟨nw, rfl⟩
                                               first | (go_simp; done) | (go_simp; with_reducible rfl)
                                             try simp only [Act.put, List.setIfInBounds_toArray, List.set_cons_zero, List.set_cons_succ]
                                             as_aux_lemma =>
                                              refine h_take (i := 38) (d := (some 63)) (v := ?vh173) (by rfl) (by kernel_rfl) (by kernel_rfl) (by kernel_rfl) (fun _ _ _ h => h) (by rfl) ?hyh173 hHeld ?resth173
                                              case hyh173 =>
                                                intro o ho
                                                simp only [List.getElem?_toArray, List.getElem?_cons_succ, List.getElem?_cons_zero, Option.some.injEq] at ho
                                                subst ho
                                                rintro _ ⟨nw, rfl⟩
                                                first | (go_simp; done) | (go_simp; with_reducible rfl)
                                              try simp only [Act.put, List.setIfInBounds_toArray, List.set_cons_zero, List.set_cons_succ]
                                              as_aux_lemma =>
                                               refine h_take (i := 39) (d := (some 64)) (v := ?vh174) (by rfl) (by kernel_rfl) (by kernel_rfl) (by kernel_rfl) (fun _ _ _ h => h) (by rfl) ?hyh174 hHeld ?resth174
                                               case hyh174 =>
                                                 intro o ho
                                                 simp only [List.getElem?_toArray, List.getElem?_cons_succ, List.getElem?_cons_zero, Option.some.injEq] at ho
                                                 subst ho
                                                 rintro _ ⟨nw, rfl⟩
                                                 first | (go_simp; done) | (go_simp; with_reducible rfl)
                                               try simp only [Act.put, List.setIfInBounds_toArray, List.set_cons_zero, List.set_cons_succ]
                                               as_aux_lemma =>
                                                refine h_skip (i := 40) (d := (some 65)) (by rfl) (by kernel_rfl) (by kernel_rfl) (by kernel_rfl) (fun _ _ _ h => h) (by rfl) hHeld ?_
                                                try simp only [Act.put, List.setIfInBounds_toArray, List.set_cons_zero, List.set_cons_succ]
                                                as_aux_lemma =>
                                                 refine h_skip (i := 41) (d := (some 66)) (by rfl) (by kernel_rfl) (by kernel_rfl) (by kernel_rfl) (fun _ _ _ h => h) (by rfl) hHeld ?_
                                                 try simp only [Act.put, List.setIfInBounds_toArray, List.set_cons_zero, List.set_cons_succ]
                                                 as_aux_lemma =>
                                                  refine h_skip (i := 44) (d := (some 69)) (by rfl) (by kernel_rfl) (by kernel_rfl) (by kernel_rfl) (fun _ _ _ h => h) (by rfl) hHeld ?_
                                                  try simp only [Act.put, List.setIfInBounds_toArray, List.set_cons_zero, List.set_cons_succ]
                                                  as_aux_lemma =>
                                                   refine h_skip (i := 42) (d := (some 67)) (by rfl) (by kernel_rfl) (by kernel_rfl) (by kernel_rfl) (fun _ _ _ h => h) (by rfl) hHeld ?_
                                                   try simp only [Act.put, List.setIfInBounds_toArray, List.set_cons_zero, List.set_cons_succ]
                                                   as_aux_lemma =>
                                                    refine h_skip (i := 43) (d := (some 68)) (by rfl) (by kernel_rfl) (by kernel_rfl) (by kernel_rfl) (fun _ _ _ h => h) (by rfl) hHeld ?_
                                                    try simp only [Act.put, List.setIfInBounds_toArray, List.set_cons_zero, List.set_cons_succ]
                                                    as_aux_lemma =>
                                                     refine h_skip (i := 45) (d := (some 70)) (by rfl) (by kernel_rfl) (by kernel_rfl) (by kernel_rfl) (fun _ _ _ h => h) (by rfl) hHeld ?_
                                                     try simp only [Act.put, List.setIfInBounds_toArray, List.set_cons_zero, List.set_cons_succ]
                                                     as_aux_lemma =>
                                                      refine h_skip (i := 46) (d := (some 71)) (by rfl) (by kernel_rfl) (by kernel_rfl) (by kernel_rfl) (fun _ _ _ h => h) (by rfl) hHeld ?_
                                                      try simp only [Act.put, List.setIfInBounds_toArray, List.set_cons_zero, List.set_cons_succ]
                                                      as_aux_lemma =>
                                                       refine h_skip (i := 47) (d := (some 72)) (by rfl) (by kernel_rfl) (by kernel_rfl) (by kernel_rfl) (fun _ _ _ h => h) (by rfl) hHeld ?_
                                                       try simp only [Act.put, List.setIfInBounds_toArray, List.set_cons_zero, List.set_cons_succ]
                                                       as_aux_lemma =>
                                                        refine h_skip (i := 48) (d := (some 73)) (by rfl) (by kernel_rfl) (by kernel_rfl) (by kernel_rfl) (fun _ _ _ h => h) (by rfl) hHeld ?_
                                                        try simp only [Act.put, List.setIfInBounds_toArray, List.set_cons_zero, List.set_cons_succ]
                                                        as_aux_lemma =>
                                                         refine h_skip (i := 49) (d := (some 74)) (by rfl) (by kernel_rfl) (by kernel_rfl) (by kernel_rfl) (fun _ _ _ h => h) (by rfl) hHeld ?_
                                                         try simp only [Act.put, List.setIfInBounds_toArray, List.set_cons_zero, List.set_cons_succ]
                                                         as_aux_lemma =>
                                                          refine h_skip (i := 50) (d := (some 75)) (by rfl) (by kernel_rfl) (by kernel_rfl) (by kernel_rfl) (fun _ _ _ h => h) (by rfl) hHeld ?_
                                                          try simp only [Act.put, List.setIfInBounds_toArray, List.set_cons_zero, List.set_cons_succ]
                                                          as_aux_lemma =>
                                                           refine h_skip (i := 51) (d := (some 76)) (by rfl) (by kernel_rfl) (by kernel_rfl) (by kernel_rfl) (fun _ _ _ h => h) (by rfl) hHeld ?_
                                                           try simp only [Act.put, List.setIfInBounds_toArray, List.set_cons_zero, List.set_cons_succ]
                                                           as_aux_lemma =>
                                                            refine h_skip (i := 52) (d := (some 77)) (by rfl) (by kernel_rfl) (by kernel_rfl) (by kernel_rfl) (fun _ _ _ h => h) (by rfl) hHeld ?_
                                                            try simp only [Act.put, List.setIfInBounds_toArray, List.set_cons_zero, List.set_cons_succ]
                                                            as_aux_lemma =>
                                                             refine h_skip (i := 53) (d := (some 78)) (by rfl) (by kernel_rfl) (by kernel_rfl) (by kernel_rfl) (fun _ _ _ h => h) (by rfl) hHeld ?_
                                                             try simp only [Act.put, List.setIfInBounds_toArray, List.set_cons_zero, List.set_cons_succ]
                                                             as_aux_lemma =>
                                                              refine h_skip (i := 54) (d := (some 79)) (by rfl) (by kernel_rfl) (by kernel_rfl) (by kernel_rfl) (fun _ _ _ h => h) (by rfl) hHeld ?_
                                                              try simp only [Act.put, List.setIfInBounds_toArray, List.set_cons_zero, List.set_cons_succ]
                                                              as_aux_lemma =>
                                                               refine h_skip (i := 57) (d := (some 82)) (by rfl) (by kernel_rfl) (by kernel_rfl) (by kernel_rfl) (fun _ _ _ h => h) (by rfl) hHeld ?_
                                                               try simp only [Act.put, List.setIfInBounds_toArray, List.set_cons_zero, List.set_cons_succ]
                                                               as_aux_lemma =>
                                                                refine h_skip (i := 58) (d := (some 83)) (by rfl) (by kernel_rfl) (by kernel_rfl) (by kernel_rfl) (fun _ _ _ h => h) (by rfl) hHeld ?_
                                                                try simp only [Act.put, List.setIfInBounds_toArray, List.set_cons_zero, List.set_cons_succ]
                                                                as_aux_lemma =>
                                                                 refine h_skip (i := 55) (d := (some 80)) (by rfl) (by kernel_rfl) (by kernel_rfl) (by kernel_rfl) (fun _ _ _ h => h) (by rfl) hHeld ?_
                                                                 try simp only [Act.put, List.setIfInBounds_toArray, List.set_cons_zero, List.set_cons_succ]
                                                                 as_aux_lemma =>
                                                                  refine h_skip (i := 56) (d := (some 81)) (by rfl) (by kernel_rfl) (by kernel_rfl) (by kernel_rfl) (fun _ _ _ h => h) (by rfl) hHeld ?_
                                                                  try simp only [Act.put, List.setIfInBounds_toArray, List.set_cons_zero, List.set_cons_succ]
                                                                  as_aux_lemma =>
                                                                   refine h_skip (i := 59) (d := (some 84)) (by rfl) (by kernel_rfl) (by kernel_rfl) (by kernel_rfl) (fun _ _ _ h => h) (by rfl) hHeld ?_
                                                                   try simp only [Act.put, List.setIfInBounds_toArray, List.set_cons_zero, List.set_cons_succ]
                                                                   as_aux_lemma =>
                                                                    refine h_skip (i := 60) (d := (some 85)) (by rfl) (by kernel_rfl) (by kernel_rfl) (by kernel_rfl) (fun _ _ _ h => h) (by rfl) hHeld ?_
                                                                    try simp only [Act.put, List.setIfInBounds_toArray, List.set_cons_zero, List.set_cons_succ]
                                                                    as_aux_lemma =>
                                                                     refine h_skip (i := 61) (d := (some 86)) (by rfl) (by kernel_rfl) (by kernel_rfl) (by kernel_rfl) (fun _ _ _ h => h) (by rfl) hHeld ?_
                                                                     try simp only [Act.put, List.setIfInBounds_toArray, List.set_cons_zero, List.set_cons_succ]
                                                                     as_aux_lemma =>
                                                                      refine h_skip (i := 62) (d := (some 87)) (by rfl) (by kernel_rfl) (by kernel_rfl) (by kernel_rfl) (fun _ _ _ h => h) (by rfl) hHeld ?_
                                                                      try simp only [Act.put, List.setIfInBounds_toArray, List.set_cons_zero, List.set_cons_succ]
                                                                      as_aux_lemma =>
                                                                       refine h_take (i := 63) (d := (some 88)) (v := ?vh175) (by rfl) (by kernel_rfl) (by kernel_rfl) (by kernel_rfl) (fun _ _ _ h => h) (by rfl) ?hyh175 hHeld ?resth175
                                                                       case hyh175 =>
                                                                         intro o ho
                                                                         simp only [List.getElem?_toArray, List.getElem?_cons_succ, List.getElem?_cons_zero, Option.some.injEq] at ho
                                                                         subst ho
                                                                         rintro _ ⟨nw, rfl⟩
                                                                         first | (go_simp; done) | (go_simp; with_reducible rfl)
                                                                       try simp only [Act.put, List.setIfInBounds_toArray, List.set_cons_zero, List.set_cons_succ]
                                                                       as_aux_lemma =>
                                                                        refine h_take (i := 64) (d := (some 89)) (v := ?vh176) (by rfl) (by kernel_rfl) (by kernel_rfl) (by kernel_rfl) (fun _ _ _ h => h) (by rfl) ?hyh176 hHeld ?resth176
                                                                        case hyh176 =>
                                                                          intro o ho
                                                                          simp only [List.getElem?_toArray, List.getElem?_cons_succ, List.getElem?_cons_zero, Option.some.injEq] at ho
                                                                          subst ho
                                                                          rintro _ ⟨nw, rfl⟩
                                                                          first | (go_simp; done) | (go_simp; with_reducible rfl)
                                                                        try simp only [Act.put, List.setIfInBounds_toArray, List.set_cons_zero, List.set_cons_succ]
                                                                        as_aux_lemma =>
                                                                         refine wpAnyH_done (by kernel_rfl) ?_ _
                                                                         go_wp2
                                                                         go_meet
                                                                         case rel => exact ⟨rfl, hcur⟩
  case rest =>
    obtain ⟨rfl, hbc⟩ := hcut
    have hBc : Below w.heap.size w wc := below_after_of HB4.out hbc.out
    have hD2 := HD2.out _ hBc
    clear HD2 HB4 hbc T hne qu0 qu1 qu2 qu3 qu4 qu5 qj0 qj1 qj2 qj3 qj4 qs0 qs1
    go_wp2_with fail
    refine hD2.mono ?_
    rintro x w5 ⟨u, c, L, ep, ph, pv, rfl, hlL, hLb, hRc, hb5⟩
    have hB5 := below_after_of hBc hb5
    have HFX : Hid (¬ hfC L ep ph pv = 0 → ∀ w', Below w5.heap.size w5 w' → Calls Tryz.prog 20 #[.agg #[.slice u L.length c], .int .i64 ep, .int .i64 ph, .int .i64 pv] w' fun x w'' => x = .returned (hrV (hfC L ep ph pv) 0 0 0 0 0) ∧ Below w'.heap.size w' w'') := fun h w' hb => implHeadFor_bad _ L ep ph pv w' (hRc.below hb) hLb (by omega) h
    have HFS : Hid (¬ hfC L ep ph pv = 0 → ∀ w', Below w5.heap.size w5 w' → Calls Tryz.prog 21 #[.agg #[.slice u L.length c], .int .i64 ep, .int .i64 ph, .int .i64 pv] w' fun x w'' => x = .returned (hrV (hfC L ep ph pv) 0 0 0 0 0) ∧ Below w'.heap.size w' w'') := fun h w' hb => specHeadFor_bad _ L ep ph pv w' (hRc.below hb) hLb (by omega) h
    obtain ⟨ln, hln⟩ : ∃ ln, ln = L.length := ⟨_, rfl⟩
    have HLN : Hid (ln = L.length) := hln
    rw [← hln] at HFX HFS hRc ⊢
    obtain ⟨W5, hW5⟩ : ∃ W5, W5 = w5.alloc (.cells #[.slice u ln c] 42) := ⟨_, rfl⟩
    have HW5 : Hid (w5.alloc (.cells #[.slice u ln c] 42) = W5) := hW5.symm
    have A5 : W5.heap[w5.heap.size]? = some (.cells #[.slice u ln c] 42) := by rw [hW5]; exact heap_alloc_new w5 _
    have hN5 : Below w5.heap.size w5 W5 := by rw [hW5]; exact one_new _
    have hBW5 := below_after_of hB5 hN5
    have HRC : Hid (∀ w', Below w5.heap.size w5 w' → Rcs w' (.slice u ln c) L) := fun w' h => hRc.below h
    by_cases hq : hfC L ep ph pv = 0
    · obtain ⟨h0, h1⟩ := hfC_zero hq
      obtain ⟨o', n', hRt⟩ := roots_at (dirSl L) (dirSl_ok (dirOk h0))
      have hF := implHeadFor_ok (.slice u ln c) L ep ph pv o' n' W5 (hRc.below hN5) hLb (by omega) h0 h1 hRt
      have HSl : Hid (∀ w', Below w5.heap.size w5 w' → Calls Tryz.prog 22 #[.agg #[.slice u ln c]] w' fun x w'' => SlotsAns w' 0 (dirSl L) x w'') := fun w' h => by
        have := implSlotsOf_any (.slice u ln c) L w' (hRc.below h) hLb (by omega)
        have e1 : sfL L = dirSl L := by unfold sfL; rw [if_pos h0]
        rw [e1, h0] at this
        exact this
      have hb3 : (1 ≤ ep ∧ ep ≤ 10) ∧ (1 ≤ ph ∧ ph ≤ 5) ∧ 0 ≤ pv ∧ pv ≤ 65520 := by
        unfold hdN at h1
        simp only [Bool.and_eq_true] at h1
        exact ⟨inB_bd h1.1, inB_bd h1.2.1, (sumB_iff _).1 h1.2.2⟩
      have hcx := (kep_ok hb3.1 hb3.2.1 hb3.2.2 hRt.ob hRt.nb).c
      have hHF := fun w => implHeadFault_any ep ph (kepO ph o') (kepN ph n') pv w
      rw [hcx] at hHF
      have heq := fun w => hd_eq ep ph (kepO ph o') (kepN ph n') pv w
      have HRT : Hid (RootsAt (dirSl L) o' n') := hRt
      unfold hrV at hF
      unfold hdV at hHF heq
      obtain ⟨g0⟩ : W5.cell? ⟨w5.heap.size, 0, none⟩ = some (.slice u ln c) ∧ True := ⟨by unfold World.cell?; rw [A5]; rfl, trivial⟩
      clear HFX HFS hD2 hW5 hRc hq h1 hcx hb3 hln hRt
      go_wp2_with fail
      rw [HW5.out]
      clear HW5
      refine hF.mono ?_
      rintro x w6 ⟨rfl, hb6⟩
      obtain ⟨W6, hW6⟩ : ∃ W6, W6 = w6.alloc (.cells #[.int .i64 0, .int .i64 ep, .int .i64 ph, .int .i64 (kepO ph o'), .int .i64 (kepN ph n'), .int .i64 pv] 28) := ⟨_, rfl⟩
      have HW6 : Hid (w6.alloc (.cells #[.int .i64 0, .int .i64 ep, .int .i64 ph, .int .i64 (kepO ph o'), .int .i64 (kepN ph n'), .int .i64 pv] 28) = W6) := hW6.symm
      have B6 : W6.heap[w6.heap.size]? = some (.cells #[.int .i64 0, .int .i64 ep, .int .i64 ph, .int .i64 (kepO ph o'), .int .i64 (kepN ph n'), .int .i64 pv] 28) := by rw [hW6]; exact heap_alloc_new w6 _
      have hN6 : Below w6.heap.size w6 W6 := by rw [hW6]; exact one_new _
      have hb56 := below_after_of hb6 hN6
      have A6 := (hb56.block _ (Array.getElem?_eq_some_iff.1 A5).1).trans A5
      have a6 := one_cellV A6
      have hBW6 := below_after_of hBW5 hb56
      have hSl := HSl.out _ (below_after_of hN5 hb56)
      obtain ⟨⟨c0, c1, c2, c3, c4, c5⟩, -⟩ := six_cellsH B6
      have lt6 := (Array.getElem?_eq_some_iff.1 B6).1
      clear hF g0 A5 A6 hW6 hb6 hN6 hN5 hb56 HSl hBW5 HRC
      go_upto_region 13 with fail
      rw [HW6.out]
      clear HW6
      go_wp2_with fail
      refine hSl.mono ?_
      intro x w7 h7
      obtain ⟨hb7, v7, rfl, o7⟩ := h7
      obtain ⟨a7, k7, rfl⟩ := own_sh o7
      have kf := fun w => fieldS1 0 (.slice a7 (dirSl L).length k7) w ⟨_, _, _, rfl⟩
      have p7 := own_prs o7
      have okv7 := own_okv o7
      have HO : Hid (∀ w', Below w7.heap.size w7 w' → Calls Tryz.prog 23 #[.slice a7 (dirSl L).length k7] w' fun x w'' => IntAns w' 0 o' x w'') := fun w' h => HRT.out.io _ _ (p7.below h)
      have HN : Hid (∀ w', Below w7.heap.size w7 w' → Calls Tryz.prog 24 #[.slice a7 (dirSl L).length k7] w' fun x w'' => IntAns w' 0 n' x w'') := fun w' h => HRT.out.inn _ _ (p7.below h) okv7
      have HBW7 : Hid (Below w.heap.size w w7) := below_after_of hBW6 hb7
      have B7 := (hb7.block _ lt6).trans B6
      have lt7 := (Array.getElem?_eq_some_iff.1 B7).1
      have HCX : Hid (∀ w', Below w7.heap.size w7 w' → w'.cell? ⟨w6.heap.size, 0, none⟩ = some (.int .i64 0) ∧ w'.cell? ⟨w6.heap.size, 1, none⟩ = some (.int .i64 ep) ∧ w'.cell? ⟨w6.heap.size, 2, none⟩ = some (.int .i64 ph) ∧ w'.cell? ⟨w6.heap.size, 3, none⟩ = some (.int .i64 (kepO ph o')) ∧ w'.cell? ⟨w6.heap.size, 4, none⟩ = some (.int .i64 (kepN ph n')) ∧ w'.cell? ⟨w6.heap.size, 5, none⟩ = some (.int .i64 pv)) := fun w' h => (six_cellsH ((h.block _ lt7).trans B7)).1
      generalize (dirSl L).length = sn at *
      clear hSl o7 p7 okv7 hb7 B6 B7 lt6 lt7 HRT hBW6 a6 c0 c1 c2 c5
      by_cases h4 : ph = 4
      · subst h4
        have e1 : kepO 4 o' = 0 := rfl
        have e2 : kepN 4 n' = n' := rfl
        rw [e1] at c3 heq hHF HCX
        rw [e2] at c4 heq hHF HCX
        clear e1 e2
        have hcur := Below.refl w7.heap.size w7
        go_wp2_with fail
        refine (HN.out _ hcur).mono ?_
        rintro x w9 ⟨rfl, hb9⟩
        have kN := fun w => fieldI1 0 n' w
        have hcur := below_after_of hcur hb9
        clear hb9
        obtain ⟨d0, d1, d2, d3, d4, d5⟩ := HCX.out _ hcur
        go_wp2_with fail
        refine (hHF _).mono ?_
        rintro x wz ⟨rfl, hbz⟩
        obtain ⟨f0, f1, f2, f3, f4, f5⟩ := HCX.out _ (below_after_of hcur hbz)
        have HBZ : Hid (Below w.heap.size w wz) := below_after_of HBW7.out (below_after_of hcur hbz)
        clear d0 d1 d2 d3 d4 d5 HCX hHF hbz hcur HO HN
        go_wp2
        go_ret
        exact ⟨by simp, HBZ.out⟩
      · by_cases h3 : ph = 3
        · subst h3
          have e1 : kepO 3 o' = o' := rfl
          have e2 : kepN 3 n' = n' := rfl
          rw [e1] at c3 heq hHF HCX
          rw [e2] at c4 heq hHF HCX
          clear e1 e2
          have hcur := Below.refl w7.heap.size w7
          go_wp2_with fail
          refine (HO.out _ hcur).mono ?_
          rintro x w8 ⟨rfl, hb8⟩
          have kO := fun w => fieldI1 0 o' w
          have hcur := below_after_of hcur hb8
          clear hb8
          go_wp2_with fail
          refine (HN.out _ hcur).mono ?_
          rintro x w9 ⟨rfl, hb9⟩
          have kN := fun w => fieldI1 0 n' w
          have hcur := below_after_of hcur hb9
          clear hb9
          obtain ⟨d0, d1, d2, d3, d4, d5⟩ := HCX.out _ hcur
          go_wp2_with fail
          refine (hHF _).mono ?_
          rintro x wz ⟨rfl, hbz⟩
          obtain ⟨f0, f1, f2, f3, f4, f5⟩ := HCX.out _ (below_after_of hcur hbz)
          have HBZ : Hid (Below w.heap.size w wz) := below_after_of HBW7.out (below_after_of hcur hbz)
          clear d0 d1 d2 d3 d4 d5 HCX hHF hbz hcur HO HN
          go_wp2
          go_ret
          exact ⟨by simp, HBZ.out⟩
        · have g4 : (ph != 4) = true := by simpa using h4
          have g3' : (ph == 3) = false := by simpa using h3
          have g4' : (ph == 4) = false := by simpa using h4
          have e1 : kepO ph o' = o' := by unfold kepO hasO; rw [g4]; rfl
          have e2 : kepN ph n' = 0 := by unfold kepN hasN; rw [g3', g4']; rfl
          rw [e1] at c3 heq hHF HCX
          rw [e2] at c4 heq hHF HCX
          clear e1 e2 h3 h4
          have hcur := Below.refl w7.heap.size w7
          go_wp2_with fail
          refine (HO.out _ hcur).mono ?_
          rintro x w8 ⟨rfl, hb8⟩
          have kO := fun w => fieldI1 0 o' w
          have hcur := below_after_of hcur hb8
          clear hb8
          obtain ⟨d0, d1, d2, d3, d4, d5⟩ := HCX.out _ hcur
          go_wp2_with fail
          refine (hHF _).mono ?_
          rintro x wz ⟨rfl, hbz⟩
          obtain ⟨f0, f1, f2, f3, f4, f5⟩ := HCX.out _ (below_after_of hcur hbz)
          have HBZ : Hid (Below w.heap.size w wz) := below_after_of HBW7.out (below_after_of hcur hbz)
          clear d0 d1 d2 d3 d4 d5 HCX hHF hbz hcur HO HN
          go_wp2
          go_ret
          exact ⟨by simp, HBZ.out⟩
    · have hcn := code_ne hq
      have hF := HFX.out hq _ hN5
      have HS5 : Hid (∀ w', Below w5.heap.size w5 w' → Calls Tryz.prog 21 #[.agg #[.slice u ln c], .int .i64 ep, .int .i64 ph, .int .i64 pv] w' fun x w'' => x = .returned (hrV (hfC L ep ph pv) 0 0 0 0 0) ∧ Below w'.heap.size w' w'') := HFS.out hq
      generalize hfC L ep ph pv = q at *
      have kq := fun w => fldR0 q 0 0 0 0 0 w
      have hqq : (q == q) = true := by simp
      unfold hrV at hF HS5 kq
      have g0 : W5.cell? ⟨w5.heap.size, 0, none⟩ = some (.slice u ln c) := by unfold World.cell?; rw [A5]; rfl
      clear HFX HFS hD2 hW5 hRc hq HRC hln
      go_wp2_with fail
      rw [HW5.out]
      clear HW5
      refine hF.mono ?_
      rintro x w6 ⟨rfl, hb6⟩
      obtain ⟨W6, hW6⟩ : ∃ W6, W6 = w6.alloc (.cells #[.int .i64 q, .int .i64 0, .int .i64 0, .int .i64 0, .int .i64 0, .int .i64 0] 28) := ⟨_, rfl⟩
      have HW6 : Hid (w6.alloc (.cells #[.int .i64 q, .int .i64 0, .int .i64 0, .int .i64 0, .int .i64 0, .int .i64 0] 28) = W6) := hW6.symm
      have B6 : W6.heap[w6.heap.size]? = some (.cells #[.int .i64 q, .int .i64 0, .int .i64 0, .int .i64 0, .int .i64 0, .int .i64 0] 28) := by rw [hW6]; exact heap_alloc_new w6 _
      have hN6 : Below w6.heap.size w6 W6 := by rw [hW6]; exact one_new _
      have hb56 := below_after_of hb6 hN6
      have A6 := (hb56.block _ (Array.getElem?_eq_some_iff.1 A5).1).trans A5
      have qa := After.cell (one_cellV A6)
      have HBW6 : Hid (Below w.heap.size w W6) := below_after_of hBW5 hb56
      have hb5W := below_after_of hN5 hb56
      have hS6 : ∀ nn : After W6, Calls Tryz.prog 21 #[.agg #[.slice u ln c], .int .i64 ep, .int .i64 ph, .int .i64 pv] nn.w fun x w'' => x = .returned (.agg #[.int .i64 q, .int .i64 0, .int .i64 0, .int .i64 0, .int .i64 0, .int .i64 0]) ∧ Below nn.w.heap.size nn.w w'' := fun nn => HS5.out _ (below_after_of hb5W nn.b)
      obtain ⟨⟨c0, c1, c2, c3, c4, c5⟩, -⟩ := six_cellsH B6
      have q0 := After.cell c0
      have hne := After.ne W6
      clear hF g0 A5 A6 B6 hW6 hb6 hN6 hN5 hb56 HS5 hBW5 hb5W
      go_upto_region 12 with fail
      rw [HW6.out]
      clear HW6
      refine wp_region_after (by kernel_rfl) (by kernel_rfl) ?_
      repeat (first | go_big_quiet_skip | (go_big_quiet_want; go_big_quiet_op; first | go_big_quiet_on | go_big_quiet_call (first | (go_at_call 21; refine (hS6 _).mono ?_; rintro x wq ⟨rfl, hbq⟩; exact ⟨rfl, after_mk (below_after_of (After.b _) hbq)⟩))))
      refine wpQuiet_nil ?_
      rintro _ ⟨n6, rfl⟩
      have HB7 : Hid (Below w.heap.size w n6.w) := below_after_of HBW6.out n6.b
      go_wp2
      go_ret
      exact ⟨rfl, HB7.out⟩
set_option maxRecDepth 100000 in
set_option maxHeartbeats 1000000 in
theorem fnHeads_walk (v : Value) (xs : List Int) (w : World) (hv : Ints .u8 w v xs) (hx : xs.length ≤ maxLen) (hw : ∀ n ∈ xs, (Lit.int .u8 n).wf = true) :
    Calls Tryz.prog 3 #[v] w fun e w' => e = .returned (.bool true) ∧ Below w.heap.size w w' := by
  by_cases h : xs.length ≤ 1048576
  · exact fnHeads_small v xs w ⟨hv, h, hw⟩ (ints_far hv)
  · obtain ⟨a, c, rfl⟩ := hv.shape
    have hlb := fun w => lwBigD a xs.length c w hx
    rw [show decide (1048576 < xs.length) = true by simp; omega] at hlb
    generalize xs.length = n at *
    clear hv hw
    go_enter Tryz.func3, Tryz.ntmps3
    go_wp2_with fail
    refine (hlb _).mono ?_
    rintro e w0 ⟨rfl, rfl⟩
    clear hlb
    go_wp2
    go_ret
    exact ⟨rfl, Below.refl _ _⟩
end U
end Go.Proofs.YtbjdplipgghndaaGreat
