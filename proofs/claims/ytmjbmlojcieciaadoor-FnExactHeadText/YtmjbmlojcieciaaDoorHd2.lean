/- The fault of a head, as both models tell it. -/
import Derived.Test.YtmjbmlojcieciaaDoorHd1
namespace Go.Proofs.YtmjbmlojcieciaaDoor
open Go.RowKit
namespace U
set_option maxRecDepth 100000 in
set_option maxHeartbeats 4000000 in
theorem l10Fault_any (b off : Nat) (e p o n v : Int) (w : World) (h : HdS w b off ⟨e, p, o, n, v⟩) :
    Calls Tryd.prog 25 #[.pointer (some ⟨b, off, none⟩)] w fun x w' => x = .returned (.int .i64 (hdC e p o n v)) ∧ Below w.heap.size w w' := by
  obtain ⟨c0, c1, c2, c3, c4⟩ := h
  have hq0 := After.cell c0
  have hq1 := After.cell c1
  have hq2 := After.cell c2
  have hq3 := After.cell c3
  have hq4 := After.cell c4
  dsimp only at c0 c1 c2 c3 c4 hq0 hq1 hq2 hq3 hq4
  have hne := After.ne w
  have hN := fun w => l10Numbers_any e p v w
  have hO := fun w => l2Is_any o w
  have hW := fun w => l2Is_any n w
  have HR : Hid (hdN e p v = false ∨ sumB o = false ∨ sumB n = false → hdC e p o n v = 3) := fun h => hdC_range (by unfold hdR; rcases h with h | h | h <;> simp [h])
  have HF : Hid (hdN e p v = true → sumB o = true → sumB n = true → hdF p o n = false → hdC e p o n v = 1) := fun a b c d => hdC_form (by unfold hdR; simp [a, b, c]) d
  have HK : Hid (hdN e p v = true → sumB o = true → sumB n = true → hdF p o n = true → hdC e p o n v = 0) := fun a b c d => hdC_ok (by unfold hdR; simp [a, b, c]) d
  generalize hdC e p o n v = q at *
  rcases Bool.eq_false_or_eq_true (hdN e p v) with h1 | h1
  · rcases Bool.eq_false_or_eq_true (sumB o) with h2 | h2
    · rcases Bool.eq_false_or_eq_true (sumB n) with h3 | h3
      · have HF2 : Hid (hdF p o n = false → q = 1) := HF.out h1 h2 h3
        have HK2 : Hid (hdF p o n = true → q = 0) := HK.out h1 h2 h3
        rw [h1] at hN
        rw [h2] at hO
        rw [h3] at hW
        have hOo := fun w => l10HasOld_any p w
        have hNn := fun w => l10HasNew_any p w
        clear h1 h2 h3 HR HF HK
        have hzo : (o != 0) = !(o == 0) := rfl
        have hzn : (n != 0) = !(n == 0) := rfl
        have HD : Hid (hdF p o n = ((hasO p || o == 0) && (hasN p || n == 0))) := rfl
        go_enter Tryd.func25, Tryd.ntmps25
        go_wp2_with fail
        refine wp_region_after (by kernel_rfl) (by kernel_rfl) ?_
        repeat (first | go_big_quiet_skip | (go_big_quiet_want; go_big_quiet_op; first | go_big_quiet_on | go_big_quiet_call (first | (go_at_call 41; refine (hN _).mono ?_; rintro e wq ⟨rfl, hbq⟩; exact ⟨rfl, _, hbq⟩) | (go_at_call 42; refine (hO _).mono ?_; rintro e wq ⟨rfl, hbq⟩; exact ⟨rfl, _, hbq⟩) | (go_at_call 42; refine (hW _).mono ?_; rintro e wq ⟨rfl, hbq⟩; exact ⟨rfl, _, hbq⟩))))
        refine wpQuiet_nil ?_
        rintro _ ⟨n6, rfl⟩
        have hb6 := n6.b
        have k1 := hq1 n6
        have k2 := hq2 n6
        have k3 := hq3 n6
        generalize n6.w = w6 at *
        clear hq0 hq1 hq2 hq3 hq4 hne c0 c1 c2 c3 c4 hN hO hW
        rcases Bool.eq_false_or_eq_true (hasO p) with a1 | a1 <;> rcases Bool.eq_false_or_eq_true (o == 0) with a2 | a2 <;> rcases Bool.eq_false_or_eq_true (hasN p) with a3 | a3 <;> rcases Bool.eq_false_or_eq_true (n == 0) with a4 | a4
        all_goals (
          rw [a1] at hOo
          rw [a3] at hNn
          rw [a2] at hzo
          rw [a4] at hzn
          have hd := HD.out
          rw [a1, a2, a3, a4] at hd
          have HQ := HF2.out
          have HQ' := HK2.out
          rw [hd] at HQ HQ'
          have HX : Hid (q = _) := (by first | exact HQ rfl | exact HQ' rfl)
          clear HQ HQ' hd HF2 HK2 HD a1 a2 a3 a4
          go_wp2_with (first | (go_at_call 43; refine (hOo _).mono ?_; rintro e wq ⟨rfl, rfl⟩) | (go_at_call 44; refine (hNn _).mono ?_; rintro e wq ⟨rfl, rfl⟩))
          go_ret
          exact ⟨ret_int HX.out.symm, hb6⟩)
      · have HX : Hid (q = 3) := HR.out (Or.inr (Or.inr h3))
        rw [h1] at hN
        rw [h2] at hO
        rw [h3] at hW
        clear h1 h2 h3
        clear HR HF HK
        go_enter Tryd.func25, Tryd.ntmps25
        go_wp2_with fail
        refine wp_region_after (by kernel_rfl) (by kernel_rfl) ?_
        repeat (first | go_big_quiet_skip | (go_big_quiet_want; go_big_quiet_op; first | go_big_quiet_on | go_big_quiet_call (first | (go_at_call 41; refine (hN _).mono ?_; rintro e wq ⟨rfl, hbq⟩; exact ⟨rfl, _, hbq⟩) | (go_at_call 42; refine (hO _).mono ?_; rintro e wq ⟨rfl, hbq⟩; exact ⟨rfl, _, hbq⟩) | (go_at_call 42; refine (hW _).mono ?_; rintro e wq ⟨rfl, hbq⟩; exact ⟨rfl, _, hbq⟩))))
        refine wpQuiet_nil ?_
        rintro _ ⟨n6, rfl⟩
        have hb6 := n6.b
        clear hq0 hq1 hq2 hq3 hq4 hne c0 c1 c2 c3 c4 hN hO hW
        go_wp2
        go_ret
        exact ⟨ret_int HX.out.symm, hb6⟩
    · have HX : Hid (q = 3) := HR.out (Or.inr (Or.inl h2))
      rw [h1] at hN
      rw [h2] at hO
      clear h1 h2
      clear HR HF HK
      go_enter Tryd.func25, Tryd.ntmps25
      go_wp2_with fail
      refine wp_region_after (by kernel_rfl) (by kernel_rfl) ?_
      repeat (first | go_big_quiet_skip | (go_big_quiet_want; go_big_quiet_op; first | go_big_quiet_on | go_big_quiet_call (first | (go_at_call 41; refine (hN _).mono ?_; rintro e wq ⟨rfl, hbq⟩; exact ⟨rfl, _, hbq⟩) | (go_at_call 42; refine (hO _).mono ?_; rintro e wq ⟨rfl, hbq⟩; exact ⟨rfl, _, hbq⟩) | (go_at_call 42; refine (hW _).mono ?_; rintro e wq ⟨rfl, hbq⟩; exact ⟨rfl, _, hbq⟩))))
      refine wpQuiet_nil ?_
      rintro _ ⟨n6, rfl⟩
      have hb6 := n6.b
      clear hq0 hq1 hq2 hq3 hq4 hne c0 c1 c2 c3 c4 hN hO hW
      go_wp2
      go_ret
      exact ⟨ret_int HX.out.symm, hb6⟩
  · have HX : Hid (q = 3) := HR.out (Or.inl h1)
    rw [h1] at hN
    clear h1
    clear HR HF HK
    go_enter Tryd.func25, Tryd.ntmps25
    go_wp2_with fail
    refine wp_region_after (by kernel_rfl) (by kernel_rfl) ?_
    repeat (first | go_big_quiet_skip | (go_big_quiet_want; go_big_quiet_op; first | go_big_quiet_on | go_big_quiet_call (first | (go_at_call 41; refine (hN _).mono ?_; rintro e wq ⟨rfl, hbq⟩; exact ⟨rfl, _, hbq⟩) | (go_at_call 42; refine (hO _).mono ?_; rintro e wq ⟨rfl, hbq⟩; exact ⟨rfl, _, hbq⟩) | (go_at_call 42; refine (hW _).mono ?_; rintro e wq ⟨rfl, hbq⟩; exact ⟨rfl, _, hbq⟩))))
    refine wpQuiet_nil ?_
    rintro _ ⟨n6, rfl⟩
    have hb6 := n6.b
    clear hq0 hq1 hq2 hq3 hq4 hne c0 c1 c2 c3 c4 hN hO hW
    go_wp2
    go_ret
    exact ⟨ret_int HX.out.symm, hb6⟩
theorem five_cells {w : World} {b : Nat} {x0 x1 x2 x3 x4 : Value} {t : TypeId} (h : w.heap[b]? = some (.cells #[x0, x1, x2, x3, x4] t (0, 0))) : w.cell? ⟨b, 0, none⟩ = some x0 ∧ w.cell? ⟨b, 1, none⟩ = some x1 ∧ w.cell? ⟨b, 2, none⟩ = some x2 ∧ w.cell? ⟨b, 3, none⟩ = some x3 ∧ w.cell? ⟨b, 4, none⟩ = some x4 := by
  simp [World.cell?, h]
theorem kep_same (p o n : Int) : ((kepO p o == o) && (kepN p n == n)) = hdF p o n := by
  unfold kepO kepN hdF
  rcases Bool.eq_false_or_eq_true (hasO p) with h1 | h1 <;> rcases Bool.eq_false_or_eq_true (hasN p) with h2 | h2 <;> simp [h1, h2] <;> (rw [Bool.eq_iff_iff]; simp) <;> omega
set_option maxRecDepth 100000 in
set_option maxHeartbeats 4000000 in
theorem implHeadFault_any (e p o n v : Int) (w : World) :
    Calls Tryd.prog 27 #[hdV e p o n v] w fun x w' => x = .returned (.int .i64 (hdC e p o n v)) ∧ Below w.heap.size w w' := by
  have hRt := fun w => rootedOf_any e p o n v w
  have hE := fun w => isEpoch_any e w
  have hP := fun w => isPhase_any p w
  have hS := fun w => areSums_any o n w
  have hV := fun w => isSum_any v w
  have hK := fun w => keptIn_any o n p w
  have hne2 := tr_neq (kepO p o) (kepN p n) o n
  rw [kep_same] at hne2
  have HR : Hid (inB e 1 10 = false ∨ inB p 1 5 = false ∨ (sumB o && sumB n) = false ∨ sumB v = false → hdC e p o n v = 3) := fun h => hdC_range (by unfold hdR hdN; rcases h with h | h | h | h <;> simp [h])
  have HF : Hid (inB e 1 10 = true → inB p 1 5 = true → (sumB o && sumB n) = true → sumB v = true → hdF p o n = false → hdC e p o n v = 1) := fun a b c d f => hdC_form (by unfold hdR hdN; simp [a, b, c, d]) f
  have HK : Hid (inB e 1 10 = true → inB p 1 5 = true → (sumB o && sumB n) = true → sumB v = true → hdF p o n = true → hdC e p o n v = 0) := fun a b c d f => hdC_ok (by unfold hdR hdN; simp [a, b, c, d]) f
  generalize hdC e p o n v = q at *
  generalize (sumB o && sumB n) = s at *
  generalize kepO p o = ko at *
  generalize kepN p n = kn at *
  have H0 := heap_alloc_new w (.cells #[.int .i64 e, .int .i64 p, .int .i64 o, .int .i64 n, .int .i64 v] 34)
  unfold hdV trV at *
  go_enter Tryd.func27, Tryd.ntmps27
  go_wp2_with fail
  refine (hRt _).mono ?_
  rintro x w1 ⟨rfl, hb1⟩
  have B1 := (hb1.block w.heap.size (by simp)).trans H0
  have hlt : w.heap.size < w1.heap.size := (Array.getElem?_eq_some_iff.1 B1).1
  obtain ⟨W2, hW2⟩ : ∃ W2, W2 = w1.alloc (.cells #[.int .i64 e, .int .i64 p, .int .i64 o, .int .i64 n, .int .i64 v] 79) := ⟨_, rfl⟩
  have HW2 : Hid (w1.alloc (.cells #[.int .i64 e, .int .i64 p, .int .i64 o, .int .i64 n, .int .i64 v] 79) = W2) := hW2.symm
  have B2 : W2.heap[w.heap.size]? = some (.cells #[.int .i64 e, .int .i64 p, .int .i64 o, .int .i64 n, .int .i64 v] 34) := by rw [hW2]; exact ((one_new _).block w.heap.size hlt).trans B1
  have A2 : W2.heap[w1.heap.size]? = some (.cells #[.int .i64 e, .int .i64 p, .int .i64 o, .int .i64 n, .int .i64 v] 79) := by rw [hW2]; exact heap_alloc_new w1 _
  have HB2 : Hid (Below w.heap.size w W2) := by rw [hW2]; exact below_after_of (below_after hb1) (one_new _)
  obtain ⟨j0, j1, j2, j3, j4⟩ := five_cells B1
  clear hb1 H0 hRt hW2
  go_wp2_with fail
  rw [HW2.out]
  clear j0 j1 j2 j3 j4 B1
  obtain ⟨c0, c1, c2, c3, c4⟩ := five_cells B2
  obtain ⟨d0, d1, d2, d3, d4⟩ := five_cells A2
  rcases Bool.eq_false_or_eq_true (inB e 1 10) with h1 | h1
  · rcases Bool.eq_false_or_eq_true (inB p 1 5) with h2 | h2
    · rcases Bool.eq_false_or_eq_true s with h3 | h3
      · subst h3
        rw [h1] at hE
        rw [h2] at hP
        refine (hE _).mono ?_
        rintro x w5 ⟨rfl, rfl⟩
        go_wp2_with fail
        refine (hP _).mono ?_
        rintro x w5 ⟨rfl, rfl⟩
        go_wp2_with fail
        refine (hS _).mono ?_
        rintro x w3 ⟨rfl, hb3⟩
        have HB3 : Hid (Below w.heap.size w w3) := below_after_of HB2.out hb3
        have B3 := (hb3.block w.heap.size (Array.getElem?_eq_some_iff.1 B2).1).trans B2
        have A3 := (hb3.block w1.heap.size (Array.getElem?_eq_some_iff.1 A2).1).trans A2
        clear c0 c1 c2 c3 c4 d0 d1 d2 d3 d4 A2 B2 hb3 hE hP hS
        obtain ⟨c0, c1, c2, c3, c4⟩ := five_cells B3
        obtain ⟨d0, d1, d2, d3, d4⟩ := five_cells A3
        have q1 := After.cell c1
        have r2 := After.cell d2
        have r3 := After.cell d3
        have hne := After.ne w3
        rcases Bool.eq_false_or_eq_true (sumB v) with h4 | h4
        · rw [h4] at hV
          rcases Bool.eq_false_or_eq_true (hdF p o n) with h5 | h5
          · have HX : Hid (q = 0) := HK.out h1 h2 (by first | rfl | trivial) h4 h5
            rw [h5] at hne2
            clear HK HF HR h1 h2 h4 h5
            go_wp2_with fail
            refine (hV _).mono ?_
            rintro x w5 ⟨rfl, rfl⟩
            go_wp2_with fail
            refine wp_region_after (by kernel_rfl) (by kernel_rfl) ?_
            repeat (first | go_big_quiet_skip | (go_big_quiet_want; go_big_quiet_op; first | go_big_quiet_on | go_big_quiet_call (first | (go_at_call 51; refine (hK _).mono ?_; rintro e wq ⟨rfl, hbq⟩; exact ⟨rfl, after_mk (below_after_of (After.b _) hbq)⟩))))
            refine wpQuiet_nil ?_
            rintro _ ⟨n6, rfl⟩
            have hb6 := below_after_of HB3.out n6.b
            clear q1 r2 r3 hne hK hne2
            go_wp2
            go_ret
            exact ⟨ret_int HX.out.symm, hb6⟩
          · have HX : Hid (q = 1) := HF.out h1 h2 (by first | rfl | trivial) h4 h5
            rw [h5] at hne2
            clear HK HF HR h1 h2 h4 h5
            go_wp2_with fail
            refine (hV _).mono ?_
            rintro x w5 ⟨rfl, rfl⟩
            go_wp2_with fail
            refine wp_region_after (by kernel_rfl) (by kernel_rfl) ?_
            repeat (first | go_big_quiet_skip | (go_big_quiet_want; go_big_quiet_op; first | go_big_quiet_on | go_big_quiet_call (first | (go_at_call 51; refine (hK _).mono ?_; rintro e wq ⟨rfl, hbq⟩; exact ⟨rfl, after_mk (below_after_of (After.b _) hbq)⟩))))
            refine wpQuiet_nil ?_
            rintro _ ⟨n6, rfl⟩
            have hb6 := below_after_of HB3.out n6.b
            clear q1 r2 r3 hne hK hne2
            go_wp2
            go_ret
            exact ⟨ret_int HX.out.symm, hb6⟩
        · have HX : Hid (q = 3) := HR.out (Or.inr (Or.inr (Or.inr h4)))
          rw [h4] at hV
          clear HK HF HR h1 h2 h4
          go_wp2_with fail
          refine (hV _).mono ?_
          rintro x w5 ⟨rfl, rfl⟩
          go_wp2
          go_ret
          exact ⟨ret_int HX.out.symm, HB3.out⟩
      · subst h3
        have HX : Hid (q = 3) := HR.out (Or.inr (Or.inr (Or.inl rfl)))
        rw [h1] at hE
        rw [h2] at hP
        clear HK HF HR h1 h2
        refine (hE _).mono ?_
        rintro x w5 ⟨rfl, rfl⟩
        go_wp2_with fail
        refine (hP _).mono ?_
        rintro x w5 ⟨rfl, rfl⟩
        go_wp2_with fail
        refine (hS _).mono ?_
        rintro x w3 ⟨rfl, hb3⟩
        have HB3 : Hid (Below w.heap.size w w3) := below_after_of HB2.out hb3
        clear hb3
        go_wp2
        go_ret
        exact ⟨ret_int HX.out.symm, HB3.out⟩
    · have HX : Hid (q = 3) := HR.out (Or.inr (Or.inl h2))
      rw [h1] at hE
      rw [h2] at hP
      clear HK HF HR h1 h2
      refine (hE _).mono ?_
      rintro x w5 ⟨rfl, rfl⟩
      go_wp2_with fail
      refine (hP _).mono ?_
      rintro x w5 ⟨rfl, rfl⟩
      go_wp2
      go_ret
      exact ⟨ret_int HX.out.symm, HB2.out⟩
  · have HX : Hid (q = 3) := HR.out (Or.inl h1)
    rw [h1] at hE
    clear HK HF HR h1
    refine (hE _).mono ?_
    rintro x w5 ⟨rfl, rfl⟩
    go_wp2
    go_ret
    exact ⟨ret_int HX.out.symm, HB2.out⟩
end U
end Go.Proofs.YtmjbmlojcieciaaDoor
