/- An answer as a text: what both models say. -/
import Derived.Test.YtmjbmlojcieciaaDoorAx1
import Derived.Test.YtmjbmlojcieciaaDoorDr2
namespace Go.Proofs.YtmjbmlojcieciaaDoor
open Go.RowKit
namespace U
set_option maxRecDepth 100000 in
set_option maxHeartbeats 4000000 in
theorem l3Text_at (g off : Nat) (l : ByteArray) (v o p : Int) (w : World) (h : RecS w g off ⟨l, v, o, p⟩) (hl : l.size ≤ 12) (hv : DigOk v) (ho : DigOk o) (hp : DigOk p) :
    Calls Tryd.prog 58 #[.pointer (some ⟨g, off, none⟩)] w fun e w' => e = .returned (.string (txV l v o p)) ∧ Below w.heap.size w w' := by
  have hD := fun K w => l1DigitsI K w
  have d1 := digI_len hv
  have d2 := digI_len ho
  have d3 := digI_len hp
  have s1 : sp1.size = 1 := rfl
  unfold txV
  have hs : (⟨#[32]⟩ : ByteArray) = sp1 := rfl
  obtain ⟨t1, e1⟩ : ∃ t, t = l ++ sp1 := ⟨_, rfl⟩
  have z1 : t1.size ≤ 13 := by rw [e1, ByteArray.size_append]; omega
  obtain ⟨t2, e2⟩ : ∃ t, t = t1 ++ digI v := ⟨_, rfl⟩
  have z2 : t2.size ≤ 20 := by rw [e2, ByteArray.size_append]; omega
  obtain ⟨t3, e3⟩ : ∃ t, t = t2 ++ sp1 := ⟨_, rfl⟩
  have z3 : t3.size ≤ 21 := by rw [e3, ByteArray.size_append]; omega
  obtain ⟨t4, e4⟩ : ∃ t, t = t3 ++ digI o := ⟨_, rfl⟩
  have z4 : t4.size ≤ 28 := by rw [e4, ByteArray.size_append]; omega
  obtain ⟨t5, e5⟩ : ∃ t, t = t4 ++ sp1 := ⟨_, rfl⟩
  have z5 : t5.size ≤ 29 := by rw [e5, ByteArray.size_append]; omega
  obtain ⟨t6, e6⟩ : ∃ t, t = t5 ++ digI p := ⟨_, rfl⟩
  have a1 := add_str l sp1 t1 e1 (by omega)
  have a2 := add_str t1 (digI v) t2 e2 (by omega)
  have a3 := add_str t2 sp1 t3 e3 (by omega)
  have a4 := add_str t3 (digI o) t4 e4 (by omega)
  have a5 := add_str t4 sp1 t5 e5 (by omega)
  have a6 := add_str t5 (digI p) t6 e6 (by omega)
  rw [← e1, ← e2, ← e3, ← e4, ← e5, ← e6]
  clear e1 e2 e3 e4 e5 e6 z1 z2 z3 z4 z5 d1 d2 d3 hl s1
  have q0 := After.cell h.c0
  have q1 := After.cell h.c1
  have q2 := After.cell h.c2
  have q3 := After.cell h.c3
  dsimp only at q0 q1 q2 q3
  have hne := After.ne w
  unfold sp1 at a1 a3 a5
  clear hs
  go_enter Tryd.func58, Tryd.ntmps58
  go_wp2_with fail
  refine wp_region_after (by kernel_rfl) (by kernel_rfl) ?_
  repeat (first | go_big_quiet_skip | (go_big_quiet_want; go_big_quiet_op; first | go_big_quiet_on | go_big_quiet_call (first | (go_at_call 45; refine (hD _ _ ?_).mono ?_; (assumption); (rintro e wq ⟨rfl, hbq⟩; exact ⟨rfl, after_mk (below_after_of (After.b _) hbq)⟩)))))
  refine wpQuiet_nil ?_
  rintro _ ⟨n6, rfl⟩
  have hb6 := n6.b
  generalize n6.w = w6 at *
  clear n6 q0 q1 q2 q3 hne hD a1 a2 a3 a4 a5 a6
  go_wp2
  go_ret
  exact ⟨rfl, hb6⟩
set_option maxRecDepth 100000 in
set_option maxHeartbeats 2000000 in
theorem l16Answer_t (g : Nat) (k : Int) (l : ByteArray) (v o p : Int) (w : World) (h : AxB w g k true l v o p) (hl : l.size ≤ 12) (hv : DigOk v) (ho : DigOk o) (hp : DigOk p) :
    Calls Tryd.prog 33 #[.pointer (some ⟨g, 0, none⟩)] w fun e w' => e = .returned (.string (txV l v o p)) ∧ Below w.heap.size w w' := by
  have hP := l3Text_at g 2 l v o p w ⟨h.c2, h.c3, h.c4, h.c5⟩ hl hv ho hp
  have c1 := h.c1
  generalize txV l v o p = x at *
  clear h hl hv ho hp
  go_enter Tryd.func33, Tryd.ntmps33
  go_wp2_with fail
  refine hP.mono ?_
  rintro e w1 ⟨rfl, hb1⟩
  clear hP c1
  go_wp2
  go_ret
  exact ⟨rfl, hb1⟩
set_option maxRecDepth 100000 in
set_option maxHeartbeats 2000000 in
theorem l16Answer_f (g : Nat) (k : Int) (l : ByteArray) (v o p : Int) (w : World) (h : AxB w g k false l v o p) :
    Calls Tryd.prog 33 #[.pointer (some ⟨g, 0, none⟩)] w fun e w' => e = .returned (.string axW) ∧ Below w.heap.size w w' := by
  have c1 := h.c1
  clear h
  unfold axW
  go_enter Tryd.func33, Tryd.ntmps33
  go_wp2
  go_ret
  exact ⟨rfl, Below.refl _ _⟩
set_option maxRecDepth 100000 in
set_option maxHeartbeats 4000000 in
theorem implAnswerText_any (k : Int) (t : Bool) (l : ByteArray) (v o p : Int) (w : World) (hs : l.size ≤ 1048576) (ht : Lib.TabIs Tryd.prog w "internal/strconv.uint64pow10" .u64 Lib.pow10Tab) :
    Calls Tryd.prog 18 #[axV k t l v o p] w fun x w' => x = .returned (.agg #[.int .i64 (axC k t l v o p), .string (axT k t l v o p)]) ∧ Below w.heap.size w w' := by
  have R0 := (AxB.new w k t l v o p 46).below (one_new (.cells #[.int .i64 0, .string ⟨#[]⟩] 32)) (by simp)
  have hF := fun w => answerFault_any k t l v o p w hs
  have ⟨c0, c1, c2, c3, c4, c5⟩ := R0
  by_cases h : axC k t l v o p = 0
  · rcases Bool.eq_false_or_eq_true t with e | e
    · subst e
      rw [axT_t h]
      have hrc : recC l v o p = 0 := by
        unfold axC at h
        by_cases hk : inB k 0 255 = true
        · rw [if_pos hk] at h
          by_cases h1 : heC true l v o p = 0
          · rw [heC_t] at h1; exact h1
          · rw [if_neg h1] at h; exact absurd h h1
        · rw [if_neg hk] at h; exact absurd h (by decide)
      have hT := fun (w' : World) hb => implRecordText_any l v o p w' hs (Lib.tabBelow_of_tabIs ht w' hb)
      rw [hrc, rt_ok hrc] at hT
      rw [h] at hF ⊢
      have h1 := eqA 0
      unfold axV recV at *
      generalize txV l v o p = x at *
      clear h hrc hs ht
      go_enter Tryd.func18, Tryd.ntmps18
      go_wp2_with fail
      refine (hF _).mono ?_
      rintro y w1 ⟨rfl, hb1⟩
      have R1 := R0.below hb1 (by simp; omega)
      have hsz1 : w.heap.size + 2 ≤ w1.heap.size := by have := hb1.size; simp at this; omega
      have two1 := (hb1.block (w.heap.size + 1) (by simp)).trans (heap_new2 w _ _)
      have hB1 : Below w.heap.size w w1 := below_after (below_after hb1)
      clear hb1 R0 hF c0 c1 c2 c3 c4 c5
      have ⟨c0, c1, c2, c3, c4, c5⟩ := R1
      go_wp2_with fail
      refine (hT _ hB1).mono ?_
      rintro y w2 ⟨rfl, hb2⟩
      obtain ⟨hc0, hc1, hf0, hf1⟩ := two_cells ((hb2.block (w.heap.size + 1) (by omega)).trans two1)
      have hB2 := below_after_of hB1 hb2
      clear hb2 hT R1 two1 c0 c1 c2 c3 c4 c5
      go_wp2
      exact bodyPost_ret (v := .agg #[.int .i64 0, .string x]) (by simp [results, Tryd.results18, go_sem, hc0, hc1]) rfl ⟨rfl, (hB2.setCell (Nat.le_succ _) _).setCell (Nat.le_succ _) _⟩
    · subst e
      rw [axT_f h]
      rw [h] at hF ⊢
      have h1 := eqA 0
      unfold axV at *
      unfold axW
      clear h hs ht
      go_enter Tryd.func18, Tryd.ntmps18
      go_wp2_with fail
      refine (hF _).mono ?_
      rintro y w1 ⟨rfl, hb1⟩
      have R1 := R0.below hb1 (by simp; omega)
      have two1 := (hb1.block (w.heap.size + 1) (by simp)).trans (heap_new2 w _ _)
      have hB1 : Below w.heap.size w w1 := below_after (below_after hb1)
      obtain ⟨hc0, hc1, hf0, hf1⟩ := two_cells two1
      clear hb1 R0 hF c0 c1 c2 c3 c4 c5 two1
      have ⟨c0, c1, c2, c3, c4, c5⟩ := R1
      go_wp2
      exact bodyPost_ret (v := .agg #[.int .i64 0, .string ⟨#[110, 111, 110, 101]⟩]) (by simp [results, Tryd.results18, go_sem, hc0, hc1]) rfl ⟨rfl, (hB1.setCell (Nat.le_succ _) _).setCell (Nat.le_succ _) _⟩
  · have h1 := neA h
    rw [axT_no h]
    generalize axC k t l v o p = c at *
    unfold axV at *
    clear h hs ht
    go_enter Tryd.func18, Tryd.ntmps18
    go_wp2_with fail
    refine (hF _).mono ?_
    rintro y w1 ⟨rfl, hb1⟩
    obtain ⟨hc0, hc1, hf0, hf1⟩ := two_cells ((hb1.block (w.heap.size + 1) (by simp)).trans (heap_new2 w _ _))
    have hB1 : Below w.heap.size w w1 := below_after (below_after hb1)
    clear hb1 R0 hF c0 c1 c2 c3 c4 c5
    go_wp2
    exact bodyPost_ret (v := .agg #[.int .i64 c, .string ⟨#[]⟩]) (by simp [results, Tryd.results18, go_sem, hc0, hc1]) rfl ⟨rfl, (hB1.setCell (Nat.le_succ _) _).setCell (Nat.le_succ _) _⟩
set_option maxRecDepth 100000 in
set_option maxHeartbeats 4000000 in
theorem specAx_out (k : Int) (t : Bool) (l : ByteArray) (v o p : Int) (w : World) (_hs : l.size ≤ 1048576) (h : inB k 0 255 = false) :
    Calls Tryd.prog 16 #[axV k t l v o p] w fun x w' => x = .returned (.agg #[.int .i64 3, .string ⟨#[]⟩]) ∧ Below w.heap.size w w' := by
  have R0 := (AxB.new w k t l v o p 46).below (one_new (.cells #[.int .i64 0, .string ⟨#[]⟩] 32)) (by simp)
  have hK := fun w => l4Key_any k w
  have ⟨c0, c1, c2, c3, c4, c5⟩ := R0
  rw [h] at hK
  have h00 := eqA 0
  unfold axV
  go_enter Tryd.func16, Tryd.ntmps16
  go_wp2_with fail
  refine (hK _).mono ?_
  rintro x wq ⟨rfl, hq⟩
  rw [hq]
  clear hq wq hK
  go_wp2
  exact bodyPost_ret (v := .agg #[.int .i64 3, .string ⟨#[]⟩]) (by simp [results, Tryd.results16, go_sem]) rfl ⟨rfl, two_new _ _⟩
set_option maxRecDepth 100000 in
set_option maxHeartbeats 4000000 in
theorem specAx_fn (k : Int) (l : ByteArray) (v o p : Int) (w : World) (_hs : l.size ≤ 1048576) (h : inB k 0 255 = true) (hz : zrR l v o p = false) :
    Calls Tryd.prog 16 #[axV k false l v o p] w fun x w' => x = .returned (.agg #[.int .i64 1, .string ⟨#[]⟩]) ∧ Below w.heap.size w w' := by
  have R0 := (AxB.new w k false l v o p 46).below (one_new (.cells #[.int .i64 0, .string ⟨#[]⟩] 32)) (by simp)
  have hK := fun w => l4Key_any k w
  have ⟨c0, c1, c2, c3, c4, c5⟩ := R0
  rw [h] at hK
  have h00 := eqA 0
  have hN := fun w => rec_zeroN l v o p w
  rw [hz] at hN
  unfold axV
  go_enter Tryd.func16, Tryd.ntmps16
  go_wp2_with fail
  refine (hK _).mono ?_
  rintro x wq ⟨rfl, hq⟩
  rw [hq]
  clear hq wq hK
  go_wp2
  exact bodyPost_ret (v := .agg #[.int .i64 1, .string ⟨#[]⟩]) (by simp [results, Tryd.results16, go_sem]) rfl ⟨rfl, two_new _ _⟩
set_option maxRecDepth 100000 in
set_option maxHeartbeats 4000000 in
theorem specAx_fz (k : Int) (l : ByteArray) (v o p : Int) (w : World) (_hs : l.size ≤ 1048576) (h : inB k 0 255 = true) (hz : zrR l v o p = true) :
    Calls Tryd.prog 16 #[axV k false l v o p] w fun x w' => x = .returned (.agg #[.int .i64 0, .string axW]) ∧ Below w.heap.size w w' := by
  have R0 := (AxB.new w k false l v o p 46).below (one_new (.cells #[.int .i64 0, .string ⟨#[]⟩] 32)) (by simp)
  have hK := fun w => l4Key_any k w
  have ⟨c0, c1, c2, c3, c4, c5⟩ := R0
  rw [h] at hK
  have h00 := eqA 0
  have hN := fun w => rec_zeroN l v o p w
  rw [hz] at hN
  have hA := fun (w' : World) h => l16Answer_f w.heap.size k l v o p w' h
  unfold axV
  go_enter Tryd.func16, Tryd.ntmps16
  go_wp2_with fail
  refine (hK _).mono ?_
  rintro x wq ⟨rfl, hq⟩
  rw [hq]
  clear hq wq hK
  go_wp2_with fail
  refine (hA _ R0).mono ?_
  rintro x w1 ⟨rfl, hb1⟩
  obtain ⟨hc0, hc1, hf0, hf1⟩ := two_cells ((hb1.block (w.heap.size + 1) (by simp)).trans (heap_new2 w _ _))
  have hB1 : Below w.heap.size w w1 := below_after (below_after hb1)
  clear hb1 R0 hA c0 c1 c2 c3 c4 c5
  go_wp2
  exact bodyPost_ret (v := .agg #[.int .i64 0, .string axW]) (by simp [results, Tryd.results16, go_sem, hc0, hc1]) rfl ⟨rfl, (hB1.setCell (Nat.le_succ _) _).setCell (Nat.le_succ _) _⟩
set_option maxRecDepth 100000 in
set_option maxHeartbeats 4000000 in
theorem specAx_tc (k : Int) (l : ByteArray) (v o p : Int) (w : World) (hs : l.size ≤ 1048576) (h : inB k 0 255 = true) (h1 : ¬ recC l v o p = 0) :
    Calls Tryd.prog 16 #[axV k true l v o p] w fun x w' => x = .returned (.agg #[.int .i64 (recC l v o p), .string ⟨#[]⟩]) ∧ Below w.heap.size w w' := by
  have R0 := (AxB.new w k true l v o p 46).below (one_new (.cells #[.int .i64 0, .string ⟨#[]⟩] 32)) (by simp)
  have hK := fun w => l4Key_any k w
  have ⟨c0, c1, c2, c3, c4, c5⟩ := R0
  rw [h] at hK
  have h00 := eqA 0
  have hF := fun (w' : World) h => l3Fault_at w.heap.size 2 l v o p w' h hs
  have h2 := neA h1
  generalize recC l v o p = c at *
  unfold axV
  go_enter Tryd.func16, Tryd.ntmps16
  go_wp2_with fail
  refine (hK _).mono ?_
  rintro x wq ⟨rfl, hq⟩
  rw [hq]
  clear hq wq hK
  go_wp2_with fail
  refine (hF _ ⟨c2, c3, c4, c5⟩).mono ?_
  rintro x w1 ⟨rfl, hb1⟩
  have R1 := R0.below hb1 (by simp; omega)
  have two1 := (hb1.block (w.heap.size + 1) (by simp)).trans (heap_new2 w _ _)
  have hsz1 : w.heap.size + 2 ≤ w1.heap.size := by have := hb1.size; simp at this; omega
  have hB1 : Below w.heap.size w w1 := below_after (below_after hb1)
  clear hb1 R0 hF c0 c1 c2 c3 c4 c5
  obtain ⟨hc0, hc1, hf0, hf1⟩ := two_cells two1
  clear R1 two1 h1
  go_wp2
  exact bodyPost_ret (v := .agg #[.int .i64 c, .string ⟨#[]⟩]) (by simp [results, Tryd.results16, go_sem, hc0, hc1]) rfl ⟨rfl, (hB1.setCell (Nat.le_succ _) _).setCell (Nat.le_succ _) _⟩
set_option maxRecDepth 100000 in
set_option maxHeartbeats 4000000 in
theorem specAx_tn (k : Int) (l : ByteArray) (v o p : Int) (w : World) (hs : l.size ≤ 1048576) (h : inB k 0 255 = true) (h1 : recC l v o p = 0) (h2 : ¬ keyI l = k) :
    Calls Tryd.prog 16 #[axV k true l v o p] w fun x w' => x = .returned (.agg #[.int .i64 1, .string ⟨#[]⟩]) ∧ Below w.heap.size w w' := by
  have R0 := (AxB.new w k true l v o p 46).below (one_new (.cells #[.int .i64 0, .string ⟨#[]⟩] 32)) (by simp)
  have hK := fun w => l4Key_any k w
  have ⟨c0, c1, c2, c3, c4, c5⟩ := R0
  rw [h] at hK
  have h00 := eqA 0
  have hF := fun (w' : World) h => l3Fault_at w.heap.size 2 l v o p w' h hs
  rw [h1] at hF
  have hY := fun w => l2Key_any l w (recOk h1).small
  have hne0 := neA h2
  generalize keyI l = ky at *
  clear h1
  unfold axV
  go_enter Tryd.func16, Tryd.ntmps16
  go_wp2_with fail
  refine (hK _).mono ?_
  rintro x wq ⟨rfl, hq⟩
  rw [hq]
  clear hq wq hK
  go_wp2_with fail
  refine (hF _ ⟨c2, c3, c4, c5⟩).mono ?_
  rintro x w1 ⟨rfl, hb1⟩
  have R1 := R0.below hb1 (by simp; omega)
  have two1 := (hb1.block (w.heap.size + 1) (by simp)).trans (heap_new2 w _ _)
  have hsz1 : w.heap.size + 2 ≤ w1.heap.size := by have := hb1.size; simp at this; omega
  have hB1 : Below w.heap.size w w1 := below_after (below_after hb1)
  clear hb1 R0 hF c0 c1 c2 c3 c4 c5
  have ⟨c0, c1, c2, c3, c4, c5⟩ := R1
  have q0 := After.cell c0
  have q2 := After.cell c2
  have hne := After.ne w1
  clear c0 c1 c2 c3 c4 c5
  go_wp2_with fail
  refine wp_region_after (by kernel_rfl) (by kernel_rfl) ?_
  repeat (first | go_big_quiet_skip | (go_big_quiet_want; go_big_quiet_op; first | go_big_quiet_on | go_big_quiet_call (first | (go_at_call 32; refine (hY _).mono ?_; rintro x wq ⟨rfl, hbq⟩; exact ⟨rfl, after_mk (below_after_of (After.b _) hbq)⟩))))
  refine wpQuiet_nil ?_
  rintro _ ⟨n6, rfl⟩
  have hb6 := n6.b
  generalize n6.w = w6 at *
  have hB6 := below_after_of hB1 hb6
  clear n6 q0 q2 hne hY
  have two6 := (hb6.block (w.heap.size + 1) (by omega)).trans two1
  obtain ⟨hc0, hc1, hf0, hf1⟩ := two_cells two6
  clear hb6 two6 two1 R1 hB1
  have hB1 := hB6
  go_wp2
  exact bodyPost_ret (v := .agg #[.int .i64 1, .string ⟨#[]⟩]) (by simp [results, Tryd.results16, go_sem, hc0, hc1]) rfl ⟨rfl, (hB1.setCell (Nat.le_succ _) _).setCell (Nat.le_succ _) _⟩
set_option maxRecDepth 100000 in
set_option maxHeartbeats 4000000 in
theorem specAx_tt (k : Int) (l : ByteArray) (v o p : Int) (w : World) (hs : l.size ≤ 1048576) (h : inB k 0 255 = true) (h1 : recC l v o p = 0) (h2 : keyI l = k) :
    Calls Tryd.prog 16 #[axV k true l v o p] w fun x w' => x = .returned (.agg #[.int .i64 0, .string (txV l v o p)]) ∧ Below w.heap.size w w' := by
  have R0 := (AxB.new w k true l v o p 46).below (one_new (.cells #[.int .i64 0, .string ⟨#[]⟩] 32)) (by simp)
  have hK := fun w => l4Key_any k w
  have ⟨c0, c1, c2, c3, c4, c5⟩ := R0
  rw [h] at hK
  have h00 := eqA 0
  have hF := fun (w' : World) h => l3Fault_at w.heap.size 2 l v o p w' h hs
  rw [h1] at hF
  have hY := fun w => l2Key_any l w (recOk h1).small
  have hne0 := eqA k
  rw [h2] at hY
  have hA := fun (w' : World) h => l16Answer_t w.heap.size k l v o p w' h (recOk h1).small (recOk h1).dig.1 (recOk h1).dig.2.1 (recOk h1).dig.2.2
  generalize txV l v o p = x at *
  clear h1 h2
  unfold axV
  go_enter Tryd.func16, Tryd.ntmps16
  go_wp2_with fail
  refine (hK _).mono ?_
  rintro x wq ⟨rfl, hq⟩
  rw [hq]
  clear hq wq hK
  go_wp2_with fail
  refine (hF _ ⟨c2, c3, c4, c5⟩).mono ?_
  rintro x w1 ⟨rfl, hb1⟩
  have R1 := R0.below hb1 (by simp; omega)
  have two1 := (hb1.block (w.heap.size + 1) (by simp)).trans (heap_new2 w _ _)
  have hsz1 : w.heap.size + 2 ≤ w1.heap.size := by have := hb1.size; simp at this; omega
  have hB1 : Below w.heap.size w w1 := below_after (below_after hb1)
  clear hb1 R0 hF c0 c1 c2 c3 c4 c5
  have ⟨c0, c1, c2, c3, c4, c5⟩ := R1
  have q0 := After.cell c0
  have q2 := After.cell c2
  have hne := After.ne w1
  clear c0 c1 c2 c3 c4 c5
  go_wp2_with fail
  refine wp_region_after (by kernel_rfl) (by kernel_rfl) ?_
  repeat (first | go_big_quiet_skip | (go_big_quiet_want; go_big_quiet_op; first | go_big_quiet_on | go_big_quiet_call (first | (go_at_call 32; refine (hY _).mono ?_; rintro x wq ⟨rfl, hbq⟩; exact ⟨rfl, after_mk (below_after_of (After.b _) hbq)⟩))))
  refine wpQuiet_nil ?_
  rintro _ ⟨n6, rfl⟩
  have hb6 := n6.b
  generalize n6.w = w6 at *
  have hB6 := below_after_of hB1 hb6
  clear n6 q0 q2 hne hY
  have R6 := R1.below hb6 (by omega)
  have two6 := (hb6.block (w.heap.size + 1) (by omega)).trans two1
  have hsz6 : w.heap.size + 2 ≤ w6.heap.size := Nat.le_trans hsz1 hb6.size
  clear hb6 two1 R1 hB1
  have ⟨c0, c1, c2, c3, c4, c5⟩ := R6
  go_wp2_with fail
  refine (hA _ R6).mono ?_
  rintro y w9 ⟨rfl, hb9⟩
  obtain ⟨hc0, hc1, hf0, hf1⟩ := two_cells ((hb9.block (w.heap.size + 1) (by omega)).trans two6)
  have hB1 := below_after_of hB6 hb9
  clear hb9 two6 R6 hB6 c0 c1 c2 c3 c4 c5 hA
  go_wp2
  exact bodyPost_ret (v := .agg #[.int .i64 0, .string x]) (by simp [results, Tryd.results16, go_sem, hc0, hc1]) rfl ⟨rfl, (hB1.setCell (Nat.le_succ _) _).setCell (Nat.le_succ _) _⟩
theorem specAnswerText_any (k : Int) (t : Bool) (l : ByteArray) (v o p : Int) (w : World) (hs : l.size ≤ 1048576) :
    Calls Tryd.prog 16 #[axV k t l v o p] w fun x w' => x = .returned (.agg #[.int .i64 (axC k t l v o p), .string (axT k t l v o p)]) ∧ Below w.heap.size w w' := by
  rcases Bool.eq_false_or_eq_true (inB k 0 255) with h | h
  · rcases Bool.eq_false_or_eq_true t with e | e
    · subst e
      by_cases h1 : recC l v o p = 0
      · have hh : heC true l v o p = 0 := by rw [heC_t]; exact h1
        by_cases h2 : keyI l = k
        · rw [axT_t (axC_t h hh h2), axC_t h hh h2]
          exact specAx_tt k l v o p w hs h h1 h2
        · have e1 := axC_n h hh h2
          rw [axT_no (by rw [e1]; decide), e1]
          exact specAx_tn k l v o p w hs h h1 h2
      · have hh : ¬ heC true l v o p = 0 := by rw [heC_t]; exact h1
        have e1 := axC_he h hh
        rw [axT_no (by rw [e1]; exact hh), e1, heC_t]
        exact specAx_tc k l v o p w hs h h1
    · subst e
      rcases Bool.eq_false_or_eq_true (zrR l v o p) with hz | hz
      · have hh := heC_fz hz
        rw [axT_f (axC_f h hh), axC_f h hh]
        exact specAx_fz k l v o p w hs h hz
      · have hh := heC_fn hz
        have e1 := axC_he h (by rw [hh]; decide)
        rw [axT_no (by rw [e1, hh]; decide), e1, hh]
        exact specAx_fn k l v o p w hs h hz
  · rw [axT_no (by rw [axC_out h]; decide), axC_out h]
    exact specAx_out k t l v o p w hs h
end U
end Go.Proofs.YtmjbmlojcieciaaDoor
