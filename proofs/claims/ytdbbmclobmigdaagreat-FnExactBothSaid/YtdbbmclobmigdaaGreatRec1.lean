/- The fault of a record: what both models answer. -/
import Derived.Test.YtdbbmclobmigdaaGreatRecM
import Derived.Test.YtdbbmclobmigdaaGreatQuiet
namespace Go.Proofs.YtdbbmclobmigdaaGreat
open Go.RowKit
namespace U
/-- A record that lies in four cells of a block. -/
structure RecAt (w : World) (g : Nat) (l : ByteArray) (v o p : Int) : Prop where
  c0 : w.cell? ⟨g, 0, none⟩ = some (.string l)
  c1 : w.cell? ⟨g, 1, none⟩ = some (.int .i64 v)
  c2 : w.cell? ⟨g, 2, none⟩ = some (.int .i64 o)
  c3 : w.cell? ⟨g, 3, none⟩ = some (.int .i64 p)
theorem RecAt.below {w w' : World} {g : Nat} {l : ByteArray} {v o p : Int} (h : RecAt w g l v o p) (hb : Below w.heap.size w w') : RecAt w' g l v o p :=
  ⟨After.cell h.c0 ⟨w', hb⟩, After.cell h.c1 ⟨w', hb⟩, After.cell h.c2 ⟨w', hb⟩, After.cell h.c3 ⟨w', hb⟩⟩
theorem RecAt.new (w : World) (l : ByteArray) (v o p : Int) (t : TypeId) : RecAt (w.alloc (.cells #[.string l, .int .i64 v, .int .i64 o, .int .i64 p] t)) w.heap.size l v o p := by
  have hh := heap_alloc_new w (.cells #[.string l, .int .i64 v, .int .i64 o, .int .i64 p] t)
  constructor <;> (unfold World.cell?; rw [hh]; rfl)
set_option maxHeartbeats 400000 in
theorem l2Is_any (n : Int) (w : World) : Calls Tryz.prog 62 #[.int .i64 n] w fun e w' => e = .returned (.bool (sumB n)) ∧ w' = w := by
  go_enter Tryz.func62, Tryz.ntmps62
  go_wp2_with (go_at_call 66; refine (l1In_any _ _ _ _).mono ?_; rintro e w1 ⟨rfl, rfl⟩)
  go_ret
  exact ⟨ret_bool (by unfold sumB inB; simp), rfl⟩
theorem hne_all (i : Int) : (i != i) = false := by simp
set_option maxRecDepth 100000 in
set_option maxHeartbeats 4000000 in
theorem l3Fault_any (g : Nat) (l : ByteArray) (v o p : Int) (w : World) (h : RecAt w g l v o p) (hs : l.size ≤ 1048576) :
    Calls Tryz.prog 67 #[.pointer (some ⟨g, 0, none⟩)] w fun e w' => e = .returned (.int .i64 (recC l v o p)) ∧ Below w.heap.size w w' := by
  have hL := fun w => l1Label_any l w hs
  have hA := recC_label (l := l) (v := v) (o := o) (p := p)
  have hF := recC_form (l := l) (v := v) (o := o) (p := p)
  have hR := recC_range (l := l) (v := v) (o := o) (p := p)
  have hK := recC_ok (l := l) (v := v) (o := o) (p := p)
  have hsm := labelP_small (s := l)
  generalize recC l v o p = rc at *
  generalize labelP l = c at *
  by_cases h0 : c = 0
  · subst h0
    have h12 := hsm rfl
    have HF : Hid (foldsB l = false → rc = 1) := hF rfl
    have HR : Hid (foldsB l = true → fitB v o p = false → rc = 3) := hR rfl
    have HK : Hid (foldsB l = true → fitB v o p = true → rc = 0) := hK rfl
    have HFB : Hid (((foldS l).toList == l.toList) = foldsB l) := rfl
    clear hsm hF hR hK hA
    have hc0 := h.c0
    go_enter Tryz.func67, Tryz.ntmps67
    go_wp2_with fail
    refine (hL _).mono ?_
    rintro e w1 ⟨rfl, hb1⟩
    have h1 := h.below hb1
    clear h hc0 hL
    have hc0 := h1.c0
    have hq0 := After.cell h1.c0
    have hne := After.ne w1
    rcases Bool.eq_false_or_eq_true (foldsB l) with hf | hf
    · have hfb := HFB.out
      rw [hf] at hfb
      go_wp2_with fail
      refine wp_region_after (by kernel_rfl) (by kernel_rfl) ?_
      repeat (first | go_big_quiet_skip | (go_big_quiet_want; go_big_quiet_op; first | go_big_quiet_on | go_big_quiet_call (first | (go_at_call 38; refine (l1Fold_any l _ h12).mono ?_; rintro e wq ⟨rfl, hbq⟩; exact ⟨rfl, after_mk (below_after_of (After.b _) hbq)⟩))))
      refine wpQuiet_nil ?_
      rintro _ ⟨n6, rfl⟩
      have hb6 := n6.b
      have h6 := h1.below hb6
      have hB6 := below_after_of hb1 hb6
      generalize n6.w = w6 at *
      clear h1 hc0 hq0 hne n6
      have hc1 := h6.c1
      have hc2 := h6.c2
      have hc3 := h6.c3
      clear hfb HFB
      rcases Bool.eq_false_or_eq_true (inB v 1 999) with hv | hv
      · rcases Bool.eq_false_or_eq_true (sumB o) with ho | ho
        · rcases Bool.eq_false_or_eq_true (sumB p) with hp | hp
          · go_wp2_with (first | (go_at_call 66; refine (l1In_any _ _ _ _).mono ?_; rintro e wq ⟨rfl, rfl⟩) | (go_at_call 62; refine (l2Is_any _ _).mono ?_; rintro e wq ⟨rfl, rfl⟩))
            go_ret
            exact ⟨ret_int (HK.out hf (by simp [fitB, hv, ho, hp])).symm, hB6⟩
          · go_wp2_with (first | (go_at_call 66; refine (l1In_any _ _ _ _).mono ?_; rintro e wq ⟨rfl, rfl⟩) | (go_at_call 62; refine (l2Is_any _ _).mono ?_; rintro e wq ⟨rfl, rfl⟩))
            go_ret
            exact ⟨ret_int (HR.out hf (by simp [fitB, hv, ho, hp])).symm, hB6⟩
        · go_wp2_with (first | (go_at_call 66; refine (l1In_any _ _ _ _).mono ?_; rintro e wq ⟨rfl, rfl⟩) | (go_at_call 62; refine (l2Is_any _ _).mono ?_; rintro e wq ⟨rfl, rfl⟩))
          go_ret
          exact ⟨ret_int (HR.out hf (by simp [fitB, hv, ho])).symm, hB6⟩
      · go_wp2_with (first | (go_at_call 66; refine (l1In_any _ _ _ _).mono ?_; rintro e wq ⟨rfl, rfl⟩) | (go_at_call 62; refine (l2Is_any _ _).mono ?_; rintro e wq ⟨rfl, rfl⟩))
        go_ret
        exact ⟨ret_int (HR.out hf (by simp [fitB, hv])).symm, hB6⟩
    · have hfb := HFB.out
      rw [hf] at hfb
      go_wp2_with fail
      refine wp_region_after (by kernel_rfl) (by kernel_rfl) ?_
      repeat (first | go_big_quiet_skip | (go_big_quiet_want; go_big_quiet_op; first | go_big_quiet_on | go_big_quiet_call (first | (go_at_call 38; refine (l1Fold_any l _ h12).mono ?_; rintro e wq ⟨rfl, hbq⟩; exact ⟨rfl, after_mk (below_after_of (After.b _) hbq)⟩))))
      refine wpQuiet_nil ?_
      rintro _ ⟨n6, rfl⟩
      have hb6 := n6.b
      have hB6 := below_after_of hb1 hb6
      generalize n6.w = w6 at *
      clear h1 hc0 hq0 hne n6
      go_wp2
      go_ret
      exact ⟨ret_int (HF.out hf).symm, hB6⟩
  · have h1 : (c != 0) = true := by simpa using h0
    have HA : Hid (rc = c) := hA h0
    clear hA hF hR hK hsm h0
    have hc0 := h.c0
    go_enter Tryz.func67, Tryz.ntmps67
    go_wp2_with fail
    refine (hL _).mono ?_
    rintro e w1 ⟨rfl, hb1⟩
    go_wp2
    go_ret
    exact ⟨ret_int HA.out.symm, hb1⟩
/-- Two records held against each other that part in the label alone. -/
theorem rec_neq (s t : ByteArray) (v o p : Int) (w : World) : (binOp .neq 37 (recV s v o p) (recV t v o p)).run Tryz.prog w = .ok (.bool (!(s.toList == t.toList))) w := by
  unfold recV
  simp [go_sem]
  by_cases h : s.toList = t.toList
  · rw [if_pos h]; simp [h]
  · rw [if_neg h]; simp [h]
theorem recAt_load {w : World} {g : Nat} {l : ByteArray} {v o p : Int} (h : RecAt w g l v o p) : (loadVar 37 ⟨g, 0, none⟩).run Tryz.prog w = .ok (recV l v o p) w := by
  unfold recV
  simp [go_sem, h.c0, h.c1, h.c2, h.c3]
theorem blk4 {w : World} {b : Nat} {x y z u : Value} {t : TypeId} (h : w.heap[b]? = some (.cells #[x, y, z, u] t (0, 0))) : w.cell? ⟨b, 0, none⟩ = some x ∧ w.cell? ⟨b, 1, none⟩ = some y ∧ w.cell? ⟨b, 2, none⟩ = some z ∧ w.cell? ⟨b, 3, none⟩ = some u ∧ w.frozen? ⟨b, 0, none⟩ = false ∧ w.frozen? ⟨b, 1, none⟩ = false ∧ w.frozen? ⟨b, 2, none⟩ = false ∧ w.frozen? ⟨b, 3, none⟩ = false := by
  simp [World.cell?, World.frozen?, h]
theorem heap_alloc_old' (w : World) (o x : Obj) {g : Nat} (h : w.heap[g]? = some x) : (w.alloc o).heap[g]? = some x := by
  have hlt : g < w.heap.size := (Array.getElem?_eq_some_iff.1 h).1
  rw [(one_new o).block g hlt, h]
theorem heap_new2 (w : World) (o o' : Obj) : ((w.alloc o).alloc o').heap[w.heap.size + 1]? = some o' := by
  have := heap_alloc_new (w.alloc o) o'
  simpa using this
theorem fldT0 (x : Int) (s : ByteArray) (w : World) : (Instr.field 153 (.agg #[.int .i64 x, .string s]) 0).run Tryz.prog w = .ok (.int .i64 x) w := by kernel_rfl
theorem fldT1 (x : Int) (s : ByteArray) (w : World) : (Instr.field 153 (.agg #[.int .i64 x, .string s]) 1).run Tryz.prog w = .ok (.string s) w := by kernel_rfl
set_option maxRecDepth 100000 in
set_option maxHeartbeats 1000000 in
theorem withFolded_any (l : ByteArray) (v o p : Int) (w : World) (hs : l.size ≤ 1048576) :
    Calls Tryz.prog 136 #[recV l v o p] w fun e w' => e = .returned (recV (foldP l) v o p) ∧ Below w.heap.size w w' := by
  have hI := fun w => implFoldLabel_any l w hs
  unfold recV
  generalize foldP l = t at *
  generalize labelP l = c at *
  go_enter Tryz.func136, Tryz.ntmps136
  go_wp2_with fail
  refine (hI _).mono ?_
  rintro e w1 ⟨rfl, hb1⟩
  have hB : Below w.heap.size w w1 := below_after (below_after hb1)
  have k0 := blk4 ((hb1.block w.heap.size (by simp; omega)).trans (heap_alloc_old' _ _ _ (heap_alloc_new w _)))
  have k1 := blk4 ((hb1.block (w.heap.size + 1) (by simp)).trans (heap_new2 w _ _))
  go_split_ands
  clear hb1 hI
  have hft := fldT1
  go_wp2
  refine bodyPost_ret (v := recV t v o p) (by simp [results, Tryz.results136, go_sem, recV, *]) rfl ⟨rfl, ?_⟩
  exact ((((hB.setCell (Nat.le_refl _) _).setCell (Nat.le_succ _) _).setCell (Nat.le_succ _) _).setCell (Nat.le_succ _) _).setCell (Nat.le_succ _) _
set_option maxRecDepth 100000 in
set_option maxHeartbeats 4000000 in
theorem implRecordFault_any (l : ByteArray) (v o p : Int) (w : World) (hs : l.size ≤ 1048576) :
    Calls Tryz.prog 108 #[recV l v o p] w fun e w' => e = .returned (.int .i64 (recC l v o p)) ∧ Below w.heap.size w w' := by
  have hL := fun w => implLabelFault_any l w hs
  have hA := recC_label (l := l) (v := v) (o := o) (p := p)
  have hF := recC_form (l := l) (v := v) (o := o) (p := p)
  have hR := recC_range (l := l) (v := v) (o := o) (p := p)
  have hK := recC_ok (l := l) (v := v) (o := o) (p := p)
  have hW := fun w => withFolded_any l v o p w hs
  have hft : labelP l = 0 → foldP l = foldS l := fun h => by unfold foldP; rw [if_pos h]
  unfold recV
  have h := RecAt.new w l v o p 37
  generalize recC l v o p = rc at *
  generalize labelP l = c at *
  by_cases h0 : c = 0
  · subst h0
    rw [hft rfl] at hW
    have HF : Hid (foldsB l = false → rc = 1) := hF rfl
    have HR : Hid (foldsB l = true → fitB v o p = false → rc = 3) := hR rfl
    have HK : Hid (foldsB l = true → fitB v o p = true → rc = 0) := hK rfl
    have hne2 := rec_neq (foldS l) l v o p
    have HFB : Hid (((foldS l).toList == l.toList) = foldsB l) := rfl
    rw [HFB.out] at hne2
    clear hF hR hK hA hft
    go_enter Tryz.func108, Tryz.ntmps108
    go_wp2_with fail
    refine (hL _).mono ?_
    rintro e w1 ⟨rfl, hb1⟩
    have h1 := h.below hb1
    have hB1 := below_after hb1
    clear h hL hb1
    have hq0 := After.cell h1.c0
    have hq1 := After.cell h1.c1
    have hq2 := After.cell h1.c2
    have hq3 := After.cell h1.c3
    have hne := After.ne w1
    rcases Bool.eq_false_or_eq_true (foldsB l) with hf | hf
    · rw [hf] at hne2
      unfold recV at hne2 hW
      go_wp2_with fail
      refine wp_region_after (by kernel_rfl) (by kernel_rfl) ?_
      repeat (first | go_big_quiet_skip | (go_big_quiet_want; go_big_quiet_op; first | go_big_quiet_on | go_big_quiet_call (first | (go_at_call 136; refine (hW _).mono ?_; rintro e wq ⟨rfl, hbq⟩; exact ⟨rfl, after_mk (below_after_of (After.b _) hbq)⟩))))
      refine wpQuiet_nil ?_
      rintro _ ⟨n6, rfl⟩
      have hb6 := n6.b
      have h6 := h1.below hb6
      have hB6 := below_after_of hB1 hb6
      generalize n6.w = w6 at *
      clear h1 hq0 hq1 hq2 hq3 hne n6 hne2 HFB hW
      have hc1 := h6.c1
      have hc2 := h6.c2
      have hc3 := h6.c3
      by_cases hv1 : v < 1
      · go_wp2_with (first | (go_at_call 79; refine (isSum_any _ _).mono ?_; rintro e wq ⟨rfl, rfl⟩))
        go_ret
        exact ⟨ret_int (HR.out hf (by simp [fitB, inB]; omega)).symm, hB6⟩
      · by_cases hv2 : 999 < v
        · go_wp2_with (first | (go_at_call 79; refine (isSum_any _ _).mono ?_; rintro e wq ⟨rfl, rfl⟩))
          go_ret
          exact ⟨ret_int (HR.out hf (by simp [fitB, inB]; omega)).symm, hB6⟩
        · have hv : inB v 1 999 = true := inB_t (by omega) (by omega)
          have Hv : Hid (inB v 1 999 = true) := hv
          clear hv
          rcases Bool.eq_false_or_eq_true (sumB o) with ho | ho
          · rcases Bool.eq_false_or_eq_true (sumB p) with hp | hp
            · go_wp2_with (first | (go_at_call 79; refine (isSum_any _ _).mono ?_; rintro e wq ⟨rfl, rfl⟩))
              go_ret
              exact ⟨ret_int (HK.out hf (by simp [fitB, Hv.out, ho, hp])).symm, hB6⟩
            · go_wp2_with (first | (go_at_call 79; refine (isSum_any _ _).mono ?_; rintro e wq ⟨rfl, rfl⟩))
              go_ret
              exact ⟨ret_int (HR.out hf (by simp [fitB, ho, hp])).symm, hB6⟩
          · go_wp2_with (first | (go_at_call 79; refine (isSum_any _ _).mono ?_; rintro e wq ⟨rfl, rfl⟩))
            go_ret
            exact ⟨ret_int (HR.out hf (by simp [fitB, ho])).symm, hB6⟩
    · rw [hf] at hne2
      unfold recV at hne2 hW
      go_wp2_with fail
      refine wp_region_after (by kernel_rfl) (by kernel_rfl) ?_
      repeat (first | go_big_quiet_skip | (go_big_quiet_want; go_big_quiet_op; first | go_big_quiet_on | go_big_quiet_call (first | (go_at_call 136; refine (hW _).mono ?_; rintro e wq ⟨rfl, hbq⟩; exact ⟨rfl, after_mk (below_after_of (After.b _) hbq)⟩))))
      refine wpQuiet_nil ?_
      rintro _ ⟨n6, rfl⟩
      have hb6 := n6.b
      have hB6 := below_after_of hB1 hb6
      generalize n6.w = w6 at *
      clear h1 hq0 hq1 hq2 hq3 hne n6 hne2 HFB hW
      go_wp2
      go_ret
      exact ⟨ret_int (HF.out hf).symm, hB6⟩
  · have h1 : (c != 0) = true := by simpa using h0
    have HA : Hid (rc = c) := hA h0
    clear hA hF hR hK h0 hft hW h
    go_enter Tryz.func108, Tryz.ntmps108
    go_wp2_with fail
    refine (hL _).mono ?_
    rintro e w1 ⟨rfl, hb1⟩
    go_wp2
    go_ret
    exact ⟨ret_int HA.out.symm, below_after hb1⟩
end U
end Go.Proofs.YtdbbmclobmigdaaGreat
