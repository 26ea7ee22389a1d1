/- A head out of bytes: as both models tell it. -/
import Derived.Test.YtpelafkjnmcdgaaHd3
import Derived.Test.YtpelafkjnmcdgaaRead1
import Derived.Test.YtpelafkjnmcdgaaStr
namespace Go.Proofs.Ytpelafkjnmcdgaa
open Go.RowKit
namespace U
/-- Two bytes as a number. -/
def rdE (ys : List Int) (k : Nat) : Int := 256 * ys.getD k 0 + ys.getD (k + 1) 0
def rdH (ys : List Int) : Int := hdC (rdE ys 1) (rdE ys 3) (rdE ys 5) (rdE ys 7) (rdE ys 9)
def rdOk (ys : List Int) : Prop := ys.length = 11 ∧ ys.getD 0 0 = 7 ∧ rdH ys = 0
def rdV (ys : List Int) : Value := if ys.length = 11 then (if ys.getD 0 0 = 7 then (if rdH ys = 0 then hrV 0 (rdE ys 1) (rdE ys 3) (rdE ys 5) (rdE ys 7) (rdE ys 9) else hrV 5 0 0 0 0 0) else hrV 5 0 0 0 0 0) else hrV 5 0 0 0 0 0
theorem rdV_ok {ys : List Int} (h : rdOk ys) : rdV ys = hrV 0 (rdE ys 1) (rdE ys 3) (rdE ys 5) (rdE ys 7) (rdE ys 9) := by unfold rdV; rw [if_pos h.1, if_pos h.2.1, if_pos h.2.2]
theorem rdV_no {ys : List Int} (h : ¬ rdOk ys) : rdV ys = hrV 5 0 0 0 0 0 := by
  unfold rdV
  by_cases h1 : ys.length = 11
  · rw [if_pos h1]
    by_cases h2 : ys.getD 0 0 = 7
    · rw [if_pos h2, if_neg (fun h3 => h ⟨h1, h2, h3⟩)]
    · rw [if_neg h2]
  · rw [if_neg h1]
theorem list11 {ys : List Int} (h : ys.length = 11) : ∃ a b c d e f g i j k l, ys = [a, b, c, d, e, f, g, i, j, k, l] := by
  match ys, h with
  | [a, b, c, d, e, f, g, i, j, k, l], _ => exact ⟨a, b, c, d, e, f, g, i, j, k, l, rfl⟩
theorem two_byte {x y : Int} (hy : 0 ≤ y ∧ y ≤ 255) : (256 * x + y) / 256 = x ∧ (256 * x + y) % 256 = y := by omega
/-- What is read is packed to the same bytes, where the tag is that of a head. -/
theorem rd_back {ys : List Int} (hl : ys.length = 11) (hb : Bts ys) : hdB (rdE ys 1) (rdE ys 3) (rdE ys 5) (rdE ys 7) (rdE ys 9) = ys ↔ ys.getD 0 0 = 7 := by
  obtain ⟨a, b, c, d, e, f, g, i, j, k, l, rfl⟩ := list11 hl
  have q := fun m (hm : m < 11) => hb.at (k := m) hm
  have q2 := q 2 (by omega)
  have q4 := q 4 (by omega)
  have q6 := q 6 (by omega)
  have q8 := q 8 (by omega)
  have q10 := q 10 (by omega)
  simp at q2 q4 q6 q8 q10
  have e1 := two_byte (x := b) q2
  have e2 := two_byte (x := d) q4
  have e3 := two_byte (x := f) q6
  have e4 := two_byte (x := i) q8
  have e5 := two_byte (x := k) q10
  simp only [hdB, tagL, numB, rdE, List.flatMap_cons, List.flatMap_nil]
  simp [e1, e2, e3, e4, e5]
  exact eq_comm
theorem rd_same {ys : List Int} (hl : ys.length = 11) (hb : Bts ys) : hdL (rdE ys 1) (rdE ys 3) (rdE ys 5) (rdE ys 7) (rdE ys 9) = ys ↔ rdOk ys := by
  unfold rdOk rdH
  by_cases h : hdC (rdE ys 1) (rdE ys 3) (rdE ys 5) (rdE ys 7) (rdE ys 9) = 0
  · rw [hdL_ok h, rd_back hl hb]
    exact ⟨fun q => ⟨hl, q, h⟩, fun q => q.2.1⟩
  · rw [hdL_no h]
    refine ⟨fun q => ?_, fun q => absurd q.2.2 h⟩
    rw [← q] at hl; simp at hl
theorem six_cellsH {w : World} {b : Nat} {x0 x1 x2 x3 x4 x5 : Value} {t : TypeId} (h : w.heap[b]? = some (.cells #[x0, x1, x2, x3, x4, x5] t (0, 0))) : (w.cell? ⟨b, 0, none⟩ = some x0 ∧ w.cell? ⟨b, 1, none⟩ = some x1 ∧ w.cell? ⟨b, 2, none⟩ = some x2 ∧ w.cell? ⟨b, 3, none⟩ = some x3 ∧ w.cell? ⟨b, 4, none⟩ = some x4 ∧ w.cell? ⟨b, 5, none⟩ = some x5) ∧
    (w.frozen? ⟨b, 0, none⟩ = false ∧ w.frozen? ⟨b, 1, none⟩ = false ∧ w.frozen? ⟨b, 2, none⟩ = false ∧ w.frozen? ⟨b, 3, none⟩ = false ∧ w.frozen? ⟨b, 4, none⟩ = false ∧ w.frozen? ⟨b, 5, none⟩ = false) := by
  simp [World.cell?, World.frozen?, h]
/-- Both ways to read two bytes, from a world on. -/
structure TwoAt (f : Nat) (W : World) (u : Value) (k : Nat) (x : Int) : Prop where
  c : ∀ w', Below W.heap.size W w' → Calls Try.prog f #[u, .int .i64 k] w' fun e w'' => e = .returned (.int .i64 x) ∧ Below w'.heap.size w' w''
theorem below_drewN' (w : World) (n : Nat) : Below w.heap.size w (w.drewN n) := below_drewN (Below.refl _ _) n
theorem twoSpec {W : World} {b off c : Nat} {ys : List Int} (hl : ys.length = 11) (hb : Bts ys) (hlt : b < W.heap.size) (hc : ∀ j, j < ys.length → W.cell? ⟨b, off + j, none⟩ = some (.int .u8 (ys.getD j 0))) (k : Nat) (hk : k + 1 < 11) : TwoAt 103 W (.slice (some ⟨b, off, none⟩) 11 c) k (rdE ys k) :=
  ⟨fun w' h => (l3Two_any b off c 11 k _ _ w' hk (by omega) ((h.cell (p := ⟨b, off + k, none⟩) hlt).trans (hc k (by omega))) ((h.cell (p := ⟨b, off + (k + 1), none⟩) hlt).trans (hc (k + 1) (by omega))) (hb.at (by omega)) (hb.at (by omega))).mono fun e w'' ⟨h1, n, h2⟩ => ⟨h1, by rw [h2]; exact below_drewN' _ _⟩⟩
theorem twoImpl {W : World} {b off c : Nat} {ys : List Int} (hl : ys.length = 11) (hb : Bts ys) (hlt : b < W.heap.size) (hc : ∀ j, j < ys.length → W.cell? ⟨b, off + j, none⟩ = some (.int .u8 (ys.getD j 0))) (k : Nat) (hk : k + 1 < 11) : TwoAt 104 W (.slice (some ⟨b, off, none⟩) 11 c) k (rdE ys k) :=
  ⟨fun w' h => (numberAt_any b off c 11 k _ _ w' hk (by omega) ((h.cell (p := ⟨b, off + k, none⟩) hlt).trans (hc k (by omega))) ((h.cell (p := ⟨b, off + (k + 1), none⟩) hlt).trans (hc (k + 1) (by omega))) (hb.at (by omega)) (hb.at (by omega))).mono fun e w'' ⟨h1, n, h2⟩ => ⟨h1, by rw [h2]; exact below_drewN' _ _⟩⟩
def headZ : Obj := .cells #[.int .i64 0, .int .i64 0, .int .i64 0, .int .i64 0, .int .i64 0, .int .i64 0] 75
theorem set6 {w w' : World} (h : Below w.heap.size w w') (x0 x1 x2 x3 x4 x5 : Value) : Below w.heap.size w ((((((w'.setCell ⟨w.heap.size, 0, none⟩ x0).setCell ⟨w.heap.size, 1, none⟩ x1).setCell ⟨w.heap.size, 2, none⟩ x2).setCell ⟨w.heap.size, 3, none⟩ x3).setCell ⟨w.heap.size, 4, none⟩ x4).setCell ⟨w.heap.size, 5, none⟩ x5) :=
  (((((h.setCell (Nat.le_refl _) _).setCell (Nat.le_refl _) _).setCell (Nat.le_refl _) _).setCell (Nat.le_refl _) _).setCell (Nat.le_refl _) _).setCell (Nat.le_refl _) _
set_option maxRecDepth 100000 in
set_option maxHeartbeats 4000000 in
theorem specReadHead_any (u : Value) (ys : List Int) (w : World) (hv : Ints .u8 w u ys) (hb : Bts ys) :
    Calls Try.prog 43 #[u] w fun x w' => x = .returned (rdV ys) ∧ Below w.heap.size w w' := by
  by_cases hl : ys.length = 11
  · obtain ⟨a, c, rfl⟩ := hv.shape
    obtain ⟨_, b, off, rfl, hlt, hc⟩ := hv.at (by omega)
    obtain ⟨W, hW⟩ : ∃ W, W = w.alloc headZ := ⟨_, rfl⟩
    have hWB : Below w.heap.size w W := by rw [hW]; exact one_new _
    have hltW : b < W.heap.size := Nat.lt_of_lt_of_le hlt hWB.size
    have hcW : ∀ j, j < ys.length → W.cell? ⟨b, off + j, none⟩ = some (.int .u8 (ys.getD j 0)) := fun j hj => (hWB.cell (p := ⟨b, off + j, none⟩) hlt).trans (hc j hj)
    have t1 := twoSpec (c := c) hl hb hltW hcW 1 (by omega)
    have t3 := twoSpec (c := c) hl hb hltW hcW 3 (by omega)
    have t5 := twoSpec (c := c) hl hb hltW hcW 5 (by omega)
    have t7 := twoSpec (c := c) hl hb hltW hcW 7 (by omega)
    have t9 := twoSpec (c := c) hl hb hltW hcW 9 (by omega)
    have z0 := hcW 0 (by omega)
    have A0 : W.heap[w.heap.size]? = some headZ := by rw [hW]; exact heap_alloc_new w _
    have HOK : Hid (ys.getD 0 0 = 7 → rdH ys = 0 → rdV ys = hrV 0 (rdE ys 1) (rdE ys 3) (rdE ys 5) (rdE ys 7) (rdE ys 9)) := fun h0 h1 => rdV_ok ⟨hl, h0, h1⟩
    have HNO : Hid (¬ ys.getD 0 0 = 7 ∨ ¬ rdH ys = 0 → rdV ys = hrV 5 0 0 0 0 0) := fun h => rdV_no fun q => by rcases h with h | h; exact h q.2.1; exact h q.2.2
    have hF := fun (b : Nat) w h => l10Fault_any b 0 (rdE ys 1) (rdE ys 3) (rdE ys 5) (rdE ys 7) (rdE ys 9) w h
    have e1 : hdC (rdE ys 1) (rdE ys 3) (rdE ys 5) (rdE ys 7) (rdE ys 9) = rdH ys := rfl
    rw [e1] at hF
    simp only [Nat.add_zero] at z0
    rw [hl]
    generalize rdE ys 1 = x1 at *
    generalize rdE ys 3 = x3 at *
    generalize rdE ys 5 = x5 at *
    generalize rdE ys 7 = x7 at *
    generalize rdE ys 9 = x9 at *
    generalize rdH ys = q at *
    generalize rdV ys = r at *
    obtain ⟨y0, hy0⟩ : ∃ y0, y0 = ys.getD 0 0 := ⟨_, rfl⟩
    rw [← hy0] at z0 HOK HNO
    have HW : Hid (w.alloc headZ = W) := hW.symm
    rw [hW] at z0
    unfold headZ at z0 HW
    clear hv hb hl hc hcW e1 hy0 hW hlt
    by_cases h7 : y0 = 7
    · subst h7
      have HB1 : Hid (Below w.heap.size w W) := hWB
      clear hWB
      go_enter Try.func43, Try.ntmps43
      go_wp2_with fail
      rw [HW.out]
      have hcur := Below.refl W.heap.size W
      refine (t1.c _ hcur).mono ?_
      rintro x w1 ⟨rfl, hb1⟩
      have hcur := below_after_of hcur hb1
      clear hb1 z0 t1
      go_wp2_with fail
      refine (t3.c _ hcur).mono ?_
      rintro x w2 ⟨rfl, hb1⟩
      have hcur := below_after_of hcur hb1
      clear hb1 t3
      go_wp2_with fail
      refine (t5.c _ hcur).mono ?_
      rintro x w3 ⟨rfl, hb1⟩
      have hcur := below_after_of hcur hb1
      clear hb1 t5
      go_wp2_with fail
      refine (t7.c _ hcur).mono ?_
      rintro x w4 ⟨rfl, hb1⟩
      have hcur := below_after_of hcur hb1
      clear hb1 t7
      go_wp2_with fail
      refine (t9.c _ hcur).mono ?_
      rintro x w5 ⟨rfl, hb1⟩
      have hcur := below_after_of hcur hb1
      clear hb1 t9
      go_wp2_with fail
      refine (hF _ _ (HdS.new w5 ⟨x1, x3, x5, x7, x9⟩ 66)).mono ?_
      rintro x w6 ⟨rfl, hb6⟩
      have H6 := (hb6.block w5.heap.size (by simp)).trans (heap_alloc_new w5 _)
      have hB6 := below_after_of hcur (below_after hb6)
      have Z6 := (hB6.block w.heap.size (Array.getElem?_eq_some_iff.1 A0).1).trans A0
      obtain ⟨⟨c0, c1, c2, c3, c4, c5⟩, f0, f1, f2, f3, f4, f5⟩ := six_cellsH Z6
      obtain ⟨g0, g1, g2, g3, g4⟩ := five_cells H6
      have HB6 : Hid (Below w.heap.size w w6) := below_after_of HB1.out hB6
      clear hF hb6 hB6 hcur A0 Z6 H6
      by_cases hq : q = 0
      · subst hq
        have HR : Hid (r = hrV 0 x1 x3 x5 x7 x9) := HOK.out (by first | rfl | trivial) (by first | rfl | trivial)
        clear HOK HNO
        go_wp2
        refine bodyPost_ret (v := hrV 0 x1 x3 x5 x7 x9) (by simp [results, Try.results43, go_sem, hrV, c0, c1, c2, c3, c4, c5]) rfl ⟨by rw [HR.out], ?_⟩
        exact set6 HB6.out _ _ _ _ _ _
      · have hq1 : (q != 0) = true := by simpa using hq
        have HR : Hid (r = hrV 5 0 0 0 0 0) := HNO.out (Or.inr hq)
        clear HOK HNO hq
        go_wp2
        refine bodyPost_ret (v := hrV 5 0 0 0 0 0) (by simp [results, Try.results43, go_sem, hrV, c0, c1, c2, c3, c4, c5]) rfl ⟨by rw [HR.out], ?_⟩
        exact set6 HB6.out _ _ _ _ _ _
    · have h71 : (y0 != 7) = true := by simpa using h7
      have HR : Hid (r = hrV 5 0 0 0 0 0) := HNO.out (Or.inl h7)
      clear HOK HNO h7 t1 t3 t5 t7 t9 hF A0 HW hWB
      go_enter Try.func43, Try.ntmps43
      go_wp2
      refine bodyPost_ret (v := hrV 5 0 0 0 0 0) (by simp [results, Try.results43, go_sem, hrV]) rfl ⟨by rw [HR.out], ?_⟩
      exact one_new _
  · obtain ⟨a, c, rfl⟩ := hv.shape
    rw [rdV_no (fun q => hl q.1)]
    have hd : ((ys.length : Int) != 11) = true := by simp; omega
    generalize ys.length = n at *
    clear hv hb hl
    go_enter Try.func43, Try.ntmps43
    go_wp2
    refine bodyPost_ret (v := hrV 5 0 0 0 0 0) (by simp [results, Try.results43, go_sem, hrV]) rfl ⟨rfl, ?_⟩
    exact one_new _
theorem fieldB1 (c : Int) (v : Value) (w : World) (h : ∃ a n k, v = .slice a n k) : (Instr.field 70 (.agg #[.int .i64 c, v]) 1).run Try.prog w = .ok v w := by
  obtain ⟨a, n, k, rfl⟩ := h
  kernel_rfl
set_option maxRecDepth 100000 in
set_option maxHeartbeats 4000000 in
theorem implReadHead_any (u : Value) (ys : List Int) (w : World) (hv : Ints .u8 w u ys) (hb : Bts ys) :
    Calls Try.prog 45 #[u] w fun x w' => x = .returned (rdV ys) ∧ Below w.heap.size w w' := by
  by_cases hl : ys.length = 11
  · obtain ⟨a, c, rfl⟩ := hv.shape
    obtain ⟨_, b, off, rfl, hlt, hc⟩ := hv.at (by omega)
    obtain ⟨W, hW⟩ : ∃ W, W = w.alloc headZ := ⟨_, rfl⟩
    have hWB : Below w.heap.size w W := by rw [hW]; exact one_new _
    have hltW : b < W.heap.size := Nat.lt_of_lt_of_le hlt hWB.size
    have hcW : ∀ j, j < ys.length → W.cell? ⟨b, off + j, none⟩ = some (.int .u8 (ys.getD j 0)) := fun j hj => (hWB.cell (p := ⟨b, off + j, none⟩) hlt).trans (hc j hj)
    have t1 := twoImpl (c := c) hl hb hltW hcW 1 (by omega)
    have t3 := twoImpl (c := c) hl hb hltW hcW 3 (by omega)
    have t5 := twoImpl (c := c) hl hb hltW hcW 5 (by omega)
    have t7 := twoImpl (c := c) hl hb hltW hcW 7 (by omega)
    have t9 := twoImpl (c := c) hl hb hltW hcW 9 (by omega)
    have A0 : W.heap[w.heap.size]? = some headZ := by rw [hW]; exact heap_alloc_new w _
    have HOK : Hid (rdOk ys → rdV ys = hrV 0 (rdE ys 1) (rdE ys 3) (rdE ys 5) (rdE ys 7) (rdE ys 9)) := fun h => rdV_ok h
    have HNO : Hid (¬ rdOk ys → rdV ys = hrV 5 0 0 0 0 0) := fun h => rdV_no h
    have hF := fun w => implPackHead_any (rdE ys 1) (rdE ys 3) (rdE ys 5) (rdE ys 7) (rdE ys 9) w
    have hsame := rd_same hl hb
    have HI : Hid (Ints .u8 W (.slice (some ⟨b, off, none⟩) ys.length c) ys) := hv.below hWB
    have hEq := fun u2 w' hu2 hu => bytesEqual_any u2 (.slice (some ⟨b, off, none⟩) ys.length c) (hdL (rdE ys 1) (rdE ys 3) (rdE ys 5) (rdE ys 7) (rdE ys 9)) ys w' hu2 hu (hdL_bts _ _ _ _ _) hb
    rw [hl] at HI hEq ⊢
    generalize hdL (rdE ys 1) (rdE ys 3) (rdE ys 5) (rdE ys 7) (rdE ys 9) = zs at *
    generalize hdC (rdE ys 1) (rdE ys 3) (rdE ys 5) (rdE ys 7) (rdE ys 9) = q at *
    generalize rdE ys 1 = x1 at *
    generalize rdE ys 3 = x3 at *
    generalize rdE ys 5 = x5 at *
    generalize rdE ys 7 = x7 at *
    generalize rdE ys 9 = x9 at *
    generalize rdV ys = r at *
    have HD : Hid (decide (zs = ys) = true → r = hrV 0 x1 x3 x5 x7 x9) := fun h => HOK.out (hsame.1 (of_decide_eq_true h))
    have HE : Hid (decide (zs = ys) = false → r = hrV 5 0 0 0 0 0) := fun h => HNO.out (fun k => by simp at h; exact h (hsame.2 k))
    have HW : Hid (w.alloc headZ = W) := hW.symm
    unfold headZ at HW
    unfold hdV at *
    have HB1 : Hid (Below w.heap.size w W) := hWB
    clear hv hb hl hc hcW hW hlt hsame HOK HNO hWB
    generalize decide (zs = ys) = B at *
    go_enter Try.func45, Try.ntmps45
    go_wp2_with fail
    rw [HW.out]
    have hcur := Below.refl W.heap.size W
    refine (t1.c _ hcur).mono ?_
    rintro x w1 ⟨rfl, hb1⟩
    have hcur := below_after_of hcur hb1
    clear hb1 t1
    go_wp2_with fail
    refine (t3.c _ hcur).mono ?_
    rintro x w2 ⟨rfl, hb1⟩
    have hcur := below_after_of hcur hb1
    clear hb1 t3
    go_wp2_with fail
    refine (t5.c _ hcur).mono ?_
    rintro x w3 ⟨rfl, hb1⟩
    have hcur := below_after_of hcur hb1
    clear hb1 t5
    go_wp2_with fail
    refine (t7.c _ hcur).mono ?_
    rintro x w4 ⟨rfl, hb1⟩
    have hcur := below_after_of hcur hb1
    clear hb1 t7
    go_wp2_with fail
    refine (t9.c _ hcur).mono ?_
    rintro x w5 ⟨rfl, hb1⟩
    have hcur := below_after_of hcur hb1
    clear hb1 t9
    go_wp2_with fail
    refine (hF _).mono ?_
    intro x w6 h6
    obtain ⟨a6, k6, rfl, hb6, ho6⟩ := h6.use
    have kf := fun w => fieldB1 q (.slice a6 zs.length k6) w ⟨_, _, _, rfl⟩
    have H6 := (hb6.block w5.heap.size (by simp)).trans (heap_alloc_new w5 _)
    have hB6 := below_after_of hcur (below_after hb6)
    have Z6 := (hB6.block w.heap.size (Array.getElem?_eq_some_iff.1 A0).1).trans A0
    have hE6 := hEq _ _ (own_ints ho6) (HI.out.below hB6)
    obtain ⟨⟨c0, c1, c2, c3, c4, c5⟩, f0, f1, f2, f3, f4, f5⟩ := six_cellsH Z6
    obtain ⟨g0, g1, g2, g3, g4⟩ := five_cells H6
    have HB6 : Hid (Below w.heap.size w w6) := below_after_of HB1.out hB6
    clear hF hb6 hB6 hcur A0 Z6 H6 hEq ho6 h6
    generalize zs.length = zn at *
    go_wp2_with fail
    refine hE6.mono ?_
    rintro x w7 ⟨rfl, h7⟩
    rw [h7]
    clear hE6 h7
    rcases B with _ | _
    · have HR : Hid (r = hrV 5 0 0 0 0 0) := HE.out rfl
      clear HD HE
      go_wp2
      refine bodyPost_ret (v := hrV 5 0 0 0 0 0) (by simp [results, Try.results45, go_sem, hrV, c0, c1, c2, c3, c4, c5]) rfl ⟨by rw [HR.out], ?_⟩
      exact set6 HB6.out _ _ _ _ _ _
    · have HR : Hid (r = hrV 0 x1 x3 x5 x7 x9) := HD.out rfl
      clear HD HE
      go_wp2
      refine bodyPost_ret (v := hrV 0 x1 x3 x5 x7 x9) (by simp [results, Try.results45, go_sem, hrV, c0, c1, c2, c3, c4, c5]) rfl ⟨by rw [HR.out], ?_⟩
      exact set6 HB6.out _ _ _ _ _ _
  · obtain ⟨a, c, rfl⟩ := hv.shape
    rw [rdV_no (fun q => hl q.1)]
    have hd : ((ys.length : Int) != 11) = true := by simp; omega
    generalize ys.length = n at *
    clear hv hb hl
    go_enter Try.func45, Try.ntmps45
    go_wp2
    refine bodyPost_ret (v := hrV 5 0 0 0 0 0) (by simp [results, Try.results45, go_sem, hrV]) rfl ⟨rfl, ?_⟩
    exact one_new _
end U
end Go.Proofs.Ytpelafkjnmcdgaa
