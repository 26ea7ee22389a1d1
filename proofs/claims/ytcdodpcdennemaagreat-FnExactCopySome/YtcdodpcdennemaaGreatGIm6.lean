/- Some keys copied, by the model. -/
import Derived.Test.YtcdodpcdennemaaGreatGIm2h
import Derived.Test.YtcdodpcdennemaaGreatGIm6M
namespace Go.Proofs.YtcdodpcdennemaaGreat
open Go.RowKit
namespace U
set_option maxHeartbeats 400000 in
theorem l1Min256 (x : Int) (w : World) : Calls Tryz.prog 122 #[.int .i64 256, .int .i64 x] w fun e w' => e = .returned (.int .i64 (if 256 ≤ x then 256 else x)) ∧ w' = w := by
  by_cases h : 256 < x
  · rw [if_pos (by omega)]
    go_enter Tryz.func122, Tryz.ntmps122
    go_wp2
    go_ret
    exact ⟨rfl, rfl⟩
  · have e : (if 256 ≤ x then (256 : Int) else x) = x := by split <;> omega
    rw [e]
    clear e
    have h : x ≤ 256 := by omega
    go_enter Tryz.func122, Tryz.ntmps122
    go_wp2
    go_ret
    exact ⟨rfl, rfl⟩
set_option maxRecDepth 100000 in
set_option maxHeartbeats 2000000 in
theorem l11Some_full (lo hi g : Nat) (s : St) (v : Sv) (us0 : List Value) (n : Int) (w : World) (hso : StOwn lo hi w v us0 s) (hB : StB s) (hs : StC w g s v) (hd : dirF s.d = 0) (h : s.ph = 2) (hcu : 0 ≤ s.cu ∧ s.cu ≤ 255) (hn : 1 ≤ n ∧ n ≤ 256) (hc : 256 ≤ s.cu + n) :
    Calls Tryz.prog 57 #[.pointer (some ⟨g, 0, none⟩), .int .i64 n] w fun e w' => StAns w 0 (⟨3, 256, s.d, newL s.d 256, s.h, s.p⟩ : St) e w' := by
  obtain ⟨W, hW⟩ : ∃ W, W = w.alloc (.cells #[.int .i64 0, .int .i64 0, .int .i64 0, .slice none 0 0, .slice none 0 0, .slice none 0 0, .slice none 0 0] 43) := ⟨_, rfl⟩
  have hBW : Below w.heap.size w W := by rw [hW]; exact one_new _
  have hRW : W.heap[w.heap.size]? = some (.cells #[.int .i64 0, .int .i64 0, .int .i64 0, .slice none 0 0, .slice none 0 0, .slice none 0 0, .slice none 0 0] 43) := by rw [hW]; exact heap_alloc_new w _
  have hLW : w.heap.size < W.heap.size := (Array.getElem?_eq_some_iff.1 hRW).1
  have hsW := hs.below hBW hs.lt
  obtain ⟨a1, c1, e1⟩ := hso.sts.d.shape
  have hC := l11Turned_any lo hi g g 2 s v us0 3 256 s.d a1 s.d.length c1 W (hso.below hBW) hB hsW hsW.lt (by have := hsW.c2; rw [e1] at this; exact this) rfl (by rw [← e1]; exact hso.sts.d.below hBW) (own_nil7 (hso.own.own (dRow v.d s.d) (by simp [sRows])) e1) (dirOk hd) (by decide)
  have HW : Hid (w.alloc (.cells #[.int .i64 0, .int .i64 0, .int .i64 0, .slice none 0 0, .slice none 0 0, .slice none 0 0, .slice none 0 0] 43) = W) := hW.symm
  have k0 := hsW.c0
  have k1 := hsW.c1
  have hgw : g < w.heap.size := hs.lt
  rw [hW] at k0 k1
  rw [h] at k0
  have hI := fun w => l1In_any n 1 256 w
  rw [inB_t hn.1 hn.2] at hI
  have hM := fun w => l1Min256 (s.cu + n) w
  rw [if_pos hc] at hM
  have hwr : IntKind.i64.wrap (s.cu + n) = s.cu + n := by rw [IntKind.wrap_i64]; omega
  have HBW : Hid (Below w.heap.size w W) := hBW
  have HLO : Hid (w.heap.size < W.heap.size) := hLW
  have HBK : Hid (w.heap.size ≤ w.heap.size) := Nat.le_refl _
  have HRW : Hid (W.heap[w.heap.size]? = some (.cells #[.int .i64 0, .int .i64 0, .int .i64 0, .slice none 0 0, .slice none 0 0, .slice none 0 0, .slice none 0 0] 43)) := hRW
  generalize (⟨3, 256, s.d, newL s.d 256, s.h, s.p⟩ : St) = t at hC ⊢
  generalize s.cu = cu at *
  clear hso hB hs hsW hd h e1 hW hBW hRW hLW hcu hn hc
  go_enter Tryz.func57, Tryz.ntmps57
  go_wp2_with fail
  refine (hI _).mono ?_
  rintro e wq ⟨rfl, hq⟩
  rw [hq]
  clear hq hI
  go_wp2_with fail
  refine (hM _).mono ?_
  rintro e wp ⟨rfl, hq⟩
  rw [hq]
  clear hq hM
  go_wp2_with fail
  rw [HW.out]
  refine hC.mono ?_
  rintro e w1 ⟨u, us, rfl, hb1, h1⟩
  have HB1 : Hid (Below w.heap.size w w1) := below_after_of HBW.out hb1
  obtain ⟨⟨q0, q1, q2, q3, q4, q5, q6⟩, g0, g1, g2, g3, g4, g5, g6⟩ := seven_cellsR ((hb1.block w.heap.size HLO.out).trans HRW.out)
  clear hC HW k0 k1 hb1 HRW HBW
  obtain ⟨b1, d1, f1⟩ := h1.sts.d.shape
  obtain ⟨b2, d2, f2⟩ := h1.sts.n.shape
  obtain ⟨b3, d3, f3⟩ := h1.sts.h.shape
  obtain ⟨b4, d4, f4⟩ := h1.sts.p.shape
  obtain ⟨td, tn, th, tp⟩ := u
  dsimp only at f1 f2 f3 f4
  subst f1 f2 f3 f4
  unfold srV
  dsimp only
  have HP : Hid (∀ x0 x1 x2 x3 x4 x5 x6 : Value, _) := (st_put (w := w) (b := w.heap.size) h1 HB1.out HBK.out HLO.out)
  clear h1
  go_wp2
  refine bodyPost_ret (v := .agg #[.int .i64 0, .int .i64 t.ph, .int .i64 t.cu, .slice b1 t.d.length d1, .slice b2 t.n.length d2, .slice b3 t.h.length d3, .slice b4 t.p.length d4]) (by simp [results, Tryz.results57, go_sem, q0, q1, q2, q3, q4, q5, q6]) rfl ⟨⟨.slice b1 t.d.length d1, .slice b2 t.n.length d2, .slice b3 t.h.length d3, .slice b4 t.p.length d4⟩, us, rfl, ?_, ?_⟩
  · exact (HP.out _ _ _ _ _ _ _).1
  · exact (HP.out _ _ _ _ _ _ _).2
set_option maxRecDepth 100000 in
set_option maxHeartbeats 2000000 in
theorem l11Some_part (lo hi g : Nat) (s : St) (v : Sv) (us0 : List Value) (n : Int) (w : World) (hso : StOwn lo hi w v us0 s) (hB : StB s) (hs : StC w g s v) (hd : dirF s.d = 0) (h : s.ph = 2) (hcu : 0 ≤ s.cu ∧ s.cu ≤ 255) (hn : 1 ≤ n ∧ n ≤ 256) (hc : ¬ 256 ≤ s.cu + n) :
    Calls Tryz.prog 57 #[.pointer (some ⟨g, 0, none⟩), .int .i64 n] w fun e w' => StAns w 0 (⟨2, s.cu + n, s.d, newL s.d (s.cu + n), s.h, s.p⟩ : St) e w' := by
  obtain ⟨W, hW⟩ : ∃ W, W = w.alloc (.cells #[.int .i64 0, .int .i64 0, .int .i64 0, .slice none 0 0, .slice none 0 0, .slice none 0 0, .slice none 0 0] 43) := ⟨_, rfl⟩
  have hBW : Below w.heap.size w W := by rw [hW]; exact one_new _
  have hRW : W.heap[w.heap.size]? = some (.cells #[.int .i64 0, .int .i64 0, .int .i64 0, .slice none 0 0, .slice none 0 0, .slice none 0 0, .slice none 0 0] 43) := by rw [hW]; exact heap_alloc_new w _
  have hLW : w.heap.size < W.heap.size := (Array.getElem?_eq_some_iff.1 hRW).1
  have hsW := hs.below hBW hs.lt
  obtain ⟨a1, c1, e1⟩ := hso.sts.d.shape
  have hC := l11Turned_any lo hi g g 2 s v us0 2 (s.cu + n) s.d a1 s.d.length c1 W (hso.below hBW) hB hsW hsW.lt (by have := hsW.c2; rw [e1] at this; exact this) rfl (by rw [← e1]; exact hso.sts.d.below hBW) (own_nil7 (hso.own.own (dRow v.d s.d) (by simp [sRows])) e1) (dirOk hd) (by unfold cuB; rw [if_neg (by decide), if_neg (by decide), if_pos rfl]; exact inB_t (by omega) (by omega))
  have HW : Hid (w.alloc (.cells #[.int .i64 0, .int .i64 0, .int .i64 0, .slice none 0 0, .slice none 0 0, .slice none 0 0, .slice none 0 0] 43) = W) := hW.symm
  have k0 := hsW.c0
  have k1 := hsW.c1
  have hgw : g < w.heap.size := hs.lt
  rw [hW] at k0 k1
  rw [h] at k0
  have hI := fun w => l1In_any n 1 256 w
  rw [inB_t hn.1 hn.2] at hI
  have hM := fun w => l1Min256 (s.cu + n) w
  rw [if_neg hc] at hM
  have hwr : IntKind.i64.wrap (s.cu + n) = s.cu + n := by rw [IntKind.wrap_i64]; omega
  have HBW : Hid (Below w.heap.size w W) := hBW
  have HLO : Hid (w.heap.size < W.heap.size) := hLW
  have HBK : Hid (w.heap.size ≤ w.heap.size) := Nat.le_refl _
  have HRW : Hid (W.heap[w.heap.size]? = some (.cells #[.int .i64 0, .int .i64 0, .int .i64 0, .slice none 0 0, .slice none 0 0, .slice none 0 0, .slice none 0 0] 43)) := hRW
  generalize (⟨2, s.cu + n, s.d, newL s.d (s.cu + n), s.h, s.p⟩ : St) = t at hC ⊢
  have hne : ¬ s.cu + n = 256 := by omega
  generalize s.cu = cu at *
  clear hso hB hs hsW hd h e1 hW hBW hRW hLW hcu hn hc
  go_enter Tryz.func57, Tryz.ntmps57
  go_wp2_with fail
  refine (hI _).mono ?_
  rintro e wq ⟨rfl, hq⟩
  rw [hq]
  clear hq hI
  go_wp2_with fail
  refine (hM _).mono ?_
  rintro e wp ⟨rfl, hq⟩
  rw [hq]
  clear hq hM
  go_wp2_with fail
  rw [HW.out]
  refine hC.mono ?_
  rintro e w1 ⟨u, us, rfl, hb1, h1⟩
  have HB1 : Hid (Below w.heap.size w w1) := below_after_of HBW.out hb1
  obtain ⟨⟨q0, q1, q2, q3, q4, q5, q6⟩, g0, g1, g2, g3, g4, g5, g6⟩ := seven_cellsR ((hb1.block w.heap.size HLO.out).trans HRW.out)
  clear hC HW k0 k1 hb1 HRW HBW
  obtain ⟨b1, d1, f1⟩ := h1.sts.d.shape
  obtain ⟨b2, d2, f2⟩ := h1.sts.n.shape
  obtain ⟨b3, d3, f3⟩ := h1.sts.h.shape
  obtain ⟨b4, d4, f4⟩ := h1.sts.p.shape
  obtain ⟨td, tn, th, tp⟩ := u
  dsimp only at f1 f2 f3 f4
  subst f1 f2 f3 f4
  unfold srV
  dsimp only
  have HP : Hid (∀ x0 x1 x2 x3 x4 x5 x6 : Value, _) := (st_put (w := w) (b := w.heap.size) h1 HB1.out HBK.out HLO.out)
  clear h1
  go_wp2
  refine bodyPost_ret (v := .agg #[.int .i64 0, .int .i64 t.ph, .int .i64 t.cu, .slice b1 t.d.length d1, .slice b2 t.n.length d2, .slice b3 t.h.length d3, .slice b4 t.p.length d4]) (by simp [results, Tryz.results57, go_sem, q0, q1, q2, q3, q4, q5, q6]) rfl ⟨⟨.slice b1 t.d.length d1, .slice b2 t.n.length d2, .slice b3 t.h.length d3, .slice b4 t.p.length d4⟩, us, rfl, ?_, ?_⟩
  · exact (HP.out _ _ _ _ _ _ _).1
  · exact (HP.out _ _ _ _ _ _ _).2
theorem l11Some_ok (lo hi g : Nat) (s : St) (v : Sv) (us0 : List Value) (n : Int) (w : World) (hso : StOwn lo hi w v us0 s) (hB : StB s) (hs : StC w g s v) (hd : dirF s.d = 0) (h : s.ph = 2) (hcu : 0 ≤ s.cu ∧ s.cu ≤ 255) (hn : 1 ≤ n ∧ n ≤ 256) :
    Calls Tryz.prog 57 #[.pointer (some ⟨g, 0, none⟩), .int .i64 n] w fun e w' => StAns w 0 (csT s n) e w' := by
  unfold csT csP csN
  by_cases hc : 256 ≤ s.cu + n
  · rw [if_pos hc, if_pos hc]
    exact l11Some_full lo hi g s v us0 n w hso hB hs hd h hcu hn hc
  · rw [if_neg hc, if_neg hc]
    exact l11Some_part lo hi g s v us0 n w hso hB hs hd h hcu hn hc
set_option maxRecDepth 100000 in
set_option maxHeartbeats 2000000 in
theorem l11Some_ph (g : Nat) (s : St) (v : Sv) (n : Int) (w : World) (hs : StC w g s v) (h2 : ¬ s.ph = 2) :
    Calls Tryz.prog 57 #[.pointer (some ⟨g, 0, none⟩), .int .i64 n] w fun e w' => StAns w 10 stZ e w' := by
  obtain ⟨W, hW⟩ : ∃ W, W = w.alloc (.cells #[.int .i64 0, .int .i64 0, .int .i64 0, .slice none 0 0, .slice none 0 0, .slice none 0 0, .slice none 0 0] 43) := ⟨_, rfl⟩
  have hBW : Below w.heap.size w W := by rw [hW]; exact one_new _
  have hRW : W.heap[w.heap.size]? = some (.cells #[.int .i64 0, .int .i64 0, .int .i64 0, .slice none 0 0, .slice none 0 0, .slice none 0 0, .slice none 0 0] 43) := by rw [hW]; exact heap_alloc_new w _
  have hLW : w.heap.size < W.heap.size := (Array.getElem?_eq_some_iff.1 hRW).1
  have hsW := hs.below hBW hs.lt
  have hC := l11Bad_any 10 W
  have HW : Hid (w.alloc (.cells #[.int .i64 0, .int .i64 0, .int .i64 0, .slice none 0 0, .slice none 0 0, .slice none 0 0, .slice none 0 0] 43) = W) := hW.symm
  have k0 := hsW.c0
  have k1 := hsW.c1
  have hgw : g < w.heap.size := hs.lt
  rw [hW] at k0 k1
  have n2 : (s.ph != 2) = true := by simpa using h2
  have HBW : Hid (Below w.heap.size w W) := hBW
  have HLO : Hid (w.heap.size < W.heap.size) := hLW
  have HBK : Hid (w.heap.size ≤ w.heap.size) := Nat.le_refl _
  have HRW : Hid (W.heap[w.heap.size]? = some (.cells #[.int .i64 0, .int .i64 0, .int .i64 0, .slice none 0 0, .slice none 0 0, .slice none 0 0, .slice none 0 0] 43)) := hRW
  generalize s.ph = ph at *
  generalize stZ = t at *
  clear hs hsW hW hBW hRW hLW h2 k1
  go_enter Tryz.func57, Tryz.ntmps57
  go_wp2_with fail
  rw [HW.out]
  refine hC.mono ?_
  rintro e w1 ⟨u, us, rfl, hb1, h1⟩
  have HB1 : Hid (Below w.heap.size w w1) := below_after_of HBW.out hb1
  obtain ⟨⟨q0, q1, q2, q3, q4, q5, q6⟩, g0, g1, g2, g3, g4, g5, g6⟩ := seven_cellsR ((hb1.block w.heap.size HLO.out).trans HRW.out)
  clear hC HW k0 hb1 HRW HBW
  obtain ⟨b1, d1, f1⟩ := h1.sts.d.shape
  obtain ⟨b2, d2, f2⟩ := h1.sts.n.shape
  obtain ⟨b3, d3, f3⟩ := h1.sts.h.shape
  obtain ⟨b4, d4, f4⟩ := h1.sts.p.shape
  obtain ⟨td, tn, th, tp⟩ := u
  dsimp only at f1 f2 f3 f4
  subst f1 f2 f3 f4
  unfold srV
  dsimp only
  have HP : Hid (∀ x0 x1 x2 x3 x4 x5 x6 : Value, _) := (st_put (w := w) (b := w.heap.size) h1 HB1.out HBK.out HLO.out)
  clear h1
  go_wp2
  refine bodyPost_ret (v := .agg #[.int .i64 10, .int .i64 t.ph, .int .i64 t.cu, .slice b1 t.d.length d1, .slice b2 t.n.length d2, .slice b3 t.h.length d3, .slice b4 t.p.length d4]) (by simp [results, Tryz.results57, go_sem, q0, q1, q2, q3, q4, q5, q6]) rfl ⟨⟨.slice b1 t.d.length d1, .slice b2 t.n.length d2, .slice b3 t.h.length d3, .slice b4 t.p.length d4⟩, us, rfl, ?_, ?_⟩
  · exact (HP.out _ _ _ _ _ _ _).1
  · exact (HP.out _ _ _ _ _ _ _).2
set_option maxRecDepth 100000 in
set_option maxHeartbeats 2000000 in
theorem l11Some_out (g : Nat) (s : St) (v : Sv) (n : Int) (w : World) (hs : StC w g s v) (h2 : s.ph = 2) (hn : inB n 1 256 = false) :
    Calls Tryz.prog 57 #[.pointer (some ⟨g, 0, none⟩), .int .i64 n] w fun e w' => StAns w 3 stZ e w' := by
  obtain ⟨W, hW⟩ : ∃ W, W = w.alloc (.cells #[.int .i64 0, .int .i64 0, .int .i64 0, .slice none 0 0, .slice none 0 0, .slice none 0 0, .slice none 0 0] 43) := ⟨_, rfl⟩
  have hBW : Below w.heap.size w W := by rw [hW]; exact one_new _
  have hRW : W.heap[w.heap.size]? = some (.cells #[.int .i64 0, .int .i64 0, .int .i64 0, .slice none 0 0, .slice none 0 0, .slice none 0 0, .slice none 0 0] 43) := by rw [hW]; exact heap_alloc_new w _
  have hLW : w.heap.size < W.heap.size := (Array.getElem?_eq_some_iff.1 hRW).1
  have hsW := hs.below hBW hs.lt
  have hC := l11Bad_any 3 W
  have HW : Hid (w.alloc (.cells #[.int .i64 0, .int .i64 0, .int .i64 0, .slice none 0 0, .slice none 0 0, .slice none 0 0, .slice none 0 0] 43) = W) := hW.symm
  have k0 := hsW.c0
  have k1 := hsW.c1
  have hgw : g < w.heap.size := hs.lt
  rw [hW] at k0 k1
  rw [h2] at k0
  have hI := fun w => l1In_any n 1 256 w
  rw [hn] at hI
  have HBW : Hid (Below w.heap.size w W) := hBW
  have HLO : Hid (w.heap.size < W.heap.size) := hLW
  have HBK : Hid (w.heap.size ≤ w.heap.size) := Nat.le_refl _
  have HRW : Hid (W.heap[w.heap.size]? = some (.cells #[.int .i64 0, .int .i64 0, .int .i64 0, .slice none 0 0, .slice none 0 0, .slice none 0 0, .slice none 0 0] 43)) := hRW
  generalize stZ = t at *
  clear hs hsW hW hBW hRW hLW h2 k1 hn
  go_enter Tryz.func57, Tryz.ntmps57
  go_wp2_with fail
  refine (hI _).mono ?_
  rintro e wq ⟨rfl, hq⟩
  rw [hq]
  clear hq hI
  go_wp2_with fail
  rw [HW.out]
  refine hC.mono ?_
  rintro e w1 ⟨u, us, rfl, hb1, h1⟩
  have HB1 : Hid (Below w.heap.size w w1) := below_after_of HBW.out hb1
  obtain ⟨⟨q0, q1, q2, q3, q4, q5, q6⟩, g0, g1, g2, g3, g4, g5, g6⟩ := seven_cellsR ((hb1.block w.heap.size HLO.out).trans HRW.out)
  clear hC HW k0 hb1 HRW HBW
  obtain ⟨b1, d1, f1⟩ := h1.sts.d.shape
  obtain ⟨b2, d2, f2⟩ := h1.sts.n.shape
  obtain ⟨b3, d3, f3⟩ := h1.sts.h.shape
  obtain ⟨b4, d4, f4⟩ := h1.sts.p.shape
  obtain ⟨td, tn, th, tp⟩ := u
  dsimp only at f1 f2 f3 f4
  subst f1 f2 f3 f4
  unfold srV
  dsimp only
  have HP : Hid (∀ x0 x1 x2 x3 x4 x5 x6 : Value, _) := (st_put (w := w) (b := w.heap.size) h1 HB1.out HBK.out HLO.out)
  clear h1
  go_wp2
  refine bodyPost_ret (v := .agg #[.int .i64 3, .int .i64 t.ph, .int .i64 t.cu, .slice b1 t.d.length d1, .slice b2 t.n.length d2, .slice b3 t.h.length d3, .slice b4 t.p.length d4]) (by simp [results, Tryz.results57, go_sem, q0, q1, q2, q3, q4, q5, q6]) rfl ⟨⟨.slice b1 t.d.length d1, .slice b2 t.n.length d2, .slice b3 t.h.length d3, .slice b4 t.p.length d4⟩, us, rfl, ?_, ?_⟩
  · exact (HP.out _ _ _ _ _ _ _).1
  · exact (HP.out _ _ _ _ _ _ _).2
set_option maxRecDepth 100000 in
set_option maxHeartbeats 2000000 in
theorem specCopySome_bad (f : Int) (R : Rt) (hR : RtOk R) (lo hi : Nat) (s : St) (v : Sv) (us0 : List Value) (n : Int) (w : World) (hso : StOwn lo hi w v us0 s) (hB : StB s) (hf : stF R s = f) (h : ¬ f = 0) :
    Calls Tryz.prog 19 #[stV s v, .int .i64 n] w fun e w' => StAns w f stZ e w' := by
  have hv := hso.sts
  obtain ⟨W, hW⟩ : ∃ W, W = (w.alloc (stC s v 41)).alloc (.cells #[.int .i64 0, .int .i64 0, .int .i64 0, .slice none 0 0, .slice none 0 0, .slice none 0 0, .slice none 0 0] 43) := ⟨_, rfl⟩
  have hBW : Below w.heap.size w W := by rw [hW]; exact two_new _ _
  have hH : W.heap[w.heap.size + 1]? = some (.cells #[.int .i64 0, .int .i64 0, .int .i64 0, .slice none 0 0, .slice none 0 0, .slice none 0 0, .slice none 0 0] 43) := by
    have := heap_alloc_new (w.alloc (stC s v 41)) (.cells #[.int .i64 0, .int .i64 0, .int .i64 0, .slice none 0 0, .slice none 0 0, .slice none 0 0, .slice none 0 0] 43)
    rw [World.size_alloc] at this
    rw [hW]
    exact this
  have hC0 : StC W w.heap.size s v := by rw [hW]; exact (StC.new w s v _).below (one_new _) (by simp)
  have hltH := (Array.getElem?_eq_some_iff.1 hH).1
  have hF := l11Fault_any R hR w.heap.size s v W hC0 (hv.below hBW) hB
  rw [hf] at hF
  have hnz : (f != 0) = true := by simpa using h
  have HC : Hid (∀ w', Below W.heap.size W w' → Calls Tryz.prog 38 #[.int .i64 f] w' fun e w'' => StAns w' f stZ e w'') := fun w' _ => l11Bad_any _ w'
  clear h hf
  obtain ⟨a1, c1, e1⟩ := hv.d.shape
  obtain ⟨a2, c2, e2⟩ := hv.n.shape
  obtain ⟨a3, c3, e3⟩ := hv.h.shape
  obtain ⟨a4, c4, e4⟩ := hv.p.shape
  unfold stC at hW
  unfold stV
  rw [e1, e2, e3, e4] at hW ⊢
  have HW : Hid ((w.alloc (.cells #[.int .i64 s.ph, .int .i64 s.cu, .slice a1 s.d.length c1, .slice a2 s.n.length c2, .slice a3 s.h.length c3, .slice a4 s.p.length c4] 41)).alloc (.cells #[.int .i64 0, .int .i64 0, .int .i64 0, .slice none 0 0, .slice none 0 0, .slice none 0 0, .slice none 0 0] 43) = W) := hW.symm
  have HBW : Hid (Below w.heap.size w W) := hBW
  have HLT : Hid (w.heap.size + 1 < W.heap.size) := hltH
  have HRW : Hid (W.heap[w.heap.size + 1]? = some (.cells #[.int .i64 0, .int .i64 0, .int .i64 0, .slice none 0 0, .slice none 0 0, .slice none 0 0, .slice none 0 0] 43)) := hH
  have HBK : Hid (w.heap.size ≤ w.heap.size + 1) := Nat.le_succ _
  generalize hT : (stZ : St) = t at HC ⊢
  clear hso hv hB hR hC0 hBW hH hltH hW e1 e2 e3 e4 hT
  go_enter Tryz.func19, Tryz.ntmps19
  go_wp2_with fail
  rw [HW.out]
  refine hF.mono ?_
  rintro e w0 ⟨rfl, hb0⟩
  have hC := HC.out w0 hb0
  have HB0 : Hid (Below w.heap.size w w0) := below_after_of HBW.out hb0
  have HLO : Hid (w.heap.size + 1 < w0.heap.size) := Nat.lt_of_lt_of_le HLT.out hb0.size
  have HR0 : Hid (w0.heap[w.heap.size + 1]? = some (.cells #[.int .i64 0, .int .i64 0, .int .i64 0, .slice none 0 0, .slice none 0 0, .slice none 0 0, .slice none 0 0] 43)) := (hb0.block _ HLT.out).trans HRW.out
  clear hF HW hb0 HC HRW HBW HLT
  go_wp2_with fail
  refine hC.mono ?_
  rintro e w1 ⟨u, us, rfl, hb1, h1⟩
  have HB1 : Hid (Below w.heap.size w w1) := below_after_of HB0.out hb1
  obtain ⟨⟨q0, q1, q2, q3, q4, q5, q6⟩, g0, g1, g2, g3, g4, g5, g6⟩ := seven_cellsR ((hb1.block _ HLO.out).trans HR0.out)
  clear hC hb1 HR0 HB0
  obtain ⟨b1, d1, f1⟩ := h1.sts.d.shape
  obtain ⟨b2, d2, f2⟩ := h1.sts.n.shape
  obtain ⟨b3, d3, f3⟩ := h1.sts.h.shape
  obtain ⟨b4, d4, f4⟩ := h1.sts.p.shape
  obtain ⟨td, tn, th, tp⟩ := u
  dsimp only at f1 f2 f3 f4
  subst f1 f2 f3 f4
  unfold srV
  dsimp only
  have HP : Hid (∀ x0 x1 x2 x3 x4 x5 x6 : Value, _) := (st_put (w := w) (b := w.heap.size + 1) h1 HB1.out HBK.out HLO.out)
  clear h1
  go_wp2
  refine bodyPost_ret (v := .agg #[.int .i64 f, .int .i64 t.ph, .int .i64 t.cu, .slice b1 t.d.length d1, .slice b2 t.n.length d2, .slice b3 t.h.length d3, .slice b4 t.p.length d4]) (by simp [results, Tryz.results19, go_sem, q0, q1, q2, q3, q4, q5, q6]) rfl ⟨⟨.slice b1 t.d.length d1, .slice b2 t.n.length d2, .slice b3 t.h.length d3, .slice b4 t.p.length d4⟩, us, rfl, ?_, ?_⟩
  · exact (HP.out _ _ _ _ _ _ _).1
  · exact (HP.out _ _ _ _ _ _ _).2
set_option maxRecDepth 100000 in
set_option maxHeartbeats 2000000 in
theorem specCopySome_no (R : Rt) (hR : RtOk R) (lo hi : Nat) (s : St) (v : Sv) (us0 : List Value) (n : Int) (w : World) (hso : StOwn lo hi w v us0 s) (hB : StB s) (f : Int) (h : stF R s = 0) (hf : (¬ s.ph = 2 ∧ f = 10) ∨ (s.ph = 2 ∧ inB n 1 256 = false ∧ f = 3)) :
    Calls Tryz.prog 19 #[stV s v, .int .i64 n] w fun e w' => StAns w f stZ e w' := by
  have hv := hso.sts
  obtain ⟨W, hW⟩ : ∃ W, W = (w.alloc (stC s v 41)).alloc (.cells #[.int .i64 0, .int .i64 0, .int .i64 0, .slice none 0 0, .slice none 0 0, .slice none 0 0, .slice none 0 0] 43) := ⟨_, rfl⟩
  have hBW : Below w.heap.size w W := by rw [hW]; exact two_new _ _
  have hH : W.heap[w.heap.size + 1]? = some (.cells #[.int .i64 0, .int .i64 0, .int .i64 0, .slice none 0 0, .slice none 0 0, .slice none 0 0, .slice none 0 0] 43) := by
    have := heap_alloc_new (w.alloc (stC s v 41)) (.cells #[.int .i64 0, .int .i64 0, .int .i64 0, .slice none 0 0, .slice none 0 0, .slice none 0 0, .slice none 0 0] 43)
    rw [World.size_alloc] at this
    rw [hW]
    exact this
  have hC0 : StC W w.heap.size s v := by rw [hW]; exact (StC.new w s v _).below (one_new _) (by simp)
  have hltH := (Array.getElem?_eq_some_iff.1 hH).1
  have hF := l11Fault_any R hR w.heap.size s v W hC0 (hv.below hBW) hB
  rw [h] at hF
  have HC : Hid (∀ w', Below W.heap.size W w' → Calls Tryz.prog 57 #[.pointer (some ⟨w.heap.size, 0, none⟩), .int .i64 n] w' fun e w'' => StAns w' f stZ e w'') := fun w' hb => by
    rcases hf with ⟨h2, rfl⟩ | ⟨h2, h3, rfl⟩
    · exact l11Some_ph w.heap.size s v n w' (hC0.below hb hC0.lt) h2
    · exact l11Some_out w.heap.size s v n w' (hC0.below hb hC0.lt) h2 h3
  clear h hf
  obtain ⟨a1, c1, e1⟩ := hv.d.shape
  obtain ⟨a2, c2, e2⟩ := hv.n.shape
  obtain ⟨a3, c3, e3⟩ := hv.h.shape
  obtain ⟨a4, c4, e4⟩ := hv.p.shape
  unfold stC at hW
  unfold stV
  rw [e1, e2, e3, e4] at hW ⊢
  have HW : Hid ((w.alloc (.cells #[.int .i64 s.ph, .int .i64 s.cu, .slice a1 s.d.length c1, .slice a2 s.n.length c2, .slice a3 s.h.length c3, .slice a4 s.p.length c4] 41)).alloc (.cells #[.int .i64 0, .int .i64 0, .int .i64 0, .slice none 0 0, .slice none 0 0, .slice none 0 0, .slice none 0 0] 43) = W) := hW.symm
  have HBW : Hid (Below w.heap.size w W) := hBW
  have HLT : Hid (w.heap.size + 1 < W.heap.size) := hltH
  have HRW : Hid (W.heap[w.heap.size + 1]? = some (.cells #[.int .i64 0, .int .i64 0, .int .i64 0, .slice none 0 0, .slice none 0 0, .slice none 0 0, .slice none 0 0] 43)) := hH
  have HBK : Hid (w.heap.size ≤ w.heap.size + 1) := Nat.le_succ _
  generalize hT : (stZ : St) = t at HC ⊢
  clear hso hv hB hR hC0 hBW hH hltH hW e1 e2 e3 e4 hT
  go_enter Tryz.func19, Tryz.ntmps19
  go_wp2_with fail
  rw [HW.out]
  refine hF.mono ?_
  rintro e w0 ⟨rfl, hb0⟩
  have hC := HC.out w0 hb0
  have HB0 : Hid (Below w.heap.size w w0) := below_after_of HBW.out hb0
  have HLO : Hid (w.heap.size + 1 < w0.heap.size) := Nat.lt_of_lt_of_le HLT.out hb0.size
  have HR0 : Hid (w0.heap[w.heap.size + 1]? = some (.cells #[.int .i64 0, .int .i64 0, .int .i64 0, .slice none 0 0, .slice none 0 0, .slice none 0 0, .slice none 0 0] 43)) := (hb0.block _ HLT.out).trans HRW.out
  clear hF HW hb0 HC HRW HBW HLT
  go_wp2_with fail
  refine hC.mono ?_
  rintro e w1 ⟨u, us, rfl, hb1, h1⟩
  have HB1 : Hid (Below w.heap.size w w1) := below_after_of HB0.out hb1
  obtain ⟨⟨q0, q1, q2, q3, q4, q5, q6⟩, g0, g1, g2, g3, g4, g5, g6⟩ := seven_cellsR ((hb1.block _ HLO.out).trans HR0.out)
  clear hC hb1 HR0 HB0
  obtain ⟨b1, d1, f1⟩ := h1.sts.d.shape
  obtain ⟨b2, d2, f2⟩ := h1.sts.n.shape
  obtain ⟨b3, d3, f3⟩ := h1.sts.h.shape
  obtain ⟨b4, d4, f4⟩ := h1.sts.p.shape
  obtain ⟨td, tn, th, tp⟩ := u
  dsimp only at f1 f2 f3 f4
  subst f1 f2 f3 f4
  unfold srV
  dsimp only
  have HP : Hid (∀ x0 x1 x2 x3 x4 x5 x6 : Value, _) := (st_put (w := w) (b := w.heap.size + 1) h1 HB1.out HBK.out HLO.out)
  clear h1
  go_wp2
  refine bodyPost_ret (v := .agg #[.int .i64 f, .int .i64 t.ph, .int .i64 t.cu, .slice b1 t.d.length d1, .slice b2 t.n.length d2, .slice b3 t.h.length d3, .slice b4 t.p.length d4]) (by simp [results, Tryz.results19, go_sem, q0, q1, q2, q3, q4, q5, q6]) rfl ⟨⟨.slice b1 t.d.length d1, .slice b2 t.n.length d2, .slice b3 t.h.length d3, .slice b4 t.p.length d4⟩, us, rfl, ?_, ?_⟩
  · exact (HP.out _ _ _ _ _ _ _).1
  · exact (HP.out _ _ _ _ _ _ _).2
set_option maxRecDepth 100000 in
set_option maxHeartbeats 2000000 in
theorem specCopySome_ok (R : Rt) (hR : RtOk R) (lo hi : Nat) (s : St) (v : Sv) (us0 : List Value) (n : Int) (w : World) (hso : StOwn lo hi w v us0 s) (hB : StB s) (h : stF R s = 0) (hp : s.ph = 2) (hn : 1 ≤ n ∧ n ≤ 256) (hcu : 0 ≤ s.cu ∧ s.cu ≤ 255) :
    Calls Tryz.prog 19 #[stV s v, .int .i64 n] w fun e w' => StAns w 0 (csT s n) e w' := by
  have hv := hso.sts
  obtain ⟨W, hW⟩ : ∃ W, W = (w.alloc (stC s v 41)).alloc (.cells #[.int .i64 0, .int .i64 0, .int .i64 0, .slice none 0 0, .slice none 0 0, .slice none 0 0, .slice none 0 0] 43) := ⟨_, rfl⟩
  have hBW : Below w.heap.size w W := by rw [hW]; exact two_new _ _
  have hH : W.heap[w.heap.size + 1]? = some (.cells #[.int .i64 0, .int .i64 0, .int .i64 0, .slice none 0 0, .slice none 0 0, .slice none 0 0, .slice none 0 0] 43) := by
    have := heap_alloc_new (w.alloc (stC s v 41)) (.cells #[.int .i64 0, .int .i64 0, .int .i64 0, .slice none 0 0, .slice none 0 0, .slice none 0 0, .slice none 0 0] 43)
    rw [World.size_alloc] at this
    rw [hW]
    exact this
  have hC0 : StC W w.heap.size s v := by rw [hW]; exact (StC.new w s v _).below (one_new _) (by simp)
  have hltH := (Array.getElem?_eq_some_iff.1 hH).1
  have hF := l11Fault_any R hR w.heap.size s v W hC0 (hv.below hBW) hB
  have HC : Hid (∀ w', Below W.heap.size W w' → Calls Tryz.prog 57 #[.pointer (some ⟨w.heap.size, 0, none⟩), .int .i64 n] w' fun e w'' => StAns w' 0 (csT s n) e w'') := fun w' hb => l11Some_ok lo hi w.heap.size s v us0 n w' (hso.below (below_after_of hBW hb)) hB (hC0.below hb hC0.lt) (stOk h).d hp hcu hn
  rw [h] at hF
  clear h hp hn hcu
  obtain ⟨a1, c1, e1⟩ := hv.d.shape
  obtain ⟨a2, c2, e2⟩ := hv.n.shape
  obtain ⟨a3, c3, e3⟩ := hv.h.shape
  obtain ⟨a4, c4, e4⟩ := hv.p.shape
  unfold stC at hW
  unfold stV
  rw [e1, e2, e3, e4] at hW ⊢
  have HW : Hid ((w.alloc (.cells #[.int .i64 s.ph, .int .i64 s.cu, .slice a1 s.d.length c1, .slice a2 s.n.length c2, .slice a3 s.h.length c3, .slice a4 s.p.length c4] 41)).alloc (.cells #[.int .i64 0, .int .i64 0, .int .i64 0, .slice none 0 0, .slice none 0 0, .slice none 0 0, .slice none 0 0] 43) = W) := hW.symm
  have HBW : Hid (Below w.heap.size w W) := hBW
  have HLT : Hid (w.heap.size + 1 < W.heap.size) := hltH
  have HRW : Hid (W.heap[w.heap.size + 1]? = some (.cells #[.int .i64 0, .int .i64 0, .int .i64 0, .slice none 0 0, .slice none 0 0, .slice none 0 0, .slice none 0 0] 43)) := hH
  have HBK : Hid (w.heap.size ≤ w.heap.size + 1) := Nat.le_succ _
  generalize hT : ((csT s n) : St) = t at HC ⊢
  clear hso hv hB hR hC0 hBW hH hltH hW e1 e2 e3 e4 hT
  go_enter Tryz.func19, Tryz.ntmps19
  go_wp2_with fail
  rw [HW.out]
  refine hF.mono ?_
  rintro e w0 ⟨rfl, hb0⟩
  have hC := HC.out w0 hb0
  have HB0 : Hid (Below w.heap.size w w0) := below_after_of HBW.out hb0
  have HLO : Hid (w.heap.size + 1 < w0.heap.size) := Nat.lt_of_lt_of_le HLT.out hb0.size
  have HR0 : Hid (w0.heap[w.heap.size + 1]? = some (.cells #[.int .i64 0, .int .i64 0, .int .i64 0, .slice none 0 0, .slice none 0 0, .slice none 0 0, .slice none 0 0] 43)) := (hb0.block _ HLT.out).trans HRW.out
  clear hF HW hb0 HC HRW HBW HLT
  go_wp2_with fail
  refine hC.mono ?_
  rintro e w1 ⟨u, us, rfl, hb1, h1⟩
  have HB1 : Hid (Below w.heap.size w w1) := below_after_of HB0.out hb1
  obtain ⟨⟨q0, q1, q2, q3, q4, q5, q6⟩, g0, g1, g2, g3, g4, g5, g6⟩ := seven_cellsR ((hb1.block _ HLO.out).trans HR0.out)
  clear hC hb1 HR0 HB0
  obtain ⟨b1, d1, f1⟩ := h1.sts.d.shape
  obtain ⟨b2, d2, f2⟩ := h1.sts.n.shape
  obtain ⟨b3, d3, f3⟩ := h1.sts.h.shape
  obtain ⟨b4, d4, f4⟩ := h1.sts.p.shape
  obtain ⟨td, tn, th, tp⟩ := u
  dsimp only at f1 f2 f3 f4
  subst f1 f2 f3 f4
  unfold srV
  dsimp only
  have HP : Hid (∀ x0 x1 x2 x3 x4 x5 x6 : Value, _) := (st_put (w := w) (b := w.heap.size + 1) h1 HB1.out HBK.out HLO.out)
  clear h1
  go_wp2
  refine bodyPost_ret (v := .agg #[.int .i64 0, .int .i64 t.ph, .int .i64 t.cu, .slice b1 t.d.length d1, .slice b2 t.n.length d2, .slice b3 t.h.length d3, .slice b4 t.p.length d4]) (by simp [results, Tryz.results19, go_sem, q0, q1, q2, q3, q4, q5, q6]) rfl ⟨⟨.slice b1 t.d.length d1, .slice b2 t.n.length d2, .slice b3 t.h.length d3, .slice b4 t.p.length d4⟩, us, rfl, ?_, ?_⟩
  · exact (HP.out _ _ _ _ _ _ _).1
  · exact (HP.out _ _ _ _ _ _ _).2
theorem specCopySome_any (R : Rt) (hR : RtOk R) (lo hi : Nat) (s : St) (v : Sv) (us0 : List Value) (n : Int) (w : World) (hso : StOwn lo hi w v us0 s) (hB : StB s) :
    Calls Tryz.prog 19 #[stV s v, .int .i64 n] w fun e w' => StAns w (cpF R s n) (if cpF R s n = 0 then csT s n else stZ) e w' := by
  by_cases h : stF R s = 0
  · by_cases hp : s.ph = 2
    · have hq : (s.ph == 2) = true := by simpa using hp
      have h0 : phF R s (s.ph == 2) = 0 := by rw [hq, phF_ok h]
      rcases Bool.eq_false_or_eq_true (inB n 1 256) with h1 | h1
      · rw [cpF_ok h0 h1, if_pos rfl]
        exact specCopySome_ok R hR lo hi s v us0 n w hso hB h hp (inB_bd h1) (cu_copying h hp)
      · rw [cpF_no h0 h1, if_neg (by decide)]
        exact specCopySome_no R hR lo hi s v us0 n w hso hB 3 h (Or.inr ⟨hp, h1, rfl⟩)
    · have hq : (s.ph == 2) = false := by simpa using hp
      have h0 : phF R s (s.ph == 2) = 10 := by rw [hq, phF_no h]
      rw [cpF_bad (by rw [h0]; decide), h0, if_neg (by decide)]
      exact specCopySome_no R hR lo hi s v us0 n w hso hB 10 h (Or.inl ⟨hp, rfl⟩)
  · have h0 : phF R s (s.ph == 2) = stF R s := phF_bad h
    rw [cpF_bad (by rw [h0]; exact h), h0, if_neg h]
    exact specCopySome_bad (stF R s) R hR lo hi s v us0 n w hso hB rfl h
end U
end Go.Proofs.YtcdodpcdennemaaGreat
