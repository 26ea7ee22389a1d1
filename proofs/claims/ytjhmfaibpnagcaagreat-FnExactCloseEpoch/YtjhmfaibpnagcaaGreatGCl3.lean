/- An epoch closed, by the model: the face. -/
import Derived.Test.YtjhmfaibpnagcaaGreatGCl2
namespace Go.Proofs.YtjhmfaibpnagcaaGreat
open Go.RowKit
namespace U
set_option maxRecDepth 100000 in
set_option maxHeartbeats 4000000 in
theorem specCloseEpoch_bad (f : Int) (R : Rt) (hR : RtOk R) (lo hi : Nat) (s : St) (v : Sv) (us0 : List Value) (w : World) (hso : StOwn lo hi w v us0 s) (hB : StB s) (hf : stF R s = f) (h : ¬ f = 0) :
    Calls Tryz.prog 7 #[stV s v] w fun e w' => StAns w f stZ e w' := by
  have hv := hso.sts
  obtain ⟨W, hW⟩ : ∃ W, W = (w.alloc (stC s v 38)).alloc (.cells #[.int .i64 0, .int .i64 0, .int .i64 0, .slice none 0 0, .slice none 0 0, .slice none 0 0, .slice none 0 0] 40) := ⟨_, rfl⟩
  have hBW : Below w.heap.size w W := by rw [hW]; exact two_new _ _
  have hH : W.heap[w.heap.size + 1]? = some (.cells #[.int .i64 0, .int .i64 0, .int .i64 0, .slice none 0 0, .slice none 0 0, .slice none 0 0, .slice none 0 0] 40) := by
    have := heap_alloc_new (w.alloc (stC s v 38)) (.cells #[.int .i64 0, .int .i64 0, .int .i64 0, .slice none 0 0, .slice none 0 0, .slice none 0 0, .slice none 0 0] 40)
    rw [World.size_alloc] at this
    rw [hW]
    exact this
  have hC0 : StC W w.heap.size s v := by rw [hW]; exact (StC.new w s v _).below (one_new _) (by simp)
  have hltH := (Array.getElem?_eq_some_iff.1 hH).1
  have hF := l11Fault_any R hR w.heap.size s v W hC0 (hv.below hBW) hB
  rw [hf] at hF
  have hnz : (f != 0) = true := by simpa using h
  have HC : Hid (∀ w', Below W.heap.size W w' → Calls Tryz.prog 29 #[.int .i64 f] w' fun e w'' => StAns w' f stZ e w'') := fun w' _ => l11Bad_any _ w'
  clear h hf
  obtain ⟨a1, c1, e1⟩ := hv.d.shape
  obtain ⟨a2, c2, e2⟩ := hv.n.shape
  obtain ⟨a3, c3, e3⟩ := hv.h.shape
  obtain ⟨a4, c4, e4⟩ := hv.p.shape
  unfold stC at hW
  unfold stV
  rw [e1, e2, e3, e4] at hW ⊢
  have HW : Hid ((w.alloc (.cells #[.int .i64 s.ph, .int .i64 s.cu, .slice a1 s.d.length c1, .slice a2 s.n.length c2, .slice a3 s.h.length c3, .slice a4 s.p.length c4] 38)).alloc (.cells #[.int .i64 0, .int .i64 0, .int .i64 0, .slice none 0 0, .slice none 0 0, .slice none 0 0, .slice none 0 0] 40) = W) := hW.symm
  have HBW : Hid (Below w.heap.size w W) := hBW
  have HLT : Hid (w.heap.size + 1 < W.heap.size) := hltH
  have HRW : Hid (W.heap[w.heap.size + 1]? = some (.cells #[.int .i64 0, .int .i64 0, .int .i64 0, .slice none 0 0, .slice none 0 0, .slice none 0 0, .slice none 0 0] 40)) := hH
  have HBK : Hid (w.heap.size ≤ w.heap.size + 1) := Nat.le_succ _
  generalize hT : (stZ : St) = t at HC ⊢
  clear hso hv hB hR hC0 hBW hH hltH hW e1 e2 e3 e4 hT
  go_enter Tryz.func7, Tryz.ntmps7
  go_wp2_with fail
  rw [HW.out]
  refine hF.mono ?_
  rintro e w0 ⟨rfl, hb0⟩
  have hC := HC.out w0 hb0
  have HB0 : Hid (Below w.heap.size w w0) := below_after_of HBW.out hb0
  have HLO : Hid (w.heap.size + 1 < w0.heap.size) := Nat.lt_of_lt_of_le HLT.out hb0.size
  have HR0 : Hid (w0.heap[w.heap.size + 1]? = some (.cells #[.int .i64 0, .int .i64 0, .int .i64 0, .slice none 0 0, .slice none 0 0, .slice none 0 0, .slice none 0 0] 40)) := (hb0.block _ HLT.out).trans HRW.out
  clear hF HW hb0 HC HRW HBW HLT
  go_wp2_with fail
  refine hC.mono ?_
  rintro e w1 ⟨u, us, rfl, hb1, h1⟩
  have HB1 : Hid (Below w.heap.size w w1) := below_after_of HB0.out hb1
  obtain ⟨⟨q0, q1, q2, q3, q4, q5, q6⟩, g0, g1, g2, g3, g4, g5, g6⟩ := seven_cellsR ((hb1.block _ HLO.out).trans HR0.out)
  clear hC hb1 HR0 HB0
  obtain ⟨b1, d1, f1⟩ := h1.sts.d.shape
  obtain ⟨b2, d2, f2⟩ := h1.sts.n.shape
  obtain ⟨b3, d3, f3⟩ := h1.sts.h.shape
  obtain ⟨b4, d4, f4⟩ := h1.sts.p.shape
  obtain ⟨td, tn, th, tp⟩ := u
  dsimp only at f1 f2 f3 f4
  subst f1 f2 f3 f4
  unfold srV
  dsimp only
  have HP : Hid (∀ x0 x1 x2 x3 x4 x5 x6 : Value, _) := (st_put (w := w) (b := w.heap.size + 1) h1 HB1.out HBK.out HLO.out)
  clear h1
  go_wp2
  refine bodyPost_ret (v := .agg #[.int .i64 f, .int .i64 t.ph, .int .i64 t.cu, .slice b1 t.d.length d1, .slice b2 t.n.length d2, .slice b3 t.h.length d3, .slice b4 t.p.length d4]) (by simp [results, Tryz.results7, go_sem, q0, q1, q2, q3, q4, q5, q6]) rfl ⟨⟨.slice b1 t.d.length d1, .slice b2 t.n.length d2, .slice b3 t.h.length d3, .slice b4 t.p.length d4⟩, us, rfl, ?_, ?_⟩
  · exact (HP.out _ _ _ _ _ _ _).1
  · exact (HP.out _ _ _ _ _ _ _).2
set_option maxRecDepth 100000 in
set_option maxHeartbeats 4000000 in
theorem specCloseEpoch_full (R : Rt) (hR : RtOk R) (lo hi : Nat) (s : St) (v : Sv) (us0 : List Value) (w : World) (hso : StOwn lo hi w v us0 s) (hB : StB s) (h : stF R s = 0) (h10 : s.h.length = 10) :
    Calls Tryz.prog 7 #[stV s v] w fun e w' => StAns w 11 stZ e w' := by
  have hv := hso.sts
  obtain ⟨W, hW⟩ : ∃ W, W = (w.alloc (stC s v 38)).alloc (.cells #[.int .i64 0, .int .i64 0, .int .i64 0, .slice none 0 0, .slice none 0 0, .slice none 0 0, .slice none 0 0] 40) := ⟨_, rfl⟩
  have hBW : Below w.heap.size w W := by rw [hW]; exact two_new _ _
  have hH : W.heap[w.heap.size + 1]? = some (.cells #[.int .i64 0, .int .i64 0, .int .i64 0, .slice none 0 0, .slice none 0 0, .slice none 0 0, .slice none 0 0] 40) := by
    have := heap_alloc_new (w.alloc (stC s v 38)) (.cells #[.int .i64 0, .int .i64 0, .int .i64 0, .slice none 0 0, .slice none 0 0, .slice none 0 0, .slice none 0 0] 40)
    rw [World.size_alloc] at this
    rw [hW]
    exact this
  have hC0 : StC W w.heap.size s v := by rw [hW]; exact (StC.new w s v _).below (one_new _) (by simp)
  have hltH := (Array.getElem?_eq_some_iff.1 hH).1
  have hF := l11Fault_any R hR w.heap.size s v W hC0 (hv.below hBW) hB
  rw [h] at hF
  have HC : Hid (∀ w', Below W.heap.size W w' → Calls Tryz.prog 30 #[.pointer (some ⟨w.heap.size, 0, none⟩)] w' fun e w'' => StAns w' 11 stZ e w'') := fun w' hb => l11Close_full w.heap.size s v w' (hv.h.below (below_after_of hBW hb)) (hC0.below hb hC0.lt) h10
  clear h h10
  obtain ⟨a1, c1, e1⟩ := hv.d.shape
  obtain ⟨a2, c2, e2⟩ := hv.n.shape
  obtain ⟨a3, c3, e3⟩ := hv.h.shape
  obtain ⟨a4, c4, e4⟩ := hv.p.shape
  unfold stC at hW
  unfold stV
  rw [e1, e2, e3, e4] at hW ⊢
  have HW : Hid ((w.alloc (.cells #[.int .i64 s.ph, .int .i64 s.cu, .slice a1 s.d.length c1, .slice a2 s.n.length c2, .slice a3 s.h.length c3, .slice a4 s.p.length c4] 38)).alloc (.cells #[.int .i64 0, .int .i64 0, .int .i64 0, .slice none 0 0, .slice none 0 0, .slice none 0 0, .slice none 0 0] 40) = W) := hW.symm
  have HBW : Hid (Below w.heap.size w W) := hBW
  have HLT : Hid (w.heap.size + 1 < W.heap.size) := hltH
  have HRW : Hid (W.heap[w.heap.size + 1]? = some (.cells #[.int .i64 0, .int .i64 0, .int .i64 0, .slice none 0 0, .slice none 0 0, .slice none 0 0, .slice none 0 0] 40)) := hH
  have HBK : Hid (w.heap.size ≤ w.heap.size + 1) := Nat.le_succ _
  generalize hT : (stZ : St) = t at HC ⊢
  clear hso hv hB hR hC0 hBW hH hltH hW e1 e2 e3 e4 hT
  go_enter Tryz.func7, Tryz.ntmps7
  go_wp2_with fail
  rw [HW.out]
  refine hF.mono ?_
  rintro e w0 ⟨rfl, hb0⟩
  have hC := HC.out w0 hb0
  have HB0 : Hid (Below w.heap.size w w0) := below_after_of HBW.out hb0
  have HLO : Hid (w.heap.size + 1 < w0.heap.size) := Nat.lt_of_lt_of_le HLT.out hb0.size
  have HR0 : Hid (w0.heap[w.heap.size + 1]? = some (.cells #[.int .i64 0, .int .i64 0, .int .i64 0, .slice none 0 0, .slice none 0 0, .slice none 0 0, .slice none 0 0] 40)) := (hb0.block _ HLT.out).trans HRW.out
  clear hF HW hb0 HC HRW HBW HLT
  go_wp2_with fail
  refine hC.mono ?_
  rintro e w1 ⟨u, us, rfl, hb1, h1⟩
  have HB1 : Hid (Below w.heap.size w w1) := below_after_of HB0.out hb1
  obtain ⟨⟨q0, q1, q2, q3, q4, q5, q6⟩, g0, g1, g2, g3, g4, g5, g6⟩ := seven_cellsR ((hb1.block _ HLO.out).trans HR0.out)
  clear hC hb1 HR0 HB0
  obtain ⟨b1, d1, f1⟩ := h1.sts.d.shape
  obtain ⟨b2, d2, f2⟩ := h1.sts.n.shape
  obtain ⟨b3, d3, f3⟩ := h1.sts.h.shape
  obtain ⟨b4, d4, f4⟩ := h1.sts.p.shape
  obtain ⟨td, tn, th, tp⟩ := u
  dsimp only at f1 f2 f3 f4
  subst f1 f2 f3 f4
  unfold srV
  dsimp only
  have HP : Hid (∀ x0 x1 x2 x3 x4 x5 x6 : Value, _) := (st_put (w := w) (b := w.heap.size + 1) h1 HB1.out HBK.out HLO.out)
  clear h1
  go_wp2
  refine bodyPost_ret (v := .agg #[.int .i64 11, .int .i64 t.ph, .int .i64 t.cu, .slice b1 t.d.length d1, .slice b2 t.n.length d2, .slice b3 t.h.length d3, .slice b4 t.p.length d4]) (by simp [results, Tryz.results7, go_sem, q0, q1, q2, q3, q4, q5, q6]) rfl ⟨⟨.slice b1 t.d.length d1, .slice b2 t.n.length d2, .slice b3 t.h.length d3, .slice b4 t.p.length d4⟩, us, rfl, ?_, ?_⟩
  · exact (HP.out _ _ _ _ _ _ _).1
  · exact (HP.out _ _ _ _ _ _ _).2
set_option maxRecDepth 100000 in
set_option maxHeartbeats 4000000 in
theorem specCloseEpoch_ok (R : Rt) (hR : RtOk R) (lo hi : Nat) (s : St) (v : Sv) (us0 : List Value) (w : World) (hso : StOwn lo hi w v us0 s) (hB : StB s) (h : stF R s = 0) (h10 : ¬ s.h.length = 10) :
    Calls Tryz.prog 7 #[stV s v] w fun e w' => StAns w 0 (clT R s) e w' := by
  have hv := hso.sts
  obtain ⟨W, hW⟩ : ∃ W, W = (w.alloc (stC s v 38)).alloc (.cells #[.int .i64 0, .int .i64 0, .int .i64 0, .slice none 0 0, .slice none 0 0, .slice none 0 0, .slice none 0 0] 40) := ⟨_, rfl⟩
  have hBW : Below w.heap.size w W := by rw [hW]; exact two_new _ _
  have hH : W.heap[w.heap.size + 1]? = some (.cells #[.int .i64 0, .int .i64 0, .int .i64 0, .slice none 0 0, .slice none 0 0, .slice none 0 0, .slice none 0 0] 40) := by
    have := heap_alloc_new (w.alloc (stC s v 38)) (.cells #[.int .i64 0, .int .i64 0, .int .i64 0, .slice none 0 0, .slice none 0 0, .slice none 0 0, .slice none 0 0] 40)
    rw [World.size_alloc] at this
    rw [hW]
    exact this
  have hC0 : StC W w.heap.size s v := by rw [hW]; exact (StC.new w s v _).below (one_new _) (by simp)
  have hltH := (Array.getElem?_eq_some_iff.1 hH).1
  have hF := l11Fault_any R hR w.heap.size s v W hC0 (hv.below hBW) hB
  have HC : Hid (∀ w', Below W.heap.size W w' → Calls Tryz.prog 30 #[.pointer (some ⟨w.heap.size, 0, none⟩)] w' fun e w'' => StAns w' 0 (clT R s) e w'') := fun w' hb => l11Close_ok R hR lo hi w.heap.size s v us0 w' (hso.below (below_after_of hBW hb)) hB (hC0.below hb hC0.lt) h h10
  rw [h] at hF
  clear h h10
  obtain ⟨a1, c1, e1⟩ := hv.d.shape
  obtain ⟨a2, c2, e2⟩ := hv.n.shape
  obtain ⟨a3, c3, e3⟩ := hv.h.shape
  obtain ⟨a4, c4, e4⟩ := hv.p.shape
  unfold stC at hW
  unfold stV
  rw [e1, e2, e3, e4] at hW ⊢
  have HW : Hid ((w.alloc (.cells #[.int .i64 s.ph, .int .i64 s.cu, .slice a1 s.d.length c1, .slice a2 s.n.length c2, .slice a3 s.h.length c3, .slice a4 s.p.length c4] 38)).alloc (.cells #[.int .i64 0, .int .i64 0, .int .i64 0, .slice none 0 0, .slice none 0 0, .slice none 0 0, .slice none 0 0] 40) = W) := hW.symm
  have HBW : Hid (Below w.heap.size w W) := hBW
  have HLT : Hid (w.heap.size + 1 < W.heap.size) := hltH
  have HRW : Hid (W.heap[w.heap.size + 1]? = some (.cells #[.int .i64 0, .int .i64 0, .int .i64 0, .slice none 0 0, .slice none 0 0, .slice none 0 0, .slice none 0 0] 40)) := hH
  have HBK : Hid (w.heap.size ≤ w.heap.size + 1) := Nat.le_succ _
  generalize hT : ((clT R s) : St) = t at HC ⊢
  clear hso hv hB hR hC0 hBW hH hltH hW e1 e2 e3 e4 hT
  go_enter Tryz.func7, Tryz.ntmps7
  go_wp2_with fail
  rw [HW.out]
  refine hF.mono ?_
  rintro e w0 ⟨rfl, hb0⟩
  have hC := HC.out w0 hb0
  have HB0 : Hid (Below w.heap.size w w0) := below_after_of HBW.out hb0
  have HLO : Hid (w.heap.size + 1 < w0.heap.size) := Nat.lt_of_lt_of_le HLT.out hb0.size
  have HR0 : Hid (w0.heap[w.heap.size + 1]? = some (.cells #[.int .i64 0, .int .i64 0, .int .i64 0, .slice none 0 0, .slice none 0 0, .slice none 0 0, .slice none 0 0] 40)) := (hb0.block _ HLT.out).trans HRW.out
  clear hF HW hb0 HC HRW HBW HLT
  go_wp2_with fail
  refine hC.mono ?_
  rintro e w1 ⟨u, us, rfl, hb1, h1⟩
  have HB1 : Hid (Below w.heap.size w w1) := below_after_of HB0.out hb1
  obtain ⟨⟨q0, q1, q2, q3, q4, q5, q6⟩, g0, g1, g2, g3, g4, g5, g6⟩ := seven_cellsR ((hb1.block _ HLO.out).trans HR0.out)
  clear hC hb1 HR0 HB0
  obtain ⟨b1, d1, f1⟩ := h1.sts.d.shape
  obtain ⟨b2, d2, f2⟩ := h1.sts.n.shape
  obtain ⟨b3, d3, f3⟩ := h1.sts.h.shape
  obtain ⟨b4, d4, f4⟩ := h1.sts.p.shape
  obtain ⟨td, tn, th, tp⟩ := u
  dsimp only at f1 f2 f3 f4
  subst f1 f2 f3 f4
  unfold srV
  dsimp only
  have HP : Hid (∀ x0 x1 x2 x3 x4 x5 x6 : Value, _) := (st_put (w := w) (b := w.heap.size + 1) h1 HB1.out HBK.out HLO.out)
  clear h1
  go_wp2
  refine bodyPost_ret (v := .agg #[.int .i64 0, .int .i64 t.ph, .int .i64 t.cu, .slice b1 t.d.length d1, .slice b2 t.n.length d2, .slice b3 t.h.length d3, .slice b4 t.p.length d4]) (by simp [results, Tryz.results7, go_sem, q0, q1, q2, q3, q4, q5, q6]) rfl ⟨⟨.slice b1 t.d.length d1, .slice b2 t.n.length d2, .slice b3 t.h.length d3, .slice b4 t.p.length d4⟩, us, rfl, ?_, ?_⟩
  · exact (HP.out _ _ _ _ _ _ _).1
  · exact (HP.out _ _ _ _ _ _ _).2
theorem specCloseEpoch_any (R : Rt) (hR : RtOk R) (lo hi : Nat) (s : St) (v : Sv) (us0 : List Value) (w : World) (hso : StOwn lo hi w v us0 s) (hB : StB s) :
    Calls Tryz.prog 7 #[stV s v] w fun e w' => StAns w (clF R s) (if clF R s = 0 then clT R s else stZ) e w' := by
  by_cases h : stF R s = 0
  · by_cases h1 : s.h.length = 10
    · rw [clF_full h h1, if_neg (by decide)]
      exact specCloseEpoch_full R hR lo hi s v us0 w hso hB h h1
    · rw [clF_ok h h1, if_pos rfl]
      exact specCloseEpoch_ok R hR lo hi s v us0 w hso hB h h1
  · rw [clF_bad h, if_neg h]
    exact specCloseEpoch_bad (stF R s) R hR lo hi s v us0 w hso hB rfl h
end U
end Go.Proofs.YtjhmfaibpnagcaaGreat
