/- How many steps are needed, by both. -/
import Derived.Test.YtnhokdhaobmonaaGreatGSt7
namespace Go.Proofs.YtnhokdhaobmonaaGreat
open Go.RowKit
namespace U
def nsQ (cu n : Int) : Int := (256 - cu + n - 1).tdiv n
def nsV (R : Rt) (s : St) (n : Int) : Int := if cpF R s n = 0 then nsQ s.cu n else 0
theorem nsQ_bd {cu n : Int} (h1 : 1 ≤ n) (h2 : n ≤ 256) (h3 : 0 ≤ cu) (h4 : cu ≤ 255) : 0 ≤ nsQ cu n ∧ nsQ cu n ≤ 600 := by
  unfold nsQ
  rw [Int.tdiv_eq_ediv_of_nonneg (by omega)]
  constructor
  · exact Int.ediv_nonneg (by omega) (by omega)
  · exact Int.le_trans (Int.ediv_le_self _ (by omega)) (by omega)
theorem ok_cur {R : Rt} {s : St} (h : stF R s = 0) (hp : s.ph = 2) : 0 ≤ s.cu ∧ s.cu ≤ 255 := by
  have h1 := (stOk h).cu
  unfold cuB at h1
  rw [hp] at h1
  exact inB_bd (by simpa using h1)
set_option maxRecDepth 100000 in
set_option maxHeartbeats 2000000 in
theorem implNeedSteps_ok (R : Rt) (hR : RtOk R) (s : St) (v : Sv) (n : Int) (w : World) (hv : Sts w v s) (hB : StB s) (h : cpF R s n = 0) :
    Calls Tryz.prog 11 #[stV s v, .int .i64 n] w fun e w' => IntAns w 0 (nsQ s.cu n) e w' := by
  obtain ⟨W, hW⟩ : ∃ W, W = (w.alloc (stC s v 41)).alloc (.cells #[.int .i64 0, .int .i64 0] 32) := ⟨_, rfl⟩
  have hBW : Below w.heap.size w W := by rw [hW]; exact two_new _ _
  have hH : W.heap[w.heap.size + 1]? = some (.cells #[.int .i64 0, .int .i64 0] 32) := by
    have := heap_alloc_new (w.alloc (stC s v 41)) (.cells #[.int .i64 0, .int .i64 0] 32)
    rw [World.size_alloc] at this
    rw [hW]
    exact this
  have hC0 : StC W w.heap.size s v := by rw [hW]; exact (StC.new w s v _).below (one_new _) (by simp)
  have hltH := (Array.getElem?_eq_some_iff.1 hH).1
  have hF := copyFault_any R hR s v n W (hv.below hBW) hB
  rw [h] at hF
  obtain ⟨h1, h2, h3⟩ := cpF_zero h
  have hcu := ok_cur h1 h2
  have hn := inB_bd h3
  have HC : Hid (∀ w', Below W.heap.size W w' → w'.cell? ⟨w.heap.size, 1, none⟩ = some (.int .i64 s.cu)) := fun w' hb => (hC0.below hb hC0.lt).c1
  have hnz : (n == 0) = false := by simp; omega
  have hq := nsQ_bd hn.1 hn.2 hcu.1 hcu.2
  unfold nsQ at hq
  obtain ⟨a1, c1, e1⟩ := hv.d.shape
  obtain ⟨a2, c2, e2⟩ := hv.n.shape
  obtain ⟨a3, c3, e3⟩ := hv.h.shape
  obtain ⟨a4, c4, e4⟩ := hv.p.shape
  unfold stC at hW
  unfold stV at hF ⊢
  rw [e1, e2, e3, e4] at hW hF ⊢
  generalize s.ph = ph at *
  generalize s.cu = cu at *
  generalize s.d.length = dn at *
  generalize s.n.length = nn at *
  generalize s.h.length = hh at *
  generalize s.p.length = pn at *
  have HW : Hid ((w.alloc (.cells #[.int .i64 ph, .int .i64 cu, .slice a1 dn c1, .slice a2 nn c2, .slice a3 hh c3, .slice a4 pn c4] 41)).alloc (.cells #[.int .i64 0, .int .i64 0] 32) = W) := hW.symm
  clear hv hB e1 e2 e3 e4 hW hR hC0 h h1 h2 h3
  go_enter Tryz.func11, Tryz.ntmps11
  go_wp2_with fail
  rw [HW.out]
  refine hF.mono ?_
  rintro e w1 ⟨rfl, hb1⟩
  have hB1 := below_after_of hBW hb1
  obtain ⟨hc0, hc1, hf0, hf1⟩ := two_cellsV ((hb1.block _ hltH).trans hH)
  have g1 := HC.out _ hb1
  have hlt1 : w.heap.size + 1 < w1.heap.size := Nat.lt_of_lt_of_le hltH hb1.size
  clear hF HW hb1 HC
  go_wp2
  have e9 : (256 - cu + n - 1).tdiv n = nsQ cu n := rfl
  exact bodyPost_ret (v := .agg #[.int .i64 0, .int .i64 (nsQ cu n)]) (by simp [results, Tryz.results11, go_sem, hc0, hc1, e9]) rfl ⟨rfl, (hB1.setCell (Nat.le_succ _) _).setCell (Nat.le_succ _) _⟩
set_option maxRecDepth 100000 in
set_option maxHeartbeats 2000000 in
theorem implNeedSteps_bad (R : Rt) (hR : RtOk R) (s : St) (v : Sv) (n : Int) (w : World) (hv : Sts w v s) (hB : StB s) (h : ¬ cpF R s n = 0) :
    Calls Tryz.prog 11 #[stV s v, .int .i64 n] w fun e w' => IntAns w (cpF R s n) 0 e w' := by
  obtain ⟨W, hW⟩ : ∃ W, W = (w.alloc (stC s v 41)).alloc (.cells #[.int .i64 0, .int .i64 0] 32) := ⟨_, rfl⟩
  have hBW : Below w.heap.size w W := by rw [hW]; exact two_new _ _
  have hH : W.heap[w.heap.size + 1]? = some (.cells #[.int .i64 0, .int .i64 0] 32) := by
    have := heap_alloc_new (w.alloc (stC s v 41)) (.cells #[.int .i64 0, .int .i64 0] 32)
    rw [World.size_alloc] at this
    rw [hW]
    exact this
  have hC0 : StC W w.heap.size s v := by rw [hW]; exact (StC.new w s v _).below (one_new _) (by simp)
  have hltH := (Array.getElem?_eq_some_iff.1 hH).1
  have hF := copyFault_any R hR s v n W (hv.below hBW) hB
  have hnz : (cpF R s n != 0) = true := by simpa using h
  generalize cpF R s n = f at *
  obtain ⟨a1, c1, e1⟩ := hv.d.shape
  obtain ⟨a2, c2, e2⟩ := hv.n.shape
  obtain ⟨a3, c3, e3⟩ := hv.h.shape
  obtain ⟨a4, c4, e4⟩ := hv.p.shape
  unfold stC at hW
  unfold stV at hF ⊢
  rw [e1, e2, e3, e4] at hW hF ⊢
  generalize s.ph = ph at *
  generalize s.cu = cu at *
  generalize s.d.length = dn at *
  generalize s.n.length = nn at *
  generalize s.h.length = hh at *
  generalize s.p.length = pn at *
  have HW : Hid ((w.alloc (.cells #[.int .i64 ph, .int .i64 cu, .slice a1 dn c1, .slice a2 nn c2, .slice a3 hh c3, .slice a4 pn c4] 41)).alloc (.cells #[.int .i64 0, .int .i64 0] 32) = W) := hW.symm
  clear hv hB e1 e2 e3 e4 hW hR hC0 h
  go_enter Tryz.func11, Tryz.ntmps11
  go_wp2_with fail
  rw [HW.out]
  refine hF.mono ?_
  rintro e w1 ⟨rfl, hb1⟩
  have hB1 := below_after_of hBW hb1
  obtain ⟨hc0, hc1, hf0, hf1⟩ := two_cellsV ((hb1.block _ hltH).trans hH)
  clear hF HW hb1
  go_wp2
  exact bodyPost_ret (v := .agg #[.int .i64 f, .int .i64 0]) (by simp [results, Tryz.results11, go_sem, hc0, hc1]) rfl ⟨rfl, (hB1.setCell (Nat.le_succ _) _).setCell (Nat.le_succ _) _⟩
set_option maxRecDepth 100000 in
set_option maxHeartbeats 2000000 in
theorem specNeedSteps_bad (R : Rt) (hR : RtOk R) (s : St) (v : Sv) (n : Int) (w : World) (hv : Sts w v s) (hB : StB s) (h : ¬ stF R s = 0) :
    Calls Tryz.prog 9 #[stV s v, .int .i64 n] w fun e w' => IntAns w (stF R s) 0 e w' := by
  obtain ⟨W, hW⟩ : ∃ W, W = (w.alloc (stC s v 41)).alloc (.cells #[.int .i64 0, .int .i64 0] 32) := ⟨_, rfl⟩
  have hBW : Below w.heap.size w W := by rw [hW]; exact two_new _ _
  have hH : W.heap[w.heap.size + 1]? = some (.cells #[.int .i64 0, .int .i64 0] 32) := by
    have := heap_alloc_new (w.alloc (stC s v 41)) (.cells #[.int .i64 0, .int .i64 0] 32)
    rw [World.size_alloc] at this
    rw [hW]
    exact this
  have hC0 : StC W w.heap.size s v := by rw [hW]; exact (StC.new w s v _).below (one_new _) (by simp)
  have hltH := (Array.getElem?_eq_some_iff.1 hH).1
  have hF := l11Fault_any R hR w.heap.size s v W hC0 (hv.below hBW) hB
  have hnz : (stF R s != 0) = true := by simpa using h
  generalize stF R s = f at *
  obtain ⟨a1, c1, e1⟩ := hv.d.shape
  obtain ⟨a2, c2, e2⟩ := hv.n.shape
  obtain ⟨a3, c3, e3⟩ := hv.h.shape
  obtain ⟨a4, c4, e4⟩ := hv.p.shape
  unfold stC at hW
  unfold stV 
  rw [e1, e2, e3, e4] at hW ⊢
  generalize s.ph = ph at *
  generalize s.cu = cu at *
  generalize s.d.length = dn at *
  generalize s.n.length = nn at *
  generalize s.h.length = hh at *
  generalize s.p.length = pn at *
  have HW : Hid ((w.alloc (.cells #[.int .i64 ph, .int .i64 cu, .slice a1 dn c1, .slice a2 nn c2, .slice a3 hh c3, .slice a4 pn c4] 41)).alloc (.cells #[.int .i64 0, .int .i64 0] 32) = W) := hW.symm
  clear hv hB e1 e2 e3 e4 hW hR hC0 h
  go_enter Tryz.func9, Tryz.ntmps9
  go_wp2_with fail
  rw [HW.out]
  refine hF.mono ?_
  rintro e w1 ⟨rfl, hb1⟩
  have hB1 := below_after_of hBW hb1
  obtain ⟨hc0, hc1, hf0, hf1⟩ := two_cellsV ((hb1.block _ hltH).trans hH)
  have hlt1 : w.heap.size + 1 < w1.heap.size := Nat.lt_of_lt_of_le hltH hb1.size
  clear hF HW hb1
  go_wp2
  exact bodyPost_ret (v := .agg #[.int .i64 f, .int .i64 0]) (by simp [results, Tryz.results9, go_sem, hc0, hc1]) rfl ⟨rfl, (hB1.setCell (Nat.le_succ _) _).setCell (Nat.le_succ _) _⟩
set_option maxRecDepth 100000 in
set_option maxHeartbeats 2000000 in
theorem specNeedSteps_ph (R : Rt) (hR : RtOk R) (s : St) (v : Sv) (n : Int) (w : World) (hv : Sts w v s) (hB : StB s) (h : stF R s = 0) (h2 : ¬ s.ph = 2) :
    Calls Tryz.prog 9 #[stV s v, .int .i64 n] w fun e w' => IntAns w 10 0 e w' := by
  obtain ⟨W, hW⟩ : ∃ W, W = (w.alloc (stC s v 41)).alloc (.cells #[.int .i64 0, .int .i64 0] 32) := ⟨_, rfl⟩
  have hBW : Below w.heap.size w W := by rw [hW]; exact two_new _ _
  have hH : W.heap[w.heap.size + 1]? = some (.cells #[.int .i64 0, .int .i64 0] 32) := by
    have := heap_alloc_new (w.alloc (stC s v 41)) (.cells #[.int .i64 0, .int .i64 0] 32)
    rw [World.size_alloc] at this
    rw [hW]
    exact this
  have hC0 : StC W w.heap.size s v := by rw [hW]; exact (StC.new w s v _).below (one_new _) (by simp)
  have hltH := (Array.getElem?_eq_some_iff.1 hH).1
  have hF := l11Fault_any R hR w.heap.size s v W hC0 (hv.below hBW) hB
  rw [h] at hF
  have HC : Hid (∀ w', Below W.heap.size W w' → w'.cell? ⟨w.heap.size, 0, none⟩ = some (.int .i64 s.ph) ∧ w'.cell? ⟨w.heap.size, 1, none⟩ = some (.int .i64 s.cu)) := fun w' hb => ⟨(hC0.below hb hC0.lt).c0, (hC0.below hb hC0.lt).c1⟩
  have hpn : (s.ph != 2) = true := by simpa using h2
  obtain ⟨a1, c1, e1⟩ := hv.d.shape
  obtain ⟨a2, c2, e2⟩ := hv.n.shape
  obtain ⟨a3, c3, e3⟩ := hv.h.shape
  obtain ⟨a4, c4, e4⟩ := hv.p.shape
  unfold stC at hW
  unfold stV 
  rw [e1, e2, e3, e4] at hW ⊢
  generalize s.ph = ph at *
  generalize s.cu = cu at *
  generalize s.d.length = dn at *
  generalize s.n.length = nn at *
  generalize s.h.length = hh at *
  generalize s.p.length = pn at *
  have HW : Hid ((w.alloc (.cells #[.int .i64 ph, .int .i64 cu, .slice a1 dn c1, .slice a2 nn c2, .slice a3 hh c3, .slice a4 pn c4] 41)).alloc (.cells #[.int .i64 0, .int .i64 0] 32) = W) := hW.symm
  clear hv hB e1 e2 e3 e4 hW hR hC0 h h2
  go_enter Tryz.func9, Tryz.ntmps9
  go_wp2_with fail
  rw [HW.out]
  refine hF.mono ?_
  rintro e w1 ⟨rfl, hb1⟩
  have hB1 := below_after_of hBW hb1
  obtain ⟨hc0, hc1, hf0, hf1⟩ := two_cellsV ((hb1.block _ hltH).trans hH)
  have hlt1 : w.heap.size + 1 < w1.heap.size := Nat.lt_of_lt_of_le hltH hb1.size
  obtain ⟨g0, g1⟩ := HC.out _ hb1
  clear HC
  clear hF HW hb1
  go_wp2
  exact bodyPost_ret (v := .agg #[.int .i64 10, .int .i64 0]) (by simp [results, Tryz.results9, go_sem, hc0, hc1]) rfl ⟨rfl, (hB1.setCell (Nat.le_succ _) _).setCell (Nat.le_succ _) _⟩
set_option maxRecDepth 100000 in
set_option maxHeartbeats 2000000 in
theorem specNeedSteps_n (R : Rt) (hR : RtOk R) (s : St) (v : Sv) (n : Int) (w : World) (hv : Sts w v s) (hB : StB s) (h : stF R s = 0) (h2 : s.ph = 2) (h3 : inB n 1 256 = false) :
    Calls Tryz.prog 9 #[stV s v, .int .i64 n] w fun e w' => IntAns w 3 0 e w' := by
  obtain ⟨W, hW⟩ : ∃ W, W = (w.alloc (stC s v 41)).alloc (.cells #[.int .i64 0, .int .i64 0] 32) := ⟨_, rfl⟩
  have hBW : Below w.heap.size w W := by rw [hW]; exact two_new _ _
  have hH : W.heap[w.heap.size + 1]? = some (.cells #[.int .i64 0, .int .i64 0] 32) := by
    have := heap_alloc_new (w.alloc (stC s v 41)) (.cells #[.int .i64 0, .int .i64 0] 32)
    rw [World.size_alloc] at this
    rw [hW]
    exact this
  have hC0 : StC W w.heap.size s v := by rw [hW]; exact (StC.new w s v _).below (one_new _) (by simp)
  have hltH := (Array.getElem?_eq_some_iff.1 hH).1
  have hF := l11Fault_any R hR w.heap.size s v W hC0 (hv.below hBW) hB
  rw [h] at hF
  have HC : Hid (∀ w', Below W.heap.size W w' → w'.cell? ⟨w.heap.size, 0, none⟩ = some (.int .i64 s.ph) ∧ w'.cell? ⟨w.heap.size, 1, none⟩ = some (.int .i64 s.cu)) := fun w' hb => ⟨(hC0.below hb hC0.lt).c0, (hC0.below hb hC0.lt).c1⟩
  have hI := fun w => l1In_any n 1 256 w
  rw [h3] at hI
  rw [h2] at HC
  obtain ⟨a1, c1, e1⟩ := hv.d.shape
  obtain ⟨a2, c2, e2⟩ := hv.n.shape
  obtain ⟨a3, c3, e3⟩ := hv.h.shape
  obtain ⟨a4, c4, e4⟩ := hv.p.shape
  unfold stC at hW
  unfold stV 
  rw [e1, e2, e3, e4] at hW ⊢
  generalize s.ph = ph at *
  generalize s.cu = cu at *
  generalize s.d.length = dn at *
  generalize s.n.length = nn at *
  generalize s.h.length = hh at *
  generalize s.p.length = pn at *
  have HW : Hid ((w.alloc (.cells #[.int .i64 ph, .int .i64 cu, .slice a1 dn c1, .slice a2 nn c2, .slice a3 hh c3, .slice a4 pn c4] 41)).alloc (.cells #[.int .i64 0, .int .i64 0] 32) = W) := hW.symm
  clear hv hB e1 e2 e3 e4 hW hR hC0 h h3 h2
  go_enter Tryz.func9, Tryz.ntmps9
  go_wp2_with fail
  rw [HW.out]
  refine hF.mono ?_
  rintro e w1 ⟨rfl, hb1⟩
  have hB1 := below_after_of hBW hb1
  obtain ⟨hc0, hc1, hf0, hf1⟩ := two_cellsV ((hb1.block _ hltH).trans hH)
  have hlt1 : w.heap.size + 1 < w1.heap.size := Nat.lt_of_lt_of_le hltH hb1.size
  obtain ⟨g0, g1⟩ := HC.out _ hb1
  clear HC
  clear hF HW hb1
  go_wp2_with fail
  refine (hI _).mono ?_
  rintro e w2 ⟨rfl, hw2⟩
  rw [hw2]
  clear hI hw2
  go_wp2
  exact bodyPost_ret (v := .agg #[.int .i64 3, .int .i64 0]) (by simp [results, Tryz.results9, go_sem, hc0, hc1]) rfl ⟨rfl, (hB1.setCell (Nat.le_succ _) _).setCell (Nat.le_succ _) _⟩
set_option maxRecDepth 100000 in
set_option maxHeartbeats 2000000 in
theorem specNeedSteps_ok (R : Rt) (hR : RtOk R) (s : St) (v : Sv) (n : Int) (w : World) (hv : Sts w v s) (hB : StB s) (h : stF R s = 0) (h2 : s.ph = 2) (h3 : inB n 1 256 = true) :
    Calls Tryz.prog 9 #[stV s v, .int .i64 n] w fun e w' => IntAns w 0 (nsQ s.cu n) e w' := by
  obtain ⟨W, hW⟩ : ∃ W, W = (w.alloc (stC s v 41)).alloc (.cells #[.int .i64 0, .int .i64 0] 32) := ⟨_, rfl⟩
  have hBW : Below w.heap.size w W := by rw [hW]; exact two_new _ _
  have hH : W.heap[w.heap.size + 1]? = some (.cells #[.int .i64 0, .int .i64 0] 32) := by
    have := heap_alloc_new (w.alloc (stC s v 41)) (.cells #[.int .i64 0, .int .i64 0] 32)
    rw [World.size_alloc] at this
    rw [hW]
    exact this
  have hC0 : StC W w.heap.size s v := by rw [hW]; exact (StC.new w s v _).below (one_new _) (by simp)
  have hltH := (Array.getElem?_eq_some_iff.1 hH).1
  have hF := l11Fault_any R hR w.heap.size s v W hC0 (hv.below hBW) hB
  rw [h] at hF
  have HC : Hid (∀ w', Below W.heap.size W w' → w'.cell? ⟨w.heap.size, 0, none⟩ = some (.int .i64 s.ph) ∧ w'.cell? ⟨w.heap.size, 1, none⟩ = some (.int .i64 s.cu)) := fun w' hb => ⟨(hC0.below hb hC0.lt).c0, (hC0.below hb hC0.lt).c1⟩
  have hI := fun w => l1In_any n 1 256 w
  rw [h3] at hI
  rw [h2] at HC
  have hcu := ok_cur h h2
  have hn := inB_bd h3
  have hnz : (n == 0) = false := by simp; omega
  have hq := nsQ_bd hn.1 hn.2 hcu.1 hcu.2
  unfold nsQ at hq
  obtain ⟨a1, c1, e1⟩ := hv.d.shape
  obtain ⟨a2, c2, e2⟩ := hv.n.shape
  obtain ⟨a3, c3, e3⟩ := hv.h.shape
  obtain ⟨a4, c4, e4⟩ := hv.p.shape
  unfold stC at hW
  unfold stV 
  rw [e1, e2, e3, e4] at hW ⊢
  generalize s.ph = ph at *
  generalize s.cu = cu at *
  generalize s.d.length = dn at *
  generalize s.n.length = nn at *
  generalize s.h.length = hh at *
  generalize s.p.length = pn at *
  have HW : Hid ((w.alloc (.cells #[.int .i64 ph, .int .i64 cu, .slice a1 dn c1, .slice a2 nn c2, .slice a3 hh c3, .slice a4 pn c4] 41)).alloc (.cells #[.int .i64 0, .int .i64 0] 32) = W) := hW.symm
  clear hv hB e1 e2 e3 e4 hW hR hC0 h h3 h2
  go_enter Tryz.func9, Tryz.ntmps9
  go_wp2_with fail
  rw [HW.out]
  refine hF.mono ?_
  rintro e w1 ⟨rfl, hb1⟩
  have hB1 := below_after_of hBW hb1
  obtain ⟨hc0, hc1, hf0, hf1⟩ := two_cellsV ((hb1.block _ hltH).trans hH)
  have hlt1 : w.heap.size + 1 < w1.heap.size := Nat.lt_of_lt_of_le hltH hb1.size
  obtain ⟨g0, g1⟩ := HC.out _ hb1
  clear HC
  clear hF HW hb1
  go_wp2_with fail
  refine (hI _).mono ?_
  rintro e w2 ⟨rfl, hw2⟩
  rw [hw2]
  clear hI hw2
  go_wp2
  have e9 : (256 - cu + n - 1).tdiv n = nsQ cu n := rfl
  exact bodyPost_ret (v := .agg #[.int .i64 0, .int .i64 (nsQ cu n)]) (by simp [results, Tryz.results9, go_sem, hc0, hc1, e9]) rfl ⟨rfl, (hB1.setCell (Nat.le_succ _) _).setCell (Nat.le_succ _) _⟩
theorem implNeedSteps_any (R : Rt) (hR : RtOk R) (s : St) (v : Sv) (n : Int) (w : World) (hv : Sts w v s) (hB : StB s) :
    Calls Tryz.prog 11 #[stV s v, .int .i64 n] w fun e w' => IntAns w (cpF R s n) (nsV R s n) e w' := by
  unfold nsV
  by_cases h : cpF R s n = 0
  · rw [if_pos h, h]
    exact implNeedSteps_ok R hR s v n w hv hB h
  · rw [if_neg h]
    exact implNeedSteps_bad R hR s v n w hv hB h
theorem specNeedSteps_any (R : Rt) (hR : RtOk R) (s : St) (v : Sv) (n : Int) (w : World) (hv : Sts w v s) (hB : StB s) :
    Calls Tryz.prog 9 #[stV s v, .int .i64 n] w fun e w' => IntAns w (cpF R s n) (nsV R s n) e w' := by
  unfold nsV
  by_cases h : stF R s = 0
  · by_cases h2 : s.ph = 2
    · have hb : (s.ph == 2) = true := by simpa using h2
      have hp : phF R s (s.ph == 2) = 0 := by rw [hb]; exact phF_ok h
      rcases Bool.eq_false_or_eq_true (inB n 1 256) with h3 | h3
      · rw [if_pos (cpF_ok hp h3), cpF_ok hp h3]
        exact specNeedSteps_ok R hR s v n w hv hB h h2 h3
      · rw [if_neg (by rw [cpF_no hp h3]; omega), cpF_no hp h3]
        exact specNeedSteps_n R hR s v n w hv hB h h2 h3
    · have hb : (s.ph == 2) = false := by simpa using h2
      have hp : phF R s (s.ph == 2) = 10 := by rw [hb]; exact phF_no h
      have e : cpF R s n = 10 := by rw [cpF_bad (by rw [hp]; omega), hp]
      rw [if_neg (by rw [e]; omega), e]
      exact specNeedSteps_ph R hR s v n w hv hB h h2
  · have e : cpF R s n = stF R s := by rw [cpF_bad (by rw [phF_bad h]; exact h), phF_bad h]
    rw [if_neg (by rw [e]; exact h), e]
    exact specNeedSteps_bad R hR s v n w hv hB h
end U
end Go.Proofs.YtnhokdhaobmonaaGreat
