/- FindSlot, by the program and by the model. -/
import Derived.Test.YtonadfpblgmohaaSl9
import Derived.Test.YtonadfpblgmohaaSl2
namespace Go.Proofs.Ytonadfpblgmohaa
open Go.RowKit
namespace U
/-- The code and the value of a slot that is looked for. -/
def fsC (l : Prl) (k : Int) : Int := if slF l = 0 then (if thr l k = true then 0 else 4) else slF l
def fsV (l : Prl) (k : Int) : Int := if slF l = 0 ∧ thr l k = true then (pAt l (low l k)).2 else 0
theorem thr_lt {l : Prl} {k : Int} (h : thr l k = true) : low l k < l.length := by
  unfold thr at h
  rw [Bool.and_eq_true] at h
  exact of_decide_eq_true h.1
set_option maxRecDepth 100000 in
set_option maxHeartbeats 2000000 in
theorem implFindSlot_any (v : Value) (l : Prl) (k : Int) (w : World) (hv : Prs w v l) (hx : l.length ≤ 1099511627776) :
    Calls Try.prog 19 #[v, .int .i64 k] w fun e w' => IntAns w (fsC l k) (fsV l k) e w' := by
  have hF := fun w' h => implSlotsFault_any v l w' (hv.below h) hx
  unfold fsC fsV
  by_cases h0 : slF l = 0
  · have hs := slF_ok h0
    have hP := fun w' h => placeOf_any v l k w' (hv.below h) hs.len hs.ris
    rw [if_pos h0]
    rw [h0] at hF
    have hln := hs.len
    by_cases ht : thr l k = true
    · rw [if_pos ht, if_pos ⟨h0, ht⟩]
      have hlt := thr_lt ht
      rw [ht] at hP
      obtain ⟨ad, c, rfl⟩ := hv.shape
      obtain ⟨-, b, off, rfl, hb, hc⟩ := hv.at (by omega)
      have hcl := (hc _ hlt).2
      generalize (pAt l (low l k)).2 = x at *
      generalize low l k = lo at *
      generalize l.length = n at *
      have hli : (lo : Int) < (n : Int) := by omega
      clear hv h0 hs hc ht
      go_enter Try.func19, Try.ntmps19
      go_wp2_with fail
      refine (hF _ (one_new _)).mono ?_
      rintro e w1 ⟨rfl, hb1⟩
      clear hF
      go_wp2_with fail
      refine (hP _ (below_after hb1)).mono ?_
      rintro e w2 ⟨rfl, hb2⟩
      have hb2' := below_after_of hb1 hb2
      have hB2 := below_after hb2'
      have hc2 := (hB2.cell (p := ⟨b, off + lo * 2 + 1, none⟩) hb).trans hcl
      obtain ⟨g0, g1, f0, f1⟩ := two_cellsV ((hb2'.block w.heap.size (by simp)).trans (heap_alloc_new w _))
      clear hP hb1 hb2 hb2' hcl
      go_wp2
      exact bodyPost_ret (v := .agg #[.int .i64 0, .int .i64 x]) (by simp [results, Try.results19, go_sem, *]) rfl ⟨rfl, (hB2.setCell (by simp) _).setCell (by simp) _⟩
    · have ht : thr l k = false := by simpa using ht
      rw [if_neg (by rw [ht]; simp), if_neg (by rw [ht]; simp)]
      rw [ht] at hP
      obtain ⟨ad, c, rfl⟩ := hv.shape
      generalize low l k = lo at *
      generalize l.length = n at *
      clear hv h0 hs ht
      go_enter Try.func19, Try.ntmps19
      go_wp2_with fail
      refine (hF _ (one_new _)).mono ?_
      rintro e w1 ⟨rfl, hb1⟩
      clear hF
      go_wp2_with fail
      refine (hP _ (below_after hb1)).mono ?_
      rintro e w2 ⟨rfl, hb2⟩
      have hb2' := below_after_of hb1 hb2
      have hB2 := below_after hb2'
      obtain ⟨g0, g1, f0, f1⟩ := two_cellsV ((hb2'.block w.heap.size (by simp)).trans (heap_alloc_new w _))
      clear hP hb1 hb2 hb2'
      go_wp2
      exact bodyPost_ret (v := .agg #[.int .i64 4, .int .i64 0]) (by simp [results, Try.results19, go_sem, *]) rfl ⟨rfl, (hB2.setCell (by simp) _).setCell (by simp) _⟩
  · rw [if_neg h0, if_neg (fun h => h0 h.1)]
    obtain ⟨ad, c, rfl⟩ := hv.shape
    generalize slF l = f at *
    generalize l.length = n at *
    have hfn : (f != 0) = true := by simpa using h0
    clear hv h0
    go_enter Try.func19, Try.ntmps19
    go_wp2_with fail
    refine (hF _ (one_new _)).mono ?_
    rintro e w1 ⟨rfl, hb1⟩
    obtain ⟨g0, g1, f0, f1⟩ := two_cellsV ((hb1.block w.heap.size (by simp)).trans (heap_alloc_new w _))
    have hB1 := below_after hb1
    clear hF hb1
    go_wp2
    exact bodyPost_ret (v := .agg #[.int .i64 f, .int .i64 0]) (by simp [results, Try.results19, go_sem, *]) rfl ⟨rfl, (hB1.setCell (by simp) _).setCell (by simp) _⟩
end U
end Go.Proofs.Ytonadfpblgmohaa
