/- FindSlot, by the program and by the model. -/
import Derived.Test.YtljbcpkjhnbpeaaDoorSl9
import Derived.Test.YtljbcpkjhnbpeaaDoorSl2
namespace Go.Proofs.YtljbcpkjhnbpeaaDoor
open Go.RowKit
namespace U
set_option maxRecDepth 100000 in
set_option maxHeartbeats 1000000 in
theorem l4At_any (v : Value) (l : Prl) (k : Int) (w : World) (hv : Prs w v l) (hl : l.length ≤ 12) (hr : Ris l) :
    Calls Tryd.prog 78 #[v, .int .i64 k] w fun e w' => e = .returned (.int .i64 (if thr l k = true then (low l k : Nat) else (-1 : Int))) ∧ w' = w := by
  have HV : Hid (Prs w v l) := hv
  obtain ⟨a, c, rfl⟩ := hv.shape
  have HF : Hid (∀ i, i < l.length → (pAt l i).1 = k → (if thr l k = true then ((low l k : Nat) : Int) else -1) = (i : Int)) := fun i hi e => by
    have h1 := at_low hr hi e
    rw [if_pos ((thr_iff hr k).2 ⟨_, List.getElem_mem hi, by rw [← pAt_eq hi]; exact e⟩), ← h1]
  have HG : Hid ((∀ i, i < l.length → ¬ (pAt l i).1 = k) → (if thr l k = true then ((low l k : Nat) : Int) else -1) = -1) := fun h => by
    rw [if_neg]
    intro ht
    obtain ⟨p, hp, e⟩ := (thr_iff hr k).1 ht
    obtain ⟨i, hi, rfl⟩ := List.mem_iff_getElem.1 hp
    exact h i hi (by rw [pAt_eq hi]; exact e)
  generalize (if thr l k = true then ((low l k : Nat) : Int) else -1) = r at *
  obtain ⟨n, hn⟩ : ∃ n, n = l.length := ⟨_, rfl⟩
  have HN : Hid (n = l.length) := hn
  rw [← hn] at HV hl HF HG ⊢
  clear hv hr hn
  go_enter Tryd.func78, Tryd.ntmps78
  go_wp2
  go_loop [5] (fun i => ∃ j : Nat, j ≤ n ∧ i = .int .i64 j ∧ Hid (∀ i, i < j → ¬ (pAt l i).1 = k)) (fun i => n - (intOf i).toNat)
  case atStart => exact ⟨0, Nat.zero_le _, rfl, fun i hi => by omega⟩
  case round =>
    obtain ⟨j, hj, rfl, HJ⟩ := hrel
    by_cases hjn : j < n
    · have hji : (j : Int) < (n : Int) := by omega
      obtain ⟨-, b, off, rfl, hb, hc⟩ := HV.out.at (by have := HN.out; omega)
      have c0 := (hc j (by have := HN.out; omega)).1
      have HE := HF.out j hjn
      have HS : Hid (¬ (pAt l j).1 = k → ∀ i, i < j + 1 → ¬ (pAt l i).1 = k) := fun h i hi => by
        by_cases e : i = j
        · subst e; exact h
        · exact HJ.out i (by omega)
      generalize (pAt l j).1 = x at *
      clear hc
      by_cases e : x = k
      · have HR : Hid (r = (j : Int)) := HE e
        have eb : (x == k) = true := by simpa using e
        clear HE HF HG HS e
        go_wp2
        go_ret
        exact ⟨ret_int HR.out.symm, rfl⟩
      · have eb : (x == k) = false := by simpa using e
        have HS2 : Hid (∀ i, i < j + 1 → ¬ (pAt l i).1 = k) := HS.out e
        clear HE HF HG HS e
        go_wp2
        go_round
        case rel => exact ⟨j + 1, by omega, by go_num, HS2⟩
        case measure => simp [intOf]; omega
    · have hjn : j = n := by omega
      subst hjn
      have HR : Hid (r = -1) := HG.out HJ.out
      clear HF HG
      go_wp2
      go_ret
      exact ⟨ret_int HR.out.symm, rfl⟩
/-- The code and the value of a slot that is looked for. -/
def fsC (l : Prl) (k : Int) : Int := if slF l = 0 then (if thr l k = true then 0 else 4) else slF l
def fsV (l : Prl) (k : Int) : Int := if slF l = 0 ∧ thr l k = true then (pAt l (low l k)).2 else 0
theorem thr_lt {l : Prl} {k : Int} (h : thr l k = true) : low l k < l.length := by
  unfold thr at h
  rw [Bool.and_eq_true] at h
  exact of_decide_eq_true h.1
set_option maxRecDepth 100000 in
set_option maxHeartbeats 2000000 in
theorem implFindSlot_any (v : Value) (l : Prl) (k : Int) (w : World) (hv : Prs w v l) (hx : l.length ≤ 1099511627776) :
    Calls Tryd.prog 96 #[v, .int .i64 k] w fun e w' => IntAns w (fsC l k) (fsV l k) e w' := by
  have hF := fun w' h => implSlotsFault_any v l w' (hv.below h) hx
  unfold fsC fsV
  by_cases h0 : slF l = 0
  · have hs := slF_ok h0
    have hP := fun w' h => placeOf_any v l k w' (hv.below h) hs.len hs.ris
    rw [if_pos h0]
    rw [h0] at hF
    have hln := hs.len
    by_cases ht : thr l k = true
    · rw [if_pos ht, if_pos ⟨h0, ht⟩]
      have hlt := thr_lt ht
      rw [ht] at hP
      obtain ⟨ad, c, rfl⟩ := hv.shape
      obtain ⟨-, b, off, rfl, hb, hc⟩ := hv.at (by omega)
      have hcl := (hc _ hlt).2
      generalize (pAt l (low l k)).2 = x at *
      generalize low l k = lo at *
      generalize l.length = n at *
      have hli : (lo : Int) < (n : Int) := by omega
      clear hv h0 hs hc ht
      go_enter Tryd.func96, Tryd.ntmps96
      go_wp2_with fail
      refine (hF _ (one_new _)).mono ?_
      rintro e w1 ⟨rfl, hb1⟩
      clear hF
      go_wp2_with fail
      refine (hP _ (below_after hb1)).mono ?_
      rintro e w2 ⟨rfl, hb2⟩
      have hb2' := below_after_of hb1 hb2
      have hB2 := below_after hb2'
      have hc2 := (hB2.cell (p := ⟨b, off + lo * 2 + 1, none⟩) hb).trans hcl
      obtain ⟨g0, g1, f0, f1⟩ := two_cellsV ((hb2'.block w.heap.size (by simp)).trans (heap_alloc_new w _))
      clear hP hb1 hb2 hb2' hcl
      go_wp2
      exact bodyPost_ret (v := .agg #[.int .i64 0, .int .i64 x]) (by simp [results, Tryd.results96, go_sem, *]) rfl ⟨rfl, (hB2.setCell (by simp) _).setCell (by simp) _⟩
    · have ht : thr l k = false := by simpa using ht
      rw [if_neg (by rw [ht]; simp), if_neg (by rw [ht]; simp)]
      rw [ht] at hP
      obtain ⟨ad, c, rfl⟩ := hv.shape
      generalize low l k = lo at *
      generalize l.length = n at *
      clear hv h0 hs ht
      go_enter Tryd.func96, Tryd.ntmps96
      go_wp2_with fail
      refine (hF _ (one_new _)).mono ?_
      rintro e w1 ⟨rfl, hb1⟩
      clear hF
      go_wp2_with fail
      refine (hP _ (below_after hb1)).mono ?_
      rintro e w2 ⟨rfl, hb2⟩
      have hb2' := below_after_of hb1 hb2
      have hB2 := below_after hb2'
      obtain ⟨g0, g1, f0, f1⟩ := two_cellsV ((hb2'.block w.heap.size (by simp)).trans (heap_alloc_new w _))
      clear hP hb1 hb2 hb2'
      go_wp2
      exact bodyPost_ret (v := .agg #[.int .i64 4, .int .i64 0]) (by simp [results, Tryd.results96, go_sem, *]) rfl ⟨rfl, (hB2.setCell (by simp) _).setCell (by simp) _⟩
  · rw [if_neg h0, if_neg (fun h => h0 h.1)]
    obtain ⟨ad, c, rfl⟩ := hv.shape
    generalize slF l = f at *
    generalize l.length = n at *
    have hfn : (f != 0) = true := by simpa using h0
    clear hv h0
    go_enter Tryd.func96, Tryd.ntmps96
    go_wp2_with fail
    refine (hF _ (one_new _)).mono ?_
    rintro e w1 ⟨rfl, hb1⟩
    obtain ⟨g0, g1, f0, f1⟩ := two_cellsV ((hb1.block w.heap.size (by simp)).trans (heap_alloc_new w _))
    have hB1 := below_after hb1
    clear hF hb1
    go_wp2
    exact bodyPost_ret (v := .agg #[.int .i64 f, .int .i64 0]) (by simp [results, Tryd.results96, go_sem, *]) rfl ⟨rfl, (hB1.setCell (by simp) _).setCell (by simp) _⟩
end U
end Go.Proofs.YtljbcpkjhnbpeaaDoor
