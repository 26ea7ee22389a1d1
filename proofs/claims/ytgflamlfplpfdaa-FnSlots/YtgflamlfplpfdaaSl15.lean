/- PutSlot, by the model; what the program's slices of a list read as. -/
import Derived.Test.YtgflamlfplpfdaaSl14
namespace Go.Proofs.Ytgflamlfplpfdaa
open Go.RowKit
namespace U
/-- The code and the slots of what was put. -/
def psC (l : Prl) (s : Int × Int) : Int := if slF l = 0 then (if fine s = true then (if 12 < (put l s).length then 11 else 0) else 3) else slF l
def psL (l : Prl) (s : Int × Int) : Prl := if slF l = 0 ∧ fine s = true ∧ ¬ 12 < (put l s).length then put l s else []
theorem psL_len (l : Prl) (s : Int × Int) : (psL l s).length ≤ 12 := by
  unfold psL
  split
  · rename_i h; omega
  · simp
theorem box_cells {w : World} {o : Obj} {sk sv : Value} {t : TypeId} {w' : World} (h : Below ((w.alloc (.cells #[sk, sv] t)).alloc o).heap.size ((w.alloc (.cells #[sk, sv] t)).alloc o) w') :
    Below w.heap.size w w' ∧ w'.cell? ⟨w.heap.size, 0, none⟩ = some sk ∧ w'.cell? ⟨w.heap.size, 1, none⟩ = some sv ∧ w'.heap[w.heap.size + 1]? = some o ∧ w.heap.size + 2 ≤ w'.heap.size := by
  have h1 := h.block w.heap.size (by simp; omega)
  have h2 := h.block (w.heap.size + 1) (by simp)
  have e1 : ((w.alloc (.cells #[sk, sv] t)).alloc o).heap[w.heap.size]? = some (.cells #[sk, sv] t) := (Below.heap_alloc _ _ _ (by simp)).trans (heap_alloc_new w _)
  have e2 : ((w.alloc (.cells #[sk, sv] t)).alloc o).heap[w.heap.size + 1]? = some o := by
    have := heap_alloc_new (w.alloc (.cells #[sk, sv] t)) o
    rw [World.size_alloc] at this
    exact this
  have h3 := two_cellsV (h1.trans e1)
  have h4 := h.size
  simp at h4
  exact ⟨below_after_of (two_new _ _) h, h3.1, h3.2.1, h2.trans e2, by omega⟩
set_option maxRecDepth 100000 in
set_option maxHeartbeats 4000000 in
theorem specPutSlot_any (v : Value) (l : Prl) (sk sv : Int) (w : World) (hv : Prs w v l) (hx : l.length ≤ 1048576) :
    Calls Try.prog 18 #[v, .agg #[.int .i64 sk, .int .i64 sv]] w fun e w' => SlotsAns w (psC l (sk, sv)) (psL l (sk, sv)) e w' := by
  have hF := fun w' h => l4Fault_any v l w' (hv.below h) (by omega)
  have hI1 := fun w => l4Key_any sk w
  have hI2 := fun w => l2Is4 sv w
  unfold psC psL
  by_cases h0 : slF l = 0
  · rw [if_pos h0]
    rw [h0] at hF
    have hs := slF_ok h0
    have hln := hs.len
    have hP := fun w' h => l4Put_any v l (sk, sv) w' (hv.below h) (by omega) hs.ris
    obtain ⟨ad, c, rfl⟩ := hv.shape
    have hfn : fine (sk, sv) = (inB sk 0 255 && sumB sv) := rfl
    have hpl := put_len (l := l) (sk, sv)
    have hp13 : (put l (sk, sv)).length ≤ 13 := by rw [hpl]; split <;> omega
    generalize put l (sk, sv) = m at *
    generalize inB sk 0 255 = b1 at *
    generalize sumB sv = b2 at *
    generalize fine (sk, sv) = bb at *
    generalize l.length = n at *
    subst hfn
    dsimp only at hP
    clear hpl
    cases b1
    · rw [if_neg (by simp), if_neg (fun h => by simp at h)]
      clear hv h0 hP
      go_enter Try.func18, Try.ntmps18
      go_wp2_with fail
      refine (hF _ (two_new _ _)).mono ?_
      rintro e w1 ⟨rfl, q1, rfl⟩
      clear hF
      go_wp2_with fail
      refine (hI1 _).mono ?_
      rintro e w1 ⟨rfl, rfl⟩
      clear hI1 hI2
      go_wp2
      exact bodyPost_ret (v := .agg #[.int .i64 3, .slice none 0 0]) (by simp [results, Try.results18, go_sem]) rfl ⟨by first | exact below_drewN (two_new _ _) _ | exact ((below_drewN (two_new _ _) _).setCell (by simp) _).setCell (by simp) _, _, rfl, World.ownsRow_nil _ _ _ _⟩
    · cases b2
      · rw [if_neg (by simp), if_neg (fun h => by simp at h)]
        clear hv h0 hP
        go_enter Try.func18, Try.ntmps18
        go_wp2_with fail
        refine (hF _ (two_new _ _)).mono ?_
        rintro e w1 ⟨rfl, q1, rfl⟩
        clear hF
        go_wp2_with fail
        refine (hI1 _).mono ?_
        rintro e w1 ⟨rfl, rfl⟩
        go_wp2_with fail
        refine (hI2 _).mono ?_
        rintro e w1 ⟨rfl, rfl⟩
        clear hI1 hI2
        go_wp2
        exact bodyPost_ret (v := .agg #[.int .i64 3, .slice none 0 0]) (by simp [results, Try.results18, go_sem]) rfl ⟨by first | exact below_drewN (two_new _ _) _ | exact ((below_drewN (two_new _ _) _).setCell (by simp) _).setCell (by simp) _, _, rfl, World.ownsRow_nil _ _ _ _⟩
      · rw [if_pos (by simp)]
        clear hv
        by_cases h12 : 12 < m.length
        · rw [if_pos h12, if_neg (fun h => h.2.2 h12)]
          have hi : (12 : Int) < (m.length : Int) := by omega
          clear h0
          go_enter Try.func18, Try.ntmps18
          go_wp2_with fail
          refine (hF _ (two_new _ _)).mono ?_
          rintro e w1 ⟨rfl, q1, rfl⟩
          clear hF
          go_wp2_with fail
          refine (hI1 _).mono ?_
          rintro e w1 ⟨rfl, rfl⟩
          go_wp2_with fail
          refine (hI2 _).mono ?_
          rintro e w1 ⟨rfl, rfl⟩
          clear hI1 hI2
          go_wp2_with fail
          refine (hP _ (below_drewN (two_new _ _) _)).mono ?_
          rintro e w3 ⟨a3, c3, rfl, ho3, hb3⟩
          have hb3' : Below ((w.alloc (.cells #[.int .i64 sk, .int .i64 sv] 26)).alloc (.cells #[.int .i64 0, .slice none 0 0] 30)).heap.size _ w3 := below_after_of (below_drewN (Below.refl _ _) q1) hb3
          obtain ⟨hB3, -, -, hr3, hz3⟩ := box_cells hb3'
          obtain ⟨g0, g1, f0, f1⟩ := two_cellsV hr3
          clear hP hb3 hb3' ho3 hr3
          go_wp2
          exact bodyPost_ret (v := .agg #[.int .i64 11, .slice none 0 0]) (by simp [results, Try.results18, go_sem, *]) rfl ⟨(hB3.setCell (by simp) _).setCell (by simp) _, _, rfl, World.ownsRow_nil _ _ _ _⟩
        · rw [if_neg h12, if_pos ⟨h0, by simp, h12⟩]
          have hi : ¬ (12 : Int) < (m.length : Int) := by omega
          clear h0
          go_enter Try.func18, Try.ntmps18
          go_wp2_with fail
          refine (hF _ (two_new _ _)).mono ?_
          rintro e w1 ⟨rfl, q1, rfl⟩
          clear hF
          go_wp2_with fail
          refine (hI1 _).mono ?_
          rintro e w1 ⟨rfl, rfl⟩
          go_wp2_with fail
          refine (hI2 _).mono ?_
          rintro e w1 ⟨rfl, rfl⟩
          clear hI1 hI2
          go_wp2_with fail
          refine (hP _ (below_drewN (two_new _ _) _)).mono ?_
          rintro e w3 ⟨a3, c3, rfl, ho3, hb3⟩
          have hb3' : Below ((w.alloc (.cells #[.int .i64 sk, .int .i64 sv] 26)).alloc (.cells #[.int .i64 0, .slice none 0 0] 30)).heap.size _ w3 := below_after_of (below_drewN (Below.refl _ _) q1) hb3
          obtain ⟨hB3, -, -, hr3, hz3⟩ := box_cells hb3'
          obtain ⟨g0, g1, f0, f1⟩ := two_cellsV hr3
          have HO : Hid (w3.ownsRow (w.heap.size + 2) 26 2 (.slice a3 m.length c3) m.length ((fl m).map (Value.int .i64))) := own_mono ho3 (by simp)
          clear hP hb3 hb3' ho3 hr3
          go_wp2
          refine bodyPost_ret (v := .agg #[.int .i64 0, .slice a3 m.length c3]) (by simp [results, Try.results18, go_sem, *]) rfl ⟨(hB3.setCell (by simp) _).setCell (by simp) _, _, rfl, ?_⟩
          exact own_mono (ownsRow_setCell_below (ownsRow_setCell_below HO.out (by simp) _) (by simp) _) (by omega)
  · rw [if_neg h0, if_neg (fun h => h0 h.1)]
    obtain ⟨ad, c, rfl⟩ := hv.shape
    generalize slF l = f at *
    generalize l.length = n at *
    have hfn : (f != 0) = true := by simpa using h0
    clear hv h0
    go_enter Try.func18, Try.ntmps18
    go_wp2_with fail
    refine (hF _ (two_new _ _)).mono ?_
    rintro e w1 ⟨rfl, q1, rfl⟩
    clear hF
    go_wp2
    exact bodyPost_ret (v := .agg #[.int .i64 f, .slice none 0 0]) (by simp [results, Try.results18, go_sem]) rfl ⟨by first | exact below_drewN (two_new _ _) _ | exact ((below_drewN (two_new _ _) _).setCell (by simp) _).setCell (by simp) _, _, rfl, World.ownsRow_nil _ _ _ _⟩
end U
end Go.Proofs.Ytgflamlfplpfdaa
