/- The fork bit, the root, the forks and the piece of slots, as the model answers them; both answer alike. -/
import Derived.Test.YtonadfpblgmohaaTr7
import Derived.Test.YtonadfpblgmohaaTr5
namespace Go.Proofs.Ytonadfpblgmohaa
open Go.RowKit
namespace U
set_option maxRecDepth 100000 in
set_option maxHeartbeats 1000000 in
theorem specForkBit_no (v : Value) (l : Prl) (w : World) (hv : Prs w v l) (hx : l.length ≤ 1099511627776) (h0 : slF l ≠ 0) :
    Calls Try.prog 18 #[v] w fun e w' => IntAns w (slF l) 0 e w' := by
  have hF := fun w' h => l4Fault_any v l w' (hv.below h) hx
  obtain ⟨ad, c, rfl⟩ := hv.shape
  generalize slF l = f at *
  generalize l.length = n at *
  have hfn : (f != 0) = true := by simpa using h0
  clear hv h0
  go_enter Try.func18, Try.ntmps18
  go_wp2_with fail
  refine (hF _ (one_new _)).mono ?_
  rintro e w1 ⟨rfl, q1, rfl⟩
  have hb1 : Below w.heap.size w ((w.alloc (.cells #[.int .i64 0, .int .i64 0] 27)).drewN q1) := below_drewN (one_new _) q1
  have hb1' : Below (w.alloc (.cells #[.int .i64 0, .int .i64 0] 27)).heap.size (w.alloc (.cells #[.int .i64 0, .int .i64 0] 27)) ((w.alloc (.cells #[.int .i64 0, .int .i64 0] 27)).drewN q1) := below_drewN (Below.refl _ _) q1
  obtain ⟨g0, g1, f0, f1⟩ := two_cellsV ((hb1'.block w.heap.size (by simp)).trans (heap_alloc_new w (.cells #[.int .i64 0, .int .i64 0] 27)))
  clear hF
  go_wp2
  exact bodyPost_ret (v := .agg #[.int .i64 f, .int .i64 0]) (by simp [results, Try.results18, go_sem, *]) rfl ⟨rfl, (hb1.setCell (by simp) _).setCell (by simp) _⟩
set_option maxRecDepth 100000 in
set_option maxHeartbeats 1000000 in
theorem specNewRoot_no (v : Value) (l : Prl) (w : World) (hv : Prs w v l) (hx : l.length ≤ 1099511627776) (h0 : slF l ≠ 0) :
    Calls Try.prog 24 #[v] w fun e w' => IntAns w (slF l) 0 e w' := by
  have hF := fun w' h => l4Fault_any v l w' (hv.below h) hx
  obtain ⟨ad, c, rfl⟩ := hv.shape
  generalize slF l = f at *
  generalize l.length = n at *
  have hfn : (f != 0) = true := by simpa using h0
  clear hv h0
  go_enter Try.func24, Try.ntmps24
  go_wp2_with fail
  refine (hF _ (one_new _)).mono ?_
  rintro e w1 ⟨rfl, q1, rfl⟩
  have hb1 : Below w.heap.size w ((w.alloc (.cells #[.int .i64 0, .int .i64 0] 27)).drewN q1) := below_drewN (one_new _) q1
  have hb1' : Below (w.alloc (.cells #[.int .i64 0, .int .i64 0] 27)).heap.size (w.alloc (.cells #[.int .i64 0, .int .i64 0] 27)) ((w.alloc (.cells #[.int .i64 0, .int .i64 0] 27)).drewN q1) := below_drewN (Below.refl _ _) q1
  obtain ⟨g0, g1, f0, f1⟩ := two_cellsV ((hb1'.block w.heap.size (by simp)).trans (heap_alloc_new w (.cells #[.int .i64 0, .int .i64 0] 27)))
  clear hF
  go_wp2
  exact bodyPost_ret (v := .agg #[.int .i64 f, .int .i64 0]) (by simp [results, Try.results24, go_sem, *]) rfl ⟨rfl, (hb1.setCell (by simp) _).setCell (by simp) _⟩
set_option maxRecDepth 100000 in
set_option maxHeartbeats 1000000 in
theorem specForksOf_no (v : Value) (l : Prl) (w : World) (hv : Prs w v l) (hx : l.length ≤ 1099511627776) (h0 : slF l ≠ 0) :
    Calls Try.prog 20 #[v] w fun e w' => IntAns w (slF l) 0 e w' := by
  have hF := fun w' h => l4Fault_any v l w' (hv.below h) hx
  obtain ⟨ad, c, rfl⟩ := hv.shape
  generalize slF l = f at *
  generalize l.length = n at *
  have hfn : (f != 0) = true := by simpa using h0
  clear hv h0
  go_enter Try.func20, Try.ntmps20
  go_wp2_with fail
  refine (hF _ (one_new _)).mono ?_
  rintro e w1 ⟨rfl, q1, rfl⟩
  have hb1 : Below w.heap.size w ((w.alloc (.cells #[.int .i64 0, .int .i64 0] 27)).drewN q1) := below_drewN (one_new _) q1
  have hb1' : Below (w.alloc (.cells #[.int .i64 0, .int .i64 0] 27)).heap.size (w.alloc (.cells #[.int .i64 0, .int .i64 0] 27)) ((w.alloc (.cells #[.int .i64 0, .int .i64 0] 27)).drewN q1) := below_drewN (Below.refl _ _) q1
  obtain ⟨g0, g1, f0, f1⟩ := two_cellsV ((hb1'.block w.heap.size (by simp)).trans (heap_alloc_new w (.cells #[.int .i64 0, .int .i64 0] 27)))
  clear hF
  go_wp2
  exact bodyPost_ret (v := .agg #[.int .i64 f, .int .i64 0]) (by simp [results, Try.results20, go_sem, *]) rfl ⟨rfl, (hb1.setCell (by simp) _).setCell (by simp) _⟩
set_option maxRecDepth 100000 in
set_option maxHeartbeats 1000000 in
theorem specNewRoot_ok (v : Value) (l : Prl) (t : Tr) (w : World) (hv : Prs w v l) (h0 : slF l = 0) (ht : IsTr l t) :
    Calls Try.prog 24 #[v] w fun e w' => IntAns w 0 t.sum e w' := by
  have hs := slF_ok h0
  have hF := fun w' h => l4Fault_any v l w' (hv.below h) (by have := hs.len; omega)
  have hQ := fun w' h => (l6Root_any ht hs).c v w' (hv.below h)
  rw [h0] at hF
  obtain ⟨ad, c, rfl⟩ := hv.shape
  generalize t.sum = x at *
  generalize l.length = n at *
  clear hv h0 hs ht
  go_enter Try.func24, Try.ntmps24
  go_wp2_with fail
  refine (hF _ (one_new _)).mono ?_
  rintro e w1 ⟨rfl, q1, rfl⟩
  have hb1 : Below w.heap.size w ((w.alloc (.cells #[.int .i64 0, .int .i64 0] 27)).drewN q1) := below_drewN (one_new _) q1
  have hb1' : Below (w.alloc (.cells #[.int .i64 0, .int .i64 0] 27)).heap.size (w.alloc (.cells #[.int .i64 0, .int .i64 0] 27)) ((w.alloc (.cells #[.int .i64 0, .int .i64 0] 27)).drewN q1) := below_drewN (Below.refl _ _) q1
  clear hF
  go_wp2_with fail
  refine (hQ _ hb1).mono ?_
  rintro e w3 ⟨rfl, hb3⟩
  have hB3 := below_after_of hb1 hb3
  obtain ⟨g0, g1, f0, f1⟩ := two_cellsV (((below_after_of hb1' hb3).block w.heap.size (by simp)).trans (heap_alloc_new w _))
  clear hQ hb1 hb1' hb3
  go_wp2
  exact bodyPost_ret (v := .agg #[.int .i64 0, .int .i64 x]) (by simp [results, Try.results24, go_sem, *]) rfl ⟨rfl, (hB3.setCell (by simp) _).setCell (by simp) _⟩
set_option maxRecDepth 100000 in
set_option maxHeartbeats 1000000 in
theorem specForksOf_ok (v : Value) (l : Prl) (t : Tr) (w : World) (hv : Prs w v l) (h0 : slF l = 0) (ht : IsTr l t) :
    Calls Try.prog 20 #[v] w fun e w' => IntAns w 0 (t.forks : Int) e w' := by
  have hs := slF_ok h0
  have hF := fun w' h => l4Fault_any v l w' (hv.below h) (by have := hs.len; omega)
  have hQ := fun w' h => (l6Forks_any ht hs).c v w' (hv.below h)
  rw [h0] at hF
  obtain ⟨ad, c, rfl⟩ := hv.shape
  generalize (t.forks : Int) = x at *
  generalize l.length = n at *
  clear hv h0 hs ht
  go_enter Try.func20, Try.ntmps20
  go_wp2_with fail
  refine (hF _ (one_new _)).mono ?_
  rintro e w1 ⟨rfl, q1, rfl⟩
  have hb1 : Below w.heap.size w ((w.alloc (.cells #[.int .i64 0, .int .i64 0] 27)).drewN q1) := below_drewN (one_new _) q1
  have hb1' : Below (w.alloc (.cells #[.int .i64 0, .int .i64 0] 27)).heap.size (w.alloc (.cells #[.int .i64 0, .int .i64 0] 27)) ((w.alloc (.cells #[.int .i64 0, .int .i64 0] 27)).drewN q1) := below_drewN (Below.refl _ _) q1
  clear hF
  go_wp2_with fail
  refine (hQ _ hb1).mono ?_
  rintro e w3 ⟨rfl, hb3⟩
  have hB3 := below_after_of hb1 hb3
  obtain ⟨g0, g1, f0, f1⟩ := two_cellsV (((below_after_of hb1' hb3).block w.heap.size (by simp)).trans (heap_alloc_new w _))
  clear hQ hb1 hb1' hb3
  go_wp2
  exact bodyPost_ret (v := .agg #[.int .i64 0, .int .i64 x]) (by simp [results, Try.results20, go_sem, *]) rfl ⟨rfl, (hB3.setCell (by simp) _).setCell (by simp) _⟩
theorem IsTr.fb {l : Prl} {t : Tr} (h : IsTr l t) : (l.length < 2 ∧ t.fbC = 4 ∧ t.fbV = 0) ∨ ∃ b : Nat, 2 ≤ l.length ∧ FB l b ∧ t.fbC = 0 ∧ t.fbV = (b : Int) := by
  induction h using IsTr.cs with
  | none => exact Or.inl ⟨by simp, rfl, rfl⟩
  | leaf k v => exact Or.inl ⟨by simp, rfl, rfl⟩
  | fork h2 hb h3 h4 => exact Or.inr ⟨_, h2, hb, rfl, rfl⟩
set_option maxRecDepth 100000 in
set_option maxHeartbeats 1000000 in
theorem specForkBit_ok (v : Value) (l : Prl) (t : Tr) (w : World) (hv : Prs w v l) (h0 : slF l = 0) (ht : IsTr l t) :
    Calls Try.prog 18 #[v] w fun e w' => IntAns w t.fbC t.fbV e w' := by
  have hs := slF_ok h0
  have hF := fun w' h => l4Fault_any v l w' (hv.below h) (by have := hs.len; omega)
  have hn := hs.len
  rw [h0] at hF
  rcases ht.fb with ⟨h2, e1, e2⟩ | ⟨b, h2, hb, e1, e2⟩
  · rw [e1, e2]
    obtain ⟨ad, c, rfl⟩ := hv.shape
    generalize l.length = n at *
    have d1 : (n : Int) < 2 := by omega
    clear hv h0 hs ht e1 e2
    go_enter Try.func18, Try.ntmps18
    go_wp2_with fail
    refine (hF _ (one_new _)).mono ?_
    rintro e w1 ⟨rfl, q1, rfl⟩
    have hb1 : Below w.heap.size w ((w.alloc (.cells #[.int .i64 0, .int .i64 0] 27)).drewN q1) := below_drewN (one_new _) q1
    have hb1' : Below (w.alloc (.cells #[.int .i64 0, .int .i64 0] 27)).heap.size (w.alloc (.cells #[.int .i64 0, .int .i64 0] 27)) ((w.alloc (.cells #[.int .i64 0, .int .i64 0] 27)).drewN q1) := below_drewN (Below.refl _ _) q1
    obtain ⟨g0, g1, f0, f1⟩ := two_cellsV ((hb1'.block w.heap.size (by simp)).trans (heap_alloc_new w (.cells #[.int .i64 0, .int .i64 0] 27)))
    clear hF
    go_wp2
    exact bodyPost_ret (v := .agg #[.int .i64 4, .int .i64 0]) (by simp [results, Try.results18, go_sem, *]) rfl ⟨rfl, (hb1.setCell (by simp) _).setCell (by simp) _⟩
  · rw [e1, e2]
    have hQ := fun w' h => l6Fork_any v l b w' (hv.below h) hs h2 hb
    obtain ⟨ad, c, rfl⟩ := hv.shape
    generalize l.length = n at *
    have d1 : ¬ ((n : Int) < 2) := by omega
    clear hv h0 hs ht e1 e2
    go_enter Try.func18, Try.ntmps18
    go_wp2_with fail
    refine (hF _ (one_new _)).mono ?_
    rintro e w1 ⟨rfl, q1, rfl⟩
    have hb1 : Below w.heap.size w ((w.alloc (.cells #[.int .i64 0, .int .i64 0] 27)).drewN q1) := below_drewN (one_new _) q1
    have hb1' : Below (w.alloc (.cells #[.int .i64 0, .int .i64 0] 27)).heap.size (w.alloc (.cells #[.int .i64 0, .int .i64 0] 27)) ((w.alloc (.cells #[.int .i64 0, .int .i64 0] 27)).drewN q1) := below_drewN (Below.refl _ _) q1
    clear hF
    go_wp2_with fail
    refine (hQ _ hb1).mono ?_
    rintro e w3 ⟨rfl, hb3⟩
    have hB3 := below_after_of hb1 hb3
    obtain ⟨g0, g1, f0, f1⟩ := two_cellsV (((below_after_of hb1' hb3).block w.heap.size (by simp)).trans (heap_alloc_new w _))
    clear hQ hb1 hb1' hb3
    go_wp2
    exact bodyPost_ret (v := .agg #[.int .i64 0, .int .i64 (b : Int)]) (by simp [results, Try.results18, go_sem, *]) rfl ⟨rfl, (hB3.setCell (by simp) _).setCell (by simp) _⟩
set_option maxRecDepth 100000 in
set_option maxHeartbeats 1000000 in
theorem specNodeBytes_no (v : Value) (l : Prl) (w : World) (hv : Prs w v l) (hx : l.length ≤ 1099511627776) (h0 : slF l ≠ 0) :
    Calls Try.prog 38 #[v] w fun e w' => BytesAns w (slF l) [] e w' := by
  have hF := fun w' h => l4Fault_any v l w' (hv.below h) hx
  obtain ⟨ad, c, rfl⟩ := hv.shape
  generalize slF l = f at *
  generalize l.length = n at *
  have hfn : (f != 0) = true := by simpa using h0
  clear hv h0
  go_enter Try.func38, Try.ntmps38
  go_wp2_with fail
  refine (hF _ (one_new _)).mono ?_
  rintro e w1 ⟨rfl, q1, rfl⟩
  have hb1 : Below w.heap.size w ((w.alloc (.cells #[.int .i64 0, .slice none 0 0] 38)).drewN q1) := below_drewN (one_new _) q1
  have hb1' : Below (w.alloc (.cells #[.int .i64 0, .slice none 0 0] 38)).heap.size (w.alloc (.cells #[.int .i64 0, .slice none 0 0] 38)) ((w.alloc (.cells #[.int .i64 0, .slice none 0 0] 38)).drewN q1) := below_drewN (Below.refl _ _) q1
  obtain ⟨g0, g1, f0, f1⟩ := two_cellsV ((hb1'.block w.heap.size (by simp)).trans (heap_alloc_new w (.cells #[.int .i64 0, .slice none 0 0] 38)))
  clear hF
  go_wp2
  exact bodyPost_ret (v := .agg #[.int .i64 f, .slice none 0 0]) (by simp [results, Try.results38, go_sem, *]) rfl ⟨(hb1.setCell (by simp) _).setCell (by simp) _, _, rfl, World.ownsRow_nil _ _ _ _⟩
set_option maxRecDepth 100000 in
set_option maxHeartbeats 1000000 in
theorem specNodeBytes_ok (v : Value) (l : Prl) (t : Tr) (w : World) (hv : Prs w v l) (h0 : slF l = 0) (ht : IsTr l t) :
    Calls Try.prog 38 #[v] w fun e w' => BytesAns w 0 t.bts e w' := by
  have hs := slF_ok h0
  have hF := fun w' h => l4Fault_any v l w' (hv.below h) (by have := hs.len; omega)
  have hQ := fun w' h => (l6Bytes_any ht hs).c v w' (hv.below h)
  rw [h0] at hF
  obtain ⟨ad, c, rfl⟩ := hv.shape
  generalize t.bts = ys at *
  generalize l.length = n at *
  clear hv h0 hs ht
  go_enter Try.func38, Try.ntmps38
  go_wp2_with fail
  refine (hF _ (one_new _)).mono ?_
  rintro e w1 ⟨rfl, q1, rfl⟩
  have hb1 : Below w.heap.size w ((w.alloc (.cells #[.int .i64 0, .slice none 0 0] 38)).drewN q1) := below_drewN (one_new _) q1
  have hb1' : Below (w.alloc (.cells #[.int .i64 0, .slice none 0 0] 38)).heap.size (w.alloc (.cells #[.int .i64 0, .slice none 0 0] 38)) ((w.alloc (.cells #[.int .i64 0, .slice none 0 0] 38)).drewN q1) := below_drewN (Below.refl _ _) q1
  clear hF
  go_wp2_with fail
  refine (hQ _ hb1).mono ?_
  rintro e w3 ⟨u, rfl, own3, hb3⟩
  have hB3 := below_after_of hb1 hb3
  have hsz : w.heap.size + 1 ≤ ((w.alloc (.cells #[.int .i64 0, .slice none 0 0] 38)).drewN q1).heap.size := by simp
  obtain ⟨g0, g1, f0, f1⟩ := two_cellsV (((below_after_of hb1' hb3).block w.heap.size (by simp)).trans (heap_alloc_new w _))
  obtain ⟨a3, c3, rfl⟩ := own_shape own3
  clear hQ hb1 hb1' hb3
  go_wp2
  exact bodyPost_ret (v := .agg #[.int .i64 0, .slice a3 ys.length c3]) (by simp [results, Try.results38, go_sem, *]) rfl ⟨(hB3.setCell (by simp) _).setCell (by simp) _, _, rfl, own_mono (ownsRow_setCell_below (ownsRow_setCell_below own3 (Nat.lt_of_lt_of_le (Nat.lt_succ_self _) hsz) _) (Nat.lt_of_lt_of_le (Nat.lt_succ_self _) hsz) _) (Nat.le_of_lt (Nat.lt_of_lt_of_le (Nat.lt_succ_self _) hsz))⟩
theorem bothForkBit (l : Prl) (hx : l.length ≤ 1048576) : ∃ oc ov, (∀ u w, Prs w u l → Calls Try.prog 18 #[u] w fun e w' => IntAns w oc ov e w') ∧ (∀ u w, Prs w u l → Okv u → Calls Try.prog 14 #[u] w fun e w' => IntAns w oc ov e w') := by
  by_cases h0 : slF l = 0
  · obtain ⟨t, ht⟩ := isTr_ex _ l (Nat.le_refl _) (slF_ok h0)
    exact ⟨t.fbC, t.fbV, fun u w hu => specForkBit_ok u l t w hu h0 ht, fun u w hu ho => implForkBit_ok u l t w hu ho h0 ht⟩
  · exact ⟨slF l, 0, fun u w hu => specForkBit_no u l w hu (by omega) h0, fun u w hu _ => implForkBit_no u l w hu (by omega) h0⟩
theorem bothNewRoot (l : Prl) (hx : l.length ≤ 1048576) : ∃ oc ov, (∀ u w, Prs w u l → Calls Try.prog 24 #[u] w fun e w' => IntAns w oc ov e w') ∧ (∀ u w, Prs w u l → Okv u → Calls Try.prog 22 #[u] w fun e w' => IntAns w oc ov e w') := by
  by_cases h0 : slF l = 0
  · obtain ⟨t, ht⟩ := isTr_ex _ l (Nat.le_refl _) (slF_ok h0)
    exact ⟨0, t.sum, fun u w hu => specNewRoot_ok u l t w hu h0 ht, fun u w hu ho => implNewRoot_ok u l t w hu ho h0 ht⟩
  · exact ⟨slF l, 0, fun u w hu => specNewRoot_no u l w hu (by omega) h0, fun u w hu _ => implNewRoot_no u l w hu (by omega) h0⟩
theorem bothForksOf (l : Prl) (hx : l.length ≤ 1048576) : ∃ oc ov, (∀ u w, Prs w u l → Calls Try.prog 20 #[u] w fun e w' => IntAns w oc ov e w') ∧ (∀ u w, Prs w u l → Okv u → Calls Try.prog 13 #[u] w fun e w' => IntAns w oc ov e w') := by
  by_cases h0 : slF l = 0
  · obtain ⟨t, ht⟩ := isTr_ex _ l (Nat.le_refl _) (slF_ok h0)
    exact ⟨0, (t.forks : Int), fun u w hu => specForksOf_ok u l t w hu h0 ht, fun u w hu ho => implForksOf_ok u l t w hu ho h0 ht⟩
  · exact ⟨slF l, 0, fun u w hu => specForksOf_no u l w hu (by omega) h0, fun u w hu _ => implForksOf_no u l w hu (by omega) h0⟩
theorem bothNodeBytes (l : Prl) (hx : l.length ≤ 1048576) : ∃ oc ys, ys.length ≤ 7 ∧ (∀ u w, Prs w u l → Calls Try.prog 38 #[u] w fun e w' => BytesAns w oc ys e w') ∧ (∀ u w, Prs w u l → Okv u → Calls Try.prog 21 #[u] w fun e w' => BytesAns w oc ys e w') := by
  by_cases h0 : slF l = 0
  · obtain ⟨t, ht⟩ := isTr_ex _ l (Nat.le_refl _) (slF_ok h0)
    exact ⟨0, t.bts, t.len, fun u w hu => specNodeBytes_ok u l t w hu h0 ht, fun u w hu ho => implNodeBytes_ok u l t w hu ho h0 ht⟩
  · exact ⟨slF l, [], by simp, fun u w hu => specNodeBytes_no u l w hu (by omega) h0, fun u w hu _ => implNodeBytes_no u l w hu (by omega) h0⟩
end U
end Go.Proofs.Ytonadfpblgmohaa
