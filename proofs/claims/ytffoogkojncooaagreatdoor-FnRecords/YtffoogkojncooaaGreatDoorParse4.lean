/- A record out of a text: what the model reads. -/
import Derived.Test.YtffoogkojncooaaGreatDoorParse1
import Derived.Test.YtffoogkojncooaaGreatDoorParse3
import Derived.Test.YtffoogkojncooaaGreatDoorRecW
import Derived.Test.YtffoogkojncooaaGreatDoorRec1
import Derived.Test.YtffoogkojncooaaGreatDoorNeed
import Derived.Deep.RegionHeld3
namespace Go.Proofs.YtffoogkojncooaaGreatDoor
open Go.RowKit
namespace U
set_option maxHeartbeats 1000000 in
theorem needNumber_t (s : ByteArray) (w : World) (hs : s.size ≤ 1048576) (h : numsB s = true) :
    Calls Tryz.prog 50 #[.string s] w fun e w' => e = .returned (.int .i64 (valAt s s.size)) ∧ Below w.heap.size w w' := by
  have hR := fun w => readNumber_any s w hs
  rw [h] at hR
  simp only [if_true] at hR
  generalize valAt s s.size = v at *
  go_enter Tryz.func50, Tryz.ntmps50
  go_wp2_with fail
  refine (hR _).mono ?_
  rintro e w1 ⟨rfl, hb1⟩
  go_wp2_with fail
  refine (needRecord_t _).mono ?_
  rintro e w2 ⟨rfl, rfl⟩
  go_wp2
  go_ret
  exact ⟨rfl, hb1⟩
set_option maxHeartbeats 1000000 in
theorem needNumber_f (s : ByteArray) (w : World) (hs : s.size ≤ 1048576) (h : numsB s = false) :
    Calls Tryz.prog 50 #[.string s] w fun e w' => e = .panicked noRec ∧ Below w.heap.size w w' := by
  have hR := fun w => readNumber_any s w hs
  rw [h] at hR
  simp only [Bool.false_eq_true, if_false] at hR
  go_enter Tryz.func50, Tryz.ntmps50
  go_wp2_with fail
  refine (hR _).mono ?_
  rintro e w1 ⟨rfl, hb1⟩
  go_wp2_with fail
  refine (needRecord_f _).mono ?_
  rintro e w2 ⟨rfl, rfl⟩
  go_wp2
  exact ⟨rfl, rfl, hb1⟩
theorem own_openS {w : World} {B n : Nat} {e : TypeId} {v : Value} {xs : List Value} (h : w.ownsRow B e 1 v n xs) (h0 : 0 < n) :
    ∃ g cap, v = .slice (some ⟨g, 0, none⟩) n cap ∧ n ≤ cap ∧ cap ≤ maxLen ∧ B ≤ g ∧ g < w.heap.size ∧ ∀ j, j < n → w.cell? ⟨g, j, none⟩ = xs[j]? := by
  rcases h.2 with ⟨-, hn⟩ | ⟨g, cap, cur, rfl, hB, hg, hc, hm, _⟩
  · omega
  · exact ⟨g, cap, rfl, hc, hm, hB, (Array.getElem?_eq_some_iff.1 hg).1, fun j hj => h.cellAt j (by omega)⟩
theorem cutL_small (c : UInt8) : ∀ s, ∀ p ∈ cutL c s, p.length ≤ s.length
  | [], p, h => by simp [cutL] at h; subst h; simp
  | x :: xs, p, h => by
    have ih := cutL_small c xs
    unfold cutL at h
    by_cases e : x = c
    · rw [if_pos e, List.mem_cons] at h
      rcases h with rfl | h
      · simp
      · have := ih p h; simp; omega
    · rw [if_neg e] at h
      rcases hc : cutL c xs with _ | ⟨q, qs⟩
      · exact absurd hc (cutL_ne c xs)
      · rw [hc] at h ih
        simp only [List.mem_cons] at h
        rcases h with rfl | h
        · have := ih q (by simp); simp; omega
        · have := ih p (by simp [h]); simp; omega
theorem cutB_small {s p : ByteArray} (h : p ∈ cutB s) : p.size ≤ s.size := by
  unfold cutB at h
  rw [List.mem_map] at h
  obtain ⟨l, hl, rfl⟩ := h
  have := cutL_small 32 _ l hl
  rw [Lib.size_eq s]
  show (List.toArray l).size ≤ _
  simpa using this
theorem four_of {s : ByteArray} (h : (cutB s).length = 4) : ∃ a b c d, cutB s = [a, b, c, d] := by
  rcases he : cutB s with _ | ⟨a, _ | ⟨b, _ | ⟨c, _ | ⟨d, _ | ⟨e, l⟩⟩⟩⟩⟩ <;> rw [he] at h <;> simp at h
  exact ⟨a, b, c, d, rfl⟩
/-- The fault of the record that four pieces tell. -/
def pcC (a b c d : ByteArray) : Int := recC a (numP b) (numP c) (numP d)
/-- What is read out of a text: a record, or the code of none. -/
def parV (s : ByteArray) : Value := match cutB s with
  | [a, b, c, d] => if pcC a b c d = 0 then resV 0 a (numP b) (numP c) (numP d) else resV 5 ⟨#[]⟩ 0 0 0
  | _ => resV 5 ⟨#[]⟩ 0 0 0
theorem parV_no {s : ByteArray} (h : ¬ (cutB s).length = 4) : parV s = resV 5 ⟨#[]⟩ 0 0 0 := by
  unfold parV
  split
  · rename_i e; rw [e] at h; exact absurd rfl h
  · rfl
theorem parV_four {s a b c d : ByteArray} (h : cutB s = [a, b, c, d]) : parV s = if pcC a b c d = 0 then resV 0 a (numP b) (numP c) (numP d) else resV 5 ⟨#[]⟩ 0 0 0 := by
  unfold parV; rw [h]
set_option maxRecDepth 100000 in
set_option maxHeartbeats 4000000 in
theorem specParse_no (s : ByteArray) (w : World) (hs : s.size ≤ 1048576) (h : ¬ (cutB s).length = 4) :
    Calls Tryz.prog 12 #[.string s] w fun e w' => e = .returned (resV 5 ⟨#[]⟩ 0 0 0) ∧ Below w.heap.size w w' := by
  have hC := fun w => l3Cut_any s w hs
  have hn : (((cutB s).length : Int) != 4) = true := by rw [bne_iff_ne]; omega
  generalize cutB s = ps at *
  unfold resV
  go_enter Tryz.func12, Tryz.ntmps12
  go_wp2_with fail
  refine (hC _).mono ?_
  rintro e w1 ⟨v1, rfl, ho, hb1⟩
  obtain ⟨ua, uc, rfl⟩ := own_shape ho
  have ⟨c0, c1, c2, c3, c4, f0, f1, f2, f3, f4⟩ := (res_of_heap (heap_alloc_new w _)).belowB hb1 (by simp)
  have hB1 := below_after hb1
  clear hb1 ho hC
  generalize ps.length = n at *
  go_wp2
  exact bodyPost_ret (v := .agg #[.int .i64 5, .string ⟨#[]⟩, .int .i64 0, .int .i64 0, .int .i64 0]) (by simp [results, Tryz.results12, go_sem, c0, c1, c2, c3, c4]) rfl ⟨rfl, ((((hB1.setCell (Nat.le_refl _) _).setCell (Nat.le_refl _) _).setCell (Nat.le_refl _) _).setCell (Nat.le_refl _) _).setCell (Nat.le_refl _) _⟩
set_option maxRecDepth 100000 in
set_option maxHeartbeats 8000000 in
theorem specParse_four (s a b c d : ByteArray) (w : World) (hs : s.size ≤ 1048576) (h : cutB s = [a, b, c, d]) :
    Calls Tryz.prog 12 #[.string s] w fun e w' => e = .returned (if pcC a b c d = 0 then resV 0 a (numP b) (numP c) (numP d) else resV 5 ⟨#[]⟩ 0 0 0) ∧ Below w.heap.size w w' := by
  have hC := fun w => l3Cut_any s w hs
  have ka : a.size ≤ 1048576 := Nat.le_trans (cutB_small (s := s) (by rw [h]; simp)) hs
  have kb : b.size ≤ 1048576 := Nat.le_trans (cutB_small (s := s) (by rw [h]; simp)) hs
  have kc : c.size ≤ 1048576 := Nat.le_trans (cutB_small (s := s) (by rw [h]; simp)) hs
  have kd : d.size ≤ 1048576 := Nat.le_trans (cutB_small (s := s) (by rw [h]; simp)) hs
  rw [h] at hC
  have hN : ∀ (t : ByteArray) (w : World), t.size ≤ 1048576 → Calls Tryz.prog 33 #[.string t] w fun e w' => e = .returned (.int .i64 (numP t)) ∧ w' = w := fun t w ht => l3Number_any t w ht
  have hF := fun (g : Nat) (w' : World) h => l3Fault_any g a (numP b) (numP c) (numP d) w' h ka
  unfold pcC
  generalize recC a (numP b) (numP c) (numP d) = rc at *
  unfold resV
  go_enter Tryz.func12, Tryz.ntmps12
  go_wp2_with fail
  refine (hC _).mono ?_
  rintro e w1 ⟨v1, rfl, ho, hb1⟩
  obtain ⟨g, cap, rfl, -, -, -, hg, hcell⟩ := own_openS ho (by simp)
  have k0 := hcell 0 (by simp)
  have k1 := hcell 1 (by simp)
  have k2 := hcell 2 (by simp)
  have k3 := hcell 3 (by simp)
  simp at k0 k1 k2 k3
  have Z1 := (res_of_heap (heap_alloc_new w _)).belowB hb1 (by simp)
  have hB1 := below_after hb1
  have hz1 : w.heap.size < w1.heap.size := by have := hb1.size; simp at this; omega
  clear hb1 ho hC hcell h
  simp only [List.length_cons, List.length_nil]
  go_wp2
  refine Code.wp_mono (Q := EndsAt ?A (fun w' => RecOwn w' w1.heap.size a (numP b) (numP c) (numP d) ∧ Below w1.heap.size w1 w' ∧ w1.heap.size < w'.heap.size)) ?tail ?reg
  case reg =>
    go_region_held3 (fun w' => w'.cell? ⟨g, 0, none⟩ = some (.string a) ∧ w'.cell? ⟨g, 1, none⟩ = some (.string b) ∧ w'.cell? ⟨g, 2, none⟩ = some (.string c) ∧ w'.cell? ⟨g, 3, none⟩ = some (.string d)) (first | go_keep | exact ⟨by simp [*], by simp [*], by simp [*], by simp [*]⟩) (first
      | (go_at_call 33; (refine (hN _ _ ?_).mono ?_); (assumption); (rintro e wq ⟨rfl, rfl⟩)))
    all_goals (
      refine ⟨rfl, ?_, ?_, ?_, ?_⟩
      · with_reducible rfl
      · first
          | exact ro_set (ro_of_heap (t := 26) (heap_alloc_new w1 _))
          | exact ro_of_heap (t := 26) (heap_alloc_new w1 _)
      · (repeat (first | exact Below.refl _ _ | refine Below.drew ?_ | refine below_drewN ?_ _ | refine Below.alloc ?_ (by simp; try omega) _ | refine Below.setCell ?_ (by simp; try omega) _))
      · simp)
  rintro _ _ W ⟨rfl, rfl, R1, hbW, hzW⟩
  have Z2 := Z1.belowB hbW hz1
  have hBW := below_after_of hB1 hbW
  clear Z1 k0 k1 k2 k3 hbW hB1
  go_wp2_with fail
  refine (hF _ _ R1.toRecAt).mono ?_
  rintro e wq ⟨rfl, hbq⟩
  have hB9 := below_after_of hBW hbq
  have ⟨⟨b0, b1, b2, b3⟩, _, _, _, _⟩ := R1.belowB hbq hzW
  have ⟨c0, c1, c2, c3, c4, f0, f1, f2, f3, f4⟩ := Z2.belowB hbq (by omega)
  clear hbq R1 Z2 hF hN
  by_cases h0 : rc = 0
  · have h3 : (rc != 0) = false := by simp [h0]
    have H0 : Hid (rc = 0) := h0
    clear h0
    go_wp2
    exact bodyPost_ret (v := .agg #[.int .i64 0, .string a, .int .i64 (numP b), .int .i64 (numP c), .int .i64 (numP d)]) (by simp [results, Tryz.results12, go_sem, c0, c1, c2, c3, c4]) rfl ⟨by first | rfl | rw [if_pos H0.out], ((((hB9.setCell (Nat.le_refl _) _).setCell (Nat.le_refl _) _).setCell (Nat.le_refl _) _).setCell (Nat.le_refl _) _).setCell (Nat.le_refl _) _⟩
  · have h3 : (rc != 0) = true := by simp [h0]
    have H0 : Hid (¬ rc = 0) := h0
    clear h0
    go_wp2
    exact bodyPost_ret (v := .agg #[.int .i64 5, .string ⟨#[]⟩, .int .i64 0, .int .i64 0, .int .i64 0]) (by simp [results, Tryz.results12, go_sem, c0, c1, c2, c3, c4]) rfl ⟨by first | rfl | rw [if_neg H0.out], ((((hB9.setCell (Nat.le_refl _) _).setCell (Nat.le_refl _) _).setCell (Nat.le_refl _) _).setCell (Nat.le_refl _) _).setCell (Nat.le_refl _) _⟩
theorem specParseRecord_any (s : ByteArray) (w : World) (hs : s.size ≤ 1048576) :
    Calls Tryz.prog 12 #[.string s] w fun e w' => e = .returned (parV s) ∧ Below w.heap.size w w' := by
  by_cases h : (cutB s).length = 4
  · obtain ⟨a, b, c, d, hc⟩ := four_of h
    rw [parV_four hc]
    exact specParse_four s a b c d w hs hc
  · rw [parV_no h]
    exact specParse_no s w hs h
end U
end Go.Proofs.YtffoogkojncooaaGreatDoor
