/- A record out of a text: what the program reads; where there is none it panics. -/
import Derived.Test.YtffoogkojncooaaGreatDoorParse4
import Derived.Test.YtffoogkojncooaaGreatDoorShelf
import Derived.Test.YtffoogkojncooaaGreatDoorHeldBy
namespace Go.Proofs.YtffoogkojncooaaGreatDoor
open Go.RowKit
namespace U
set_option maxHeartbeats 400000 in
theorem clone_str (s : ByteArray) (w : World) (hs : s.size ≤ 1048576) : Calls Tryz.prog 49 #[.string s] w fun e w' => e = .returned (.string s) ∧ Below w.heap.size w w' := by
  go_enter Tryz.func49, Tryz.ntmps49
  go_wp2_with fail
  refine (Tryz.stringslite_Clone s _ (by omega)).mono ?_
  rintro e w1 ⟨rfl, hb1⟩
  go_wp2
  go_ret
  exact ⟨rfl, hb1⟩
theorem numP_t {s : ByteArray} (h : numsB s = true) : numP s = valAt s s.size := by unfold numP; rw [if_pos h]
theorem numP_f {s : ByteArray} (h : numsB s = false) : numP s = -1 := by unfold numP; rw [h]; rfl
/-- A piece that is no number makes no record. -/
theorem pc_bad {a b c d : ByteArray} (h : numsB b = false ∨ numsB c = false ∨ numsB d = false) : ¬ pcC a b c d = 0 := by
  intro e
  have hk := recOk (show recC a (numP b) (numP c) (numP d) = 0 from e)
  rcases h with h | h | h
  · have := hk.v0; rw [numP_f h] at this; omega
  · have := hk.o0; rw [numP_f h] at this; omega
  · have := hk.p0; rw [numP_f h] at this; omega
/-- What stands in the global that tells how long a search may be. -/
def MaxIs (w : World) : Prop := ∃ m : Int, w.cell? ⟨1, 0, none⟩ = some (.int .i64 m)
set_option maxRecDepth 100000 in
set_option maxHeartbeats 2000000 in
theorem recordOfText_no (s : ByteArray) (w : World) (hs : s.size ≤ 1048576) (hM : ∀ w', Below w.heap.size w w' → MaxIs w') (h : ¬ (cutB s).length = 4) :
    Calls Tryz.prog 29 #[.string s] w fun e w' => e = .panicked noRec ∧ Below w.heap.size w w' := by
  have hS : ∀ w', Below w.heap.size w w' → Calls Tryz.prog 48 #[.string s, .string ⟨#[32]⟩, .int .i64 5] w' fun e w'' => e = .returned (.slice (some ⟨w'.heap.size, 0, none⟩) (firsts s).length (min 5 (s.size + 1))) ∧ w'' = w'.alloc (.cells (Lib.cellsOf (firsts s) (min 5 (s.size + 1))) 9) := fun w' hb => by
    obtain ⟨m, hm⟩ := hM w' hb
    exact Tryz.strings_SplitN s ⟨#[32]⟩ 5 m w' (by omega) hm (by decide) (by omega) (by omega)
  have hn : ¬ (firsts s).length = 4 := fun e => h ((firsts_four s).1 e)
  have hn2 : (((firsts s).length : Int) == 4) = false := by rw [beq_eq_false_iff_ne]; omega
  generalize firsts s = ps at *
  generalize min 5 (s.size + 1) = cap at *
  go_enter Tryz.func29, Tryz.ntmps29
  go_wp2_with fail
  refine (hS _ (one_new _)).mono ?_
  rintro e w1 ⟨rfl, rfl⟩
  generalize ps.length = n at *
  go_wp2_with (first | (go_at_call 45; refine (needRecord_f _).mono ?_; rintro e wq ⟨rfl, rfl⟩))
  exact ⟨rfl, rfl, two_new _ _⟩
theorem splitN_four (s a b c d : ByteArray) (w : World) (hs : s.size ≤ 1048576) (hM : ∀ w', Below w.heap.size w w' → MaxIs w') (h : cutB s = [a, b, c, d]) :
    ∀ w', Below w.heap.size w w' → Calls Tryz.prog 48 #[.string s, .string ⟨#[32]⟩, .int .i64 5] w' fun e w'' => e = .returned (.slice (some ⟨w'.heap.size, 0, none⟩) 4 (min 5 (s.size + 1))) ∧ Below w'.heap.size w' w'' ∧
      w''.cell? ⟨w'.heap.size, 0, none⟩ = some (.string a) ∧ w''.cell? ⟨w'.heap.size, 1, none⟩ = some (.string b) ∧ w''.cell? ⟨w'.heap.size, 2, none⟩ = some (.string c) ∧ w''.cell? ⟨w'.heap.size, 3, none⟩ = some (.string d) ∧ w'.heap.size < w''.heap.size := fun w' hb => by
  obtain ⟨m, hm⟩ := hM w' hb
  have hf : firsts s = [a, b, c, d] := by rw [firsts_same (by rw [h]; rfl), h]
  refine (Tryz.strings_SplitN s ⟨#[32]⟩ 5 m w' (by omega) hm (by decide) (by omega) (by omega)).mono ?_
  rintro e w'' ⟨he, rfl⟩
  have e1 : Lib.splitB ⟨#[32]⟩ 0 (min 5 (s.size + 1) - 1) s = [a, b, c, d] := hf
  rw [e1] at he ⊢
  have hh := heap_alloc_new w' (.cells (Lib.cellsOf [a, b, c, d] (min 5 (s.size + 1))) 9)
  refine ⟨he, one_new _, ?_, ?_, ?_, ?_, by simp⟩ <;> (unfold World.cell?; rw [hh]; simp [Lib.cellsOf])
/-- A record that lies in a block that may be written, and is there. -/
structure RecIn (w : World) (g : Nat) (l : ByteArray) (v o p : Int) : Prop extends RecOwn w g l v o p where
  lt : g < w.heap.size
theorem RecIn.below {w w' : World} {g : Nat} {l : ByteArray} {v o p : Int} (h : RecIn w g l v o p) (hb : Below w.heap.size w w') : RecIn w' g l v o p := ⟨h.toRecOwn.belowB hb h.lt, Nat.lt_of_lt_of_le h.lt hb.size⟩
theorem RecIn.new (w : World) : RecIn (w.alloc (.cells #[.string ⟨#[]⟩, .int .i64 0, .int .i64 0, .int .i64 0] 26)) w.heap.size ⟨#[]⟩ 0 0 0 := ⟨ro_of_heap (heap_alloc_new w _), by simp⟩
theorem RecIn.drew {w : World} {g : Nat} {l : ByteArray} {v o p : Int} (h : RecIn w g l v o p) : RecIn w.drew g l v o p := h.below (Below.refl _ _).drew
set_option maxRecDepth 100000 in
set_option maxHeartbeats 8000000 in
theorem recordOfText_bad0 (s a b c d : ByteArray) (w : World) (hs : s.size ≤ 1048576) (hM : ∀ w', Below w.heap.size w w' → MaxIs w') (h : cutB s = [a, b, c, d]) (hx : numsB b = false) :
    Calls Tryz.prog 29 #[.string s] w fun e w' => e = .panicked noRec ∧ Below w.heap.size w w' := by
  have ka : a.size ≤ 1048576 := Nat.le_trans (cutB_small (s := s) (by rw [h]; simp)) hs
  have kb : b.size ≤ 1048576 := Nat.le_trans (cutB_small (s := s) (by rw [h]; simp)) hs
  have kc : c.size ≤ 1048576 := Nat.le_trans (cutB_small (s := s) (by rw [h]; simp)) hs
  have kd : d.size ≤ 1048576 := Nat.le_trans (cutB_small (s := s) (by rw [h]; simp)) hs
  have hS := splitN_four s a b c d w hs hM h
  have hA := fun w => clone_str a w ka
  have hb := fun w => needNumber_f b w kb hx
  obtain ⟨cap, hcap⟩ : ∃ cap, cap = min 5 (s.size + 1) := ⟨_, rfl⟩
  rw [← hcap] at hS
  clear hM h hcap
  go_enter Tryz.func29, Tryz.ntmps29
  go_wp2_with fail
  refine (hS _ (one_new _)).mono ?_
  rintro e w1 ⟨rfl, hb1, k0, k1, k2, k3, hlt⟩
  have hB1 : Below w.heap.size w w1 := below_after hb1
  clear hS hb1
  go_wp2_with (first | (go_at_call 45; refine (needRecord_t _).mono ?_; rintro e w2 ⟨rfl, rfl⟩))
  rw [World.size_alloc] at k0 k1 k2 k3
  have q0 : ∀ w', Below w2.heap.size w2 w' → w'.cell? ⟨w.heap.size + 1, 0, none⟩ = some (.string a) := fun w' hb => After.cell k0 ⟨w', hb⟩
  have q1 : ∀ w', Below w2.heap.size w2 w' → w'.cell? ⟨w.heap.size + 1, 1, none⟩ = some (.string b) := fun w' hb => After.cell k1 ⟨w', hb⟩
  have q2 : ∀ w', Below w2.heap.size w2 w' → w'.cell? ⟨w.heap.size + 1, 2, none⟩ = some (.string c) := fun w' hb => After.cell k2 ⟨w', hb⟩
  have q3 : ∀ w', Below w2.heap.size w2 w' → w'.cell? ⟨w.heap.size + 1, 3, none⟩ = some (.string d) := fun w' hb => After.cell k3 ⟨w', hb⟩
  refine wp_region_held_drew (S := fun w' => Below w2.heap.size w2 w') (by kernel_rfl) ((Below.refl _ _).drew) (fun hHeld => ?_)
  refine h_take (i := 0) (d := some 11) (v := ?va1) (by rfl) (by kernel_rfl) (by kernel_rfl) (by kernel_rfl) (fun _ _ _ h => h) (by rfl) ?hya1 hHeld ?resta1
  case hya1 =>
    intro o ho
    simp only [List.getElem?_toArray, List.getElem?_cons_zero, Option.some.injEq] at ho
    subst ho
    intro w' hSw
    first | (go_simp; done) | (go_simp; with_reducible rfl)
  try simp only [Act.put, List.setIfInBounds_toArray, List.set_cons_zero, List.set_cons_succ]
  refine h_take (i := 1) (d := some 12) (v := ?va2) (by rfl) (by kernel_rfl) (by kernel_rfl) (by kernel_rfl) (fun _ _ _ h => h) (by rfl) ?hya2 hHeld ?resta2
  case hya2 =>
    intro o ho
    simp only [List.getElem?_toArray, List.getElem?_cons_succ, List.getElem?_cons_zero, Option.some.injEq] at ho
    subst ho
    intro w' hSw
    first | (go_simp; done) | (go_simp; with_reducible rfl)
  try simp only [Act.put, List.setIfInBounds_toArray, List.set_cons_zero, List.set_cons_succ]
  refine h_take (i := 2) (d := some 13) (v := ?va3) (by rfl) (by kernel_rfl) (by kernel_rfl) (by kernel_rfl) (fun _ _ _ h => h) (by rfl) ?hya3 hHeld ?resta3
  case hya3 =>
    intro o ho
    simp only [List.getElem?_toArray, List.getElem?_cons_succ, List.getElem?_cons_zero, Option.some.injEq] at ho
    subst ho
    intro w' hSw
    first | (go_simp; done) | (go_simp; with_reducible rfl)
  try simp only [Act.put, List.setIfInBounds_toArray, List.set_cons_zero, List.set_cons_succ]
  refine h_take (i := 4) (d := some 15) (v := ?va4) (by rfl) (by kernel_rfl) (by kernel_rfl) (by kernel_rfl) (fun _ _ _ h => h) (by rfl) ?hya4 hHeld ?resta4
  case hya4 =>
    intro o ho
    simp only [List.getElem?_toArray, List.getElem?_cons_succ, List.getElem?_cons_zero, Option.some.injEq] at ho
    subst ho
    intro w' hSw
    first | (go_simp; done) | (go_simp; with_reducible rfl)
  try simp only [Act.put, List.setIfInBounds_toArray, List.set_cons_zero, List.set_cons_succ]
  refine h_take (i := 5) (d := some 16) (v := ?va5) (by rfl) (by kernel_rfl) (by kernel_rfl) (by kernel_rfl) (fun _ _ _ h => h) (by rfl) ?hya5 hHeld ?resta5
  case hya5 =>
    intro o ho
    simp only [List.getElem?_toArray, List.getElem?_cons_succ, List.getElem?_cons_zero, Option.some.injEq] at ho
    subst ho
    intro w' hSw
    first | (go_simp; done) | (go_simp; with_reducible rfl)
  try simp only [Act.put, List.setIfInBounds_toArray, List.set_cons_zero, List.set_cons_succ]
  refine h_take (i := 6) (d := some 17) (v := ?va6) (by rfl) (by kernel_rfl) (by kernel_rfl) (by kernel_rfl) (fun _ _ _ h => h) (by rfl) ?hya6 hHeld ?resta6
  case hya6 =>
    intro o ho
    simp only [List.getElem?_toArray, List.getElem?_cons_succ, List.getElem?_cons_zero, Option.some.injEq] at ho
    subst ho
    intro w' hSw
    first | (go_simp; done) | (go_simp; with_reducible rfl)
  try simp only [Act.put, List.setIfInBounds_toArray, List.set_cons_zero, List.set_cons_succ]
  refine h_take (i := 8) (d := some 19) (v := ?va7) (by rfl) (by kernel_rfl) (by kernel_rfl) (by kernel_rfl) (fun _ _ _ h => h) (by rfl) ?hya7 hHeld ?resta7
  case hya7 =>
    intro o ho
    simp only [List.getElem?_toArray, List.getElem?_cons_succ, List.getElem?_cons_zero, Option.some.injEq] at ho
    subst ho
    intro w' hSw
    first | (go_simp; done) | (go_simp; with_reducible rfl)
  try simp only [Act.put, List.setIfInBounds_toArray, List.set_cons_zero, List.set_cons_succ]
  refine h_take (i := 9) (d := some 20) (v := ?va8) (by rfl) (by kernel_rfl) (by kernel_rfl) (by kernel_rfl) (fun _ _ _ h => h) (by rfl) ?hya8 hHeld ?resta8
  case hya8 =>
    intro o ho
    simp only [List.getElem?_toArray, List.getElem?_cons_succ, List.getElem?_cons_zero, Option.some.injEq] at ho
    subst ho
    intro w' hSw
    first | (go_simp; done) | (go_simp; with_reducible rfl)
  try simp only [Act.put, List.setIfInBounds_toArray, List.set_cons_zero, List.set_cons_succ]
  refine h_take (i := 10) (d := some 21) (v := ?va9) (by rfl) (by kernel_rfl) (by kernel_rfl) (by kernel_rfl) (fun _ _ _ h => h) (by rfl) ?hya9 hHeld ?resta9
  case hya9 =>
    intro o ho
    simp only [List.getElem?_toArray, List.getElem?_cons_succ, List.getElem?_cons_zero, Option.some.injEq] at ho
    subst ho
    intro w' hSw
    first | (go_simp; done) | (go_simp; with_reducible rfl)
  try simp only [Act.put, List.setIfInBounds_toArray, List.set_cons_zero, List.set_cons_succ]
  refine h_take (i := 12) (d := some 23) (v := ?va10) (by rfl) (by kernel_rfl) (by kernel_rfl) (by kernel_rfl) (fun _ _ _ h => h) (by rfl) ?hya10 hHeld ?resta10
  case hya10 =>
    intro o ho
    simp only [List.getElem?_toArray, List.getElem?_cons_succ, List.getElem?_cons_zero, Option.some.injEq] at ho
    subst ho
    intro w' hSw
    first | (go_simp; done) | (go_simp; with_reducible rfl)
  try simp only [Act.put, List.setIfInBounds_toArray, List.set_cons_zero, List.set_cons_succ]
  refine h_take (i := 13) (d := some 24) (v := ?va11) (by rfl) (by kernel_rfl) (by kernel_rfl) (by kernel_rfl) (fun _ _ _ h => h) (by rfl) ?hya11 hHeld ?resta11
  case hya11 =>
    intro o ho
    simp only [List.getElem?_toArray, List.getElem?_cons_succ, List.getElem?_cons_zero, Option.some.injEq] at ho
    subst ho
    intro w' hSw
    first | (go_simp; done) | (go_simp; with_reducible rfl)
  try simp only [Act.put, List.setIfInBounds_toArray, List.set_cons_zero, List.set_cons_succ]
  refine h_take (i := 14) (d := some 25) (v := ?va12) (by rfl) (by kernel_rfl) (by kernel_rfl) (by kernel_rfl) (fun _ _ _ h => h) (by rfl) ?hya12 hHeld ?resta12
  case hya12 =>
    intro o ho
    simp only [List.getElem?_toArray, List.getElem?_cons_succ, List.getElem?_cons_zero, Option.some.injEq] at ho
    subst ho
    intro w' hSw
    first | (go_simp; done) | (go_simp; with_reducible rfl)
  try simp only [Act.put, List.setIfInBounds_toArray, List.set_cons_zero, List.set_cons_succ]
  refine wpAnyH_ready (rs := [3, 17]) (by kernel_rfl) (by simp) ?_
  refine AllReadyH.cons rfl (fun K hK => ?_) (AllReadyH.cons rfl (fun K hK => ?_) AllReadyH.nil)
  · go_simp
    refine (hA _).mono ?_
    rintro e wq ⟨rfl, hbq⟩
    refine hK.out _ _ ?_ (fun hHeld => ?_)
    · exact below_after_of hHeld hbq
    clear hK K
    try simp only [Act.put, List.setIfInBounds_toArray, List.set_cons_zero, List.set_cons_succ]
    refine wpAnyH_ready (rs := [7, 17]) (by kernel_rfl) (by simp) ?_
    refine AllReadyH.cons rfl (fun K hK => ?_) (AllReadyH.cons rfl (fun K hK => ?_) AllReadyH.nil)
    · go_simp
      refine (hb _).mono ?_
      rintro e wq ⟨rfl, hbq⟩
      exact ⟨rfl, rfl, below_after_of hB1 (below_after_of hHeld hbq)⟩
    · go_simp
      refine hK.out _ _ ?_ (fun hHeld => ?_)
      · exact below_after_of hHeld (one_new _)
      clear hK K
      try simp only [Act.put, List.setIfInBounds_toArray, List.set_cons_zero, List.set_cons_succ]
      refine wpAnyH_ready (rs := [7]) (by kernel_rfl) (by simp) ?_
      refine AllReadyH.cons rfl (fun K hK => ?_) AllReadyH.nil
      · go_simp
        refine (hb _).mono ?_
        rintro e wq ⟨rfl, hbq⟩
        exact ⟨rfl, rfl, below_after_of hB1 (below_after_of hHeld hbq)⟩
  · go_simp
    refine hK.out _ _ ?_ (fun hHeld => ?_)
    · exact below_after_of hHeld (one_new _)
    clear hK K
    try simp only [Act.put, List.setIfInBounds_toArray, List.set_cons_zero, List.set_cons_succ]
    refine wpAnyH_ready (rs := [3]) (by kernel_rfl) (by simp) ?_
    refine AllReadyH.cons rfl (fun K hK => ?_) AllReadyH.nil
    · go_simp
      refine (hA _).mono ?_
      rintro e wq ⟨rfl, hbq⟩
      refine hK.out _ _ ?_ (fun hHeld => ?_)
      · exact below_after_of hHeld hbq
      clear hK K
      try simp only [Act.put, List.setIfInBounds_toArray, List.set_cons_zero, List.set_cons_succ]
      refine wpAnyH_ready (rs := [7]) (by kernel_rfl) (by simp) ?_
      refine AllReadyH.cons rfl (fun K hK => ?_) AllReadyH.nil
      · go_simp
        refine (hb _).mono ?_
        rintro e wq ⟨rfl, hbq⟩
        exact ⟨rfl, rfl, below_after_of hB1 (below_after_of hHeld hbq)⟩
set_option maxRecDepth 100000 in
set_option maxHeartbeats 8000000 in
theorem recordOfText_bad1 (s a b c d : ByteArray) (w : World) (hs : s.size ≤ 1048576) (hM : ∀ w', Below w.heap.size w w' → MaxIs w') (h : cutB s = [a, b, c, d]) (hy : numsB b = true) (hx : numsB c = false) :
    Calls Tryz.prog 29 #[.string s] w fun e w' => e = .panicked noRec ∧ Below w.heap.size w w' := by
  have ka : a.size ≤ 1048576 := Nat.le_trans (cutB_small (s := s) (by rw [h]; simp)) hs
  have kb : b.size ≤ 1048576 := Nat.le_trans (cutB_small (s := s) (by rw [h]; simp)) hs
  have kc : c.size ≤ 1048576 := Nat.le_trans (cutB_small (s := s) (by rw [h]; simp)) hs
  have kd : d.size ≤ 1048576 := Nat.le_trans (cutB_small (s := s) (by rw [h]; simp)) hs
  have hS := splitN_four s a b c d w hs hM h
  have hA := fun w => clone_str a w ka
  have hb := fun w => needNumber_t b w kb hy
  have hc := fun w => needNumber_f c w kc hx
  generalize valAt b b.size = vb at *
  obtain ⟨cap, hcap⟩ : ∃ cap, cap = min 5 (s.size + 1) := ⟨_, rfl⟩
  rw [← hcap] at hS
  clear hM h hcap
  go_enter Tryz.func29, Tryz.ntmps29
  go_wp2_with fail
  refine (hS _ (one_new _)).mono ?_
  rintro e w1 ⟨rfl, hb1, k0, k1, k2, k3, hlt⟩
  have hB1 : Below w.heap.size w w1 := below_after hb1
  clear hS hb1
  go_wp2_with (first | (go_at_call 45; refine (needRecord_t _).mono ?_; rintro e w2 ⟨rfl, rfl⟩))
  rw [World.size_alloc] at k0 k1 k2 k3
  have q0 : ∀ w', Below w2.heap.size w2 w' → w'.cell? ⟨w.heap.size + 1, 0, none⟩ = some (.string a) := fun w' hb => After.cell k0 ⟨w', hb⟩
  have q1 : ∀ w', Below w2.heap.size w2 w' → w'.cell? ⟨w.heap.size + 1, 1, none⟩ = some (.string b) := fun w' hb => After.cell k1 ⟨w', hb⟩
  have q2 : ∀ w', Below w2.heap.size w2 w' → w'.cell? ⟨w.heap.size + 1, 2, none⟩ = some (.string c) := fun w' hb => After.cell k2 ⟨w', hb⟩
  have q3 : ∀ w', Below w2.heap.size w2 w' → w'.cell? ⟨w.heap.size + 1, 3, none⟩ = some (.string d) := fun w' hb => After.cell k3 ⟨w', hb⟩
  refine wp_region_held_drew (S := fun w' => Below w2.heap.size w2 w') (by kernel_rfl) ((Below.refl _ _).drew) (fun hHeld => ?_)
  refine h_take (i := 0) (d := some 11) (v := ?vb1) (by rfl) (by kernel_rfl) (by kernel_rfl) (by kernel_rfl) (fun _ _ _ h => h) (by rfl) ?hyb1 hHeld ?restb1
  case hyb1 =>
    intro o ho
    simp only [List.getElem?_toArray, List.getElem?_cons_zero, Option.some.injEq] at ho
    subst ho
    intro w' hSw
    first | (go_simp; done) | (go_simp; with_reducible rfl)
  try simp only [Act.put, List.setIfInBounds_toArray, List.set_cons_zero, List.set_cons_succ]
  refine h_take (i := 1) (d := some 12) (v := ?vb2) (by rfl) (by kernel_rfl) (by kernel_rfl) (by kernel_rfl) (fun _ _ _ h => h) (by rfl) ?hyb2 hHeld ?restb2
  case hyb2 =>
    intro o ho
    simp only [List.getElem?_toArray, List.getElem?_cons_succ, List.getElem?_cons_zero, Option.some.injEq] at ho
    subst ho
    intro w' hSw
    first | (go_simp; done) | (go_simp; with_reducible rfl)
  try simp only [Act.put, List.setIfInBounds_toArray, List.set_cons_zero, List.set_cons_succ]
  refine h_take (i := 2) (d := some 13) (v := ?vb3) (by rfl) (by kernel_rfl) (by kernel_rfl) (by kernel_rfl) (fun _ _ _ h => h) (by rfl) ?hyb3 hHeld ?restb3
  case hyb3 =>
    intro o ho
    simp only [List.getElem?_toArray, List.getElem?_cons_succ, List.getElem?_cons_zero, Option.some.injEq] at ho
    subst ho
    intro w' hSw
    first | (go_simp; done) | (go_simp; with_reducible rfl)
  try simp only [Act.put, List.setIfInBounds_toArray, List.set_cons_zero, List.set_cons_succ]
  refine h_take (i := 4) (d := some 15) (v := ?vb4) (by rfl) (by kernel_rfl) (by kernel_rfl) (by kernel_rfl) (fun _ _ _ h => h) (by rfl) ?hyb4 hHeld ?restb4
  case hyb4 =>
    intro o ho
    simp only [List.getElem?_toArray, List.getElem?_cons_succ, List.getElem?_cons_zero, Option.some.injEq] at ho
    subst ho
    intro w' hSw
    first | (go_simp; done) | (go_simp; with_reducible rfl)
  try simp only [Act.put, List.setIfInBounds_toArray, List.set_cons_zero, List.set_cons_succ]
  refine h_take (i := 5) (d := some 16) (v := ?vb5) (by rfl) (by kernel_rfl) (by kernel_rfl) (by kernel_rfl) (fun _ _ _ h => h) (by rfl) ?hyb5 hHeld ?restb5
  case hyb5 =>
    intro o ho
    simp only [List.getElem?_toArray, List.getElem?_cons_succ, List.getElem?_cons_zero, Option.some.injEq] at ho
    subst ho
    intro w' hSw
    first | (go_simp; done) | (go_simp; with_reducible rfl)
  try simp only [Act.put, List.setIfInBounds_toArray, List.set_cons_zero, List.set_cons_succ]
  refine h_take (i := 6) (d := some 17) (v := ?vb6) (by rfl) (by kernel_rfl) (by kernel_rfl) (by kernel_rfl) (fun _ _ _ h => h) (by rfl) ?hyb6 hHeld ?restb6
  case hyb6 =>
    intro o ho
    simp only [List.getElem?_toArray, List.getElem?_cons_succ, List.getElem?_cons_zero, Option.some.injEq] at ho
    subst ho
    intro w' hSw
    first | (go_simp; done) | (go_simp; with_reducible rfl)
  try simp only [Act.put, List.setIfInBounds_toArray, List.set_cons_zero, List.set_cons_succ]
  refine h_take (i := 8) (d := some 19) (v := ?vb7) (by rfl) (by kernel_rfl) (by kernel_rfl) (by kernel_rfl) (fun _ _ _ h => h) (by rfl) ?hyb7 hHeld ?restb7
  case hyb7 =>
    intro o ho
    simp only [List.getElem?_toArray, List.getElem?_cons_succ, List.getElem?_cons_zero, Option.some.injEq] at ho
    subst ho
    intro w' hSw
    first | (go_simp; done) | (go_simp; with_reducible rfl)
  try simp only [Act.put, List.setIfInBounds_toArray, List.set_cons_zero, List.set_cons_succ]
  refine h_take (i := 9) (d := some 20) (v := ?vb8) (by rfl) (by kernel_rfl) (by kernel_rfl) (by kernel_rfl) (fun _ _ _ h => h) (by rfl) ?hyb8 hHeld ?restb8
  case hyb8 =>
    intro o ho
    simp only [List.getElem?_toArray, List.getElem?_cons_succ, List.getElem?_cons_zero, Option.some.injEq] at ho
    subst ho
    intro w' hSw
    first | (go_simp; done) | (go_simp; with_reducible rfl)
  try simp only [Act.put, List.setIfInBounds_toArray, List.set_cons_zero, List.set_cons_succ]
  refine h_take (i := 10) (d := some 21) (v := ?vb9) (by rfl) (by kernel_rfl) (by kernel_rfl) (by kernel_rfl) (fun _ _ _ h => h) (by rfl) ?hyb9 hHeld ?restb9
  case hyb9 =>
    intro o ho
    simp only [List.getElem?_toArray, List.getElem?_cons_succ, List.getElem?_cons_zero, Option.some.injEq] at ho
    subst ho
    intro w' hSw
    first | (go_simp; done) | (go_simp; with_reducible rfl)
  try simp only [Act.put, List.setIfInBounds_toArray, List.set_cons_zero, List.set_cons_succ]
  refine h_take (i := 12) (d := some 23) (v := ?vb10) (by rfl) (by kernel_rfl) (by kernel_rfl) (by kernel_rfl) (fun _ _ _ h => h) (by rfl) ?hyb10 hHeld ?restb10
  case hyb10 =>
    intro o ho
    simp only [List.getElem?_toArray, List.getElem?_cons_succ, List.getElem?_cons_zero, Option.some.injEq] at ho
    subst ho
    intro w' hSw
    first | (go_simp; done) | (go_simp; with_reducible rfl)
  try simp only [Act.put, List.setIfInBounds_toArray, List.set_cons_zero, List.set_cons_succ]
  refine h_take (i := 13) (d := some 24) (v := ?vb11) (by rfl) (by kernel_rfl) (by kernel_rfl) (by kernel_rfl) (fun _ _ _ h => h) (by rfl) ?hyb11 hHeld ?restb11
  case hyb11 =>
    intro o ho
    simp only [List.getElem?_toArray, List.getElem?_cons_succ, List.getElem?_cons_zero, Option.some.injEq] at ho
    subst ho
    intro w' hSw
    first | (go_simp; done) | (go_simp; with_reducible rfl)
  try simp only [Act.put, List.setIfInBounds_toArray, List.set_cons_zero, List.set_cons_succ]
  refine h_take (i := 14) (d := some 25) (v := ?vb12) (by rfl) (by kernel_rfl) (by kernel_rfl) (by kernel_rfl) (fun _ _ _ h => h) (by rfl) ?hyb12 hHeld ?restb12
  case hyb12 =>
    intro o ho
    simp only [List.getElem?_toArray, List.getElem?_cons_succ, List.getElem?_cons_zero, Option.some.injEq] at ho
    subst ho
    intro w' hSw
    first | (go_simp; done) | (go_simp; with_reducible rfl)
  try simp only [Act.put, List.setIfInBounds_toArray, List.set_cons_zero, List.set_cons_succ]
  refine wpAnyH_ready (rs := [3, 17]) (by kernel_rfl) (by simp) ?_
  refine AllReadyH.cons rfl (fun K hK => ?_) (AllReadyH.cons rfl (fun K hK => ?_) AllReadyH.nil)
  · go_simp
    refine (hA _).mono ?_
    rintro e wq ⟨rfl, hbq⟩
    refine hK.out _ _ ?_ (fun hHeld => ?_)
    · exact below_after_of hHeld hbq
    clear hK K
    try simp only [Act.put, List.setIfInBounds_toArray, List.set_cons_zero, List.set_cons_succ]
    refine wpAnyH_ready (rs := [7, 17]) (by kernel_rfl) (by simp) ?_
    refine AllReadyH.cons rfl (fun K hK => ?_) (AllReadyH.cons rfl (fun K hK => ?_) AllReadyH.nil)
    · go_simp
      refine (hb _).mono ?_
      rintro e wq ⟨rfl, hbq⟩
      refine hK.out _ _ ?_ (fun hHeld => ?_)
      · exact below_after_of hHeld hbq
      clear hK K
      try simp only [Act.put, List.setIfInBounds_toArray, List.set_cons_zero, List.set_cons_succ]
      refine wpAnyH_ready (rs := [11, 17]) (by kernel_rfl) (by simp) ?_
      refine AllReadyH.cons rfl (fun K hK => ?_) (AllReadyH.cons rfl (fun K hK => ?_) AllReadyH.nil)
      · go_simp
        refine (hc _).mono ?_
        rintro e wq ⟨rfl, hbq⟩
        exact ⟨rfl, rfl, below_after_of hB1 (below_after_of hHeld hbq)⟩
      · go_simp
        refine hK.out _ _ ?_ (fun hHeld => ?_)
        · exact below_after_of hHeld (one_new _)
        clear hK K
        try simp only [Act.put, List.setIfInBounds_toArray, List.set_cons_zero, List.set_cons_succ]
        refine wpAnyH_ready (rs := [11]) (by kernel_rfl) (by simp) ?_
        refine AllReadyH.cons rfl (fun K hK => ?_) AllReadyH.nil
        · go_simp
          refine (hc _).mono ?_
          rintro e wq ⟨rfl, hbq⟩
          exact ⟨rfl, rfl, below_after_of hB1 (below_after_of hHeld hbq)⟩
    · go_simp
      refine hK.out _ _ ?_ (fun hHeld => ?_)
      · exact below_after_of hHeld (one_new _)
      clear hK K
      try simp only [Act.put, List.setIfInBounds_toArray, List.set_cons_zero, List.set_cons_succ]
      refine wpAnyH_ready (rs := [7]) (by kernel_rfl) (by simp) ?_
      refine AllReadyH.cons rfl (fun K hK => ?_) AllReadyH.nil
      · go_simp
        refine (hb _).mono ?_
        rintro e wq ⟨rfl, hbq⟩
        refine hK.out _ _ ?_ (fun hHeld => ?_)
        · exact below_after_of hHeld hbq
        clear hK K
        try simp only [Act.put, List.setIfInBounds_toArray, List.set_cons_zero, List.set_cons_succ]
        refine wpAnyH_ready (rs := [11]) (by kernel_rfl) (by simp) ?_
        refine AllReadyH.cons rfl (fun K hK => ?_) AllReadyH.nil
        · go_simp
          refine (hc _).mono ?_
          rintro e wq ⟨rfl, hbq⟩
          exact ⟨rfl, rfl, below_after_of hB1 (below_after_of hHeld hbq)⟩
  · go_simp
    refine hK.out _ _ ?_ (fun hHeld => ?_)
    · exact below_after_of hHeld (one_new _)
    clear hK K
    try simp only [Act.put, List.setIfInBounds_toArray, List.set_cons_zero, List.set_cons_succ]
    refine wpAnyH_ready (rs := [3]) (by kernel_rfl) (by simp) ?_
    refine AllReadyH.cons rfl (fun K hK => ?_) AllReadyH.nil
    · go_simp
      refine (hA _).mono ?_
      rintro e wq ⟨rfl, hbq⟩
      refine hK.out _ _ ?_ (fun hHeld => ?_)
      · exact below_after_of hHeld hbq
      clear hK K
      try simp only [Act.put, List.setIfInBounds_toArray, List.set_cons_zero, List.set_cons_succ]
      refine wpAnyH_ready (rs := [7]) (by kernel_rfl) (by simp) ?_
      refine AllReadyH.cons rfl (fun K hK => ?_) AllReadyH.nil
      · go_simp
        refine (hb _).mono ?_
        rintro e wq ⟨rfl, hbq⟩
        refine hK.out _ _ ?_ (fun hHeld => ?_)
        · exact below_after_of hHeld hbq
        clear hK K
        try simp only [Act.put, List.setIfInBounds_toArray, List.set_cons_zero, List.set_cons_succ]
        refine wpAnyH_ready (rs := [11]) (by kernel_rfl) (by simp) ?_
        refine AllReadyH.cons rfl (fun K hK => ?_) AllReadyH.nil
        · go_simp
          refine (hc _).mono ?_
          rintro e wq ⟨rfl, hbq⟩
          exact ⟨rfl, rfl, below_after_of hB1 (below_after_of hHeld hbq)⟩
set_option maxRecDepth 100000 in
set_option maxHeartbeats 8000000 in
theorem recordOfText_bad2 (s a b c d : ByteArray) (w : World) (hs : s.size ≤ 1048576) (hM : ∀ w', Below w.heap.size w w' → MaxIs w') (h : cutB s = [a, b, c, d]) (hy : numsB b = true) (hz : numsB c = true) (hx : numsB d = false) :
    Calls Tryz.prog 29 #[.string s] w fun e w' => e = .panicked noRec ∧ Below w.heap.size w w' := by
  have ka : a.size ≤ 1048576 := Nat.le_trans (cutB_small (s := s) (by rw [h]; simp)) hs
  have kb : b.size ≤ 1048576 := Nat.le_trans (cutB_small (s := s) (by rw [h]; simp)) hs
  have kc : c.size ≤ 1048576 := Nat.le_trans (cutB_small (s := s) (by rw [h]; simp)) hs
  have kd : d.size ≤ 1048576 := Nat.le_trans (cutB_small (s := s) (by rw [h]; simp)) hs
  have hS := splitN_four s a b c d w hs hM h
  have hA := fun w => clone_str a w ka
  have hb := fun w => needNumber_t b w kb hy
  have hc := fun w => needNumber_t c w kc hz
  have hd := fun w => needNumber_f d w kd hx
  generalize valAt b b.size = vb at *
  generalize valAt c c.size = vc at *
  obtain ⟨cap, hcap⟩ : ∃ cap, cap = min 5 (s.size + 1) := ⟨_, rfl⟩
  rw [← hcap] at hS
  clear hM h hcap
  go_enter Tryz.func29, Tryz.ntmps29
  go_wp2_with fail
  refine (hS _ (one_new _)).mono ?_
  rintro e w1 ⟨rfl, hb1, k0, k1, k2, k3, hlt⟩
  have hB1 : Below w.heap.size w w1 := below_after hb1
  clear hS hb1
  go_wp2_with (first | (go_at_call 45; refine (needRecord_t _).mono ?_; rintro e w2 ⟨rfl, rfl⟩))
  rw [World.size_alloc] at k0 k1 k2 k3
  have q0 : ∀ w', Below w2.heap.size w2 w' → w'.cell? ⟨w.heap.size + 1, 0, none⟩ = some (.string a) := fun w' hb => After.cell k0 ⟨w', hb⟩
  have q1 : ∀ w', Below w2.heap.size w2 w' → w'.cell? ⟨w.heap.size + 1, 1, none⟩ = some (.string b) := fun w' hb => After.cell k1 ⟨w', hb⟩
  have q2 : ∀ w', Below w2.heap.size w2 w' → w'.cell? ⟨w.heap.size + 1, 2, none⟩ = some (.string c) := fun w' hb => After.cell k2 ⟨w', hb⟩
  have q3 : ∀ w', Below w2.heap.size w2 w' → w'.cell? ⟨w.heap.size + 1, 3, none⟩ = some (.string d) := fun w' hb => After.cell k3 ⟨w', hb⟩
  refine wp_region_held_drew (S := fun w' => Below w2.heap.size w2 w') (by kernel_rfl) ((Below.refl _ _).drew) (fun hHeld => ?_)
  refine h_take (i := 0) (d := some 11) (v := ?vc1) (by rfl) (by kernel_rfl) (by kernel_rfl) (by kernel_rfl) (fun _ _ _ h => h) (by rfl) ?hyc1 hHeld ?restc1
  case hyc1 =>
    intro o ho
    simp only [List.getElem?_toArray, List.getElem?_cons_zero, Option.some.injEq] at ho
    subst ho
    intro w' hSw
    first | (go_simp; done) | (go_simp; with_reducible rfl)
  try simp only [Act.put, List.setIfInBounds_toArray, List.set_cons_zero, List.set_cons_succ]
  refine h_take (i := 1) (d := some 12) (v := ?vc2) (by rfl) (by kernel_rfl) (by kernel_rfl) (by kernel_rfl) (fun _ _ _ h => h) (by rfl) ?hyc2 hHeld ?restc2
  case hyc2 =>
    intro o ho
    simp only [List.getElem?_toArray, List.getElem?_cons_succ, List.getElem?_cons_zero, Option.some.injEq] at ho
    subst ho
    intro w' hSw
    first | (go_simp; done) | (go_simp; with_reducible rfl)
  try simp only [Act.put, List.setIfInBounds_toArray, List.set_cons_zero, List.set_cons_succ]
  refine h_take (i := 2) (d := some 13) (v := ?vc3) (by rfl) (by kernel_rfl) (by kernel_rfl) (by kernel_rfl) (fun _ _ _ h => h) (by rfl) ?hyc3 hHeld ?restc3
  case hyc3 =>
    intro o ho
    simp only [List.getElem?_toArray, List.getElem?_cons_succ, List.getElem?_cons_zero, Option.some.injEq] at ho
    subst ho
    intro w' hSw
    first | (go_simp; done) | (go_simp; with_reducible rfl)
  try simp only [Act.put, List.setIfInBounds_toArray, List.set_cons_zero, List.set_cons_succ]
  refine h_take (i := 4) (d := some 15) (v := ?vc4) (by rfl) (by kernel_rfl) (by kernel_rfl) (by kernel_rfl) (fun _ _ _ h => h) (by rfl) ?hyc4 hHeld ?restc4
  case hyc4 =>
    intro o ho
    simp only [List.getElem?_toArray, List.getElem?_cons_succ, List.getElem?_cons_zero, Option.some.injEq] at ho
    subst ho
    intro w' hSw
    first | (go_simp; done) | (go_simp; with_reducible rfl)
  try simp only [Act.put, List.setIfInBounds_toArray, List.set_cons_zero, List.set_cons_succ]
  refine h_take (i := 5) (d := some 16) (v := ?vc5) (by rfl) (by kernel_rfl) (by kernel_rfl) (by kernel_rfl) (fun _ _ _ h => h) (by rfl) ?hyc5 hHeld ?restc5
  case hyc5 =>
    intro o ho
    simp only [List.getElem?_toArray, List.getElem?_cons_succ, List.getElem?_cons_zero, Option.some.injEq] at ho
    subst ho
    intro w' hSw
    first | (go_simp; done) | (go_simp; with_reducible rfl)
  try simp only [Act.put, List.setIfInBounds_toArray, List.set_cons_zero, List.set_cons_succ]
  refine h_take (i := 6) (d := some 17) (v := ?vc6) (by rfl) (by kernel_rfl) (by kernel_rfl) (by kernel_rfl) (fun _ _ _ h => h) (by rfl) ?hyc6 hHeld ?restc6
  case hyc6 =>
    intro o ho
    simp only [List.getElem?_toArray, List.getElem?_cons_succ, List.getElem?_cons_zero, Option.some.injEq] at ho
    subst ho
    intro w' hSw
    first | (go_simp; done) | (go_simp; with_reducible rfl)
  try simp only [Act.put, List.setIfInBounds_toArray, List.set_cons_zero, List.set_cons_succ]
  refine h_take (i := 8) (d := some 19) (v := ?vc7) (by rfl) (by kernel_rfl) (by kernel_rfl) (by kernel_rfl) (fun _ _ _ h => h) (by rfl) ?hyc7 hHeld ?restc7
  case hyc7 =>
    intro o ho
    simp only [List.getElem?_toArray, List.getElem?_cons_succ, List.getElem?_cons_zero, Option.some.injEq] at ho
    subst ho
    intro w' hSw
    first | (go_simp; done) | (go_simp; with_reducible rfl)
  try simp only [Act.put, List.setIfInBounds_toArray, List.set_cons_zero, List.set_cons_succ]
  refine h_take (i := 9) (d := some 20) (v := ?vc8) (by rfl) (by kernel_rfl) (by kernel_rfl) (by kernel_rfl) (fun _ _ _ h => h) (by rfl) ?hyc8 hHeld ?restc8
  case hyc8 =>
    intro o ho
    simp only [List.getElem?_toArray, List.getElem?_cons_succ, List.getElem?_cons_zero, Option.some.injEq] at ho
    subst ho
    intro w' hSw
    first | (go_simp; done) | (go_simp; with_reducible rfl)
  try simp only [Act.put, List.setIfInBounds_toArray, List.set_cons_zero, List.set_cons_succ]
  refine h_take (i := 10) (d := some 21) (v := ?vc9) (by rfl) (by kernel_rfl) (by kernel_rfl) (by kernel_rfl) (fun _ _ _ h => h) (by rfl) ?hyc9 hHeld ?restc9
  case hyc9 =>
    intro o ho
    simp only [List.getElem?_toArray, List.getElem?_cons_succ, List.getElem?_cons_zero, Option.some.injEq] at ho
    subst ho
    intro w' hSw
    first | (go_simp; done) | (go_simp; with_reducible rfl)
  try simp only [Act.put, List.setIfInBounds_toArray, List.set_cons_zero, List.set_cons_succ]
  refine h_take (i := 12) (d := some 23) (v := ?vc10) (by rfl) (by kernel_rfl) (by kernel_rfl) (by kernel_rfl) (fun _ _ _ h => h) (by rfl) ?hyc10 hHeld ?restc10
  case hyc10 =>
    intro o ho
    simp only [List.getElem?_toArray, List.getElem?_cons_succ, List.getElem?_cons_zero, Option.some.injEq] at ho
    subst ho
    intro w' hSw
    first | (go_simp; done) | (go_simp; with_reducible rfl)
  try simp only [Act.put, List.setIfInBounds_toArray, List.set_cons_zero, List.set_cons_succ]
  refine h_take (i := 13) (d := some 24) (v := ?vc11) (by rfl) (by kernel_rfl) (by kernel_rfl) (by kernel_rfl) (fun _ _ _ h => h) (by rfl) ?hyc11 hHeld ?restc11
  case hyc11 =>
    intro o ho
    simp only [List.getElem?_toArray, List.getElem?_cons_succ, List.getElem?_cons_zero, Option.some.injEq] at ho
    subst ho
    intro w' hSw
    first | (go_simp; done) | (go_simp; with_reducible rfl)
  try simp only [Act.put, List.setIfInBounds_toArray, List.set_cons_zero, List.set_cons_succ]
  refine h_take (i := 14) (d := some 25) (v := ?vc12) (by rfl) (by kernel_rfl) (by kernel_rfl) (by kernel_rfl) (fun _ _ _ h => h) (by rfl) ?hyc12 hHeld ?restc12
  case hyc12 =>
    intro o ho
    simp only [List.getElem?_toArray, List.getElem?_cons_succ, List.getElem?_cons_zero, Option.some.injEq] at ho
    subst ho
    intro w' hSw
    first | (go_simp; done) | (go_simp; with_reducible rfl)
  try simp only [Act.put, List.setIfInBounds_toArray, List.set_cons_zero, List.set_cons_succ]
  refine wpAnyH_ready (rs := [3, 17]) (by kernel_rfl) (by simp) ?_
  refine AllReadyH.cons rfl (fun K hK => ?_) (AllReadyH.cons rfl (fun K hK => ?_) AllReadyH.nil)
  · go_simp
    refine (hA _).mono ?_
    rintro e wq ⟨rfl, hbq⟩
    refine hK.out _ _ ?_ (fun hHeld => ?_)
    · exact below_after_of hHeld hbq
    clear hK K
    try simp only [Act.put, List.setIfInBounds_toArray, List.set_cons_zero, List.set_cons_succ]
    refine wpAnyH_ready (rs := [7, 17]) (by kernel_rfl) (by simp) ?_
    refine AllReadyH.cons rfl (fun K hK => ?_) (AllReadyH.cons rfl (fun K hK => ?_) AllReadyH.nil)
    · go_simp
      refine (hb _).mono ?_
      rintro e wq ⟨rfl, hbq⟩
      refine hK.out _ _ ?_ (fun hHeld => ?_)
      · exact below_after_of hHeld hbq
      clear hK K
      try simp only [Act.put, List.setIfInBounds_toArray, List.set_cons_zero, List.set_cons_succ]
      refine wpAnyH_ready (rs := [11, 17]) (by kernel_rfl) (by simp) ?_
      refine AllReadyH.cons rfl (fun K hK => ?_) (AllReadyH.cons rfl (fun K hK => ?_) AllReadyH.nil)
      · go_simp
        refine (hc _).mono ?_
        rintro e wq ⟨rfl, hbq⟩
        refine hK.out _ _ ?_ (fun hHeld => ?_)
        · exact below_after_of hHeld hbq
        clear hK K
        try simp only [Act.put, List.setIfInBounds_toArray, List.set_cons_zero, List.set_cons_succ]
        refine wpAnyH_ready (rs := [15, 17]) (by kernel_rfl) (by simp) ?_
        refine AllReadyH.cons rfl (fun K hK => ?_) (AllReadyH.cons rfl (fun K hK => ?_) AllReadyH.nil)
        · go_simp
          refine (hd _).mono ?_
          rintro e wq ⟨rfl, hbq⟩
          exact ⟨rfl, rfl, below_after_of hB1 (below_after_of hHeld hbq)⟩
        · go_simp
          refine hK.out _ _ ?_ (fun hHeld => ?_)
          · exact below_after_of hHeld (one_new _)
          clear hK K
          try simp only [Act.put, List.setIfInBounds_toArray, List.set_cons_zero, List.set_cons_succ]
          refine wpAnyH_ready (rs := [15]) (by kernel_rfl) (by simp) ?_
          refine AllReadyH.cons rfl (fun K hK => ?_) AllReadyH.nil
          · go_simp
            refine (hd _).mono ?_
            rintro e wq ⟨rfl, hbq⟩
            exact ⟨rfl, rfl, below_after_of hB1 (below_after_of hHeld hbq)⟩
      · go_simp
        refine hK.out _ _ ?_ (fun hHeld => ?_)
        · exact below_after_of hHeld (one_new _)
        clear hK K
        try simp only [Act.put, List.setIfInBounds_toArray, List.set_cons_zero, List.set_cons_succ]
        refine wpAnyH_ready (rs := [11]) (by kernel_rfl) (by simp) ?_
        refine AllReadyH.cons rfl (fun K hK => ?_) AllReadyH.nil
        · go_simp
          refine (hc _).mono ?_
          rintro e wq ⟨rfl, hbq⟩
          refine hK.out _ _ ?_ (fun hHeld => ?_)
          · exact below_after_of hHeld hbq
          clear hK K
          try simp only [Act.put, List.setIfInBounds_toArray, List.set_cons_zero, List.set_cons_succ]
          refine wpAnyH_ready (rs := [15]) (by kernel_rfl) (by simp) ?_
          refine AllReadyH.cons rfl (fun K hK => ?_) AllReadyH.nil
          · go_simp
            refine (hd _).mono ?_
            rintro e wq ⟨rfl, hbq⟩
            exact ⟨rfl, rfl, below_after_of hB1 (below_after_of hHeld hbq)⟩
    · go_simp
      refine hK.out _ _ ?_ (fun hHeld => ?_)
      · exact below_after_of hHeld (one_new _)
      clear hK K
      try simp only [Act.put, List.setIfInBounds_toArray, List.set_cons_zero, List.set_cons_succ]
      refine wpAnyH_ready (rs := [7]) (by kernel_rfl) (by simp) ?_
      refine AllReadyH.cons rfl (fun K hK => ?_) AllReadyH.nil
      · go_simp
        refine (hb _).mono ?_
        rintro e wq ⟨rfl, hbq⟩
        refine hK.out _ _ ?_ (fun hHeld => ?_)
        · exact below_after_of hHeld hbq
        clear hK K
        try simp only [Act.put, List.setIfInBounds_toArray, List.set_cons_zero, List.set_cons_succ]
        refine wpAnyH_ready (rs := [11]) (by kernel_rfl) (by simp) ?_
        refine AllReadyH.cons rfl (fun K hK => ?_) AllReadyH.nil
        · go_simp
          refine (hc _).mono ?_
          rintro e wq ⟨rfl, hbq⟩
          refine hK.out _ _ ?_ (fun hHeld => ?_)
          · exact below_after_of hHeld hbq
          clear hK K
          try simp only [Act.put, List.setIfInBounds_toArray, List.set_cons_zero, List.set_cons_succ]
          refine wpAnyH_ready (rs := [15]) (by kernel_rfl) (by simp) ?_
          refine AllReadyH.cons rfl (fun K hK => ?_) AllReadyH.nil
          · go_simp
            refine (hd _).mono ?_
            rintro e wq ⟨rfl, hbq⟩
            exact ⟨rfl, rfl, below_after_of hB1 (below_after_of hHeld hbq)⟩
  · go_simp
    refine hK.out _ _ ?_ (fun hHeld => ?_)
    · exact below_after_of hHeld (one_new _)
    clear hK K
    try simp only [Act.put, List.setIfInBounds_toArray, List.set_cons_zero, List.set_cons_succ]
    refine wpAnyH_ready (rs := [3]) (by kernel_rfl) (by simp) ?_
    refine AllReadyH.cons rfl (fun K hK => ?_) AllReadyH.nil
    · go_simp
      refine (hA _).mono ?_
      rintro e wq ⟨rfl, hbq⟩
      refine hK.out _ _ ?_ (fun hHeld => ?_)
      · exact below_after_of hHeld hbq
      clear hK K
      try simp only [Act.put, List.setIfInBounds_toArray, List.set_cons_zero, List.set_cons_succ]
      refine wpAnyH_ready (rs := [7]) (by kernel_rfl) (by simp) ?_
      refine AllReadyH.cons rfl (fun K hK => ?_) AllReadyH.nil
      · go_simp
        refine (hb _).mono ?_
        rintro e wq ⟨rfl, hbq⟩
        refine hK.out _ _ ?_ (fun hHeld => ?_)
        · exact below_after_of hHeld hbq
        clear hK K
        try simp only [Act.put, List.setIfInBounds_toArray, List.set_cons_zero, List.set_cons_succ]
        refine wpAnyH_ready (rs := [11]) (by kernel_rfl) (by simp) ?_
        refine AllReadyH.cons rfl (fun K hK => ?_) AllReadyH.nil
        · go_simp
          refine (hc _).mono ?_
          rintro e wq ⟨rfl, hbq⟩
          refine hK.out _ _ ?_ (fun hHeld => ?_)
          · exact below_after_of hHeld hbq
          clear hK K
          try simp only [Act.put, List.setIfInBounds_toArray, List.set_cons_zero, List.set_cons_succ]
          refine wpAnyH_ready (rs := [15]) (by kernel_rfl) (by simp) ?_
          refine AllReadyH.cons rfl (fun K hK => ?_) AllReadyH.nil
          · go_simp
            refine (hd _).mono ?_
            rintro e wq ⟨rfl, hbq⟩
            exact ⟨rfl, rfl, below_after_of hB1 (below_after_of hHeld hbq)⟩
set_option maxRecDepth 100000 in
set_option maxHeartbeats 8000000 in
theorem recordOfText_good (s a b c d : ByteArray) (w : World) (hs : s.size ≤ 1048576) (hM : ∀ w', Below w.heap.size w w' → MaxIs w') (h : cutB s = [a, b, c, d]) (hy : numsB b = true) (hz : numsB c = true) (hx : numsB d = true) :
    Calls Tryz.prog 29 #[.string s] w fun e w' => (pcC a b c d = 0 ∧ e = .returned (recV a (valAt b b.size) (valAt c c.size) (valAt d d.size)) ∨ ¬ pcC a b c d = 0 ∧ e = .panicked noRec) ∧ Below w.heap.size w w' := by
  have ka : a.size ≤ 1048576 := Nat.le_trans (cutB_small (s := s) (by rw [h]; simp)) hs
  have kb : b.size ≤ 1048576 := Nat.le_trans (cutB_small (s := s) (by rw [h]; simp)) hs
  have kc : c.size ≤ 1048576 := Nat.le_trans (cutB_small (s := s) (by rw [h]; simp)) hs
  have kd : d.size ≤ 1048576 := Nat.le_trans (cutB_small (s := s) (by rw [h]; simp)) hs
  have hS := splitN_four s a b c d w hs hM h
  have hA := fun w => clone_str a w ka
  have hb := fun w => needNumber_t b w kb hy
  have hc := fun w => needNumber_t c w kc hz
  have hd := fun w => needNumber_t d w kd hx
  have HC : Hid (pcC a b c d = recC a (valAt b b.size) (valAt c c.size) (valAt d d.size)) := by show pcC a b c d = _; unfold pcC; rw [numP_t hy, numP_t hz, numP_t hx]
  generalize pcC a b c d = rc at *
  generalize valAt b b.size = vb at *
  generalize valAt c c.size = vc at *
  generalize valAt d d.size = vd at *
  obtain ⟨cap, hcap⟩ : ∃ cap, cap = min 5 (s.size + 1) := ⟨_, rfl⟩
  rw [← hcap] at hS
  clear hM h hcap
  go_enter Tryz.func29, Tryz.ntmps29
  go_wp2_with fail
  refine (hS _ (one_new _)).mono ?_
  rintro e w1 ⟨rfl, hb1, k0, k1, k2, k3, hlt⟩
  have hB1 : Below w.heap.size w w1 := below_after hb1
  have R0 := (ro_of_heap (t := 26) (heap_alloc_new w _)).belowB hb1 (by simp)
  rw [World.size_alloc] at hlt
  clear hS hb1
  go_wp2_with (first | (go_at_call 45; refine (needRecord_t _).mono ?_; rintro e w2 ⟨rfl, rfl⟩))
  rw [World.size_alloc] at k0 k1 k2 k3
  have q0 : ∀ w', Below w2.heap.size w2 w' → w'.cell? ⟨w.heap.size + 1, 0, none⟩ = some (.string a) := fun w' hb => After.cell k0 ⟨w', hb⟩
  have q1 : ∀ w', Below w2.heap.size w2 w' → w'.cell? ⟨w.heap.size + 1, 1, none⟩ = some (.string b) := fun w' hb => After.cell k1 ⟨w', hb⟩
  have q2 : ∀ w', Below w2.heap.size w2 w' → w'.cell? ⟨w.heap.size + 1, 2, none⟩ = some (.string c) := fun w' hb => After.cell k2 ⟨w', hb⟩
  have q3 : ∀ w', Below w2.heap.size w2 w' → w'.cell? ⟨w.heap.size + 1, 3, none⟩ = some (.string d) := fun w' hb => After.cell k3 ⟨w', hb⟩
  refine Code.wp_mono (Q := fun e a' w' => e = Exit.normal ∧ ∃ g : Nat, a' = { tmps := #[.string s, undef, .pointer (some ⟨w.heap.size, 0, none⟩), (.slice (some ⟨w.heap.size + 1, 0, none⟩) 4 cap), .pointer (some ⟨g, 0, none⟩), .string s, (.slice (some ⟨w.heap.size + 1, 0, none⟩) 4 cap), (.slice (some ⟨w.heap.size + 1, 0, none⟩) 4 cap), .int .i64 4, .bool true, .tuple #[], (.slice (some ⟨w.heap.size + 1, 0, none⟩) 4 cap), .pointer (some ⟨w.heap.size + 1, 0, none⟩), .string a, .string a, (.slice (some ⟨w.heap.size + 1, 0, none⟩) 4 cap), .pointer (some ⟨w.heap.size + 1, 1, none⟩), .string b, .int .i64 vb, (.slice (some ⟨w.heap.size + 1, 0, none⟩) 4 cap), .pointer (some ⟨w.heap.size + 1, 2, none⟩), .string c, .int .i64 vc, (.slice (some ⟨w.heap.size + 1, 0, none⟩) 4 cap), .pointer (some ⟨w.heap.size + 1, 3, none⟩), .string d, .int .i64 vd, .agg #[.string a, .int .i64 vb, .int .i64 vc, .int .i64 vd], undef, undef, undef, undef, undef], defers := [] } ∧ RecOwn w' g a vb vc vd ∧ g < w'.heap.size ∧ Below w2.heap.size w2 w') ?tail ?reg
  case reg =>
    refine wp_region_held_drew (S := fun w' => Below w2.heap.size w2 w') (by kernel_rfl) ((Below.refl _ _).drew) (fun hHeld => ?_)
    refine h_take (i := 0) (d := some 11) (v := ?vg1) (by rfl) (by kernel_rfl) (by kernel_rfl) (by kernel_rfl) (fun _ _ _ h => (by cases h.1)) (by rfl) ?hyg1 hHeld ?restg1
    case hyg1 =>
      intro o ho
      simp only [List.getElem?_toArray, List.getElem?_cons_zero, Option.some.injEq] at ho
      subst ho
      intro w' hSw
      first | (go_simp; done) | (go_simp; with_reducible rfl)
    try simp only [Act.put, List.setIfInBounds_toArray, List.set_cons_zero, List.set_cons_succ]
    refine h_take (i := 1) (d := some 12) (v := ?vg2) (by rfl) (by kernel_rfl) (by kernel_rfl) (by kernel_rfl) (fun _ _ _ h => (by cases h.1)) (by rfl) ?hyg2 hHeld ?restg2
    case hyg2 =>
      intro o ho
      simp only [List.getElem?_toArray, List.getElem?_cons_succ, List.getElem?_cons_zero, Option.some.injEq] at ho
      subst ho
      intro w' hSw
      first | (go_simp; done) | (go_simp; with_reducible rfl)
    try simp only [Act.put, List.setIfInBounds_toArray, List.set_cons_zero, List.set_cons_succ]
    refine h_take (i := 2) (d := some 13) (v := ?vg3) (by rfl) (by kernel_rfl) (by kernel_rfl) (by kernel_rfl) (fun _ _ _ h => (by cases h.1)) (by rfl) ?hyg3 hHeld ?restg3
    case hyg3 =>
      intro o ho
      simp only [List.getElem?_toArray, List.getElem?_cons_succ, List.getElem?_cons_zero, Option.some.injEq] at ho
      subst ho
      intro w' hSw
      first | (go_simp; done) | (go_simp; with_reducible rfl)
    try simp only [Act.put, List.setIfInBounds_toArray, List.set_cons_zero, List.set_cons_succ]
    refine h_take (i := 4) (d := some 15) (v := ?vg4) (by rfl) (by kernel_rfl) (by kernel_rfl) (by kernel_rfl) (fun _ _ _ h => (by cases h.1)) (by rfl) ?hyg4 hHeld ?restg4
    case hyg4 =>
      intro o ho
      simp only [List.getElem?_toArray, List.getElem?_cons_succ, List.getElem?_cons_zero, Option.some.injEq] at ho
      subst ho
      intro w' hSw
      first | (go_simp; done) | (go_simp; with_reducible rfl)
    try simp only [Act.put, List.setIfInBounds_toArray, List.set_cons_zero, List.set_cons_succ]
    refine h_take (i := 5) (d := some 16) (v := ?vg5) (by rfl) (by kernel_rfl) (by kernel_rfl) (by kernel_rfl) (fun _ _ _ h => (by cases h.1)) (by rfl) ?hyg5 hHeld ?restg5
    case hyg5 =>
      intro o ho
      simp only [List.getElem?_toArray, List.getElem?_cons_succ, List.getElem?_cons_zero, Option.some.injEq] at ho
      subst ho
      intro w' hSw
      first | (go_simp; done) | (go_simp; with_reducible rfl)
    try simp only [Act.put, List.setIfInBounds_toArray, List.set_cons_zero, List.set_cons_succ]
    refine h_take (i := 6) (d := some 17) (v := ?vg6) (by rfl) (by kernel_rfl) (by kernel_rfl) (by kernel_rfl) (fun _ _ _ h => (by cases h.1)) (by rfl) ?hyg6 hHeld ?restg6
    case hyg6 =>
      intro o ho
      simp only [List.getElem?_toArray, List.getElem?_cons_succ, List.getElem?_cons_zero, Option.some.injEq] at ho
      subst ho
      intro w' hSw
      first | (go_simp; done) | (go_simp; with_reducible rfl)
    try simp only [Act.put, List.setIfInBounds_toArray, List.set_cons_zero, List.set_cons_succ]
    refine h_take (i := 8) (d := some 19) (v := ?vg7) (by rfl) (by kernel_rfl) (by kernel_rfl) (by kernel_rfl) (fun _ _ _ h => (by cases h.1)) (by rfl) ?hyg7 hHeld ?restg7
    case hyg7 =>
      intro o ho
      simp only [List.getElem?_toArray, List.getElem?_cons_succ, List.getElem?_cons_zero, Option.some.injEq] at ho
      subst ho
      intro w' hSw
      first | (go_simp; done) | (go_simp; with_reducible rfl)
    try simp only [Act.put, List.setIfInBounds_toArray, List.set_cons_zero, List.set_cons_succ]
    refine h_take (i := 9) (d := some 20) (v := ?vg8) (by rfl) (by kernel_rfl) (by kernel_rfl) (by kernel_rfl) (fun _ _ _ h => (by cases h.1)) (by rfl) ?hyg8 hHeld ?restg8
    case hyg8 =>
      intro o ho
      simp only [List.getElem?_toArray, List.getElem?_cons_succ, List.getElem?_cons_zero, Option.some.injEq] at ho
      subst ho
      intro w' hSw
      first | (go_simp; done) | (go_simp; with_reducible rfl)
    try simp only [Act.put, List.setIfInBounds_toArray, List.set_cons_zero, List.set_cons_succ]
    refine h_take (i := 10) (d := some 21) (v := ?vg9) (by rfl) (by kernel_rfl) (by kernel_rfl) (by kernel_rfl) (fun _ _ _ h => (by cases h.1)) (by rfl) ?hyg9 hHeld ?restg9
    case hyg9 =>
      intro o ho
      simp only [List.getElem?_toArray, List.getElem?_cons_succ, List.getElem?_cons_zero, Option.some.injEq] at ho
      subst ho
      intro w' hSw
      first | (go_simp; done) | (go_simp; with_reducible rfl)
    try simp only [Act.put, List.setIfInBounds_toArray, List.set_cons_zero, List.set_cons_succ]
    refine h_take (i := 12) (d := some 23) (v := ?vg10) (by rfl) (by kernel_rfl) (by kernel_rfl) (by kernel_rfl) (fun _ _ _ h => (by cases h.1)) (by rfl) ?hyg10 hHeld ?restg10
    case hyg10 =>
      intro o ho
      simp only [List.getElem?_toArray, List.getElem?_cons_succ, List.getElem?_cons_zero, Option.some.injEq] at ho
      subst ho
      intro w' hSw
      first | (go_simp; done) | (go_simp; with_reducible rfl)
    try simp only [Act.put, List.setIfInBounds_toArray, List.set_cons_zero, List.set_cons_succ]
    refine h_take (i := 13) (d := some 24) (v := ?vg11) (by rfl) (by kernel_rfl) (by kernel_rfl) (by kernel_rfl) (fun _ _ _ h => (by cases h.1)) (by rfl) ?hyg11 hHeld ?restg11
    case hyg11 =>
      intro o ho
      simp only [List.getElem?_toArray, List.getElem?_cons_succ, List.getElem?_cons_zero, Option.some.injEq] at ho
      subst ho
      intro w' hSw
      first | (go_simp; done) | (go_simp; with_reducible rfl)
    try simp only [Act.put, List.setIfInBounds_toArray, List.set_cons_zero, List.set_cons_succ]
    refine h_take (i := 14) (d := some 25) (v := ?vg12) (by rfl) (by kernel_rfl) (by kernel_rfl) (by kernel_rfl) (fun _ _ _ h => (by cases h.1)) (by rfl) ?hyg12 hHeld ?restg12
    case hyg12 =>
      intro o ho
      simp only [List.getElem?_toArray, List.getElem?_cons_succ, List.getElem?_cons_zero, Option.some.injEq] at ho
      subst ho
      intro w' hSw
      first | (go_simp; done) | (go_simp; with_reducible rfl)
    try simp only [Act.put, List.setIfInBounds_toArray, List.set_cons_zero, List.set_cons_succ]
    refine wpAnyH_ready (rs := [3, 17]) (by kernel_rfl) (by simp) ?_
    refine AllReadyH.cons rfl (fun K hK => ?_) (AllReadyH.cons rfl (fun K hK => ?_) AllReadyH.nil)
    · go_simp
      refine (hA _).mono ?_
      rintro e wq ⟨rfl, hbq⟩
      have hq := below_after_of hHeld hbq
      try (have G := G.below hbq)
      refine hK.out _ _ ?_ (fun hHeld => ?_)
      · exact hq
      clear hK K
      try simp only [Act.put, List.setIfInBounds_toArray, List.set_cons_zero, List.set_cons_succ]
      refine wpAnyH_ready (rs := [7, 17]) (by kernel_rfl) (by simp) ?_
      refine AllReadyH.cons rfl (fun K hK => ?_) (AllReadyH.cons rfl (fun K hK => ?_) AllReadyH.nil)
      · go_simp
        refine (hb _).mono ?_
        rintro e wq ⟨rfl, hbq⟩
        have hq := below_after_of hHeld hbq
        try (have G := G.below hbq)
        refine hK.out _ _ ?_ (fun hHeld => ?_)
        · exact hq
        clear hK K
        try simp only [Act.put, List.setIfInBounds_toArray, List.set_cons_zero, List.set_cons_succ]
        refine wpAnyH_ready (rs := [11, 17]) (by kernel_rfl) (by simp) ?_
        refine AllReadyH.cons rfl (fun K hK => ?_) (AllReadyH.cons rfl (fun K hK => ?_) AllReadyH.nil)
        · go_simp
          refine (hc _).mono ?_
          rintro e wq ⟨rfl, hbq⟩
          have hq := below_after_of hHeld hbq
          try (have G := G.below hbq)
          refine hK.out _ _ ?_ (fun hHeld => ?_)
          · exact hq
          clear hK K
          try simp only [Act.put, List.setIfInBounds_toArray, List.set_cons_zero, List.set_cons_succ]
          refine wpAnyH_ready (rs := [15, 17]) (by kernel_rfl) (by simp) ?_
          refine AllReadyH.cons rfl (fun K hK => ?_) (AllReadyH.cons rfl (fun K hK => ?_) AllReadyH.nil)
          · go_simp
            refine (hd _).mono ?_
            rintro e wq ⟨rfl, hbq⟩
            have hq := below_after_of hHeld hbq
            try (have G := G.below hbq)
            refine hK.out _ _ ?_ (fun hHeld => ?_)
            · exact hq
            clear hK K
            try simp only [Act.put, List.setIfInBounds_toArray, List.set_cons_zero, List.set_cons_succ]
            refine h_take (i := 16) (d := some 27) (v := ?vg13) (by rfl) (by kernel_rfl) (by kernel_rfl) (by kernel_rfl) (fun _ _ _ h => (by cases h.1)) (by rfl) ?hyg13 hHeld ?restg13
            case hyg13 =>
              intro o ho
              simp only [List.getElem?_toArray, List.getElem?_cons_succ, List.getElem?_cons_zero, Option.some.injEq] at ho
              subst ho
              intro w' hSw
              first | (go_simp; done) | (go_simp; with_reducible rfl)
            try simp only [Act.put, List.setIfInBounds_toArray, List.set_cons_zero, List.set_cons_succ]
            refine wpAnyH_ready (rs := [17]) (by kernel_rfl) (by simp) ?_
            refine AllReadyH.cons rfl (fun K hK => ?_) AllReadyH.nil
            · go_simp
              first | (have G := RecIn.new wq; have hgg : w2.heap.size ≤ wq.heap.size := hq.size) | (have G := (RecIn.new w2).drew; have hgg : w2.heap.size ≤ w2.heap.size := Nat.le_refl _)
              refine hK.out _ _ ?_ (fun hHeld => ?_)
              · exact below_after_of hHeld (one_new _)
              clear hK K
              try simp only [Act.put, List.setIfInBounds_toArray, List.set_cons_zero, List.set_cons_succ]
              have ⟨⟨⟨x0, x1, x2, x3⟩, u0, u1, u2, u3⟩, hgl⟩ := G
              refine wpAnyH_ready (rs := [18]) (by kernel_rfl) (by simp) ?_
              refine AllReadyH.cons rfl (fun K hK => ?_) AllReadyH.nil
              go_simp
              refine hK.out _ _ ?_ (fun hHeld => ?_)
              · first | exact ((((hHeld.setCell hgg _).setCell hgg _).setCell hgg _).setCell hgg _) | exact below_after_of hq (one_new _)
              clear hK K
              try simp only [Act.put, List.setIfInBounds_toArray, List.set_cons_zero, List.set_cons_succ]
              refine wpAnyH_done (by kernel_rfl) ?_ _
              refine ⟨rfl, _, rfl, ?_, ?_, hHeld⟩
              · first | exact ro_set G.toRecOwn | exact ro_of_heap (t := 26) (heap_alloc_new wq _)
              · first | exact hgl | (simp; done) | (simp; omega)
          · go_simp
            first | (have G := RecIn.new wq; have hgg : w2.heap.size ≤ wq.heap.size := hq.size) | (have G := (RecIn.new w2).drew; have hgg : w2.heap.size ≤ w2.heap.size := Nat.le_refl _)
            refine hK.out _ _ ?_ (fun hHeld => ?_)
            · exact below_after_of hHeld (one_new _)
            clear hK K
            try simp only [Act.put, List.setIfInBounds_toArray, List.set_cons_zero, List.set_cons_succ]
            refine wpAnyH_ready (rs := [15]) (by kernel_rfl) (by simp) ?_
            refine AllReadyH.cons rfl (fun K hK => ?_) AllReadyH.nil
            · go_simp
              refine (hd _).mono ?_
              rintro e wq ⟨rfl, hbq⟩
              have hq := below_after_of hHeld hbq
              try (have G := G.below hbq)
              refine hK.out _ _ ?_ (fun hHeld => ?_)
              · exact hq
              clear hK K
              try simp only [Act.put, List.setIfInBounds_toArray, List.set_cons_zero, List.set_cons_succ]
              refine h_take (i := 16) (d := some 27) (v := ?vg14) (by rfl) (by kernel_rfl) (by kernel_rfl) (by kernel_rfl) (fun _ _ _ h => (by cases h.1)) (by rfl) ?hyg14 hHeld ?restg14
              case hyg14 =>
                intro o ho
                simp only [List.getElem?_toArray, List.getElem?_cons_succ, List.getElem?_cons_zero, Option.some.injEq] at ho
                subst ho
                intro w' hSw
                first | (go_simp; done) | (go_simp; with_reducible rfl)
              try simp only [Act.put, List.setIfInBounds_toArray, List.set_cons_zero, List.set_cons_succ]
              have ⟨⟨⟨x0, x1, x2, x3⟩, u0, u1, u2, u3⟩, hgl⟩ := G
              refine wpAnyH_ready (rs := [18]) (by kernel_rfl) (by simp) ?_
              refine AllReadyH.cons rfl (fun K hK => ?_) AllReadyH.nil
              go_simp
              refine hK.out _ _ ?_ (fun hHeld => ?_)
              · first | exact ((((hHeld.setCell hgg _).setCell hgg _).setCell hgg _).setCell hgg _) | exact below_after_of hq (one_new _)
              clear hK K
              try simp only [Act.put, List.setIfInBounds_toArray, List.set_cons_zero, List.set_cons_succ]
              refine wpAnyH_done (by kernel_rfl) ?_ _
              refine ⟨rfl, _, rfl, ?_, ?_, hHeld⟩
              · first | exact ro_set G.toRecOwn | exact ro_of_heap (t := 26) (heap_alloc_new wq _)
              · first | exact hgl | (simp; done) | (simp; omega)
        · go_simp
          first | (have G := RecIn.new wq; have hgg : w2.heap.size ≤ wq.heap.size := hq.size) | (have G := (RecIn.new w2).drew; have hgg : w2.heap.size ≤ w2.heap.size := Nat.le_refl _)
          refine hK.out _ _ ?_ (fun hHeld => ?_)
          · exact below_after_of hHeld (one_new _)
          clear hK K
          try simp only [Act.put, List.setIfInBounds_toArray, List.set_cons_zero, List.set_cons_succ]
          refine wpAnyH_ready (rs := [11]) (by kernel_rfl) (by simp) ?_
          refine AllReadyH.cons rfl (fun K hK => ?_) AllReadyH.nil
          · go_simp
            refine (hc _).mono ?_
            rintro e wq ⟨rfl, hbq⟩
            have hq := below_after_of hHeld hbq
            try (have G := G.below hbq)
            refine hK.out _ _ ?_ (fun hHeld => ?_)
            · exact hq
            clear hK K
            try simp only [Act.put, List.setIfInBounds_toArray, List.set_cons_zero, List.set_cons_succ]
            refine wpAnyH_ready (rs := [15]) (by kernel_rfl) (by simp) ?_
            refine AllReadyH.cons rfl (fun K hK => ?_) AllReadyH.nil
            · go_simp
              refine (hd _).mono ?_
              rintro e wq ⟨rfl, hbq⟩
              have hq := below_after_of hHeld hbq
              try (have G := G.below hbq)
              refine hK.out _ _ ?_ (fun hHeld => ?_)
              · exact hq
              clear hK K
              try simp only [Act.put, List.setIfInBounds_toArray, List.set_cons_zero, List.set_cons_succ]
              refine h_take (i := 16) (d := some 27) (v := ?vg15) (by rfl) (by kernel_rfl) (by kernel_rfl) (by kernel_rfl) (fun _ _ _ h => (by cases h.1)) (by rfl) ?hyg15 hHeld ?restg15
              case hyg15 =>
                intro o ho
                simp only [List.getElem?_toArray, List.getElem?_cons_succ, List.getElem?_cons_zero, Option.some.injEq] at ho
                subst ho
                intro w' hSw
                first | (go_simp; done) | (go_simp; with_reducible rfl)
              try simp only [Act.put, List.setIfInBounds_toArray, List.set_cons_zero, List.set_cons_succ]
              have ⟨⟨⟨x0, x1, x2, x3⟩, u0, u1, u2, u3⟩, hgl⟩ := G
              refine wpAnyH_ready (rs := [18]) (by kernel_rfl) (by simp) ?_
              refine AllReadyH.cons rfl (fun K hK => ?_) AllReadyH.nil
              go_simp
              refine hK.out _ _ ?_ (fun hHeld => ?_)
              · first | exact ((((hHeld.setCell hgg _).setCell hgg _).setCell hgg _).setCell hgg _) | exact below_after_of hq (one_new _)
              clear hK K
              try simp only [Act.put, List.setIfInBounds_toArray, List.set_cons_zero, List.set_cons_succ]
              refine wpAnyH_done (by kernel_rfl) ?_ _
              refine ⟨rfl, _, rfl, ?_, ?_, hHeld⟩
              · first | exact ro_set G.toRecOwn | exact ro_of_heap (t := 26) (heap_alloc_new wq _)
              · first | exact hgl | (simp; done) | (simp; omega)
      · go_simp
        first | (have G := RecIn.new wq; have hgg : w2.heap.size ≤ wq.heap.size := hq.size) | (have G := (RecIn.new w2).drew; have hgg : w2.heap.size ≤ w2.heap.size := Nat.le_refl _)
        refine hK.out _ _ ?_ (fun hHeld => ?_)
        · exact below_after_of hHeld (one_new _)
        clear hK K
        try simp only [Act.put, List.setIfInBounds_toArray, List.set_cons_zero, List.set_cons_succ]
        refine wpAnyH_ready (rs := [7]) (by kernel_rfl) (by simp) ?_
        refine AllReadyH.cons rfl (fun K hK => ?_) AllReadyH.nil
        · go_simp
          refine (hb _).mono ?_
          rintro e wq ⟨rfl, hbq⟩
          have hq := below_after_of hHeld hbq
          try (have G := G.below hbq)
          refine hK.out _ _ ?_ (fun hHeld => ?_)
          · exact hq
          clear hK K
          try simp only [Act.put, List.setIfInBounds_toArray, List.set_cons_zero, List.set_cons_succ]
          refine wpAnyH_ready (rs := [11]) (by kernel_rfl) (by simp) ?_
          refine AllReadyH.cons rfl (fun K hK => ?_) AllReadyH.nil
          · go_simp
            refine (hc _).mono ?_
            rintro e wq ⟨rfl, hbq⟩
            have hq := below_after_of hHeld hbq
            try (have G := G.below hbq)
            refine hK.out _ _ ?_ (fun hHeld => ?_)
            · exact hq
            clear hK K
            try simp only [Act.put, List.setIfInBounds_toArray, List.set_cons_zero, List.set_cons_succ]
            refine wpAnyH_ready (rs := [15]) (by kernel_rfl) (by simp) ?_
            refine AllReadyH.cons rfl (fun K hK => ?_) AllReadyH.nil
            · go_simp
              refine (hd _).mono ?_
              rintro e wq ⟨rfl, hbq⟩
              have hq := below_after_of hHeld hbq
              try (have G := G.below hbq)
              refine hK.out _ _ ?_ (fun hHeld => ?_)
              · exact hq
              clear hK K
              try simp only [Act.put, List.setIfInBounds_toArray, List.set_cons_zero, List.set_cons_succ]
              refine h_take (i := 16) (d := some 27) (v := ?vg16) (by rfl) (by kernel_rfl) (by kernel_rfl) (by kernel_rfl) (fun _ _ _ h => (by cases h.1)) (by rfl) ?hyg16 hHeld ?restg16
              case hyg16 =>
                intro o ho
                simp only [List.getElem?_toArray, List.getElem?_cons_succ, List.getElem?_cons_zero, Option.some.injEq] at ho
                subst ho
                intro w' hSw
                first | (go_simp; done) | (go_simp; with_reducible rfl)
              try simp only [Act.put, List.setIfInBounds_toArray, List.set_cons_zero, List.set_cons_succ]
              have ⟨⟨⟨x0, x1, x2, x3⟩, u0, u1, u2, u3⟩, hgl⟩ := G
              refine wpAnyH_ready (rs := [18]) (by kernel_rfl) (by simp) ?_
              refine AllReadyH.cons rfl (fun K hK => ?_) AllReadyH.nil
              go_simp
              refine hK.out _ _ ?_ (fun hHeld => ?_)
              · first | exact ((((hHeld.setCell hgg _).setCell hgg _).setCell hgg _).setCell hgg _) | exact below_after_of hq (one_new _)
              clear hK K
              try simp only [Act.put, List.setIfInBounds_toArray, List.set_cons_zero, List.set_cons_succ]
              refine wpAnyH_done (by kernel_rfl) ?_ _
              refine ⟨rfl, _, rfl, ?_, ?_, hHeld⟩
              · first | exact ro_set G.toRecOwn | exact ro_of_heap (t := 26) (heap_alloc_new wq _)
              · first | exact hgl | (simp; done) | (simp; omega)
    · go_simp
      first | (have G := RecIn.new wq; have hgg : w2.heap.size ≤ wq.heap.size := hq.size) | (have G := (RecIn.new w2).drew; have hgg : w2.heap.size ≤ w2.heap.size := Nat.le_refl _)
      refine hK.out _ _ ?_ (fun hHeld => ?_)
      · exact below_after_of hHeld (one_new _)
      clear hK K
      try simp only [Act.put, List.setIfInBounds_toArray, List.set_cons_zero, List.set_cons_succ]
      refine wpAnyH_ready (rs := [3]) (by kernel_rfl) (by simp) ?_
      refine AllReadyH.cons rfl (fun K hK => ?_) AllReadyH.nil
      · go_simp
        refine (hA _).mono ?_
        rintro e wq ⟨rfl, hbq⟩
        have hq := below_after_of hHeld hbq
        try (have G := G.below hbq)
        refine hK.out _ _ ?_ (fun hHeld => ?_)
        · exact hq
        clear hK K
        try simp only [Act.put, List.setIfInBounds_toArray, List.set_cons_zero, List.set_cons_succ]
        refine wpAnyH_ready (rs := [7]) (by kernel_rfl) (by simp) ?_
        refine AllReadyH.cons rfl (fun K hK => ?_) AllReadyH.nil
        · go_simp
          refine (hb _).mono ?_
          rintro e wq ⟨rfl, hbq⟩
          have hq := below_after_of hHeld hbq
          try (have G := G.below hbq)
          refine hK.out _ _ ?_ (fun hHeld => ?_)
          · exact hq
          clear hK K
          try simp only [Act.put, List.setIfInBounds_toArray, List.set_cons_zero, List.set_cons_succ]
          refine wpAnyH_ready (rs := [11]) (by kernel_rfl) (by simp) ?_
          refine AllReadyH.cons rfl (fun K hK => ?_) AllReadyH.nil
          · go_simp
            refine (hc _).mono ?_
            rintro e wq ⟨rfl, hbq⟩
            have hq := below_after_of hHeld hbq
            try (have G := G.below hbq)
            refine hK.out _ _ ?_ (fun hHeld => ?_)
            · exact hq
            clear hK K
            try simp only [Act.put, List.setIfInBounds_toArray, List.set_cons_zero, List.set_cons_succ]
            refine wpAnyH_ready (rs := [15]) (by kernel_rfl) (by simp) ?_
            refine AllReadyH.cons rfl (fun K hK => ?_) AllReadyH.nil
            · go_simp
              refine (hd _).mono ?_
              rintro e wq ⟨rfl, hbq⟩
              have hq := below_after_of hHeld hbq
              try (have G := G.below hbq)
              refine hK.out _ _ ?_ (fun hHeld => ?_)
              · exact hq
              clear hK K
              try simp only [Act.put, List.setIfInBounds_toArray, List.set_cons_zero, List.set_cons_succ]
              refine h_take (i := 16) (d := some 27) (v := ?vg17) (by rfl) (by kernel_rfl) (by kernel_rfl) (by kernel_rfl) (fun _ _ _ h => (by cases h.1)) (by rfl) ?hyg17 hHeld ?restg17
              case hyg17 =>
                intro o ho
                simp only [List.getElem?_toArray, List.getElem?_cons_succ, List.getElem?_cons_zero, Option.some.injEq] at ho
                subst ho
                intro w' hSw
                first | (go_simp; done) | (go_simp; with_reducible rfl)
              try simp only [Act.put, List.setIfInBounds_toArray, List.set_cons_zero, List.set_cons_succ]
              have ⟨⟨⟨x0, x1, x2, x3⟩, u0, u1, u2, u3⟩, hgl⟩ := G
              refine wpAnyH_ready (rs := [18]) (by kernel_rfl) (by simp) ?_
              refine AllReadyH.cons rfl (fun K hK => ?_) AllReadyH.nil
              go_simp
              refine hK.out _ _ ?_ (fun hHeld => ?_)
              · first | exact ((((hHeld.setCell hgg _).setCell hgg _).setCell hgg _).setCell hgg _) | exact below_after_of hq (one_new _)
              clear hK K
              try simp only [Act.put, List.setIfInBounds_toArray, List.set_cons_zero, List.set_cons_succ]
              refine wpAnyH_done (by kernel_rfl) ?_ _
              refine ⟨rfl, _, rfl, ?_, ?_, hHeld⟩
              · first | exact ro_set G.toRecOwn | exact ro_of_heap (t := 26) (heap_alloc_new wq _)
              · first | exact hgl | (simp; done) | (simp; omega)
  rintro _ _ W ⟨rfl, g, rfl, R1, hgW, hbW⟩
  have hF := fun (w' : World) => implRecordFault_any a vb vc vd w' ka
  rw [← HC.out] at hF
  unfold recV at hF
  have ⟨⟨a0, a1, a2, a3⟩, _, _, _, _⟩ := R1
  have R2 := R0.belowB hbW (by omega)
  have hBW := below_after_of hB1 hbW
  have hzW : w.heap.size < W.heap.size := by have := hbW.size; omega
  clear q0 q1 q2 q3 k0 k1 k2 k3 hA hb hc hd R0 hbW
  go_wp2_with fail
  refine (hF _).mono ?_
  rintro e wq ⟨rfl, hbq⟩
  have ⟨⟨b0, b1, b2, b3⟩, _, _, _, _⟩ := R1.belowB hbq hgW
  have ⟨⟨x0, x1, x2, x3⟩, u0, u1, u2, u3⟩ := R2.belowB hbq hzW
  have hB9 := below_after_of hBW hbq
  by_cases h0 : rc = 0
  · have h3 : (rc == 0) = true := by simp [h0]
    have ⟨⟨v0, v1, v2, v3⟩, _, _, _, _⟩ := ro_set (l := a) (v := vb) (o := vc) (p := vd) (RecOwn.mk (RecAt.mk x0 x1 x2 x3) u0 u1 u2 u3)
    have H0 : Hid (rc = 0) := h0
    clear h0 hF R1 R2 hbq
    go_wp2_with fail
    refine (needRecord_t _).mono ?_
    rintro e w9 ⟨rfl, rfl⟩
    go_wp2
    exact bodyPost_ret (v := recV a vb vc vd) (by simp [results, Tryz.results29, go_sem, recV, v0, v1, v2, v3]) rfl ⟨Or.inl ⟨H0.out, rfl⟩, (((hB9.setCell (Nat.le_refl _) _).setCell (Nat.le_refl _) _).setCell (Nat.le_refl _) _).setCell (Nat.le_refl _) _⟩
  · have h3 : (rc == 0) = false := by simp [h0]
    have H0 : Hid (¬ rc = 0) := h0
    clear h0 hF R1 R2 hbq
    go_wp2_with fail
    refine (needRecord_f _).mono ?_
    rintro e w9 ⟨rfl, rfl⟩
    go_wp2
    exact ⟨rfl, Or.inr ⟨H0.out, rfl⟩, hB9⟩
end U
end Go.Proofs.YtffoogkojncooaaGreatDoor
