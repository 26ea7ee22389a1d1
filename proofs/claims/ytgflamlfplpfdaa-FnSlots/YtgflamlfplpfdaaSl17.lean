/- PutSlot, by the program: every way. -/
import Derived.Test.YtgflamlfplpfdaaSl16
import Derived.Test.YtgflamlfplpfdaaSl10
namespace Go.Proofs.Ytgflamlfplpfdaa
open Go.RowKit
namespace U
set_option maxRecDepth 100000 in
set_option maxHeartbeats 4000000 in
theorem implPutSlot_full (bk off c i : Nat) (sk sv : Int) (w : World) (hnc : 12 ≤ c) (hin : i ≤ 12)
    (hF : ∀ w', Below w.heap.size w w' → Calls Try.prog 19 #[.slice (some ⟨bk, off, none⟩) 12 c] w' fun e w'' => e = .returned (.int .i64 0) ∧ Below w'.heap.size w' w'')
    (hS : ∀ w', Calls Try.prog 61 #[.agg #[.int .i64 sk, .int .i64 sv]] w' fun e w'' => e = .returned (.bool true) ∧ Below w'.heap.size w' w'')
    (hP : ∀ w', Below w.heap.size w w' → Calls Try.prog 62 #[.slice (some ⟨bk, off, none⟩) 12 c, .int .i64 sk] w' fun e w'' => e = .returned (.tuple #[.int .i64 (i : Nat), .bool false]) ∧ Below w'.heap.size w' w'') :
    Calls Try.prog 13 #[.slice (some ⟨bk, off, none⟩) 12 c, .agg #[.int .i64 sk, .int .i64 sv]] w fun e w' => SlotsAns w 11 [] e w' := by
  have hin2 : (i : Int) ≤ 12 := by omega
  have hic : (i : Int) ≤ (c : Int) := by omega
  have hnc2 : (12 : Int) ≤ (c : Int) := by omega
  go_enter Try.func13, Try.ntmps13
  go_wp2_with fail
  refine (hF _ (two_new _ _)).mono ?_
  rintro e w1 ⟨rfl, hb1⟩
  obtain ⟨hB1, s0, s1, -, -⟩ := box_cells hb1
  have HB1 : Hid (Below ((w.alloc (.cells #[.int .i64 sk, .int .i64 sv] 26)).alloc (.cells #[.int .i64 0, .slice none 0 0] 30)).heap.size ((w.alloc (.cells #[.int .i64 sk, .int .i64 sv] 26)).alloc (.cells #[.int .i64 0, .slice none 0 0] 30)) w1) := hb1
  clear hF hB1 hb1
  go_wp2_with fail
  refine (hS _).mono ?_
  rintro e w1b ⟨rfl, hbx⟩
  have hb1 := below_after_of HB1.out hbx
  obtain ⟨hB1, s0, s1, -, -⟩ := box_cells hb1
  have HB1b : Hid (Below ((w.alloc (.cells #[.int .i64 sk, .int .i64 sv] 26)).alloc (.cells #[.int .i64 0, .slice none 0 0] 30)).heap.size ((w.alloc (.cells #[.int .i64 sk, .int .i64 sv] 26)).alloc (.cells #[.int .i64 0, .slice none 0 0] 30)) w1b) := hb1
  have HB1c : Hid (Below w.heap.size w w1b) := hB1
  clear hS hbx hb1 hB1 HB1
  go_wp2_with fail
  refine (hP _ HB1c.out).mono ?_
  rintro e w2 ⟨rfl, hbx⟩
  have hb2 := below_after_of HB1b.out hbx
  obtain ⟨hB2, s0, s1, hr2, hz2⟩ := box_cells hb2
  obtain ⟨g0, g1, f0, f1⟩ := two_cellsV hr2
  have HB2 : Hid (Below w.heap.size w w2) := hB2
  clear hP hbx HB1b HB1c hb2 hr2 hB2
  go_wp2
  all_goals exact bodyPost_ret (v := .agg #[.int .i64 11, .slice none 0 0]) (by simp [results, Try.results13, go_sem, *]) rfl ⟨(HB2.out.setCell (by simp) _).setCell (by simp) _, _, rfl, World.ownsRow_nil _ _ _ _⟩
set_option maxRecDepth 100000 in
set_option maxHeartbeats 4000000 in
theorem implPutSlot_any (v : Value) (l : Prl) (sk sv : Int) (w : World) (hv : Prs w v l) (hok : Okv v) (hx : l.length ≤ 1099511627776) :
    Calls Try.prog 13 #[v, .agg #[.int .i64 sk, .int .i64 sv]] w fun e w' => SlotsAns w (psC l (sk, sv)) (psL l (sk, sv)) e w' := by
  have hF := fun w' h => implSlotsFault_any v l w' (hv.below h) hx
  have hS := fun w' => isSlot_any (sk, sv) w'
  unfold psC psL
  by_cases h0 : slF l = 0
  · rw [if_pos h0]
    rw [h0] at hF
    have hs := slF_ok h0
    have hP := fun w' h => placeOf_any v l sk w' (hv.below h) hs.len hs.ris
    by_cases hf : fine (sk, sv) = true
    · rw [if_pos hf]
      rw [hf] at hS
      have hpl := put_len (l := l) (sk, sv)
      have hln := hs.len
      obtain ⟨ad, c, rfl⟩ := hv.shape
      by_cases h12 : 12 < (put l (sk, sv)).length
      · rw [if_pos h12, if_neg (fun h => h.2.2 h12)]
        have ht : thr l sk = false := by
          rcases Bool.eq_false_or_eq_true (thr l sk) with h | h
          · rw [if_pos h] at hpl; omega
          · exact h
        rw [if_neg (by rw [ht]; simp)] at hpl
        have hl12 : l.length = 12 := by omega
        obtain ⟨_, bk, off, rfl, _, _⟩ := hv.at (by omega)
        rw [ht] at hP
        have hlo := low_le l sk
        have hnc := (hok _ _ _ rfl).1
        rw [hl12] at hF hP hlo hnc ⊢
        exact implPutSlot_full bk off c (low l sk) sk sv w hnc hlo hF hS hP
      · rw [if_neg h12, if_pos ⟨h0, hf, h12⟩]
        refine implPutSlot_ok ad l.length c (low l sk) (thr l sk) l (put l (sk, sv)) sk sv w hv hok rfl hln (low_le l sk) (fun h => thr_lt h) hF hS hP rfl ?_
        rcases Bool.eq_false_or_eq_true (thr l sk) with h | h
        · exact Or.inl h
        · right
          rw [if_neg (by rw [h]; simp)] at hpl
          omega
    · rw [if_neg hf, if_neg (fun h => hf h.2.1)]
      have hf : fine (sk, sv) = false := by simpa using hf
      rw [hf] at hS
      dsimp only at hS
      obtain ⟨ad, c, rfl⟩ := hv.shape
      generalize l.length = n at *
      clear hv h0 hs hf hP hok
      go_enter Try.func13, Try.ntmps13
      go_wp2_with fail
      refine (hF _ (two_new _ _)).mono ?_
      rintro e w1 ⟨rfl, hb1⟩
      obtain ⟨hB1, s0, s1, -, -⟩ := box_cells hb1
      have HB1 : Hid (Below ((w.alloc (.cells #[.int .i64 sk, .int .i64 sv] 26)).alloc (.cells #[.int .i64 0, .slice none 0 0] 30)).heap.size ((w.alloc (.cells #[.int .i64 sk, .int .i64 sv] 26)).alloc (.cells #[.int .i64 0, .slice none 0 0] 30)) w1) := hb1
      clear hF hB1 hb1
      go_wp2_with fail
      refine (hS _).mono ?_
      rintro e w2 ⟨rfl, hbx⟩
      have hb2 := below_after_of HB1.out hbx
      obtain ⟨hB2, s0, s1, hr2, hz2⟩ := box_cells hb2
      obtain ⟨g0, g1, f0, f1⟩ := two_cellsV hr2
      clear hS hbx HB1 hb2 hr2
      go_wp2
      exact bodyPost_ret (v := .agg #[.int .i64 3, .slice none 0 0]) (by simp [results, Try.results13, go_sem, *]) rfl ⟨(hB2.setCell (by simp) _).setCell (by simp) _, _, rfl, World.ownsRow_nil _ _ _ _⟩
  · rw [if_neg h0, if_neg (fun h => h0 h.1)]
    obtain ⟨ad, c, rfl⟩ := hv.shape
    generalize slF l = f at *
    generalize l.length = n at *
    have hfn : (f != 0) = true := by simpa using h0
    clear hv h0 hS hok
    go_enter Try.func13, Try.ntmps13
    go_wp2_with fail
    refine (hF _ (two_new _ _)).mono ?_
    rintro e w2 ⟨rfl, hb2⟩
    obtain ⟨hB2, s0, s1, hr2, hz2⟩ := box_cells hb2
    obtain ⟨g0, g1, f0, f1⟩ := two_cellsV hr2
    clear hF hb2 hr2
    go_wp2
    exact bodyPost_ret (v := .agg #[.int .i64 f, .slice none 0 0]) (by simp [results, Try.results13, go_sem, *]) rfl ⟨(hB2.setCell (by simp) _).setCell (by simp) _, _, rfl, World.ownsRow_nil _ _ _ _⟩
end U
end Go.Proofs.Ytgflamlfplpfdaa
