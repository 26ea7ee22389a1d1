/- The law on WordsOf, walked: true, and nothing that was there has turned. -/
import Derived.Test.YtmjbmlojcieciaaDoorWo4
import Derived.Test.YtmjbmlojcieciaaDoorWo5
namespace Go.Proofs.YtmjbmlojcieciaaDoor
open Go.RowKit
namespace U
set_option maxRecDepth 100000 in
set_option maxHeartbeats 4000000 in
theorem fnExactWordsOf_small (s : ByteArray) (xs : List ByteArray) (w : World) (hs : s.size ≤ 1048576) (hlen : xs.length ≤ 1048577)
    (hS : ∀ w, Calls Tryd.prog 6 #[.string s] w fun e w' => WordsAns w xs e w') (hI : ∀ w, Calls Tryd.prog 7 #[.string s] w fun e w' => WordsAns w xs e w') :
    Calls Tryd.prog 3 #[.string s] w fun e w' => e = .returned (.bool true) ∧ Below w.heap.size w w' := by
  go_enter Tryd.func3, Tryd.ntmps3
  go_wp2_with fail
  -- the model's answer
  refine (hS _).mono ?_
  intro e w1 h1
  obtain ⟨a1, c1, rfl, hb1, own1⟩ := h1.use
  clear h1
  go_wp2_with fail
  -- the program's answer
  refine (hI _).mono ?_
  intro e w2 h2
  obtain ⟨a2, c2, rfl, hb2, own2⟩ := h2.use
  clear h2
  have P1 := (Pair.new w1 (.int .i64 0) (.slice a1 xs.length c1) 24).below hb2
  have i1 := ((own_wds own1).below (one_new (.cells #[.int .i64 0, .slice a1 xs.length c1] 24))).below hb2
  have hB1 : Below w.heap.size w w2 := hb1.trans ((one_new (.cells #[.int .i64 0, .slice a1 xs.length c1] 24)).mono hb1.size |>.trans (hb2.mono (by simp; exact Nat.le_succ_of_le hb1.size)))
  have hlt1 : w1.heap.size + 1 ≤ w2.heap.size := by have := hb2.size; simpa using this
  have own2 : w2.ownsRow (w1.heap.size + 1) 9 1 (.slice a2 xs.length c2) xs.length (xs.map Value.string) := by simpa using own2
  clear hb2
  have P2 := Pair.new w2 (.int .i64 0) (.slice a2 xs.length c2) 24
  have P1 := P1.below (one_new (.cells #[.int .i64 0, .slice a2 xs.length c2] 24))
  have p10 := P1.2.1
  have p11 := P1.2.2
  have i1 := i1.below (one_new (.cells #[.int .i64 0, .slice a2 xs.length c2] 24))
  have i2 := (own_wds own2).below (one_new (.cells #[.int .i64 0, .slice a2 xs.length c2] 24))
  go_wp2_with fail
  -- the two are the same
  refine (eqWordsResult_same _ _ xs _ i2 i1 (by omega)).mono ?_
  rintro e w3 ⟨rfl, hb3⟩
  have P1 := P1.below hb3
  have P2 := P2.below hb3
  have i1 := i1.below hb3
  have hl3 : w2.heap.size + 1 ≤ w3.heap.size := by have := hb3.size; simpa using this
  have hB3 : Below w.heap.size w w3 := hB1.trans ((one_new _).mono hB1.size |>.trans (hb3.mono (by simp; exact Nat.le_succ_of_le hB1.size)))
  have own3 : w3.ownsRow (w1.heap.size + 1) 9 1 (.slice a2 xs.length c2) xs.length (xs.map Value.string) := own_below own2 (below_after hb3)
  clear hb3 p10 p11 i2
  have p10 := P1.2.1
  have p11 := P1.2.2
  have p20 := P2.2.1
  have p21 := P2.2.2
  go_wp2_with fail
  -- the marks
  refine (markWordsResult_any (w1.heap.size + 1) _ xs 1 _ own3 (by omega) (by omega) (by omega)).mono ?_
  rintro e w4 ⟨rfl, hg4, own4⟩
  have hrow := fun k hk => own2.lt k hk
  have P1 := P1.grown hg4 (fun e => by have := (hrow _ e.symm).1; omega)
  have P2 := P2.grown hg4 (fun e => by have := (hrow _ e.symm).2; omega)
  have i1 := i1.grown hg4 (apartW own1 own2 (Nat.le_succ _))
  have hB4 : Below w.heap.size w w4 := hB3.grown hg4 hB3.size (fun k hk => Nat.le_trans (Nat.le_succ_of_le hb1.size) (hrow k hk).1)
  have hl4 : w2.heap.size + 1 ≤ w4.heap.size := Nat.le_trans hl3 hg4.size
  clear hg4 own3 hB3 hl3 own2 hrow p10 p11 p20 p21
  have p10 := P1.2.1
  have p11 := P1.2.2
  have p20 := P2.2.1
  have p21 := P2.2.2
  have m4 : Wds w4 (.slice a2 xs.length c2) (msB 1 xs.length) := own_wds (by rw [msB_len]; exact own4)
  go_wp2_with fail
  -- they are there
  refine (heldWordsResult_any _ xs.length 1 _ m4 (by omega) (by omega) (by omega)).mono ?_
  rintro e w5 ⟨rfl, hb5⟩
  have P1 := P1.below hb5
  have P2 := P2.below hb5
  have i1 := i1.below hb5
  have m5 := m4.below hb5
  have hB5 : Below w.heap.size w w5 := hB4.trans (hb5.mono hB4.size)
  have hl5 : w2.heap.size + 1 ≤ w5.heap.size := Nat.le_trans hl4 hb5.size
  clear hb5 m4 hB4 hl4 own4 p10 p11 p20 p21
  go_wp2_with fail
  -- the program's answer, once more
  refine (hI _).mono ?_
  intro e w6 h6
  obtain ⟨a6, c6, rfl, hb6, own6⟩ := h6.use
  clear h6
  have P1 := (P1.below hb6).below (one_new (.cells #[.int .i64 0, .slice a6 xs.length c6] 24))
  have P2 := (P2.below hb6).below (one_new (.cells #[.int .i64 0, .slice a6 xs.length c6] 24))
  have i1 := (i1.below hb6).below (one_new (.cells #[.int .i64 0, .slice a6 xs.length c6] 24))
  have m6 := (m5.below hb6).below (one_new (.cells #[.int .i64 0, .slice a6 xs.length c6] 24))
  have i6 := (own_wds own6).below (one_new (.cells #[.int .i64 0, .slice a6 xs.length c6] 24))
  have hB6 : Below w.heap.size w w6 := hB5.trans (hb6.mono hB5.size)
  have hl6 : w2.heap.size + 1 ≤ w6.heap.size := Nat.le_trans hl5 hb6.size
  clear hb6 own6 m5 hB5 hl5
  have p10 := P1.2.1
  have p11 := P1.2.2
  go_wp2_with fail
  refine (eqWordsResult_same _ _ xs _ i6 i1 (by omega)).mono ?_
  rintro e w7 ⟨rfl, hb7⟩
  have P2 := P2.below hb7
  have m7 := m6.below hb7
  have hB7 : Below w.heap.size w w7 := hB6.trans ((below_after hb7).mono hB6.size)
  clear hb7 m6 hB6 i1 i6 P1 p10 p11
  have p20 := P2.2.1
  have p21 := P2.2.2
  go_wp2_with fail
  refine (heldWordsResult_any _ xs.length 1 _ m7 (by omega) (by omega) (by omega)).mono ?_
  rintro e w8 ⟨rfl, hb8⟩
  have hB8 : Below w.heap.size w w8 := hB7.trans (hb8.mono hB7.size)
  clear hb8 m7 hB7 P2 p20 p21
  go_wp2
  go_ret
  exact ⟨rfl, hB8⟩
set_option maxHeartbeats 400000 in
theorem fnExactWordsOf_walk (s : ByteArray) (hs : s.size ≤ maxLen) (w : World) :
    Calls Tryd.prog 3 #[.string s] w fun e w' => e = .returned (.bool true) ∧ Below w.heap.size w w' := by
  by_cases h : s.size ≤ 1048576
  · exact fnExactWordsOf_small s (wordsB (cutB s)) w h (by have h1 := cutB_size s; have h2 : (wordsB (cutB s)).length ≤ (cutB s).length := List.length_filter_le _ _; omega) (fun w => specWordsOf_any s w h) (fun w => implWordsOf_any s w h)
  · unfold maxLen at hs
    go_enter Tryd.func3, Tryd.ntmps3
    go_wp2
    go_ret
    exact ⟨rfl, Below.refl _ _⟩
end U
end Go.Proofs.YtmjbmlojcieciaaDoor
