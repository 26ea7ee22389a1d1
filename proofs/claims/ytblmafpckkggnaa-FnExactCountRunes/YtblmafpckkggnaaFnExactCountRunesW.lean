/- The law on CountRunes, walked: true, and nothing that was there has turned. -/
import Derived.Test.YtblmafpckkggnaaIntR
namespace Go.Proofs.Ytblmafpckkggnaa
open Go.RowKit
namespace U
set_option maxHeartbeats 1000000 in
theorem eqIntResult_same (c d : Int) (w : World) :
    Calls Try.prog 19 #[.agg #[.int .i64 c, .int .i64 d], .agg #[.int .i64 c, .int .i64 d]] w fun e w' => e = .returned (.bool true) ∧ Below w.heap.size w w' := by
  go_enter Try.func19, Try.ntmps19
  go_wp2
  go_ret
  exact ⟨rfl, two_new _ _⟩
set_option maxHeartbeats 1000000 in
/-- Of a code and a list: the code, or how many there are. -/
theorem specCountRunes_any (s : ByteArray) (code : Int) (xs : List Int) (w : World) (_hlen : xs.length ≤ 200) (hS : ∀ w, Calls Try.prog 7 #[.string s] w fun e w' => IntsAns w code xs e w') :
    Calls Try.prog 17 #[.string s] w fun e w' => e = .returned (.agg #[.int .i64 code, .int .i64 (if code = 0 then (xs.length : Int) else 0)]) ∧ Below w.heap.size w w' := by
  by_cases hc : code = 0
  · subst hc
    go_enter Try.func17, Try.ntmps17
    go_wp2_with fail
    refine (hS _).mono ?_
    intro e w1 h1
    obtain ⟨a1, c1, rfl, hb1, own1⟩ := h1.use
    obtain ⟨hc, hf⟩ := bcell hb1
    have hsz : w.heap.size < w1.heap.size := by have := hb1.size; simp at this; omega
    clear h1 own1
    go_wp2
    exact bodyPost_ret (v := .agg #[.int .i64 0, .int .i64 xs.length]) (by simp [results, Try.results17, go_sem, hc, hsz]) rfl ⟨rfl, (((below_after hb1).setCell (Nat.le_refl _) _).setCell (Nat.le_refl _) _).alloc (by simp; omega) _⟩
  · have h1 : (code != 0) = true := by simpa using hc
    rw [if_neg hc]
    clear hc
    go_enter Try.func17, Try.ntmps17
    go_wp2_with fail
    refine (hS _).mono ?_
    intro e w1 h2
    obtain ⟨a1, c1, rfl, hb1, own1⟩ := h2.use
    obtain ⟨hc, hf⟩ := bcell hb1
    have hsz : w.heap.size < w1.heap.size := by have := hb1.size; simp at this; omega
    clear h2 own1
    go_wp2
    exact bodyPost_ret (v := .agg #[.int .i64 code, .int .i64 0]) (by simp [results, Try.results17, go_sem, hc, hsz]) rfl ⟨rfl, (((below_after hb1).setCell (Nat.le_refl _) _).setCell (Nat.le_refl _) _).alloc (by simp; omega) _⟩
set_option maxHeartbeats 1000000 in
/-- Of a code and a list: the code, or how many there are. -/
theorem implCountRunes_any (s : ByteArray) (code : Int) (xs : List Int) (w : World) (_hlen : xs.length ≤ 200) (hS : ∀ w, Calls Try.prog 8 #[.string s] w fun e w' => IntsAns w code xs e w') :
    Calls Try.prog 18 #[.string s] w fun e w' => e = .returned (.agg #[.int .i64 code, .int .i64 (if code = 0 then (xs.length : Int) else 0)]) ∧ Below w.heap.size w w' := by
  by_cases hc : code = 0
  · subst hc
    go_enter Try.func18, Try.ntmps18
    go_wp2_with fail
    refine (hS _).mono ?_
    intro e w1 h1
    obtain ⟨a1, c1, rfl, hb1, own1⟩ := h1.use
    obtain ⟨hc, hf⟩ := bcell hb1
    have hsz : w.heap.size < w1.heap.size := by have := hb1.size; simp at this; omega
    clear h1 own1
    go_wp2
    exact bodyPost_ret (v := .agg #[.int .i64 0, .int .i64 xs.length]) (by simp [results, Try.results18, go_sem, hc, hsz]) rfl ⟨rfl, (((below_after hb1).setCell (Nat.le_refl _) _).setCell (Nat.le_refl _) _).alloc (by simp; omega) _⟩
  · have h1 : (code != 0) = true := by simpa using hc
    rw [if_neg hc]
    clear hc
    go_enter Try.func18, Try.ntmps18
    go_wp2_with fail
    refine (hS _).mono ?_
    intro e w1 h2
    obtain ⟨a1, c1, rfl, hb1, own1⟩ := h2.use
    obtain ⟨hc, hf⟩ := bcell hb1
    have hsz : w.heap.size < w1.heap.size := by have := hb1.size; simp at this; omega
    clear h2 own1
    go_wp2
    exact bodyPost_ret (v := .agg #[.int .i64 code, .int .i64 0]) (by simp [results, Try.results18, go_sem, hc, hsz]) rfl ⟨rfl, (((below_after hb1).setCell (Nat.le_refl _) _).setCell (Nat.le_refl _) _).alloc (by simp; omega) _⟩
set_option maxHeartbeats 1000000 in
theorem fnExactCountRunes_walk (s : ByteArray) (hs : s.size ≤ maxLen) (w : World) :
    Calls Try.prog 6 #[.string s] w fun e w' => e = .returned (.bool true) ∧ Below w.heap.size w w' := by
  by_cases h : s.size ≤ 1048576
  · have hl := rP_len s
    have hS := fun w => specCountRunes_any s (rP s).1 (rP s).2 w hl (fun w => specRunesOf_any s w h)
    have hI := fun w => implCountRunes_any s (rP s).1 (rP s).2 w hl (fun w => implRunesOf_any s w h)
    generalize (rP s).1 = code at *
    generalize (if code = 0 then ((rP s).2.length : Int) else 0) = num at *
    go_enter Try.func6, Try.ntmps6
    go_wp2_with fail
    refine (hS _).mono ?_
    rintro e w1 ⟨rfl, hb1⟩
    go_wp2_with fail
    refine (hI _).mono ?_
    rintro e w2 ⟨rfl, hb2⟩
    obtain ⟨hc, hf⟩ := bcell hb2
    have hsz : w1.heap.size < w2.heap.size := by have := hb2.size; simp at this; omega
    have hB : Below w.heap.size w w2 := hb1.trans ((below_after hb2).mono hb1.size)
    clear hb2
    go_wp2_with fail
    refine (eqIntResult_same code num _).mono ?_
    rintro e w3 ⟨rfl, hb3⟩
    go_wp2
    go_ret
    exact ⟨rfl, hB.trans ((below_after hb3).mono hB.size)⟩
  · unfold maxLen at hs
    go_enter Try.func6, Try.ntmps6
    go_wp2
    go_ret
    exact ⟨rfl, Below.refl _ _⟩
end U
end Go.Proofs.Ytblmafpckkggnaa
