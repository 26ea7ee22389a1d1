/- What both CountRunes answer. -/
import Derived.Test.YtjkhhcpiladidaaDoorIntR
namespace Go.Proofs.YtjkhhcpiladidaaDoor
open Go.RowKit
namespace U
set_option maxHeartbeats 1000000 in
/-- Of a code and a list: the code, or how many there are. -/
theorem implCountRunes_any (s : ByteArray) (code : Int) (xs : List Int) (w : World) (_hlen : xs.length ≤ 200) (hS : ∀ w, Calls Tryd.prog 8 #[.string s] w fun e w' => IntsAns w code xs e w') :
    Calls Tryd.prog 15 #[.string s] w fun e w' => e = .returned (.agg #[.int .i64 code, .int .i64 (if code = 0 then (xs.length : Int) else 0)]) ∧ Below w.heap.size w w' := by
  by_cases hc : code = 0
  · subst hc
    go_enter Tryd.func15, Tryd.ntmps15
    go_wp2_with fail
    refine (hS _).mono ?_
    intro e w1 h1
    obtain ⟨a1, c1, rfl, hb1, own1⟩ := h1.use
    obtain ⟨hc, hf⟩ := bcell hb1
    have hsz : w.heap.size < w1.heap.size := by have := hb1.size; simp at this; omega
    clear h1 own1
    go_wp2
    exact bodyPost_ret (v := .agg #[.int .i64 0, .int .i64 xs.length]) (by simp [results, Tryd.results15, go_sem, hc, hsz]) rfl ⟨rfl, (((below_after hb1).setCell (Nat.le_refl _) _).setCell (Nat.le_refl _) _).alloc (by simp; omega) _⟩
  · have h1 : (code != 0) = true := by simpa using hc
    rw [if_neg hc]
    clear hc
    go_enter Tryd.func15, Tryd.ntmps15
    go_wp2_with fail
    refine (hS _).mono ?_
    intro e w1 h2
    obtain ⟨a1, c1, rfl, hb1, own1⟩ := h2.use
    obtain ⟨hc, hf⟩ := bcell hb1
    have hsz : w.heap.size < w1.heap.size := by have := hb1.size; simp at this; omega
    clear h2 own1
    go_wp2
    exact bodyPost_ret (v := .agg #[.int .i64 code, .int .i64 0]) (by simp [results, Tryd.results15, go_sem, hc, hsz]) rfl ⟨rfl, (((below_after hb1).setCell (Nat.le_refl _) _).setCell (Nat.le_refl _) _).alloc (by simp; omega) _⟩
end U
end Go.Proofs.YtjkhhcpiladidaaDoor
