/- The law on RuneAt, walked: true, and nothing that was there has turned. -/
import Derived.Test.YtblmafpckkggnaaDoorRuneAt
import Derived.Test.YtblmafpckkggnaaDoorEqR
namespace Go.Proofs.YtblmafpckkggnaaDoor
open Go.RowKit
namespace U
set_option maxHeartbeats 1000000 in
theorem fnExactRuneAt_walk (s : ByteArray) (a : Int) (hs : s.size ≤ maxLen) (w : World) (hE : Ends w) :
    Calls Tryd.prog 4 #[.string s, .int .i64 a] w fun e w' => e = .returned (.bool true) ∧ Below w.heap.size w w' := by
  by_cases h : s.size ≤ 1048576
  · have hS := fun w => specRuneAt_any s a w h
    have hI := fun w hE => implRuneAt_any s a w h hE
    generalize raC s a = c at *
    generalize raR s a = r at *
    generalize raN s a = n at *
    go_enter Tryd.func4, Tryd.ntmps4
    go_wp2_with fail
    refine (hS _).mono ?_
    rintro e w1 ⟨rfl, hb1⟩
    go_wp2_with fail
    refine (hI _ ((hE.below hb1).below (one_new _))).mono ?_
    rintro e w2 ⟨rfl, hb2⟩
    obtain ⟨hc, hf⟩ := bcell hb2
    have hsz : w1.heap.size < w2.heap.size := by have := hb2.size; simp at this; omega
    have hB : Below w.heap.size w w2 := below_after_of hb1 (below_after hb2)
    clear hb2 hE hI hS
    go_wp2_with fail
    refine (eqRuneResult_same c r n _).mono ?_
    rintro e w3 ⟨rfl, hb3⟩
    go_wp2
    go_ret
    exact ⟨rfl, below_after_of hB (below_after hb3)⟩
  · unfold maxLen at hs
    clear hE
    go_enter Tryd.func4, Tryd.ntmps4
    go_wp2
    go_ret
    exact ⟨rfl, Below.refl _ _⟩
end U
end Go.Proofs.YtblmafpckkggnaaDoor
