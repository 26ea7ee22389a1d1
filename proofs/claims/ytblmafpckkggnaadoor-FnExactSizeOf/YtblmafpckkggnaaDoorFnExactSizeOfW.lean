/- The law on SizeOf, walked: true, and nothing that was there has turned. -/
import Derived.Test.YtblmafpckkggnaaDoorSize
import Derived.Test.YtblmafpckkggnaaDoorEqR
namespace Go.Proofs.YtblmafpckkggnaaDoor
open Go.RowKit
namespace U
set_option maxHeartbeats 1000000 in
theorem fnExactSizeOf_walk (r : Int) (w : World) (hE : Ends w) :
    Calls Tryd.prog 6 #[.int .i64 r] w fun e w' => e = .returned (.bool true) ∧ Below w.heap.size w w' := by
  have hS := fun w => specSizeOf_any r w
  have hI := fun w h => implSizeOf_any r w h
  generalize szC r = c at *
  generalize szV r = d at *
  go_enter Tryd.func6, Tryd.ntmps6
  go_wp2_with fail
  refine (hS _).mono ?_
  rintro e w1 ⟨rfl, hb1⟩
  go_wp2_with fail
  refine (hI _ ((hE.below hb1).below (one_new _))).mono ?_
  rintro e w2 ⟨rfl, hb2⟩
  obtain ⟨hc, hf⟩ := bcell hb2
  have hsz : w1.heap.size < w2.heap.size := by have := hb2.size; simp at this; omega
  have hB : Below w.heap.size w w2 := below_after_of hb1 (below_after hb2)
  clear hb2 hE hI hS
  go_wp2_with fail
  refine (eqIntResult_same c d _).mono ?_
  rintro e w3 ⟨rfl, hb3⟩
  go_wp2
  go_ret
  exact ⟨rfl, below_after_of hB (below_after hb3)⟩
end U
end Go.Proofs.YtblmafpckkggnaaDoor
