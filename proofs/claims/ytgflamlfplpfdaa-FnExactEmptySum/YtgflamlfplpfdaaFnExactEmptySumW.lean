/- The law on EmptySum, walked: true, and nothing that was there has turned. -/
import Derived.Test.YtgflamlfplpfdaaSl3
import Derived.Test.YtgflamlfplpfdaaEqR
namespace Go.Proofs.Ytgflamlfplpfdaa
open Go.RowKit
namespace U
set_option maxRecDepth 100000 in
set_option maxHeartbeats 1000000 in
theorem fnExactEmptySum_walk (n : Int) (w : World) :
    Calls Try.prog 7 #[.int .i64 n] w fun e w' => e = .returned (.bool true) ∧ Below w.heap.size w w' := by
  have hS := fun w => specEmptySum_any n w
  have hI := fun w => implEmptySum_any n w
  have hE := fun w => eqIntResult_same (eC n) (eV n) w
  generalize eC n = c at *
  generalize eV n = v at *
  go_enter Try.func7, Try.ntmps7
  go_wp2_with fail
  refine (hS _).mono ?_
  rintro e w1 ⟨rfl, hb1⟩
  have A1 := heap_alloc_new w1 (.cells #[.int .i64 c, .int .i64 v] 38)
  have hB1 : Below w.heap.size w (w1.alloc (.cells #[.int .i64 c, .int .i64 v] 38)) := hb1.alloc hb1.size _
  clear hS hb1
  go_wp2_with fail
  refine (hI _).mono ?_
  rintro e w2 ⟨rfl, hb2⟩
  obtain ⟨g0, g1, -, -⟩ := two_cellsV ((hb2.block w1.heap.size (by simp)).trans A1)
  have hB2 := below_after_of hB1 hb2
  have hz2 : w1.heap.size < w2.heap.size := by have := hb2.size; simp at this; omega
  clear hI hb2 A1 hB1
  go_wp2_with fail
  refine (hE _).mono ?_
  rintro e w3 ⟨rfl, hb3⟩
  have hB3 := below_after_of (hB2.alloc hB2.size _) hb3
  clear hE hb3
  go_wp2
  go_ret
  exact ⟨rfl, hB3⟩
end U
end Go.Proofs.Ytgflamlfplpfdaa
