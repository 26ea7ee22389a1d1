/- The law on OwnerOf, walked: true, and nothing that was there has turned. -/
import Derived.Test.YthmnjojjnlnbjaaOw1
import Derived.Test.YthmnjojjnlnbjaaEqR
namespace Go.Proofs.Ythmnjojjnlnbjaa
open Go.RowKit
namespace U
set_option maxRecDepth 100000 in
set_option maxHeartbeats 1000000 in
theorem fnExactOwnerOf_walk (n : Int) (w : World) :
    Calls Try.prog 6 #[.int .i64 n] w fun e w' => e = .returned (.bool true) ∧ Below w.heap.size w w' := by
  have hS := fun w => specOwnerOf_any n w
  have hI := fun w => implOwnerOf_any n w
  have hE := fun w => eqIntResult_same (owC n) (owV n) w
  generalize owC n = c at *
  generalize owV n = v at *
  go_enter Try.func6, Try.ntmps6
  go_wp2_with fail
  refine (hS _).mono ?_
  rintro e w1 ⟨rfl, hb1⟩
  have A1 := heap_alloc_new w1 (.cells #[.int .i64 c, .int .i64 v] 39)
  have hB1 : Below w.heap.size w (w1.alloc (.cells #[.int .i64 c, .int .i64 v] 39)) := hb1.alloc hb1.size _
  clear hS hb1
  go_wp2_with fail
  refine (hI _).mono ?_
  rintro e w2 ⟨rfl, hb2⟩
  obtain ⟨g0, g1, -, -⟩ := two_cells ((hb2.block w1.heap.size (by simp)).trans A1)
  have hB2 := below_after_of hB1 hb2
  have hz2 : w1.heap.size < w2.heap.size := by have := hb2.size; simp at this; omega
  clear hI hb2 A1 hB1
  go_wp2_with fail
  refine (hE _).mono ?_
  rintro e w3 ⟨rfl, hb3⟩
  have hB3 := below_after_of (hB2.alloc hB2.size _) hb3
  clear hE hb3
  go_wp2
  go_ret
  exact ⟨rfl, hB3⟩
end U
end Go.Proofs.Ythmnjojjnlnbjaa
