/- The law on TagSum, walked: true, and nothing that was there has turned. -/
import Derived.Test.YtpodbikmjkohhaaTag2
import Derived.Test.YtpodbikmjkohhaaEqR
namespace Go.Proofs.Ytpodbikmjkohhaa
open Go.RowKit
namespace U
set_option maxHeartbeats 2000000 in
theorem fnExactTagSum_small (tag : Int) (v : Value) (bs : List Int) (w : World) (hv : Ints .i64 w v bs) (hx : bs.length ≤ 1048576) :
    Calls Try.prog 5 #[.int .i64 tag, v] w fun e w' => e = .returned (.bool true) ∧ Below w.heap.size w w' := by
  obtain ⟨a, c, rfl⟩ := hv.shape
  have hS := fun w u hu => specTagSum_any tag u bs w hu (by omega)
  have hI := fun w u hu => implTagSum_any tag u bs w hu (by omega)
  have h2 : decide (bs = bs) = true := by simp
  generalize tgC tag bs = code at *
  generalize tsV tag bs = sv at *
  go_enter Try.func5, Try.ntmps5
  go_wp2_with fail
  refine (toInt64S_any _ bs _ hv hx).mono ?_
  rintro e w1 ⟨a1, c1, rfl, hb1, own1⟩
  have i1 := own_ints own1
  clear own1
  go_wp2_with fail
  refine (hS _ _ i1).mono ?_
  rintro e w2 ⟨rfl, hb2⟩
  have hB2 := below_after_of hb1 hb2
  have hv2 := (hv.below hB2).below (one_new (.cells #[.int .i64 code, .int .i64 sv] 41))
  clear i1 hS
  go_wp2_with fail
  refine (toInt64S_any _ bs _ hv2 hx).mono ?_
  rintro e w3 ⟨a3, c3, rfl, hb3, own3⟩
  have hB3 := below_after_of hB2 (below_after hb3)
  have i3 := own_ints own3
  have hz3 : w2.heap.size < w3.heap.size := by have := hb3.size; simp at this; omega
  have P3 : w3.heap[w2.heap.size]? = some (.cells #[.int .i64 code, .int .i64 sv] 41 (0, 0)) := (hb3.block w2.heap.size (by simp)).trans (heap_alloc_new w2 _)
  clear hb3 own3
  go_wp2_with fail
  refine (hI _ _ i3).mono ?_
  rintro e w4 ⟨rfl, hb4⟩
  have hB4 := below_after_of hB3 hb4
  have hz4 : w2.heap.size < w4.heap.size := Nat.lt_of_lt_of_le hz3 hb4.size
  have i4 := (i3.below hb4).below (one_new (.cells #[.int .i64 code, .int .i64 sv] 41))
  obtain ⟨p0, p1, _, _⟩ := two_cells ((hb4.block w2.heap.size hz3).trans P3)
  clear i3 hI hb4 P3
  go_wp2_with fail
  refine (eqIntResult_same code sv _).mono ?_
  rintro e w5 ⟨rfl, hb5⟩
  have hB5 := below_after_of hB4 (below_after hb5)
  have i5 := i4.below hb5
  have hv5 := hv.below hB5
  clear hb5 i4 p0 p1 hv hv2
  go_wp2_with fail
  refine (toInt64S_any _ bs _ hv5 hx).mono ?_
  rintro e w6 ⟨a6, c6, rfl, hb6, own6⟩
  have i6 := own_ints own6
  have i56 := i5.below hb6
  have hB6 := below_after_of hB5 hb6
  clear own6 hb6 i5 hv5
  go_wp2_with fail
  refine (eqInt64S_any _ _ bs bs _ i56 i6 (by omega) (by omega)).mono ?_
  rintro e w7 ⟨rfl, n7, rfl⟩
  go_wp2
  go_ret
  exact ⟨rfl, below_drewN hB6 _⟩
set_option maxHeartbeats 1000000 in
theorem fnExactTagSum_walk (tag : Int) (v : Value) (bs : List Int) (w : World) (hv : Ints .i64 w v bs) (hx : bs.length ≤ maxLen) (_ : -9223372036854775808 ≤ tag ∧ tag ≤ 9223372036854775807) (_ : ∀ b ∈ bs, -9223372036854775808 ≤ b ∧ b ≤ 9223372036854775807) :
    Calls Try.prog 5 #[.int .i64 tag, v] w fun e w' => e = .returned (.bool true) ∧ Below w.heap.size w w' := by
  by_cases h : bs.length ≤ 1048576
  · exact fnExactTagSum_small tag v bs w hv h
  · obtain ⟨a, c, rfl⟩ := hv.shape
    clear hv
    unfold maxLen at hx
    generalize bs.length = n at *
    go_enter Try.func5, Try.ntmps5
    go_wp2
    go_ret
    exact ⟨rfl, Below.refl _ _⟩
end U
end Go.Proofs.Ytpodbikmjkohhaa
