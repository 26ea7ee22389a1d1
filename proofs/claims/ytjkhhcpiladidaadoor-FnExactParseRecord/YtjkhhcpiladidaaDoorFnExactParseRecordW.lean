/- The law on ParseRecord, walked: true, and nothing that was there has turned. -/
import Derived.Test.YtjkhhcpiladidaaDoorParse6
import Derived.Test.YtjkhhcpiladidaaDoorRecE
namespace Go.Proofs.YtjkhhcpiladidaaDoor
open Go.RowKit
namespace U
theorem parV_res (s : ByteArray) : ∃ c l v o p, parV s = resV c l v o p := by
  unfold parV
  split
  · split <;> exact ⟨_, _, _, _, _, rfl⟩
  · exact ⟨_, _, _, _, _, rfl⟩
set_option maxRecDepth 100000 in
set_option maxHeartbeats 2000000 in
theorem fnExactParseRecord_walk (s : ByteArray) (hs : s.size ≤ maxLen) (w : World) (hM : MaxIs w) :
    Calls Tryd.prog 5 #[.string s] w fun e w' => e = .returned (.bool true) ∧ Below w.heap.size w w' := by
  by_cases h : s.size ≤ 1048576
  · have hS := fun w => specParseRecord_any s w h
    have hI := fun w' hb => implParseRecord_any s w' h (maxIs_below hM hb)
    obtain ⟨c, l, n1, n2, n3, hr⟩ := parV_res s
    rw [hr] at hS hI
    have hQ := fun w => eqRecordResult_same c l n1 n2 n3 w
    unfold resV at hS hI hQ
    clear hr hM
    go_enter Tryd.func5, Tryd.ntmps5
    go_wp2_with fail
    refine (hS _).mono ?_
    rintro e w2 ⟨rfl, hb2⟩
    have hB2 := below_after_of hb2 (one_new (.cells #[.int .i64 c, .string l, .int .i64 n1, .int .i64 n2, .int .i64 n3] 52))
    have P2 := ResAt.new w2 c l n1 n2 n3 52
    clear hb2 hS
    go_wp2_with fail
    refine (hI _ hB2).mono ?_
    rintro e w4 ⟨rfl, hb4⟩
    have hb4' := below_after_of hb4 (one_new (.cells #[.int .i64 c, .string l, .int .i64 n1, .int .i64 n2, .int .i64 n3] 52))
    have ⟨_, p0, p1, p2, p3, p4⟩ := P2.below hb4'
    have hB4 := below_after_of hB2 hb4'
    clear hb4 hb4' hB2 P2 hI
    go_wp2_with fail
    refine (hQ _).mono ?_
    rintro e w5 ⟨rfl, hb5⟩
    go_wp2
    go_ret
    exact ⟨rfl, below_after_of hB4 hb5⟩
  · unfold maxLen at hs
    go_enter Tryd.func5, Tryd.ntmps5
    go_wp2
    go_ret
    exact ⟨rfl, Below.refl _ _⟩
end U
end Go.Proofs.YtjkhhcpiladidaaDoor
