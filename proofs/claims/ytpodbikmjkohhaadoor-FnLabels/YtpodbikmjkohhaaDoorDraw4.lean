/- Two draws more: a label, a number. -/
import Derived.Test.YtpodbikmjkohhaaDoorDraw3
namespace Go.Proofs.YtpodbikmjkohhaaDoor
open Go.RowKit
namespace U
set_option maxHeartbeats 1000000 in
theorem drawFoldLabel_any (cv : Value) (cs : List Int) (w : World) (h : Code w cv cs) (hob : cs ≠ [] → ∀ g, cv.ownBlock = some g → g < w.heap.size) :
    Calls Tryd.prog 18 #[cv] w fun e w' => ∃ s : ByteArray, s.size ≤ 20 ∧ e = .returned (.string s) ∧ Below w.heap.size w w' := by
  have hsrc := h.src hob
  have hshape := h.shape
  clear h hob
  go_enter Tryd.func18, Tryd.ntmps18
  go_wp2_with fail
  refine (l1Source_any cv _ hshape).mono ?_
  rintro e w1 ⟨rfl, rfl⟩
  go_wp2_with fail
  refine (l1Bent_any _ 0 cv cs _ hsrc (by omega)).mono ?_
  rintro e w3 ⟨t, ht, rfl, hg3, _⟩
  have hB3 : Below w.heap.size w w3 := below_src hg3
  clear hg3 hsrc
  go_wp2
  go_ret
  exact ⟨t, by omega, rfl, hB3⟩
set_option maxHeartbeats 1000000 in
theorem drawSizeOf_any (cv : Value) (cs : List Int) (w : World) (h : Code w cv cs) (hob : cs ≠ [] → ∀ g, cv.ownBlock = some g → g < w.heap.size) :
    Calls Tryd.prog 20 #[cv] w fun e w' => ∃ x : Int, e = .returned (.int .i64 x) ∧ Below w.heap.size w w' := by
  have hsrc := h.src hob
  have hshape := h.shape
  clear h hob
  go_enter Tryd.func20, Tryd.ntmps20
  go_wp2_with fail
  refine (l1Source_any cv _ hshape).mono ?_
  rintro e w1 ⟨rfl, rfl⟩
  go_wp2_with fail
  refine (l1DrawRune_any _ 0 cv cs _ hsrc (by omega)).mono ?_
  rintro e w2 ⟨x, hx, rfl, hg2, hs2⟩
  clear hsrc hshape
  have hq := hs2.lt
  have hP := fun o lv => l1Pick_any _ 1 cv cs lv [x, -1, 55296, 127, 128, 1114112] _ (hs2.alloc o) (by omega)
  go_wp2_with fail
  refine (hP _ _ (lit_ints .i64 [x, -1, 55296, 127, 128, 1114112] 2 6) (by simp [Value.ownBlock]; omega) (by simp) (by simp)).mono ?_
  rintro e w3 ⟨y, _, rfl, hg3, _⟩
  have hB3 : Below w.heap.size w w3 := below_src (grown_trans hg2 (grown_trans (World.grownBy_alloc _ _ _) hg3))
  clear hP hg2 hg3 hs2
  go_wp2
  go_ret
  exact ⟨y, rfl, hB3⟩
end U
end Go.Proofs.YtpodbikmjkohhaaDoor
