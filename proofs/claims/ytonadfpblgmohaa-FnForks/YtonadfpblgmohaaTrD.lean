/- The draws of the chapter on the new tree. -/
import Derived.Test.YtonadfpblgmohaaSlD
import Derived.Test.YtonadfpblgmohaaOwn
namespace Go.Proofs.Ytonadfpblgmohaa
open Go.RowKit
namespace U
set_option maxRecDepth 100000 in
set_option maxHeartbeats 2000000 in
theorem drawForkBit_any (cv : Value) (cs : List Int) (w : World) (h : Code w cv cs) (hob : cs ≠ [] → ∀ g, cv.ownBlock = some g → g < w.heap.size) :
    Calls Try.prog 25 #[cv] w fun e w' => ∃ (a : Option Addr) (c : Nat) (l : Prl), e = .returned (.slice a l.length c) ∧ l.length ≤ 13 ∧ w'.ownsRow w.heap.size 32 2 (.slice a l.length c) l.length ((fl l).map (Value.int .i64)) ∧ Below w.heap.size w w' := by
  have hsrc := h.src hob
  have hshape := h.shape
  clear h hob
  go_enter Try.func25, Try.ntmps25
  go_wp2_with fail
  refine (l1Source_any cv _ hshape).mono ?_
  rintro e w1 ⟨rfl, rfl⟩
  go_wp2_with fail
  refine (l4Bent_any _ 0 cv cs _ hsrc (by omega)).mono ?_
  rintro e w2 ⟨v2, l, a2, rfl, hl, ho2, hg2, ha2, hs2⟩
  rw [World.size_alloc] at ho2
  obtain ⟨b2, c2, rfl⟩ := own_shape2 ho2
  have hB2 : Below w.heap.size w w2 := below_src hg2
  clear hsrc hshape
  go_wp2
  go_ret
  exact ⟨b2, c2, l, rfl, hl, own_mono ho2 (by omega), hB2⟩
set_option maxRecDepth 100000 in
set_option maxHeartbeats 2000000 in
theorem drawForksOf_any (cv : Value) (cs : List Int) (w : World) (h : Code w cv cs) (hob : cs ≠ [] → ∀ g, cv.ownBlock = some g → g < w.heap.size) :
    Calls Try.prog 12 #[cv] w fun e w' => ∃ (a : Option Addr) (c : Nat) (l : Prl), e = .returned (.slice a l.length c) ∧ l.length ≤ 13 ∧ w'.ownsRow w.heap.size 32 2 (.slice a l.length c) l.length ((fl l).map (Value.int .i64)) ∧ Below w.heap.size w w' := by
  have hsrc := h.src hob
  have hshape := h.shape
  clear h hob
  go_enter Try.func12, Try.ntmps12
  go_wp2_with fail
  refine (l1Source_any cv _ hshape).mono ?_
  rintro e w1 ⟨rfl, rfl⟩
  go_wp2_with fail
  refine (l4Bent_any _ 0 cv cs _ hsrc (by omega)).mono ?_
  rintro e w2 ⟨v2, l, a2, rfl, hl, ho2, hg2, ha2, hs2⟩
  rw [World.size_alloc] at ho2
  obtain ⟨b2, c2, rfl⟩ := own_shape2 ho2
  have hB2 : Below w.heap.size w w2 := below_src hg2
  clear hsrc hshape
  go_wp2
  go_ret
  exact ⟨b2, c2, l, rfl, hl, own_mono ho2 (by omega), hB2⟩
set_option maxRecDepth 100000 in
set_option maxHeartbeats 2000000 in
theorem dOldPath_any (cv : Value) (cs : List Int) (w : World) (h : Code w cv cs) (hob : cs ≠ [] → ∀ g, cv.ownBlock = some g → g < w.heap.size) :
    Calls Try.prog 47 #[cv] w fun e w' => ∃ (a : Option Addr) (c : Nat) (l : Prl) (x : Int), e = .returned (.tuple #[.slice a l.length c, .int .i64 x]) ∧ l.length ≤ 13 ∧ w'.ownsRow w.heap.size 32 2 (.slice a l.length c) l.length ((fl l).map (Value.int .i64)) ∧ Below w.heap.size w w' := by
  have hsrc := h.src hob
  have hshape := h.shape
  clear h hob
  go_enter Try.func47, Try.ntmps47
  go_wp2_with fail
  refine (l1Source_any cv _ hshape).mono ?_
  rintro e w1 ⟨rfl, rfl⟩
  go_wp2_with fail
  refine (l4Bent_any _ 0 cv cs _ hsrc (by omega)).mono ?_
  rintro e w2 ⟨v2, l, a2, rfl, hl, ho2, hg2, ha2, hs2⟩
  rw [World.size_alloc] at ho2
  obtain ⟨b2, c2, rfl⟩ := own_shape2 ho2
  have hz2 : w.heap.size + 1 ≤ w2.heap.size := by have := hg2.size; simpa using this
  clear hsrc hshape
  go_wp2_with fail
  refine (l4DrawKey_any w.heap.size a2 cv cs _ hs2 (by omega)).mono ?_
  rintro e w3 ⟨x0, -, -, rfl, hg3, hs3⟩
  have hG3 := grown_trans hg2 hg3
  have ho3 := own_grown ho2 hg3 (Or.inr (fun e => by have := (ho2.lt _ e).1; omega))
  have hz3 : w.heap.size + 1 ≤ w3.heap.size := by have := hG3.size; simpa using this
  clear hg3 hs2 ho2 hg2
  go_wp2_with fail
  refine (l1Pick_any w.heap.size (a2 + 1) cv cs _ [x0, 6, 256, -1] _ (hs3.alloc _) (by omega) (lit_ints .i64 [x0, 6, 256, -1] 2 4) (by simp [Value.ownBlock]; omega) (by simp) (by simp)).mono ?_
  rintro e w4 ⟨y, hy, rfl, hg4, hs4⟩
  have hG4 := grown_trans hG3 (grown_trans (World.grownBy_alloc _ _ _) hg4)
  have ho4 := own_grown (ho3.alloc _) hg4 (Or.inr (fun e => by have := (ho3.lt _ e).1; omega))
  have hB4 : Below w.heap.size w w4 := below_src hG4
  clear hg4 hs3 hs4 ho3 hG3 hG4 hy
  go_wp2
  exact bodyPost_ret (v := .tuple #[.slice b2 l.length c2, .int .i64 y]) (by simp [results, Try.results47, go_sem]) rfl ⟨b2, c2, l, y, rfl, hl, own_mono ho4 (by omega), hB4⟩
set_option maxRecDepth 100000 in
set_option maxHeartbeats 2000000 in
theorem dNearSlot_any (cv : Value) (cs : List Int) (w : World) (h : Code w cv cs) (hob : cs ≠ [] → ∀ g, cv.ownBlock = some g → g < w.heap.size) :
    Calls Try.prog 15 #[cv] w fun e w' => ∃ (a : Option Addr) (c : Nat) (l : Prl) (x : Int), e = .returned (.tuple #[.slice a l.length c, .int .i64 x]) ∧ l.length ≤ 13 ∧ w'.ownsRow w.heap.size 32 2 (.slice a l.length c) l.length ((fl l).map (Value.int .i64)) ∧ Below w.heap.size w w' := by
  have hD := dOldPath_any cv cs w h hob
  obtain ⟨a0, n0, c0, rfl⟩ := h.shape
  clear h hob
  go_enter Try.func15, Try.ntmps15
  go_wp2_with fail
  refine hD.mono ?_
  rintro e w1 ⟨a, c, l, x, rfl, hl, ho, hb⟩
  clear hD
  go_wp2
  exact bodyPost_ret (v := .tuple #[.slice a l.length c, .int .i64 x]) (by simp [results, Try.results15, go_sem]) rfl ⟨a, c, l, x, rfl, hl, ho, hb⟩
end U
end Go.Proofs.Ytonadfpblgmohaa
