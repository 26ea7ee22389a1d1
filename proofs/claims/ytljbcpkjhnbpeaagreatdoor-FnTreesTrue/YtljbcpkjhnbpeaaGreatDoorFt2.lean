/- Two sets of slots, as they are drawn for the laws on two trees. -/
import Derived.Test.YtljbcpkjhnbpeaaGreatDoorFt1
namespace Go.Proofs.YtljbcpkjhnbpeaaGreatDoor
open Go.RowKit
namespace U
set_option maxRecDepth 100000 in
theorem drawTreeClash_any (cv : Value) (cs : List Int) (w : World) (h : Code w cv cs) (hob : cs ≠ [] → ∀ g, cv.ownBlock = some g → g < w.heap.size) :
    Calls Tryz.prog 20 #[cv] w fun e w' => ∃ (a a' : Option Addr) (c c' : Nat) (l m : Prl), e = .returned (.tuple #[.slice a l.length c, .slice a' m.length c']) ∧ l.length ≤ 13 ∧ m.length ≤ 13 ∧ w'.ownsRow w.heap.size 26 2 (.slice a l.length c) l.length ((fl l).map (Value.int .i64)) ∧ w'.ownsRow w.heap.size 26 2 (.slice a' m.length c') m.length ((fl m).map (Value.int .i64)) ∧ Below w.heap.size w w' := by
  have hP := l8Pair_any cv cs w h hob
  obtain ⟨x, n, y, rfl⟩ := h.shape
  clear h hob
  go_enter Tryz.func20, Tryz.ntmps20
  go_wp2_with fail
  refine hP.mono ?_
  rintro e w1 ⟨v, u, l, m, rfl, hl, hm, o1, o2, hb⟩
  obtain ⟨a, c, rfl⟩ := own_shape2 o1
  obtain ⟨a', c', rfl⟩ := own_shape2 o2
  clear hP
  go_wp2
  exact bodyPost_ret (v := .tuple #[.slice a l.length c, .slice a' m.length c']) (by simp [results, Tryz.results20, go_sem]) rfl ⟨a, a', c, c', l, m, rfl, hl, hm, o1, o2, hb⟩
set_option maxRecDepth 100000 in
theorem drawOldTreeClash_any (cv : Value) (cs : List Int) (w : World) (h : Code w cv cs) (hob : cs ≠ [] → ∀ g, cv.ownBlock = some g → g < w.heap.size) :
    Calls Tryz.prog 22 #[cv] w fun e w' => ∃ (a a' : Option Addr) (c c' : Nat) (l m : Prl), e = .returned (.tuple #[.slice a l.length c, .slice a' m.length c']) ∧ l.length ≤ 13 ∧ m.length ≤ 13 ∧ w'.ownsRow w.heap.size 26 2 (.slice a l.length c) l.length ((fl l).map (Value.int .i64)) ∧ w'.ownsRow w.heap.size 26 2 (.slice a' m.length c') m.length ((fl m).map (Value.int .i64)) ∧ Below w.heap.size w w' := by
  have hP := l8Pair_any cv cs w h hob
  obtain ⟨x, n, y, rfl⟩ := h.shape
  clear h hob
  go_enter Tryz.func22, Tryz.ntmps22
  go_wp2_with fail
  refine hP.mono ?_
  rintro e w1 ⟨v, u, l, m, rfl, hl, hm, o1, o2, hb⟩
  obtain ⟨a, c, rfl⟩ := own_shape2 o1
  obtain ⟨a', c', rfl⟩ := own_shape2 o2
  clear hP
  go_wp2
  exact bodyPost_ret (v := .tuple #[.slice a l.length c, .slice a' m.length c']) (by simp [results, Tryz.results22, go_sem]) rfl ⟨a, a', c, c', l, m, rfl, hl, hm, o1, o2, hb⟩
end U
end Go.Proofs.YtljbcpkjhnbpeaaGreatDoor
