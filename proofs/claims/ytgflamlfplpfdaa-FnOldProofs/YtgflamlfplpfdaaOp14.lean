/- Draws of proofs of the old tree, from a code. -/
import Derived.Test.YtgflamlfplpfdaaOp13
import Derived.Test.YtgflamlfplpfdaaSl8
namespace Go.Proofs.Ytgflamlfplpfdaa
open Go.RowKit
namespace U
set_option maxRecDepth 100000 in
set_option maxHeartbeats 2000000 in
theorem drawClimbOld_any (cv : Value) (cs : List Int) (w : World) (h : Code w cv cs) (hob : cs ≠ [] → ∀ g, cv.ownBlock = some g → g < w.heap.size) :
    Calls Try.prog 24 #[cv] w fun e w' => ∃ (x : Int) (b : Bool) (y : Int) (pa : Option Addr) (pc : Nat) (p : List Int), e = .returned (.tuple #[.int .i64 x, .bool b, .int .i64 y, .slice pa p.length pc]) ∧ p.length ≤ 8 ∧ Ints .i64 w' (.slice pa p.length pc) p ∧ Below w.heap.size w w' := by
  have hsrc := h.src hob
  have hshape := h.shape
  clear h hob
  go_enter Try.func24, Try.ntmps24
  go_wp2_with fail
  refine (l1Source_any cv _ hshape).mono ?_
  rintro e w1 ⟨rfl, rfl⟩
  go_wp2_with fail
  refine (l5With_any _ 0 cv cs _ hsrc (by omega)).mono ?_
  rintro e w2 ⟨va, vc, l, x, b, y, pa, pc, p, a', rfl, H2, hg2, -, -⟩
  have hB2 : Below w.heap.size w w2 := below_src hg2
  have hp2 := H2.path
  have hl2 := H2.le
  have HP : Hid (Ints .i64 w2 (.slice pa p.length pc) p ∧ p.length ≤ 8) := ⟨hp2, hl2⟩
  clear H2 hg2 hsrc hshape hp2 hl2
  generalize l.length = n at *
  go_wp2
  exact bodyPost_ret (v := .tuple #[.int .i64 x, .bool b, .int .i64 y, .slice pa p.length pc]) (by simp [results, Try.results24, go_sem]) rfl ⟨x, b, y, pa, pc, p, rfl, HP.out.2, HP.out.1, hB2⟩
set_option maxRecDepth 100000 in
set_option maxHeartbeats 2000000 in
theorem drawAcceptOld_any (cv : Value) (cs : List Int) (w : World) (h : Code w cv cs) (hob : cs ≠ [] → ∀ g, cv.ownBlock = some g → g < w.heap.size) :
    Calls Try.prog 26 #[cv] w fun e w' => ∃ (x : Int) (b : Bool) (y : Int) (pa : Option Addr) (pc : Nat) (p : List Int) (r : Int), e = .returned (.tuple #[.int .i64 x, .bool b, .int .i64 y, .slice pa p.length pc, .int .i64 r]) ∧ p.length ≤ 8 ∧ Ints .i64 w' (.slice pa p.length pc) p ∧ Below w.heap.size w w' := by
  have hsrc := h.src hob
  have hshape := h.shape
  clear h hob
  go_enter Try.func26, Try.ntmps26
  go_wp2_with fail
  refine (l1Source_any cv _ hshape).mono ?_
  rintro e w1 ⟨rfl, rfl⟩
  go_wp2_with fail
  refine (l5With_any _ 0 cv cs _ hsrc (by omega)).mono ?_
  rintro e w2 ⟨va, vc, l, x, b, y, pa, pc, p, a', rfl, H2, hg2, -, -⟩
  have hB2 : Below w.heap.size w w2 := below_src hg2
  have hR := l4Root_any _ l w2 (own_prs H2.own) (by have := H2.six; omega) H2.sls.fin
  have HP : Hid (∀ w', Below w2.heap.size w2 w' → Ints .i64 w' (.slice pa p.length pc) p ∧ p.length ≤ 8) := fun w' h => ⟨H2.path.below h, H2.le⟩
  clear H2 hg2 hsrc hshape
  generalize nd l 8 0 = rt at *
  generalize l.length = n at *
  go_wp2_with fail
  refine hR.mono ?_
  rintro e w3 ⟨rfl, hb3⟩
  have HP3 : Hid (Ints .i64 w3 (.slice pa p.length pc) p ∧ p.length ≤ 8) := HP.out _ hb3
  have hB3 := below_after_of hB2 hb3
  clear hR hb3 hB2 HP
  go_wp2
  exact bodyPost_ret (v := .tuple #[.int .i64 x, .bool b, .int .i64 y, .slice pa p.length pc, .int .i64 rt]) (by simp [results, Try.results26, go_sem]) rfl ⟨x, b, y, pa, pc, p, rt, rfl, HP3.out.2, HP3.out.1, hB3⟩
theorem lit_ints_at {w : World} (k : IntKind) (xs : List Int) (e : TypeId) (c : Nat) {g : Nat} (hg : g = w.heap.size) : Ints k (w.alloc (.cells (xs.map (Value.int k)).toArray e)) (.slice (some ⟨g, 0, none⟩) xs.length c) xs := by subst hg; exact lit_ints k xs e c
def pickI : List Int := [0, 1, 8, 9, -1]
set_option maxRecDepth 100000 in
set_option maxHeartbeats 2000000 in
theorem drawEmptySum_any (cv : Value) (cs : List Int) (w : World) (h : Code w cv cs) (hob : cs ≠ [] → ∀ g, cv.ownBlock = some g → g < w.heap.size) :
    Calls Try.prog 27 #[cv] w fun e w' => ∃ x : Int, e = .returned (.int .i64 x) ∧ Below w.heap.size w w' := by
  have hsrc := h.src hob
  have hshape := h.shape
  clear h hob
  go_enter Try.func27, Try.ntmps27
  go_wp2_with fail
  refine (l1Source_any cv _ hshape).mono ?_
  rintro e w1 ⟨rfl, rfl⟩
  go_wp2_with fail
  refine (l1Pick_any w.heap.size 0 cv cs _ pickI _ (hsrc.alloc _) (by omega) (lit_ints_at .i64 pickI 2 5 (by simp)) (by simp [Value.ownBlock]) (by decide) (by decide)).mono ?_
  rintro e w3 ⟨x, -, rfl, hg3, -⟩
  have hB3 : Below w.heap.size w w3 := below_src (grown_trans (World.grownBy_alloc _ _ _) hg3)
  clear hg3 hsrc hshape
  go_wp2
  go_ret
  exact ⟨x, rfl, hB3⟩
set_option maxRecDepth 100000 in
set_option maxHeartbeats 2000000 in
theorem drawOldPath_any (cv : Value) (cs : List Int) (w : World) (h : Code w cv cs) (hob : cs ≠ [] → ∀ g, cv.ownBlock = some g → g < w.heap.size) :
    Calls Try.prog 22 #[cv] w fun e w' => ∃ (a : Option Addr) (c : Nat) (l : Prl) (x : Int), e = .returned (.tuple #[.slice a l.length c, .int .i64 x]) ∧ l.length ≤ 13 ∧ w'.ownsRow w.heap.size 26 2 (.slice a l.length c) l.length ((fl l).map (Value.int .i64)) ∧ Below w.heap.size w w' := by
  have hsrc := h.src hob
  have hshape := h.shape
  clear h hob
  go_enter Try.func22, Try.ntmps22
  go_wp2_with fail
  refine (l1Source_any cv _ hshape).mono ?_
  rintro e w1 ⟨rfl, rfl⟩
  go_wp2_with fail
  refine (l4Bent_any _ 0 cv cs _ hsrc (by omega)).mono ?_
  rintro e w2 ⟨v2, l, a2, rfl, hl, ho2, hg2, ha2, hs2⟩
  rw [World.size_alloc] at ho2
  obtain ⟨b2, c2, rfl⟩ := own_shape2 ho2
  have hz2 : w.heap.size + 1 ≤ w2.heap.size := by have := hg2.size; simpa using this
  clear hsrc hshape
  go_wp2_with fail
  refine (l4DrawKey_any w.heap.size a2 cv cs _ hs2 (by omega)).mono ?_
  rintro e w3 ⟨x0, -, -, rfl, hg3, hs3⟩
  have hG3 := grown_trans hg2 hg3
  have ho3 := own_grown ho2 hg3 (Or.inr (fun e => by have := (ho2.lt _ e).1; omega))
  have hz3 : w.heap.size + 1 ≤ w3.heap.size := by have := hG3.size; simpa using this
  clear hg3 hs2 ho2 hg2
  go_wp2_with fail
  refine (l1Pick_any w.heap.size (a2 + 1) cv cs _ [x0, 6, 256, -1] _ (hs3.alloc _) (by omega) (lit_ints .i64 [x0, 6, 256, -1] 2 4) (by simp [Value.ownBlock]; omega) (by simp) (by simp)).mono ?_
  rintro e w4 ⟨y, hy, rfl, hg4, hs4⟩
  have hG4 := grown_trans hG3 (grown_trans (World.grownBy_alloc _ _ _) hg4)
  have ho4 := own_grown (ho3.alloc _) hg4 (Or.inr (fun e => by have := (ho3.lt _ e).1; omega))
  have hB4 : Below w.heap.size w w4 := below_src hG4
  clear hg4 hs3 hs4 ho3 hG3 hG4 hy
  go_wp2
  exact bodyPost_ret (v := .tuple #[.slice b2 l.length c2, .int .i64 y]) (by simp [results, Try.results22, go_sem]) rfl ⟨b2, c2, l, y, rfl, hl, own_mono ho4 (by omega), hB4⟩
end U
end Go.Proofs.Ytgflamlfplpfdaa
