/- Slots, a slot and bounds that are drawn. -/
import Derived.Test.YtgflamlfplpfdaaSlD
namespace Go.Proofs.Ytgflamlfplpfdaa
open Go.RowKit
namespace U
def pickC : List Int := [0, 1, 128, 257, -1]
def pickD : List Int := [128, 256, 257, 0]
def pickE : List Int := [7, 65520, 65521]
set_option maxRecDepth 100000 in
set_option maxHeartbeats 2000000 in
theorem drawCutSlots_any (cv : Value) (cs : List Int) (w : World) (h : Code w cv cs) (hob : cs ≠ [] → ∀ g, cv.ownBlock = some g → g < w.heap.size) :
    Calls Try.prog 14 #[cv] w fun e w' => ∃ (a : Option Addr) (c : Nat) (l : Prl) (x y : Int), e = .returned (.tuple #[.slice a l.length c, .int .i64 x, .int .i64 y]) ∧ l.length ≤ 13 ∧ x ∈ pickC ∧ y ∈ pickD ∧ w'.ownsRow w.heap.size 26 2 (.slice a l.length c) l.length ((fl l).map (Value.int .i64)) ∧ Below w.heap.size w w' := by
  have hsrc := h.src hob
  have hshape := h.shape
  clear h hob
  go_enter Try.func14, Try.ntmps14
  go_wp2_with fail
  refine (l1Source_any cv _ hshape).mono ?_
  rintro e w1 ⟨rfl, rfl⟩
  go_wp2_with fail
  refine (l4Bent_any _ 0 cv cs _ hsrc (by omega)).mono ?_
  rintro e w2 ⟨v2, l, a2, rfl, hl, ho2, hg2, ha2, hs2⟩
  rw [World.size_alloc] at ho2
  obtain ⟨b2, c2, rfl⟩ := own_shape2 ho2
  have hz2 : w.heap.size + 1 ≤ w2.heap.size := by have := hg2.size; simpa using this
  clear hsrc hshape
  go_wp2_with fail
  refine (l1Pick_any w.heap.size a2 cv cs _ pickC _ (hs2.alloc _) (by omega) (lit_ints .i64 pickC 2 5) (by simp [Value.ownBlock]; omega) (by decide) (by decide)).mono ?_
  rintro e w3 ⟨x, hx, rfl, hg3, hs3⟩
  have hG3 := grown_trans hg2 (grown_trans (World.grownBy_alloc _ _ _) hg3)
  have ho3 := own_grown (ho2.alloc _) hg3 (Or.inr (fun e => by have := (ho2.lt _ e).1; omega))
  have hz3 : w.heap.size + 1 ≤ w3.heap.size := by have := hG3.size; simpa using this
  clear hg3 hs2 ho2 hg2
  go_wp2_with fail
  refine (l1Pick_any w.heap.size (a2 + 1) cv cs _ pickD _ (hs3.alloc _) (by omega) (lit_ints .i64 pickD 2 4) (by simp [Value.ownBlock]; omega) (by decide) (by decide)).mono ?_
  rintro e w4 ⟨y, hy, rfl, hg4, hs4⟩
  have hG4 := grown_trans hG3 (grown_trans (World.grownBy_alloc _ _ _) hg4)
  have ho4 := own_grown (ho3.alloc _) hg4 (Or.inr (fun e => by have := (ho3.lt _ e).1; omega))
  have hB4 : Below w.heap.size w w4 := below_src hG4
  clear hg4 hs3 hs4 ho3 hG3 hG4
  go_wp2
  go_ret3
  exact ⟨b2, c2, l, x, y, rfl, hl, hx, hy, own_mono ho4 (by omega), hB4⟩
/-- The list that is full. -/
def fullL (k : Nat) : Prl := (List.range k).map fun (j : Nat) => (20 * (j : Int), 0)
theorem fullL_succ (k : Nat) : fullL (k + 1) = fullL k ++ [(20 * (k : Int), 0)] := by unfold fullL; rw [List.range_succ, List.map_append]; rfl
theorem fullL_len (k : Nat) : (fullL k).length = k := by simp [fullL]
set_option maxRecDepth 100000 in
set_option maxHeartbeats 4000000 in
theorem drawPutSlot_any (cv : Value) (cs : List Int) (w : World) (h : Code w cv cs) (hob : cs ≠ [] → ∀ g, cv.ownBlock = some g → g < w.heap.size) :
    Calls Try.prog 12 #[cv] w fun e w' => ∃ (a : Option Addr) (c : Nat) (l : Prl) (x y : Int), e = .returned (.tuple #[.slice a l.length c, .agg #[.int .i64 x, .int .i64 y]]) ∧ l.length ≤ 13 ∧ (0 ≤ x ∧ x ≤ 256) ∧ y ∈ pickE ∧ w'.ownsRow w.heap.size 26 2 (.slice a l.length c) l.length ((fl l).map (Value.int .i64)) ∧ Below w.heap.size w w' := by
  obtain ⟨i0, hi, hz0, hz1, hz2⟩ := info_parts Try.infoSl
  have hsrc := (h.below (one_new (.cells #[.int .i64 0, .int .i64 0] 26))).src (fun hne g hg => by have := hob hne g hg; simp; omega)
  have hshape := h.shape
  rw [World.size_alloc] at hsrc
  clear h hob
  go_enter Try.func12, Try.ntmps12
  go_wp2_with fail
  refine (l1Source_any cv _ hshape).mono ?_
  rintro e w1 ⟨rfl, rfl⟩
  rw [World.size_alloc]
  obtain ⟨W1, hW1⟩ : ∃ W1, W1 = (w.alloc (.cells #[.int .i64 0, .int .i64 0] 26)).alloc (.cells #[cv, .int .i64 0] 122) := ⟨_, rfl⟩
  have hB1 : Below w.heap.size w W1 := by rw [hW1]; exact two_new _ _
  have hR1 : W1.heap[w.heap.size]? = some (.cells #[.int .i64 0, .int .i64 0] 26) := by rw [hW1]; exact (Below.heap_alloc _ _ _ (by simp)).trans (heap_alloc_new w _)
  have hZ1 : w.heap.size + 2 ≤ W1.heap.size := by rw [hW1]; simp
  rw [← hW1] at hsrc ⊢
  clear hW1
  go_wp2_with fail
  refine (l4Bent_any _ 0 cv cs _ hsrc (by omega)).mono ?_
  rintro e w2 ⟨v2, l, a2, rfl, hl, ho2, hg2, ha2, hs2⟩
  obtain ⟨b2, c2, rfl⟩ := own_shape2 ho2
  have hz2 := hg2.size
  clear hsrc hshape
  go_wp2_with fail
  refine (l1Chance_any (w.heap.size + 1) a2 cv cs 6 _ hs2 (by omega) (by omega) (by omega)).mono ?_
  rintro e w3 ⟨r, rfl, hg3, hs3⟩
  have hG3 := grown_trans hg2 hg3
  have ho3 := own_grown ho2 hg3 (Or.inr (fun e => by have := (ho2.lt _ e).1; omega))
  have hz3 := hG3.size
  clear hg2 hg3 hs2 ho2
  cases r
  · skip
    go_wp2_with fail
    refine (l4DrawKey_any (w.heap.size + 1) (a2 + 1) cv cs _ hs3 (by omega)).mono ?_
    rintro e w5 ⟨x, hx0, hx1, rfl, hg5, hs5⟩
    have hG5 := grown_trans hG3 hg5
    have ho5 := own_grown ho3 hg5 (Or.inr (fun e => by have := (ho3.lt _ e).1; omega))
    have hz5 := hG5.size
    clear hg5
    go_wp2_with fail
    refine (l1Pick_any (w.heap.size + 1) (a2 + 1 + 1) cv cs _ [x, 256] _ (hs5.alloc _) (by omega) (lit_ints .i64 [x, 256] 2 2) (by simp [Value.ownBlock]; omega) (by simp) (by simp)).mono ?_
    rintro e w6 ⟨x6, hx6, rfl, hg6, hs6⟩
    have hG6 := grown_trans hG5 (grown_trans (World.grownBy_alloc _ _ _) hg6)
    have ho6 := own_grown (ho5.alloc _) hg6 (Or.inr (fun e => by have := (ho5.lt _ e).1; omega))
    have hz6 := hG6.size
    have hxb : 0 ≤ x6 ∧ x6 ≤ 256 := by simp at hx6; omega
    clear hg6 hs5 ho5 hG5 hx6
    go_wp2_with fail
    refine (l1Pick_any (w.heap.size + 1) (a2 + 1 + 1 + 1) cv cs _ pickE _ (hs6.alloc _) (by omega) (lit_ints .i64 pickE 2 3) (by simp [Value.ownBlock]; omega) (by decide) (by decide)).mono ?_
    rintro e w7 ⟨y7, hy7, rfl, hg7, hs7⟩
    have hG7 := grown_trans hG6 (grown_trans (World.grownBy_alloc _ _ _) hg7)
    have ho7 := own_grown (ho6.alloc _) hg7 (Or.inr (fun e => by have := (ho6.lt _ e).1; omega))
    have hB7 : Below w.heap.size w w7 := hB1.grown hG7 (by omega) (fun k hk => by cases hk; omega)
    obtain ⟨s0, s1, t0, t1⟩ := two_cellsV ((hG7.block w.heap.size (by omega) (by simp)).trans hR1)
    have HO7 : Hid (w7.ownsRow (w.heap.size + 1) 26 2 (.slice b2 l.length c2) l.length ((fl l).map (Value.int .i64))) := own_mono ho7 (by omega)
    clear hg7 hs6 hs7 ho6 ho7 hG6 hG7
    go_wp2
    refine bodyPost_ret (v := .tuple #[.slice b2 l.length c2, .agg #[.int .i64 x6, .int .i64 y7]]) (by simp [results, Try.results12, go_sem, *]) rfl ⟨_, _, l, x6, y7, rfl, hl, hxb, hy7, ?_, (hB7.setCell (Nat.le_refl _) _).setCell (Nat.le_refl _) _⟩
    exact own_mono (ownsRow_setCell_below (ownsRow_setCell_below HO7.out (by show w.heap.size < w.heap.size + 1; omega) _) (by show w.heap.size < w.heap.size + 1; omega) _) (Nat.le_succ _)
  · have hq3 := hs3.lt
    clear ho3
    go_wp2
    go_loopw [5, 6] (fun u i wr => ∃ k : Nat, k ≤ 12 ∧ i = .int .i64 k ∧ Hid (W1.grownBy wr (some (w.heap.size + 1))) ∧ Hid (SrcAt (w.heap.size + 1) cv cs (a2 + 1) wr) ∧ Hid (wr.ownsRow W1.heap.size 26 2 u (fullL k).length ((fl (fullL k)).map (Value.int .i64)))) (fun _ i _ => 12 - (intOf i).toNat)
    case atStart => exact ⟨0, by omega, rfl, hG3, hs3, World.ownsRow_nil _ _ _ _⟩
    case round =>
      obtain ⟨k, hk, rfl, HG, HS, HO⟩ := hrel
      obtain ⟨b4, c4, rfl⟩ := own_shape2 HO.out
      have hz4 := HG.out.size
      by_cases hk12 : k < 12
      · have hki : (k : Int) < 12 := by omega
        have hlen : (fullL k).length ≤ 12 := by rw [fullL_len]; omega
        have HSC : Hid (fullL (k + 1) = fullL k ++ [(20 * (k : Int), 0)]) := fullL_succ k
        have ho4 := HO.out
        generalize fullL k = m at *
        clear HO
        go_wp2_with (at_builtin; refine wpList_append_own _ rfl _ _ 24 rfl W1.heap.size 26 i0 (.agg #[.int .i64 0, .int .i64 0]) 2 16 Try.underlying24 hi hz0 hz1 (by assumption) rfl (by decide) _ _ _ rfl (ho4.alloc _) ⟨wr.heap.size, 0, none⟩ 1 1 [.int .i64 (20 * (k : Int)), .int .i64 0] rfl rfl (World.news_of_block (heap_alloc_new _ _)) (ints_oneCell .i64 [20 * (k : Int), 0]) (by unfold maxLen; omega) (by omega) (by simp; omega) ?_)
        intro v5 w5 hown5 hgrow5 _
        have hG5 : W1.grownBy w5 (some (w.heap.size + 1)) := grown_new (grown_new HG.out (World.grownBy_alloc _ _ none) (fun g e => by cases e)) hgrow5 (fun g e => (ho4.lt g e).1)
        have hs5 : SrcAt (w.heap.size + 1) cv cs (a2 + 1) w5 := (HS.out.alloc _).grown hgrow5 (fun g e => by have := (ho4.lt g e).1; omega)
        have own5 := own_snoc hown5
        clear hgrow5 hown5 ho4
        go_wp2
        go_roundw
        case rel => exact ⟨k + 1, by omega, by go_num, hG5, hs5, by rw [HSC.out]; exact own5⟩
        case measure => simp [intOf]; omega
      · have hk12 : k = 12 := by omega
        have hki : ¬ (k : Int) < 12 := by omega
        have hfl : (fullL k).length ≤ 13 := by rw [fullL_len]; omega
        have ho4 := HO.out
        have hG4 := HG.out
        have hs4 := HS.out
        generalize fullL k = m at *
        clear HO HG HS hk12
        go_wp2_with fail
        refine (l4DrawKey_any (w.heap.size + 1) (a2 + 1) cv cs _ hs4 (by omega)).mono ?_
        rintro e w5 ⟨x, hx0, hx1, rfl, hg5, hs5⟩
        have hG5 := grown_trans hG4 hg5
        have ho5 := own_grown ho4 hg5 (Or.inr (fun e => by have := (ho4.lt _ e).1; omega))
        have hz5 := hG5.size
        clear hg5
        go_wp2_with fail
        refine (l1Pick_any (w.heap.size + 1) (a2 + 1 + 1) cv cs _ [x, 256] _ (hs5.alloc _) (by omega) (lit_ints .i64 [x, 256] 2 2) (by simp [Value.ownBlock]; omega) (by simp) (by simp)).mono ?_
        rintro e w6 ⟨x6, hx6, rfl, hg6, hs6⟩
        have hG6 := grown_trans hG5 (grown_trans (World.grownBy_alloc _ _ _) hg6)
        have ho6 := own_grown (ho5.alloc _) hg6 (Or.inr (fun e => by have := (ho5.lt _ e).1; omega))
        have hz6 := hG6.size
        have hxb : 0 ≤ x6 ∧ x6 ≤ 256 := by simp at hx6; omega
        clear hg6 hs5 ho5 hG5 hx6
        go_wp2_with fail
        refine (l1Pick_any (w.heap.size + 1) (a2 + 1 + 1 + 1) cv cs _ pickE _ (hs6.alloc _) (by omega) (lit_ints .i64 pickE 2 3) (by simp [Value.ownBlock]; omega) (by decide) (by decide)).mono ?_
        rintro e w7 ⟨y7, hy7, rfl, hg7, hs7⟩
        have hG7 := grown_trans hG6 (grown_trans (World.grownBy_alloc _ _ _) hg7)
        have ho7 := own_grown (ho6.alloc _) hg7 (Or.inr (fun e => by have := (ho6.lt _ e).1; omega))
        have hB7 : Below w.heap.size w w7 := hB1.grown hG7 (by omega) (fun k hk => by cases hk; omega)
        obtain ⟨s0, s1, t0, t1⟩ := two_cellsV ((hG7.block w.heap.size (by omega) (by simp)).trans hR1)
        have HO7 : Hid (w7.ownsRow (w.heap.size + 1) 26 2 (.slice b4 m.length c4) m.length ((fl m).map (Value.int .i64))) := own_mono ho7 (by omega)
        clear hg7 hs6 hs7 ho6 ho7 hG6 hG7
        go_wp2
        refine bodyPost_ret (v := .tuple #[.slice b4 m.length c4, .agg #[.int .i64 x6, .int .i64 y7]]) (by simp [results, Try.results12, go_sem, *]) rfl ⟨_, _, m, x6, y7, rfl, hfl, hxb, hy7, ?_, (hB7.setCell (Nat.le_refl _) _).setCell (Nat.le_refl _) _⟩
        exact own_mono (ownsRow_setCell_below (ownsRow_setCell_below HO7.out (by show w.heap.size < w.heap.size + 1; omega) _) (by show w.heap.size < w.heap.size + 1; omega) _) (Nat.le_succ _)
end U
end Go.Proofs.Ytgflamlfplpfdaa
