/- Draws of chapter 2: a clash, two pieces. -/
import Derived.Test.YtdcfoggcepkelaaDraw5
namespace Go.Proofs.Ytdcfoggcepkelaa
open Go.RowKit
namespace U
theorem Two.setBelow {B : Nat} {w : World} {v u : Value} {ls bs : List Int} (h : Two (B + 1) w v u ls bs) (i : Nat) (x : Value) : Two (B + 1) (w.setCell ⟨B, i, none⟩ x) v u ls bs :=
  ⟨ownsRow_setCell_below h.1 (by show B < B + 1; omega) x, ownsRow_setCell_below h.2.1 (by show B < B + 1; omega) x, h.2.2⟩
theorem Two.other {B G : Nat} {w : World} {v u : Value} {ls bs : List Int} (h : Two B w v u ls bs) (hv : ∀ k, v.ownBlock = some k → k ≠ G) (hu : ∀ k, u.ownBlock = some k → k ≠ G) (i : Nat) (x : Value) : Two B (w.setCell ⟨G, i, none⟩ x) v u ls bs :=
  ⟨own_grown h.1 (setCellD_grown w G i x) (by
    rcases hk : v.ownBlock with _ | k
    · exact Or.inl rfl
    · exact Or.inr (fun e => hv k hk (Option.some.inj e))), own_grown h.2.1 (setCellD_grown w G i x) (by
    rcases hk : u.ownBlock with _ | k
    · exact Or.inl rfl
    · exact Or.inr (fun e => hu k hk (Option.some.inj e))), h.2.2⟩
set_option maxRecDepth 100000 in
set_option maxHeartbeats 4000000 in
theorem drawIsClash_any (cv : Value) (cs : List Int) (w : World) (h : Code w cv cs) (hob : cs ≠ [] → ∀ g, cv.ownBlock = some g → g < w.heap.size) :
    Calls Try.prog 11 #[cv] w fun e w' => ∃ (f : Bool) (v u : Value) (ls bs : List Int), e = .returned (.agg #[.bool f, v, u]) ∧ Two w.heap.size w' v u ls bs ∧ Below w.heap.size w w' := by
  obtain ⟨i0, hi, hz0, hz1, hz2⟩ := info_parts Try.infoB
  have hsrc := (h.below (one_new (.cells #[.bool false, .slice none 0 0, .slice none 0 0] 25))).src (fun hne g hg => by have := hob hne g hg; simp; omega)
  have hshape := h.shape
  rw [World.size_alloc] at hsrc
  clear h hob
  go_enter Try.func11, Try.ntmps11
  go_wp2_with fail
  refine (l1Source_any cv _ hshape).mono ?_
  rintro e w1 ⟨rfl, rfl⟩
  rw [World.size_alloc]
  obtain ⟨W1, hW1⟩ : ∃ W1, W1 = (w.alloc (.cells #[.bool false, .slice none 0 0, .slice none 0 0] 25)).alloc (.cells #[cv, .int .i64 0] 131) := ⟨_, rfl⟩
  have hB1 : Below w.heap.size w W1 := by rw [hW1]; exact two_new _ _
  have hR1 : W1.heap[w.heap.size]? = some (.cells #[.bool false, .slice none 0 0, .slice none 0 0] 25) := by rw [hW1]; exact (Below.heap_alloc _ _ _ (by simp)).trans (heap_alloc_new w _)
  have hZ1 : w.heap.size + 2 ≤ W1.heap.size := by rw [hW1]; simp
  rw [← hW1] at hsrc ⊢
  clear hW1 hshape
  go_wp2_with fail
  refine (l2Pair_any _ 0 cv cs _ hsrc (by omega)).mono ?_
  rintro e w2 ⟨v, u, ls, bs, rfl, T2, hg2, a2, ha2, hs2⟩
  have hzg2 := hg2.size
  have hlv := fun k hk => T2.1.lt k hk
  have hlu := fun k hk => T2.2.1.lt k hk
  obtain ⟨va, vc, rfl⟩ := own_shape T2.1
  obtain ⟨ua, uc, rfl⟩ := own_shape T2.2.1
  have hN := l1Next_any (w.heap.size + 1) a2 cv cs 5 _ (hs2.alloc (.cells #[.bool true, .slice va ls.length vc, .slice ua bs.length uc] 25)) (by omega) (by omega) (by omega)
  have T2a := T2.below (one_new (.cells #[.bool true, .slice va ls.length vc, .slice ua bs.length uc] 25))
  have C2 := heap_alloc_new w2 (.cells #[.bool true, .slice va ls.length vc, .slice ua bs.length uc] 25)
  clear T2
  go_wp2_with fail
  refine hN.mono ?_
  rintro e w3 ⟨r, hr, rfl, hg3, hs3⟩
  have hG3 : W1.grownBy w3 (some (w.heap.size + 1)) := grown_trans hg2 (grown_trans (World.grownBy_alloc _ _ _) hg3)
  have T3 := T2a.grown hg3 (fun k hk => by cases hk; omega)
  have C3 := (hg3.block w2.heap.size (by simp) (by simp; omega)).trans C2
  have hR3 := (hG3.block w.heap.size (by omega) (by simp)).trans hR1
  have hB3 : Below w.heap.size w w3 := hB1.grown hG3 (by omega) (fun k hk => by cases hk; omega)
  have hz3 : w2.heap.size < w3.heap.size := by have := hg3.size; simp at this; omega
  obtain ⟨x0, x1, x2, y0, y1, y2⟩ := three_cellsV C3
  clear hN hg2 hg3 hsrc hs2 T2a C2 C3
  by_cases e0 : r = 0
  · subst e0
    have T4 := T3.other (G := w2.heap.size) (fun k hk => by have := (hlv k hk).2; omega) (fun k hk => by have := (hlu k hk).2; omega) 0 (.bool false)
    have hB4 : Below w.heap.size w (w3.setCell ⟨w2.heap.size, 0, none⟩ (.bool false)) := hB3.setCell (by show w.heap.size ≤ w2.heap.size; omega) _
    have hR4 := (heap_setCell_other w3 ⟨w2.heap.size, 0, none⟩ w.heap.size (.bool false) (by show w.heap.size ≠ w2.heap.size; omega)).trans hR3
    obtain ⟨r0, r1, r2, z0, z1, z2⟩ := three_cellsV hR4
    have HT : Hid (Two (w.heap.size + 1) (w3.setCell ⟨w2.heap.size, 0, none⟩ (.bool false)) (.slice va ls.length vc) (.slice ua bs.length uc) ls bs) := T4.mono (by omega)
    have HBB : Hid (Below w.heap.size w (w3.setCell ⟨w2.heap.size, 0, none⟩ (.bool false))) := hB4
    go_wp2
    refine bodyPost_ret (v := .agg #[.bool false, .slice va ls.length vc, .slice ua bs.length uc]) (by simp [results, Try.results11, go_sem, *]) rfl ⟨false, .slice va ls.length vc, .slice ua bs.length uc, ls, bs, rfl, ?_, ((HBB.out.setCell (Nat.le_refl _) _).setCell (Nat.le_refl _) _).setCell (Nat.le_refl _) _⟩
    exact (((HT.out.setBelow _ _).setBelow _ _).setBelow _ _).mono (Nat.le_succ _)
  · by_cases e1 : r = 1
    · subst e1
      go_wp2_with fail
      refine (l1Copy_any W1.heap.size _ ls _ T3.1 (by have := T3.2.2.2.2.1; omega)).mono ?_
      intro e w4 h4
      obtain ⟨v4, rfl, ho4, hb4⟩ := h4
      obtain ⟨b4, c4, rfl⟩ := own_shape ho4
      have hB4 := below_after_of hB3 hb4
      have hR4 := (hb4.block w.heap.size (by omega)).trans hR3
      have hz4 := hb4.size
      have x0 := (hb4.cell (p := ⟨w2.heap.size, 0, none⟩) hz3).trans x0
      have x1 := (hb4.cell (p := ⟨w2.heap.size, 1, none⟩) hz3).trans x1
      have x2 := (hb4.cell (p := ⟨w2.heap.size, 2, none⟩) hz3).trans x2
      have y2 := (hb4.frozen (p := ⟨w2.heap.size, 2, none⟩) hz3).trans y2
      have T4 : Two W1.heap.size w4 (.slice va ls.length vc) (.slice b4 ls.length c4) ls ls := ⟨own_below T3.1 hb4, own_mono ho4 (by omega), T3.2.2.1, T3.2.2.1, T3.2.2.2.2.1, T3.2.2.2.2.1⟩
      have T5 := T4.other (G := w2.heap.size) (fun k hk => by have := (hlv k hk).2; omega) (fun k hk => by have := (ho4.lt k hk).1; omega) 2 (.slice b4 ls.length c4)
      have hB5 : Below w.heap.size w (w4.setCell ⟨w2.heap.size, 2, none⟩ (.slice b4 ls.length c4)) := hB4.setCell (by show w.heap.size ≤ w2.heap.size; omega) _
      have hR5 := (heap_setCell_other w4 ⟨w2.heap.size, 2, none⟩ w.heap.size (.slice b4 ls.length c4) (by show w.heap.size ≠ w2.heap.size; omega)).trans hR4
      clear ho4 hb4 T3 T4 hB3 hR3 hB4 hR4
      obtain ⟨r0, r1, r2, z0, z1, z2⟩ := three_cellsV hR5
      have HT : Hid (Two (w.heap.size + 1) (w4.setCell ⟨w2.heap.size, 2, none⟩ (.slice b4 ls.length c4)) (.slice va ls.length vc) (.slice b4 ls.length c4) ls ls) := T5.mono (by omega)
      have HBB : Hid (Below w.heap.size w (w4.setCell ⟨w2.heap.size, 2, none⟩ (.slice b4 ls.length c4))) := hB5
      go_wp2
      refine bodyPost_ret (v := .agg #[.bool true, .slice va ls.length vc, .slice b4 ls.length c4]) (by simp [results, Try.results11, go_sem, *]) rfl ⟨true, .slice va ls.length vc, .slice b4 ls.length c4, ls, ls, rfl, ?_, ((HBB.out.setCell (Nat.le_refl _) _).setCell (Nat.le_refl _) _).setCell (Nat.le_refl _) _⟩
      exact (((HT.out.setBelow _ _).setBelow _ _).setBelow _ _).mono (Nat.le_succ _)
    · by_cases e2 : r = 2
      · subst e2
        go_wp2_with fail
        refine (l1Some_any (w.heap.size + 1) (a2 + 1) cv cs 3 _ hs3 (by omega) (by omega)).mono ?_
        rintro e w4 ⟨v4, l4, hl4, hb4s, rfl, ho4, hg4, hs4⟩
        obtain ⟨b4, c4, rfl⟩ := own_shape ho4
        have hG4 := grown_trans hG3 hg4
        have hB4 : Below w.heap.size w w4 := hB1.grown hG4 (by omega) (fun k hk => by cases hk; omega)
        have hR4 := (hG4.block w.heap.size (by omega) (by simp)).trans hR1
        have hz4 := hg4.size
        have hne : some w2.heap.size ≠ some (w.heap.size + 1) := by simp; omega
        have x0 := hg4.cell x0 hne
        have x1 := hg4.cell x1 hne
        have x2 := hg4.cell x2 hne
        have y2 := (World.frozen?_of_block (a := ⟨w2.heap.size, 2, none⟩) (hg4.block w2.heap.size hz3 hne)).trans y2
        have T4 : Two W1.heap.size w4 (.slice va ls.length vc) (.slice b4 l4.length c4) ls l4 := ⟨(T3.grown hg4 (fun k hk => by cases hk; omega)).1, own_mono ho4 (by omega), T3.2.2.1, hb4s, T3.2.2.2.2.1, by omega⟩
        have T5 := T4.other (G := w2.heap.size) (fun k hk => by have := (hlv k hk).2; omega) (fun k hk => by have := (ho4.lt k hk).1; omega) 2 (.slice b4 l4.length c4)
        have hB5 : Below w.heap.size w (w4.setCell ⟨w2.heap.size, 2, none⟩ (.slice b4 l4.length c4)) := hB4.setCell (by show w.heap.size ≤ w2.heap.size; omega) _
        have hR5 := (heap_setCell_other w4 ⟨w2.heap.size, 2, none⟩ w.heap.size (.slice b4 l4.length c4) (by show w.heap.size ≠ w2.heap.size; omega)).trans hR4
        clear ho4 hg4 hs4 T3 T4 hB3 hR3 hB4 hR4 hG3 hG4 hl4 hb4s
        obtain ⟨r0, r1, r2, z0, z1, z2⟩ := three_cellsV hR5
        have HT : Hid (Two (w.heap.size + 1) (w4.setCell ⟨w2.heap.size, 2, none⟩ (.slice b4 l4.length c4)) (.slice va ls.length vc) (.slice b4 l4.length c4) ls l4) := T5.mono (by omega)
        have HBB : Hid (Below w.heap.size w (w4.setCell ⟨w2.heap.size, 2, none⟩ (.slice b4 l4.length c4))) := hB5
        go_wp2
        refine bodyPost_ret (v := .agg #[.bool true, .slice va ls.length vc, .slice b4 l4.length c4]) (by simp [results, Try.results11, go_sem, *]) rfl ⟨true, .slice va ls.length vc, .slice b4 l4.length c4, ls, l4, rfl, ?_, ((HBB.out.setCell (Nat.le_refl _) _).setCell (Nat.le_refl _) _).setCell (Nat.le_refl _) _⟩
        exact (((HT.out.setBelow _ _).setBelow _ _).setBelow _ _).mono (Nat.le_succ _)
      · by_cases e3 : r = 3
        · subst e3
          go_wp2_with (at_make; refine wpList_make_full _ rfl _ _ 22 rfl W1.heap.size 5 i0 (.int .u8 0) 1 Try.underlying22 hi hz0 hz1 _ _ _ _ 201 rfl rfl rfl rfl (by rw [hz2]; omega) (by unfold maxLen; omega) (by omega) ?_)
          intro w4 hown4 hg4
          have own4 : w4.ownsRow W1.heap.size 5 1 (.slice (some ⟨w3.heap.size, 0, none⟩) 201 201) 201 ((List.replicate 201 (0 : Int)).map (Value.int .u8)) := by rw [List.map_replicate, ← toList_madeCells_one]; exact hown4
          have hb4 : Below w3.heap.size w3 w4 := (Below.refl _ _).grown hg4 (Nat.le_refl _) (fun k hk => by cases hk)
          have hB4 := below_after_of hB3 hb4
          have hR4 := (hb4.block w.heap.size (by omega)).trans hR3
          have hz4 := hb4.size
          have x0 := (hb4.cell (p := ⟨w2.heap.size, 0, none⟩) hz3).trans x0
          have x1 := (hb4.cell (p := ⟨w2.heap.size, 1, none⟩) hz3).trans x1
          have x2 := (hb4.cell (p := ⟨w2.heap.size, 2, none⟩) hz3).trans x2
          have y1 := (hb4.frozen (p := ⟨w2.heap.size, 1, none⟩) hz3).trans y1
          have hzb : Bts (List.replicate 201 (0 : Int)) := fun b hb => by rw [List.eq_of_mem_replicate hb]; omega
          obtain ⟨zl, hzl⟩ : ∃ zl, zl = List.replicate 201 (0 : Int) := ⟨_, rfl⟩
          have hzn : zl.length = 201 := by rw [hzl]; simp
          rw [← hzl] at own4 hzb
          have T4 : Two W1.heap.size w4 (.slice (some ⟨w3.heap.size, 0, none⟩) 201 201) (.slice ua bs.length uc) zl bs := ⟨by rw [hzn]; exact own4, own_below T3.2.1 hb4, hzb, T3.2.2.2.1, by omega, T3.2.2.2.2.2⟩
          have T5 := T4.other (G := w2.heap.size) (fun k hk => by cases hk; dsimp only; omega) (fun k hk => by have := (hlu k hk).2; omega) 1 (.slice (some ⟨w3.heap.size, 0, none⟩) 201 201)
          have hB5 : Below w.heap.size w (w4.setCell ⟨w2.heap.size, 1, none⟩ (.slice (some ⟨w3.heap.size, 0, none⟩) 201 201)) := hB4.setCell (by show w.heap.size ≤ w2.heap.size; omega) _
          have hR5 := (heap_setCell_other w4 ⟨w2.heap.size, 1, none⟩ w.heap.size (.slice (some ⟨w3.heap.size, 0, none⟩) 201 201) (by show w.heap.size ≠ w2.heap.size; omega)).trans hR4
          clear own4 hown4 hg4 hb4 T3 T4 hB3 hR3 hB4 hR4 hzl hzn
          obtain ⟨r0, r1, r2, z0, z1, z2⟩ := three_cellsV hR5
          have HT : Hid (Two (w.heap.size + 1) (w4.setCell ⟨w2.heap.size, 1, none⟩ (.slice (some ⟨w3.heap.size, 0, none⟩) 201 201)) (.slice (some ⟨w3.heap.size, 0, none⟩) 201 201) (.slice ua bs.length uc) zl bs) := T5.mono (by omega)
          have HBB : Hid (Below w.heap.size w (w4.setCell ⟨w2.heap.size, 1, none⟩ (.slice (some ⟨w3.heap.size, 0, none⟩) 201 201))) := hB5
          go_wp2
          refine bodyPost_ret (v := .agg #[.bool true, .slice (some ⟨w3.heap.size, 0, none⟩) 201 201, .slice ua bs.length uc]) (by simp [results, Try.results11, go_sem, *]) rfl ⟨true, .slice (some ⟨w3.heap.size, 0, none⟩) 201 201, .slice ua bs.length uc, zl, bs, rfl, ?_, ((HBB.out.setCell (Nat.le_refl _) _).setCell (Nat.le_refl _) _).setCell (Nat.le_refl _) _⟩
          exact (((HT.out.setBelow _ _).setBelow _ _).setBelow _ _).mono (Nat.le_succ _)
        · have h0 : ((r : Int) == 0) = false := by simp; omega
          have h1 : ((r : Int) == 1) = false := by simp; omega
          have h2 : ((r : Int) == 2) = false := by simp; omega
          have h3 : ((r : Int) == 3) = false := by simp; omega
          obtain ⟨r0, r1, r2, z0, z1, z2⟩ := three_cellsV hR3
          have HT : Hid (Two (w.heap.size + 1) (w3) (.slice va ls.length vc) (.slice ua bs.length uc) ls bs) := T3.mono (by omega)
          have HBB : Hid (Below w.heap.size w (w3)) := hB3
          go_wp2
          refine bodyPost_ret (v := .agg #[.bool true, .slice va ls.length vc, .slice ua bs.length uc]) (by simp [results, Try.results11, go_sem, *]) rfl ⟨true, .slice va ls.length vc, .slice ua bs.length uc, ls, bs, rfl, ?_, ((HBB.out.setCell (Nat.le_refl _) _).setCell (Nat.le_refl _) _).setCell (Nat.le_refl _) _⟩
          exact (((HT.out.setBelow _ _).setBelow _ _).setBelow _ _).mono (Nat.le_succ _)
end U
end Go.Proofs.Ytdcfoggcepkelaa
