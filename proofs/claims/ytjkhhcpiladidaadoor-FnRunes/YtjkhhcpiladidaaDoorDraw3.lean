/- The three draws of chapter 1's law: a text, a list of numbers, a text and a place. -/
import Derived.Test.YtjkhhcpiladidaaDoorDraw2
namespace Go.Proofs.YtjkhhcpiladidaaDoor
open Go.RowKit
namespace U
set_option maxHeartbeats 1000000 in
theorem drawRunesOf_any (cv : Value) (cs : List Int) (w : World) (h : Code w cv cs) (hob : cs ≠ [] → ∀ g, cv.ownBlock = some g → g < w.heap.size) :
    Calls Tryd.prog 7 #[cv] w fun e w' => ∃ s : ByteArray, s.size ≤ 201 ∧ e = .returned (.string s) ∧ Below w.heap.size w w' := by
  obtain ⟨i0, hi, hz0, hz1, hz2⟩ := info_parts Tryd.infoU8
  have hsrc := h.src hob
  have hshape := h.shape
  clear h hob
  go_enter Tryd.func7, Tryd.ntmps7
  go_wp2_with fail
  refine (l1Source_any cv _ hshape).mono ?_
  rintro e w1 ⟨rfl, rfl⟩
  go_wp2_with fail
  refine (l1Chance_any _ 0 cv cs 40 _ hsrc (by omega) (by omega) (by omega)).mono ?_
  rintro e w2 ⟨r, rfl, hg2, hs2⟩
  clear hsrc hshape
  cases r with
  | true =>
    go_wp2_with (at_make; refine wpList_make_full _ rfl _ _ 22 rfl w2.heap.size 5 i0 (.int .u8 0) 1 Tryd.underlying22 hi hz0 hz1 _ _ _ _ 201 rfl rfl rfl rfl (by rw [hz2]; omega) (by unfold maxLen; omega) (Nat.le_refl _) ?_)
    intro w3 hown3 hg3
    have hcv := conv_own (P := Tryd.prog) (l := List.replicate 201 0) 22 9 Tryd.underlying22 Tryd.underlying5 Tryd.underlying9 (by rw [List.map_replicate, List.length_replicate, ← toList_madeCells_one]; exact hown3) (by intro b hb; rw [List.mem_replicate] at hb; rw [hb.2]; omega)
    have hB3 : Below w.heap.size w w3 := below_src (grown_new hg2 hg3 (fun g e => by cases e))
    have hts : (strOf (List.replicate 201 0)).size ≤ 201 := by rw [strOf_size, List.length_replicate]; omega
    generalize strOf (List.replicate 201 0) = tt at *
    clear hown3 hg3 hg2 hs2
    go_wp2
    go_ret
    exact ⟨_, hts, rfl, hB3⟩
  | false =>
    go_wp2_with fail
    refine (l1Bent_any _ 1 cv cs _ hs2 (by omega)).mono ?_
    rintro e w3 ⟨t, ht, rfl, hg3, _⟩
    have hB3 : Below w.heap.size w w3 := below_src (grown_trans hg2 hg3)
    clear hg2 hg3 hs2
    go_wp2
    go_ret
    exact ⟨t, by omega, rfl, hB3⟩
set_option maxHeartbeats 1000000 in
theorem drawRuneAt_any (cv : Value) (cs : List Int) (w : World) (h : Code w cv cs) (hob : cs ≠ [] → ∀ g, cv.ownBlock = some g → g < w.heap.size) :
    Calls Tryd.prog 11 #[cv] w fun e w' => ∃ (s : ByteArray) (a : Int), s.size ≤ 20 ∧ -1 ≤ a ∧ a ≤ s.size ∧ e = .returned (.tuple #[.string s, .int .i64 a]) ∧ Below w.heap.size w w' := by
  have hsrc := h.src hob
  have hshape := h.shape
  clear h hob
  go_enter Tryd.func11, Tryd.ntmps11
  go_wp2_with fail
  refine (l1Source_any cv _ hshape).mono ?_
  rintro e w1 ⟨rfl, rfl⟩
  go_wp2_with fail
  refine (l1Bent_any _ 0 cv cs _ hsrc (by omega)).mono ?_
  rintro e w2 ⟨t, ht, rfl, hg2, a2, ha2, ha2', hs2⟩
  clear hsrc hshape
  have hN := l1Next_any w.heap.size a2 cv cs (t.size + 2) w2 hs2 (by omega) (by omega) (by omega)
  have hcast : ((t.size + 2 : Nat) : Int) = (t.size : Int) + 2 := by omega
  rw [hcast] at hN
  clear hcast
  go_wp2_with fail
  refine hN.mono ?_
  rintro e w3 ⟨r, hr, rfl, hg3, hs3⟩
  have hB3 : Below w.heap.size w w3 := below_src (grown_trans hg2 hg3)
  clear hN hg2 hg3 hs2 hs3
  go_wp2
  go_ret2
  exact ⟨t, (r : Int) - 1, ht, by omega, by omega, rfl, hB3⟩
set_option maxHeartbeats 2000000 in
theorem drawTextOf_any (cv : Value) (cs : List Int) (w : World) (h : Code w cv cs) (hob : cs ≠ [] → ∀ g, cv.ownBlock = some g → g < w.heap.size) :
    Calls Tryd.prog 9 #[cv] w fun e w' => ∃ (v : Value) (xs : List Int), xs.length ≤ 51 ∧ e = .returned v ∧ Ints .i64 w' v xs ∧ Below w.heap.size w w' := by
  obtain ⟨i0, hi, hz0, hz1, hz2⟩ := info_parts Tryd.infoI64
  have hsrc := h.src hob
  have hshape := h.shape
  clear h hob
  go_enter Tryd.func9, Tryd.ntmps9
  go_wp2_with fail
  refine (l1Source_any cv _ hshape).mono ?_
  rintro e w1 ⟨rfl, rfl⟩
  have hown0 := World.ownsRow_lit (base := w.heap.size + 1) (e := 2) (size := 1) (w.alloc (.cells #[cv, .int .i64 0] 85)) #[] 0 (by simp) (by decide) rfl
  have hs0 := hsrc.alloc (.cells #[] 2)
  have hg0 := World.grownBy_alloc (w.alloc (.cells #[cv, .int .i64 0] 85)) (.cells #[] 2) (some w.heap.size)
  have hz : (w.alloc (.cells #[cv, .int .i64 0] 85)).heap.size = w.heap.size + 1 := by simp
  rw [hz] at hown0
  go_wp2_with fail
  refine (l1Next_any _ 0 cv cs 5 _ hs0 (by omega) (by omega) (by omega)).mono ?_
  rintro e w2 ⟨r, hr, rfl, hg2, hs2⟩
  have hown2 := hown0.kept hg2 (Or.inr (by simp [Value.ownBlock]))
  have hgg2 := grown_trans hg0 hg2
  clear hg0 hg2 hs0 hown0 hsrc hshape hz
  go_wp2
  go_loopw [4, 5] (fun v i wr => ∃ (k : Nat) (l : List Int) (a' : Nat), i = .int .i64 k ∧ l.length + k ≤ 4 ∧ a' + k ≤ 5 ∧ (w.alloc (.cells #[cv, .int .i64 0] 85)).grownBy wr (some w.heap.size) ∧ SrcAt w.heap.size cv cs a' wr ∧ wr.ownsRow (w.heap.size + 1) 2 1 v l.length (l.map (Value.int .i64))) (fun _ i _ => (intOf i).toNat)
  case atStart => exact ⟨r, [], 1, rfl, by simp; omega, by omega, hgg2, hs2, hown2⟩
  case round =>
    obtain ⟨k, l, a', rfl, hlk, hak, hg, hs, ho⟩ := hrel
    have hwsz := hg.size
    simp only [World.size_alloc] at hwsz
    by_cases hk : 0 < k
    · have hki : (0 : Int) < (k : Int) := by omega
      go_wp2_with (first
        | (go_at_call 32; refine (l1DrawRune_any _ a' cv cs _ hs (by omega)).mono ?_; rintro e w3 ⟨x, hx, rfl, hg3, hs3⟩)
        | (at_builtin; refine wpList_append_own _ rfl _ _ 25 rfl (w.heap.size + 1) 2 i0 (.int .i64 0) 1 8 Tryd.underlying25 hi hz0 hz1 hz2 rfl (by decide) _ _ _ rfl ((ho.kept hg3 (Or.inr (fun e => by have := (ho.lt _ e).1; omega))).alloc _) ⟨w3.heap.size, 0, none⟩ 1 1 [.int .i64 x] rfl rfl (cell_one_new _ _ _) (one_cell _ _) (by unfold maxLen; omega) (by omega) (by have := hg3.size; simp; omega) ?_))
      intro v' w4 hown4 hgrow _
      have hrow : ∀ g, u4.ownBlock = some g → w.heap.size + 1 ≤ g := fun g hg => (ho.lt g hg).1
      have hg4 := grown_new (grown_new (grown_trans hg hg3) (World.grownBy_alloc _ _ none) (fun g e => by cases e)) hgrow (fun g e => by have := hrow g e; simp; omega)
      have hs4 : SrcAt w.heap.size cv cs (a' + 1) w4 := (hs3.alloc _).grown hgrow (fun g e => by have := hrow g e; omega)
      have hown5 : w4.ownsRow (w.heap.size + 1) 2 1 v' (l ++ [x]).length ((l ++ [x]).map (Value.int .i64)) := by rw [List.map_append, List.length_append]; exact hown4
      clear hgrow hown4 ho hg3 hs3 hs hg
      go_wp2
      go_roundw
      case rel => exact ⟨k - 1, l ++ [x], a' + 1, by go_num, by simp; omega, by omega, hg4, hs4, hown5⟩
      case measure => simp [intOf]; omega
    · have hk : k = 0 := by omega
      subst hk
      go_wp2_with fail
      refine (l1Next_any _ a' cv cs 8 _ hs (by omega) (by omega) (by omega)).mono ?_
      rintro e w3 ⟨s, hs8, rfl, hg3, hs3⟩
      have ho3 := ho.kept hg3 (Or.inr (fun e => by have := (ho.lt _ e).1; omega))
      have hg33 := grown_trans hg hg3
      have hw3 := hg33.size
      simp only [World.size_alloc] at hw3
      have hrow : ∀ g, u4.ownBlock = some g → w.heap.size + 1 ≤ g := fun g hg => (ho.lt g hg).1
      clear hs hg ho hg3
      rcases (show s = 0 ∨ s = 1 ∨ 2 ≤ s by omega) with rfl | rfl | hs2
      · go_wp2_with (first
          | (go_at_call 33; refine (l1Pick_any _ (a' + 1) cv cs _ [-1, 55296, 57343, 57344, 1114112] _ (hs3.alloc _) (by omega) (lit_ints .i64 [-1, 55296, 57343, 57344, 1114112] 2 5) (by simp [Value.ownBlock]; omega) (by decide) (by decide)).mono ?_; rintro e w4 ⟨x, hx, rfl, hg4, hs4⟩)
          | (at_builtin; refine wpList_append_own _ rfl _ _ 25 rfl (w.heap.size + 1) 2 i0 (.int .i64 0) 1 8 Tryd.underlying25 hi hz0 hz1 hz2 rfl (by decide) _ _ _ rfl (((ho3.alloc _).kept hg4 (Or.inr (fun e => by have := hrow _ e; omega))).alloc _) ⟨w4.heap.size, 0, none⟩ 1 1 [.int .i64 x] rfl rfl (cell_one_new _ _ _) (one_cell _ _) (by unfold maxLen; omega) (by omega) (by have := hg4.size; simp at this; simp; omega) ?_))
        intro v' w5 hown5 hgrow _
        have hg5 := grown_new (grown_new (grown_trans (grown_new hg33 (World.grownBy_alloc _ _ none) (fun g e => by cases e)) hg4) (World.grownBy_alloc _ _ none) (fun g e => by cases e)) hgrow (fun g e => by have := hrow g e; simp; omega)
        have hown6 : w5.ownsRow (w.heap.size + 1) 2 1 v' (l ++ [x]).length ((l ++ [x]).map (Value.int .i64)) := by rw [List.map_append, List.length_append]; exact hown5
        have hi6 := own_ints hown6
        have hB := below_src hg5
        clear hgrow hown5 hown6 ho3 hg4 hs4 hs3 hg33 hg5
        go_wp2
        go_ret
        exact ⟨_, l ++ [x], by simp; omega, rfl, hi6, hB⟩
      · go_wp2_with fail
        refine (l1Pick_any _ (a' + 1) cv cs _ [50, 51] _ (hs3.alloc _) (by omega) (lit_ints .i64 [50, 51] 2 2) (by simp [Value.ownBlock]; omega) (by decide) (by decide)).mono ?_
        rintro e w4 ⟨x, hx, rfl, hg4, hs4⟩
        obtain ⟨n, hn, hx2⟩ : ∃ n : Nat, (n = 50 ∨ n = 51) ∧ x = (n : Int) := by
          simp at hx
          rcases hx with rfl | rfl
          · exact ⟨50, Or.inl rfl, rfl⟩
          · exact ⟨51, Or.inr rfl, rfl⟩
        rw [hx2]
        have hg44 := grown_trans (grown_new hg33 (World.grownBy_alloc _ _ none) (fun g e => by cases e)) hg4
        clear hx hx2 hg33 hg4 hs4 hs3 ho3
        go_wp2_with (at_make; refine wpList_make_full _ rfl _ _ 25 rfl w4.heap.size 2 i0 (.int .i64 0) 1 Tryd.underlying25 hi hz0 hz1 _ _ _ _ n rfl rfl rfl rfl (by rw [hz2]; omega) (by unfold maxLen; omega) (Nat.le_refl _) ?_)
        intro w5 hown5 hg5
        have hown6 : w5.ownsRow w4.heap.size 2 1 (.slice (some ⟨w4.heap.size, 0, none⟩) n n) (List.replicate n (0 : Int)).length ((List.replicate n (0 : Int)).map (Value.int .i64)) := by rw [List.map_replicate, List.length_replicate, ← toList_madeCells_one]; exact hown5
        have hi6 := own_ints hown6
        have hB := below_src (grown_new hg44 hg5 (fun g e => by cases e))
        clear hown5 hown6 hg5 hg44
        go_wp2
        go_ret
        exact ⟨_, List.replicate n 0, by rw [List.length_replicate]; omega, rfl, hi6, hB⟩
      · have e0 : ((s : Int) == 0) = false := by simp; omega
        have e1 : ((s : Int) == 1) = false := by simp; omega
        have hi6 := own_ints ho3
        have hB := below_src hg33
        clear ho3 hg33 hs3
        go_wp2
        go_ret
        exact ⟨_, l, by omega, rfl, hi6, hB⟩
end U
end Go.Proofs.YtjkhhcpiladidaaDoor
