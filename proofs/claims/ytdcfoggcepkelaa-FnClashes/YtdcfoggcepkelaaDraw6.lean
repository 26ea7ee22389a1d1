/- Draws of chapter 2: a clash, two pieces, a tag and numbers; a choice of the law's own. -/
import Derived.Test.YtdcfoggcepkelaaDraw5
import Derived.Test.YtdcfoggcepkelaaQuiet
namespace Go.Proofs.Ytdcfoggcepkelaa
open Go.RowKit
namespace U
def pickT : List Int := [1, 9, 5, 0, 10]
def pickN : List Int := [20, 21]
def pickM : List Int := [-1, 65521]
theorem own_one6 {w : World} {B : Nat} {e : TypeId} {v : Value} {zs : List Int} {b : Int} (h : w.ownsRow B e 1 v (zs.length + 1) (zs.map (Value.int .i64) ++ [.int .i64 b])) : w.ownsRow B e 1 v (zs ++ [b]).length ((zs ++ [b]).map (Value.int .i64)) := by
  rw [List.map_append, List.length_append]; exact h
theorem zeros_i (n : Nat) : (madeCells #[Value.int .i64 0] (n * 1)).toList = (List.replicate n (0 : Int)).map (Value.int .i64) := by
  rw [Nat.mul_one, toList_madeCells_one, List.map_replicate]
set_option maxRecDepth 100000 in
set_option maxHeartbeats 4000000 in
theorem drawTagBytes_any (cv : Value) (cs : List Int) (w : World) (h : Code w cv cs) (hob : cs ≠ [] → ∀ g, cv.ownBlock = some g → g < w.heap.size) :
    Calls Try.prog 15 #[cv] w fun e w' => ∃ (tag : Int) (a : Option Addr) (c : Nat) (xs : List Int), e = .returned (.tuple #[.int .i64 tag, .slice a xs.length c]) ∧ xs.length ≤ 21 ∧ tag ∈ pickT ∧ w'.ownsRow w.heap.size 2 1 (.slice a xs.length c) xs.length (xs.map (Value.int .i64)) ∧ Below w.heap.size w w' := by
  obtain ⟨i0, hi, hz0, hz1, hz2⟩ := info_parts Try.infoI64
  have hsrc := h.src hob
  have hshape := h.shape
  clear h hob
  go_enter Try.func15, Try.ntmps15
  go_wp2_with fail
  refine (l1Source_any cv _ hshape).mono ?_
  rintro e w1 ⟨rfl, rfl⟩
  obtain ⟨W1, hW1⟩ : ∃ W1, W1 = w.alloc (.cells #[cv, .int .i64 0] 131) := ⟨_, rfl⟩
  have hB1 : Below w.heap.size w W1 := by rw [hW1]; exact one_new _
  have hZ1 : w.heap.size < W1.heap.size := by rw [hW1]; simp
  rw [← hW1] at hsrc ⊢
  clear hW1 hshape
  have hN := l1Next_any w.heap.size 0 cv cs 5 _ (hsrc.alloc (.cells #[] 2)) (by omega) (by omega) (by omega)
  have HO : Hid ((W1.alloc (.cells #[] 2)).ownsRow W1.heap.size 2 1 (.slice (some ⟨W1.heap.size, 0, none⟩) 0 0) 0 []) := World.ownsRow_made W1 #[] 0 (Nat.le_refl _) (by decide) rfl
  go_wp2_with fail
  refine hN.mono ?_
  rintro e w2 ⟨r, hr, rfl, hg2, hs2⟩
  have ho2 := own_grown HO.out hg2 (Or.inr (by simp [Value.ownBlock]; omega))
  have hG2 : W1.grownBy w2 (some w.heap.size) := grown_trans (World.grownBy_alloc _ _ _) hg2
  clear hN HO hg2 hsrc
  go_wp2
  go_loopw [5, 6] (fun u i wr => ∃ (k : Nat) (l : List Int) (a' : Nat), k ≤ 4 ∧ i = .int .i64 k ∧ l.length + k ≤ 4 ∧ a' + k ≤ 10 ∧ Hid (W1.grownBy wr (some w.heap.size)) ∧ Hid (SrcAt w.heap.size cv cs a' wr) ∧ Hid (wr.ownsRow W1.heap.size 2 1 u l.length (l.map (Value.int .i64)))) (fun _ i _ => (intOf i).toNat)
  case atStart => exact ⟨r, [], 0 + 1, by omega, rfl, by simp; omega, by omega, hG2, hs2, ho2⟩
  case round =>
    obtain ⟨k, l, a', hk4, rfl, hlk, hak, HG, HS, HO⟩ := hrel
    obtain ⟨b', c', rfl⟩ := own_shape HO.out
    have hz := HG.out.size
    by_cases hk : 0 < k
    · have hki : (0 : Int) < (k : Int) := by omega
      go_wp2_with fail
      refine (l1Next_any w.heap.size a' cv cs 65521 _ HS.out (by omega) (by omega) (by omega)).mono ?_
      rintro e w3 ⟨y, hy, rfl, hg3, hs3⟩
      have ho3 := own_grown HO.out hg3 (Or.inr (fun e => by have := (HO.out.lt _ e).1; omega))
      have hG3 := grown_trans HG.out hg3
      have hz3 := hG3.size
      clear hg3 HO HG HS
      go_wp2_with (at_builtin; refine wpList_append_own _ rfl _ _ 33 rfl W1.heap.size 2 i0 (.int .i64 0) 1 8 Try.underlying33 hi hz0 hz1 hz2 rfl (by decide) _ _ _ rfl (ho3.alloc _) ⟨w3.heap.size, 0, none⟩ 1 1 [.int .i64 (y : Int)] rfl rfl (World.news_of_block (heap_alloc_new _ _)) (ints_oneCell .i64 [(y : Int)]) (by unfold maxLen; omega) (by omega) (by simp; omega) ?_)
      intro v4 w4 hown4 hgrow4 _
      have hG4 : W1.grownBy w4 (some w.heap.size) := grown_new (grown_new hG3 (World.grownBy_alloc _ _ none) (fun g e => by cases e)) hgrow4 (fun g e => (ho3.lt g e).1)
      have hs4 : SrcAt w.heap.size cv cs (a' + 1) w4 := (hs3.alloc _).grown hgrow4 (fun g e => by have := (ho3.lt g e).1; omega)
      have own4 := own_one6 hown4
      clear hgrow4 hown4 ho3 hG3 hs3
      go_wp2
      go_roundw
      case rel => exact ⟨k - 1, l ++ [(y : Int)], a' + 1, by omega, by go_num, by simp; omega, by omega, hG4, hs4, own4⟩
      case measure => simp [intOf]; omega
    · have hk0 : k = 0 := by omega
      subst hk0
      have hki : ¬ (0 : Int) < ((0 : Nat) : Int) := by decide
      go_wp2_with fail
      refine (l1Next_any w.heap.size a' cv cs 8 _ HS.out (by omega) (by omega) (by omega)).mono ?_
      rintro e w3 ⟨r8, hr8, rfl, hg3, hs3⟩
      have ho3 := own_grown HO.out hg3 (Or.inr (fun e => by have := (HO.out.lt _ e).1; omega))
      have hG3 := grown_trans HG.out hg3
      have hz3 := hG3.size
      clear hg3 HO HG HS
      by_cases e0 : r8 = 0
      · subst e0
        go_wp2_with fail
        refine (l1Pick_any w.heap.size (a' + 1) cv cs _ pickM _ (hs3.alloc _) (by omega) (lit_ints .i64 pickM 2 2) (by simp [Value.ownBlock]; omega) (by decide) (by decide)).mono ?_
        rintro e w4 ⟨x, hx, rfl, hg4, hs4⟩
        have hG4 := grown_trans hG3 (grown_trans (World.grownBy_alloc _ _ _) hg4)
        have ho4 := own_grown (ho3.alloc _) hg4 (Or.inr (fun e => by have := (ho3.lt _ e).1; omega))
        have hz4 := hG4.size
        clear hg4 ho3 hG3 hs3 hx
        go_wp2_with (at_builtin; refine wpList_append_own _ rfl _ _ 33 rfl W1.heap.size 2 i0 (.int .i64 0) 1 8 Try.underlying33 hi hz0 hz1 hz2 rfl (by decide) _ _ _ rfl (ho4.alloc _) ⟨w4.heap.size, 0, none⟩ 1 1 [.int .i64 x] rfl rfl (World.news_of_block (heap_alloc_new _ _)) (ints_oneCell .i64 [x]) (by unfold maxLen; omega) (by omega) (by simp; omega) ?_)
        intro v5 w5 hown5 hgrow5 _
        have hG5 : W1.grownBy w5 (some w.heap.size) := grown_new (grown_new hG4 (World.grownBy_alloc _ _ none) (fun g e => by cases e)) hgrow5 (fun g e => (ho4.lt g e).1)
        have hs5 : SrcAt w.heap.size cv cs (a' + 1 + 1) w5 := (hs4.alloc _).grown hgrow5 (fun g e => by have := (ho4.lt g e).1; omega)
        have own5 := own_one6 hown5
        have hlm : (l ++ [x]).length ≤ 21 := by simp; omega
        have hz5 := hG5.size
        generalize l ++ [x] = m at *
        obtain ⟨b5, c5, rfl⟩ := own_shape own5
        clear hgrow5 hown5 ho4 hG4 hs4
        go_wp2_with fail
        refine (l1Pick_any w.heap.size (a' + 1 + 1) cv cs _ pickT _ (hs5.alloc _) (by omega) (lit_ints .i64 pickT 2 5) (by simp [Value.ownBlock]; omega) (by decide) (by decide)).mono ?_
        rintro e w9 ⟨tag, htag, rfl, hg9, hs9⟩
        have hG9 := grown_trans hG5 (grown_trans (World.grownBy_alloc _ _ _) hg9)
        have ho9 := own_grown (own5.alloc _) hg9 (Or.inr (fun e => by have := (own5.lt _ e).1; omega))
        have hB9 : Below w.heap.size w w9 := hB1.grown hG9 (Nat.le_of_lt hZ1) (fun k hk => by cases hk; exact Nat.le_refl _)
        have HO9 : Hid (w9.ownsRow w.heap.size 2 1 (.slice b5 m.length c5) m.length (m.map (Value.int .i64))) := own_mono ho9 (Nat.le_of_lt hZ1)
        clear hg9 hs9 ho9 hG9
        go_wp2
        go_ret2
        exact ⟨tag, b5, c5, m, rfl, hlm, htag, HO9.out, hB9⟩
      · by_cases e1 : r8 = 1
        · subst e1
          go_wp2_with fail
          refine (l1Pick_any w.heap.size (a' + 1) cv cs _ pickN _ (hs3.alloc _) (by omega) (lit_ints .i64 pickN 2 2) (by simp [Value.ownBlock]; omega) (by decide) (by decide)).mono ?_
          rintro e w4 ⟨x, hx, rfl, hg4, hs4⟩
          have hG4 := grown_trans hG3 (grown_trans (World.grownBy_alloc _ _ _) hg4)
          have hz4 := hG4.size
          obtain ⟨n, hn, hn21⟩ : ∃ n : Nat, x = (n : Int) ∧ n ≤ 21 := by
            simp [pickN] at hx
            exact ⟨x.toNat, by omega, by omega⟩
          subst hn
          clear hg4 ho3 hG3 hs3 hx
          go_wp2_with (at_make; refine wpList_make_full _ rfl _ _ 33 rfl W1.heap.size 2 i0 (.int .i64 0) 1 Try.underlying33 hi hz0 hz1 _ _ _ _ n rfl rfl rfl rfl (by rw [hz2]; omega) (by unfold maxLen; omega) (by omega) ?_)
          intro w5 hown5 hg5
          have own5 : w5.ownsRow W1.heap.size 2 1 (.slice (some ⟨w4.heap.size, 0, none⟩) n n) n ((List.replicate n (0 : Int)).map (Value.int .i64)) := by rw [← zeros_i, Nat.mul_one]; exact hown5
          have hG5 := grown_new hG4 hg5 (fun g e => by cases e)
          have hs5 := hs4.grown hg5 (fun g e => by cases e)
          have hz5 := hG5.size
          clear hown5 hg5 hG4 hs4
          go_wp2_with fail
          refine (l1Pick_any w.heap.size (a' + 1 + 1) cv cs _ pickT _ (hs5.alloc _) (by omega) (lit_ints .i64 pickT 2 5) (by simp [Value.ownBlock]; omega) (by decide) (by decide)).mono ?_
          rintro e w9 ⟨tag, htag, rfl, hg9, hs9⟩
          have hG9 := grown_trans hG5 (grown_trans (World.grownBy_alloc _ _ _) hg9)
          have ho9 := own_grown (own5.alloc _) hg9 (Or.inr (fun e => by have := (own5.lt _ e).1; omega))
          have hB9 : Below w.heap.size w w9 := hB1.grown hG9 (Nat.le_of_lt hZ1) (fun k hk => by cases hk; exact Nat.le_refl _)
          have HO9 : Hid (w9.ownsRow w.heap.size 2 1 (.slice (some ⟨w4.heap.size, 0, none⟩) n n) n ((List.replicate n (0 : Int)).map (Value.int .i64))) := own_mono ho9 (Nat.le_of_lt hZ1)
          clear hg9 hs9 ho9 hG9
          go_wp2
          go_ret2
          exact ⟨tag, some ⟨w4.heap.size, 0, none⟩, n, List.replicate n (0 : Int), by rw [List.length_replicate]; rfl, by rw [List.length_replicate]; exact hn21, htag, by rw [List.length_replicate]; exact HO9.out, hB9⟩
        · have h0 : ((r8 : Int) == 0) = false := by simp; omega
          have h1 : ((r8 : Int) == 1) = false := by simp; omega
          go_wp2_with fail
          refine (l1Pick_any w.heap.size (a' + 1) cv cs _ pickT _ (hs3.alloc _) (by omega) (lit_ints .i64 pickT 2 5) (by simp [Value.ownBlock]; omega) (by decide) (by decide)).mono ?_
          rintro e w9 ⟨tag, htag, rfl, hg9, hs9⟩
          have hG9 := grown_trans hG3 (grown_trans (World.grownBy_alloc _ _ _) hg9)
          have ho9 := own_grown (ho3.alloc _) hg9 (Or.inr (fun e => by have := (ho3.lt _ e).1; omega))
          have hB9 : Below w.heap.size w w9 := hB1.grown hG9 (Nat.le_of_lt hZ1) (fun k hk => by cases hk; exact Nat.le_refl _)
          have HO9 : Hid (w9.ownsRow w.heap.size 2 1 (.slice b' l.length c') l.length (l.map (Value.int .i64))) := own_mono ho9 (Nat.le_of_lt hZ1)
          clear hg9 hs9 ho9 hG9
          go_wp2
          go_ret2
          exact ⟨tag, b', c', l, rfl, by omega, htag, HO9.out, hB9⟩
end U
end Go.Proofs.Ytdcfoggcepkelaa
