/- Slots that are drawn from a source. -/
import Derived.Test.YtljbcpkjhnbpeaaGreatDoorDraw0
import Derived.Test.YtljbcpkjhnbpeaaGreatDoorSl14
import Derived.OpenShut
namespace Go.Proofs.YtljbcpkjhnbpeaaGreatDoor
open Go.RowKit
namespace U
def drawnK : List Int := [0, 1, 5, 255, 128, 127, 64]
set_option maxRecDepth 100000 in
set_option maxHeartbeats 400000 in
theorem l4DrawKey_any (q a : Nat) (cv : Value) (cs : List Int) (w : World) (h : SrcAt q cv cs a w) (ha : a ≤ 100000) :
    Calls Tryz.prog 61 #[.pointer (some ⟨q, 0, none⟩)] w fun e w' => ∃ x, 0 ≤ x ∧ x ≤ 255 ∧ e = .returned (.int .i64 x) ∧ w.grownBy w' (some q) ∧ SrcAt q cv cs (a + 1) w' := by
  have hq := h.lt
  go_enter Tryz.func61, Tryz.ntmps61
  go_wp2_with (go_at_call 60; refine (l1Pick_any q a cv cs _ drawnK _ (h.alloc _) ha (lit_ints .i64 drawnK 2 7) (by simp [Value.ownBlock]; omega) (by decide) (by decide)).mono ?_; rintro e w' ⟨x, hx, rfl, hg, hs⟩)
  go_ret
  refine ⟨x, ?_, ?_, rfl, grown_trans (World.grownBy_alloc _ _ _) hg, hs⟩
  · simp [drawnK] at hx; omega
  · simp [drawnK] at hx; omega
theorem below_grownBy {w w' : World} {row : Option Nat} (h : Below w.heap.size w w') : w.grownBy w' row := ⟨h.os, h.tape, h.output, h.size, fun k hk _ => h.block k hk⟩
set_option maxRecDepth 100000 in
set_option maxHeartbeats 2000000 in
theorem l4Draw_any (q a : Nat) (cv : Value) (cs : List Int) (w : World) (h : SrcAt q cv cs a w) (ha : a ≤ 10000) :
    Calls Tryz.prog 59 #[.pointer (some ⟨q, 0, none⟩)] w fun e w' => ∃ (v : Value) (l : Prl) (a' : Nat), e = .returned v ∧ l.length ≤ 6 ∧ w'.ownsRow w.heap.size 26 2 v l.length ((fl l).map (Value.int .i64)) ∧ w.grownBy w' (some q) ∧ a' ≤ a + 20 ∧ SrcAt q cv cs a' w' ∧ Sls l := by
  have hq := h.lt
  have hN := l1Next_any q a cv cs 6 _ (h.alloc (.cells #[] 26)) (by omega) (by omega) (by omega)
  have HO : Hid ((w.alloc (.cells #[] 26)).ownsRow w.heap.size 26 2 (.slice (some ⟨w.heap.size, 0, none⟩) 0 0) 0 []) := none_own w _ _ (Nat.le_refl _)
  go_enter Tryz.func59, Tryz.ntmps59
  go_wp2_with fail
  refine hN.mono ?_
  rintro e w1 ⟨r, hr, rfl, hg1, hs1⟩
  have ho1 := own_grown HO.out hg1 (Or.inr (by simp [Value.ownBlock]; omega))
  have hgg : w.grownBy w1 (some q) := grown_trans (World.grownBy_alloc _ _ _) hg1
  clear hN HO hg1 h
  go_wp2
  go_loopw [3, 4] (fun u i wr => ∃ (k : Nat) (l : Prl) (a' : Nat), k ≤ 5 ∧ i = .int .i64 k ∧ l.length + k ≤ 6 ∧ a' + 3 * k ≤ a + 20 ∧ Hid (Ris l ∧ ∀ p ∈ l, fine p = true) ∧ Hid (w.grownBy wr (some q)) ∧ Hid (SrcAt q cv cs a' wr) ∧ Hid (wr.ownsRow w.heap.size 26 2 u l.length ((fl l).map (Value.int .i64)))) (fun _ i _ => (intOf i).toNat)
  case atStart => exact ⟨r, [], a + 1, by omega, rfl, by simp; omega, by omega, ⟨List.Pairwise.nil, fun p hp => by cases hp⟩, hgg, hs1, ho1⟩
  case round =>
    obtain ⟨k, l, a', hk5, rfl, hlk, hak, HR, HG, HS, HO⟩ := hrel
    obtain ⟨b', c', rfl⟩ := own_shape2 HO.out
    by_cases hk : 0 < k
    · have hki : (0 : Int) < (k : Int) := by omega
      go_wp2_with fail
      refine (l4DrawKey_any q a' cv cs _ HS.out (by omega)).mono ?_
      rintro e w2 ⟨x, hx0, hx1, rfl, hg2, hs2⟩
      have ho2 := own_grown HO.out hg2 (Or.inr (fun e => by have := (HO.out.lt _ e).1; omega))
      have hG2 := grown_trans HG.out hg2
      clear hg2 HG HS HO
      go_wp2_with fail
      refine (l1Next_any q (a' + 1) cv cs 65521 _ hs2 (by omega) (by omega) (by omega)).mono ?_
      rintro e w3 ⟨y, hy, rfl, hg3, hs3⟩
      have ho3 := own_grown ho2 hg3 (Or.inr (fun e => by have := (ho2.lt _ e).1; omega))
      have hG3 := grown_trans hG2 hg3
      have hsz3 := hG3.size
      clear hg3 ho2 hs2 hG2
      have hP := l4Put_any (.slice b' l.length c') l (x, (y : Int)) w3 (own_prs ho3) (by omega) HR.out.1
      have hR2 : Hid (Ris (put l (x, (y : Int))) ∧ ∀ p ∈ put l (x, (y : Int)), fine p = true) := ⟨put_ris HR.out.1 (x, (y : Int)), fun p hp => by
        rcases (put_mem HR.out.1 _).1 hp with rfl | hp
        · unfold fine
          rw [Bool.and_eq_true]
          exact ⟨inB_t hx0 hx1, (sumB_iff _).2 (by dsimp only; omega)⟩
        · exact HR.out.2 p hp.1⟩
      have hL2 := put_len (l := l) (x, (y : Int))
      have hL3 : (put l (x, (y : Int))).length ≤ l.length + 1 := by rw [hL2]; split <;> omega
      dsimp only at hP
      generalize put l (x, (y : Int)) = m at *
      clear hL2
      go_wp2_with fail
      refine hP.mono ?_
      rintro e w4 ⟨b4, c4, rfl, ho4, hb4⟩
      have hG4 : w.grownBy w4 (some q) := grown_trans hG3 (below_grownBy hb4)
      have hs4 : SrcAt q cv cs (a' + 1 + 1) w4 := hs3.grown (below_grownBy (row := none) hb4) (fun k hk => by cases hk)
      have ho5 : w4.ownsRow w.heap.size 26 2 (.slice b4 m.length c4) m.length ((fl m).map (Value.int .i64)) := own_mono ho4 (by omega)
      clear hP ho4 hb4 hG3 hs3 ho3
      go_wp2
      go_roundw
      case rel => exact ⟨k - 1, m, a' + 1 + 1, by omega, by go_num, by omega, by omega, hR2, hG4, hs4, ho5⟩
      case measure => simp [intOf]; omega
    · have hk0 : k = 0 := by omega
      subst hk0
      go_wp2
      go_ret
      exact ⟨_, l, a', rfl, by omega, HO.out, HG.out, by omega, HS.out, ⟨by omega, HR.out.1, HR.out.2⟩⟩
def pickA : List Int := [0, 255, 256]
def pickB : List Int := [5, 65521]
theorem zeros_fl (n : Nat) : (madeCells #[Value.int .i64 0, Value.int .i64 0] (n * 2)).toList = (fl (List.replicate n (0, 0))).map (Value.int .i64) := by
  rw [made_two]
  induction n with
  | zero => rfl
  | succ n ih =>
    rw [List.replicate_succ]
    unfold fl
    rw [List.flatMap_cons, List.map_append]
    unfold fl at ih
    rw [← ih, show (n + 1) * 2 = n * 2 + 1 + 1 by omega, List.replicate_succ, List.replicate_succ]
    rfl
set_option maxRecDepth 100000 in
set_option maxHeartbeats 4000000 in
theorem l4Bent_any (q a : Nat) (cv : Value) (cs : List Int) (w : World) (h : SrcAt q cv cs a w) (ha : a ≤ 5000) :
    Calls Tryz.prog 45 #[.pointer (some ⟨q, 0, none⟩)] w fun e w' => ∃ (v : Value) (l : Prl) (a' : Nat), e = .returned v ∧ l.length ≤ 13 ∧ w'.ownsRow w.heap.size 26 2 v l.length ((fl l).map (Value.int .i64)) ∧ w.grownBy w' (some q) ∧ a' ≤ a + 30 ∧ SrcAt q cv cs a' w' := by
  obtain ⟨i0, hi, hz0, hz1, hz2⟩ := info_parts Tryz.infoSl
  have hq := h.lt
  have hD := l4Draw_any q a cv cs w h (by omega)
  clear h
  go_enter Tryz.func45, Tryz.ntmps45
  go_wp2_with fail
  refine hD.mono ?_
  rintro e w1 ⟨v1, l, a1, rfl, hl, ho1, hG1, ha1, hs1, -⟩
  obtain ⟨b1, c1, rfl⟩ := own_shape2 ho1
  clear hD
  go_wp2_with fail
  refine (l1Next_any q a1 cv cs 14 _ hs1 (by omega) (by omega) (by omega)).mono ?_
  rintro e w2 ⟨r, hr, rfl, hg2, hs2⟩
  have ho2 := own_grown ho1 hg2 (Or.inr (fun e => by have := (ho1.lt _ e).1; omega))
  have hG2 := grown_trans hG1 hg2
  have hsz2 := hG2.size
  clear hg2 hs1 ho1 hG1
  by_cases hr0 : r = 0
  · subst hr0
    go_wp2_with fail
    refine (l1Pick_any q (a1 + 1) cv cs _ pickA _ (hs2.alloc _) (by omega) (lit_ints .i64 pickA 2 3) (by simp [Value.ownBlock]; omega) (by decide) (by decide)).mono ?_
    rintro e w3 ⟨x, hx, rfl, hg3, hs3⟩
    have hG3 := grown_trans hG2 (grown_trans (World.grownBy_alloc _ _ _) hg3)
    have ho3 := own_grown (ho2.alloc _) hg3 (Or.inr (fun e => by have := (ho2.lt _ e).1; omega))
    have hsz3 := hG3.size
    clear hg3 hs2 ho2 hG2
    go_wp2_with fail
    refine (l1Pick_any q (a1 + 1 + 1) cv cs _ pickB _ (hs3.alloc _) (by omega) (lit_ints .i64 pickB 2 2) (by simp [Value.ownBlock]; omega) (by decide) (by decide)).mono ?_
    rintro e w4 ⟨y, hy, rfl, hg4, hs4⟩
    have hG4 := grown_trans hG3 (grown_trans (World.grownBy_alloc _ _ _) hg4)
    have ho4 := own_grown (ho3.alloc _) hg4 (Or.inr (fun e => by have := (ho3.lt _ e).1; omega))
    have hsz4 := hG4.size
    clear hg4 hs3 ho3 hG3 hx hy
    go_wp2_with (at_builtin; refine wpList_append_own _ rfl _ _ 24 rfl w.heap.size 26 i0 (.agg #[.int .i64 0, .int .i64 0]) 2 16 Tryz.underlying24 hi hz0 hz1 hz2 rfl (by decide) _ _ _ rfl (ho4.alloc _) ⟨w4.heap.size, 0, none⟩ 1 1 [.int .i64 x, .int .i64 y] rfl rfl (World.news_of_block (heap_alloc_new _ _)) (ints_oneCell .i64 [x, y]) (by unfold maxLen; omega) (by omega) (by simp; omega) ?_)
    intro v5 w5 hown5 hgrow5 _
    have hG5 : w.grownBy w5 (some q) := grown_new (grown_new hG4 (World.grownBy_alloc _ _ none) (fun g e => by cases e)) hgrow5 (fun g e => (ho4.lt g e).1)
    have hs5 : SrcAt q cv cs (a1 + 1 + 1 + 1) w5 := (hs4.alloc _).grown hgrow5 (fun g e => by have := (ho4.lt g e).1; omega)
    have own5 := own_snoc hown5
    obtain ⟨b5, c5, rfl⟩ := own_shape2 own5
    clear hgrow5 hown5 ho4 hG4 hs4
    go_wp2
    go_ret
    exact ⟨_, l ++ [(x, y)], _, rfl, by simp; omega, own5, hG5, by omega, hs5⟩
  · by_cases hr1 : r = 1
    · subst hr1
      go_wp2_with (at_make; refine wpList_make_full _ rfl _ _ 24 rfl w.heap.size 26 i0 (.agg #[.int .i64 0, .int .i64 0]) 2 Tryz.underlying24 hi hz0 hz1 _ _ _ _ 13 rfl rfl rfl rfl (by rw [hz2]; omega) (by unfold maxLen; omega) (by omega) ?_)
      intro w3 hown3 hg3
      have own3 : w3.ownsRow w.heap.size 26 2 (.slice (some ⟨w2.heap.size, 0, none⟩) 13 13) 13 ((fl (List.replicate 13 (0, 0))).map (Value.int .i64)) := by rw [← zeros_fl]; exact hown3
      have hG3 := grown_new hG2 hg3 (fun g e => by cases e)
      have hs3 := hs2.grown hg3 (fun g e => by cases e)
      clear hown3 hg3
      go_wp2
      go_ret
      exact ⟨_, List.replicate 13 (0, 0), _, rfl, by simp, own3, hG3, by omega, hs3⟩
    · have h0 : ((r : Int) == 0) = false := by simp; omega
      have h1 : ((r : Int) == 1) = false := by simp; omega
      go_wp2
      go_ret
      exact ⟨_, l, _, rfl, by omega, ho2, hG2, by omega, hs2⟩
end U
end Go.Proofs.YtljbcpkjhnbpeaaGreatDoor
