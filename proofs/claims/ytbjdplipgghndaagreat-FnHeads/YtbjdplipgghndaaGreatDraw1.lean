/- What is drawn from a source: a choice, a code point, a text of some code points. -/
import Derived.Test.YtbjdplipgghndaaGreatDraw0
import Derived.Test.YtbjdplipgghndaaGreatTextB
import Derived.OpenShut
namespace Go.Proofs.YtbjdplipgghndaaGreat
open Go.RowKit
namespace U
def drawn : List Int := [97, 98, 90, 65, 233, 2047, 2048, 8364, 65535, 65536, 128512, 1114111]
set_option maxHeartbeats 400000 in
theorem l1DrawRune_any (q a : Nat) (cv : Value) (cs : List Int) (w : World) (h : SrcAt q cv cs a w) (ha : a ≤ 100000) :
    Calls Tryz.prog 210 #[.pointer (some ⟨q, 0, none⟩)] w fun e w' => ∃ x, runeB x = true ∧ e = .returned (.int .i64 x) ∧ w.grownBy w' (some q) ∧ SrcAt q cv cs (a + 1) w' := by
  have hq := h.lt
  go_enter Tryz.func210, Tryz.ntmps210
  go_wp2_with (go_at_call 60; refine (l1Pick_any q a cv cs _ drawn _ (h.alloc _) ha (lit_ints .i64 drawn 2 12) (by simp [Value.ownBlock]; omega) (by decide) (by decide)).mono ?_; rintro e w' ⟨x, hx, rfl, hg, hs⟩)
  go_ret
  refine ⟨x, ?_, rfl, grown_trans (World.grownBy_alloc _ _ _) hg, hs⟩
  simp [drawn] at hx
  rcases hx with rfl | rfl | rfl | rfl | rfl | rfl | rfl | rfl | rfl | rfl | rfl | rfl <;> decide
set_option maxHeartbeats 2000000 in
theorem l1Draw_any (q a : Nat) (cv : Value) (cs : List Int) (w : World) (h : SrcAt q cv cs a w) (ha : a ≤ 10000) :
    Calls Tryz.prog 189 #[.pointer (some ⟨q, 0, none⟩)] w fun e w' => ∃ t : ByteArray, 1 ≤ t.size ∧ t.size ≤ 12 ∧ e = .returned (.string t) ∧ w.grownBy w' (some q) ∧ ∃ a', a ≤ a' ∧ a' ≤ a + 4 ∧ SrcAt q cv cs a' w' := by
  obtain ⟨i0, hi, hz0, hz1, hz2⟩ := info_parts Tryz.infoU8
  have hq := h.lt
  go_enter Tryz.func189, Tryz.ntmps189
  go_wp2_with (go_at_call 59; refine (l1Next_any q a cv cs 3 _ (h.alloc _) (by omega) (by omega) (by omega)).mono ?_; rintro e w1 ⟨r, hr, rfl, hg1, hs1⟩)
  have hown1 : w1.ownsRow (w.heap.size) 5 1 (.slice (some ⟨w.heap.size, 0, none⟩) 0 0) 0 [] := (World.ownsRow_lit (base := w.heap.size) (e := 5) (size := 1) w #[] 0 (Nat.le_refl _) (by decide) rfl).kept hg1 (Or.inr (by simp [Value.ownBlock]; omega))
  have hgg : w.grownBy w1 (some q) := grown_trans (World.grownBy_alloc _ _ _) hg1
  clear hg1
  go_loopw [3, 4] (fun v i wr => ∃ (k : Nat) (l : List Int) (a' : Nat), k ≤ 3 ∧ i = .int .i64 k ∧ (k = 3 → r = 2 ∧ l = []) ∧ (l = [] → 1 ≤ k) ∧ l.length + 4 * k ≤ 12 ∧ a ≤ a' ∧ a' + k ≤ a + 4 ∧ (∀ b ∈ l, 0 ≤ b ∧ b ≤ 255) ∧ w.grownBy wr (some q) ∧ SrcAt q cv cs a' wr ∧ wr.ownsRow w.heap.size 5 1 v l.length (l.map (Value.int .u8))) (fun _ i _ => (intOf i).toNat)
  case atStart => exact ⟨1 + r, [], a + 1, by omega, by go_num, fun e => ⟨by omega, rfl⟩, fun _ => by omega, by simp; omega, by omega, by omega, by simp, hgg, hs1, hown1⟩
  case round =>
    obtain ⟨k, l, a', hk3, rfl, hk3', hl0, hlk, haa, hak, hlb, hg, hs, ho⟩ := hrel
    have hwsz := hg.size
    by_cases hk : 0 < k
    · have hki : (0 : Int) < (k : Int) := by omega
      go_wp2_with (first
        | (go_at_call 210; refine (l1DrawRune_any q a' cv cs _ hs (by omega)).mono ?_; rintro e w2 ⟨x, hx, rfl, hg2, hs2⟩)
        | (go_at_call 209; refine (l1Bytes_any _ _ ((runeB_iff _).1 hx).1.1 ((runeB_iff _).1 hx).1.2).mono ?_; rintro e w3 ⟨rfl, rfl⟩)
        | (at_builtin; have hel := enc_len x; refine wpList_append_own _ rfl _ _ 22 rfl w.heap.size 5 i0 (.int .u8 0) 1 1 Tryz.underlying22 hi hz0 hz1 hz2 rfl (by decide) _ _ _ rfl ((ho.kept hg2 (Or.inr (fun e => by have := (ho.lt _ e).1; omega))).alloc _) ⟨_, 0, none⟩ (encB x).length (encB x).length ((encB x).map (Value.int .u8)) rfl (by simp) (World.news_of_block (heap_alloc_new _ _)) (ints_oneCell _ _) (by unfold maxLen; omega) (by omega) (by have := hg2.size; simp; omega) ?_))
      intro v' w4 hown4 hgrow _
      have hel := enc_len x
      have hx2 := ((runeB_iff _).1 hx).1
      have hrow : ∀ g, u3.ownBlock = some g → w.heap.size ≤ g := fun g hg => (ho.lt g hg).1
      have hg4 : w.grownBy w4 (some q) := grown_new (grown_new (grown_trans hg hg2) (World.grownBy_alloc _ _ none) (fun g e => by cases e)) hgrow hrow
      have hs4 : SrcAt q cv cs (a' + 1) w4 := (hs2.alloc _).grown hgrow (fun g e => by have := hrow g e; omega)
      have hown5 : w4.ownsRow w.heap.size 5 1 v' (l ++ encB x).length ((l ++ encB x).map (Value.int .u8)) := by rw [List.map_append, List.length_append]; exact hown4
      clear hgrow hown4 ho hg2 hs2 hs hg
      go_wp2
      go_roundw
      case rel =>
        refine ⟨k - 1, l ++ encB x, a' + 1, by omega, by go_num, fun e => by omega, fun e => ?_, by simp; omega, by omega, by omega, ?_, hg4, hs4, hown5⟩
        · have he2 := congrArg List.length e; rw [List.length_append, List.length_nil] at he2; omega
        · intro b hb
          rcases List.mem_append.1 hb with hb | hb
          · exact hlb b hb
          · exact enc_bd x hx2.1 hx2.2 b hb
      case measure => simp [intOf]; omega
    · have hk : k = 0 := by omega
      subst hk
      have hcv := conv_own (P := Tryz.prog) 22 9 Tryz.underlying22 Tryz.underlying5 Tryz.underlying9 ho hlb
      have hll : 1 ≤ l.length := by
        rcases l with _ | ⟨x, l⟩
        · have := hl0 rfl; omega
        · simp
      obtain ⟨x, c, rfl⟩ := own_shape ho
      clear ho
      go_wp2
      go_ret
      exact ⟨strOf l, by rw [strOf_size]; exact hll, by rw [strOf_size]; omega, rfl, hg, a', by omega, by omega, hs⟩
end U
end Go.Proofs.YtbjdplipgghndaaGreat
