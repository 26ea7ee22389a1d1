/- What is drawn from a source: a choice, a code point, a text of some code points. -/
import Derived.Test.YtpodbikmjkohhaaDoorSrc
import Derived.Test.YtpodbikmjkohhaaDoorTextB
import Derived.OpenShut
namespace Go.Proofs.YtpodbikmjkohhaaDoor
open Go.RowKit
namespace U
set_option maxHeartbeats 400000 in
theorem l1Source_any (cv : Value) (w : World) (h : ∃ a n c, cv = .slice a n c) :
    Calls Tryd.prog 26 #[cv] w fun e w' => e = .returned (.pointer (some ⟨w.heap.size, 0, none⟩)) ∧ w' = w.alloc (.cells #[cv, .int .i64 0] 66) := by
  obtain ⟨a, n, c, rfl⟩ := h
  go_enter Tryd.func26, Tryd.ntmps26
  go_wp2
  go_ret
  exact ⟨rfl, rfl⟩
theorem SrcAt.new {cv : Value} {cs : List Int} {w : World} (h : Ints .u8 w cv cs) (hl : cs.length ≤ 1048576) (hw : ∀ n ∈ cs, (Lit.int .u8 n).wf = true) (hob : cs ≠ [] → ∀ g, cv.ownBlock = some g → g < w.heap.size) : SrcAt w.heap.size cv cs 0 (w.alloc (.cells #[cv, .int .i64 0] 66)) := by
  refine ⟨heap_alloc_new w _, h.below (one_new _), hob, hl, fun j => ?_⟩
  by_cases hj : j < cs.length
  · rw [getD_eq hj]
    have := bounds_u8 (hw _ (List.getElem_mem hj))
    omega
  · simp [List.getD_eq_getElem?_getD, List.getElem?_eq_none (Nat.le_of_not_lt hj)]
set_option maxHeartbeats 400000 in
theorem l1Chance_any (q a : Nat) (cv : Value) (cs : List Int) (n : Nat) (w : World) (h : SrcAt q cv cs a w) (ha : a ≤ 100000) (hn : 1 ≤ n) (hn2 : n ≤ 1048576) :
    Calls Tryd.prog 27 #[.pointer (some ⟨q, 0, none⟩), .int .i64 n] w fun e w' => ∃ r : Bool, e = .returned (.bool r) ∧ w.grownBy w' (some q) ∧ SrcAt q cv cs (a + 1) w' := by
  go_enter Tryd.func27, Tryd.ntmps27
  go_wp2_with (go_at_call 30; refine (l1Next_any q a cv cs n _ h ha hn hn2).mono ?_; rintro e w' ⟨r, hr, rfl, hg, hs⟩)
  go_ret
  exact ⟨_, rfl, hg, hs⟩
set_option maxHeartbeats 400000 in
theorem l1Pick_any (q a : Nat) (cv : Value) (cs : List Int) (lv : Value) (xs : List Int) (w : World) (h : SrcAt q cv cs a w) (ha : a ≤ 100000) (hl : Ints .i64 w lv xs) (hne : lv.ownBlock ≠ some q) (h0 : 1 ≤ xs.length) (h1 : xs.length ≤ 1000) :
    Calls Tryd.prog 32 #[.pointer (some ⟨q, 0, none⟩), lv] w fun e w' => ∃ x ∈ xs, e = .returned (.int .i64 x) ∧ w.grownBy w' (some q) ∧ SrcAt q cv cs (a + 1) w' := by
  obtain ⟨x, c, rfl⟩ := hl.shape
  obtain ⟨_, b, off, rfl, hb, hc⟩ := hl.at (by omega)
  obtain ⟨n, hn⟩ : ∃ n, n = xs.length := ⟨_, rfl⟩
  have HN : Hid (n = xs.length) := hn
  rw [← hn] at hc h0 h1 ⊢
  have hbq : b ≠ q := fun e => hne (by simp [Value.ownBlock, e])
  clear hn hl hne
  go_enter Tryd.func32, Tryd.ntmps32
  go_wp2_with (go_at_call 30; refine (l1Next_any q a cv cs n _ h ha h0 (by omega)).mono ?_; rintro e w' ⟨r, hr, rfl, hg, hs⟩; have hcr := hg.cell (hc r hr) (fun e => hbq (Option.some.inj e)); have hri : (r : Int) < (n : Int) := by omega)
  go_ret
  refine ⟨xs.getD r 0, ?_, rfl, hg, hs⟩
  have hr2 : r < xs.length := by have := HN.out; omega
  rw [getD_eq hr2]
  exact List.getElem_mem hr2
/-- A literal list in a block of its own. -/
theorem lit_ints {w : World} (k : IntKind) (xs : List Int) (e : TypeId) (c : Nat) : Ints k (w.alloc (.cells (xs.map (Value.int k)).toArray e)) (.slice (some ⟨w.heap.size, 0, none⟩) xs.length c) xs := by
  refine Or.inr ⟨w.heap.size, 0, c, rfl, by simp, fun j hj => ?_⟩
  rw [Nat.zero_add, cell_of_row _ _ _ _ _ _ (heap_alloc_new w _)]
  simp [hj]
def drawn : List Int := [97, 98, 90, 65, 233, 2047, 2048, 8364, 65535, 65536, 128512, 1114111]
set_option maxHeartbeats 400000 in
theorem l1DrawRune_any (q a : Nat) (cv : Value) (cs : List Int) (w : World) (h : SrcAt q cv cs a w) (ha : a ≤ 100000) :
    Calls Tryd.prog 31 #[.pointer (some ⟨q, 0, none⟩)] w fun e w' => ∃ x, runeB x = true ∧ e = .returned (.int .i64 x) ∧ w.grownBy w' (some q) ∧ SrcAt q cv cs (a + 1) w' := by
  have hq := h.lt
  go_enter Tryd.func31, Tryd.ntmps31
  go_wp2_with (go_at_call 32; refine (l1Pick_any q a cv cs _ drawn _ (h.alloc _) ha (lit_ints .i64 drawn 2 12) (by simp [Value.ownBlock]; omega) (by decide) (by decide)).mono ?_; rintro e w' ⟨x, hx, rfl, hg, hs⟩)
  go_ret
  refine ⟨x, ?_, rfl, grown_trans (World.grownBy_alloc _ _ _) hg, hs⟩
  simp [drawn] at hx
  rcases hx with rfl | rfl | rfl | rfl | rfl | rfl | rfl | rfl | rfl | rfl | rfl | rfl <;> decide
/-- Then a row that is new was written: of what was there nothing more has turned. -/
theorem grown_new {w a b : World} {row r2 : Option Nat} (h : w.grownBy a row) (k : a.grownBy b r2) (hr : ∀ g, r2 = some g → w.heap.size ≤ g) : w.grownBy b row :=
  ⟨k.os.trans h.os, k.tape.trans h.tape, k.output.trans h.output, Nat.le_trans h.size k.size, fun i hi hne => (k.block i (Nat.lt_of_lt_of_le hi h.size) (fun e => by have := hr i e.symm; omega)).trans (h.block i hi hne)⟩
set_option maxHeartbeats 2000000 in
theorem l1Draw_any (q a : Nat) (cv : Value) (cs : List Int) (w : World) (h : SrcAt q cv cs a w) (ha : a ≤ 10000) :
    Calls Tryd.prog 43 #[.pointer (some ⟨q, 0, none⟩)] w fun e w' => ∃ t : ByteArray, 1 ≤ t.size ∧ t.size ≤ 12 ∧ e = .returned (.string t) ∧ w.grownBy w' (some q) ∧ ∃ a', a ≤ a' ∧ a' ≤ a + 4 ∧ SrcAt q cv cs a' w' := by
  obtain ⟨i0, hi, hz0, hz1, hz2⟩ := info_parts Tryd.infoU8
  have hq := h.lt
  go_enter Tryd.func43, Tryd.ntmps43
  go_wp2_with (go_at_call 30; refine (l1Next_any q a cv cs 3 _ (h.alloc _) (by omega) (by omega) (by omega)).mono ?_; rintro e w1 ⟨r, hr, rfl, hg1, hs1⟩)
  have hown1 : w1.ownsRow (w.heap.size) 5 1 (.slice (some ⟨w.heap.size, 0, none⟩) 0 0) 0 [] := (World.ownsRow_lit (base := w.heap.size) (e := 5) (size := 1) w #[] 0 (Nat.le_refl _) (by decide) rfl).kept hg1 (Or.inr (by simp [Value.ownBlock]; omega))
  have hgg : w.grownBy w1 (some q) := grown_trans (World.grownBy_alloc _ _ _) hg1
  clear hg1
  go_loopw [3, 4] (fun v i wr => ∃ (k : Nat) (l : List Int) (a' : Nat), k ≤ 3 ∧ i = .int .i64 k ∧ (k = 3 → r = 2 ∧ l = []) ∧ (l = [] → 1 ≤ k) ∧ l.length + 4 * k ≤ 12 ∧ a ≤ a' ∧ a' + k ≤ a + 4 ∧ (∀ b ∈ l, 0 ≤ b ∧ b ≤ 255) ∧ w.grownBy wr (some q) ∧ SrcAt q cv cs a' wr ∧ wr.ownsRow w.heap.size 5 1 v l.length (l.map (Value.int .u8))) (fun _ i _ => (intOf i).toNat)
  case atStart => exact ⟨1 + r, [], a + 1, by omega, by go_num, fun e => ⟨by omega, rfl⟩, fun _ => by omega, by simp; omega, by omega, by omega, by simp, hgg, hs1, hown1⟩
  case round =>
    obtain ⟨k, l, a', hk3, rfl, hk3', hl0, hlk, haa, hak, hlb, hg, hs, ho⟩ := hrel
    have hwsz := hg.size
    by_cases hk : 0 < k
    · have hki : (0 : Int) < (k : Int) := by omega
      go_wp2_with (first
        | (go_at_call 31; refine (l1DrawRune_any q a' cv cs _ hs (by omega)).mono ?_; rintro e w2 ⟨x, hx, rfl, hg2, hs2⟩)
        | (go_at_call 37; refine (l1Bytes_any _ _ ((runeB_iff _).1 hx).1.1 ((runeB_iff _).1 hx).1.2).mono ?_; rintro e w3 ⟨rfl, rfl⟩)
        | (at_builtin; have hel := enc_len x; refine wpList_append_own _ rfl _ _ 22 rfl w.heap.size 5 i0 (.int .u8 0) 1 1 Tryd.underlying22 hi hz0 hz1 hz2 rfl (by decide) _ _ _ rfl ((ho.kept hg2 (Or.inr (fun e => by have := (ho.lt _ e).1; omega))).alloc _) ⟨_, 0, none⟩ (encB x).length (encB x).length ((encB x).map (Value.int .u8)) rfl (by simp) (World.news_of_block (heap_alloc_new _ _)) (ints_oneCell _ _) (by unfold maxLen; omega) (by omega) (by have := hg2.size; simp; omega) ?_))
      intro v' w4 hown4 hgrow _
      have hel := enc_len x
      have hx2 := ((runeB_iff _).1 hx).1
      have hrow : ∀ g, u3.ownBlock = some g → w.heap.size ≤ g := fun g hg => (ho.lt g hg).1
      have hg4 : w.grownBy w4 (some q) := grown_new (grown_new (grown_trans hg hg2) (World.grownBy_alloc _ _ none) (fun g e => by cases e)) hgrow hrow
      have hs4 : SrcAt q cv cs (a' + 1) w4 := (hs2.alloc _).grown hgrow (fun g e => by have := hrow g e; omega)
      have hown5 : w4.ownsRow w.heap.size 5 1 v' (l ++ encB x).length ((l ++ encB x).map (Value.int .u8)) := by rw [List.map_append, List.length_append]; exact hown4
      clear hgrow hown4 ho hg2 hs2 hs hg
      go_wp2
      go_roundw
      case rel =>
        refine ⟨k - 1, l ++ encB x, a' + 1, by omega, by go_num, fun e => by omega, fun e => ?_, by simp; omega, by omega, by omega, ?_, hg4, hs4, hown5⟩
        · have he2 := congrArg List.length e; rw [List.length_append, List.length_nil] at he2; omega
        · intro b hb
          rcases List.mem_append.1 hb with hb | hb
          · exact hlb b hb
          · exact enc_bd x hx2.1 hx2.2 b hb
      case measure => simp [intOf]; omega
    · have hk : k = 0 := by omega
      subst hk
      have hcv := conv_own (P := Tryd.prog) 22 9 Tryd.underlying22 Tryd.underlying5 Tryd.underlying9 ho hlb
      have hll : 1 ≤ l.length := by
        rcases l with _ | ⟨x, l⟩
        · have := hl0 rfl; omega
        · simp
      obtain ⟨x, c, rfl⟩ := own_shape ho
      clear ho
      go_wp2
      go_ret
      exact ⟨strOf l, by rw [strOf_size]; exact hll, by rw [strOf_size]; omega, rfl, hg, a', by omega, by omega, hs⟩
end U
end Go.Proofs.YtpodbikmjkohhaaDoor
