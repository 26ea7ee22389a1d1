/- What both RunesOf answer: one pair of a code and a list. -/
import Derived.Test.YtdbbmclobmigdaaGreatRun
import Derived.Lib.OthersKept
namespace Go.Proofs.YtdbbmclobmigdaaGreat
open Go.RowKit
namespace U
def rP (s : ByteArray) : Int × List Int := if 200 < s.size then (2, []) else match runes s with | none => (5, []) | some xs => (0, xs)
theorem bcell {W w1 : World} (hb : Below W.heap.size W w1) : (∀ b o, b < W.heap.size → w1.cell? ⟨b, o, none⟩ = W.cell? ⟨b, o, none⟩) ∧ (∀ b o, b < W.heap.size → w1.frozen? ⟨b, o, none⟩ = W.frozen? ⟨b, o, none⟩) :=
  ⟨fun b o h => hb.cell (p := ⟨b, o, none⟩) h, fun b o h => hb.frozen (p := ⟨b, o, none⟩) h⟩
/-- The answer of a function that hands back a code and a list of its own. -/
def IntsAns (w : World) (code : Int) (xs : List Int) (e : Ending) (w' : World) : Prop :=
  Below w.heap.size w w' ∧ ∃ v, e = .returned (.agg #[.int .i64 code, v]) ∧ w'.ownsRow w.heap.size 2 1 v xs.length (xs.map (Value.int .i64))
theorem rP_big {s : ByteArray} (h : 200 < s.size) : rP s = (2, []) := by simp [rP, h]
theorem rP_none {s : ByteArray} (h : ¬ 200 < s.size) (hr : runes s = none) : rP s = (5, []) := by simp [rP, h, hr]
theorem rP_some {s : ByteArray} {xs : List Int} (h : ¬ 200 < s.size) (hr : runes s = some xs) : rP s = (0, xs) := by simp [rP, h, hr]

theorem own_below {w w' : World} {B n size : Nat} {e : TypeId} {v : Value} {xs : List Value} (h : w.ownsRow B e size v n xs) (hb : Below w.heap.size w w') : w'.ownsRow B e size v n xs := by
  refine ⟨h.1, ?_⟩
  rcases h.2 with h2 | ⟨g, cap, cur, h2, h3, h4, h5⟩
  · exact Or.inl h2
  · exact Or.inr ⟨g, cap, cur, h2, h3, (hb.block g (Array.getElem?_eq_some_iff.1 h4).1).trans h4, h5⟩
theorem own_apart {w1 w2 : World} {B n1 n2 s1 s2 : Nat} {e1 e2 : TypeId} {v1 v2 : Value} {xs ys : List Value} (h1 : w1.ownsRow B e1 s1 v1 n1 xs) (h2 : w2.ownsRow (w1.heap.size + 1) e2 s2 v2 n2 ys) : v1.ownBlock = none ∨ v1.ownBlock ≠ v2.ownBlock := by
  rcases hk : v1.ownBlock with _ | k
  · exact Or.inl rfl
  · right
    intro e
    have a := (h1.lt k hk).2
    have b := (h2.lt k e.symm).1
    omega
theorem own_mono {w : World} {B B' n size : Nat} {e : TypeId} {v : Value} {xs : List Value} (h : w.ownsRow B' e size v n xs) (hB : B ≤ B') : w.ownsRow B e size v n xs := by
  refine ⟨h.1, ?_⟩
  rcases h.2 with h2 | ⟨g, cap, cur, h2, h3, h4⟩
  · exact Or.inl h2
  · exact Or.inr ⟨g, cap, cur, h2, Nat.le_trans hB h3, h4⟩
/-- A new block, then a call that turned nothing below: nothing below has turned. -/
theorem below_after {w w1 : World} {o : Obj} (hb : Below (w.alloc o).heap.size (w.alloc o) w1) : Below w.heap.size w w1 :=
  ((Below.refl _ w).alloc (Nat.le_refl _) o).trans (hb.mono (by simp))
theorem below_after_of {w w1 w2 : World} (h1 : Below w.heap.size w w1) (h2 : Below w1.heap.size w1 w2) : Below w.heap.size w w2 := h1.trans (h2.mono h1.size)
theorem two_cells {w : World} {b : Nat} {x y : Value} {t : TypeId} (h : w.heap[b]? = some (.cells #[x, y] t (0, 0))) : w.cell? ⟨b, 0, none⟩ = some x ∧ w.cell? ⟨b, 1, none⟩ = some y ∧ w.frozen? ⟨b, 0, none⟩ = false ∧ w.frozen? ⟨b, 1, none⟩ = false := by
  simp [World.cell?, World.frozen?, h]
set_option maxRecDepth 100000 in
set_option maxHeartbeats 2000000 in
theorem implRunesOf_any (s : ByteArray) (w : World) (hs : s.size ≤ 1048576) :
    Calls Tryz.prog 81 #[.string s] w fun e w' => IntsAns w (rP s).1 (rP s).2 e w' := by
  by_cases h : 200 < s.size
  · rw [rP_big h]
    go_enter Tryz.func81, Tryz.ntmps81
    go_wp2
    refine bodyPost_ret (v := .agg #[.int .i64 2, .slice none 0 0]) (by simp [results, Tryz.results81, go_sem]) rfl ⟨(Below.refl _ _).alloc (Nat.le_refl _) _, _, rfl, World.ownsRow_nil _ _ _ _⟩
  · obtain ⟨i0, hi, hz0, hz1, hz2⟩ := info_parts Tryz.infoI64
    go_enter Tryz.func81, Tryz.ntmps81
    go_wp2
    go_loopw [3] (fun v wr => ∃ (p f : Nat) (acc : List Int), Hid (Rest s p f acc) ∧ p ≤ s.size + 4 ∧ wr.heap[w.heap.size + 1]? = some (.stringIter s p) ∧ wr.heap[w.heap.size]? = some (.cells #[.int .i64 0, .slice none 0 0] 147 (0, 0)) ∧ Below w.heap.size w wr ∧ wr.ownsRow (w.heap.size + 2) 2 1 v acc.length (acc.map (Value.int .i64))) (fun _ wr => s.size - wr.iterPos (w.heap.size + 1))
    case atStart =>
      refine ⟨0, s.size, [], Rest.start s, by omega, ?_, ?_, ((Below.refl _ _).alloc (Nat.le_refl _) _).alloc (by simp) _, World.ownsRow_nil _ _ _ _⟩
      · have := World.iter_heap (w.alloc (.cells #[.int .i64 0, .slice none 0 0] 147)) s 0
        simpa using this
      · rw [World.iter, Below.heap_alloc _ _ _ (by simp)]
        exact heap_alloc_new w _
    case round =>
      obtain ⟨p, f, acc, hR, hp4, hit, hres, hbel, hown⟩ := hrel
      have hsz : w.heap.size + 1 < wr.heap.size := (Array.getElem?_eq_some_iff.1 hit).1
      by_cases hp : p < s.size
      · have hnx : ∀ ty, (Instr.next (.pointer (some ⟨w.heap.size + 1, 0, none⟩)) true ty).run Tryz.prog wr = _ := fun ty => Lib.run_next_any_at wr (w.heap.size + 1) s p ty hit hp
        have hd1 := decode_le s p
        have hw := width s p
        have hal : acc.length ≤ p := hR.out.2.1
        have hit2 := Lib.iterAt_heap wr (w.heap.size + 1) s p (p + (Utf8.decode s p).2) hit
        have hbw2 := Lib.below_iterAt hbel (k := w.heap.size + 1) (by omega) s (p + (Utf8.decode s p).2)
        have hres2 := (Lib.iterAt_other wr (w.heap.size + 1) w.heap.size s (p + (Utf8.decode s p).2) (by omega)).trans hres
        have hsz2 : w.heap.size + 1 < (wr.iterAt (w.heap.size + 1) s (p + (Utf8.decode s p).2)).heap.size := by rw [Lib.iterAt_size]; exact hsz
        have hown2 := ownsRow_iterAt hown (show w.heap.size + 1 < w.heap.size + 2 by omega) s (p + (Utf8.decode s p).2)
        rcases Bool.eq_false_or_eq_true (okAt s p) with hok | hok
        · go_wp2_with (first
            | (go_at_call 107; refine (isWritten_at s p _ hs).mono ?_; rintro e w' ⟨rfl, rfl⟩)
            | (at_builtin; refine wpList_append_own _ rfl _ _ 26 rfl (w.heap.size + 2) 2 i0 (.int .i64 0) 1 8 Tryz.underlying26 hi hz0 hz1 hz2 rfl (by decide) _ _ _ rfl (hown2.alloc _) ⟨_, 0, none⟩ 1 1 [.int .i64 ((Utf8.decode s p).1 : Int)] rfl rfl (cell_one_new _ _ _) (one_cell _ _) (by unfold maxLen; omega) (by omega) (by simp; omega) ?_))
          intro v' w1 hown' hgrow _
          have hb1 : Below w.heap.size w w1 := (hbw2.alloc (by omega) _).grown hgrow (by simp; omega) (fun k hk => Nat.le_trans (by omega) (hown2.lt k hk).1)
          have hk1 : w1.heap[w.heap.size + 1]? = some (.stringIter s (p + (Utf8.decode s p).2)) := (hgrow.block _ (by simp; omega) (fun e => by have := (hown2.lt _ e.symm).1; omega)).trans ((Below.heap_alloc _ _ _ hsz2).trans hit2)
          have hk2 : w1.heap[w.heap.size]? = some (.cells #[.int .i64 0, .slice none 0 0] 147 (0, 0)) := (hgrow.block _ (by simp; omega) (fun e => by have := (hown2.lt _ e.symm).1; omega)).trans ((Below.heap_alloc _ _ _ (by omega)).trans hres2)
          clear hgrow hown hown2 hres hres2 hbel hbw2
          go_wp2
          go_roundw
          case rel =>
            obtain ⟨g, hg⟩ := hR.out.step hp hok
            exact ⟨p + (Utf8.decode s p).2, g, acc ++ [((Utf8.decode s p).1 : Int)], hg, by omega, hk1, hk2, hb1, by rw [ints_snoc, List.length_append]; exact hown'⟩
          case measure =>
            simp only [World.iterPos, hk1, hit]
            omega
        · obtain ⟨hc0, hc1, hf0, hf1⟩ := two_cells hres2
          go_wp2_with (go_at_call 107; refine (isWritten_at s p _ hs).mono ?_; rintro e w' ⟨rfl, rfl⟩)
          exact bodyPost_ret (v := .agg #[.int .i64 5, .slice none 0 0]) (by simp [results, Tryz.results81, go_sem, hc0, hc1]) rfl (by rw [rP_none h (hR.out.no hp hok)]; exact ⟨(hbw2.setCell (Nat.le_refl _) _).setCell (Nat.le_refl _) _, _, rfl, World.ownsRow_nil _ _ _ _⟩)
      · have hnx : ∀ ty, (Instr.next (.pointer (some ⟨w.heap.size + 1, 0, none⟩)) true ty).run Tryz.prog wr = _ := fun ty => Lib.run_next_end_at wr (w.heap.size + 1) s p ty hit hp
        obtain ⟨a, c, rfl⟩ := own_shape hown
        obtain ⟨hc0, hc1, hf0, hf1⟩ := two_cells hres
        go_wp2
        exact bodyPost_ret (v := .agg #[.int .i64 0, .slice a acc.length c]) (by simp [results, Tryz.results81, go_sem, hc0, hc1]) rfl (by rw [rP_some h (hR.out.done hp)]; exact ⟨(hbel.setCell (Nat.le_refl _) _).setCell (Nat.le_refl _) _, _, rfl, own_mono (ownsRow_setCell_below (ownsRow_setCell_below hown (by simp) _) (by simp) _) (by omega)⟩)
end U
end Go.Proofs.YtdbbmclobmigdaaGreat
