/- The words of a line: what the model answers. -/
import Derived.Test.YtmjbmlojcieciaaDoorWo3
import Derived.Test.YtmjbmlojcieciaaDoorParse3
namespace Go.Proofs.YtmjbmlojcieciaaDoor
open Go.RowKit
namespace U
theorem own_readS {w : World} {B n : Nat} {v : Value} {l : List ByteArray} (h : w.ownsRow B 9 1 v n (l.map Value.string)) (h0 : 0 < n) : ∃ g c, v = .slice (some ⟨g, 0, none⟩) n c ∧ g < w.heap.size ∧ ∀ j x, l[j]? = some x → w.cell? ⟨g, j, none⟩ = some (.string x) := by
  have hh := h
  have hn : l.length = n := by have := h.1; simpa using this
  rcases h.2 with ⟨rfl, e⟩ | ⟨g, cap, cur, rfl, hB, hg, _⟩
  · omega
  · refine ⟨g, cap, rfl, (Array.getElem?_eq_some_iff.1 hg).1, fun j x hj => ?_⟩
    have hlt := (List.getElem?_eq_some_iff.1 hj).1
    rw [hh.cellAt j (by omega)]
    simp [List.getElem?_map, hj]
set_option maxRecDepth 100000 in
set_option maxHeartbeats 4000000 in
theorem l16Words_any (s : ByteArray) (w : World) (hs : s.size ≤ 1048576) :
    Calls Tryd.prog 19 #[.string s] w fun e w' => ∃ v', e = .returned v' ∧ w'.ownsRow w.heap.size 9 1 v' (wordsB (cutB s)).length ((wordsB (cutB s)).map Value.string) ∧ Below w.heap.size w w' := by
  obtain ⟨i0, hi, hz0, hz1, hz2⟩ := info_parts Tryd.infoSw
  have hC := fun w => l3Cut_any s w hs
  have hne : 0 < (cutB s).length := by rw [cutB_len]; omega
  have hsz : (cutB s).length ≤ 1048577 := by have := cutB_size s; omega
  generalize cutB s = ps at *
  clear hs
  have N0 := none_ownS w
  go_enter Tryd.func19, Tryd.ntmps19
  go_wp2_with fail
  refine (hC _).mono ?_
  rintro e w1 ⟨v1, rfl, own1, hb1⟩
  obtain ⟨g, c, rfl, hg, hcell⟩ := own_readS own1 hne
  have N1 := own_below N0 hb1
  have hB1 := below_after hb1
  have hsz1 : w.heap.size < w1.heap.size := by have := hb1.size; simp at this; omega
  have hgw : w.heap.size < g := by have := (own1.lt g rfl).1; simp at this; omega
  have hcell : Hid (∀ j x, ps[j]? = some x → w1.cell? ⟨g, j, none⟩ = some (.string x)) := hcell
  clear hC own1 N0 hb1
  go_wp2
  go_loopw [3, 5] (fun r i wr => ∃ k : Nat, k ≤ ps.length ∧ i = .int .i64 k ∧ Below w.heap.size w wr ∧ w1.heap.size ≤ wr.heap.size ∧ Hid (∀ j x, ps[j]? = some x → wr.cell? ⟨g, j, none⟩ = some (.string x)) ∧ wr.ownsRow w.heap.size 9 1 r (wordsB (ps.take k)).length ((wordsB (ps.take k)).map Value.string) ∧ r.ownBlock ≠ some g) (fun _ i _ => ps.length - (intOf i).toNat)
  case atStart => exact ⟨0, Nat.zero_le _, rfl, hB1, Nat.le_refl _, hcell, N1, fun e => by simp [Value.ownBlock] at e; omega⟩
  case round =>
    obtain ⟨k, hk, rfl, hb, hz, hce, ho, hog⟩ := hrel
    by_cases hkn : k < ps.length
    · have hki : (k : Int) < (ps.length : Int) := by omega
      have hx := List.getElem?_eq_getElem hkn
      have hcx := hce.out k _ hx
      have htk : ps.take (k + 1) = ps.take k ++ [ps[k]] := List.take_succ_eq_append_getElem hkn
      have hlen : (wordsB (ps.take k)).length ≤ k := Nat.le_trans (List.length_filter_le _ _) (by simp; omega)
      generalize ps[k] = x at *
      rcases Bool.eq_false_or_eq_true (wordB x) with hx0 | hx0
      · have hx1 : x.toList.isEmpty = false := by simpa [wordB] using hx0
        have HH : Hid (wordsB (ps.take (k + 1)) = wordsB (ps.take k) ++ [x]) := by show _ = _; rw [htk]; exact words_hit _ hx0
        obtain ⟨ua, uc, rfl⟩ := own_shape ho
        generalize hds : wordsB (ps.take k) = ds at *
        clear htk hx hx0 hds
        go_wp2_with (at_builtin; refine wpList_append_lies _ rfl _ _ 22 rfl w.heap.size 9 i0 (.string ByteArray.empty) 1 16 Tryd.underlying22 hi hz0 hz1 hz2 rfl (by decide) (.slice ua ds.length uc) ds.length (ds.map Value.string) rfl (ho.alloc _) ⟨wr.heap.size, 0, none⟩ 1 1 [.string x] rfl rfl (World.news_of_block (heap_alloc_new _ _)) (strs_oneCell [x]) (by omega) (by unfold maxLen; omega) (by omega) (by have := hb.size; simp; omega) (wr.heap.size + 1) (by simp) ?_)
        intro g2 cap2 w2 hown' hgrow hat hlt2
        have hbA := hb.alloc hb.size (.cells #[.string x] 9)
        have hb2 : Below w.heap.size w w2 := hbA.grown hgrow (by have := hb.size; simp; omega) (fun k hk => (ho.lt k hk).1)
        have hz2 : w1.heap.size ≤ w2.heap.size := by have := hgrow.size; simp at this; omega
        have own2 : w2.ownsRow w.heap.size 9 1 (.slice (some ⟨g2, 0, none⟩) (ds.length + 1) cap2) (wordsB (ps.take (k + 1))).length ((wordsB (ps.take (k + 1))).map Value.string) := by rw [HH.out, List.map_append, List.length_append]; exact hown'
        have hce2 : Hid (∀ j y, ps[j]? = some y → w2.cell? ⟨g, j, none⟩ = some (.string y)) := fun j y hj => by
          have e1 : w2.heap[g]? = wr.heap[g]? := (hgrow.block g (by simp; omega) (fun e => hog e.symm)).trans ((one_new (w := wr) (.cells #[.string x] 9)).block g (by omega))
          rw [cell_tri e1]
          exact hce.out j y hj
        have hog2 : (Value.slice (some ⟨g2, 0, none⟩) (ds.length + 1) cap2).ownBlock ≠ some g := by
          intro e
          have e2 : g2 = g := by simpa [Value.ownBlock] using e
          rcases hat with h | h
          · exact hog (by rw [h, e2])
          · omega
        clear hgrow hown' ho hat
        go_wp2
        go_roundw
        case rel => exact ⟨k + 1, by omega, by go_num, hb2, hz2, hce2, own2, hog2⟩
        case measure => simp [intOf]; omega
      · have hx1 : x.toList.isEmpty = true := by simpa [wordB] using hx0
        have HH : Hid (wordsB (ps.take (k + 1)) = wordsB (ps.take k)) := by show _ = _; rw [htk]; exact words_miss _ hx0
        clear htk hx hx0
        go_wp2
        go_roundw
        case rel => exact ⟨k + 1, by omega, by go_num, hb, hz, hce, by rw [HH.out]; exact ho, hog⟩
        case measure => simp [intOf]; omega
    · have hke : k = ps.length := by omega
      subst hke
      have hki : ¬ (ps.length : Int) < (ps.length : Int) := by omega
      rw [List.take_length] at ho
      go_wp2
      go_ret
      exact ⟨_, rfl, ho, hb⟩
set_option maxRecDepth 100000 in
set_option maxHeartbeats 2000000 in
theorem specWordsOf_any (s : ByteArray) (w : World) (hs : s.size ≤ 1048576) :
    Calls Tryd.prog 6 #[.string s] w fun e w' => WordsAns w (wordsB (cutB s)) e w' := by
  have hC := fun w => l16Words_any s w hs
  generalize wordsB (cutB s) = ws at *
  go_enter Tryd.func6, Tryd.ntmps6
  go_wp2_with fail
  refine (hC _).mono ?_
  rintro e w1 ⟨v1, rfl, own1, hb1⟩
  obtain ⟨a, c, rfl⟩ := own_shape own1
  have hr := (hb1.block w.heap.size (by simp)).trans (heap_alloc_new w (.cells #[.int .i64 0, .slice none 0 0] 24))
  obtain ⟨g0, g1, f0, f1⟩ := two_cells hr
  have hB1 := below_after hb1
  have hg9 : w1.grownBy ((w1.setCell ⟨w.heap.size, 0, none⟩ (.int .i64 0)).setCell ⟨w.heap.size, 1, none⟩ (.slice a ws.length c)) (some w.heap.size) := (grown_setW _ _ 0 _).trans (grown_setW _ _ 1 _)
  have own9 := own_grown own1 hg9 (Or.inr (fun e => by have := (own1.lt _ e).1; simp at this; omega))
  have hB9 : Below w.heap.size w ((w1.setCell ⟨w.heap.size, 0, none⟩ (.int .i64 0)).setCell ⟨w.heap.size, 1, none⟩ (.slice a ws.length c)) := hB1.grown hg9 hB1.size (fun k e => by cases e; exact Nat.le_refl _)
  clear hC hb1 own1 hg9
  go_wp2
  exact bodyPost_ret (v := .agg #[.int .i64 0, .slice a ws.length c]) (by simp [results, Tryd.results6, go_sem, g0, g1]) rfl ⟨hB9, _, rfl, own_mono own9 (by simp)⟩
end U
end Go.Proofs.YtmjbmlojcieciaaDoor
