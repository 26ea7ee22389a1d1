/- Two nodes held against each other, by the model. -/
import Derived.Test.YtgflamlfplpfdaaOp7
namespace Go.Proofs.Ytgflamlfplpfdaa
open Go.RowKit
namespace U
/-- A clash that is handed back. -/
def ClAns (w : World) (f : Bool) (ls bs : List Int) (e : Ending) (w' : World) : Prop :=
  Below w.heap.size w w' ∧ ∃ a1 n1 c1 a2 n2 c2, e = .returned (.agg #[.bool f, .slice a1 n1 c1, .slice a2 n2 c2]) ∧ Rows2 w w' (.slice a1 n1 c1) (.slice a2 n2 c2) f ls bs
theorem Rows2.to3 {w w3 w' : World} {v1 v2 : Value} {f : Bool} {ls bs : List Int} (h : Rows2 w3 w' v1 v2 f ls bs) (hs : w.heap.size + 1 ≤ w3.heap.size) : Rows3 w w' v1 v2 (pick f ls) (pick f bs) := ⟨own_mono h.1 hs, own_mono h.2.1 hs, h.2.2⟩
theorem Rows3.below {w w1 w2 : World} {v1 v2 : Value} {xs ys : List Int} (h : Rows3 w w1 v1 v2 xs ys) (hb : Below w1.heap.size w1 w2) : Rows3 w w2 v1 v2 xs ys := ⟨own_below h.1 hb, own_below h.2.1 hb, h.2.2⟩
theorem clAns_of {w w' : World} {f : Bool} {ls bs : List Int} {e : Ending} (h : Below w.heap.size w w' ∧ ∃ v1 v2, e = .returned (.agg #[.bool f, v1, v2]) ∧ Rows2 w w' v1 v2 f ls bs) : ClAns w f ls bs e w' := by
  obtain ⟨hb, v1, v2, rfl, hr⟩ := h
  obtain ⟨⟨a1, c1, rfl⟩, a2, c2, rfl⟩ := hr.shape
  exact ⟨hb, _, _, _, _, _, _, rfl, hr⟩
set_option maxRecDepth 100000 in
set_option maxHeartbeats 2000000 in
theorem l5Nodes_any (a b c d : Int) (w : World) (ha : 0 ≤ a ∧ a ≤ 65520) (hb : 0 ≤ b ∧ b ≤ 65520) (hc : 0 ≤ c ∧ c ≤ 65520) (hd : 0 ≤ d ∧ d ≤ 65520) :
    Calls Try.prog 114 #[.int .i64 a, .int .i64 b, .int .i64 c, .int .i64 d] w fun e w' => ClAns w (l2B (tagL 2 [a, b]) (tagL 2 [c, d])) (tagL 2 [a, b]) (tagL 2 [c, d]) e w' := by
  have h1 := nd_two_bts ha hb
  have h2 := nd_two_bts hc hd
  have l1 := nd_two_len a b
  have l2 := nd_two_len c d
  have hB1 := fun w u h => l2Bytes_any 2 u [a, b] w h (by simp) (by omega) (by simp [sumB_iff, ha, hb])
  have hB2 := fun w u h => l2Bytes_any 2 u [c, d] w h (by simp) (by omega) (by simp [sumB_iff, hc, hd])
  have hC := fun A B v u w hv hu => l2Clash_any A B v u (tagL 2 [a, b]) (tagL 2 [c, d]) w hv hu h1 h2 (by omega) (by omega)
  generalize l2B (tagL 2 [a, b]) (tagL 2 [c, d]) = f at *
  generalize tagL 2 [a, b] = ls at *
  generalize tagL 2 [c, d] = bs at *
  have HL : Hid (ls.length = 5 ∧ bs.length = 5) := ⟨l1, l2⟩
  clear h1 h2 l1 l2 ha hb hc hd
  go_enter Try.func114, Try.ntmps114
  go_wp2_with fail
  refine (hB1 _ _ (two_ints_at (by simp))).mono ?_
  rintro e w1 ⟨v1, rfl, own1, hb1⟩
  rw [HL.out.1] at own1
  obtain ⟨a1, c1, rfl⟩ := own_shape own1
  have hb1' := below_after_of (one_new (.cells #[.int .i64 a, .int .i64 b] 2)) hb1
  clear hB1 hb1
  go_wp2_with fail
  refine (hB2 _ _ (two_ints_at (by first | rfl | simp))).mono ?_
  rintro e w2 ⟨v2, rfl, own2, hb2⟩
  rw [HL.out.2] at own2
  obtain ⟨a2, c2, rfl⟩ := own_shape own2
  have hb2' := below_after_of (one_new (.cells #[.int .i64 c, .int .i64 d] 2)) hb2
  have own1 := own_below own1 hb2'
  have hb3 := below_after_of hb1' hb2'
  have hsz : w.heap.size + 1 ≤ w2.heap.size := by have := hb3.size; simp at this; omega
  have own1 : w2.ownsRow 0 5 1 (.slice a1 5 c1) ls.length (ls.map (Value.int .u8)) := by rw [HL.out.1]; exact own_mono own1 (Nat.zero_le _)
  have own2 : w2.ownsRow 0 5 1 (.slice a2 5 c2) bs.length (bs.map (Value.int .u8)) := by rw [HL.out.2]; exact own_mono own2 (Nat.zero_le _)
  obtain ⟨q0, q1, q2, f0, f1, f2⟩ := three_cellsV ((hb3.block w.heap.size (by simp)).trans (heap_alloc_new w _))
  have hB3 := below_after hb3
  clear hB2 hb2 hb2' hb1' hb3
  go_wp2_with fail
  refine (hC _ _ _ _ _ own1 own2).mono ?_
  rintro e w4 h4
  obtain ⟨hb4, a3, n3, c3, a4, n4, c4, rfl, hr⟩ := clAns_of h4
  have q0 := (hb4.cell (p := ⟨w.heap.size, 0, none⟩) (by exact hsz)).trans q0
  have q1 := (hb4.cell (p := ⟨w.heap.size, 1, none⟩) (by exact hsz)).trans q1
  have q2 := (hb4.cell (p := ⟨w.heap.size, 2, none⟩) (by exact hsz)).trans q2
  have f0 := (hb4.frozen (p := ⟨w.heap.size, 0, none⟩) (by exact hsz)).trans f0
  have f1 := (hb4.frozen (p := ⟨w.heap.size, 1, none⟩) (by exact hsz)).trans f1
  have f2 := (hb4.frozen (p := ⟨w.heap.size, 2, none⟩) (by exact hsz)).trans f2
  have hB4 := below_after_of hB3 hb4
  have HR : Hid (Rows3 w w4 (.slice a3 n3 c3) (.slice a4 n4 c4) (pick f ls) (pick f bs)) := hr.to3 hsz
  clear h4 hr hb4 hB3 own1 own2 hC
  go_wp2
  exact bodyPost_ret (v := .agg #[.bool f, .slice a3 n3 c3, .slice a4 n4 c4]) (by simp [results, Try.results114, go_sem, q0, q1, q2]) rfl ⟨((hB4.setCell (Nat.le_refl _) _).setCell (Nat.le_refl _) _).setCell (Nat.le_refl _) _, _, _, _, _, _, _, rfl, Rows3.rows (((HR.out.set 0 _).set 1 _).set 2 _)⟩
end U
end Go.Proofs.Ytgflamlfplpfdaa
