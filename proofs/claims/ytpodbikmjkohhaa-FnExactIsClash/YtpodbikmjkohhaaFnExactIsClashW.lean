/- The law on IsClash, walked: true, and nothing that was there has turned. -/
import Derived.Test.YtpodbikmjkohhaaClashL
import Derived.Deep.RegionHeld3
namespace Go.Proofs.Ytpodbikmjkohhaa
open Go.RowKit
namespace U
/-- What a struct of three cells in a block of its own reads as. -/
def Trio (w : World) (b : Nat) (x y z : Value) : Prop := b < w.heap.size ∧ w.cell? ⟨b, 0, none⟩ = some x ∧ w.cell? ⟨b, 1, none⟩ = some y ∧ w.cell? ⟨b, 2, none⟩ = some z
theorem Trio.below {w w' : World} {b : Nat} {x y z : Value} (h : Trio w b x y z) (hb : Below w.heap.size w w') : Trio w' b x y z :=
  ⟨Nat.lt_of_lt_of_le h.1 hb.size, (hb.cell (p := ⟨b, 0, none⟩) h.1).trans h.2.1, (hb.cell (p := ⟨b, 1, none⟩) h.1).trans h.2.2.1, (hb.cell (p := ⟨b, 2, none⟩) h.1).trans h.2.2.2⟩
theorem Trio.new (w : World) (x y z : Value) (t : TypeId) : Trio (w.alloc (.cells #[x, y, z] t)) w.heap.size x y z :=
  have h := three_cellsV (heap_alloc_new w (.cells #[x, y, z] t))
  ⟨by simp, h.1, h.2.1, h.2.2.1⟩
set_option maxRecDepth 100000 in
set_option maxHeartbeats 4000000 in
theorem fnExactIsClash_small (f : Bool) (v u : Value) (ls bs : List Int) (w : World) (hv : Ints .u8 w v ls) (hu : Ints .u8 w u bs) (ha : Bts ls) (hb : Bts bs) (hxa : ls.length + bs.length ≤ 1048576) :
    Calls Try.prog 7 #[.agg #[.bool f, v, u]] w fun e w' => e = .returned (.bool true) ∧ Below w.heap.size w w' := by
  have hT := fun w' h => toClash_any f v u ls bs w' (hv.below h) (hu.below h) (by omega) (by omega)
  have hS := fun A B v u w hv hu => specIsClash_any A B f v u ls bs w hv hu ha hb (by omega) (by omega)
  have hI := fun v u w hv hu => implIsClash_any f v u ls bs w hv hu ha hb (by omega) (by omega)
  have hE := fun v u v' u' w h1 h2 h3 h4 => eqClash_same f v u v' u' ls bs w h1 h2 h3 h4 (by omega) (by omega)
  obtain ⟨a, c, rfl⟩ := hv.shape
  obtain ⟨a', c', rfl⟩ := hu.shape
  have hZ := fun w => szClash_any f a a' ls.length c bs.length c' w (by unfold maxLen; omega) (by unfold maxLen; omega)
  rw [if_neg (by omega)] at hZ
  generalize (f && arB ls bs) = q at *
  have hqq : (q != q) = false := by simp
  obtain ⟨n, hn⟩ : ∃ n, n = ls.length := ⟨_, rfl⟩
  obtain ⟨m, hm⟩ : ∃ m, m = bs.length := ⟨_, rfl⟩
  rw [← hn, ← hm] at hZ hxa hT ⊢
  have HN : Hid (n = ls.length) := hn
  have HM : Hid (m = bs.length) := hm
  clear hv hu hn hm ha hb
  have hl0 : ¬ ((1048576 : Int) - n - m < 0) := by omega
  obtain ⟨l, hl⟩ : ∃ l : Int, l = 1048576 - n - m := ⟨_, rfl⟩
  rw [← hl] at hZ hl0
  clear hl
  go_enter Try.func7, Try.ntmps7
  go_wp2_with fail
  refine (hZ _).mono ?_
  rintro e w1 ⟨rfl, hb1⟩
  have T1 := (Trio.new w (.bool f) (.slice a n c) (.slice a' m c') 53).below hb1
  have hB1 := below_after hb1
  have d0 := T1.2.1
  have d1 := T1.2.2.1
  have d2 := T1.2.2.2
  clear hb1 hZ
  go_wp2_with fail
  refine (hT _ hB1).mono ?_
  rintro e w2 ⟨hb2, v2, u2, rfl, r2⟩
  have T2 := T1.below hb2
  have hB2 := below_after_of hB1 hb2
  clear hb2 T1 d0 d1 d2 hB1
  obtain ⟨⟨a2, c2, rfl⟩, a2', c2', rfl⟩ := r2.shape
  go_wp2_with fail
  refine (hS _ _ _ _ _ r2.1 r2.2.1).mono ?_
  rintro e w3 ⟨rfl, hb3⟩
  have T3 := T2.below hb3
  have hB3 := below_after_of hB2 hb3
  have d0 := T3.2.1
  have d1 := T3.2.2.1
  have d2 := T3.2.2.2
  clear hb3 T2 hB2 hS r2
  go_wp2_with fail
  refine (hT _ hB3).mono ?_
  rintro e w4 ⟨hb4, v4, u4, rfl, r4⟩
  obtain ⟨⟨a4, c4, rfl⟩, a4', c4', rfl⟩ := r4.shape
  have hN4 := one_new (w := w4) (.cells #[.bool f, .slice a4 (pick true ls).length c4, .slice a4' (pick true bs).length c4'] 25)
  have T4 := (T3.below hb4).below hN4
  have X4 := Trio.new w4 (.bool f) (.slice a4 (pick true ls).length c4) (.slice a4' (pick true bs).length c4') 25
  have i4 := (own_ints r4.1).below hN4
  have j4 := (own_ints r4.2.1).below hN4
  have hB4 := below_after_of (below_after_of hB3 hb4) hN4
  clear hb4 T3 hB3 r4 d0 d1 d2
  go_wp2_with fail
  refine (hI _ _ _ i4 j4).mono ?_
  rintro e w5 ⟨rfl, hb5⟩
  have T5 := T4.below hb5
  have X5 := X4.below hb5
  have i5 := i4.below hb5
  have j5 := j4.below hb5
  have hB5 := below_after_of hB4 hb5
  clear hb5 T4 X4 i4 j4 hB4 hN4 hI
  have mk : Hid (∀ w', Below w5.heap.size w5 w' → Below w5.heap.size w5 w' ∧ w'.cell? ⟨w.heap.size, 0, none⟩ = some (.bool f) ∧ w'.cell? ⟨w.heap.size, 1, none⟩ = some (.slice a n c) ∧ w'.cell? ⟨w.heap.size, 2, none⟩ = some (.slice a' m c') ∧ w'.cell? ⟨w4.heap.size, 0, none⟩ = some (.bool f) ∧ w'.cell? ⟨w4.heap.size, 1, none⟩ = some (.slice a4 (pick true ls).length c4) ∧ w'.cell? ⟨w4.heap.size, 2, none⟩ = some (.slice a4' (pick true bs).length c4')) :=
    fun w' h => ⟨h, (T5.below h).2.1, (T5.below h).2.2.1, (T5.below h).2.2.2, (X5.below h).2.1, (X5.below h).2.2.1, (X5.below h).2.2.2⟩
  clear T5 X5
  go_wp2_with fail
  go_region_held3 (fun w' => Below w5.heap.size w5 w' ∧ w'.cell? ⟨w.heap.size, 0, none⟩ = some (.bool f) ∧ w'.cell? ⟨w.heap.size, 1, none⟩ = some (.slice a n c) ∧ w'.cell? ⟨w.heap.size, 2, none⟩ = some (.slice a' m c') ∧ w'.cell? ⟨w4.heap.size, 0, none⟩ = some (.bool f) ∧ w'.cell? ⟨w4.heap.size, 1, none⟩ = some (.slice a4 (pick true ls).length c4) ∧ w'.cell? ⟨w4.heap.size, 2, none⟩ = some (.slice a4' (pick true bs).length c4'))
    (first | exact mk.out _ (Below.refl _ _).drew | (go_split_ands; exact mk.out _ (below_after_of (by assumption) hbq)))
    (first
      | (go_at_call 36; go_split_ands; refine (hT _ (below_after_of hB5 (by assumption))).mono ?_; rintro e wq ⟨hbq, vq, uq, rfl, rq⟩)
      | (go_at_call 37; go_split_ands; refine (hE _ _ _ _ _ (i5.below (by assumption)) (j5.below (by assumption)) (own_ints rq.1) (own_ints rq.2.1)).mono ?_; rintro e wq ⟨rfl, hbq⟩))
  go_split_ands
  go_wp2
  go_ret
  exact ⟨rfl, below_after_of hB5 (by assumption)⟩
set_option maxHeartbeats 1000000 in
theorem fnExactIsClash_walk (f : Bool) (v u : Value) (ls bs : List Int) (w : World) (hv : Ints .u8 w v ls) (hu : Ints .u8 w u bs) (hxa : ls.length ≤ maxLen) (hxb : bs.length ≤ maxLen) (ha : Bts ls) (hb : Bts bs) :
    Calls Try.prog 7 #[.agg #[.bool f, v, u]] w fun e w' => e = .returned (.bool true) ∧ Below w.heap.size w w' := by
  by_cases h : ls.length + bs.length ≤ 1048576
  · exact fnExactIsClash_small f v u ls bs w hv hu ha hb h
  · obtain ⟨a, c, rfl⟩ := hv.shape
    obtain ⟨a', c', rfl⟩ := hu.shape
    have hZ := fun w => szClash_any f a a' ls.length c bs.length c' w hxa hxb
    rw [if_pos (by omega)] at hZ
    generalize ls.length = n at *
    generalize bs.length = m at *
    clear hv hu ha hb
    go_enter Try.func7, Try.ntmps7
    go_wp2_with fail
    refine (hZ _).mono ?_
    rintro e w1 ⟨rfl, hb1⟩
    clear hZ
    go_wp2
    go_ret
    exact ⟨rfl, below_after hb1⟩
end U
end Go.Proofs.Ytpodbikmjkohhaa
