/- The law on AnswerOf, walked: true, and nothing that was there has turned. -/
import Derived.Test.YthmnjojjnlnbjaaAn5
import Derived.Test.YthmnjojjnlnbjaaDrE
namespace Go.Proofs.Ythmnjojjnlnbjaa
open Go.RowKit
namespace U
set_option maxRecDepth 100000 in
set_option maxHeartbeats 4000000 in
theorem fnExactAnswerOf_walk (v : Value) (l : Rcl) (s : ByteArray) (w : World) (hv : Rcs w v l) (hl : l.length ≤ maxLen) (hM : LbM l) (hs : s.size ≤ maxLen) :
    Calls Try.prog 11 #[.agg #[v], .string s] w fun e w' => e = .returned (.bool true) ∧ Below w.heap.size w w' := by
  unfold maxLen at hs
  by_cases hsz : 1048576 < s.size
  · obtain ⟨a, c, rfl⟩ := hv.shape
    generalize l.length = n at *
    clear hv hM
    go_enter Try.func11, Try.ntmps11
    go_wp2
    go_ret
    exact ⟨rfl, one_new _⟩
  have hsz' : s.size ≤ 1048576 := by omega
  have hZ := szDirectory_any v l 1048576 (w.alloc (.cells #[v] 65)) (hv.below (one_new _)) hM hl (by omega)
  have hok := fun h => szR_ok (l := l) (z := 1048576) (by omega) h
  have A0 := heap_alloc_new w (.cells #[v] 65)
  obtain ⟨a, c, rfl⟩ := hv.shape
  generalize szR l 1048576 = z at *
  by_cases h : z < 0
  · generalize l.length = n at *
    clear hv hok hM
    go_enter Try.func11, Try.ntmps11
    go_wp2_with fail
    refine hZ.mono ?_
    rintro e w1 ⟨rfl, hb1⟩
    clear hZ
    go_wp2
    go_ret
    exact ⟨rfl, below_after hb1⟩
  · obtain ⟨hx, hL, -, -⟩ := hok h
    have hT := fun w' hb => toDirectory_any _ l w' (hv.below (w' := w') hb) hx
    have hS := fun u w' hu => specAnswerOf_any u l s w' hu hL hx hsz'
    have hI := fun u w' hu => implAnswerOf_any u l s w' hu hL hx hsz'
    have hE := fun u v w' hu hv => eqDirectory_same u v l w' hu hv hx
    unfold ansV at hS hI
    generalize anC l s = q at *
    generalize anK l s = k at *
    generalize (anO l s).isSome = f at *
    generalize ((anO l s).getD rcZ).l = x0 at *
    generalize ((anO l s).getD rcZ).v = x1 at *
    generalize ((anO l s).getD rcZ).o = x2 at *
    generalize ((anO l s).getD rcZ).p = x3 at *
    obtain ⟨n, hn⟩ : ∃ n, n = l.length := ⟨_, rfl⟩
    rw [← hn] at hZ hT hl hx A0 ⊢
    clear hn hv hok hM hL
    go_enter Try.func11, Try.ntmps11
    go_wp2_with fail
    refine hZ.mono ?_
    rintro e w1 ⟨rfl, hb1⟩
    have B1 := (hb1.block w.heap.size (by simp)).trans A0
    have c1 := one_cellV B1
    have hB1 := below_after hb1
    have hz1 : w.heap.size < w1.heap.size := (Array.getElem?_eq_some_iff.1 B1).1
    clear hZ hb1 A0
    go_wp2_with fail
    refine (hT _ hB1).mono ?_
    rintro e w2 ⟨a2, c2, rfl, hb2, o2⟩
    have B2 := (hb2.block w.heap.size hz1).trans B1
    have hB2 := below_after_of hB1 hb2
    clear hb2 B1 c1 hB1
    go_wp2_with fail
    refine (hS _ _ (own_rcs' o2)).mono ?_
    rintro e w3 ⟨rfl, hb3⟩
    have B3 := (hb3.block w.heap.size (Array.getElem?_eq_some_iff.1 B2).1).trans B2
    obtain ⟨W3, hW3⟩ : ∃ W3, W3 = w3.alloc (.cells #[.int .i64 q, .int .i64 k, .bool f, .string x0, .int .i64 x1, .int .i64 x2, .int .i64 x3] 47) := ⟨_, rfl⟩
    have HW3 : Hid (w3.alloc (.cells #[.int .i64 q, .int .i64 k, .bool f, .string x0, .int .i64 x1, .int .i64 x2, .int .i64 x3] 47) = W3) := hW3.symm
    have hN3 : Below w3.heap.size w3 W3 := by rw [hW3]; exact one_new _
    have D3 : W3.heap[w3.heap.size]? = some (.cells #[.int .i64 q, .int .i64 k, .bool f, .string x0, .int .i64 x1, .int .i64 x2, .int .i64 x3] 47) := by rw [hW3]; exact heap_alloc_new w3 _
    have B3 := (hN3.block w.heap.size (Array.getElem?_eq_some_iff.1 B3).1).trans B3
    have c3 := one_cellV B3
    have hB3 := below_after_of (below_after_of hB2 hb3) hN3
    rw [← HW3.out] at c3
    clear hb3 B2 o2 hB2 hS hz1 hW3 hN3
    go_wp2_with fail
    rw [HW3.out]
    refine (hT _ hB3).mono ?_
    rintro e w4 ⟨a4, c4, rfl, hb4, o4⟩
    have B4 := (hb4.block w.heap.size (Array.getElem?_eq_some_iff.1 B3).1).trans B3
    have D4 := (hb4.block w3.heap.size (Array.getElem?_eq_some_iff.1 D3).1).trans D3
    have hB4 := below_after_of hB3 hb4
    obtain ⟨W4, hW4⟩ : ∃ W4, W4 = w4.alloc (.cells #[.slice a4 n c4] 26) := ⟨_, rfl⟩
    have HW4 : Hid (w4.alloc (.cells #[.slice a4 n c4] 26) = W4) := hW4.symm
    have hN4 : Below w4.heap.size w4 W4 := by rw [hW4]; exact one_new _
    have A4 : W4.heap[w4.heap.size]? = some (.cells #[.slice a4 n c4] 26) := by rw [hW4]; exact heap_alloc_new w4 _
    have R4 : Rcs W4 (.slice a4 n c4) l := (own_rcs' o4).below hN4
    have B4 := (hN4.block w.heap.size (Array.getElem?_eq_some_iff.1 B4).1).trans B4
    have D4 := (hN4.block w3.heap.size (Array.getElem?_eq_some_iff.1 D4).1).trans D4
    have hB4 := below_after_of hB4 hN4
    have hI4 := hI _ _ R4
    have dd4 := one_cellV A4
    rw [← HW4.out] at dd4
    clear hb4 B3 c3 hB3 o4 D3 hW4 hN4
    go_wp2_with fail
    rw [HW4.out]
    refine hI4.mono ?_
    rintro e w5 ⟨rfl, hb5⟩
    obtain ⟨W5, hW5⟩ : ∃ W5, W5 = w5.alloc (.cells #[.int .i64 q, .int .i64 k, .bool f, .string x0, .int .i64 x1, .int .i64 x2, .int .i64 x3] 47) := ⟨_, rfl⟩
    have HW5 : Hid (w5.alloc (.cells #[.int .i64 q, .int .i64 k, .bool f, .string x0, .int .i64 x1, .int .i64 x2, .int .i64 x3] 47) = W5) := hW5.symm
    have hN5 : Below w5.heap.size w5 W5 := by rw [hW5]; exact one_new _
    have E5 : W5.heap[w5.heap.size]? = some (.cells #[.int .i64 q, .int .i64 k, .bool f, .string x0, .int .i64 x1, .int .i64 x2, .int .i64 x3] 47) := by rw [hW5]; exact heap_alloc_new w5 _
    have hb5 := below_after_of hb5 hN5
    have B5 := (hb5.block w.heap.size (Array.getElem?_eq_some_iff.1 B4).1).trans B4
    have A5 := (hb5.block w4.heap.size (Array.getElem?_eq_some_iff.1 A4).1).trans A4
    have D5 := (hb5.block w3.heap.size (Array.getElem?_eq_some_iff.1 D4).1).trans D4
    have R5 := R4.below hb5
    have hB5 := below_after_of hB4 hb5
    obtain ⟨e0, e1, e2, e3, e4, e5, e6, -, -, -, -, -, -, -⟩ := seven_cells E5
    obtain ⟨d0, d1, d2, d3, d4, d5, d6, -, -, -, -, -, -, -⟩ := seven_cells D5
    have hl5 := (Array.getElem?_eq_some_iff.1 E5).1
    have hl3 := (Array.getElem?_eq_some_iff.1 D5).1
    rw [← HW5.out] at e0 e1 e2 e3 e4 e5 e6 d0 d1 d2 d3 d4 d5 d6
    clear hI hI4 B4 A4 R4 hB4 D4 hW5 hN5 dd4 E5 D5
    go_wp2_with fail
    rw [HW5.out]
    refine (eqAnswerResult_same q k f x0 x1 x2 x3 _).mono ?_
    rintro e w6 ⟨rfl, hb6⟩
    have B6 := (hb6.block w.heap.size (Array.getElem?_eq_some_iff.1 B5).1).trans B5
    have A6 := (hb6.block w4.heap.size (Array.getElem?_eq_some_iff.1 A5).1).trans A5
    have R6 := R5.below hb6
    have hB6 := below_after_of hB5 hb6
    have c6 := one_cellV B6
    have f6 := one_cellV A6
    have hlt6 := (Array.getElem?_eq_some_iff.1 A6).1
    have hlw6 := (Array.getElem?_eq_some_iff.1 B6).1
    have HT6 : Hid (∀ w', Below w6.heap.size w6 w' → Calls Try.prog 36 #[.agg #[.slice a n c]] w' fun e w'' => ∃ a c, e = .returned (.agg #[.slice a n c]) ∧ Below w'.heap.size w' w'' ∧ w''.ownsRow w'.heap.size 28 4 (.slice a n c) n (flR l)) := fun w' h => hT w' (below_after_of hB6 h)
    have HE6 : Hid (∀ w' u, Below w6.heap.size w6 w' → Rcs w' u l → Calls Try.prog 37 #[.agg #[.slice a4 n c4], .agg #[u]] w' fun e w'' => e = .returned (.bool true) ∧ Below w'.heap.size w' w'') := fun w' u h hu => hE _ _ w' (R6.below h) hu
    have hbr := Below.refl w6.heap.size w6
    have HC6 : Hid (∀ w', Below w6.heap.size w6 w' → w'.cell? ⟨w.heap.size, 0, none⟩ = some (.slice a n c) ∧ w'.cell? ⟨w4.heap.size, 0, none⟩ = some (.slice a4 n c4)) := fun w' h => ⟨(h.cell (p := ⟨w.heap.size, 0, none⟩) hlw6).trans c6, (h.cell (p := ⟨w4.heap.size, 0, none⟩) hlt6).trans f6⟩
    clear hb6 B6 A6 R6 hT hE B5 A5 R5 hB5 e0 e1 e2 e3 e4 e5 e6 d0 d1 d2 d3 d4 d5 d6
    go_wp2_with fail
    go_region_held3 (fun w' => w'.cell? ⟨w.heap.size, 0, none⟩ = some (.slice a n c) ∧ w'.cell? ⟨w4.heap.size, 0, none⟩ = some (.slice a4 n c4))
      (first | exact ⟨c6, f6⟩ | exact HC6.out _ hbr | exact HC6.out _ hbr.drew)
      (first
        | (go_at_call 36; refine (HT6.out _ (by first | exact hbr | exact hbr.drew)).mono ?_; rintro e w7 ⟨a7, c7, rfl, hb7, o7⟩; have hbr : Below w6.heap.size w6 w7 := (by first | exact below_after_of hbr hb7 | exact below_after_of hbr.drew hb7))
        | (go_at_call 37; refine (HE6.out _ _ (by first | exact hbr | exact hbr.drew) (own_rcs' o7)).mono ?_; rintro e w8 ⟨rfl, hb8⟩; have hbr : Below w6.heap.size w6 w8 := (by first | exact below_after_of hbr hb8 | exact below_after_of hbr.drew hb8)))
    have hB8 := below_after_of hB6 hbr
    clear HT6 HE6 HC6 o7
    go_wp2
    go_ret
    exact ⟨rfl, hB8⟩
end U
end Go.Proofs.Ythmnjojjnlnbjaa
