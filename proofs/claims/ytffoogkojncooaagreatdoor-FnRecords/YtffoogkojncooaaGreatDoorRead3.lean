/- ReadRecord, the model's: what it answers. -/
import Derived.Test.YtffoogkojncooaaGreatDoorRead2
namespace Go.Proofs.YtffoogkojncooaaGreatDoor
open Go.RowKit
namespace U
/-- What is read: a record, or the code of none. -/
def readV (bs : List Int) : Value := if rdB bs = true then resV 0 (rdL bs) (rdN bs (2 + rdM bs)) (rdN bs (2 + rdM bs + 2)) (rdN bs (2 + rdM bs + 4)) else resV 5 ⟨#[]⟩ 0 0 0
theorem readV_yes {bs : List Int} (h : shapeB bs = true) (h2 : rdC bs = 0) : readV bs = resV 0 (rdL bs) (rdN bs (2 + rdM bs)) (rdN bs (2 + rdM bs + 2)) (rdN bs (2 + rdM bs + 4)) := by
  unfold readV rdB; rw [h]; simp [h2]
theorem readV_code {bs : List Int} (h2 : ¬ rdC bs = 0) : readV bs = resV 5 ⟨#[]⟩ 0 0 0 := by
  unfold readV rdB; simp [h2]
theorem readV_shape {bs : List Int} (h : shapeB bs = false) : readV bs = resV 5 ⟨#[]⟩ 0 0 0 := by
  unfold readV rdB; rw [h]; simp
set_option maxRecDepth 100000 in
set_option maxHeartbeats 4000000 in
theorem specReadRecord_any (A : Nat) (v : Value) (bs : List Int) (w : World) (hv : w.ownsRow A 5 1 v bs.length (bs.map (Value.int .u8))) (hB : Bts bs) (hx : bs.length ≤ 1048576) :
    Calls Tryz.prog 9 #[v] w fun e w' => e = .returned (readV bs) ∧ Below w.heap.size w w' := by
  have hY := fun o => l3Read_yes A v bs (w.alloc o) (own_below hv (one_new o)) hB hx
  have hN := fun o => l3Read_no A v bs (w.alloc o) (own_below hv (one_new o)) hB hx
  rcases Bool.eq_false_or_eq_true (shapeB bs) with hs | hs
  · have h1 := readV_yes hs
    have h2 := readV_code (bs := bs)
    generalize readV bs = rv at *
    have hY := fun o => hY o hs
    generalize rdC bs = rc at *
    generalize rdL bs = l at *
    generalize rdN bs (2 + rdM bs) = nv at *
    generalize rdN bs (2 + rdM bs + 2) = no at *
    generalize rdN bs (2 + rdM bs + 4) = np at *
    obtain ⟨a, c, rfl⟩ := own_shape hv
    generalize bs.length = n at *
    unfold recV at *
    by_cases h0 : rc = 0
    · have h3 : (rc == 0) = true := by simp [h0]
      rw [h3] at hY
      rw [h1 h0]
      unfold resV
      clear h1 h2 hN hv
      go_enter Tryz.func9, Tryz.ntmps9
      go_wp2_with fail
      refine (hY _).mono ?_
      rintro e w1 ⟨rfl, hb1⟩
      have Z2 := ((res_of_heap (heap_alloc_new w _)).belowB hb1 (by simp)).belowB (one_new (.cells #[.string l, .int .i64 nv, .int .i64 no, .int .i64 np] 26)) (by have := hb1.size; simp at this; omega)
      have hB1 := below_after_of (below_after hb1) (one_new (.cells #[.string l, .int .i64 nv, .int .i64 no, .int .i64 np] 26))
      obtain ⟨c0, c1, c2, c3, c4, f0, f1, f2, f3, f4⟩ := Z2
      clear hb1
      go_wp2
      exact bodyPost_ret (v := .agg #[.int .i64 0, .string l, .int .i64 nv, .int .i64 no, .int .i64 np]) (by simp [results, Tryz.results9, go_sem, c0, c1, c2, c3, c4]) rfl ⟨rfl, ((((hB1.setCell (Nat.le_refl _) _).setCell (Nat.le_refl _) _).setCell (Nat.le_refl _) _).setCell (Nat.le_refl _) _).setCell (Nat.le_refl _) _⟩
    · have h3 : (rc == 0) = false := by simp [h0]
      rw [h3] at hY
      rw [h2 h0]
      unfold resV
      clear h1 h2 hN hv h0
      go_enter Tryz.func9, Tryz.ntmps9
      go_wp2_with fail
      refine (hY _).mono ?_
      rintro e w1 ⟨rfl, hb1⟩
      have Z2 := ((res_of_heap (heap_alloc_new w _)).belowB hb1 (by simp)).belowB (one_new (.cells #[.string l, .int .i64 nv, .int .i64 no, .int .i64 np] 26)) (by have := hb1.size; simp at this; omega)
      have hB1 := below_after_of (below_after hb1) (one_new (.cells #[.string l, .int .i64 nv, .int .i64 no, .int .i64 np] 26))
      obtain ⟨c0, c1, c2, c3, c4, f0, f1, f2, f3, f4⟩ := Z2
      clear hb1
      go_wp2
      exact bodyPost_ret (v := .agg #[.int .i64 5, .string ⟨#[]⟩, .int .i64 0, .int .i64 0, .int .i64 0]) (by simp [results, Tryz.results9, go_sem, c0, c1, c2, c3, c4]) rfl ⟨rfl, ((((hB1.setCell (Nat.le_refl _) _).setCell (Nat.le_refl _) _).setCell (Nat.le_refl _) _).setCell (Nat.le_refl _) _).setCell (Nat.le_refl _) _⟩
  · rw [readV_shape hs]
    obtain ⟨a, c, rfl⟩ := own_shape hv
    have hN := fun o => hN o hs
    generalize bs.length = n at *
    unfold recV at *
    unfold resV
    clear hY hv
    go_enter Tryz.func9, Tryz.ntmps9
    go_wp2_with fail
    refine (hN _).mono ?_
    rintro e w1 ⟨rfl, hb1⟩
    have Z2 := ((res_of_heap (heap_alloc_new w _)).belowB hb1 (by simp)).belowB (one_new (.cells #[.string ⟨#[]⟩, .int .i64 0, .int .i64 0, .int .i64 0] 26)) (by have := hb1.size; simp at this; omega)
    have hB1 := below_after_of (below_after hb1) (one_new (.cells #[.string ⟨#[]⟩, .int .i64 0, .int .i64 0, .int .i64 0] 26))
    obtain ⟨c0, c1, c2, c3, c4, f0, f1, f2, f3, f4⟩ := Z2
    clear hb1
    go_wp2
    exact bodyPost_ret (v := .agg #[.int .i64 5, .string ⟨#[]⟩, .int .i64 0, .int .i64 0, .int .i64 0]) (by simp [results, Tryz.results9, go_sem, c0, c1, c2, c3, c4]) rfl ⟨rfl, ((((hB1.setCell (Nat.le_refl _) _).setCell (Nat.le_refl _) _).setCell (Nat.le_refl _) _).setCell (Nat.le_refl _) _).setCell (Nat.le_refl _) _⟩
end U
end Go.Proofs.YtffoogkojncooaaGreatDoor
