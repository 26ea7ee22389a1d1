/- The array of the sums of what is empty, as the program makes it; EmptySum. -/
import Derived.Test.YtljbcpkjhnbpeaaDoorSl2
namespace Go.Proofs.YtljbcpkjhnbpeaaDoor
open Go.RowKit
namespace U
/-- Nine numbers in a block. -/
structure ArrAt (w : World) (g : Nat) (f : Nat → Int) : Prop where
  c : ∀ j, j < 9 → w.cell? ⟨g, j, none⟩ = some (.int .i64 (f j))
  z : ∀ j, j < 9 → w.frozen? ⟨g, j, none⟩ = false
def arrA (f : Nat → Int) : Array Value := #[.int .i64 (f 0), .int .i64 (f 1), .int .i64 (f 2), .int .i64 (f 3), .int .i64 (f 4), .int .i64 (f 5), .int .i64 (f 6), .int .i64 (f 7), .int .i64 (f 8)]
theorem lt9 {j : Nat} (h : j < 9) : j = 0 ∨ j = 1 ∨ j = 2 ∨ j = 3 ∨ j = 4 ∨ j = 5 ∨ j = 6 ∨ j = 7 ∨ j = 8 := by omega
theorem ArrAt.of {w : World} {g : Nat} {f : Nat → Int} {t : TypeId} (h : w.heap[g]? = some (.cells (arrA f) t)) : ArrAt w g f := by
  constructor
  · intro j hj
    rcases lt9 hj with rfl | rfl | rfl | rfl | rfl | rfl | rfl | rfl | rfl <;> (unfold World.cell?; rw [h]; rfl)
  · intro j hj
    rcases lt9 hj with rfl | rfl | rfl | rfl | rfl | rfl | rfl | rfl | rfl <;> (unfold World.frozen?; rw [h]; rfl)
theorem ArrAt.below {w w' : World} {g B : Nat} {f : Nat → Int} (h : ArrAt w g f) (hb : Below B w w') (hg : g < B) : ArrAt w' g f :=
  ⟨fun j hj => (hb.cell (p := ⟨g, j, none⟩) hg).trans (h.c j hj), fun j hj => (hb.frozen (p := ⟨g, j, none⟩) hg).trans (h.z j hj)⟩
theorem ArrAt.set {w : World} {g k : Nat} {f : Nat → Int} (h : ArrAt w g f) (hk : k < 9) (x : Int) : ArrAt (w.setCell ⟨g, k, none⟩ (.int .i64 x)) g (fun j => if j = k then x else f j) := by
  refine ⟨fun j hj => ?_, fun j hj => (World.frozen?_setCell _ _ _ _).trans (h.z j hj)⟩
  by_cases e : j = k
  · subst e
    rw [if_pos rfl]
    exact World.cell?_setCell_same _ _ _ (h.c j hj)
  · rw [if_neg e]
    exact (World.cell?_setCell_other _ _ _ _ (by simp)).trans (h.c j hj)
theorem ArrAt.other {w : World} {g k b : Nat} {f : Nat → Int} (h : ArrAt w g f) (hb : b ≠ g) (x : Value) : ArrAt (w.setCell ⟨b, k, none⟩ x) g f :=
  ⟨fun j hj => (World.cell?_setCell_other _ _ _ _ (by simp)).trans (h.c j hj), fun j hj => (World.frozen?_setCell _ _ _ _).trans (h.z j hj)⟩
theorem ArrAt.cells {w : World} {g : Nat} {f : Nat → Int} (h : ArrAt w g f) : w.cell? ⟨g, 0, none⟩ = some (.int .i64 (f 0)) ∧ w.cell? ⟨g, 1, none⟩ = some (.int .i64 (f 1)) ∧ w.cell? ⟨g, 2, none⟩ = some (.int .i64 (f 2)) ∧ w.cell? ⟨g, 3, none⟩ = some (.int .i64 (f 3)) ∧ w.cell? ⟨g, 4, none⟩ = some (.int .i64 (f 4)) ∧ w.cell? ⟨g, 5, none⟩ = some (.int .i64 (f 5)) ∧ w.cell? ⟨g, 6, none⟩ = some (.int .i64 (f 6)) ∧ w.cell? ⟨g, 7, none⟩ = some (.int .i64 (f 7)) ∧ w.cell? ⟨g, 8, none⟩ = some (.int .i64 (f 8)) :=
  ⟨h.c 0 (by omega), h.c 1 (by omega), h.c 2 (by omega), h.c 3 (by omega), h.c 4 (by omega), h.c 5 (by omega), h.c 6 (by omega), h.c 7 (by omega), h.c 8 (by omega)⟩
theorem ArrAt.froz {w : World} {g : Nat} {f : Nat → Int} (h : ArrAt w g f) : w.frozen? ⟨g, 0, none⟩ = false ∧ w.frozen? ⟨g, 1, none⟩ = false ∧ w.frozen? ⟨g, 2, none⟩ = false ∧ w.frozen? ⟨g, 3, none⟩ = false ∧ w.frozen? ⟨g, 4, none⟩ = false ∧ w.frozen? ⟨g, 5, none⟩ = false ∧ w.frozen? ⟨g, 6, none⟩ = false ∧ w.frozen? ⟨g, 7, none⟩ = false ∧ w.frozen? ⟨g, 8, none⟩ = false :=
  ⟨h.z 0 (by omega), h.z 1 (by omega), h.z 2 (by omega), h.z 3 (by omega), h.z 4 (by omega), h.z 5 (by omega), h.z 6 (by omega), h.z 7 (by omega), h.z 8 (by omega)⟩
theorem ArrAt.congr {w : World} {g : Nat} {f f' : Nat → Int} (h : ArrAt w g f) (e : ∀ j, j < 9 → f j = f' j) : ArrAt w g f' := ⟨fun j hj => by rw [← e j hj]; exact h.c j hj, h.z⟩
/-- The sums up to a level, zero behind it. -/
def pre (k j : Nat) : Int := if j ≤ k then emp j else 0
set_option maxRecDepth 100000 in
set_option maxHeartbeats 4000000 in
theorem emptySums_any (w : World) :
    Calls Tryd.prog 54 #[] w fun e w' => e = .returned (.agg (arrA emp)) ∧ Below w.heap.size w w' := by
  have hS := fun w => implSumOf_any (.slice none 0 0) [] w (Or.inl ⟨rfl, _, _, rfl⟩) (fun b hb => by cases hb) (by simp)
  have e0 : smC [] = 0 ∧ smV [] = 13 := ⟨rfl, rfl⟩
  rw [e0.1, e0.2] at hS
  have kf := fun w => field_IR1 0 13 w
  clear e0
  go_enter Tryd.func54, Tryd.ntmps54
  go_wp2_with fail
  refine (hS _).mono ?_
  rintro e w1 ⟨rfl, hb1⟩
  have Z1 : ArrAt w1 w.heap.size (fun _ => 0) := ArrAt.of (f := fun _ => 0) ((hb1.block w.heap.size (by simp)).trans (heap_alloc_new w _))
  have hB1 := below_after hb1
  have hsz1 : w.heap.size < w1.heap.size := by have := hb1.size; simp at this; omega
  clear hS hb1
  go_wp2_with fail
  have A1 : ArrAt (w1.alloc (.cells (arrA (pre 0)) 93)) w1.heap.size (pre 0) := ArrAt.of (heap_alloc_new _ _)
  have Z2 : ArrAt (w1.alloc (.cells (arrA (pre 0)) 93)) w.heap.size (fun _ => 0) := Z1.below (one_new _) hsz1
  have hB2 : Below w.heap.size w (w1.alloc (.cells (arrA (pre 0)) 93)) := hB1.alloc (Nat.le_of_lt hsz1) _
  have HA1 : Hid (ArrAt (w1.alloc (.cells (arrA (pre 0)) 93)) w1.heap.size (pre 0)) := A1
  have HZ2 : Hid (ArrAt (w1.alloc (.cells (arrA (pre 0)) 93)) w.heap.size (fun _ => 0)) := Z2
  have HB2 : Hid (Below w.heap.size w (w1.alloc (.cells (arrA (pre 0)) 93))) := hB2
  clear A1 Z2 hB2 Z1 hB1 kf
  go_loopw [6] (fun i wr => ∃ k : Nat, k ≤ 8 ∧ i = .int .i64 k ∧ w1.heap.size < wr.heap.size ∧ Hid (Below w.heap.size w wr) ∧ Hid (ArrAt wr w1.heap.size (pre k)) ∧ Hid (ArrAt wr w.heap.size (fun _ => 0))) (fun i _ => 8 - (intOf i).toNat)
  case atStart => exact ⟨0, by omega, rfl, by simp, HB2, HA1, HZ2⟩
  case round =>
    obtain ⟨k, hk, rfl, hsz, HB, HA, HZ⟩ := hrel
    by_cases hk8 : k < 8
    · have hki : (k : Int) < 8 := by omega
      have ck := HA.out.c k (by omega)
      have e1 : pre k k = emp k := by unfold pre; rw [if_pos (Nat.le_refl _)]
      rw [e1] at ck
      have hbd := emp_bd k
      have HE : Hid (∀ j, j < 9 → (fun j => if j = k + 1 then t2 (emp k) (emp k) else pre k j) j = pre (k + 1) j) := fun j hj => by
        show (if j = k + 1 then t2 (emp k) (emp k) else pre k j) = pre (k + 1) j
        unfold pre
        by_cases e : j = k + 1
        · subst e
          rw [if_pos rfl, if_pos (Nat.le_refl _)]
          rfl
        · rw [if_neg e]
          by_cases e2 : j ≤ k
          · rw [if_pos e2, if_pos (by omega)]
          · rw [if_neg e2, if_neg (by omega)]
      have hP := fun w => pairSum_any (emp k) (emp k) w hbd hbd
      generalize t2 (emp k) (emp k) = y at *
      generalize emp k = x at *
      have hmk : Hid (∀ w', Below wr.heap.size wr w' → ArrAt w' w1.heap.size (pre k)) := fun w' h => HA.out.below h hsz
      clear e1
      have hk0 : (0 : Int) ≤ (k : Int) := by omega
      have hk9 : (k : Int) < 9 := by omega
      have hk10 : (0 : Int) ≤ (k : Int) + 1 := by omega
      have hk11 : (k : Int) + 1 < 9 := by omega
      have hkw : IntKind.i64.wrap ((k : Int) + 1) = (k : Int) + 1 := by rw [IntKind.wrap_i64]; omega
      go_wp2
      go_region_held3 (fun w' => w'.cell? ⟨w1.heap.size, k, none⟩ = some (.int .i64 x))
        (first | exact ck | exact (hbr.cell (p := ⟨w1.heap.size, k, none⟩) hsz).trans ck | exact (World.cell?_setCell_other _ _ _ _ (by simp)).trans ((hbr.cell (p := ⟨w1.heap.size, k, none⟩) hsz).trans ck))
        (first | (go_at_call 82; refine (hP _).mono ?_; rintro e wq ⟨rfl, hbq⟩; have hbr : Below wr.heap.size wr wq := below_after_of (Below.refl _ _).drew hbq; have hk1 := (hmk.out _ hbr).c (k + 1) (by omega); have hz1 := (hmk.out _ hbr).z (k + 1) (by omega); clear hbq))
      have hbs : Below w.heap.size w (wq.setCell ⟨w1.heap.size, k + 1, none⟩ (.int .i64 y)) := (below_after_of HB.out hbr).setCell (Nat.le_of_lt hsz1) _
      have hA2 := ((hmk.out _ hbr).set (k := k + 1) (by omega) y).congr HE.out
      have hZ2 := (HZ.out.below hbr (by omega)).other (k := k + 1) (b := w1.heap.size) (by omega) (.int .i64 y)
      have hsz2 := hbr.size
      have HHB : Hid (Below w.heap.size w (wq.setCell ⟨w1.heap.size, k + 1, none⟩ (.int .i64 y))) := hbs
      have HHA : Hid (ArrAt (wq.setCell ⟨w1.heap.size, k + 1, none⟩ (.int .i64 y)) w1.heap.size (pre (k + 1))) := hA2
      have HHZ : Hid (ArrAt (wq.setCell ⟨w1.heap.size, k + 1, none⟩ (.int .i64 y)) w.heap.size (fun _ => 0)) := hZ2
      clear hbs hA2 hZ2 hmk hP hbr hk1 hz1 ck
      go_wp2
      go_roundw
      case rel => exact ⟨k + 1, by omega, by go_num, by simp; omega, HHB, HHA, HHZ⟩
      case measure => simp [intOf]; omega
    · have hk8 : k = 8 := by omega
      have hki : ¬ (k : Int) < 8 := by omega
      obtain ⟨c0, c1, c2, c3, c4, c5, c6, c7, c8⟩ := (HA.out.congr (f' := emp) (fun j hj => by unfold pre; rw [if_pos (by omega)])).cells
      obtain ⟨d0, d1, d2, d3, d4, d5, d6, d7, d8⟩ := HZ.out.cells
      obtain ⟨z0, z1, z2, z3, z4, z5, z6, z7, z8⟩ := HZ.out.froz
      clear hk8
      go_wp2
      have hB := HB.out
      exact bodyPost_ret (v := .agg (arrA emp)) (by simp [results, Tryd.results54, go_sem, arrA, d0, d1, d2, d3, d4, d5, d6, d7, d8]) rfl ⟨rfl, ((((((((hB.setCell (Nat.le_refl _) _).setCell (Nat.le_refl _) _).setCell (Nat.le_refl _) _).setCell (Nat.le_refl _) _).setCell (Nat.le_refl _) _).setCell (Nat.le_refl _) _).setCell (Nat.le_refl _) _).setCell (Nat.le_refl _) _).setCell (Nat.le_refl _) _⟩
theorem index_arr (f : Nat → Int) (k : Nat) (hk : k < 9) (w : World) : (Instr.index 93 (.agg (arrA f)) (.int .i64 (k : Int))).run Tryd.prog w = .ok (.int .i64 (f k)) w := by
  rcases lt9 hk with rfl | rfl | rfl | rfl | rfl | rfl | rfl | rfl | rfl <;> kernel_rfl
end U
end Go.Proofs.YtljbcpkjhnbpeaaDoor
