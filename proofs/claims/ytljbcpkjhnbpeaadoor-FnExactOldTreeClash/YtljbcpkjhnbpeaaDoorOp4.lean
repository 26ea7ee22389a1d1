/- Climbing, by the program. -/
import Derived.Test.YtljbcpkjhnbpeaaDoorOp2
import Derived.Test.YtljbcpkjhnbpeaaDoorOp3
import Derived.ScopeJumps
import Derived.WalkMore
namespace Go.Proofs.YtljbcpkjhnbpeaaDoor
open Go.RowKit
namespace U
/-- Eight values in a block. -/
structure ArrV (w : World) (g : Nat) (f : Nat → Value) : Prop where
  c : ∀ j, j < 8 → w.cell? ⟨g, j, none⟩ = some (f j)
  z : ∀ j, j < 8 → w.frozen? ⟨g, j, none⟩ = false
def arrV (f : Nat → Value) : Array Value := #[f 0, f 1, f 2, f 3, f 4, f 5, f 6, f 7]
theorem lt8 {j : Nat} (h : j < 8) : j = 0 ∨ j = 1 ∨ j = 2 ∨ j = 3 ∨ j = 4 ∨ j = 5 ∨ j = 6 ∨ j = 7 := by omega
theorem ArrV.of {w : World} {g : Nat} {f : Nat → Value} {t : TypeId} (h : w.heap[g]? = some (.cells (arrV f) t)) : ArrV w g f := by
  constructor
  · intro j hj
    rcases lt8 hj with rfl | rfl | rfl | rfl | rfl | rfl | rfl | rfl <;> (unfold World.cell?; rw [h]; rfl)
  · intro j hj
    rcases lt8 hj with rfl | rfl | rfl | rfl | rfl | rfl | rfl | rfl <;> (unfold World.frozen?; rw [h]; rfl)
theorem ArrV.below {w w' : World} {g B : Nat} {f : Nat → Value} (h : ArrV w g f) (hb : Below B w w') (hg : g < B) : ArrV w' g f :=
  ⟨fun j hj => (hb.cell (p := ⟨g, j, none⟩) hg).trans (h.c j hj), fun j hj => (hb.frozen (p := ⟨g, j, none⟩) hg).trans (h.z j hj)⟩
theorem ArrV.set {w : World} {g k : Nat} {f : Nat → Value} (h : ArrV w g f) (hk : k < 8) (x : Value) : ArrV (w.setCell ⟨g, k, none⟩ x) g (fun j => if j = k then x else f j) := by
  refine ⟨fun j hj => ?_, fun j hj => (World.frozen?_setCell _ _ _ _).trans (h.z j hj)⟩
  by_cases e : j = k
  · subst e
    rw [if_pos rfl]
    exact World.cell?_setCell_same _ _ _ (h.c j hj)
  · rw [if_neg e]
    exact (World.cell?_setCell_other _ _ _ _ (by simp)).trans (h.c j hj)
theorem ArrV.other {w : World} {g k b : Nat} {f : Nat → Value} (h : ArrV w g f) (hb : b ≠ g) (x : Value) : ArrV (w.setCell ⟨b, k, none⟩ x) g f :=
  ⟨fun j hj => (World.cell?_setCell_other _ _ _ _ (by simp)).trans (h.c j hj), fun j hj => (World.frozen?_setCell _ _ _ _).trans (h.z j hj)⟩
theorem ArrV.cells {w : World} {g : Nat} {f : Nat → Value} (h : ArrV w g f) : w.cell? ⟨g, 0, none⟩ = some (f 0) ∧ w.cell? ⟨g, 1, none⟩ = some (f 1) ∧ w.cell? ⟨g, 2, none⟩ = some (f 2) ∧ w.cell? ⟨g, 3, none⟩ = some (f 3) ∧ w.cell? ⟨g, 4, none⟩ = some (f 4) ∧ w.cell? ⟨g, 5, none⟩ = some (f 5) ∧ w.cell? ⟨g, 6, none⟩ = some (f 6) ∧ w.cell? ⟨g, 7, none⟩ = some (f 7) :=
  ⟨h.c 0 (by omega), h.c 1 (by omega), h.c 2 (by omega), h.c 3 (by omega), h.c 4 (by omega), h.c 5 (by omega), h.c 6 (by omega), h.c 7 (by omega)⟩
theorem ArrV.froz {w : World} {g : Nat} {f : Nat → Value} (h : ArrV w g f) : w.frozen? ⟨g, 0, none⟩ = false ∧ w.frozen? ⟨g, 1, none⟩ = false ∧ w.frozen? ⟨g, 2, none⟩ = false ∧ w.frozen? ⟨g, 3, none⟩ = false ∧ w.frozen? ⟨g, 4, none⟩ = false ∧ w.frozen? ⟨g, 5, none⟩ = false ∧ w.frozen? ⟨g, 6, none⟩ = false ∧ w.frozen? ⟨g, 7, none⟩ = false :=
  ⟨h.z 0 (by omega), h.z 1 (by omega), h.z 2 (by omega), h.z 3 (by omega), h.z 4 (by omega), h.z 5 (by omega), h.z 6 (by omega), h.z 7 (by omega)⟩
theorem ArrV.congr {w : World} {g : Nat} {f f' : Nat → Value} (h : ArrV w g f) (e : ∀ j, j < 8 → f j = f' j) : ArrV w g f' := ⟨fun j hj => by rw [← e j hj]; exact h.c j hj, h.z⟩
/-- A scope with one label to which the run jumps back: a pass is walked once. -/
theorem wp_scope_once {P : Program} {a : Act} {w : World} {Q : Exit → Act → World → Prop} {c R : Code} (l : Nat) (J : Act → World → Prop) (μ : Act → World → Nat) (hf : findLabel c l = some (Code.skip.seq R))
    (pass : ∀ a w, J a w → R.wp P (Exit.jump l (fun a' w' => J a' w' ∧ μ a' w' < μ a w) Q) a w)
    (first : (∀ a w, J a w → R.wp P (Exit.jump l J Q) a w) → c.wp P (Exit.jump l J Q) a w) : (Code.scope c).wp P Q a w := by
  refine wp_scope_jumps l J μ hf (first fun a w h => Code.wp_mono ?_ (pass a w h)) (fun a w h => wp_seq (wp_skip (pass a w h)))
  intro e a' w' h'
  cases e <;> first | exact h' | exact ⟨h'.1, h'.2.1⟩
theorem two_lie (w : World) (o o' : Obj) : ((w.alloc o).alloc o').heap[w.heap.size]? = some o ∧ ((w.alloc o).alloc o').heap[w.heap.size + 1]? = some o' := by
  have h1 := heap_alloc_new (w.alloc o) o'
  simp only [World.size_alloc] at h1
  exact ⟨(Below.heap_alloc _ _ _ (by simp)).trans (heap_alloc_new w o), h1⟩
/-- The nodes up to a level, as numbers; nothing behind it. -/
def nds (x s : Int) (p : List Int) (k j : Nat) : Value := if j < k then cx (sdL x s p j) (sdR x s p j) else .complex .f64 0 0
theorem nds_set (x s : Int) (p : List Int) (k : Nat) : ∀ j, j < 8 → (fun j => if j = k then cx (sdL x s p k) (sdR x s p k) else nds x s p k j) j = nds x s p (k + 1) j := by
  intro j _
  show (if j = k then cx (sdL x s p k) (sdR x s p k) else nds x s p k j) = nds x s p (k + 1) j
  unfold nds
  by_cases e : j = k
  · subst e
    rw [if_pos rfl, if_pos (by omega)]
  · rw [if_neg e]
    by_cases e2 : j < k
    · rw [if_pos e2, if_pos (by omega)]
    · rw [if_neg e2, if_neg (by omega)]
def zro : Nat → Value := fun _ => .complex .f64 0 0
theorem ArrV.zcells {w : World} {g : Nat} (h : ArrV w g zro) : w.cell? ⟨g, 0, none⟩ = some (.complex .f64 0 0) ∧ w.cell? ⟨g, 1, none⟩ = some (.complex .f64 0 0) ∧ w.cell? ⟨g, 2, none⟩ = some (.complex .f64 0 0) ∧ w.cell? ⟨g, 3, none⟩ = some (.complex .f64 0 0) ∧ w.cell? ⟨g, 4, none⟩ = some (.complex .f64 0 0) ∧ w.cell? ⟨g, 5, none⟩ = some (.complex .f64 0 0) ∧ w.cell? ⟨g, 6, none⟩ = some (.complex .f64 0 0) ∧ w.cell? ⟨g, 7, none⟩ = some (.complex .f64 0 0) := h.cells
theorem nds_zero (x s : Int) (p : List Int) : nds x s p 0 = zro := by
  funext j
  unfold nds zro
  rw [if_neg (by omega)]
end U
end Go.Proofs.YtljbcpkjhnbpeaaDoor
