/- An operation in a box of one's own. -/
import Derived.Test.YtcdodpcdennemaaJrE
import Derived.Test.YtcdodpcdennemaaJrR
import Derived.Test.YtcdodpcdennemaaRdo2
namespace Go.Proofs.Ytcdodpcdennemaa
open Go.RowKit
namespace U
theorem seven_cellsO {w : World} {b : Nat} {x0 x1 x2 x3 x4 x5 x6 : Value} {t : TypeId} (h : w.heap[b]? = some (.cells #[x0, x1, x2, x3, x4, x5, x6] t)) : (w.cell? ⟨b, 0, none⟩ = some x0 ∧ w.cell? ⟨b, 1, none⟩ = some x1 ∧ w.cell? ⟨b, 2, none⟩ = some x2 ∧ w.cell? ⟨b, 3, none⟩ = some x3 ∧ w.cell? ⟨b, 4, none⟩ = some x4 ∧ w.cell? ⟨b, 5, none⟩ = some x5 ∧ w.cell? ⟨b, 6, none⟩ = some x6) ∧ w.frozen? ⟨b, 0, none⟩ = false ∧ w.frozen? ⟨b, 1, none⟩ = false ∧ w.frozen? ⟨b, 2, none⟩ = false ∧ w.frozen? ⟨b, 3, none⟩ = false ∧ w.frozen? ⟨b, 4, none⟩ = false ∧ w.frozen? ⟨b, 5, none⟩ = false ∧ w.frozen? ⟨b, 6, none⟩ = false := by
  simp [World.cell?, World.frozen?, h]
theorem put_rec7 {w : World} {g : Nat} {x0 x1 x2 x3 x4 x5 x6 : Value} {t : TypeId} (h : w.heap[g]? = some (.cells #[x0, x1, x2, x3, x4, x5, x6] t)) (y1 y2 y3 y4 : Value) : ((((w.setCell ⟨g, 1, none⟩ y1).setCell ⟨g, 2, none⟩ y2).setCell ⟨g, 3, none⟩ y3).setCell ⟨g, 4, none⟩ y4).heap[g]? = some (.cells #[x0, y1, y2, y3, y4, x5, x6] t) := by
  have h1 := heap_setCell_same w g 1 _ _ y1 h
  have h2 := heap_setCell_same _ g 2 _ _ y2 h1
  have h3 := heap_setCell_same _ g 3 _ _ y3 h2
  have h4 := heap_setCell_same _ g 4 _ _ y4 h3
  simpa using h4
theorem put_five7 {w : World} {g : Nat} {x0 x1 x2 x3 x4 x5 x6 : Value} {t : TypeId} (h : w.heap[g]? = some (.cells #[x0, x1, x2, x3, x4, x5, x6] t)) (y : Value) : (w.setCell ⟨g, 5, none⟩ y).heap[g]? = some (.cells #[x0, x1, x2, x3, x4, y, x6] t) := by simpa using heap_setCell_same w g 5 _ _ y h
theorem put_six7 {w : World} {g : Nat} {x0 x1 x2 x3 x4 x5 x6 : Value} {t : TypeId} (h : w.heap[g]? = some (.cells #[x0, x1, x2, x3, x4, x5, x6] t)) (y : Value) : (w.setCell ⟨g, 6, none⟩ y).heap[g]? = some (.cells #[x0, x1, x2, x3, x4, x5, y] t) := by simpa using heap_setCell_same w g 6 _ _ y h
theorem below_set7 {w w' : World} {N : Nat} (h : Below N w w') (b : Nat) (hb : N ≤ b) (x0 x1 x2 x3 x4 x5 x6 : Value) : Below N w (((((((w'.setCell ⟨b, 0, none⟩ x0).setCell ⟨b, 1, none⟩ x1).setCell ⟨b, 2, none⟩ x2).setCell ⟨b, 3, none⟩ x3).setCell ⟨b, 4, none⟩ x4).setCell ⟨b, 5, none⟩ x5).setCell ⟨b, 6, none⟩ x6) :=
  ((((((h.setCell hb _).setCell hb _).setCell hb _).setCell hb _).setCell hb _).setCell hb _).setCell hb _
theorem below_set4 {w w' : World} {N : Nat} (h : Below N w w') (b : Nat) (hb : N ≤ b) (y1 y2 y3 y4 : Value) : Below N w ((((w'.setCell ⟨b, 1, none⟩ y1).setCell ⟨b, 2, none⟩ y2).setCell ⟨b, 3, none⟩ y3).setCell ⟨b, 4, none⟩ y4) :=
  (((h.setCell hb _).setCell hb _).setCell hb _).setCell hb _
theorem other_set4 {w : World} {b g : Nat} (h : g ≠ b) (y1 y2 y3 y4 : Value) : ((((w.setCell ⟨b, 1, none⟩ y1).setCell ⟨b, 2, none⟩ y2).setCell ⟨b, 3, none⟩ y3).setCell ⟨b, 4, none⟩ y4).heap[g]? = w.heap[g]? :=
  ((heap_setCell_other _ ⟨b, 4, none⟩ g _ h).trans (heap_setCell_other _ ⟨b, 3, none⟩ g _ h)).trans ((heap_setCell_other _ ⟨b, 2, none⟩ g _ h).trans (heap_setCell_other _ ⟨b, 1, none⟩ g _ h))
def opnV (x : Opn) : Value := opV x.k x.l x.v x.o x.p x.s x.n
def oprnV (c : Int) (x : Opn) : Value := oprV c x.k x.l x.v x.o x.p x.s x.n
/-- What is read of bytes. -/
def rdoV (bs : List Int) : Value := if isB bs = true then oprnV 0 (rdOpn bs) else oprnV 5 (opZ 0)
theorem rdoV_res (bs : List Int) : ∃ c k l v o p s n, rdoV bs = oprV c k l v o p s n := by
  unfold rdoV
  split <;> exact ⟨_, _, _, _, _, _, _, _, rfl⟩
theorem rdL_size (bs : List Int) : (rdL bs).size ≤ bs.length := by
  unfold rdL sOf
  show (List.toArray _).size ≤ _
  simp
  omega
theorem rdOpn_size {bs : List Int} (hx : bs.length ≤ 1048576) : (rdOpn bs).l.size ≤ 1048576 := by
  unfold rdOpn
  split
  · exact Nat.zero_le _
  · split
    · split
      · have := rdL_size (bs.drop 3)
        rw [List.length_drop] at this
        show (rdL (bs.drop 3)).size ≤ _
        omega
      · exact Nat.zero_le _
    · split <;> exact Nat.zero_le _
theorem OffB.drop3 {w : World} {b off c : Nat} {bs : List Int} (h : OffB w (.slice (some ⟨b, off, none⟩) bs.length c) bs) (h3 : 3 ≤ bs.length) : OffB w (.slice (some ⟨b, off + 3, none⟩) (bs.length - 3) (c - 3)) (bs.drop 3) := by
  obtain ⟨⟨a, c', e, hcap⟩, hI⟩ := h
  cases e
  refine ⟨⟨_, _, by rw [List.length_drop], by rw [List.length_drop]; omega⟩, ?_⟩
  obtain ⟨-, b', off', e, hb, hc⟩ := hI.at (by omega)
  cases e
  by_cases h0 : bs.length = 3
  · have e1 : bs.drop 3 = [] := List.drop_eq_nil_of_le (by omega)
    rw [e1, h0]
    exact Or.inl ⟨rfl, _, _, rfl⟩
  · refine Or.inr ⟨b, off + 3, c - 3, by rw [List.length_drop], hb, fun j hj => ?_⟩
    rw [List.length_drop] at hj
    have := hc (3 + j) (by omega)
    rw [show off + 3 + j = off + (3 + j) by omega, this]
    congr 2
    simp only [List.getD_eq_getElem?_getD, List.getElem?_drop]
theorem fldRR1 (c : Int) (l : ByteArray) (v o p : Int) (w : World) : (Instr.field 173 (resV c l v o p) 1).run Try.prog w = .ok (recV l v o p) w := by kernel_rfl
end U
end Go.Proofs.Ytcdodpcdennemaa
