/- A record out of bytes: what bytes tell. -/
import Derived.Test.YtcdodpcdennemaaRead1
import Derived.Test.YtcdodpcdennemaaRec2
import Derived.Test.YtcdodpcdennemaaRecW
namespace Go.Proofs.Ytcdodpcdennemaa
open Go.RowKit
namespace U
/-- Bytes that have a record's shape. -/
structure Shape (bs : List Int) (m : Nat) : Prop where
  h0 : bs.getD 0 0 = 1
  h1 : bs.getD 1 0 = (m : Int)
  len : bs.length = 8 + m
def shapeB (bs : List Int) : Bool := decide (8 ≤ bs.length ∧ bs.getD 0 0 = 1 ∧ (bs.length : Int) = 8 + bs.getD 1 0)
def rdM (bs : List Int) : Nat := (bs.getD 1 0).toNat
theorem shape_of {bs : List Int} (hB : Bts bs) (h : shapeB bs = true) : Shape bs (rdM bs) := by
  unfold shapeB at h
  rw [decide_eq_true_iff] at h
  have := hB.at (k := 1) (by omega)
  exact ⟨h.2.1, by unfold rdM; omega, by unfold rdM; omega⟩
def rdL (bs : List Int) : ByteArray := sOf ((bs.drop 2).take (rdM bs))
def rdN (bs : List Int) (k : Nat) : Int := 256 * bs.getD k 0 + bs.getD (k + 1) 0
def rdC (bs : List Int) : Int := recC (rdL bs) (rdN bs (2 + rdM bs)) (rdN bs (2 + rdM bs + 2)) (rdN bs (2 + rdM bs + 4))
def rdB (bs : List Int) : Bool := shapeB bs && decide (rdC bs = 0)
theorem Shape.sub {bs : List Int} {m : Nat} (h : Shape bs m) {w : World} {b off c n : Nat} (hI : Ints .u8 w (.slice (some ⟨b, off, none⟩) n c) bs) (c' : Nat) : Ints .u8 w (.slice (some ⟨b, off + 2, none⟩) m c') ((bs.drop 2).take m) := by
  obtain ⟨-, b', off', e, hb, hc⟩ := hI.at (by have := h.len; omega)
  cases e
  have hl : ((bs.drop 2).take m).length = m := by rw [List.length_take, List.length_drop, h.len]; omega
  refine Or.inr ⟨b, off + 2, c', by rw [hl], hb, fun j hj => ?_⟩
  rw [hl] at hj
  have := hc (2 + j) (by have := h.len; omega)
  rw [show off + 2 + j = off + (2 + j) by omega, this]
  congr 2
  simp only [List.getD_eq_getElem?_getD, List.getElem?_take, List.getElem?_drop, if_pos hj]
theorem Bts.sub {bs : List Int} (h : Bts bs) (m : Nat) : Bts ((bs.drop 2).take m) := fun b hb => h b (List.mem_of_mem_drop (List.mem_of_mem_take hb))
theorem rdL_len {bs : List Int} (h : Shape bs (rdM bs)) : (rdL bs).size = rdM bs := by
  unfold rdL sOf
  show (List.toArray _).size = _
  simp [h.len]; have := h.len; omega
def OkAt (n : Nat) (K : Int) : Prop := 0 ≤ K ∧ K.toNat + 1 < n
/-- What is read: a record, or the code of none. -/
def readV (bs : List Int) : Value := if rdB bs = true then resV 0 (rdL bs) (rdN bs (2 + rdM bs)) (rdN bs (2 + rdM bs + 2)) (rdN bs (2 + rdM bs + 4)) else resV 5 ⟨#[]⟩ 0 0 0
theorem readV_yes {bs : List Int} (h : shapeB bs = true) (h2 : rdC bs = 0) : readV bs = resV 0 (rdL bs) (rdN bs (2 + rdM bs)) (rdN bs (2 + rdM bs + 2)) (rdN bs (2 + rdM bs + 4)) := by
  unfold readV rdB; rw [h]; simp [h2]
theorem readV_code {bs : List Int} (h2 : ¬ rdC bs = 0) : readV bs = resV 5 ⟨#[]⟩ 0 0 0 := by
  unfold readV rdB; simp [h2]
theorem readV_shape {bs : List Int} (h : shapeB bs = false) : readV bs = resV 5 ⟨#[]⟩ 0 0 0 := by
  unfold readV rdB; rw [h]; simp
end U
end Go.Proofs.Ytcdodpcdennemaa
