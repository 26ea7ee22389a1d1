/- A record is read back from its bytes: by mathematics. -/
import Derived.Test.YtcdodpcdennemaaRead2a
namespace Go.Proofs.Ytcdodpcdennemaa
open Go.RowKit
namespace U
theorem sOf_bl (l : ByteArray) : sOf (bl l) = l := by
  unfold sOf bl
  rw [List.map_map]
  have : (fun b : Int => UInt8.ofNat b.toNat) ∘ (fun b : UInt8 => (b.toNat : Int)) = id := by
    funext b
    simp
  rw [this, List.map_id, Array.toArray_toList]
theorem getD_app {a b : List Int} {k : Nat} (h : a.length ≤ k) : (a ++ b).getD k 0 = b.getD (k - a.length) 0 := by
  rw [List.getD_eq_getElem?_getD, List.getD_eq_getElem?_getD, List.getElem?_append_right h]
theorem pack_m (l : ByteArray) (v o p : Int) : rdM (packL l v o p) = l.size := by
  unfold rdM packL headL
  simp
theorem pack_l (l : ByteArray) (v o p : Int) : rdL (packL l v o p) = l := by
  unfold rdL
  rw [pack_m]
  have e : ((packL l v o p).drop 2).take l.size = bl l := by
    unfold packL headL
    simp only [List.cons_append, List.drop_succ_cons, List.drop_zero]
    rw [← bl_len l, List.take_left']
    rfl
  rw [e, sOf_bl]
theorem pack_n (l : ByteArray) (v o p : Int) : rdN (packL l v o p) (2 + l.size) = v ∧ rdN (packL l v o p) (2 + l.size + 2) = o ∧ rdN (packL l v o p) (2 + l.size + 4) = p := by
  have hl := headL_len l
  unfold rdN packL
  rw [getD_app (by omega), getD_app (by omega), getD_app (by omega), getD_app (by omega), getD_app (by omega), getD_app (by omega), hl]
  rw [show 2 + l.size - (2 + l.size) = 0 by omega, show 2 + l.size + 1 - (2 + l.size) = 1 by omega, show 2 + l.size + 2 - (2 + l.size) = 2 by omega, show 2 + l.size + 2 + 1 - (2 + l.size) = 3 by omega, show 2 + l.size + 4 - (2 + l.size) = 4 by omega, show 2 + l.size + 4 + 1 - (2 + l.size) = 5 by omega]
  simp
  omega
/-- What was packed is read back. -/
theorem read_pack {l : ByteArray} {v o p : Int} (h : recC l v o p = 0) : readV (packL l v o p) = resV 0 l v o p := by
  have hs : shapeB (packL l v o p) = true := by
    unfold shapeB
    rw [decide_eq_true_iff, packL_len]
    refine ⟨by omega, by simp [packL, headL], ?_⟩
    simp [packL, headL]
  have hn := pack_n l v o p
  have hc : rdC (packL l v o p) = 0 := by
    unfold rdC
    rw [pack_m, pack_l, hn.1, hn.2.1, hn.2.2]
    exact h
  rw [readV_yes hs hc, pack_m, pack_l, hn.1, hn.2.1, hn.2.2]
/-- What is read is what was packed. -/
theorem pack_read {bs : List Int} (hB : Bts bs) (h : rdB bs = true) : packL (rdL bs) (rdN bs (2 + rdM bs)) (rdN bs (2 + rdM bs + 2)) (rdN bs (2 + rdM bs + 4)) = bs := by
  unfold rdB at h
  rw [Bool.and_eq_true] at h
  have hsh := shape_of hB h.1
  have hlen := hsh.len
  have hsz := rdL_len hsh
  obtain ⟨m, hm⟩ : ∃ m, m = rdM bs := ⟨_, rfl⟩
  rw [← hm] at hlen hsz ⊢
  have hb : ∀ k, k < bs.length → 0 ≤ bs.getD k 0 ∧ bs.getD k 0 ≤ 255 := fun k hk => hB.at hk
  have d : ∀ k, k + 1 < bs.length → rdN bs k / 256 = bs.getD k 0 ∧ rdN bs k % 256 = bs.getD (k + 1) 0 := fun k hk => by
    have h1 := hb k (by omega)
    have h2 := hb (k + 1) hk
    unfold rdN
    omega
  have h0 : bs.getD 0 0 = 1 ∧ bs.getD 1 0 = (m : Int) := by
    unfold shapeB at h
    have hh := of_decide_eq_true h.1
    exact ⟨hh.2.1, by have := hh.2.2; omega⟩
  have ebl : bl (rdL bs) = (bs.drop 2).take m := by
    unfold rdL
    rw [← hm]
    exact bl_sOf (hB.sub m)
  unfold packL headL
  rw [ebl, hsz, (d _ (by omega)).1, (d _ (by omega)).2, (d _ (by omega)).1, (d _ (by omega)).2, (d _ (by omega)).1, (d _ (by omega)).2]
  apply List.ext_getElem?
  intro k
  have hg : ∀ j, j < bs.length → bs[j]? = some (bs.getD j 0) := fun j hj => by rw [List.getElem?_eq_getElem hj, getD_eq hj]
  have htl : ((bs.drop 2).take m).length = m := by rw [List.length_take, List.length_drop]; omega
  by_cases hk0 : k = 0
  · subst hk0; rw [hg 0 (by omega), h0.1]; rfl
  by_cases hk1 : k = 1
  · subst hk1; rw [hg 1 (by omega), h0.2]; rfl
  obtain ⟨j, rfl⟩ : ∃ j, k = j + 2 := ⟨k - 2, by omega⟩
  rw [List.cons_append, List.cons_append, List.getElem?_cons_succ, List.getElem?_cons_succ]
  by_cases hj : j < m
  · rw [List.getElem?_append_left (by omega), List.getElem?_take, if_pos hj, List.getElem?_drop, Nat.add_comm 2 j]
  · rw [List.getElem?_append_right (by omega), htl]
    by_cases h6 : j - m < 6
    · rw [hg (j + 2) (by omega)]
      rcases (by omega : j = m ∨ j = m + 1 ∨ j = m + 2 ∨ j = m + 3 ∨ j = m + 4 ∨ j = m + 5) with rfl | rfl | rfl | rfl | rfl | rfl <;> simp [Nat.add_assoc, Nat.add_comm, Nat.add_left_comm]
    · rw [List.getElem?_eq_none (by simp; omega), List.getElem?_eq_none (by omega)]
end U
end Go.Proofs.Ytcdodpcdennemaa
