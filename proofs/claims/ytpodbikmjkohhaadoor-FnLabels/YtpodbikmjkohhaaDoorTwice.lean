/- A label that is folded is a label, and folded once is folded for good. -/
import Derived.Test.YtpodbikmjkohhaaDoorTrip
import Derived.Test.YtpodbikmjkohhaaDoorFoldI
namespace Go.Proofs.YtpodbikmjkohhaaDoor
open Go.RowKit
namespace U
theorem foldI_twice (b : Int) : foldI (foldI b) = foldI b := by
  by_cases h : 65 ≤ b ∧ b ≤ 90
  · rw [foldI_yes h.1 h.2]; exact foldI_no (by omega)
  · rw [foldI_no (b := b) (by omega)]; exact foldI_no (by omega)
theorem fold_byte (b : UInt8) : (UInt8.ofNat (foldI b.toNat).toNat).toNat = (foldI b.toNat).toNat := by
  have h := foldI_bd (b := (b.toNat : Int)) (by omega) (by have := b.toNat_lt; omega)
  rw [UInt8.toNat_ofNat']
  omega
theorem foldS_twice (s : ByteArray) : foldS (foldS s) = foldS s := by
  unfold foldS
  congr 1
  rw [Array.map_map]
  congr 1
  funext b
  simp only [Function.comp]
  have h := foldI_bd (b := (b.toNat : Int)) (by omega) (by have := b.toNat_lt; omega)
  rw [fold_byte]
  have e : (((foldI b.toNat).toNat : Nat) : Int) = foldI b.toNat := by omega
  rw [e, foldI_twice]
theorem foldS_strOf {l : List Int} (h : ∀ b ∈ l, 0 ≤ b ∧ b ≤ 255) : foldS (strOf l) = strOf (l.map foldI) := by
  unfold foldS strOf
  congr 1
  simp only [List.map_toArray, List.map_map]
  congr 1
  apply List.map_congr_left
  intro b hb
  have := h b hb
  simp only [Function.comp]
  rw [UInt8.toNat_ofNat']
  congr 2
  congr 1
  omega
theorem enc_fold {x : Int} (h : runeB x = true) : (encB x).map foldI = encB (foldI x) := by
  have hr := (runeB_iff x).1 h
  rcases enc_cases x with ⟨h1, e, _⟩ | ⟨h1, h2, e, _⟩ | ⟨h1, h2, e, _⟩ | ⟨h1, e, _⟩
  · have hb := foldI_bd (b := x) (by omega) (by omega)
    have h3 : foldI x < 128 := by unfold foldI; split <;> omega
    rw [e, show encB (foldI x) = [foldI x] by unfold encB; rw [if_pos h3]]
    rfl
  all_goals
    rw [foldI_no (b := x) (by omega), e]
    simp only [List.map_cons, List.map_nil]
    simp only [List.cons.injEq, and_true]
    refine ⟨?_, ?_⟩ <;> first | exact foldI_no (by omega) | (refine ⟨?_, ?_⟩ <;> first | exact foldI_no (by omega) | (refine ⟨?_, ?_⟩ <;> exact foldI_no (by omega)))
theorem flat_fold {xs : List Int} (h : xs.all runeB = true) : (xs.flatMap encB).map foldI = (xs.map foldI).flatMap encB := by
  induction xs with
  | nil => rfl
  | cons x xs ih =>
    simp only [List.all_cons, Bool.and_eq_true] at h
    simp only [List.flatMap_cons, List.map_append, List.map_cons]
    rw [enc_fold h.1, ih h.2]
theorem rune_fold {x : Int} (h : runeB x = true) : runeB (foldI x) = true := by
  have := (runeB_iff x).1 h
  rw [runeB_iff]
  unfold foldI
  split <;> omega
theorem bad_fold {x : Int} (h : badR x = false) : badR (foldI x) = false := by
  by_cases hx : 65 ≤ x ∧ x ≤ 90
  · rw [foldI_yes hx.1 hx.2]
    exact badR_no (by omega) (inB_f (by omega))
  · rw [foldI_no (by omega)]; exact h
theorem labelP_inv {s : ByteArray} (h : labelP s = 0) : ∃ xs, ¬ s.size = 0 ∧ ¬ 12 < s.size ∧ runes s = some xs ∧ xs.any badR = false := by
  unfold labelP at h
  split at h
  · omega
  · rename_i h0
    split at h
    · omega
    · rename_i h1
      split at h
      · omega
      · rename_i xs hr
        split at h
        · omega
        · rename_i hb
          exact ⟨xs, h0, h1, hr, by simpa using hb⟩
theorem label_fold {s : ByteArray} (h : labelP s = 0) : labelP (foldS s) = 0 := by
  obtain ⟨xs, h0, h1, hr, hb⟩ := labelP_inv h
  obtain ⟨hs, hall⟩ := runes_back hr
  have e : foldS s = strOf ((xs.map foldI).flatMap encB) := by
    rw [← hs, foldS_strOf (flat_bd hall), flat_fold hall]
  have hall2 : (xs.map foldI).all runeB = true := by
    rw [List.all_eq_true] at hall ⊢
    intro y hy
    rw [List.mem_map] at hy
    obtain ⟨x, hx, rfl⟩ := hy
    exact rune_fold (hall x hx)
  refine labelP_ok (xs := xs.map foldI) (by rw [foldS_size]; exact h0) (by rw [foldS_size]; exact h1) (by rw [e]; exact runes_fwd hall2) ?_
  rw [List.any_eq_false] at hb ⊢
  intro y hy
  rw [List.mem_map] at hy
  obtain ⟨x, hx, rfl⟩ := hy
  have := hb x hx
  rw [bad_fold (by simpa using this)]
  simp
end U
end Go.Proofs.YtpodbikmjkohhaaDoor
