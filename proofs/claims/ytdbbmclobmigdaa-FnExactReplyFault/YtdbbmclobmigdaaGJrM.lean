/- Operations: what both models answer, as mathematics. -/
import Derived.Test.YtdbbmclobmigdaaGRB
namespace Go.Proofs.Ytdbbmclobmigdaa
open Go.RowKit
namespace U
/-- An operation as the model holds it. -/
def opV (k : Int) (l : ByteArray) (v o p s n : Int) : Value := .agg #[.int .i64 k, .string l, .int .i64 v, .int .i64 o, .int .i64 p, .int .i64 s, .int .i64 n]
/-- A record of nothing. -/
def zB (l : ByteArray) (v o p : Int) : Bool := (l.toList == []) && ((v == 0) && ((o == 0) && (p == 0)))
/-- Nothing in a record and in a secret. -/
def zrB (l : ByteArray) (v o p s : Int) : Bool := zB l v o p && (s == 0)
/-- The fault of an operation. -/
def opnC (k : Int) (l : ByteArray) (v o p s n : Int) : Int :=
  if k = 1 then (if n = 0 then (if inB s 0 999 = true then recC l v o p else 3) else 1)
  else if zrB l v o p s = true then (if k = 3 then (if inB n 1 256 = true then 0 else 3) else if inB k 2 6 = true then (if n = 0 then 0 else 1) else 1)
  else 1
theorem opC_up {l : ByteArray} {v o p s n : Int} : opnC 1 l v o p s n = if n = 0 then (if inB s 0 999 = true then recC l v o p else 3) else 1 := by unfold opnC; rw [if_pos rfl]
theorem opC_up0 {l : ByteArray} {v o p s n : Int} (h : n = 0) (h1 : inB s 0 999 = true) : opnC 1 l v o p s n = recC l v o p := by rw [opC_up, if_pos h, if_pos h1]
theorem opC_up3 {l : ByteArray} {v o p s n : Int} (h : n = 0) (h1 : inB s 0 999 = false) : opnC 1 l v o p s n = 3 := by rw [opC_up, if_pos h, h1]; rfl
theorem opC_up1 {l : ByteArray} {v o p s n : Int} (h : ¬ n = 0) : opnC 1 l v o p s n = 1 := by rw [opC_up, if_neg h]
theorem opC_full {k : Int} {l : ByteArray} {v o p s n : Int} (hk : ¬ k = 1) (h : zrB l v o p s = false) : opnC k l v o p s n = 1 := by unfold opnC; rw [if_neg hk, h]; rfl
theorem opC_cp0 {l : ByteArray} {v o p s n : Int} (h : zrB l v o p s = true) (h1 : inB n 1 256 = true) : opnC 3 l v o p s n = 0 := by unfold opnC; rw [if_neg (by decide), if_pos h, if_pos rfl, if_pos h1]
theorem opC_cp3 {l : ByteArray} {v o p s n : Int} (h : zrB l v o p s = true) (h1 : inB n 1 256 = false) : opnC 3 l v o p s n = 3 := by unfold opnC; rw [if_neg (by decide), if_pos h, if_pos rfl, h1]; rfl
theorem opC_one0 {k : Int} {l : ByteArray} {v o p s n : Int} (hk : ¬ k = 1) (h3 : ¬ k = 3) (hi : inB k 2 6 = true) (h : zrB l v o p s = true) (h1 : n = 0) : opnC k l v o p s n = 0 := by unfold opnC; rw [if_neg hk, if_pos h, if_neg h3, if_pos hi, if_pos h1]
theorem opC_one1 {k : Int} {l : ByteArray} {v o p s n : Int} (hk : ¬ k = 1) (h3 : ¬ k = 3) (h1 : ¬ n = 0) : opnC k l v o p s n = 1 := by
  unfold opnC
  rw [if_neg hk, if_neg h3, if_neg h1]
  split
  · split <;> rfl
  · rfl
theorem opC_none {k : Int} {l : ByteArray} {v o p s n : Int} (hi : inB k 1 6 = false) : opnC k l v o p s n = 1 := by
  have h := inB_nb hi
  unfold opnC
  rw [if_neg (by omega), if_neg (show ¬ k = 3 by omega), inB_f (by omega : k < 2 ∨ 6 < k)]
  split <;> rfl
theorem zrB_iff {l : ByteArray} {v o p s : Int} (h : zrB l v o p s = true) : l.toList = [] ∧ v = 0 ∧ o = 0 ∧ p = 0 ∧ s = 0 := by
  unfold zrB zB at h
  simpa [and_assoc] using h
/-- The bytes of an operation. -/
def opnL (k : Int) (l : ByteArray) (v o p s n : Int) : List Int := if k = 1 then 1 :: s / 256 :: s % 256 :: packL l v o p else if k = 3 then [3, n / 256, n % 256] else [k]
def opP (k : Int) (l : ByteArray) (v o p s n : Int) : List Int := if opnC k l v o p s n = 0 then opnL k l v o p s n else []
theorem opP_ok {k : Int} {l : ByteArray} {v o p s n : Int} (h : opnC k l v o p s n = 0) : opP k l v o p s n = opnL k l v o p s n := if_pos h
theorem opP_no {k : Int} {l : ByteArray} {v o p s n : Int} (h : ¬ opnC k l v o p s n = 0) : opP k l v o p s n = [] := if_neg h
/-- What an operation without fault is. -/
theorem opOk {k : Int} {l : ByteArray} {v o p s n : Int} (h : opnC k l v o p s n = 0) : (k = 1 ∧ n = 0 ∧ (0 ≤ s ∧ s ≤ 999) ∧ recC l v o p = 0) ∨ (k = 3 ∧ zrB l v o p s = true ∧ 1 ≤ n ∧ n ≤ 256) ∨ ((k = 2 ∨ k = 4 ∨ k = 5 ∨ k = 6) ∧ zrB l v o p s = true ∧ n = 0) := by
  unfold opnC at h
  split at h
  · rename_i hk
    split at h
    · rename_i hn
      split at h
      · rename_i hs
        exact Or.inl ⟨hk, hn, inB_bd hs, h⟩
      · omega
    · omega
  · rename_i hk
    split at h
    · rename_i hz
      split at h
      · rename_i h3
        split at h
        · rename_i hi
          exact Or.inr (Or.inl ⟨h3, hz, (inB_bd hi).1, (inB_bd hi).2⟩)
        · omega
      · rename_i h3
        split at h
        · rename_i hi
          have := inB_bd hi
          split at h
          · rename_i hn
            exact Or.inr (Or.inr ⟨by omega, hz, hn⟩)
          · omega
        · omega
    · omega
theorem opnL_len {k : Int} {l : ByteArray} {v o p s n : Int} (h : opnC k l v o p s n = 0) : 1 ≤ (opnL k l v o p s n).length ∧ (opnL k l v o p s n).length ≤ 23 := by
  unfold opnL
  rcases opOk h with ⟨hk, -, -, hr⟩ | ⟨hk, -⟩ | ⟨hk, -⟩
  · rw [if_pos hk]
    have := (recOk hr).small
    simp only [List.length_cons, packL_len]
    omega
  · rw [if_neg (by omega), if_pos hk]
    simp
  · rw [if_neg (by omega), if_neg (by omega)]
    simp
theorem opnL_bts {k : Int} {l : ByteArray} {v o p s n : Int} (h : opnC k l v o p s n = 0) : Bts (opnL k l v o p s n) := by
  intro b hb
  unfold opnL at hb
  rcases opOk h with ⟨hk, -, hs, hr⟩ | ⟨hk, -, h1, h2⟩ | ⟨hk, -⟩
  · rw [if_pos hk] at hb
    simp only [List.mem_cons] at hb
    rcases hb with rfl | rfl | rfl | hb
    · omega
    · omega
    · omega
    · exact packL_bts (recOk hr) b hb
  · rw [if_neg (by omega), if_pos hk] at hb
    simp only [List.mem_cons, List.not_mem_nil, or_false] at hb
    rcases hb with rfl | rfl | rfl <;> omega
  · rw [if_neg (by omega), if_neg (by omega)] at hb
    simp only [List.mem_cons, List.not_mem_nil, or_false] at hb
    omega
theorem opP_len (k : Int) (l : ByteArray) (v o p s n : Int) : (opP k l v o p s n).length ≤ 23 := by
  by_cases h : opnC k l v o p s n = 0
  · rw [opP_ok h]; exact (opnL_len h).2
  · rw [opP_no h]; simp
theorem opP_bts (k : Int) (l : ByteArray) (v o p s n : Int) : Bts (opP k l v o p s n) := by
  by_cases h : opnC k l v o p s n = 0
  · rw [opP_ok h]; exact opnL_bts h
  · rw [opP_no h]; intro b hb; cases hb
end U
end Go.Proofs.Ytdbbmclobmigdaa
