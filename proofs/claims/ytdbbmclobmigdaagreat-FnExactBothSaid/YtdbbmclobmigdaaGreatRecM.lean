/- Records: what both models answer, as mathematics. -/
import Derived.Test.YtdbbmclobmigdaaGreatStr
import Derived.Test.YtdbbmclobmigdaaGreatTag
import Derived.Test.YtdbbmclobmigdaaGreatFoldI
namespace Go.Proofs.YtdbbmclobmigdaaGreat
open Go.RowKit
namespace U
def foldsB (l : ByteArray) : Bool := (foldS l).toList == l.toList
theorem foldsB_iff (l : ByteArray) : foldsB l = true ↔ foldS l = l := by unfold foldsB; rw [beq_iff_eq]; exact toList_iff _ _
def fitB (v o p : Int) : Bool := inB v 1 999 && (sumB o && sumB p)
/-- The fault of a record. -/
def recC (l : ByteArray) (v o p : Int) : Int := if labelP l = 0 then (if foldsB l = true then (if fitB v o p = true then 0 else 3) else 1) else labelP l
theorem recC_label {l : ByteArray} {v o p : Int} (h : ¬ labelP l = 0) : recC l v o p = labelP l := by unfold recC; rw [if_neg h]
theorem recC_form {l : ByteArray} {v o p : Int} (h : labelP l = 0) (h1 : foldsB l = false) : recC l v o p = 1 := by unfold recC; rw [if_pos h, h1]; rfl
theorem recC_range {l : ByteArray} {v o p : Int} (h : labelP l = 0) (h1 : foldsB l = true) (h2 : fitB v o p = false) : recC l v o p = 3 := by unfold recC; rw [if_pos h, h1, h2]; rfl
theorem recC_ok {l : ByteArray} {v o p : Int} (h : labelP l = 0) (h1 : foldsB l = true) (h2 : fitB v o p = true) : recC l v o p = 0 := by unfold recC; rw [if_pos h, h1, h2]; rfl
theorem recC_codes (l : ByteArray) (v o p : Int) : recC l v o p = 0 ∨ recC l v o p = 1 ∨ recC l v o p = 2 ∨ recC l v o p = 3 ∨ recC l v o p = 5 := by
  have hl : labelP l = 0 ∨ labelP l = 1 ∨ labelP l = 2 ∨ labelP l = 5 := by
    unfold labelP
    split
    · simp
    · split
      · simp
      · split
        · simp
        · split <;> simp
  unfold recC
  split
  · split
    · split <;> simp
    · simp
  · omega
/-- What a record without fault is. -/
structure RecOk (l : ByteArray) (v o p : Int) : Prop where
  lab : labelP l = 0
  fld : foldS l = l
  small : l.size ≤ 12
  v0 : 1 ≤ v
  v1 : v ≤ 999
  o0 : 0 ≤ o
  o1 : o ≤ 65520
  p0 : 0 ≤ p
  p1 : p ≤ 65520
theorem recOk {l : ByteArray} {v o p : Int} (h : recC l v o p = 0) : RecOk l v o p := by
  unfold recC at h
  by_cases h1 : labelP l = 0
  · rw [if_pos h1] at h
    by_cases h2 : foldsB l = true
    · rw [if_pos h2] at h
      by_cases h3 : fitB v o p = true
      · unfold fitB at h3
        rw [Bool.and_eq_true, Bool.and_eq_true] at h3
        obtain ⟨a, b, c⟩ := h3
        have a := inB_bd a
        have b := (sumB_iff o).1 b
        have c := (sumB_iff p).1 c
        exact ⟨h1, (foldsB_iff l).1 h2, labelP_small h1, a.1, a.2, b.1, b.2, c.1, c.2⟩
      · rw [if_neg h3] at h; omega
    · rw [if_neg h2] at h; omega
  · rw [if_neg h1] at h; omega
theorem RecOk.sums {l : ByteArray} {v o p : Int} (h : RecOk l v o p) : [v, o, p].all sumB = true := by
  have h0 : sumB v = true := (sumB_iff v).2 ⟨by have := h.v0; omega, by have := h.v1; omega⟩
  have h1 : sumB o = true := (sumB_iff o).2 ⟨h.o0, h.o1⟩
  have h2 : sumB p = true := (sumB_iff p).2 ⟨h.p0, h.p1⟩
  simp [h0, h1, h2]
theorem RecOk.pos {l : ByteArray} {v o p : Int} (h : RecOk l v o p) : 0 < l.size := by
  have := h.lab
  unfold labelP at this
  by_cases h0 : l.size = 0
  · rw [if_pos h0] at this; omega
  · omega
/-- Bytes with numbers behind them. -/
def numsAt (zs xs : List Int) (k : Nat) : List Int := zs ++ (xs.take k).flatMap numB
def numsL (zs xs : List Int) : List Int := zs ++ xs.flatMap numB
theorem numsAt_zero (zs xs : List Int) : numsAt zs xs 0 = zs := by simp [numsAt]
theorem numsAt_all (zs xs : List Int) : numsAt zs xs xs.length = numsL zs xs := by unfold numsAt numsL; rw [List.take_length]
theorem numsAt_succ (zs : List Int) {xs : List Int} {k : Nat} (h : k < xs.length) : numsAt zs xs (k + 1) = numsAt zs xs k ++ [xs.getD k 0 / 256, xs.getD k 0 % 256] := by
  unfold numsAt
  rw [take_snoc2 h, List.flatMap_append]
  simp [numB]
theorem numsAt_len (zs : List Int) {xs : List Int} {k : Nat} (h : k ≤ xs.length) : (numsAt zs xs k).length = zs.length + 2 * k := by
  unfold numsAt
  rw [List.length_append, flat_len, List.length_take]
  omega
/-- The bytes of a record. -/
def headL (l : ByteArray) : List Int := 1 :: (l.size : Int) :: bl l
def packL (l : ByteArray) (v o p : Int) : List Int := headL l ++ [v / 256, v % 256, o / 256, o % 256, p / 256, p % 256]
theorem packL_nums (l : ByteArray) (v o p : Int) : numsL (headL l) [v, o, p] = packL l v o p := by simp [numsL, packL, numB]
theorem headL_len (l : ByteArray) : (headL l).length = 2 + l.size := by simp [headL, bl_len]; omega
theorem packL_len (l : ByteArray) (v o p : Int) : (packL l v o p).length = 8 + l.size := by unfold packL; rw [List.length_append, headL_len]; simp; omega
theorem packL_bts {l : ByteArray} {v o p : Int} (h : RecOk l v o p) : Bts (packL l v o p) := by
  intro b hb
  obtain ⟨-, -, hs, h1, h2, h3, h4, h5, h6⟩ := h
  unfold packL headL at hb
  simp only [List.mem_append, List.mem_cons, List.not_mem_nil, or_false] at hb
  rcases hb with (rfl | rfl | hb) | hb
  · omega
  · omega
  · exact bl_bts l b hb
  · omega
def pkL (l : ByteArray) (v o p : Int) : List Int := if recC l v o p = 0 then packL l v o p else []
theorem pk_ok {l : ByteArray} {v o p : Int} (h : recC l v o p = 0) : pkL l v o p = packL l v o p := by unfold pkL; rw [if_pos h]
theorem pk_no {l : ByteArray} {v o p : Int} (h : ¬ recC l v o p = 0) : pkL l v o p = [] := by unfold pkL; rw [if_neg h]
theorem pkL_len (l : ByteArray) (v o p : Int) : (pkL l v o p).length ≤ 20 := by
  by_cases h : recC l v o p = 0
  · rw [pk_ok h, packL_len]; have := (recOk h).small; omega
  · rw [pk_no h]; simp
theorem pkL_bts (l : ByteArray) (v o p : Int) : Bts (pkL l v o p) := by
  by_cases h : recC l v o p = 0
  · rw [pk_ok h]; exact packL_bts (recOk h)
  · rw [pk_no h]; intro b hb; cases hb
/-- A record as the model holds it. -/
def recV (l : ByteArray) (v o p : Int) : Value := .agg #[.string l, .int .i64 v, .int .i64 o, .int .i64 p]
end U
end Go.Proofs.YtdbbmclobmigdaaGreat
