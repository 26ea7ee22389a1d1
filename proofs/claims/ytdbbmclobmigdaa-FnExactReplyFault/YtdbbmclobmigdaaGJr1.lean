/- The fault of an operation: what both models answer. -/
import Derived.Test.YtdbbmclobmigdaaGJrM
import Derived.Test.YtdbbmclobmigdaaGRB
import Derived.Test.YtdbbmclobmigdaaGOw1
import Derived.Handy
namespace Go.Proofs.Ytdbbmclobmigdaa
open Go.RowKit
namespace U
/-- An operation that lies in seven cells of a block. -/
structure OpAt (w : World) (g : Nat) (k : Int) (l : ByteArray) (v o p s n : Int) : Prop where
  c0 : w.cell? ⟨g, 0, none⟩ = some (.int .i64 k)
  c1 : w.cell? ⟨g, 1, none⟩ = some (.string l)
  c2 : w.cell? ⟨g, 2, none⟩ = some (.int .i64 v)
  c3 : w.cell? ⟨g, 3, none⟩ = some (.int .i64 o)
  c4 : w.cell? ⟨g, 4, none⟩ = some (.int .i64 p)
  c5 : w.cell? ⟨g, 5, none⟩ = some (.int .i64 s)
  c6 : w.cell? ⟨g, 6, none⟩ = some (.int .i64 n)
theorem OpAt.below {w w' : World} {g : Nat} {k : Int} {l : ByteArray} {v o p s n : Int} (h : OpAt w g k l v o p s n) (hb : Below w.heap.size w w') : OpAt w' g k l v o p s n :=
  ⟨After.cell h.c0 ⟨w', hb⟩, After.cell h.c1 ⟨w', hb⟩, After.cell h.c2 ⟨w', hb⟩, After.cell h.c3 ⟨w', hb⟩, After.cell h.c4 ⟨w', hb⟩, After.cell h.c5 ⟨w', hb⟩, After.cell h.c6 ⟨w', hb⟩⟩
theorem OpAt.new (w : World) (k : Int) (l : ByteArray) (v o p s n : Int) (t : TypeId) : OpAt (w.alloc (.cells #[.int .i64 k, .string l, .int .i64 v, .int .i64 o, .int .i64 p, .int .i64 s, .int .i64 n] t)) w.heap.size k l v o p s n := by
  have hh := heap_alloc_new w (.cells #[.int .i64 k, .string l, .int .i64 v, .int .i64 o, .int .i64 p, .int .i64 s, .int .i64 n] t)
  constructor <;> (unfold World.cell?; rw [hh]; rfl)
theorem OpAt.rc {w : World} {g : Nat} {k : Int} {l : ByteArray} {v o p s n : Int} (h : OpAt w g k l v o p s n) : RecS w g 1 ⟨l, v, o, p⟩ := ⟨h.c1, h.c2, h.c3, h.c4⟩
/-- A record held against nothing. -/
theorem rec_zero (l : ByteArray) (v o p : Int) (w : World) : (binOp .eql 36 (.agg #[.string l, .int .i64 v, .int .i64 o, .int .i64 p]) (.agg #[.string ⟨#[]⟩, .int .i64 0, .int .i64 0, .int .i64 0])).run Try.prog w = .ok (.bool (zB l v o p)) w := by
  have e : (⟨#[]⟩ : ByteArray).toList = [] := by unfold ByteArray.toList; unfold ByteArray.toList.loop; rfl
  unfold zB
  simp [go_sem, e]
  by_cases h : l.toList = [] <;> by_cases h1 : v = 0 <;> by_cases h2 : o = 0 <;> by_cases h3 : p = 0 <;> simp [h, h1, h2, h3]
/-- Whether the form of an operation is right. -/
def fmB (k : Int) (l : ByteArray) (v o p s n : Int) : Bool := if k = 1 then (n == 0) else (zrB l v o p s && (if k = 3 then true else inB k 2 6 && (n == 0)))
theorem fm_no {k : Int} {l : ByteArray} {v o p s n : Int} (h : fmB k l v o p s n = false) : opnC k l v o p s n = 1 := by
  unfold fmB at h
  by_cases h1 : k = 1
  · subst h1
    rw [if_pos rfl] at h
    exact opC_up1 (by simpa using h)
  · rw [if_neg h1] at h
    rcases Bool.eq_false_or_eq_true (zrB l v o p s) with hz | hz
    · rw [hz] at h
      by_cases h3 : k = 3
      · rw [if_pos h3] at h
        cases h
      · rw [if_neg h3] at h
        rcases Bool.eq_false_or_eq_true (inB k 2 6) with hi | hi
        · rw [hi] at h
          exact opC_one1 h1 h3 (by simpa using h)
        · exact opC_none (inB_f (by have := inB_nb hi; omega))
    · exact opC_full h1 hz
theorem fm_yes {k : Int} {l : ByteArray} {v o p s n : Int} (h : fmB k l v o p s n = true) : (k = 1 ∧ n = 0) ∨ (k = 3 ∧ zrB l v o p s = true) ∨ ((k = 2 ∨ k = 4 ∨ k = 5 ∨ k = 6) ∧ zrB l v o p s = true ∧ n = 0) := by
  unfold fmB at h
  by_cases h1 : k = 1
  · rw [if_pos h1] at h
    exact Or.inl ⟨h1, by simpa using h⟩
  · rw [if_neg h1, Bool.and_eq_true] at h
    by_cases h3 : k = 3
    · exact Or.inr (Or.inl ⟨h3, h.1⟩)
    · rw [if_neg h3, Bool.and_eq_true] at h
      have := inB_bd h.2.1
      exact Or.inr (Or.inr ⟨by omega, h.1, by simpa using h.2.2⟩)
end U
end Go.Proofs.Ytdbbmclobmigdaa
