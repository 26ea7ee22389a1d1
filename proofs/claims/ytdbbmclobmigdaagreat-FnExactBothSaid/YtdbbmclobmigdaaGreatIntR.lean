/- Answers of a code and a list: compared, marked and looked at anew. -/
import Derived.Test.YtdbbmclobmigdaaGreatInts
namespace Go.Proofs.YtdbbmclobmigdaaGreat
open Go.RowKit
namespace U
theorem two_new {w : World} (o o' : Obj) : Below w.heap.size w ((w.alloc o).alloc o') := ((Below.refl _ _).alloc (Nat.le_refl _) _).alloc (by simp) _
theorem one_new {w : World} (o : Obj) : Below w.heap.size w (w.alloc o) := (Below.refl _ _).alloc (Nat.le_refl _) _
theorem IntsAns.use {w w' : World} {code : Int} {xs : List Int} {e : Ending} (h : IntsAns w code xs e w') : ∃ a c, e = .returned (.agg #[.int .i64 code, .slice a xs.length c]) ∧ Below w.heap.size w w' ∧ w'.ownsRow w.heap.size 2 1 (.slice a xs.length c) xs.length (xs.map (Value.int .i64)) := by
  obtain ⟨hb, v, rfl, ho⟩ := h
  obtain ⟨a, c, rfl⟩ := own_shape ho
  exact ⟨a, c, rfl, hb, ho⟩
theorem rP_len (s : ByteArray) : (rP s).2.length ≤ 200 := by
  by_cases h : 200 < s.size
  · rw [rP_big h]; simp
  · rcases hr : runes s with _ | xs
    · rw [rP_none h hr]; simp
    · rw [rP_some h hr]
      have := runes_length hr
      simp; omega
end U
end Go.Proofs.YtdbbmclobmigdaaGreat
