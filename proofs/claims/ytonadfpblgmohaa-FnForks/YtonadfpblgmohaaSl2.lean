/- The sums of what is empty, by the program and by the model. -/
import Derived.Test.YtonadfpblgmohaaSl1
import Derived.Test.YtonadfpblgmohaaQuiet
import Derived.Deep.RegionHeld3
namespace Go.Proofs.Ytonadfpblgmohaa
open Go.RowKit
namespace U
theorem pair_tag {tag a b : Int} (ht : 1 ≤ tag ∧ tag ≤ 9) (ha : 0 ≤ a ∧ a ≤ 65520) (hb : 0 ≤ b ∧ b ≤ 65520) : tgC tag [a, b] = 0 ∧ tsV tag [a, b] = sumL (tagL tag [a, b]) := by
  have h1 : inB tag 1 9 = true := inB_t ht.1 ht.2
  have h3 : [a, b].all sumB = true := by simp [sumB_iff, ha, hb]
  have h2 : ¬ 20 < [a, b].length := by simp
  have := tg_ok h1 h2 h3
  exact ⟨this.1, by rw [ts_ok this.1, this.2]⟩
theorem two_ints (w : World) (a b : Int) (t : TypeId) : Ints .i64 (w.alloc (.cells #[.int .i64 a, .int .i64 b] t)) (.slice (some ⟨w.heap.size, 0, none⟩) 2 2) [a, b] := by
  refine Or.inr ⟨w.heap.size, 0, 2, rfl, by simp, fun j hj => ?_⟩
  have hh := heap_alloc_new w (.cells #[.int .i64 a, .int .i64 b] t)
  have hj2 : j < 2 := hj
  rcases (by omega : j = 0 ∨ j = 1) with rfl | rfl <;> (unfold World.cell?; rw [hh]; rfl)
theorem two_ints_at {w : World} {g : Nat} {a b : Int} {t : TypeId} (hg : g = w.heap.size) : Ints .i64 (w.alloc (.cells #[.int .i64 a, .int .i64 b] t)) (.slice (some ⟨g, 0, none⟩) 2 2) [a, b] := by subst hg; exact two_ints w a b t
theorem field_IR1 (x y : Int) (w : World) : (Instr.field 27 (.agg #[.int .i64 x, .int .i64 y]) 1).run Try.prog w = .ok (.int .i64 y) w := by kernel_rfl
/-- The code and the value of the sum of what is empty. -/
def eC (n : Int) : Int := if inB n 0 8 = true then 0 else 3
def eV (n : Int) : Int := if inB n 0 8 = true then emp n.toNat else 0
end U
end Go.Proofs.Ytonadfpblgmohaa
