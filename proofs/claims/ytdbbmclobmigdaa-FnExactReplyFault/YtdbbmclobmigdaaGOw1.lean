/- Owners: the sum of a secret, as both models tell it. -/
import Derived.Test.YtdbbmclobmigdaaGRA
namespace Go.Proofs.Ytdbbmclobmigdaa
open Go.RowKit
namespace U
/-- The owner of a secret. -/
def ownL (s : Int) : Int := sumL (tagL 6 [s])
def owC (s : Int) : Int := if inB s 0 999 = true then 0 else 3
def owV (s : Int) : Int := if inB s 0 999 = true then ownL s else 0
theorem ow_ok {s : Int} (h : inB s 0 999 = true) : owC s = 0 ∧ owV s = ownL s := by simp [owC, owV, h]
theorem ow_no {s : Int} (h : inB s 0 999 = false) : owC s = 3 ∧ owV s = 0 := by simp [owC, owV, h]
theorem one_ints_at {w : World} {g : Nat} {a : Int} {t : TypeId} (hg : g = w.heap.size) : Ints .i64 (w.alloc (.cells #[.int .i64 a] t)) (.slice (some ⟨g, 0, none⟩) 1 1) [a] := by
  subst hg
  have hh := heap_alloc_new w (.cells #[.int .i64 a] t)
  refine Or.inr ⟨w.heap.size, 0, 1, rfl, by simp, fun j hj => ?_⟩
  have hj2 : j < 1 := hj
  obtain rfl : j = 0 := by omega
  unfold World.cell?
  rw [hh]
  rfl
end U
end Go.Proofs.Ytdbbmclobmigdaa
