/- Tagged pieces and their sums: what the models answer. -/
import Derived.Test.YtmjbmlojcieciaaDoorTag
namespace Go.Proofs.YtmjbmlojcieciaaDoor
open Go.RowKit
namespace U
/-- The sum's value beside the code of the piece. -/
def tsV (tag : Int) (xs : List Int) : Int := if tgC tag xs = 0 then sumL (tgL tag xs) else 0
theorem ts_ok {tag : Int} {xs : List Int} (h : tgC tag xs = 0) : tsV tag xs = sumL (tgL tag xs) := by simp [tsV, h]
theorem ts_no {tag : Int} {xs : List Int} (h : ¬ tgC tag xs = 0) : tsV tag xs = 0 := by simp [tsV, h]
theorem tgC_codes (tag : Int) (xs : List Int) : tgC tag xs = 0 ∨ tgC tag xs = 2 ∨ tgC tag xs = 3 := by
  unfold tgC
  split
  · simp
  · split
    · simp
    · split <;> simp
end U
end Go.Proofs.YtmjbmlojcieciaaDoor
