/- Climbing, by the model; ClimbOld and AcceptOld of both. -/
import Derived.Test.YtljbcpkjhnbpeaaDoorOp4
namespace Go.Proofs.YtljbcpkjhnbpeaaDoor
open Go.RowKit
namespace U
theorem co_no {x v : Int} {b : Bool} {p : List Int} (h : askd x b v = false) : coC x b v p = 3 ∧ coV x b v p = 0 := by simp [coC, coV, h]
theorem co_len {x v : Int} {b : Bool} {p : List Int} (h : askd x b v = true) (hp : ¬ p.length = 8) : coC x b v p = 9 ∧ coV x b v p = 0 := by simp [coC, coV, h, hp]
theorem co_sum {x v : Int} {b : Bool} {p : List Int} (h : askd x b v = true) (hp : p.length = 8) (hs : p.all sumB = false) : coC x b v p = 3 ∧ coV x b v p = 0 := by
  unfold coC coV
  rw [if_pos h, if_pos hp, hs, if_neg (by simp), if_neg (by simp)]
  exact ⟨rfl, rfl⟩
theorem co_ok {x v : Int} {b : Bool} {p : List Int} (h : askd x b v = true) (hp : p.length = 8) (hs : p.all sumB = true) : coC x b v p = 0 ∧ coV x b v p = clm x (sumL (leafL x b v)) p 8 := by
  unfold coC coV
  rw [if_pos h, if_pos hp, if_pos hs, if_pos ⟨h, hp, hs⟩]
  exact ⟨rfl, rfl⟩
end U
end Go.Proofs.YtljbcpkjhnbpeaaDoor
