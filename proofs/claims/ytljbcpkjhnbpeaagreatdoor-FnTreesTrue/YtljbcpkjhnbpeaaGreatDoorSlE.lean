/- Slots, a slot and bounds that are drawn. -/
import Derived.Test.YtljbcpkjhnbpeaaGreatDoorSlD
namespace Go.Proofs.YtljbcpkjhnbpeaaGreatDoor
open Go.RowKit
namespace U
def pickC : List Int := [0, 1, 128, 257, -1]
def pickD : List Int := [128, 256, 257, 0]
def pickE : List Int := [7, 65520, 65521]
/-- The list that is full. -/
def fullL (k : Nat) : Prl := (List.range k).map fun (j : Nat) => (20 * (j : Int), 0)
theorem fullL_succ (k : Nat) : fullL (k + 1) = fullL k ++ [(20 * (k : Int), 0)] := by unfold fullL; rw [List.range_succ, List.map_append]; rfl
theorem fullL_len (k : Nat) : (fullL k).length = k := by simp [fullL]
end U
end Go.Proofs.YtljbcpkjhnbpeaaGreatDoor
