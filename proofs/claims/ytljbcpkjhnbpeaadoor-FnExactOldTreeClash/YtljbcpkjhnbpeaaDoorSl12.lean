/- The path of a key, by the model. -/
import Derived.Test.YtljbcpkjhnbpeaaDoorSl8
import Derived.Test.YtljbcpkjhnbpeaaDoorSl11
namespace Go.Proofs.YtljbcpkjhnbpeaaDoor
open Go.RowKit
namespace U
/-- The other side of a key at a level. -/
def sib (x : Int) (n : Nat) : Int := if x / (2 ^ n : Nat) % 2 = 0 then x / (2 ^ n : Nat) + 1 else x / (2 ^ n : Nat) - 1
/-- The first sums of a path. -/
def pth (l : Prl) (x : Int) : Nat → List Int
  | 0 => []
  | n + 1 => pth l x n ++ [nd l n (sib x n)]
theorem pth_len (l : Prl) (x : Int) (n : Nat) : (pth l x n).length = n := by
  induction n with
  | zero => rfl
  | succ n ih => unfold pth; simp [ih]
def opC (l : Prl) (x : Int) : Int := if slF l = 0 then (if inB x 0 255 = true then 0 else 3) else slF l
def opL (l : Prl) (x : Int) : List Int := if slF l = 0 ∧ inB x 0 255 = true then pth l x 8 else []
theorem opL_len (l : Prl) (x : Int) : (opL l x).length ≤ 8 := by
  unfold opL
  split
  · rw [pth_len]; omega
  · simp
theorem sib_even {x q : Int} {n : Nat} {S : Int} (hS : ((2 ^ n : Nat) : Int) = S) (hq : q = x / S) (h : q % 2 = 0) : sib x n = q + 1 := by
  unfold sib
  rw [hS, ← hq, if_pos h]
theorem sib_odd {x q : Int} {n : Nat} {S : Int} (hS : ((2 ^ n : Nat) : Int) = S) (hq : q = x / S) (h : ¬ q % 2 = 0) : sib x n = q - 1 := by
  unfold sib
  rw [hS, ← hq, if_neg h]
theorem own_one {w : World} {B : Nat} {e : TypeId} {v : Value} {zs : List Int} {b : Int} (h : w.ownsRow B e 1 v (zs.length + 1) (zs.map (Value.int .i64) ++ [.int .i64 b])) : w.ownsRow B e 1 v (zs ++ [b]).length ((zs ++ [b]).map (Value.int .i64)) := by
  rw [List.map_append, List.length_append]; exact h
theorem none_own1 (w : World) (e : TypeId) (B : Nat) (hB : B ≤ w.heap.size) : (w.alloc (.cells #[] e)).ownsRow B e 1 (.slice (some ⟨w.heap.size, 0, none⟩) 0 0) 0 [] :=
  World.ownsRow_made w #[] 0 hB (by decide) rfl
end U
end Go.Proofs.YtljbcpkjhnbpeaaDoor
