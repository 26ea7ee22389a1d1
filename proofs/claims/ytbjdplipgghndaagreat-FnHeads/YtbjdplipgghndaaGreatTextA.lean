/- The bytes of a code point, laid behind others. -/
import Derived.Test.YtbjdplipgghndaaGreatSize
import Derived.Deep.RegionHeld3
import Derived.Deep.AppendLies
import Derived.Test.YtbjdplipgghndaaGreatBits
namespace Go.Proofs.YtbjdplipgghndaaGreat
open Go.RowKit
namespace U
theorem Tryz.infoU8 : (Tryz.prog.info? 5).map (fun i => (i.zero, i.size, i.bytes)) = some (some (.int .u8 0), 1, 1) := by kernel_rfl
theorem own_snocT {w : World} {B : Nat} {e : TypeId} {k : IntKind} {v : Value} {zs : List Int} {b : Int} (h : w.ownsRow B e 1 v (zs.length + 1) (zs.map (Value.int k) ++ [.int k b])) : w.ownsRow B e 1 v (zs ++ [b]).length ((zs ++ [b]).map (Value.int k)) := by
  rw [List.map_append, List.length_append]; exact h
theorem wrapU8 (x : Int) (h0 : 0 ≤ x) (h1 : x < 256) : IntKind.u8.wrap x = x := by rw [IntKind.wrap_u8]; omega
theorem snoc2 {w : World} {B : Nat} {e : TypeId} {k : IntKind} {v : Value} {bs pre : List Int} {b : Int} (h : w.ownsRow B e 1 v (bs ++ pre ++ [b]).length ((bs ++ pre ++ [b]).map (Value.int k))) : w.ownsRow B e 1 v (bs ++ (pre ++ [b])).length ((bs ++ (pre ++ [b])).map (Value.int k)) := by
  rw [← List.append_assoc]; exact h
end U
end Go.Proofs.YtbjdplipgghndaaGreat
