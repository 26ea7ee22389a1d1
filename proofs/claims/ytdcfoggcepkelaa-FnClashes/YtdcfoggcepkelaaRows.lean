/-
  No cell of these rows narrows 'for every input' (looked for: loops, veiled, ifaces, maps, wideKeys, modest, calm, conditions, laid).
  DERIVED. THE GIVEN ROWS OF THIS SEAT. 7 by the template 'for every input the law returns true; each argument reads behind the call as it read before'; 0 by the template 'total and deterministic' (their statements: YtdcfoggcepkelaaTotals.lean).
  GIVEN WITH THE SEED: the statements are not yours to turn. If you find one false, say at which input.
  Laid BY PROGRAM, IN A SANDBOX (cutbox-rows.mjs): the forced cells as the released guide's own fill.sh prints them over the translation 1e7867bce19fddc8… (all of the seat's roots in one cut). By AI agents, Wed Nov 11 2026. No macro, syntax, notation, axiom, sorry.
-/
import Derived.Test.YtdcfoggcepkelaaChecked
import GoSem.Claim
import GoSem.ClaimJoined
import GoSem.ClaimMapViews
import Derived.JoinedTies
import Derived.KernelRfl
namespace Go.Proofs.Ytdcfoggcepkelaa
/- THE CELL 'sum', in the pinned program and in every row, IS THE sha256 OF THE DUMP (.gsa) THAT YtdcfoggcepkelaaProg.lean LOADS. Nothing in Lean hashes anything: it is a label: what it is worth is what the hold of that sum in a sandbox is worth. -/
noncomputable def Try.pinned : Pinned := { name := "ytdcfoggcepkelaa", sum := "1e7867bce19fddc835a38da961024ccb895a05caf7502b1eccdedd6aeb3d21ec", checked := Try.checked }
namespace Rows
def none {H : Type} : Left H := { results := [], args := [] }

/-- 'laws.FnClashes': WHATEVER THE INPUT: true; the input reads as it did. -/
def fnClashesSpec : ChangeSpec := { name := "fnClashes", fn := fun _ => fun
  | [d] => { results := [.lit (.bool true)], args := [d] }
  | _ => none }
def fnClashesRow : OpenClaim := { program := "ytdcfoggcepkelaa", sum := "1e7867bce19fddc835a38da961024ccb895a05caf7502b1eccdedd6aeb3d21ec", func := "loop.example/g00602/laws.FnClashes", spec := "fnClashes", apart := false }
def FnClashesSaid : Prop := fnClashesRow.holds Try.pinned (OpenSpec.ofChange fnClashesSpec)

/-- ITS FALSE NEIGHBOUR: 'it returns false'. Refute it at one input. -/
def fnClashesWrong : ChangeSpec := { name := "fnClashes", fn := fun _ => fun
  | [d] => { results := [.lit (.bool false)], args := [d] }
  | _ => none }
def FnClashesWrongFalsely : Prop := fnClashesRow.holds Try.pinned (OpenSpec.ofChange fnClashesWrong)

/-- 'laws.FnOldProofs': WHATEVER THE INPUT: true; the input reads as it did. -/
def fnOldProofsSpec : ChangeSpec := { name := "fnOldProofs", fn := fun _ => fun
  | [d] => { results := [.lit (.bool true)], args := [d] }
  | _ => none }
def fnOldProofsRow : OpenClaim := { program := "ytdcfoggcepkelaa", sum := "1e7867bce19fddc835a38da961024ccb895a05caf7502b1eccdedd6aeb3d21ec", func := "loop.example/g00602/laws.FnOldProofs", spec := "fnOldProofs", unfollowed := true, recurses := true, apart := false }
def FnOldProofsSaid : Prop := fnOldProofsRow.holds Try.pinned (OpenSpec.ofChange fnOldProofsSpec)

/-- ITS FALSE NEIGHBOUR: 'it returns false'. Refute it at one input. -/
def fnOldProofsWrong : ChangeSpec := { name := "fnOldProofs", fn := fun _ => fun
  | [d] => { results := [.lit (.bool false)], args := [d] }
  | _ => none }
def FnOldProofsWrongFalsely : Prop := fnOldProofsRow.holds Try.pinned (OpenSpec.ofChange fnOldProofsWrong)

/-- 'laws.FnOldTrue': WHATEVER THE INPUT: true; the input reads as it did. -/
def fnOldTrueSpec : ChangeSpec := { name := "fnOldTrue", fn := fun _ => fun
  | [d] => { results := [.lit (.bool true)], args := [d] }
  | _ => none }
def fnOldTrueRow : OpenClaim := { program := "ytdcfoggcepkelaa", sum := "1e7867bce19fddc835a38da961024ccb895a05caf7502b1eccdedd6aeb3d21ec", func := "loop.example/g00602/laws.FnOldTrue", spec := "fnOldTrue", unfollowed := true, recurses := true, apart := false }
def FnOldTrueSaid : Prop := fnOldTrueRow.holds Try.pinned (OpenSpec.ofChange fnOldTrueSpec)

/-- ITS FALSE NEIGHBOUR: 'it returns false'. Refute it at one input. -/
def fnOldTrueWrong : ChangeSpec := { name := "fnOldTrue", fn := fun _ => fun
  | [d] => { results := [.lit (.bool false)], args := [d] }
  | _ => none }
def FnOldTrueWrongFalsely : Prop := fnOldTrueRow.holds Try.pinned (OpenSpec.ofChange fnOldTrueWrong)

/-- 'laws.FnExactClimbOld': WHATEVER THE INPUT: true; the input reads as it did. -/
def fnExactClimbOldSpec : ChangeSpec := { name := "fnExactClimbOld", fn := fun _ => fun
  | [d1, d2, d3, d4] => { results := [.lit (.bool true)], args := [d1, d2, d3, d4] }
  | _ => none }
def fnExactClimbOldRow : OpenClaim := { program := "ytdcfoggcepkelaa", sum := "1e7867bce19fddc835a38da961024ccb895a05caf7502b1eccdedd6aeb3d21ec", func := "loop.example/g00602/laws.FnExactClimbOld", spec := "fnExactClimbOld", apart := false }
def FnExactClimbOldSaid : Prop := fnExactClimbOldRow.holds Try.pinned (OpenSpec.ofChange fnExactClimbOldSpec)

/-- ITS FALSE NEIGHBOUR: 'it returns false'. Refute it at one input. -/
def fnExactClimbOldWrong : ChangeSpec := { name := "fnExactClimbOld", fn := fun _ => fun
  | [d1, d2, d3, d4] => { results := [.lit (.bool false)], args := [d1, d2, d3, d4] }
  | _ => none }
def FnExactClimbOldWrongFalsely : Prop := fnExactClimbOldRow.holds Try.pinned (OpenSpec.ofChange fnExactClimbOldWrong)

/-- 'laws.FnExactAcceptOld': WHATEVER THE INPUT: true; the input reads as it did. -/
def fnExactAcceptOldSpec : ChangeSpec := { name := "fnExactAcceptOld", fn := fun _ => fun
  | [d1, d2, d3, d4, d5] => { results := [.lit (.bool true)], args := [d1, d2, d3, d4, d5] }
  | _ => none }
def fnExactAcceptOldRow : OpenClaim := { program := "ytdcfoggcepkelaa", sum := "1e7867bce19fddc835a38da961024ccb895a05caf7502b1eccdedd6aeb3d21ec", func := "loop.example/g00602/laws.FnExactAcceptOld", spec := "fnExactAcceptOld", apart := false }
def FnExactAcceptOldSaid : Prop := fnExactAcceptOldRow.holds Try.pinned (OpenSpec.ofChange fnExactAcceptOldSpec)

/-- ITS FALSE NEIGHBOUR: 'it returns false'. Refute it at one input. -/
def fnExactAcceptOldWrong : ChangeSpec := { name := "fnExactAcceptOld", fn := fun _ => fun
  | [d1, d2, d3, d4, d5] => { results := [.lit (.bool false)], args := [d1, d2, d3, d4, d5] }
  | _ => none }
def FnExactAcceptOldWrongFalsely : Prop := fnExactAcceptOldRow.holds Try.pinned (OpenSpec.ofChange fnExactAcceptOldWrong)

/-- 'laws.FnExactOldClash': WHATEVER THE INPUT: true; the input reads as it did. -/
def fnExactOldClashSpec : ChangeSpec := { name := "fnExactOldClash", fn := fun _ => fun
  | [d1, d2, d3, d4, d5] => { results := [.lit (.bool true)], args := [d1, d2, d3, d4, d5] }
  | _ => none }
def fnExactOldClashRow : OpenClaim := { program := "ytdcfoggcepkelaa", sum := "1e7867bce19fddc835a38da961024ccb895a05caf7502b1eccdedd6aeb3d21ec", func := "loop.example/g00602/laws.FnExactOldClash", spec := "fnExactOldClash", unfollowed := true, recurses := true, apart := false }
def FnExactOldClashSaid : Prop := fnExactOldClashRow.holds Try.pinned (OpenSpec.ofChange fnExactOldClashSpec)

/-- ITS FALSE NEIGHBOUR: 'it returns false'. Refute it at one input. -/
def fnExactOldClashWrong : ChangeSpec := { name := "fnExactOldClash", fn := fun _ => fun
  | [d1, d2, d3, d4, d5] => { results := [.lit (.bool false)], args := [d1, d2, d3, d4, d5] }
  | _ => none }
def FnExactOldClashWrongFalsely : Prop := fnExactOldClashRow.holds Try.pinned (OpenSpec.ofChange fnExactOldClashWrong)

/-- 'laws.FnExactLeafBytes': WHATEVER THE INPUT: true; the input reads as it did. -/
def fnExactLeafBytesSpec : ChangeSpec := { name := "fnExactLeafBytes", fn := fun _ => fun
  | [d1, d2, d3] => { results := [.lit (.bool true)], args := [d1, d2, d3] }
  | _ => none }
def fnExactLeafBytesRow : OpenClaim := { program := "ytdcfoggcepkelaa", sum := "1e7867bce19fddc835a38da961024ccb895a05caf7502b1eccdedd6aeb3d21ec", func := "loop.example/g00602/laws.FnExactLeafBytes", spec := "fnExactLeafBytes", apart := false }
def FnExactLeafBytesSaid : Prop := fnExactLeafBytesRow.holds Try.pinned (OpenSpec.ofChange fnExactLeafBytesSpec)

/-- ITS FALSE NEIGHBOUR: 'it returns false'. Refute it at one input. -/
def fnExactLeafBytesWrong : ChangeSpec := { name := "fnExactLeafBytes", fn := fun _ => fun
  | [d1, d2, d3] => { results := [.lit (.bool false)], args := [d1, d2, d3] }
  | _ => none }
def FnExactLeafBytesWrongFalsely : Prop := fnExactLeafBytesRow.holds Try.pinned (OpenSpec.ofChange fnExactLeafBytesWrong)

/- THE SECOND FORM. 'bulk': how many values and letters a reading holds, each counted each time it is reached (what is shared counts as often as it is met; a slice's spare places count too). A statement '..UptoSaid' is the law's where the arguments, and the package variables that the reading takes, are together of bulk at most 1048576: NARROWER than '..Said'. Prove '..Said' where nothing that the law and all that it calls make is longer than what came in: it says more and counts as full. Else prove '..UptoSaid'. A law counts once. -/
mutual
def uptoBulk {H : Type} : DataW H → Nat
  | .lit (.string bytes) => bytes.length + 1
  | .lit _ => 1
  | .nil => 1
  | .ptr d => uptoBulk d + 1
  | .slice elems spare => uptoBulkAll elems + uptoBulkAll spare + 1
  | .agg parts => uptoBulkAll parts + 1
  | .iface _ d => uptoBulk d + 1
  | .map entries => uptoBulkEntries entries + 1
  | .held _ => 1
def uptoBulkAll {H : Type} : List (DataW H) → Nat
  | [] => 0
  | d :: r => uptoBulk d + uptoBulkAll r
def uptoBulkEntries {H : Type} : List (Lit × DataW H) → Nat
  | [] => 0
  | x :: r => uptoBulkEntry x + uptoBulkEntries r
def uptoBulkEntry {H : Type} : Lit × DataW H → Nat
  | (.string bytes, d) => bytes.length + uptoBulk d + 1
  | (_, d) => uptoBulk d + 1
 end
def uptoSmall : (H : Type) → List (DataW H) → Bool := fun _ ds => decide (uptoBulkAll ds ≤ 1048576)
def OpenSpec.upto (s : _root_.Go.ChangeSpec) : _root_.Go.OpenSpec := { _root_.Go.OpenSpec.ofChange s with cond := some uptoSmall }

/-- 'laws.FnClashes', WHERE WHAT IT READS IS OF BULK AT MOST 1048576: true; the input reads as it did. -/
def fnClashesUptoRow : OpenClaim := { program := "ytdcfoggcepkelaa", sum := "1e7867bce19fddc835a38da961024ccb895a05caf7502b1eccdedd6aeb3d21ec", func := "loop.example/g00602/laws.FnClashes", spec := "fnClashes", apart := false, narrowed := true }
def FnClashesUptoSaid : Prop := fnClashesUptoRow.holds Try.pinned (OpenSpec.upto fnClashesSpec)

/-- 'laws.FnOldProofs', WHERE WHAT IT READS IS OF BULK AT MOST 1048576: true; the input reads as it did. -/
def fnOldProofsUptoRow : OpenClaim := { program := "ytdcfoggcepkelaa", sum := "1e7867bce19fddc835a38da961024ccb895a05caf7502b1eccdedd6aeb3d21ec", func := "loop.example/g00602/laws.FnOldProofs", spec := "fnOldProofs", unfollowed := true, recurses := true, apart := false, narrowed := true }
def FnOldProofsUptoSaid : Prop := fnOldProofsUptoRow.holds Try.pinned (OpenSpec.upto fnOldProofsSpec)

/-- 'laws.FnOldTrue', WHERE WHAT IT READS IS OF BULK AT MOST 1048576: true; the input reads as it did. -/
def fnOldTrueUptoRow : OpenClaim := { program := "ytdcfoggcepkelaa", sum := "1e7867bce19fddc835a38da961024ccb895a05caf7502b1eccdedd6aeb3d21ec", func := "loop.example/g00602/laws.FnOldTrue", spec := "fnOldTrue", unfollowed := true, recurses := true, apart := false, narrowed := true }
def FnOldTrueUptoSaid : Prop := fnOldTrueUptoRow.holds Try.pinned (OpenSpec.upto fnOldTrueSpec)

/-- 'laws.FnExactClimbOld', WHERE WHAT IT READS IS OF BULK AT MOST 1048576: true; the input reads as it did. -/
def fnExactClimbOldUptoRow : OpenClaim := { program := "ytdcfoggcepkelaa", sum := "1e7867bce19fddc835a38da961024ccb895a05caf7502b1eccdedd6aeb3d21ec", func := "loop.example/g00602/laws.FnExactClimbOld", spec := "fnExactClimbOld", apart := false, narrowed := true }
def FnExactClimbOldUptoSaid : Prop := fnExactClimbOldUptoRow.holds Try.pinned (OpenSpec.upto fnExactClimbOldSpec)

/-- 'laws.FnExactAcceptOld', WHERE WHAT IT READS IS OF BULK AT MOST 1048576: true; the input reads as it did. -/
def fnExactAcceptOldUptoRow : OpenClaim := { program := "ytdcfoggcepkelaa", sum := "1e7867bce19fddc835a38da961024ccb895a05caf7502b1eccdedd6aeb3d21ec", func := "loop.example/g00602/laws.FnExactAcceptOld", spec := "fnExactAcceptOld", apart := false, narrowed := true }
def FnExactAcceptOldUptoSaid : Prop := fnExactAcceptOldUptoRow.holds Try.pinned (OpenSpec.upto fnExactAcceptOldSpec)

/-- 'laws.FnExactOldClash', WHERE WHAT IT READS IS OF BULK AT MOST 1048576: true; the input reads as it did. -/
def fnExactOldClashUptoRow : OpenClaim := { program := "ytdcfoggcepkelaa", sum := "1e7867bce19fddc835a38da961024ccb895a05caf7502b1eccdedd6aeb3d21ec", func := "loop.example/g00602/laws.FnExactOldClash", spec := "fnExactOldClash", unfollowed := true, recurses := true, apart := false, narrowed := true }
def FnExactOldClashUptoSaid : Prop := fnExactOldClashUptoRow.holds Try.pinned (OpenSpec.upto fnExactOldClashSpec)

/-- 'laws.FnExactLeafBytes', WHERE WHAT IT READS IS OF BULK AT MOST 1048576: true; the input reads as it did. -/
def fnExactLeafBytesUptoRow : OpenClaim := { program := "ytdcfoggcepkelaa", sum := "1e7867bce19fddc835a38da961024ccb895a05caf7502b1eccdedd6aeb3d21ec", func := "loop.example/g00602/laws.FnExactLeafBytes", spec := "fnExactLeafBytes", apart := false, narrowed := true }
def FnExactLeafBytesUptoSaid : Prop := fnExactLeafBytesUptoRow.holds Try.pinned (OpenSpec.upto fnExactLeafBytesSpec)

end Rows
end Go.Proofs.Ytdcfoggcepkelaa
