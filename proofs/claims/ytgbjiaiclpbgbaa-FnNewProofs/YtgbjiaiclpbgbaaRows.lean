/-
  No cell of these rows narrows 'for every input' (looked for: loops, veiled, ifaces, maps, wideKeys, modest, calm, conditions, laid).
  DERIVED. THE GIVEN ROWS OF THIS SEAT. 7 by the template 'for every input the law returns true; each argument reads behind the call as it read before'; 0 by the template 'total and deterministic' (their statements: YtgbjiaiclpbgbaaTotals.lean).
  GIVEN WITH THE SEED: the statements are not yours to turn. If you find one false, say at which input.
  Laid BY PROGRAM, IN A SANDBOX (cutbox-rows.mjs): the forced cells as the released guide's own fill.sh prints them over the translation f14b5a93f67db339… (all of the seat's roots in one cut). By AI agents, Wed Nov 11 2026. No macro, syntax, notation, axiom, sorry.
-/
import Derived.Test.YtgbjiaiclpbgbaaChecked
import GoSem.Claim
import GoSem.ClaimJoined
import GoSem.ClaimMapViews
import Derived.JoinedTies
import Derived.KernelRfl
namespace Go.Proofs.Ytgbjiaiclpbgbaa
/- THE CELL 'sum', in the pinned program and in every row, IS THE sha256 OF THE DUMP (.gsa) THAT YtgbjiaiclpbgbaaProg.lean LOADS. Nothing in Lean hashes anything: it is a label: what it is worth is what the hold of that sum in a sandbox is worth. -/
noncomputable def Try.pinned : Pinned := { name := "ytgbjiaiclpbgbaa", sum := "f14b5a93f67db3397fa816dec8c6b678ad36ba2f86c49b6abaf60f6371c5bc73", checked := Try.checked }
namespace Rows
def none {H : Type} : Left H := { results := [], args := [] }

/-- 'laws.FnNewProofs': WHATEVER THE INPUT: true; the input reads as it did. -/
def fnNewProofsSpec : ChangeSpec := { name := "fnNewProofs", fn := fun _ => fun
  | [d] => { results := [.lit (.bool true)], args := [d] }
  | _ => none }
def fnNewProofsRow : OpenClaim := { program := "ytgbjiaiclpbgbaa", sum := "f14b5a93f67db3397fa816dec8c6b678ad36ba2f86c49b6abaf60f6371c5bc73", func := "loop.example/g00602/laws.FnNewProofs", spec := "fnNewProofs", unfollowed := true, recurses := true, apart := false }
def FnNewProofsSaid : Prop := fnNewProofsRow.holds Try.pinned (OpenSpec.ofChange fnNewProofsSpec)

/-- ITS FALSE NEIGHBOUR: 'it returns false'. Refute it at one input. -/
def fnNewProofsWrong : ChangeSpec := { name := "fnNewProofs", fn := fun _ => fun
  | [d] => { results := [.lit (.bool false)], args := [d] }
  | _ => none }
def FnNewProofsWrongFalsely : Prop := fnNewProofsRow.holds Try.pinned (OpenSpec.ofChange fnNewProofsWrong)

/-- 'laws.FnTrails': WHATEVER THE INPUT: true; the input reads as it did. -/
def fnTrailsSpec : ChangeSpec := { name := "fnTrails", fn := fun _ => fun
  | [d] => { results := [.lit (.bool true)], args := [d] }
  | _ => none }
def fnTrailsRow : OpenClaim := { program := "ytgbjiaiclpbgbaa", sum := "f14b5a93f67db3397fa816dec8c6b678ad36ba2f86c49b6abaf60f6371c5bc73", func := "loop.example/g00602/laws.FnTrails", spec := "fnTrails", unfollowed := true, recurses := true, apart := false }
def FnTrailsSaid : Prop := fnTrailsRow.holds Try.pinned (OpenSpec.ofChange fnTrailsSpec)

/-- ITS FALSE NEIGHBOUR: 'it returns false'. Refute it at one input. -/
def fnTrailsWrong : ChangeSpec := { name := "fnTrails", fn := fun _ => fun
  | [d] => { results := [.lit (.bool false)], args := [d] }
  | _ => none }
def FnTrailsWrongFalsely : Prop := fnTrailsRow.holds Try.pinned (OpenSpec.ofChange fnTrailsWrong)

/-- 'laws.FnExactTrailFault': WHATEVER THE INPUT: true; the input reads as it did. -/
def fnExactTrailFaultSpec : ChangeSpec := { name := "fnExactTrailFault", fn := fun _ => fun
  | [d] => { results := [.lit (.bool true)], args := [d] }
  | _ => none }
def fnExactTrailFaultRow : OpenClaim := { program := "ytgbjiaiclpbgbaa", sum := "f14b5a93f67db3397fa816dec8c6b678ad36ba2f86c49b6abaf60f6371c5bc73", func := "loop.example/g00602/laws.FnExactTrailFault", spec := "fnExactTrailFault", unfollowed := true, recurses := true, apart := false }
def FnExactTrailFaultSaid : Prop := fnExactTrailFaultRow.holds Try.pinned (OpenSpec.ofChange fnExactTrailFaultSpec)

/-- ITS FALSE NEIGHBOUR: 'it returns false'. Refute it at one input. -/
def fnExactTrailFaultWrong : ChangeSpec := { name := "fnExactTrailFault", fn := fun _ => fun
  | [d] => { results := [.lit (.bool false)], args := [d] }
  | _ => none }
def FnExactTrailFaultWrongFalsely : Prop := fnExactTrailFaultRow.holds Try.pinned (OpenSpec.ofChange fnExactTrailFaultWrong)

/-- 'laws.FnExactClimbNew': WHATEVER THE INPUT: true; the input reads as it did. -/
def fnExactClimbNewSpec : ChangeSpec := { name := "fnExactClimbNew", fn := fun _ => fun
  | [d1, d2] => { results := [.lit (.bool true)], args := [d1, d2] }
  | _ => none }
def fnExactClimbNewRow : OpenClaim := { program := "ytgbjiaiclpbgbaa", sum := "f14b5a93f67db3397fa816dec8c6b678ad36ba2f86c49b6abaf60f6371c5bc73", func := "loop.example/g00602/laws.FnExactClimbNew", spec := "fnExactClimbNew", unfollowed := true, recurses := true, apart := false }
def FnExactClimbNewSaid : Prop := fnExactClimbNewRow.holds Try.pinned (OpenSpec.ofChange fnExactClimbNewSpec)

/-- ITS FALSE NEIGHBOUR: 'it returns false'. Refute it at one input. -/
def fnExactClimbNewWrong : ChangeSpec := { name := "fnExactClimbNew", fn := fun _ => fun
  | [d1, d2] => { results := [.lit (.bool false)], args := [d1, d2] }
  | _ => none }
def FnExactClimbNewWrongFalsely : Prop := fnExactClimbNewRow.holds Try.pinned (OpenSpec.ofChange fnExactClimbNewWrong)

/-- 'laws.FnExactAcceptNew': WHATEVER THE INPUT: true; the input reads as it did. -/
def fnExactAcceptNewSpec : ChangeSpec := { name := "fnExactAcceptNew", fn := fun _ => fun
  | [d1, d2, d3, d4, d5] => { results := [.lit (.bool true)], args := [d1, d2, d3, d4, d5] }
  | _ => none }
def fnExactAcceptNewRow : OpenClaim := { program := "ytgbjiaiclpbgbaa", sum := "f14b5a93f67db3397fa816dec8c6b678ad36ba2f86c49b6abaf60f6371c5bc73", func := "loop.example/g00602/laws.FnExactAcceptNew", spec := "fnExactAcceptNew", unfollowed := true, recurses := true, apart := false }
def FnExactAcceptNewSaid : Prop := fnExactAcceptNewRow.holds Try.pinned (OpenSpec.ofChange fnExactAcceptNewSpec)

/-- ITS FALSE NEIGHBOUR: 'it returns false'. Refute it at one input. -/
def fnExactAcceptNewWrong : ChangeSpec := { name := "fnExactAcceptNew", fn := fun _ => fun
  | [d1, d2, d3, d4, d5] => { results := [.lit (.bool false)], args := [d1, d2, d3, d4, d5] }
  | _ => none }
def FnExactAcceptNewWrongFalsely : Prop := fnExactAcceptNewRow.holds Try.pinned (OpenSpec.ofChange fnExactAcceptNewWrong)

/-- 'laws.FnExactSameTrails': WHATEVER THE INPUT: true; the input reads as it did. -/
def fnExactSameTrailsSpec : ChangeSpec := { name := "fnExactSameTrails", fn := fun _ => fun
  | [d1, d2] => { results := [.lit (.bool true)], args := [d1, d2] }
  | _ => none }
def fnExactSameTrailsRow : OpenClaim := { program := "ytgbjiaiclpbgbaa", sum := "f14b5a93f67db3397fa816dec8c6b678ad36ba2f86c49b6abaf60f6371c5bc73", func := "loop.example/g00602/laws.FnExactSameTrails", spec := "fnExactSameTrails", apart := false }
def FnExactSameTrailsSaid : Prop := fnExactSameTrailsRow.holds Try.pinned (OpenSpec.ofChange fnExactSameTrailsSpec)

/-- ITS FALSE NEIGHBOUR: 'it returns false'. Refute it at one input. -/
def fnExactSameTrailsWrong : ChangeSpec := { name := "fnExactSameTrails", fn := fun _ => fun
  | [d1, d2] => { results := [.lit (.bool false)], args := [d1, d2] }
  | _ => none }
def FnExactSameTrailsWrongFalsely : Prop := fnExactSameTrailsRow.holds Try.pinned (OpenSpec.ofChange fnExactSameTrailsWrong)

/-- 'laws.FnExactTrailSize': WHATEVER THE INPUT: true; the input reads as it did. -/
def fnExactTrailSizeSpec : ChangeSpec := { name := "fnExactTrailSize", fn := fun _ => fun
  | [d] => { results := [.lit (.bool true)], args := [d] }
  | _ => none }
def fnExactTrailSizeRow : OpenClaim := { program := "ytgbjiaiclpbgbaa", sum := "f14b5a93f67db3397fa816dec8c6b678ad36ba2f86c49b6abaf60f6371c5bc73", func := "loop.example/g00602/laws.FnExactTrailSize", spec := "fnExactTrailSize", unfollowed := true, recurses := true, apart := false }
def FnExactTrailSizeSaid : Prop := fnExactTrailSizeRow.holds Try.pinned (OpenSpec.ofChange fnExactTrailSizeSpec)

/-- ITS FALSE NEIGHBOUR: 'it returns false'. Refute it at one input. -/
def fnExactTrailSizeWrong : ChangeSpec := { name := "fnExactTrailSize", fn := fun _ => fun
  | [d] => { results := [.lit (.bool false)], args := [d] }
  | _ => none }
def FnExactTrailSizeWrongFalsely : Prop := fnExactTrailSizeRow.holds Try.pinned (OpenSpec.ofChange fnExactTrailSizeWrong)

/- THE SECOND FORM. 'bulk': how many values and letters a reading holds, each counted each time it is reached (what is shared counts as often as it is met; a slice's spare places count too). A statement '..UptoSaid' is the law's where the arguments, and the package variables that the reading takes, are together of bulk at most 1048576: NARROWER than '..Said'. Prove '..Said' where nothing that the law and all that it calls make is longer than what came in: it says more and counts as full. Else prove '..UptoSaid'. A law counts once. -/
mutual
def uptoBulk {H : Type} : DataW H → Nat
  | .lit (.string bytes) => bytes.length + 1
  | .lit _ => 1
  | .nil => 1
  | .ptr d => uptoBulk d + 1
  | .slice elems spare => uptoBulkAll elems + uptoBulkAll spare + 1
  | .agg parts => uptoBulkAll parts + 1
  | .iface _ d => uptoBulk d + 1
  | .map entries => uptoBulkEntries entries + 1
  | .held _ => 1
def uptoBulkAll {H : Type} : List (DataW H) → Nat
  | [] => 0
  | d :: r => uptoBulk d + uptoBulkAll r
def uptoBulkEntries {H : Type} : List (Lit × DataW H) → Nat
  | [] => 0
  | x :: r => uptoBulkEntry x + uptoBulkEntries r
def uptoBulkEntry {H : Type} : Lit × DataW H → Nat
  | (.string bytes, d) => bytes.length + uptoBulk d + 1
  | (_, d) => uptoBulk d + 1
 end
def uptoSmall : (H : Type) → List (DataW H) → Bool := fun _ ds => decide (uptoBulkAll ds ≤ 1048576)
def OpenSpec.upto (s : _root_.Go.ChangeSpec) : _root_.Go.OpenSpec := { _root_.Go.OpenSpec.ofChange s with cond := some uptoSmall }

/-- 'laws.FnNewProofs', WHERE WHAT IT READS IS OF BULK AT MOST 1048576: true; the input reads as it did. -/
def fnNewProofsUptoRow : OpenClaim := { program := "ytgbjiaiclpbgbaa", sum := "f14b5a93f67db3397fa816dec8c6b678ad36ba2f86c49b6abaf60f6371c5bc73", func := "loop.example/g00602/laws.FnNewProofs", spec := "fnNewProofs", unfollowed := true, recurses := true, apart := false, narrowed := true }
def FnNewProofsUptoSaid : Prop := fnNewProofsUptoRow.holds Try.pinned (OpenSpec.upto fnNewProofsSpec)

/-- 'laws.FnTrails', WHERE WHAT IT READS IS OF BULK AT MOST 1048576: true; the input reads as it did. -/
def fnTrailsUptoRow : OpenClaim := { program := "ytgbjiaiclpbgbaa", sum := "f14b5a93f67db3397fa816dec8c6b678ad36ba2f86c49b6abaf60f6371c5bc73", func := "loop.example/g00602/laws.FnTrails", spec := "fnTrails", unfollowed := true, recurses := true, apart := false, narrowed := true }
def FnTrailsUptoSaid : Prop := fnTrailsUptoRow.holds Try.pinned (OpenSpec.upto fnTrailsSpec)

/-- 'laws.FnExactTrailFault', WHERE WHAT IT READS IS OF BULK AT MOST 1048576: true; the input reads as it did. -/
def fnExactTrailFaultUptoRow : OpenClaim := { program := "ytgbjiaiclpbgbaa", sum := "f14b5a93f67db3397fa816dec8c6b678ad36ba2f86c49b6abaf60f6371c5bc73", func := "loop.example/g00602/laws.FnExactTrailFault", spec := "fnExactTrailFault", unfollowed := true, recurses := true, apart := false, narrowed := true }
def FnExactTrailFaultUptoSaid : Prop := fnExactTrailFaultUptoRow.holds Try.pinned (OpenSpec.upto fnExactTrailFaultSpec)

/-- 'laws.FnExactClimbNew', WHERE WHAT IT READS IS OF BULK AT MOST 1048576: true; the input reads as it did. -/
def fnExactClimbNewUptoRow : OpenClaim := { program := "ytgbjiaiclpbgbaa", sum := "f14b5a93f67db3397fa816dec8c6b678ad36ba2f86c49b6abaf60f6371c5bc73", func := "loop.example/g00602/laws.FnExactClimbNew", spec := "fnExactClimbNew", unfollowed := true, recurses := true, apart := false, narrowed := true }
def FnExactClimbNewUptoSaid : Prop := fnExactClimbNewUptoRow.holds Try.pinned (OpenSpec.upto fnExactClimbNewSpec)

/-- 'laws.FnExactAcceptNew', WHERE WHAT IT READS IS OF BULK AT MOST 1048576: true; the input reads as it did. -/
def fnExactAcceptNewUptoRow : OpenClaim := { program := "ytgbjiaiclpbgbaa", sum := "f14b5a93f67db3397fa816dec8c6b678ad36ba2f86c49b6abaf60f6371c5bc73", func := "loop.example/g00602/laws.FnExactAcceptNew", spec := "fnExactAcceptNew", unfollowed := true, recurses := true, apart := false, narrowed := true }
def FnExactAcceptNewUptoSaid : Prop := fnExactAcceptNewUptoRow.holds Try.pinned (OpenSpec.upto fnExactAcceptNewSpec)

/-- 'laws.FnExactSameTrails', WHERE WHAT IT READS IS OF BULK AT MOST 1048576: true; the input reads as it did. -/
def fnExactSameTrailsUptoRow : OpenClaim := { program := "ytgbjiaiclpbgbaa", sum := "f14b5a93f67db3397fa816dec8c6b678ad36ba2f86c49b6abaf60f6371c5bc73", func := "loop.example/g00602/laws.FnExactSameTrails", spec := "fnExactSameTrails", apart := false, narrowed := true }
def FnExactSameTrailsUptoSaid : Prop := fnExactSameTrailsUptoRow.holds Try.pinned (OpenSpec.upto fnExactSameTrailsSpec)

/-- 'laws.FnExactTrailSize', WHERE WHAT IT READS IS OF BULK AT MOST 1048576: true; the input reads as it did. -/
def fnExactTrailSizeUptoRow : OpenClaim := { program := "ytgbjiaiclpbgbaa", sum := "f14b5a93f67db3397fa816dec8c6b678ad36ba2f86c49b6abaf60f6371c5bc73", func := "loop.example/g00602/laws.FnExactTrailSize", spec := "fnExactTrailSize", unfollowed := true, recurses := true, apart := false, narrowed := true }
def FnExactTrailSizeUptoSaid : Prop := fnExactTrailSizeUptoRow.holds Try.pinned (OpenSpec.upto fnExactTrailSizeSpec)

end Rows
end Go.Proofs.Ytgbjiaiclpbgbaa
