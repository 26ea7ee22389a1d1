/-
  No cell of these rows narrows 'for every input' (looked for: loops, veiled, ifaces, maps, wideKeys, modest, calm, conditions, laid).
  DERIVED. THE GIVEN ROWS OF THIS SEAT. 5 by the template 'for every input the law returns true; each argument reads behind the call as it read before'; 0 by the template 'total and deterministic' (their statements: YtljbcpkjhnbpeaaTotals.lean).
  GIVEN WITH THE SEED: the statements are not yours to turn. If you find one false, say at which input.
  Laid BY PROGRAM, IN A SANDBOX (cutbox-rows.mjs): the forced cells as the released guide's own fill.sh prints them over the translation d9cb7e47670d2f98… (all of the seat's roots in one cut). By AI agents, Wed Nov 11 2026. No macro, syntax, notation, axiom, sorry.
-/
import Derived.Test.YtljbcpkjhnbpeaaChecked
import GoSem.Claim
import GoSem.ClaimJoined
import GoSem.ClaimMapViews
import Derived.JoinedTies
import Derived.KernelRfl
namespace Go.Proofs.Ytljbcpkjhnbpeaa
/- THE CELL 'sum', in the pinned program and in every row, IS THE sha256 OF THE DUMP (.gsa) THAT YtljbcpkjhnbpeaaProg.lean LOADS. Nothing in Lean hashes anything: it is a label: what it is worth is what the hold of that sum in a sandbox is worth. -/
noncomputable def Try.pinned : Pinned := { name := "ytljbcpkjhnbpeaa", sum := "d9cb7e47670d2f982a6b0aba331e55c24bd50851ce2c8d8f79ad310cbead508d", checked := Try.checked }
namespace Rows
def none {H : Type} : Left H := { results := [], args := [] }

/-- 'laws.FnNewProofs': WHATEVER THE INPUT: true; the input reads as it did. -/
def fnNewProofsSpec : ChangeSpec := { name := "fnNewProofs", fn := fun _ => fun
  | [d] => { results := [.lit (.bool true)], args := [d] }
  | _ => none }
def fnNewProofsRow : OpenClaim := { program := "ytljbcpkjhnbpeaa", sum := "d9cb7e47670d2f982a6b0aba331e55c24bd50851ce2c8d8f79ad310cbead508d", func := "loop.example/g00602/laws.FnNewProofs", spec := "fnNewProofs", unfollowed := true, recurses := true, apart := false }
def FnNewProofsSaid : Prop := fnNewProofsRow.holds Try.pinned (OpenSpec.ofChange fnNewProofsSpec)

/-- ITS FALSE NEIGHBOUR: 'it returns false'. Refute it at one input. -/
def fnNewProofsWrong : ChangeSpec := { name := "fnNewProofs", fn := fun _ => fun
  | [d] => { results := [.lit (.bool false)], args := [d] }
  | _ => none }
def FnNewProofsWrongFalsely : Prop := fnNewProofsRow.holds Try.pinned (OpenSpec.ofChange fnNewProofsWrong)

/-- 'laws.FnTrails': WHATEVER THE INPUT: true; the input reads as it did. -/
def fnTrailsSpec : ChangeSpec := { name := "fnTrails", fn := fun _ => fun
  | [d] => { results := [.lit (.bool true)], args := [d] }
  | _ => none }
def fnTrailsRow : OpenClaim := { program := "ytljbcpkjhnbpeaa", sum := "d9cb7e47670d2f982a6b0aba331e55c24bd50851ce2c8d8f79ad310cbead508d", func := "loop.example/g00602/laws.FnTrails", spec := "fnTrails", unfollowed := true, recurses := true, apart := false }
def FnTrailsSaid : Prop := fnTrailsRow.holds Try.pinned (OpenSpec.ofChange fnTrailsSpec)

/-- ITS FALSE NEIGHBOUR: 'it returns false'. Refute it at one input. -/
def fnTrailsWrong : ChangeSpec := { name := "fnTrails", fn := fun _ => fun
  | [d] => { results := [.lit (.bool false)], args := [d] }
  | _ => none }
def FnTrailsWrongFalsely : Prop := fnTrailsRow.holds Try.pinned (OpenSpec.ofChange fnTrailsWrong)

/-- 'laws.FnExactClimbNew': WHATEVER THE INPUT: true; the input reads as it did. -/
def fnExactClimbNewSpec : ChangeSpec := { name := "fnExactClimbNew", fn := fun _ => fun
  | [d1, d2] => { results := [.lit (.bool true)], args := [d1, d2] }
  | _ => none }
def fnExactClimbNewRow : OpenClaim := { program := "ytljbcpkjhnbpeaa", sum := "d9cb7e47670d2f982a6b0aba331e55c24bd50851ce2c8d8f79ad310cbead508d", func := "loop.example/g00602/laws.FnExactClimbNew", spec := "fnExactClimbNew", unfollowed := true, recurses := true, apart := false }
def FnExactClimbNewSaid : Prop := fnExactClimbNewRow.holds Try.pinned (OpenSpec.ofChange fnExactClimbNewSpec)

/-- ITS FALSE NEIGHBOUR: 'it returns false'. Refute it at one input. -/
def fnExactClimbNewWrong : ChangeSpec := { name := "fnExactClimbNew", fn := fun _ => fun
  | [d1, d2] => { results := [.lit (.bool false)], args := [d1, d2] }
  | _ => none }
def FnExactClimbNewWrongFalsely : Prop := fnExactClimbNewRow.holds Try.pinned (OpenSpec.ofChange fnExactClimbNewWrong)

/-- 'laws.FnExactAcceptNew': WHATEVER THE INPUT: true; the input reads as it did. -/
def fnExactAcceptNewSpec : ChangeSpec := { name := "fnExactAcceptNew", fn := fun _ => fun
  | [d1, d2, d3, d4, d5] => { results := [.lit (.bool true)], args := [d1, d2, d3, d4, d5] }
  | _ => none }
def fnExactAcceptNewRow : OpenClaim := { program := "ytljbcpkjhnbpeaa", sum := "d9cb7e47670d2f982a6b0aba331e55c24bd50851ce2c8d8f79ad310cbead508d", func := "loop.example/g00602/laws.FnExactAcceptNew", spec := "fnExactAcceptNew", unfollowed := true, recurses := true, apart := false }
def FnExactAcceptNewSaid : Prop := fnExactAcceptNewRow.holds Try.pinned (OpenSpec.ofChange fnExactAcceptNewSpec)

/-- ITS FALSE NEIGHBOUR: 'it returns false'. Refute it at one input. -/
def fnExactAcceptNewWrong : ChangeSpec := { name := "fnExactAcceptNew", fn := fun _ => fun
  | [d1, d2, d3, d4, d5] => { results := [.lit (.bool false)], args := [d1, d2, d3, d4, d5] }
  | _ => none }
def FnExactAcceptNewWrongFalsely : Prop := fnExactAcceptNewRow.holds Try.pinned (OpenSpec.ofChange fnExactAcceptNewWrong)

/-- 'laws.FnExactSaidFault': WHATEVER THE INPUT: true; the input reads as it did. -/
def fnExactSaidFaultSpec : ChangeSpec := { name := "fnExactSaidFault", fn := fun _ => fun
  | [d] => { results := [.lit (.bool true)], args := [d] }
  | _ => none }
def fnExactSaidFaultRow : OpenClaim := { program := "ytljbcpkjhnbpeaa", sum := "d9cb7e47670d2f982a6b0aba331e55c24bd50851ce2c8d8f79ad310cbead508d", func := "loop.example/g00602/laws.FnExactSaidFault", spec := "fnExactSaidFault", apart := false }
def FnExactSaidFaultSaid : Prop := fnExactSaidFaultRow.holds Try.pinned (OpenSpec.ofChange fnExactSaidFaultSpec)

/-- ITS FALSE NEIGHBOUR: 'it returns false'. Refute it at one input. -/
def fnExactSaidFaultWrong : ChangeSpec := { name := "fnExactSaidFault", fn := fun _ => fun
  | [d] => { results := [.lit (.bool false)], args := [d] }
  | _ => none }
def FnExactSaidFaultWrongFalsely : Prop := fnExactSaidFaultRow.holds Try.pinned (OpenSpec.ofChange fnExactSaidFaultWrong)

/- THE SECOND FORM. 'bulk': how many values and letters a reading holds, each counted each time it is reached (what is shared counts as often as it is met; a slice's spare places count too). A statement '..UptoSaid' is the law's where the arguments, and the package variables that the reading takes, are together of bulk at most 1048576: NARROWER than '..Said'. Prove '..Said' where nothing that the law and all that it calls make is longer than what came in: it says more and counts as full. Else prove '..UptoSaid'. A law counts once. -/
mutual
def uptoBulk {H : Type} : DataW H → Nat
  | .lit (.string bytes) => bytes.length + 1
  | .lit _ => 1
  | .nil => 1
  | .ptr d => uptoBulk d + 1
  | .slice elems spare => uptoBulkAll elems + uptoBulkAll spare + 1
  | .agg parts => uptoBulkAll parts + 1
  | .iface _ d => uptoBulk d + 1
  | .map entries => uptoBulkEntries entries + 1
  | .held _ => 1
def uptoBulkAll {H : Type} : List (DataW H) → Nat
  | [] => 0
  | d :: r => uptoBulk d + uptoBulkAll r
def uptoBulkEntries {H : Type} : List (Lit × DataW H) → Nat
  | [] => 0
  | x :: r => uptoBulkEntry x + uptoBulkEntries r
def uptoBulkEntry {H : Type} : Lit × DataW H → Nat
  | (.string bytes, d) => bytes.length + uptoBulk d + 1
  | (_, d) => uptoBulk d + 1
 end
def uptoSmall : (H : Type) → List (DataW H) → Bool := fun _ ds => decide (uptoBulkAll ds ≤ 1048576)
def OpenSpec.upto (s : _root_.Go.ChangeSpec) : _root_.Go.OpenSpec := { _root_.Go.OpenSpec.ofChange s with cond := some uptoSmall }

/-- 'laws.FnNewProofs', WHERE WHAT IT READS IS OF BULK AT MOST 1048576: true; the input reads as it did. -/
def fnNewProofsUptoRow : OpenClaim := { program := "ytljbcpkjhnbpeaa", sum := "d9cb7e47670d2f982a6b0aba331e55c24bd50851ce2c8d8f79ad310cbead508d", func := "loop.example/g00602/laws.FnNewProofs", spec := "fnNewProofs", unfollowed := true, recurses := true, apart := false, narrowed := true }
def FnNewProofsUptoSaid : Prop := fnNewProofsUptoRow.holds Try.pinned (OpenSpec.upto fnNewProofsSpec)

/-- 'laws.FnTrails', WHERE WHAT IT READS IS OF BULK AT MOST 1048576: true; the input reads as it did. -/
def fnTrailsUptoRow : OpenClaim := { program := "ytljbcpkjhnbpeaa", sum := "d9cb7e47670d2f982a6b0aba331e55c24bd50851ce2c8d8f79ad310cbead508d", func := "loop.example/g00602/laws.FnTrails", spec := "fnTrails", unfollowed := true, recurses := true, apart := false, narrowed := true }
def FnTrailsUptoSaid : Prop := fnTrailsUptoRow.holds Try.pinned (OpenSpec.upto fnTrailsSpec)

/-- 'laws.FnExactClimbNew', WHERE WHAT IT READS IS OF BULK AT MOST 1048576: true; the input reads as it did. -/
def fnExactClimbNewUptoRow : OpenClaim := { program := "ytljbcpkjhnbpeaa", sum := "d9cb7e47670d2f982a6b0aba331e55c24bd50851ce2c8d8f79ad310cbead508d", func := "loop.example/g00602/laws.FnExactClimbNew", spec := "fnExactClimbNew", unfollowed := true, recurses := true, apart := false, narrowed := true }
def FnExactClimbNewUptoSaid : Prop := fnExactClimbNewUptoRow.holds Try.pinned (OpenSpec.upto fnExactClimbNewSpec)

/-- 'laws.FnExactAcceptNew', WHERE WHAT IT READS IS OF BULK AT MOST 1048576: true; the input reads as it did. -/
def fnExactAcceptNewUptoRow : OpenClaim := { program := "ytljbcpkjhnbpeaa", sum := "d9cb7e47670d2f982a6b0aba331e55c24bd50851ce2c8d8f79ad310cbead508d", func := "loop.example/g00602/laws.FnExactAcceptNew", spec := "fnExactAcceptNew", unfollowed := true, recurses := true, apart := false, narrowed := true }
def FnExactAcceptNewUptoSaid : Prop := fnExactAcceptNewUptoRow.holds Try.pinned (OpenSpec.upto fnExactAcceptNewSpec)

/-- 'laws.FnExactSaidFault', WHERE WHAT IT READS IS OF BULK AT MOST 1048576: true; the input reads as it did. -/
def fnExactSaidFaultUptoRow : OpenClaim := { program := "ytljbcpkjhnbpeaa", sum := "d9cb7e47670d2f982a6b0aba331e55c24bd50851ce2c8d8f79ad310cbead508d", func := "loop.example/g00602/laws.FnExactSaidFault", spec := "fnExactSaidFault", apart := false, narrowed := true }
def FnExactSaidFaultUptoSaid : Prop := fnExactSaidFaultUptoRow.holds Try.pinned (OpenSpec.upto fnExactSaidFaultSpec)

end Rows
end Go.Proofs.Ytljbcpkjhnbpeaa
