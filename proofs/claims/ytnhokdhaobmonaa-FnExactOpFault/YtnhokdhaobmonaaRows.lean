/-
  No cell of these rows narrows 'for every input' (looked for: loops, veiled, ifaces, maps, wideKeys, modest, calm, conditions, laid).
  DERIVED. THE GIVEN ROWS OF THIS SEAT. 7 by the template 'for every input the law returns true; each argument reads behind the call as it read before'; 0 by the template 'total and deterministic' (their statements: YtnhokdhaobmonaaTotals.lean).
  GIVEN WITH THE SEED: the statements are not yours to turn. If you find one false, say at which input.
  Laid BY PROGRAM, IN A SANDBOX (cutbox-rows.mjs): the forced cells as the released guide's own fill.sh prints them over the translation 45d45f3ab9375812… (all of the seat's roots in one cut). By AI agents, Wed Nov 11 2026. No macro, syntax, notation, axiom, sorry.
-/
import Derived.Test.YtnhokdhaobmonaaChecked
import GoSem.Claim
import GoSem.ClaimJoined
import GoSem.ClaimMapViews
import Derived.JoinedTies
import Derived.KernelRfl
namespace Go.Proofs.Ytnhokdhaobmonaa
/- THE CELL 'sum', in the pinned program and in every row, IS THE sha256 OF THE DUMP (.gsa) THAT YtnhokdhaobmonaaProg.lean LOADS. Nothing in Lean hashes anything: it is a label: what it is worth is what the hold of that sum in a sandbox is worth. -/
noncomputable def Try.pinned : Pinned := { name := "ytnhokdhaobmonaa", sum := "45d45f3ab9375812ea8c9cb17f56b13b0c3a42268efb01ae9961b19287826991", checked := Try.checked }
namespace Rows
def none {H : Type} : Left H := { results := [], args := [] }

/-- 'laws.FnExactOpFault': WHATEVER THE INPUT: true; the input reads as it did. -/
def fnExactOpFaultSpec : ChangeSpec := { name := "fnExactOpFault", fn := fun _ => fun
  | [d] => { results := [.lit (.bool true)], args := [d] }
  | _ => none }
def fnExactOpFaultRow : OpenClaim := { program := "ytnhokdhaobmonaa", sum := "45d45f3ab9375812ea8c9cb17f56b13b0c3a42268efb01ae9961b19287826991", func := "loop.example/g00602/laws.FnExactOpFault", spec := "fnExactOpFault", unfollowed := true, recurses := true, apart := false }
def FnExactOpFaultSaid : Prop := fnExactOpFaultRow.holds Try.pinned (OpenSpec.ofChange fnExactOpFaultSpec)

/-- ITS FALSE NEIGHBOUR: 'it returns false'. Refute it at one input. -/
def fnExactOpFaultWrong : ChangeSpec := { name := "fnExactOpFault", fn := fun _ => fun
  | [d] => { results := [.lit (.bool false)], args := [d] }
  | _ => none }
def FnExactOpFaultWrongFalsely : Prop := fnExactOpFaultRow.holds Try.pinned (OpenSpec.ofChange fnExactOpFaultWrong)

/-- 'laws.FnExactPackOp': WHATEVER THE INPUT: true; the input reads as it did. -/
def fnExactPackOpSpec : ChangeSpec := { name := "fnExactPackOp", fn := fun _ => fun
  | [d] => { results := [.lit (.bool true)], args := [d] }
  | _ => none }
def fnExactPackOpRow : OpenClaim := { program := "ytnhokdhaobmonaa", sum := "45d45f3ab9375812ea8c9cb17f56b13b0c3a42268efb01ae9961b19287826991", func := "loop.example/g00602/laws.FnExactPackOp", spec := "fnExactPackOp", unfollowed := true, recurses := true, apart := false }
def FnExactPackOpSaid : Prop := fnExactPackOpRow.holds Try.pinned (OpenSpec.ofChange fnExactPackOpSpec)

/-- ITS FALSE NEIGHBOUR: 'it returns false'. Refute it at one input. -/
def fnExactPackOpWrong : ChangeSpec := { name := "fnExactPackOp", fn := fun _ => fun
  | [d] => { results := [.lit (.bool false)], args := [d] }
  | _ => none }
def FnExactPackOpWrongFalsely : Prop := fnExactPackOpRow.holds Try.pinned (OpenSpec.ofChange fnExactPackOpWrong)

/-- 'laws.FnExactReadOp': WHATEVER THE INPUT: true; the input reads as it did. -/
def fnExactReadOpSpec : ChangeSpec := { name := "fnExactReadOp", fn := fun _ => fun
  | [d] => { results := [.lit (.bool true)], args := [d] }
  | _ => none }
def fnExactReadOpRow : OpenClaim := { program := "ytnhokdhaobmonaa", sum := "45d45f3ab9375812ea8c9cb17f56b13b0c3a42268efb01ae9961b19287826991", func := "loop.example/g00602/laws.FnExactReadOp", spec := "fnExactReadOp", unfollowed := true, recurses := true, apart := false }
def FnExactReadOpSaid : Prop := fnExactReadOpRow.holds Try.pinned (OpenSpec.ofChange fnExactReadOpSpec)

/-- ITS FALSE NEIGHBOUR: 'it returns false'. Refute it at one input. -/
def fnExactReadOpWrong : ChangeSpec := { name := "fnExactReadOp", fn := fun _ => fun
  | [d] => { results := [.lit (.bool false)], args := [d] }
  | _ => none }
def FnExactReadOpWrongFalsely : Prop := fnExactReadOpRow.holds Try.pinned (OpenSpec.ofChange fnExactReadOpWrong)

/-- 'laws.FnExactNewServer': WHATEVER THE INPUT: true; the input reads as it did. -/
def fnExactNewServerSpec : ChangeSpec := { name := "fnExactNewServer", fn := fun _ => fun
  | [] => { results := [.lit (.bool true)], args := [] }
  | _ => none }
def fnExactNewServerRow : OpenClaim := { program := "ytnhokdhaobmonaa", sum := "45d45f3ab9375812ea8c9cb17f56b13b0c3a42268efb01ae9961b19287826991", func := "loop.example/g00602/laws.FnExactNewServer", spec := "fnExactNewServer", apart := false }
def FnExactNewServerSaid : Prop := fnExactNewServerRow.holds Try.pinned (OpenSpec.ofChange fnExactNewServerSpec)

/-- ITS FALSE NEIGHBOUR: 'it returns false'. Refute it at one input. -/
def fnExactNewServerWrong : ChangeSpec := { name := "fnExactNewServer", fn := fun _ => fun
  | [] => { results := [.lit (.bool false)], args := [] }
  | _ => none }
def FnExactNewServerWrongFalsely : Prop := fnExactNewServerRow.holds Try.pinned (OpenSpec.ofChange fnExactNewServerWrong)

/-- 'laws.FnExactSameServers': WHATEVER THE INPUT: true; the input reads as it did. -/
def fnExactSameServersSpec : ChangeSpec := { name := "fnExactSameServers", fn := fun _ => fun
  | [d1, d2] => { results := [.lit (.bool true)], args := [d1, d2] }
  | _ => none }
def fnExactSameServersRow : OpenClaim := { program := "ytnhokdhaobmonaa", sum := "45d45f3ab9375812ea8c9cb17f56b13b0c3a42268efb01ae9961b19287826991", func := "loop.example/g00602/laws.FnExactSameServers", spec := "fnExactSameServers", unfollowed := true, recurses := true, apart := false }
def FnExactSameServersSaid : Prop := fnExactSameServersRow.holds Try.pinned (OpenSpec.ofChange fnExactSameServersSpec)

/-- ITS FALSE NEIGHBOUR: 'it returns false'. Refute it at one input. -/
def fnExactSameServersWrong : ChangeSpec := { name := "fnExactSameServers", fn := fun _ => fun
  | [d1, d2] => { results := [.lit (.bool false)], args := [d1, d2] }
  | _ => none }
def FnExactSameServersWrongFalsely : Prop := fnExactSameServersRow.holds Try.pinned (OpenSpec.ofChange fnExactSameServersWrong)

/-- 'laws.FnExactReplyFault': WHATEVER THE INPUT: true; the input reads as it did. -/
def fnExactReplyFaultSpec : ChangeSpec := { name := "fnExactReplyFault", fn := fun _ => fun
  | [d] => { results := [.lit (.bool true)], args := [d] }
  | _ => none }
def fnExactReplyFaultRow : OpenClaim := { program := "ytnhokdhaobmonaa", sum := "45d45f3ab9375812ea8c9cb17f56b13b0c3a42268efb01ae9961b19287826991", func := "loop.example/g00602/laws.FnExactReplyFault", spec := "fnExactReplyFault", apart := false }
def FnExactReplyFaultSaid : Prop := fnExactReplyFaultRow.holds Try.pinned (OpenSpec.ofChange fnExactReplyFaultSpec)

/-- ITS FALSE NEIGHBOUR: 'it returns false'. Refute it at one input. -/
def fnExactReplyFaultWrong : ChangeSpec := { name := "fnExactReplyFault", fn := fun _ => fun
  | [d] => { results := [.lit (.bool false)], args := [d] }
  | _ => none }
def FnExactReplyFaultWrongFalsely : Prop := fnExactReplyFaultRow.holds Try.pinned (OpenSpec.ofChange fnExactReplyFaultWrong)

/-- 'laws.FnExactFormsOf': WHATEVER THE INPUT: true; the input reads as it did. -/
def fnExactFormsOfSpec : ChangeSpec := { name := "fnExactFormsOf", fn := fun _ => fun
  | [d] => { results := [.lit (.bool true)], args := [d] }
  | _ => none }
def fnExactFormsOfRow : OpenClaim := { program := "ytnhokdhaobmonaa", sum := "45d45f3ab9375812ea8c9cb17f56b13b0c3a42268efb01ae9961b19287826991", func := "loop.example/g00602/laws.FnExactFormsOf", spec := "fnExactFormsOf", unfollowed := true, recurses := true, apart := false }
def FnExactFormsOfSaid : Prop := fnExactFormsOfRow.holds Try.pinned (OpenSpec.ofChange fnExactFormsOfSpec)

/-- ITS FALSE NEIGHBOUR: 'it returns false'. Refute it at one input. -/
def fnExactFormsOfWrong : ChangeSpec := { name := "fnExactFormsOf", fn := fun _ => fun
  | [d] => { results := [.lit (.bool false)], args := [d] }
  | _ => none }
def FnExactFormsOfWrongFalsely : Prop := fnExactFormsOfRow.holds Try.pinned (OpenSpec.ofChange fnExactFormsOfWrong)

/- THE SECOND FORM. 'bulk': how many values and letters a reading holds, each counted each time it is reached (what is shared counts as often as it is met; a slice's spare places count too). A statement '..UptoSaid' is the law's where the arguments, and the package variables that the reading takes, are together of bulk at most 1048576: NARROWER than '..Said'. Prove '..Said' where nothing that the law and all that it calls make is longer than what came in: it says more and counts as full. Else prove '..UptoSaid'. A law counts once. -/
mutual
def uptoBulk {H : Type} : DataW H → Nat
  | .lit (.string bytes) => bytes.length + 1
  | .lit _ => 1
  | .nil => 1
  | .ptr d => uptoBulk d + 1
  | .slice elems spare => uptoBulkAll elems + uptoBulkAll spare + 1
  | .agg parts => uptoBulkAll parts + 1
  | .iface _ d => uptoBulk d + 1
  | .map entries => uptoBulkEntries entries + 1
  | .held _ => 1
def uptoBulkAll {H : Type} : List (DataW H) → Nat
  | [] => 0
  | d :: r => uptoBulk d + uptoBulkAll r
def uptoBulkEntries {H : Type} : List (Lit × DataW H) → Nat
  | [] => 0
  | x :: r => uptoBulkEntry x + uptoBulkEntries r
def uptoBulkEntry {H : Type} : Lit × DataW H → Nat
  | (.string bytes, d) => bytes.length + uptoBulk d + 1
  | (_, d) => uptoBulk d + 1
 end
def uptoSmall : (H : Type) → List (DataW H) → Bool := fun _ ds => decide (uptoBulkAll ds ≤ 1048576)
def OpenSpec.upto (s : _root_.Go.ChangeSpec) : _root_.Go.OpenSpec := { _root_.Go.OpenSpec.ofChange s with cond := some uptoSmall }

/-- 'laws.FnExactOpFault', WHERE WHAT IT READS IS OF BULK AT MOST 1048576: true; the input reads as it did. -/
def fnExactOpFaultUptoRow : OpenClaim := { program := "ytnhokdhaobmonaa", sum := "45d45f3ab9375812ea8c9cb17f56b13b0c3a42268efb01ae9961b19287826991", func := "loop.example/g00602/laws.FnExactOpFault", spec := "fnExactOpFault", unfollowed := true, recurses := true, apart := false, narrowed := true }
def FnExactOpFaultUptoSaid : Prop := fnExactOpFaultUptoRow.holds Try.pinned (OpenSpec.upto fnExactOpFaultSpec)

/-- 'laws.FnExactPackOp', WHERE WHAT IT READS IS OF BULK AT MOST 1048576: true; the input reads as it did. -/
def fnExactPackOpUptoRow : OpenClaim := { program := "ytnhokdhaobmonaa", sum := "45d45f3ab9375812ea8c9cb17f56b13b0c3a42268efb01ae9961b19287826991", func := "loop.example/g00602/laws.FnExactPackOp", spec := "fnExactPackOp", unfollowed := true, recurses := true, apart := false, narrowed := true }
def FnExactPackOpUptoSaid : Prop := fnExactPackOpUptoRow.holds Try.pinned (OpenSpec.upto fnExactPackOpSpec)

/-- 'laws.FnExactReadOp', WHERE WHAT IT READS IS OF BULK AT MOST 1048576: true; the input reads as it did. -/
def fnExactReadOpUptoRow : OpenClaim := { program := "ytnhokdhaobmonaa", sum := "45d45f3ab9375812ea8c9cb17f56b13b0c3a42268efb01ae9961b19287826991", func := "loop.example/g00602/laws.FnExactReadOp", spec := "fnExactReadOp", unfollowed := true, recurses := true, apart := false, narrowed := true }
def FnExactReadOpUptoSaid : Prop := fnExactReadOpUptoRow.holds Try.pinned (OpenSpec.upto fnExactReadOpSpec)

/-- 'laws.FnExactNewServer', WHERE WHAT IT READS IS OF BULK AT MOST 1048576: true; the input reads as it did. -/
def fnExactNewServerUptoRow : OpenClaim := { program := "ytnhokdhaobmonaa", sum := "45d45f3ab9375812ea8c9cb17f56b13b0c3a42268efb01ae9961b19287826991", func := "loop.example/g00602/laws.FnExactNewServer", spec := "fnExactNewServer", apart := false, narrowed := true }
def FnExactNewServerUptoSaid : Prop := fnExactNewServerUptoRow.holds Try.pinned (OpenSpec.upto fnExactNewServerSpec)

/-- 'laws.FnExactSameServers', WHERE WHAT IT READS IS OF BULK AT MOST 1048576: true; the input reads as it did. -/
def fnExactSameServersUptoRow : OpenClaim := { program := "ytnhokdhaobmonaa", sum := "45d45f3ab9375812ea8c9cb17f56b13b0c3a42268efb01ae9961b19287826991", func := "loop.example/g00602/laws.FnExactSameServers", spec := "fnExactSameServers", unfollowed := true, recurses := true, apart := false, narrowed := true }
def FnExactSameServersUptoSaid : Prop := fnExactSameServersUptoRow.holds Try.pinned (OpenSpec.upto fnExactSameServersSpec)

/-- 'laws.FnExactReplyFault', WHERE WHAT IT READS IS OF BULK AT MOST 1048576: true; the input reads as it did. -/
def fnExactReplyFaultUptoRow : OpenClaim := { program := "ytnhokdhaobmonaa", sum := "45d45f3ab9375812ea8c9cb17f56b13b0c3a42268efb01ae9961b19287826991", func := "loop.example/g00602/laws.FnExactReplyFault", spec := "fnExactReplyFault", apart := false, narrowed := true }
def FnExactReplyFaultUptoSaid : Prop := fnExactReplyFaultUptoRow.holds Try.pinned (OpenSpec.upto fnExactReplyFaultSpec)

/-- 'laws.FnExactFormsOf', WHERE WHAT IT READS IS OF BULK AT MOST 1048576: true; the input reads as it did. -/
def fnExactFormsOfUptoRow : OpenClaim := { program := "ytnhokdhaobmonaa", sum := "45d45f3ab9375812ea8c9cb17f56b13b0c3a42268efb01ae9961b19287826991", func := "loop.example/g00602/laws.FnExactFormsOf", spec := "fnExactFormsOf", unfollowed := true, recurses := true, apart := false, narrowed := true }
def FnExactFormsOfUptoSaid : Prop := fnExactFormsOfUptoRow.holds Try.pinned (OpenSpec.upto fnExactFormsOfSpec)

end Rows
end Go.Proofs.Ytnhokdhaobmonaa
