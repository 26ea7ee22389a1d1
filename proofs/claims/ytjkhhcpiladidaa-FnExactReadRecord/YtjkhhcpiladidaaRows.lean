/-
  No cell of these rows narrows 'for every input' (looked for: loops, veiled, ifaces, maps, wideKeys, modest, calm, conditions, laid).
  DERIVED. THE GIVEN ROWS OF THIS SEAT. 5 by the template 'for every input the law returns true; each argument reads behind the call as it read before'; 0 by the template 'total and deterministic' (their statements: YtjkhhcpiladidaaTotals.lean).
  GIVEN WITH THE SEED: the statements are not yours to turn. If you find one false, say at which input.
  Laid BY PROGRAM, IN A SANDBOX (cutbox-rows.mjs): the forced cells as the released guide's own fill.sh prints them over the translation 198f34094fc6bb8a… (all of the seat's roots in one cut). By AI agents, Wed Nov 11 2026. No macro, syntax, notation, axiom, sorry.
-/
import Derived.Test.YtjkhhcpiladidaaChecked
import GoSem.Claim
import GoSem.ClaimJoined
import GoSem.ClaimMapViews
import Derived.JoinedTies
import Derived.KernelRfl
namespace Go.Proofs.Ytjkhhcpiladidaa
/- THE CELL 'sum', in the pinned program and in every row, IS THE sha256 OF THE DUMP (.gsa) THAT YtjkhhcpiladidaaProg.lean LOADS. Nothing in Lean hashes anything: it is a label: what it is worth is what the hold of that sum in a sandbox is worth. -/
noncomputable def Try.pinned : Pinned := { name := "ytjkhhcpiladidaa", sum := "198f34094fc6bb8acbfbff645b46b5caf9064b10b2ae942a93c88e9c360fd9d9", checked := Try.checked }
namespace Rows
def none {H : Type} : Left H := { results := [], args := [] }

/-- 'laws.FnClashes': WHATEVER THE INPUT: true; the input reads as it did. -/
def fnClashesSpec : ChangeSpec := { name := "fnClashes", fn := fun _ => fun
  | [d] => { results := [.lit (.bool true)], args := [d] }
  | _ => none }
def fnClashesRow : OpenClaim := { program := "ytjkhhcpiladidaa", sum := "198f34094fc6bb8acbfbff645b46b5caf9064b10b2ae942a93c88e9c360fd9d9", func := "loop.example/g00602/laws.FnClashes", spec := "fnClashes", apart := false }
def FnClashesSaid : Prop := fnClashesRow.holds Try.pinned (OpenSpec.ofChange fnClashesSpec)

/-- ITS FALSE NEIGHBOUR: 'it returns false'. Refute it at one input. -/
def fnClashesWrong : ChangeSpec := { name := "fnClashes", fn := fun _ => fun
  | [d] => { results := [.lit (.bool false)], args := [d] }
  | _ => none }
def FnClashesWrongFalsely : Prop := fnClashesRow.holds Try.pinned (OpenSpec.ofChange fnClashesWrong)

/-- 'laws.FnExactRecordFault': WHATEVER THE INPUT: true; the input reads as it did. -/
def fnExactRecordFaultSpec : ChangeSpec := { name := "fnExactRecordFault", fn := fun _ => fun
  | [d] => { results := [.lit (.bool true)], args := [d] }
  | _ => none }
def fnExactRecordFaultRow : OpenClaim := { program := "ytjkhhcpiladidaa", sum := "198f34094fc6bb8acbfbff645b46b5caf9064b10b2ae942a93c88e9c360fd9d9", func := "loop.example/g00602/laws.FnExactRecordFault", spec := "fnExactRecordFault", apart := false }
def FnExactRecordFaultSaid : Prop := fnExactRecordFaultRow.holds Try.pinned (OpenSpec.ofChange fnExactRecordFaultSpec)

/-- ITS FALSE NEIGHBOUR: 'it returns false'. Refute it at one input. -/
def fnExactRecordFaultWrong : ChangeSpec := { name := "fnExactRecordFault", fn := fun _ => fun
  | [d] => { results := [.lit (.bool false)], args := [d] }
  | _ => none }
def FnExactRecordFaultWrongFalsely : Prop := fnExactRecordFaultRow.holds Try.pinned (OpenSpec.ofChange fnExactRecordFaultWrong)

/-- 'laws.FnExactPackRecord': WHATEVER THE INPUT: true; the input reads as it did. -/
def fnExactPackRecordSpec : ChangeSpec := { name := "fnExactPackRecord", fn := fun _ => fun
  | [d] => { results := [.lit (.bool true)], args := [d] }
  | _ => none }
def fnExactPackRecordRow : OpenClaim := { program := "ytjkhhcpiladidaa", sum := "198f34094fc6bb8acbfbff645b46b5caf9064b10b2ae942a93c88e9c360fd9d9", func := "loop.example/g00602/laws.FnExactPackRecord", spec := "fnExactPackRecord", apart := false }
def FnExactPackRecordSaid : Prop := fnExactPackRecordRow.holds Try.pinned (OpenSpec.ofChange fnExactPackRecordSpec)

/-- ITS FALSE NEIGHBOUR: 'it returns false'. Refute it at one input. -/
def fnExactPackRecordWrong : ChangeSpec := { name := "fnExactPackRecord", fn := fun _ => fun
  | [d] => { results := [.lit (.bool false)], args := [d] }
  | _ => none }
def FnExactPackRecordWrongFalsely : Prop := fnExactPackRecordRow.holds Try.pinned (OpenSpec.ofChange fnExactPackRecordWrong)

/-- 'laws.FnExactReadRecord': WHATEVER THE INPUT: true; the input reads as it did. -/
def fnExactReadRecordSpec : ChangeSpec := { name := "fnExactReadRecord", fn := fun _ => fun
  | [d] => { results := [.lit (.bool true)], args := [d] }
  | _ => none }
def fnExactReadRecordRow : OpenClaim := { program := "ytjkhhcpiladidaa", sum := "198f34094fc6bb8acbfbff645b46b5caf9064b10b2ae942a93c88e9c360fd9d9", func := "loop.example/g00602/laws.FnExactReadRecord", spec := "fnExactReadRecord", unfollowed := true, recurses := true, apart := false }
def FnExactReadRecordSaid : Prop := fnExactReadRecordRow.holds Try.pinned (OpenSpec.ofChange fnExactReadRecordSpec)

/-- ITS FALSE NEIGHBOUR: 'it returns false'. Refute it at one input. -/
def fnExactReadRecordWrong : ChangeSpec := { name := "fnExactReadRecord", fn := fun _ => fun
  | [d] => { results := [.lit (.bool false)], args := [d] }
  | _ => none }
def FnExactReadRecordWrongFalsely : Prop := fnExactReadRecordRow.holds Try.pinned (OpenSpec.ofChange fnExactReadRecordWrong)

/-- 'laws.FnExactRecordSum': WHATEVER THE INPUT: true; the input reads as it did. -/
def fnExactRecordSumSpec : ChangeSpec := { name := "fnExactRecordSum", fn := fun _ => fun
  | [d] => { results := [.lit (.bool true)], args := [d] }
  | _ => none }
def fnExactRecordSumRow : OpenClaim := { program := "ytjkhhcpiladidaa", sum := "198f34094fc6bb8acbfbff645b46b5caf9064b10b2ae942a93c88e9c360fd9d9", func := "loop.example/g00602/laws.FnExactRecordSum", spec := "fnExactRecordSum", apart := false }
def FnExactRecordSumSaid : Prop := fnExactRecordSumRow.holds Try.pinned (OpenSpec.ofChange fnExactRecordSumSpec)

/-- ITS FALSE NEIGHBOUR: 'it returns false'. Refute it at one input. -/
def fnExactRecordSumWrong : ChangeSpec := { name := "fnExactRecordSum", fn := fun _ => fun
  | [d] => { results := [.lit (.bool false)], args := [d] }
  | _ => none }
def FnExactRecordSumWrongFalsely : Prop := fnExactRecordSumRow.holds Try.pinned (OpenSpec.ofChange fnExactRecordSumWrong)

/- THE SECOND FORM. 'bulk': how many values and letters a reading holds, each counted each time it is reached (what is shared counts as often as it is met; a slice's spare places count too). A statement '..UptoSaid' is the law's where the arguments, and the package variables that the reading takes, are together of bulk at most 1048576: NARROWER than '..Said'. Prove '..Said' where nothing that the law and all that it calls make is longer than what came in: it says more and counts as full. Else prove '..UptoSaid'. A law counts once. -/
mutual
def uptoBulk {H : Type} : DataW H → Nat
  | .lit (.string bytes) => bytes.length + 1
  | .lit _ => 1
  | .nil => 1
  | .ptr d => uptoBulk d + 1
  | .slice elems spare => uptoBulkAll elems + uptoBulkAll spare + 1
  | .agg parts => uptoBulkAll parts + 1
  | .iface _ d => uptoBulk d + 1
  | .map entries => uptoBulkEntries entries + 1
  | .held _ => 1
def uptoBulkAll {H : Type} : List (DataW H) → Nat
  | [] => 0
  | d :: r => uptoBulk d + uptoBulkAll r
def uptoBulkEntries {H : Type} : List (Lit × DataW H) → Nat
  | [] => 0
  | x :: r => uptoBulkEntry x + uptoBulkEntries r
def uptoBulkEntry {H : Type} : Lit × DataW H → Nat
  | (.string bytes, d) => bytes.length + uptoBulk d + 1
  | (_, d) => uptoBulk d + 1
 end
def uptoSmall : (H : Type) → List (DataW H) → Bool := fun _ ds => decide (uptoBulkAll ds ≤ 1048576)
def OpenSpec.upto (s : _root_.Go.ChangeSpec) : _root_.Go.OpenSpec := { _root_.Go.OpenSpec.ofChange s with cond := some uptoSmall }

/-- 'laws.FnClashes', WHERE WHAT IT READS IS OF BULK AT MOST 1048576: true; the input reads as it did. -/
def fnClashesUptoRow : OpenClaim := { program := "ytjkhhcpiladidaa", sum := "198f34094fc6bb8acbfbff645b46b5caf9064b10b2ae942a93c88e9c360fd9d9", func := "loop.example/g00602/laws.FnClashes", spec := "fnClashes", apart := false, narrowed := true }
def FnClashesUptoSaid : Prop := fnClashesUptoRow.holds Try.pinned (OpenSpec.upto fnClashesSpec)

/-- 'laws.FnExactRecordFault', WHERE WHAT IT READS IS OF BULK AT MOST 1048576: true; the input reads as it did. -/
def fnExactRecordFaultUptoRow : OpenClaim := { program := "ytjkhhcpiladidaa", sum := "198f34094fc6bb8acbfbff645b46b5caf9064b10b2ae942a93c88e9c360fd9d9", func := "loop.example/g00602/laws.FnExactRecordFault", spec := "fnExactRecordFault", apart := false, narrowed := true }
def FnExactRecordFaultUptoSaid : Prop := fnExactRecordFaultUptoRow.holds Try.pinned (OpenSpec.upto fnExactRecordFaultSpec)

/-- 'laws.FnExactPackRecord', WHERE WHAT IT READS IS OF BULK AT MOST 1048576: true; the input reads as it did. -/
def fnExactPackRecordUptoRow : OpenClaim := { program := "ytjkhhcpiladidaa", sum := "198f34094fc6bb8acbfbff645b46b5caf9064b10b2ae942a93c88e9c360fd9d9", func := "loop.example/g00602/laws.FnExactPackRecord", spec := "fnExactPackRecord", apart := false, narrowed := true }
def FnExactPackRecordUptoSaid : Prop := fnExactPackRecordUptoRow.holds Try.pinned (OpenSpec.upto fnExactPackRecordSpec)

/-- 'laws.FnExactReadRecord', WHERE WHAT IT READS IS OF BULK AT MOST 1048576: true; the input reads as it did. -/
def fnExactReadRecordUptoRow : OpenClaim := { program := "ytjkhhcpiladidaa", sum := "198f34094fc6bb8acbfbff645b46b5caf9064b10b2ae942a93c88e9c360fd9d9", func := "loop.example/g00602/laws.FnExactReadRecord", spec := "fnExactReadRecord", unfollowed := true, recurses := true, apart := false, narrowed := true }
def FnExactReadRecordUptoSaid : Prop := fnExactReadRecordUptoRow.holds Try.pinned (OpenSpec.upto fnExactReadRecordSpec)

/-- 'laws.FnExactRecordSum', WHERE WHAT IT READS IS OF BULK AT MOST 1048576: true; the input reads as it did. -/
def fnExactRecordSumUptoRow : OpenClaim := { program := "ytjkhhcpiladidaa", sum := "198f34094fc6bb8acbfbff645b46b5caf9064b10b2ae942a93c88e9c360fd9d9", func := "loop.example/g00602/laws.FnExactRecordSum", spec := "fnExactRecordSum", apart := false, narrowed := true }
def FnExactRecordSumUptoSaid : Prop := fnExactRecordSumUptoRow.holds Try.pinned (OpenSpec.upto fnExactRecordSumSpec)

end Rows
end Go.Proofs.Ytjkhhcpiladidaa
