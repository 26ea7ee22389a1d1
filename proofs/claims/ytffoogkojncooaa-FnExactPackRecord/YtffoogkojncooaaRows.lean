/-
  No cell of these rows narrows 'for every input' (looked for: loops, veiled, ifaces, maps, wideKeys, modest, calm, conditions, laid).
  DERIVED. THE GIVEN ROWS OF THIS SEAT. 3 by the template 'for every input the law returns true; each argument reads behind the call as it read before'; 0 by the template 'total and deterministic' (their statements: YtffoogkojncooaaTotals.lean).
  GIVEN WITH THE SEED: the statements are not yours to turn. If you find one false, say at which input.
  Laid BY PROGRAM, IN A SANDBOX (cutbox-rows.mjs): the forced cells as the released guide's own fill.sh prints them over the translation 5484e1452326bd88… (all of the seat's roots in one cut). By AI agents, Wed Nov 11 2026. No macro, syntax, notation, axiom, sorry.
-/
import Derived.Test.YtffoogkojncooaaChecked
import GoSem.Claim
import GoSem.ClaimJoined
import GoSem.ClaimMapViews
import Derived.JoinedTies
import Derived.KernelRfl
namespace Go.Proofs.Ytffoogkojncooaa
/- THE CELL 'sum', in the pinned program and in every row, IS THE sha256 OF THE DUMP (.gsa) THAT YtffoogkojncooaaProg.lean LOADS. Nothing in Lean hashes anything: it is a label: what it is worth is what the hold of that sum in a sandbox is worth. -/
noncomputable def Try.pinned : Pinned := { name := "ytffoogkojncooaa", sum := "5484e1452326bd882b6afe5768cad06b1bdcac2eaea362800b68955e6be5b65c", checked := Try.checked }
namespace Rows
def none {H : Type} : Left H := { results := [], args := [] }

/-- 'laws.FnExactPackRecord': WHATEVER THE INPUT: true; the input reads as it did. -/
def fnExactPackRecordSpec : ChangeSpec := { name := "fnExactPackRecord", fn := fun _ => fun
  | [d] => { results := [.lit (.bool true)], args := [d] }
  | _ => none }
def fnExactPackRecordRow : OpenClaim := { program := "ytffoogkojncooaa", sum := "5484e1452326bd882b6afe5768cad06b1bdcac2eaea362800b68955e6be5b65c", func := "loop.example/g00602/laws.FnExactPackRecord", spec := "fnExactPackRecord", apart := false }
def FnExactPackRecordSaid : Prop := fnExactPackRecordRow.holds Try.pinned (OpenSpec.ofChange fnExactPackRecordSpec)

/-- ITS FALSE NEIGHBOUR: 'it returns false'. Refute it at one input. -/
def fnExactPackRecordWrong : ChangeSpec := { name := "fnExactPackRecord", fn := fun _ => fun
  | [d] => { results := [.lit (.bool false)], args := [d] }
  | _ => none }
def FnExactPackRecordWrongFalsely : Prop := fnExactPackRecordRow.holds Try.pinned (OpenSpec.ofChange fnExactPackRecordWrong)

/-- 'laws.FnExactReadRecord': WHATEVER THE INPUT: true; the input reads as it did. -/
def fnExactReadRecordSpec : ChangeSpec := { name := "fnExactReadRecord", fn := fun _ => fun
  | [d] => { results := [.lit (.bool true)], args := [d] }
  | _ => none }
def fnExactReadRecordRow : OpenClaim := { program := "ytffoogkojncooaa", sum := "5484e1452326bd882b6afe5768cad06b1bdcac2eaea362800b68955e6be5b65c", func := "loop.example/g00602/laws.FnExactReadRecord", spec := "fnExactReadRecord", unfollowed := true, recurses := true, apart := false }
def FnExactReadRecordSaid : Prop := fnExactReadRecordRow.holds Try.pinned (OpenSpec.ofChange fnExactReadRecordSpec)

/-- ITS FALSE NEIGHBOUR: 'it returns false'. Refute it at one input. -/
def fnExactReadRecordWrong : ChangeSpec := { name := "fnExactReadRecord", fn := fun _ => fun
  | [d] => { results := [.lit (.bool false)], args := [d] }
  | _ => none }
def FnExactReadRecordWrongFalsely : Prop := fnExactReadRecordRow.holds Try.pinned (OpenSpec.ofChange fnExactReadRecordWrong)

/-- 'laws.FnExactRecordSum': WHATEVER THE INPUT: true; the input reads as it did. -/
def fnExactRecordSumSpec : ChangeSpec := { name := "fnExactRecordSum", fn := fun _ => fun
  | [d] => { results := [.lit (.bool true)], args := [d] }
  | _ => none }
def fnExactRecordSumRow : OpenClaim := { program := "ytffoogkojncooaa", sum := "5484e1452326bd882b6afe5768cad06b1bdcac2eaea362800b68955e6be5b65c", func := "loop.example/g00602/laws.FnExactRecordSum", spec := "fnExactRecordSum", apart := false }
def FnExactRecordSumSaid : Prop := fnExactRecordSumRow.holds Try.pinned (OpenSpec.ofChange fnExactRecordSumSpec)

/-- ITS FALSE NEIGHBOUR: 'it returns false'. Refute it at one input. -/
def fnExactRecordSumWrong : ChangeSpec := { name := "fnExactRecordSum", fn := fun _ => fun
  | [d] => { results := [.lit (.bool false)], args := [d] }
  | _ => none }
def FnExactRecordSumWrongFalsely : Prop := fnExactRecordSumRow.holds Try.pinned (OpenSpec.ofChange fnExactRecordSumWrong)

/- THE SECOND FORM. 'bulk': how many values and letters a reading holds, each counted each time it is reached (what is shared counts as often as it is met; a slice's spare places count too). A statement '..UptoSaid' is the law's where the arguments, and the package variables that the reading takes, are together of bulk at most 1048576: NARROWER than '..Said'. Prove '..Said' where nothing that the law and all that it calls make is longer than what came in: it says more and counts as full. Else prove '..UptoSaid'. A law counts once. -/
mutual
def uptoBulk {H : Type} : DataW H → Nat
  | .lit (.string bytes) => bytes.length + 1
  | .lit _ => 1
  | .nil => 1
  | .ptr d => uptoBulk d + 1
  | .slice elems spare => uptoBulkAll elems + uptoBulkAll spare + 1
  | .agg parts => uptoBulkAll parts + 1
  | .iface _ d => uptoBulk d + 1
  | .map entries => uptoBulkEntries entries + 1
  | .held _ => 1
def uptoBulkAll {H : Type} : List (DataW H) → Nat
  | [] => 0
  | d :: r => uptoBulk d + uptoBulkAll r
def uptoBulkEntries {H : Type} : List (Lit × DataW H) → Nat
  | [] => 0
  | x :: r => uptoBulkEntry x + uptoBulkEntries r
def uptoBulkEntry {H : Type} : Lit × DataW H → Nat
  | (.string bytes, d) => bytes.length + uptoBulk d + 1
  | (_, d) => uptoBulk d + 1
 end
def uptoSmall : (H : Type) → List (DataW H) → Bool := fun _ ds => decide (uptoBulkAll ds ≤ 1048576)
def OpenSpec.upto (s : _root_.Go.ChangeSpec) : _root_.Go.OpenSpec := { _root_.Go.OpenSpec.ofChange s with cond := some uptoSmall }

/-- 'laws.FnExactPackRecord', WHERE WHAT IT READS IS OF BULK AT MOST 1048576: true; the input reads as it did. -/
def fnExactPackRecordUptoRow : OpenClaim := { program := "ytffoogkojncooaa", sum := "5484e1452326bd882b6afe5768cad06b1bdcac2eaea362800b68955e6be5b65c", func := "loop.example/g00602/laws.FnExactPackRecord", spec := "fnExactPackRecord", apart := false, narrowed := true }
def FnExactPackRecordUptoSaid : Prop := fnExactPackRecordUptoRow.holds Try.pinned (OpenSpec.upto fnExactPackRecordSpec)

/-- 'laws.FnExactReadRecord', WHERE WHAT IT READS IS OF BULK AT MOST 1048576: true; the input reads as it did. -/
def fnExactReadRecordUptoRow : OpenClaim := { program := "ytffoogkojncooaa", sum := "5484e1452326bd882b6afe5768cad06b1bdcac2eaea362800b68955e6be5b65c", func := "loop.example/g00602/laws.FnExactReadRecord", spec := "fnExactReadRecord", unfollowed := true, recurses := true, apart := false, narrowed := true }
def FnExactReadRecordUptoSaid : Prop := fnExactReadRecordUptoRow.holds Try.pinned (OpenSpec.upto fnExactReadRecordSpec)

/-- 'laws.FnExactRecordSum', WHERE WHAT IT READS IS OF BULK AT MOST 1048576: true; the input reads as it did. -/
def fnExactRecordSumUptoRow : OpenClaim := { program := "ytffoogkojncooaa", sum := "5484e1452326bd882b6afe5768cad06b1bdcac2eaea362800b68955e6be5b65c", func := "loop.example/g00602/laws.FnExactRecordSum", spec := "fnExactRecordSum", apart := false, narrowed := true }
def FnExactRecordSumUptoSaid : Prop := fnExactRecordSumUptoRow.holds Try.pinned (OpenSpec.upto fnExactRecordSumSpec)

end Rows
end Go.Proofs.Ytffoogkojncooaa
