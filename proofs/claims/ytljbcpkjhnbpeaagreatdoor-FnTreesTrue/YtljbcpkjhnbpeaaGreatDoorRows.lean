/-
  NARROWER THAN 'FOR EVERY INPUT', by the rows' own cells (each row's printed sentence says how): FnNewTrue: laid · FnBothTrue: laid · FnTreesTrue: laid · FnExactNewClash: laid · FnExactBothClash: laid.
  DERIVED. THE GIVEN ROWS OF THIS SEAT. 5 by the template 'for every input the law returns true; each argument reads behind the call as it read before'; 0 by the template 'total and deterministic' (their statements: YtljbcpkjhnbpeaaGreatDoorTotals.lean).
  GIVEN WITH THE SEED: the statements are not yours to turn. If you find one false, say at which input.
  Laid BY PROGRAM, IN A SANDBOX (cutbox-rows.mjs): the forced cells as the released guide's own fill.sh prints them over the translation 1dd803115ef4e5bf… (all of the seat's roots in one cut). By AI agents, Wed Nov 11 2026. No macro, syntax, notation, axiom, sorry.
-/
import Derived.Test.YtljbcpkjhnbpeaaGreatDoorChecked
import GoSem.Claim
import GoSem.ClaimJoined
import GoSem.ClaimMapViews
import Derived.JoinedTies
import Derived.KernelRfl
namespace Go.Proofs.YtljbcpkjhnbpeaaGreatDoor
/- THE CELL 'sum', in the pinned program and in every row, IS THE sha256 OF THE DUMP (.gsa) THAT YtljbcpkjhnbpeaaGreatDoorProg.lean LOADS. Nothing in Lean hashes anything: it is a label: what it is worth is what the hold of that sum in a sandbox is worth. -/
noncomputable def Tryz.pinned : Pinned := { name := "ytljbcpkjhnbpeaagreatdoor", sum := "1dd803115ef4e5bfcbf7f1f896024a26789a2daf345676fdbcda1bd679d4c7ec", checked := Tryz.checked }
namespace Rows
def none {H : Type} : Left H := { results := [], args := [] }

/- WHAT THE LISTED PACKAGE-LEVEL VARIABLES READ AS WHEN THE CALL BEGINS. Each datum BY PROGRAM (the guide's laid-datum.mjs) off the statement by which the dump's own 'gosem.cut.vars' lays the variable. In a bare row this is a premise. The card (YtljbcpkjhnbpeaaGreatDoorCards.lean) ties it to the program's text. -/
def laid_errors_errorType {H : Type} : DataW H := .iface "internal/reflectlite.rtype" (.agg [.ptr (.lit (.string [101, 114, 114, 111, 114]))])

/-- 'laws.FnNewTrue': WHATEVER THE INPUT: true; the input reads as it did. -/
def fnNewTrueSpec : ChangeSpec := { name := "fnNewTrue", fn := fun _ => fun
  | [d] => { results := [.lit (.bool true)], args := [d] }
  | _ => none }
def fnNewTrueRow : OpenClaim := { program := "ytljbcpkjhnbpeaagreatdoor", sum := "1dd803115ef4e5bfcbf7f1f896024a26789a2daf345676fdbcda1bd679d4c7ec", func := "loop.example/g00602/laws.FnNewTrue", spec := "fnNewTrue", inPlace := ["internal/reflectlite.ValueOf", "(internal/reflectlite.Value).Type", "(internal/reflectlite.Value).IsNil", "internal/reflectlite.TypeOf", "(internal/reflectlite.Value).Elem", "(internal/reflectlite.Value).Set"], unfollowed := true, recurses := true, named := ["errors.errorType"], apart := false, laid := [("errors.errorType", laid_errors_errorType)] }
def FnNewTrueSaid : Prop := fnNewTrueRow.holds Tryz.pinned (OpenSpec.ofChange fnNewTrueSpec)

/-- ITS FALSE NEIGHBOUR: 'it returns false'. Refute it at one input. -/
def fnNewTrueWrong : ChangeSpec := { name := "fnNewTrue", fn := fun _ => fun
  | [d] => { results := [.lit (.bool false)], args := [d] }
  | _ => none }
def FnNewTrueWrongFalsely : Prop := fnNewTrueRow.holds Tryz.pinned (OpenSpec.ofChange fnNewTrueWrong)

/-- 'laws.FnBothTrue': WHATEVER THE INPUT: true; the input reads as it did. -/
def fnBothTrueSpec : ChangeSpec := { name := "fnBothTrue", fn := fun _ => fun
  | [d] => { results := [.lit (.bool true)], args := [d] }
  | _ => none }
def fnBothTrueRow : OpenClaim := { program := "ytljbcpkjhnbpeaagreatdoor", sum := "1dd803115ef4e5bfcbf7f1f896024a26789a2daf345676fdbcda1bd679d4c7ec", func := "loop.example/g00602/laws.FnBothTrue", spec := "fnBothTrue", inPlace := ["internal/reflectlite.ValueOf", "(internal/reflectlite.Value).Type", "(internal/reflectlite.Value).IsNil", "internal/reflectlite.TypeOf", "(internal/reflectlite.Value).Elem", "(internal/reflectlite.Value).Set"], unfollowed := true, recurses := true, named := ["errors.errorType"], apart := false, laid := [("errors.errorType", laid_errors_errorType)] }
def FnBothTrueSaid : Prop := fnBothTrueRow.holds Tryz.pinned (OpenSpec.ofChange fnBothTrueSpec)

/-- ITS FALSE NEIGHBOUR: 'it returns false'. Refute it at one input. -/
def fnBothTrueWrong : ChangeSpec := { name := "fnBothTrue", fn := fun _ => fun
  | [d] => { results := [.lit (.bool false)], args := [d] }
  | _ => none }
def FnBothTrueWrongFalsely : Prop := fnBothTrueRow.holds Tryz.pinned (OpenSpec.ofChange fnBothTrueWrong)

/-- 'laws.FnTreesTrue': WHATEVER THE INPUT: true; the input reads as it did. -/
def fnTreesTrueSpec : ChangeSpec := { name := "fnTreesTrue", fn := fun _ => fun
  | [d] => { results := [.lit (.bool true)], args := [d] }
  | _ => none }
def fnTreesTrueRow : OpenClaim := { program := "ytljbcpkjhnbpeaagreatdoor", sum := "1dd803115ef4e5bfcbf7f1f896024a26789a2daf345676fdbcda1bd679d4c7ec", func := "loop.example/g00602/laws.FnTreesTrue", spec := "fnTreesTrue", inPlace := ["internal/reflectlite.ValueOf", "(internal/reflectlite.Value).Type", "(internal/reflectlite.Value).IsNil", "internal/reflectlite.TypeOf", "(internal/reflectlite.Value).Elem", "(internal/reflectlite.Value).Set"], unfollowed := true, recurses := true, named := ["errors.errorType"], apart := false, laid := [("errors.errorType", laid_errors_errorType)] }
def FnTreesTrueSaid : Prop := fnTreesTrueRow.holds Tryz.pinned (OpenSpec.ofChange fnTreesTrueSpec)

/-- ITS FALSE NEIGHBOUR: 'it returns false'. Refute it at one input. -/
def fnTreesTrueWrong : ChangeSpec := { name := "fnTreesTrue", fn := fun _ => fun
  | [d] => { results := [.lit (.bool false)], args := [d] }
  | _ => none }
def FnTreesTrueWrongFalsely : Prop := fnTreesTrueRow.holds Tryz.pinned (OpenSpec.ofChange fnTreesTrueWrong)

/-- 'laws.FnExactNewClash': WHATEVER THE INPUT: true; the input reads as it did. -/
def fnExactNewClashSpec : ChangeSpec := { name := "fnExactNewClash", fn := fun _ => fun
  | [d1, d2, d3, d4, d5] => { results := [.lit (.bool true)], args := [d1, d2, d3, d4, d5] }
  | _ => none }
def fnExactNewClashRow : OpenClaim := { program := "ytljbcpkjhnbpeaagreatdoor", sum := "1dd803115ef4e5bfcbf7f1f896024a26789a2daf345676fdbcda1bd679d4c7ec", func := "loop.example/g00602/laws.FnExactNewClash", spec := "fnExactNewClash", inPlace := ["internal/reflectlite.ValueOf", "(internal/reflectlite.Value).Type", "(internal/reflectlite.Value).IsNil", "internal/reflectlite.TypeOf", "(internal/reflectlite.Value).Elem", "(internal/reflectlite.Value).Set"], unfollowed := true, recurses := true, named := ["errors.errorType"], apart := false, laid := [("errors.errorType", laid_errors_errorType)] }
def FnExactNewClashSaid : Prop := fnExactNewClashRow.holds Tryz.pinned (OpenSpec.ofChange fnExactNewClashSpec)

/-- ITS FALSE NEIGHBOUR: 'it returns false'. Refute it at one input. -/
def fnExactNewClashWrong : ChangeSpec := { name := "fnExactNewClash", fn := fun _ => fun
  | [d1, d2, d3, d4, d5] => { results := [.lit (.bool false)], args := [d1, d2, d3, d4, d5] }
  | _ => none }
def FnExactNewClashWrongFalsely : Prop := fnExactNewClashRow.holds Tryz.pinned (OpenSpec.ofChange fnExactNewClashWrong)

/-- 'laws.FnExactBothClash': WHATEVER THE INPUT: true; the input reads as it did. -/
def fnExactBothClashSpec : ChangeSpec := { name := "fnExactBothClash", fn := fun _ => fun
  | [d1, d2, d3, d4] => { results := [.lit (.bool true)], args := [d1, d2, d3, d4] }
  | _ => none }
def fnExactBothClashRow : OpenClaim := { program := "ytljbcpkjhnbpeaagreatdoor", sum := "1dd803115ef4e5bfcbf7f1f896024a26789a2daf345676fdbcda1bd679d4c7ec", func := "loop.example/g00602/laws.FnExactBothClash", spec := "fnExactBothClash", inPlace := ["internal/reflectlite.ValueOf", "(internal/reflectlite.Value).Type", "(internal/reflectlite.Value).IsNil", "internal/reflectlite.TypeOf", "(internal/reflectlite.Value).Elem", "(internal/reflectlite.Value).Set"], unfollowed := true, recurses := true, named := ["errors.errorType"], apart := false, laid := [("errors.errorType", laid_errors_errorType)] }
def FnExactBothClashSaid : Prop := fnExactBothClashRow.holds Tryz.pinned (OpenSpec.ofChange fnExactBothClashSpec)

/-- ITS FALSE NEIGHBOUR: 'it returns false'. Refute it at one input. -/
def fnExactBothClashWrong : ChangeSpec := { name := "fnExactBothClash", fn := fun _ => fun
  | [d1, d2, d3, d4] => { results := [.lit (.bool false)], args := [d1, d2, d3, d4] }
  | _ => none }
def FnExactBothClashWrongFalsely : Prop := fnExactBothClashRow.holds Tryz.pinned (OpenSpec.ofChange fnExactBothClashWrong)

/- THE SECOND FORM. 'bulk': how many values and letters a reading holds, each counted each time it is reached (what is shared counts as often as it is met; a slice's spare places count too). A statement '..UptoSaid' is the law's where the arguments, and the package variables that the reading takes, are together of bulk at most 1048576: NARROWER than '..Said'. Prove '..Said' where nothing that the law and all that it calls make is longer than what came in: it says more and counts as full. Else prove '..UptoSaid'. A law counts once. -/
mutual
def uptoBulk {H : Type} : DataW H → Nat
  | .lit (.string bytes) => bytes.length + 1
  | .lit _ => 1
  | .nil => 1
  | .ptr d => uptoBulk d + 1
  | .slice elems spare => uptoBulkAll elems + uptoBulkAll spare + 1
  | .agg parts => uptoBulkAll parts + 1
  | .iface _ d => uptoBulk d + 1
  | .map entries => uptoBulkEntries entries + 1
  | .held _ => 1
def uptoBulkAll {H : Type} : List (DataW H) → Nat
  | [] => 0
  | d :: r => uptoBulk d + uptoBulkAll r
def uptoBulkEntries {H : Type} : List (Lit × DataW H) → Nat
  | [] => 0
  | x :: r => uptoBulkEntry x + uptoBulkEntries r
def uptoBulkEntry {H : Type} : Lit × DataW H → Nat
  | (.string bytes, d) => bytes.length + uptoBulk d + 1
  | (_, d) => uptoBulk d + 1
 end
def uptoSmall : (H : Type) → List (DataW H) → Bool := fun _ ds => decide (uptoBulkAll ds ≤ 1048576)
def OpenSpec.upto (s : _root_.Go.ChangeSpec) : _root_.Go.OpenSpec := { _root_.Go.OpenSpec.ofChange s with cond := some uptoSmall }

/-- 'laws.FnNewTrue', WHERE WHAT IT READS IS OF BULK AT MOST 1048576: true; the input reads as it did. -/
def fnNewTrueUptoRow : OpenClaim := { program := "ytljbcpkjhnbpeaagreatdoor", sum := "1dd803115ef4e5bfcbf7f1f896024a26789a2daf345676fdbcda1bd679d4c7ec", func := "loop.example/g00602/laws.FnNewTrue", spec := "fnNewTrue", inPlace := ["internal/reflectlite.ValueOf", "(internal/reflectlite.Value).Type", "(internal/reflectlite.Value).IsNil", "internal/reflectlite.TypeOf", "(internal/reflectlite.Value).Elem", "(internal/reflectlite.Value).Set"], unfollowed := true, recurses := true, named := ["errors.errorType"], apart := false, laid := [("errors.errorType", laid_errors_errorType)], narrowed := true }
def FnNewTrueUptoSaid : Prop := fnNewTrueUptoRow.holds Tryz.pinned (OpenSpec.upto fnNewTrueSpec)

/-- 'laws.FnBothTrue', WHERE WHAT IT READS IS OF BULK AT MOST 1048576: true; the input reads as it did. -/
def fnBothTrueUptoRow : OpenClaim := { program := "ytljbcpkjhnbpeaagreatdoor", sum := "1dd803115ef4e5bfcbf7f1f896024a26789a2daf345676fdbcda1bd679d4c7ec", func := "loop.example/g00602/laws.FnBothTrue", spec := "fnBothTrue", inPlace := ["internal/reflectlite.ValueOf", "(internal/reflectlite.Value).Type", "(internal/reflectlite.Value).IsNil", "internal/reflectlite.TypeOf", "(internal/reflectlite.Value).Elem", "(internal/reflectlite.Value).Set"], unfollowed := true, recurses := true, named := ["errors.errorType"], apart := false, laid := [("errors.errorType", laid_errors_errorType)], narrowed := true }
def FnBothTrueUptoSaid : Prop := fnBothTrueUptoRow.holds Tryz.pinned (OpenSpec.upto fnBothTrueSpec)

/-- 'laws.FnTreesTrue', WHERE WHAT IT READS IS OF BULK AT MOST 1048576: true; the input reads as it did. -/
def fnTreesTrueUptoRow : OpenClaim := { program := "ytljbcpkjhnbpeaagreatdoor", sum := "1dd803115ef4e5bfcbf7f1f896024a26789a2daf345676fdbcda1bd679d4c7ec", func := "loop.example/g00602/laws.FnTreesTrue", spec := "fnTreesTrue", inPlace := ["internal/reflectlite.ValueOf", "(internal/reflectlite.Value).Type", "(internal/reflectlite.Value).IsNil", "internal/reflectlite.TypeOf", "(internal/reflectlite.Value).Elem", "(internal/reflectlite.Value).Set"], unfollowed := true, recurses := true, named := ["errors.errorType"], apart := false, laid := [("errors.errorType", laid_errors_errorType)], narrowed := true }
def FnTreesTrueUptoSaid : Prop := fnTreesTrueUptoRow.holds Tryz.pinned (OpenSpec.upto fnTreesTrueSpec)

/-- 'laws.FnExactNewClash', WHERE WHAT IT READS IS OF BULK AT MOST 1048576: true; the input reads as it did. -/
def fnExactNewClashUptoRow : OpenClaim := { program := "ytljbcpkjhnbpeaagreatdoor", sum := "1dd803115ef4e5bfcbf7f1f896024a26789a2daf345676fdbcda1bd679d4c7ec", func := "loop.example/g00602/laws.FnExactNewClash", spec := "fnExactNewClash", inPlace := ["internal/reflectlite.ValueOf", "(internal/reflectlite.Value).Type", "(internal/reflectlite.Value).IsNil", "internal/reflectlite.TypeOf", "(internal/reflectlite.Value).Elem", "(internal/reflectlite.Value).Set"], unfollowed := true, recurses := true, named := ["errors.errorType"], apart := false, laid := [("errors.errorType", laid_errors_errorType)], narrowed := true }
def FnExactNewClashUptoSaid : Prop := fnExactNewClashUptoRow.holds Tryz.pinned (OpenSpec.upto fnExactNewClashSpec)

/-- 'laws.FnExactBothClash', WHERE WHAT IT READS IS OF BULK AT MOST 1048576: true; the input reads as it did. -/
def fnExactBothClashUptoRow : OpenClaim := { program := "ytljbcpkjhnbpeaagreatdoor", sum := "1dd803115ef4e5bfcbf7f1f896024a26789a2daf345676fdbcda1bd679d4c7ec", func := "loop.example/g00602/laws.FnExactBothClash", spec := "fnExactBothClash", inPlace := ["internal/reflectlite.ValueOf", "(internal/reflectlite.Value).Type", "(internal/reflectlite.Value).IsNil", "internal/reflectlite.TypeOf", "(internal/reflectlite.Value).Elem", "(internal/reflectlite.Value).Set"], unfollowed := true, recurses := true, named := ["errors.errorType"], apart := false, laid := [("errors.errorType", laid_errors_errorType)], narrowed := true }
def FnExactBothClashUptoSaid : Prop := fnExactBothClashUptoRow.holds Tryz.pinned (OpenSpec.upto fnExactBothClashSpec)

end Rows
end Go.Proofs.YtljbcpkjhnbpeaaGreatDoor
