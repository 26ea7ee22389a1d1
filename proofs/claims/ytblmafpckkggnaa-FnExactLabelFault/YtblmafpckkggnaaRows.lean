/-
  No cell of these rows narrows 'for every input' (looked for: loops, veiled, ifaces, maps, wideKeys, modest, calm, conditions, laid).
  DERIVED. THE GIVEN ROWS OF THIS SEAT. 4 by the template 'for every input the law returns true; each argument reads behind the call as it read before'; 0 by the template 'total and deterministic' (their statements: YtblmafpckkggnaaTotals.lean).
  GIVEN WITH THE SEED: the statements are not yours to turn. If you find one false, say at which input.
  Laid BY PROGRAM, IN A SANDBOX (cutbox-rows.mjs): the forced cells as the released guide's own fill.sh prints them over the translation 72d21e2e3e09ad4b… (all of the seat's roots in one cut). By AI agents, Wed Nov 11 2026. No macro, syntax, notation, axiom, sorry.
-/
import Derived.Test.YtblmafpckkggnaaChecked
import GoSem.Claim
import GoSem.ClaimJoined
import GoSem.ClaimMapViews
import Derived.JoinedTies
import Derived.KernelRfl
namespace Go.Proofs.Ytblmafpckkggnaa
/- THE CELL 'sum', in the pinned program and in every row, IS THE sha256 OF THE DUMP (.gsa) THAT YtblmafpckkggnaaProg.lean LOADS. Nothing in Lean hashes anything: it is a label: what it is worth is what the hold of that sum in a sandbox is worth. -/
noncomputable def Try.pinned : Pinned := { name := "ytblmafpckkggnaa", sum := "72d21e2e3e09ad4b3827945120627cdd7f4dc38bd6cc913967bf4d4abda17fcb", checked := Try.checked }
namespace Rows
def none {H : Type} : Left H := { results := [], args := [] }

/-- 'laws.FnExactRunesOf': WHATEVER THE INPUT: true; the input reads as it did. -/
def fnExactRunesOfSpec : ChangeSpec := { name := "fnExactRunesOf", fn := fun _ => fun
  | [d] => { results := [.lit (.bool true)], args := [d] }
  | _ => none }
def fnExactRunesOfRow : OpenClaim := { program := "ytblmafpckkggnaa", sum := "72d21e2e3e09ad4b3827945120627cdd7f4dc38bd6cc913967bf4d4abda17fcb", func := "loop.example/g00602/laws.FnExactRunesOf", spec := "fnExactRunesOf", apart := false }
def FnExactRunesOfSaid : Prop := fnExactRunesOfRow.holds Try.pinned (OpenSpec.ofChange fnExactRunesOfSpec)

/-- ITS FALSE NEIGHBOUR: 'it returns false'. Refute it at one input. -/
def fnExactRunesOfWrong : ChangeSpec := { name := "fnExactRunesOf", fn := fun _ => fun
  | [d] => { results := [.lit (.bool false)], args := [d] }
  | _ => none }
def FnExactRunesOfWrongFalsely : Prop := fnExactRunesOfRow.holds Try.pinned (OpenSpec.ofChange fnExactRunesOfWrong)

/-- 'laws.FnExactLabelFault': WHATEVER THE INPUT: true; the input reads as it did. -/
def fnExactLabelFaultSpec : ChangeSpec := { name := "fnExactLabelFault", fn := fun _ => fun
  | [d] => { results := [.lit (.bool true)], args := [d] }
  | _ => none }
def fnExactLabelFaultRow : OpenClaim := { program := "ytblmafpckkggnaa", sum := "72d21e2e3e09ad4b3827945120627cdd7f4dc38bd6cc913967bf4d4abda17fcb", func := "loop.example/g00602/laws.FnExactLabelFault", spec := "fnExactLabelFault", apart := false }
def FnExactLabelFaultSaid : Prop := fnExactLabelFaultRow.holds Try.pinned (OpenSpec.ofChange fnExactLabelFaultSpec)

/-- ITS FALSE NEIGHBOUR: 'it returns false'. Refute it at one input. -/
def fnExactLabelFaultWrong : ChangeSpec := { name := "fnExactLabelFault", fn := fun _ => fun
  | [d] => { results := [.lit (.bool false)], args := [d] }
  | _ => none }
def FnExactLabelFaultWrongFalsely : Prop := fnExactLabelFaultRow.holds Try.pinned (OpenSpec.ofChange fnExactLabelFaultWrong)

/-- 'laws.FnExactFoldLabel': WHATEVER THE INPUT: true; the input reads as it did. -/
def fnExactFoldLabelSpec : ChangeSpec := { name := "fnExactFoldLabel", fn := fun _ => fun
  | [d] => { results := [.lit (.bool true)], args := [d] }
  | _ => none }
def fnExactFoldLabelRow : OpenClaim := { program := "ytblmafpckkggnaa", sum := "72d21e2e3e09ad4b3827945120627cdd7f4dc38bd6cc913967bf4d4abda17fcb", func := "loop.example/g00602/laws.FnExactFoldLabel", spec := "fnExactFoldLabel", apart := false }
def FnExactFoldLabelSaid : Prop := fnExactFoldLabelRow.holds Try.pinned (OpenSpec.ofChange fnExactFoldLabelSpec)

/-- ITS FALSE NEIGHBOUR: 'it returns false'. Refute it at one input. -/
def fnExactFoldLabelWrong : ChangeSpec := { name := "fnExactFoldLabel", fn := fun _ => fun
  | [d] => { results := [.lit (.bool false)], args := [d] }
  | _ => none }
def FnExactFoldLabelWrongFalsely : Prop := fnExactFoldLabelRow.holds Try.pinned (OpenSpec.ofChange fnExactFoldLabelWrong)

/-- 'laws.FnExactCountRunes': WHATEVER THE INPUT: true; the input reads as it did. -/
def fnExactCountRunesSpec : ChangeSpec := { name := "fnExactCountRunes", fn := fun _ => fun
  | [d] => { results := [.lit (.bool true)], args := [d] }
  | _ => none }
def fnExactCountRunesRow : OpenClaim := { program := "ytblmafpckkggnaa", sum := "72d21e2e3e09ad4b3827945120627cdd7f4dc38bd6cc913967bf4d4abda17fcb", func := "loop.example/g00602/laws.FnExactCountRunes", spec := "fnExactCountRunes", apart := false }
def FnExactCountRunesSaid : Prop := fnExactCountRunesRow.holds Try.pinned (OpenSpec.ofChange fnExactCountRunesSpec)

/-- ITS FALSE NEIGHBOUR: 'it returns false'. Refute it at one input. -/
def fnExactCountRunesWrong : ChangeSpec := { name := "fnExactCountRunes", fn := fun _ => fun
  | [d] => { results := [.lit (.bool false)], args := [d] }
  | _ => none }
def FnExactCountRunesWrongFalsely : Prop := fnExactCountRunesRow.holds Try.pinned (OpenSpec.ofChange fnExactCountRunesWrong)

/- THE SECOND FORM. 'bulk': how many values and letters a reading holds, each counted each time it is reached (what is shared counts as often as it is met; a slice's spare places count too). A statement '..UptoSaid' is the law's where the arguments, and the package variables that the reading takes, are together of bulk at most 1048576: NARROWER than '..Said'. Prove '..Said' where nothing that the law and all that it calls make is longer than what came in: it says more and counts as full. Else prove '..UptoSaid'. A law counts once. -/
mutual
def uptoBulk {H : Type} : DataW H → Nat
  | .lit (.string bytes) => bytes.length + 1
  | .lit _ => 1
  | .nil => 1
  | .ptr d => uptoBulk d + 1
  | .slice elems spare => uptoBulkAll elems + uptoBulkAll spare + 1
  | .agg parts => uptoBulkAll parts + 1
  | .iface _ d => uptoBulk d + 1
  | .map entries => uptoBulkEntries entries + 1
  | .held _ => 1
def uptoBulkAll {H : Type} : List (DataW H) → Nat
  | [] => 0
  | d :: r => uptoBulk d + uptoBulkAll r
def uptoBulkEntries {H : Type} : List (Lit × DataW H) → Nat
  | [] => 0
  | x :: r => uptoBulkEntry x + uptoBulkEntries r
def uptoBulkEntry {H : Type} : Lit × DataW H → Nat
  | (.string bytes, d) => bytes.length + uptoBulk d + 1
  | (_, d) => uptoBulk d + 1
 end
def uptoSmall : (H : Type) → List (DataW H) → Bool := fun _ ds => decide (uptoBulkAll ds ≤ 1048576)
def OpenSpec.upto (s : _root_.Go.ChangeSpec) : _root_.Go.OpenSpec := { _root_.Go.OpenSpec.ofChange s with cond := some uptoSmall }

/-- 'laws.FnExactRunesOf', WHERE WHAT IT READS IS OF BULK AT MOST 1048576: true; the input reads as it did. -/
def fnExactRunesOfUptoRow : OpenClaim := { program := "ytblmafpckkggnaa", sum := "72d21e2e3e09ad4b3827945120627cdd7f4dc38bd6cc913967bf4d4abda17fcb", func := "loop.example/g00602/laws.FnExactRunesOf", spec := "fnExactRunesOf", apart := false, narrowed := true }
def FnExactRunesOfUptoSaid : Prop := fnExactRunesOfUptoRow.holds Try.pinned (OpenSpec.upto fnExactRunesOfSpec)

/-- 'laws.FnExactLabelFault', WHERE WHAT IT READS IS OF BULK AT MOST 1048576: true; the input reads as it did. -/
def fnExactLabelFaultUptoRow : OpenClaim := { program := "ytblmafpckkggnaa", sum := "72d21e2e3e09ad4b3827945120627cdd7f4dc38bd6cc913967bf4d4abda17fcb", func := "loop.example/g00602/laws.FnExactLabelFault", spec := "fnExactLabelFault", apart := false, narrowed := true }
def FnExactLabelFaultUptoSaid : Prop := fnExactLabelFaultUptoRow.holds Try.pinned (OpenSpec.upto fnExactLabelFaultSpec)

/-- 'laws.FnExactFoldLabel', WHERE WHAT IT READS IS OF BULK AT MOST 1048576: true; the input reads as it did. -/
def fnExactFoldLabelUptoRow : OpenClaim := { program := "ytblmafpckkggnaa", sum := "72d21e2e3e09ad4b3827945120627cdd7f4dc38bd6cc913967bf4d4abda17fcb", func := "loop.example/g00602/laws.FnExactFoldLabel", spec := "fnExactFoldLabel", apart := false, narrowed := true }
def FnExactFoldLabelUptoSaid : Prop := fnExactFoldLabelUptoRow.holds Try.pinned (OpenSpec.upto fnExactFoldLabelSpec)

/-- 'laws.FnExactCountRunes', WHERE WHAT IT READS IS OF BULK AT MOST 1048576: true; the input reads as it did. -/
def fnExactCountRunesUptoRow : OpenClaim := { program := "ytblmafpckkggnaa", sum := "72d21e2e3e09ad4b3827945120627cdd7f4dc38bd6cc913967bf4d4abda17fcb", func := "loop.example/g00602/laws.FnExactCountRunes", spec := "fnExactCountRunes", apart := false, narrowed := true }
def FnExactCountRunesUptoSaid : Prop := fnExactCountRunesUptoRow.holds Try.pinned (OpenSpec.upto fnExactCountRunesSpec)

end Rows
end Go.Proofs.Ytblmafpckkggnaa
