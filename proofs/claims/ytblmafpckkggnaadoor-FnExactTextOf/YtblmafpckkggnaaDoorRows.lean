/-
  NARROWER THAN 'FOR EVERY INPUT', by the rows' own cells (each row's printed sentence says how): FnRunes: laid · FnExactRuneAt: laid · FnExactTextOf: laid · FnExactSizeOf: laid.
  DERIVED. THE GIVEN ROWS OF THIS SEAT. 4 by the template 'for every input the law returns true; each argument reads behind the call as it read before'; 0 by the template 'total and deterministic' (their statements: YtblmafpckkggnaaDoorTotals.lean).
  GIVEN WITH THE SEED: the statements are not yours to turn. If you find one false, say at which input.
  Laid BY PROGRAM, IN A SANDBOX (cutbox-rows.mjs): the forced cells as the released guide's own fill.sh prints them over the translation c996659651188750… (all of the seat's roots in one cut). By AI agents, Wed Nov 11 2026. No macro, syntax, notation, axiom, sorry.
-/
import Derived.Test.YtblmafpckkggnaaDoorChecked
import GoSem.Claim
import GoSem.ClaimJoined
import GoSem.ClaimMapViews
import Derived.JoinedTies
import Derived.KernelRfl
namespace Go.Proofs.YtblmafpckkggnaaDoor
/- THE CELL 'sum', in the pinned program and in every row, IS THE sha256 OF THE DUMP (.gsa) THAT YtblmafpckkggnaaDoorProg.lean LOADS. Nothing in Lean hashes anything: it is a label: what it is worth is what the hold of that sum in a sandbox is worth. -/
noncomputable def Tryd.pinned : Pinned := { name := "ytblmafpckkggnaadoor", sum := "c9966596511887505820feb48eb2f48ef9284bebd6a9df24a5355b7287afcb71", checked := Tryd.checked }
namespace Rows
def none {H : Type} : Left H := { results := [], args := [] }

/- WHAT THE LISTED PACKAGE-LEVEL VARIABLES READ AS WHEN THE CALL BEGINS. Each datum BY PROGRAM (the guide's laid-datum.mjs) off the statement by which the dump's own 'gosem.cut.vars' lays the variable. In a bare row this is a premise. The card (YtblmafpckkggnaaDoorCards.lean) ties it to the program's text. -/
def laid_loop_example_g00602_impl_leads {H : Type} : DataW H := .agg [.lit (.int .i64 0), .lit (.int .i64 0), .lit (.int .i64 192), .lit (.int .i64 224), .lit (.int .i64 240)]
def laid_loop_example_g00602_impl_sizeEnds {H : Type} : DataW H := .agg [.lit (.int .i64 0), .lit (.int .i64 128), .lit (.int .i64 2048), .lit (.int .i64 65536), .lit (.int .i64 1114112)]

/-- 'laws.FnRunes': WHATEVER THE INPUT: true; the input reads as it did. -/
def fnRunesSpec : ChangeSpec := { name := "fnRunes", vars := ["loop.example/g00602/impl.sizeEnds", "loop.example/g00602/impl.leads"], fn := fun _ => fun
  | [d, g1, g2] => { results := [.lit (.bool true)], args := [d], vars := [g1, g2] }
  | _ => none }
def fnRunesRow : OpenClaim := { program := "ytblmafpckkggnaadoor", sum := "c9966596511887505820feb48eb2f48ef9284bebd6a9df24a5355b7287afcb71", func := "loop.example/g00602/laws.FnRunes", spec := "fnRunes", named := ["loop.example/g00602/impl.sizeEnds", "loop.example/g00602/impl.leads"], apart := false, laid := [("loop.example/g00602/impl.leads", laid_loop_example_g00602_impl_leads), ("loop.example/g00602/impl.sizeEnds", laid_loop_example_g00602_impl_sizeEnds)] }
def FnRunesSaid : Prop := fnRunesRow.holds Tryd.pinned (OpenSpec.ofChange fnRunesSpec)

/-- ITS FALSE NEIGHBOUR: 'it returns false'. Refute it at one input. -/
def fnRunesWrong : ChangeSpec := { name := "fnRunes", vars := ["loop.example/g00602/impl.sizeEnds", "loop.example/g00602/impl.leads"], fn := fun _ => fun
  | [d, g1, g2] => { results := [.lit (.bool false)], args := [d], vars := [g1, g2] }
  | _ => none }
def FnRunesWrongFalsely : Prop := fnRunesRow.holds Tryd.pinned (OpenSpec.ofChange fnRunesWrong)

/-- 'laws.FnExactRuneAt': WHATEVER THE INPUT: true; the input reads as it did. -/
def fnExactRuneAtSpec : ChangeSpec := { name := "fnExactRuneAt", vars := ["loop.example/g00602/impl.sizeEnds"], fn := fun _ => fun
  | [d1, d2, g1] => { results := [.lit (.bool true)], args := [d1, d2], vars := [g1] }
  | _ => none }
def fnExactRuneAtRow : OpenClaim := { program := "ytblmafpckkggnaadoor", sum := "c9966596511887505820feb48eb2f48ef9284bebd6a9df24a5355b7287afcb71", func := "loop.example/g00602/laws.FnExactRuneAt", spec := "fnExactRuneAt", named := ["loop.example/g00602/impl.sizeEnds"], apart := false, laid := [("loop.example/g00602/impl.sizeEnds", laid_loop_example_g00602_impl_sizeEnds)] }
def FnExactRuneAtSaid : Prop := fnExactRuneAtRow.holds Tryd.pinned (OpenSpec.ofChange fnExactRuneAtSpec)

/-- ITS FALSE NEIGHBOUR: 'it returns false'. Refute it at one input. -/
def fnExactRuneAtWrong : ChangeSpec := { name := "fnExactRuneAt", vars := ["loop.example/g00602/impl.sizeEnds"], fn := fun _ => fun
  | [d1, d2, g1] => { results := [.lit (.bool false)], args := [d1, d2], vars := [g1] }
  | _ => none }
def FnExactRuneAtWrongFalsely : Prop := fnExactRuneAtRow.holds Tryd.pinned (OpenSpec.ofChange fnExactRuneAtWrong)

/-- 'laws.FnExactTextOf': WHATEVER THE INPUT: true; the input reads as it did. -/
def fnExactTextOfSpec : ChangeSpec := { name := "fnExactTextOf", vars := ["loop.example/g00602/impl.sizeEnds", "loop.example/g00602/impl.leads"], fn := fun _ => fun
  | [d, g1, g2] => { results := [.lit (.bool true)], args := [d], vars := [g1, g2] }
  | _ => none }
def fnExactTextOfRow : OpenClaim := { program := "ytblmafpckkggnaadoor", sum := "c9966596511887505820feb48eb2f48ef9284bebd6a9df24a5355b7287afcb71", func := "loop.example/g00602/laws.FnExactTextOf", spec := "fnExactTextOf", named := ["loop.example/g00602/impl.sizeEnds", "loop.example/g00602/impl.leads"], apart := false, laid := [("loop.example/g00602/impl.leads", laid_loop_example_g00602_impl_leads), ("loop.example/g00602/impl.sizeEnds", laid_loop_example_g00602_impl_sizeEnds)] }
def FnExactTextOfSaid : Prop := fnExactTextOfRow.holds Tryd.pinned (OpenSpec.ofChange fnExactTextOfSpec)

/-- ITS FALSE NEIGHBOUR: 'it returns false'. Refute it at one input. -/
def fnExactTextOfWrong : ChangeSpec := { name := "fnExactTextOf", vars := ["loop.example/g00602/impl.sizeEnds", "loop.example/g00602/impl.leads"], fn := fun _ => fun
  | [d, g1, g2] => { results := [.lit (.bool false)], args := [d], vars := [g1, g2] }
  | _ => none }
def FnExactTextOfWrongFalsely : Prop := fnExactTextOfRow.holds Tryd.pinned (OpenSpec.ofChange fnExactTextOfWrong)

/-- 'laws.FnExactSizeOf': WHATEVER THE INPUT: true; the input reads as it did. -/
def fnExactSizeOfSpec : ChangeSpec := { name := "fnExactSizeOf", vars := ["loop.example/g00602/impl.sizeEnds"], fn := fun _ => fun
  | [d, g1] => { results := [.lit (.bool true)], args := [d], vars := [g1] }
  | _ => none }
def fnExactSizeOfRow : OpenClaim := { program := "ytblmafpckkggnaadoor", sum := "c9966596511887505820feb48eb2f48ef9284bebd6a9df24a5355b7287afcb71", func := "loop.example/g00602/laws.FnExactSizeOf", spec := "fnExactSizeOf", named := ["loop.example/g00602/impl.sizeEnds"], apart := false, laid := [("loop.example/g00602/impl.sizeEnds", laid_loop_example_g00602_impl_sizeEnds)] }
def FnExactSizeOfSaid : Prop := fnExactSizeOfRow.holds Tryd.pinned (OpenSpec.ofChange fnExactSizeOfSpec)

/-- ITS FALSE NEIGHBOUR: 'it returns false'. Refute it at one input. -/
def fnExactSizeOfWrong : ChangeSpec := { name := "fnExactSizeOf", vars := ["loop.example/g00602/impl.sizeEnds"], fn := fun _ => fun
  | [d, g1] => { results := [.lit (.bool false)], args := [d], vars := [g1] }
  | _ => none }
def FnExactSizeOfWrongFalsely : Prop := fnExactSizeOfRow.holds Tryd.pinned (OpenSpec.ofChange fnExactSizeOfWrong)

/- THE SECOND FORM. 'bulk': how many values and letters a reading holds, each counted each time it is reached (what is shared counts as often as it is met; a slice's spare places count too). A statement '..UptoSaid' is the law's where the arguments, and the package variables that the reading takes, are together of bulk at most 1048576: NARROWER than '..Said'. Prove '..Said' where nothing that the law and all that it calls make is longer than what came in: it says more and counts as full. Else prove '..UptoSaid'. A law counts once. -/
mutual
def uptoBulk {H : Type} : DataW H → Nat
  | .lit (.string bytes) => bytes.length + 1
  | .lit _ => 1
  | .nil => 1
  | .ptr d => uptoBulk d + 1
  | .slice elems spare => uptoBulkAll elems + uptoBulkAll spare + 1
  | .agg parts => uptoBulkAll parts + 1
  | .iface _ d => uptoBulk d + 1
  | .map entries => uptoBulkEntries entries + 1
  | .held _ => 1
def uptoBulkAll {H : Type} : List (DataW H) → Nat
  | [] => 0
  | d :: r => uptoBulk d + uptoBulkAll r
def uptoBulkEntries {H : Type} : List (Lit × DataW H) → Nat
  | [] => 0
  | x :: r => uptoBulkEntry x + uptoBulkEntries r
def uptoBulkEntry {H : Type} : Lit × DataW H → Nat
  | (.string bytes, d) => bytes.length + uptoBulk d + 1
  | (_, d) => uptoBulk d + 1
 end
def uptoSmall : (H : Type) → List (DataW H) → Bool := fun _ ds => decide (uptoBulkAll ds ≤ 1048576)
def OpenSpec.upto (s : _root_.Go.ChangeSpec) : _root_.Go.OpenSpec := { _root_.Go.OpenSpec.ofChange s with cond := some uptoSmall }

/-- 'laws.FnRunes', WHERE WHAT IT READS IS OF BULK AT MOST 1048576: true; the input reads as it did. -/
def fnRunesUptoRow : OpenClaim := { program := "ytblmafpckkggnaadoor", sum := "c9966596511887505820feb48eb2f48ef9284bebd6a9df24a5355b7287afcb71", func := "loop.example/g00602/laws.FnRunes", spec := "fnRunes", named := ["loop.example/g00602/impl.sizeEnds", "loop.example/g00602/impl.leads"], apart := false, laid := [("loop.example/g00602/impl.leads", laid_loop_example_g00602_impl_leads), ("loop.example/g00602/impl.sizeEnds", laid_loop_example_g00602_impl_sizeEnds)], narrowed := true }
def FnRunesUptoSaid : Prop := fnRunesUptoRow.holds Tryd.pinned (OpenSpec.upto fnRunesSpec)

/-- 'laws.FnExactRuneAt', WHERE WHAT IT READS IS OF BULK AT MOST 1048576: true; the input reads as it did. -/
def fnExactRuneAtUptoRow : OpenClaim := { program := "ytblmafpckkggnaadoor", sum := "c9966596511887505820feb48eb2f48ef9284bebd6a9df24a5355b7287afcb71", func := "loop.example/g00602/laws.FnExactRuneAt", spec := "fnExactRuneAt", named := ["loop.example/g00602/impl.sizeEnds"], apart := false, laid := [("loop.example/g00602/impl.sizeEnds", laid_loop_example_g00602_impl_sizeEnds)], narrowed := true }
def FnExactRuneAtUptoSaid : Prop := fnExactRuneAtUptoRow.holds Tryd.pinned (OpenSpec.upto fnExactRuneAtSpec)

/-- 'laws.FnExactTextOf', WHERE WHAT IT READS IS OF BULK AT MOST 1048576: true; the input reads as it did. -/
def fnExactTextOfUptoRow : OpenClaim := { program := "ytblmafpckkggnaadoor", sum := "c9966596511887505820feb48eb2f48ef9284bebd6a9df24a5355b7287afcb71", func := "loop.example/g00602/laws.FnExactTextOf", spec := "fnExactTextOf", named := ["loop.example/g00602/impl.sizeEnds", "loop.example/g00602/impl.leads"], apart := false, laid := [("loop.example/g00602/impl.leads", laid_loop_example_g00602_impl_leads), ("loop.example/g00602/impl.sizeEnds", laid_loop_example_g00602_impl_sizeEnds)], narrowed := true }
def FnExactTextOfUptoSaid : Prop := fnExactTextOfUptoRow.holds Tryd.pinned (OpenSpec.upto fnExactTextOfSpec)

/-- 'laws.FnExactSizeOf', WHERE WHAT IT READS IS OF BULK AT MOST 1048576: true; the input reads as it did. -/
def fnExactSizeOfUptoRow : OpenClaim := { program := "ytblmafpckkggnaadoor", sum := "c9966596511887505820feb48eb2f48ef9284bebd6a9df24a5355b7287afcb71", func := "loop.example/g00602/laws.FnExactSizeOf", spec := "fnExactSizeOf", named := ["loop.example/g00602/impl.sizeEnds"], apart := false, laid := [("loop.example/g00602/impl.sizeEnds", laid_loop_example_g00602_impl_sizeEnds)], narrowed := true }
def FnExactSizeOfUptoSaid : Prop := fnExactSizeOfUptoRow.holds Tryd.pinned (OpenSpec.upto fnExactSizeOfSpec)

end Rows
end Go.Proofs.YtblmafpckkggnaaDoor
