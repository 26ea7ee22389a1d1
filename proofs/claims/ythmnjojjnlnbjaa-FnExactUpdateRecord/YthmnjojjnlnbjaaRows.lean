/-
  No cell of these rows narrows 'for every input' (looked for: loops, veiled, ifaces, maps, wideKeys, modest, calm, conditions, laid).
  DERIVED. THE GIVEN ROWS OF THIS SEAT. 9 by the template 'for every input the law returns true; each argument reads behind the call as it read before'; 0 by the template 'total and deterministic' (their statements: YthmnjojjnlnbjaaTotals.lean).
  GIVEN WITH THE SEED: the statements are not yours to turn. If you find one false, say at which input.
  Laid BY PROGRAM, IN A SANDBOX (cutbox-rows.mjs): the forced cells as the released guide's own fill.sh prints them over the translation 874d8f72aa8f77e5… (all of the seat's roots in one cut). By AI agents, Wed Nov 11 2026. No macro, syntax, notation, axiom, sorry.
-/
import Derived.Test.YthmnjojjnlnbjaaChecked
import GoSem.Claim
import GoSem.ClaimJoined
import GoSem.ClaimMapViews
import Derived.JoinedTies
import Derived.KernelRfl
namespace Go.Proofs.Ythmnjojjnlnbjaa
/- THE CELL 'sum', in the pinned program and in every row, IS THE sha256 OF THE DUMP (.gsa) THAT YthmnjojjnlnbjaaProg.lean LOADS. Nothing in Lean hashes anything: it is a label: what it is worth is what the hold of that sum in a sandbox is worth. -/
noncomputable def Try.pinned : Pinned := { name := "ythmnjojjnlnbjaa", sum := "874d8f72aa8f77e5a9d47e8ace42b75e2ad80aaca8ab06fe244bcf76470371f8", checked := Try.checked }
namespace Rows
def none {H : Type} : Left H := { results := [], args := [] }

/-- 'laws.FnUpdates': WHATEVER THE INPUT: true; the input reads as it did. -/
def fnUpdatesSpec : ChangeSpec := { name := "fnUpdates", fn := fun _ => fun
  | [d] => { results := [.lit (.bool true)], args := [d] }
  | _ => none }
def fnUpdatesRow : OpenClaim := { program := "ythmnjojjnlnbjaa", sum := "874d8f72aa8f77e5a9d47e8ace42b75e2ad80aaca8ab06fe244bcf76470371f8", func := "loop.example/g00602/laws.FnUpdates", spec := "fnUpdates", unfollowed := true, recurses := true, apart := false }
def FnUpdatesSaid : Prop := fnUpdatesRow.holds Try.pinned (OpenSpec.ofChange fnUpdatesSpec)

/-- ITS FALSE NEIGHBOUR: 'it returns false'. Refute it at one input. -/
def fnUpdatesWrong : ChangeSpec := { name := "fnUpdates", fn := fun _ => fun
  | [d] => { results := [.lit (.bool false)], args := [d] }
  | _ => none }
def FnUpdatesWrongFalsely : Prop := fnUpdatesRow.holds Try.pinned (OpenSpec.ofChange fnUpdatesWrong)

/-- 'laws.FnLooks': WHATEVER THE INPUT: true; the input reads as it did. -/
def fnLooksSpec : ChangeSpec := { name := "fnLooks", fn := fun _ => fun
  | [d] => { results := [.lit (.bool true)], args := [d] }
  | _ => none }
def fnLooksRow : OpenClaim := { program := "ythmnjojjnlnbjaa", sum := "874d8f72aa8f77e5a9d47e8ace42b75e2ad80aaca8ab06fe244bcf76470371f8", func := "loop.example/g00602/laws.FnLooks", spec := "fnLooks", unfollowed := true, recurses := true, apart := false }
def FnLooksSaid : Prop := fnLooksRow.holds Try.pinned (OpenSpec.ofChange fnLooksSpec)

/-- ITS FALSE NEIGHBOUR: 'it returns false'. Refute it at one input. -/
def fnLooksWrong : ChangeSpec := { name := "fnLooks", fn := fun _ => fun
  | [d] => { results := [.lit (.bool false)], args := [d] }
  | _ => none }
def FnLooksWrongFalsely : Prop := fnLooksRow.holds Try.pinned (OpenSpec.ofChange fnLooksWrong)

/-- 'laws.FnExactDirectoryFault': WHATEVER THE INPUT: true; the input reads as it did. -/
def fnExactDirectoryFaultSpec : ChangeSpec := { name := "fnExactDirectoryFault", fn := fun _ => fun
  | [d] => { results := [.lit (.bool true)], args := [d] }
  | _ => none }
def fnExactDirectoryFaultRow : OpenClaim := { program := "ythmnjojjnlnbjaa", sum := "874d8f72aa8f77e5a9d47e8ace42b75e2ad80aaca8ab06fe244bcf76470371f8", func := "loop.example/g00602/laws.FnExactDirectoryFault", spec := "fnExactDirectoryFault", apart := false }
def FnExactDirectoryFaultSaid : Prop := fnExactDirectoryFaultRow.holds Try.pinned (OpenSpec.ofChange fnExactDirectoryFaultSpec)

/-- ITS FALSE NEIGHBOUR: 'it returns false'. Refute it at one input. -/
def fnExactDirectoryFaultWrong : ChangeSpec := { name := "fnExactDirectoryFault", fn := fun _ => fun
  | [d] => { results := [.lit (.bool false)], args := [d] }
  | _ => none }
def FnExactDirectoryFaultWrongFalsely : Prop := fnExactDirectoryFaultRow.holds Try.pinned (OpenSpec.ofChange fnExactDirectoryFaultWrong)

/-- 'laws.FnExactOwnerOf': WHATEVER THE INPUT: true; the input reads as it did. -/
def fnExactOwnerOfSpec : ChangeSpec := { name := "fnExactOwnerOf", fn := fun _ => fun
  | [d] => { results := [.lit (.bool true)], args := [d] }
  | _ => none }
def fnExactOwnerOfRow : OpenClaim := { program := "ythmnjojjnlnbjaa", sum := "874d8f72aa8f77e5a9d47e8ace42b75e2ad80aaca8ab06fe244bcf76470371f8", func := "loop.example/g00602/laws.FnExactOwnerOf", spec := "fnExactOwnerOf", apart := false }
def FnExactOwnerOfSaid : Prop := fnExactOwnerOfRow.holds Try.pinned (OpenSpec.ofChange fnExactOwnerOfSpec)

/-- ITS FALSE NEIGHBOUR: 'it returns false'. Refute it at one input. -/
def fnExactOwnerOfWrong : ChangeSpec := { name := "fnExactOwnerOf", fn := fun _ => fun
  | [d] => { results := [.lit (.bool false)], args := [d] }
  | _ => none }
def FnExactOwnerOfWrongFalsely : Prop := fnExactOwnerOfRow.holds Try.pinned (OpenSpec.ofChange fnExactOwnerOfWrong)

/-- 'laws.FnExactLookRecord': WHATEVER THE INPUT: true; the input reads as it did. -/
def fnExactLookRecordSpec : ChangeSpec := { name := "fnExactLookRecord", fn := fun _ => fun
  | [d1, d2] => { results := [.lit (.bool true)], args := [d1, d2] }
  | _ => none }
def fnExactLookRecordRow : OpenClaim := { program := "ythmnjojjnlnbjaa", sum := "874d8f72aa8f77e5a9d47e8ace42b75e2ad80aaca8ab06fe244bcf76470371f8", func := "loop.example/g00602/laws.FnExactLookRecord", spec := "fnExactLookRecord", apart := false }
def FnExactLookRecordSaid : Prop := fnExactLookRecordRow.holds Try.pinned (OpenSpec.ofChange fnExactLookRecordSpec)

/-- ITS FALSE NEIGHBOUR: 'it returns false'. Refute it at one input. -/
def fnExactLookRecordWrong : ChangeSpec := { name := "fnExactLookRecord", fn := fun _ => fun
  | [d1, d2] => { results := [.lit (.bool false)], args := [d1, d2] }
  | _ => none }
def FnExactLookRecordWrongFalsely : Prop := fnExactLookRecordRow.holds Try.pinned (OpenSpec.ofChange fnExactLookRecordWrong)

/-- 'laws.FnExactUpdateRecord': WHATEVER THE INPUT: true; the input reads as it did. -/
def fnExactUpdateRecordSpec : ChangeSpec := { name := "fnExactUpdateRecord", fn := fun _ => fun
  | [d1, d2, d3] => { results := [.lit (.bool true)], args := [d1, d2, d3] }
  | _ => none }
def fnExactUpdateRecordRow : OpenClaim := { program := "ythmnjojjnlnbjaa", sum := "874d8f72aa8f77e5a9d47e8ace42b75e2ad80aaca8ab06fe244bcf76470371f8", func := "loop.example/g00602/laws.FnExactUpdateRecord", spec := "fnExactUpdateRecord", unfollowed := true, recurses := true, apart := false }
def FnExactUpdateRecordSaid : Prop := fnExactUpdateRecordRow.holds Try.pinned (OpenSpec.ofChange fnExactUpdateRecordSpec)

/-- ITS FALSE NEIGHBOUR: 'it returns false'. Refute it at one input. -/
def fnExactUpdateRecordWrong : ChangeSpec := { name := "fnExactUpdateRecord", fn := fun _ => fun
  | [d1, d2, d3] => { results := [.lit (.bool false)], args := [d1, d2, d3] }
  | _ => none }
def FnExactUpdateRecordWrongFalsely : Prop := fnExactUpdateRecordRow.holds Try.pinned (OpenSpec.ofChange fnExactUpdateRecordWrong)

/-- 'laws.FnExactSlotsOf': WHATEVER THE INPUT: true; the input reads as it did. -/
def fnExactSlotsOfSpec : ChangeSpec := { name := "fnExactSlotsOf", fn := fun _ => fun
  | [d] => { results := [.lit (.bool true)], args := [d] }
  | _ => none }
def fnExactSlotsOfRow : OpenClaim := { program := "ythmnjojjnlnbjaa", sum := "874d8f72aa8f77e5a9d47e8ace42b75e2ad80aaca8ab06fe244bcf76470371f8", func := "loop.example/g00602/laws.FnExactSlotsOf", spec := "fnExactSlotsOf", apart := false }
def FnExactSlotsOfSaid : Prop := fnExactSlotsOfRow.holds Try.pinned (OpenSpec.ofChange fnExactSlotsOfSpec)

/-- ITS FALSE NEIGHBOUR: 'it returns false'. Refute it at one input. -/
def fnExactSlotsOfWrong : ChangeSpec := { name := "fnExactSlotsOf", fn := fun _ => fun
  | [d] => { results := [.lit (.bool false)], args := [d] }
  | _ => none }
def FnExactSlotsOfWrongFalsely : Prop := fnExactSlotsOfRow.holds Try.pinned (OpenSpec.ofChange fnExactSlotsOfWrong)

/-- 'laws.FnExactSameDirectories': WHATEVER THE INPUT: true; the input reads as it did. -/
def fnExactSameDirectoriesSpec : ChangeSpec := { name := "fnExactSameDirectories", fn := fun _ => fun
  | [d1, d2] => { results := [.lit (.bool true)], args := [d1, d2] }
  | _ => none }
def fnExactSameDirectoriesRow : OpenClaim := { program := "ythmnjojjnlnbjaa", sum := "874d8f72aa8f77e5a9d47e8ace42b75e2ad80aaca8ab06fe244bcf76470371f8", func := "loop.example/g00602/laws.FnExactSameDirectories", spec := "fnExactSameDirectories", apart := false }
def FnExactSameDirectoriesSaid : Prop := fnExactSameDirectoriesRow.holds Try.pinned (OpenSpec.ofChange fnExactSameDirectoriesSpec)

/-- ITS FALSE NEIGHBOUR: 'it returns false'. Refute it at one input. -/
def fnExactSameDirectoriesWrong : ChangeSpec := { name := "fnExactSameDirectories", fn := fun _ => fun
  | [d1, d2] => { results := [.lit (.bool false)], args := [d1, d2] }
  | _ => none }
def FnExactSameDirectoriesWrongFalsely : Prop := fnExactSameDirectoriesRow.holds Try.pinned (OpenSpec.ofChange fnExactSameDirectoriesWrong)

/-- 'laws.FnExactAnswerOf': WHATEVER THE INPUT: true; the input reads as it did. -/
def fnExactAnswerOfSpec : ChangeSpec := { name := "fnExactAnswerOf", fn := fun _ => fun
  | [d1, d2] => { results := [.lit (.bool true)], args := [d1, d2] }
  | _ => none }
def fnExactAnswerOfRow : OpenClaim := { program := "ythmnjojjnlnbjaa", sum := "874d8f72aa8f77e5a9d47e8ace42b75e2ad80aaca8ab06fe244bcf76470371f8", func := "loop.example/g00602/laws.FnExactAnswerOf", spec := "fnExactAnswerOf", apart := false }
def FnExactAnswerOfSaid : Prop := fnExactAnswerOfRow.holds Try.pinned (OpenSpec.ofChange fnExactAnswerOfSpec)

/-- ITS FALSE NEIGHBOUR: 'it returns false'. Refute it at one input. -/
def fnExactAnswerOfWrong : ChangeSpec := { name := "fnExactAnswerOf", fn := fun _ => fun
  | [d1, d2] => { results := [.lit (.bool false)], args := [d1, d2] }
  | _ => none }
def FnExactAnswerOfWrongFalsely : Prop := fnExactAnswerOfRow.holds Try.pinned (OpenSpec.ofChange fnExactAnswerOfWrong)

/- THE SECOND FORM. 'bulk': how many values and letters a reading holds, each counted each time it is reached (what is shared counts as often as it is met; a slice's spare places count too). A statement '..UptoSaid' is the law's where the arguments, and the package variables that the reading takes, are together of bulk at most 1048576: NARROWER than '..Said'. Prove '..Said' where nothing that the law and all that it calls make is longer than what came in: it says more and counts as full. Else prove '..UptoSaid'. A law counts once. -/
mutual
def uptoBulk {H : Type} : DataW H → Nat
  | .lit (.string bytes) => bytes.length + 1
  | .lit _ => 1
  | .nil => 1
  | .ptr d => uptoBulk d + 1
  | .slice elems spare => uptoBulkAll elems + uptoBulkAll spare + 1
  | .agg parts => uptoBulkAll parts + 1
  | .iface _ d => uptoBulk d + 1
  | .map entries => uptoBulkEntries entries + 1
  | .held _ => 1
def uptoBulkAll {H : Type} : List (DataW H) → Nat
  | [] => 0
  | d :: r => uptoBulk d + uptoBulkAll r
def uptoBulkEntries {H : Type} : List (Lit × DataW H) → Nat
  | [] => 0
  | x :: r => uptoBulkEntry x + uptoBulkEntries r
def uptoBulkEntry {H : Type} : Lit × DataW H → Nat
  | (.string bytes, d) => bytes.length + uptoBulk d + 1
  | (_, d) => uptoBulk d + 1
 end
def uptoSmall : (H : Type) → List (DataW H) → Bool := fun _ ds => decide (uptoBulkAll ds ≤ 1048576)
def OpenSpec.upto (s : _root_.Go.ChangeSpec) : _root_.Go.OpenSpec := { _root_.Go.OpenSpec.ofChange s with cond := some uptoSmall }

/-- 'laws.FnUpdates', WHERE WHAT IT READS IS OF BULK AT MOST 1048576: true; the input reads as it did. -/
def fnUpdatesUptoRow : OpenClaim := { program := "ythmnjojjnlnbjaa", sum := "874d8f72aa8f77e5a9d47e8ace42b75e2ad80aaca8ab06fe244bcf76470371f8", func := "loop.example/g00602/laws.FnUpdates", spec := "fnUpdates", unfollowed := true, recurses := true, apart := false, narrowed := true }
def FnUpdatesUptoSaid : Prop := fnUpdatesUptoRow.holds Try.pinned (OpenSpec.upto fnUpdatesSpec)

/-- 'laws.FnLooks', WHERE WHAT IT READS IS OF BULK AT MOST 1048576: true; the input reads as it did. -/
def fnLooksUptoRow : OpenClaim := { program := "ythmnjojjnlnbjaa", sum := "874d8f72aa8f77e5a9d47e8ace42b75e2ad80aaca8ab06fe244bcf76470371f8", func := "loop.example/g00602/laws.FnLooks", spec := "fnLooks", unfollowed := true, recurses := true, apart := false, narrowed := true }
def FnLooksUptoSaid : Prop := fnLooksUptoRow.holds Try.pinned (OpenSpec.upto fnLooksSpec)

/-- 'laws.FnExactDirectoryFault', WHERE WHAT IT READS IS OF BULK AT MOST 1048576: true; the input reads as it did. -/
def fnExactDirectoryFaultUptoRow : OpenClaim := { program := "ythmnjojjnlnbjaa", sum := "874d8f72aa8f77e5a9d47e8ace42b75e2ad80aaca8ab06fe244bcf76470371f8", func := "loop.example/g00602/laws.FnExactDirectoryFault", spec := "fnExactDirectoryFault", apart := false, narrowed := true }
def FnExactDirectoryFaultUptoSaid : Prop := fnExactDirectoryFaultUptoRow.holds Try.pinned (OpenSpec.upto fnExactDirectoryFaultSpec)

/-- 'laws.FnExactOwnerOf', WHERE WHAT IT READS IS OF BULK AT MOST 1048576: true; the input reads as it did. -/
def fnExactOwnerOfUptoRow : OpenClaim := { program := "ythmnjojjnlnbjaa", sum := "874d8f72aa8f77e5a9d47e8ace42b75e2ad80aaca8ab06fe244bcf76470371f8", func := "loop.example/g00602/laws.FnExactOwnerOf", spec := "fnExactOwnerOf", apart := false, narrowed := true }
def FnExactOwnerOfUptoSaid : Prop := fnExactOwnerOfUptoRow.holds Try.pinned (OpenSpec.upto fnExactOwnerOfSpec)

/-- 'laws.FnExactLookRecord', WHERE WHAT IT READS IS OF BULK AT MOST 1048576: true; the input reads as it did. -/
def fnExactLookRecordUptoRow : OpenClaim := { program := "ythmnjojjnlnbjaa", sum := "874d8f72aa8f77e5a9d47e8ace42b75e2ad80aaca8ab06fe244bcf76470371f8", func := "loop.example/g00602/laws.FnExactLookRecord", spec := "fnExactLookRecord", apart := false, narrowed := true }
def FnExactLookRecordUptoSaid : Prop := fnExactLookRecordUptoRow.holds Try.pinned (OpenSpec.upto fnExactLookRecordSpec)

/-- 'laws.FnExactUpdateRecord', WHERE WHAT IT READS IS OF BULK AT MOST 1048576: true; the input reads as it did. -/
def fnExactUpdateRecordUptoRow : OpenClaim := { program := "ythmnjojjnlnbjaa", sum := "874d8f72aa8f77e5a9d47e8ace42b75e2ad80aaca8ab06fe244bcf76470371f8", func := "loop.example/g00602/laws.FnExactUpdateRecord", spec := "fnExactUpdateRecord", unfollowed := true, recurses := true, apart := false, narrowed := true }
def FnExactUpdateRecordUptoSaid : Prop := fnExactUpdateRecordUptoRow.holds Try.pinned (OpenSpec.upto fnExactUpdateRecordSpec)

/-- 'laws.FnExactSlotsOf', WHERE WHAT IT READS IS OF BULK AT MOST 1048576: true; the input reads as it did. -/
def fnExactSlotsOfUptoRow : OpenClaim := { program := "ythmnjojjnlnbjaa", sum := "874d8f72aa8f77e5a9d47e8ace42b75e2ad80aaca8ab06fe244bcf76470371f8", func := "loop.example/g00602/laws.FnExactSlotsOf", spec := "fnExactSlotsOf", apart := false, narrowed := true }
def FnExactSlotsOfUptoSaid : Prop := fnExactSlotsOfUptoRow.holds Try.pinned (OpenSpec.upto fnExactSlotsOfSpec)

/-- 'laws.FnExactSameDirectories', WHERE WHAT IT READS IS OF BULK AT MOST 1048576: true; the input reads as it did. -/
def fnExactSameDirectoriesUptoRow : OpenClaim := { program := "ythmnjojjnlnbjaa", sum := "874d8f72aa8f77e5a9d47e8ace42b75e2ad80aaca8ab06fe244bcf76470371f8", func := "loop.example/g00602/laws.FnExactSameDirectories", spec := "fnExactSameDirectories", apart := false, narrowed := true }
def FnExactSameDirectoriesUptoSaid : Prop := fnExactSameDirectoriesUptoRow.holds Try.pinned (OpenSpec.upto fnExactSameDirectoriesSpec)

/-- 'laws.FnExactAnswerOf', WHERE WHAT IT READS IS OF BULK AT MOST 1048576: true; the input reads as it did. -/
def fnExactAnswerOfUptoRow : OpenClaim := { program := "ythmnjojjnlnbjaa", sum := "874d8f72aa8f77e5a9d47e8ace42b75e2ad80aaca8ab06fe244bcf76470371f8", func := "loop.example/g00602/laws.FnExactAnswerOf", spec := "fnExactAnswerOf", apart := false, narrowed := true }
def FnExactAnswerOfUptoSaid : Prop := fnExactAnswerOfUptoRow.holds Try.pinned (OpenSpec.upto fnExactAnswerOfSpec)

end Rows
end Go.Proofs.Ythmnjojjnlnbjaa
