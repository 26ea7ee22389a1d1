/-
  No cell of these rows narrows 'for every input' (looked for: loops, veiled, ifaces, maps, wideKeys, modest, calm, conditions, laid).
  DERIVED. THE GIVEN ROWS OF THIS SEAT. 6 by the template 'for every input the law returns true; each argument reads behind the call as it read before'; 0 by the template 'total and deterministic' (their statements: YtgflamlfplpfdabTotals.lean).
  GIVEN WITH THE SEED: the statements are not yours to turn. If you find one false, say at which input.
  Laid BY PROGRAM, IN A SANDBOX (cutbox-rows.mjs): the forced cells as the released guide's own fill.sh prints them over the translation cc3a4a1929517c3e… (all of the seat's roots in one cut). By AI agents, Wed Nov 11 2026. No macro, syntax, notation, axiom, sorry.
-/
import Derived.Test.YtgflamlfplpfdabChecked
import GoSem.Claim
import GoSem.ClaimJoined
import GoSem.ClaimMapViews
import Derived.JoinedTies
import Derived.KernelRfl
namespace Go.Proofs.Ytgflamlfplpfdab
/- THE CELL 'sum', in the pinned program and in every row, IS THE sha256 OF THE DUMP (.gsa) THAT YtgflamlfplpfdabProg.lean LOADS. Nothing in Lean hashes anything: it is a label: what it is worth is what the hold of that sum in a sandbox is worth. -/
noncomputable def Try.pinned : Pinned := { name := "ytgflamlfplpfdab", sum := "cc3a4a1929517c3ec6ee09ada9575c1421285a6f5688f4c7635086f3f5ac2f89", checked := Try.checked }
namespace Rows
def none {H : Type} : Left H := { results := [], args := [] }

/-- 'laws.FnExactFindSlot': WHATEVER THE INPUT: true; the input reads as it did. -/
def fnExactFindSlotSpec : ChangeSpec := { name := "fnExactFindSlot", fn := fun _ => fun
  | [d1, d2] => { results := [.lit (.bool true)], args := [d1, d2] }
  | _ => none }
def fnExactFindSlotRow : OpenClaim := { program := "ytgflamlfplpfdab", sum := "cc3a4a1929517c3ec6ee09ada9575c1421285a6f5688f4c7635086f3f5ac2f89", func := "loop.example/g00602/laws.FnExactFindSlot", spec := "fnExactFindSlot", unfollowed := true, recurses := true, apart := false }
def FnExactFindSlotSaid : Prop := fnExactFindSlotRow.holds Try.pinned (OpenSpec.ofChange fnExactFindSlotSpec)

/-- ITS FALSE NEIGHBOUR: 'it returns false'. Refute it at one input. -/
def fnExactFindSlotWrong : ChangeSpec := { name := "fnExactFindSlot", fn := fun _ => fun
  | [d1, d2] => { results := [.lit (.bool false)], args := [d1, d2] }
  | _ => none }
def FnExactFindSlotWrongFalsely : Prop := fnExactFindSlotRow.holds Try.pinned (OpenSpec.ofChange fnExactFindSlotWrong)

/-- 'laws.FnExactCutSlots': WHATEVER THE INPUT: true; the input reads as it did. -/
def fnExactCutSlotsSpec : ChangeSpec := { name := "fnExactCutSlots", fn := fun _ => fun
  | [d1, d2, d3] => { results := [.lit (.bool true)], args := [d1, d2, d3] }
  | _ => none }
def fnExactCutSlotsRow : OpenClaim := { program := "ytgflamlfplpfdab", sum := "cc3a4a1929517c3ec6ee09ada9575c1421285a6f5688f4c7635086f3f5ac2f89", func := "loop.example/g00602/laws.FnExactCutSlots", spec := "fnExactCutSlots", unfollowed := true, recurses := true, apart := false }
def FnExactCutSlotsSaid : Prop := fnExactCutSlotsRow.holds Try.pinned (OpenSpec.ofChange fnExactCutSlotsSpec)

/-- ITS FALSE NEIGHBOUR: 'it returns false'. Refute it at one input. -/
def fnExactCutSlotsWrong : ChangeSpec := { name := "fnExactCutSlots", fn := fun _ => fun
  | [d1, d2, d3] => { results := [.lit (.bool false)], args := [d1, d2, d3] }
  | _ => none }
def FnExactCutSlotsWrongFalsely : Prop := fnExactCutSlotsRow.holds Try.pinned (OpenSpec.ofChange fnExactCutSlotsWrong)

/-- 'laws.FnExactClimbOld': WHATEVER THE INPUT: true; the input reads as it did. -/
def fnExactClimbOldSpec : ChangeSpec := { name := "fnExactClimbOld", fn := fun _ => fun
  | [d1, d2, d3, d4] => { results := [.lit (.bool true)], args := [d1, d2, d3, d4] }
  | _ => none }
def fnExactClimbOldRow : OpenClaim := { program := "ytgflamlfplpfdab", sum := "cc3a4a1929517c3ec6ee09ada9575c1421285a6f5688f4c7635086f3f5ac2f89", func := "loop.example/g00602/laws.FnExactClimbOld", spec := "fnExactClimbOld", apart := false }
def FnExactClimbOldSaid : Prop := fnExactClimbOldRow.holds Try.pinned (OpenSpec.ofChange fnExactClimbOldSpec)

/-- ITS FALSE NEIGHBOUR: 'it returns false'. Refute it at one input. -/
def fnExactClimbOldWrong : ChangeSpec := { name := "fnExactClimbOld", fn := fun _ => fun
  | [d1, d2, d3, d4] => { results := [.lit (.bool false)], args := [d1, d2, d3, d4] }
  | _ => none }
def FnExactClimbOldWrongFalsely : Prop := fnExactClimbOldRow.holds Try.pinned (OpenSpec.ofChange fnExactClimbOldWrong)

/-- 'laws.FnExactAcceptOld': WHATEVER THE INPUT: true; the input reads as it did. -/
def fnExactAcceptOldSpec : ChangeSpec := { name := "fnExactAcceptOld", fn := fun _ => fun
  | [d1, d2, d3, d4, d5] => { results := [.lit (.bool true)], args := [d1, d2, d3, d4, d5] }
  | _ => none }
def fnExactAcceptOldRow : OpenClaim := { program := "ytgflamlfplpfdab", sum := "cc3a4a1929517c3ec6ee09ada9575c1421285a6f5688f4c7635086f3f5ac2f89", func := "loop.example/g00602/laws.FnExactAcceptOld", spec := "fnExactAcceptOld", apart := false }
def FnExactAcceptOldSaid : Prop := fnExactAcceptOldRow.holds Try.pinned (OpenSpec.ofChange fnExactAcceptOldSpec)

/-- ITS FALSE NEIGHBOUR: 'it returns false'. Refute it at one input. -/
def fnExactAcceptOldWrong : ChangeSpec := { name := "fnExactAcceptOld", fn := fun _ => fun
  | [d1, d2, d3, d4, d5] => { results := [.lit (.bool false)], args := [d1, d2, d3, d4, d5] }
  | _ => none }
def FnExactAcceptOldWrongFalsely : Prop := fnExactAcceptOldRow.holds Try.pinned (OpenSpec.ofChange fnExactAcceptOldWrong)

/-- 'laws.FnExactOldClash': WHATEVER THE INPUT: true; the input reads as it did. -/
def fnExactOldClashSpec : ChangeSpec := { name := "fnExactOldClash", fn := fun _ => fun
  | [d1, d2, d3, d4, d5] => { results := [.lit (.bool true)], args := [d1, d2, d3, d4, d5] }
  | _ => none }
def fnExactOldClashRow : OpenClaim := { program := "ytgflamlfplpfdab", sum := "cc3a4a1929517c3ec6ee09ada9575c1421285a6f5688f4c7635086f3f5ac2f89", func := "loop.example/g00602/laws.FnExactOldClash", spec := "fnExactOldClash", unfollowed := true, recurses := true, apart := false }
def FnExactOldClashSaid : Prop := fnExactOldClashRow.holds Try.pinned (OpenSpec.ofChange fnExactOldClashSpec)

/-- ITS FALSE NEIGHBOUR: 'it returns false'. Refute it at one input. -/
def fnExactOldClashWrong : ChangeSpec := { name := "fnExactOldClash", fn := fun _ => fun
  | [d1, d2, d3, d4, d5] => { results := [.lit (.bool false)], args := [d1, d2, d3, d4, d5] }
  | _ => none }
def FnExactOldClashWrongFalsely : Prop := fnExactOldClashRow.holds Try.pinned (OpenSpec.ofChange fnExactOldClashWrong)

/-- 'laws.FnExactLeafBytes': WHATEVER THE INPUT: true; the input reads as it did. -/
def fnExactLeafBytesSpec : ChangeSpec := { name := "fnExactLeafBytes", fn := fun _ => fun
  | [d1, d2, d3] => { results := [.lit (.bool true)], args := [d1, d2, d3] }
  | _ => none }
def fnExactLeafBytesRow : OpenClaim := { program := "ytgflamlfplpfdab", sum := "cc3a4a1929517c3ec6ee09ada9575c1421285a6f5688f4c7635086f3f5ac2f89", func := "loop.example/g00602/laws.FnExactLeafBytes", spec := "fnExactLeafBytes", apart := false }
def FnExactLeafBytesSaid : Prop := fnExactLeafBytesRow.holds Try.pinned (OpenSpec.ofChange fnExactLeafBytesSpec)

/-- ITS FALSE NEIGHBOUR: 'it returns false'. Refute it at one input. -/
def fnExactLeafBytesWrong : ChangeSpec := { name := "fnExactLeafBytes", fn := fun _ => fun
  | [d1, d2, d3] => { results := [.lit (.bool false)], args := [d1, d2, d3] }
  | _ => none }
def FnExactLeafBytesWrongFalsely : Prop := fnExactLeafBytesRow.holds Try.pinned (OpenSpec.ofChange fnExactLeafBytesWrong)

/- THE SECOND FORM. 'bulk': how many values and letters a reading holds, each counted each time it is reached (what is shared counts as often as it is met; a slice's spare places count too). A statement '..UptoSaid' is the law's where the arguments, and the package variables that the reading takes, are together of bulk at most 1048576: NARROWER than '..Said'. Prove '..Said' where nothing that the law and all that it calls make is longer than what came in: it says more and counts as full. Else prove '..UptoSaid'. A law counts once. -/
mutual
def uptoBulk {H : Type} : DataW H → Nat
  | .lit (.string bytes) => bytes.length + 1
  | .lit _ => 1
  | .nil => 1
  | .ptr d => uptoBulk d + 1
  | .slice elems spare => uptoBulkAll elems + uptoBulkAll spare + 1
  | .agg parts => uptoBulkAll parts + 1
  | .iface _ d => uptoBulk d + 1
  | .map entries => uptoBulkEntries entries + 1
  | .held _ => 1
def uptoBulkAll {H : Type} : List (DataW H) → Nat
  | [] => 0
  | d :: r => uptoBulk d + uptoBulkAll r
def uptoBulkEntries {H : Type} : List (Lit × DataW H) → Nat
  | [] => 0
  | x :: r => uptoBulkEntry x + uptoBulkEntries r
def uptoBulkEntry {H : Type} : Lit × DataW H → Nat
  | (.string bytes, d) => bytes.length + uptoBulk d + 1
  | (_, d) => uptoBulk d + 1
 end
def uptoSmall : (H : Type) → List (DataW H) → Bool := fun _ ds => decide (uptoBulkAll ds ≤ 1048576)
def OpenSpec.upto (s : _root_.Go.ChangeSpec) : _root_.Go.OpenSpec := { _root_.Go.OpenSpec.ofChange s with cond := some uptoSmall }

/-- 'laws.FnExactFindSlot', WHERE WHAT IT READS IS OF BULK AT MOST 1048576: true; the input reads as it did. -/
def fnExactFindSlotUptoRow : OpenClaim := { program := "ytgflamlfplpfdab", sum := "cc3a4a1929517c3ec6ee09ada9575c1421285a6f5688f4c7635086f3f5ac2f89", func := "loop.example/g00602/laws.FnExactFindSlot", spec := "fnExactFindSlot", unfollowed := true, recurses := true, apart := false, narrowed := true }
def FnExactFindSlotUptoSaid : Prop := fnExactFindSlotUptoRow.holds Try.pinned (OpenSpec.upto fnExactFindSlotSpec)

/-- 'laws.FnExactCutSlots', WHERE WHAT IT READS IS OF BULK AT MOST 1048576: true; the input reads as it did. -/
def fnExactCutSlotsUptoRow : OpenClaim := { program := "ytgflamlfplpfdab", sum := "cc3a4a1929517c3ec6ee09ada9575c1421285a6f5688f4c7635086f3f5ac2f89", func := "loop.example/g00602/laws.FnExactCutSlots", spec := "fnExactCutSlots", unfollowed := true, recurses := true, apart := false, narrowed := true }
def FnExactCutSlotsUptoSaid : Prop := fnExactCutSlotsUptoRow.holds Try.pinned (OpenSpec.upto fnExactCutSlotsSpec)

/-- 'laws.FnExactClimbOld', WHERE WHAT IT READS IS OF BULK AT MOST 1048576: true; the input reads as it did. -/
def fnExactClimbOldUptoRow : OpenClaim := { program := "ytgflamlfplpfdab", sum := "cc3a4a1929517c3ec6ee09ada9575c1421285a6f5688f4c7635086f3f5ac2f89", func := "loop.example/g00602/laws.FnExactClimbOld", spec := "fnExactClimbOld", apart := false, narrowed := true }
def FnExactClimbOldUptoSaid : Prop := fnExactClimbOldUptoRow.holds Try.pinned (OpenSpec.upto fnExactClimbOldSpec)

/-- 'laws.FnExactAcceptOld', WHERE WHAT IT READS IS OF BULK AT MOST 1048576: true; the input reads as it did. -/
def fnExactAcceptOldUptoRow : OpenClaim := { program := "ytgflamlfplpfdab", sum := "cc3a4a1929517c3ec6ee09ada9575c1421285a6f5688f4c7635086f3f5ac2f89", func := "loop.example/g00602/laws.FnExactAcceptOld", spec := "fnExactAcceptOld", apart := false, narrowed := true }
def FnExactAcceptOldUptoSaid : Prop := fnExactAcceptOldUptoRow.holds Try.pinned (OpenSpec.upto fnExactAcceptOldSpec)

/-- 'laws.FnExactOldClash', WHERE WHAT IT READS IS OF BULK AT MOST 1048576: true; the input reads as it did. -/
def fnExactOldClashUptoRow : OpenClaim := { program := "ytgflamlfplpfdab", sum := "cc3a4a1929517c3ec6ee09ada9575c1421285a6f5688f4c7635086f3f5ac2f89", func := "loop.example/g00602/laws.FnExactOldClash", spec := "fnExactOldClash", unfollowed := true, recurses := true, apart := false, narrowed := true }
def FnExactOldClashUptoSaid : Prop := fnExactOldClashUptoRow.holds Try.pinned (OpenSpec.upto fnExactOldClashSpec)

/-- 'laws.FnExactLeafBytes', WHERE WHAT IT READS IS OF BULK AT MOST 1048576: true; the input reads as it did. -/
def fnExactLeafBytesUptoRow : OpenClaim := { program := "ytgflamlfplpfdab", sum := "cc3a4a1929517c3ec6ee09ada9575c1421285a6f5688f4c7635086f3f5ac2f89", func := "loop.example/g00602/laws.FnExactLeafBytes", spec := "fnExactLeafBytes", apart := false, narrowed := true }
def FnExactLeafBytesUptoSaid : Prop := fnExactLeafBytesUptoRow.holds Try.pinned (OpenSpec.upto fnExactLeafBytesSpec)

end Rows
end Go.Proofs.Ytgflamlfplpfdab
