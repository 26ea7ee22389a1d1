/-
  No cell of these rows narrows 'for every input' (looked for: loops, veiled, ifaces, maps, wideKeys, modest, calm, conditions, laid).
  DERIVED. THE GIVEN ROWS OF THIS SEAT. 8 by the template 'for every input the law returns true; each argument reads behind the call as it read before'; 0 by the template 'total and deterministic' (their statements: YtonadfpblgmohaaTotals.lean).
  GIVEN WITH THE SEED: the statements are not yours to turn. If you find one false, say at which input.
  Laid BY PROGRAM, IN A SANDBOX (cutbox-rows.mjs): the forced cells as the released guide's own fill.sh prints them over the translation 369a9cbd5a1a5c09… (all of the seat's roots in one cut). By AI agents, Wed Nov 11 2026. No macro, syntax, notation, axiom, sorry.
-/
import Derived.Test.YtonadfpblgmohaaChecked
import GoSem.Claim
import GoSem.ClaimJoined
import GoSem.ClaimMapViews
import Derived.JoinedTies
import Derived.KernelRfl
namespace Go.Proofs.Ytonadfpblgmohaa
/- THE CELL 'sum', in the pinned program and in every row, IS THE sha256 OF THE DUMP (.gsa) THAT YtonadfpblgmohaaProg.lean LOADS. Nothing in Lean hashes anything: it is a label: what it is worth is what the hold of that sum in a sandbox is worth. -/
noncomputable def Try.pinned : Pinned := { name := "ytonadfpblgmohaa", sum := "369a9cbd5a1a5c095b5d3136a424fde9c8ba14abe79539ea198a589e3ea586c5", checked := Try.checked }
namespace Rows
def none {H : Type} : Left H := { results := [], args := [] }

/-- 'laws.FnTries': WHATEVER THE INPUT: true; the input reads as it did. -/
def fnTriesSpec : ChangeSpec := { name := "fnTries", fn := fun _ => fun
  | [d] => { results := [.lit (.bool true)], args := [d] }
  | _ => none }
def fnTriesRow : OpenClaim := { program := "ytonadfpblgmohaa", sum := "369a9cbd5a1a5c095b5d3136a424fde9c8ba14abe79539ea198a589e3ea586c5", func := "loop.example/g00602/laws.FnTries", spec := "fnTries", unfollowed := true, recurses := true, apart := false }
def FnTriesSaid : Prop := fnTriesRow.holds Try.pinned (OpenSpec.ofChange fnTriesSpec)

/-- ITS FALSE NEIGHBOUR: 'it returns false'. Refute it at one input. -/
def fnTriesWrong : ChangeSpec := { name := "fnTries", fn := fun _ => fun
  | [d] => { results := [.lit (.bool false)], args := [d] }
  | _ => none }
def FnTriesWrongFalsely : Prop := fnTriesRow.holds Try.pinned (OpenSpec.ofChange fnTriesWrong)

/-- 'laws.FnForks': WHATEVER THE INPUT: true; the input reads as it did. -/
def fnForksSpec : ChangeSpec := { name := "fnForks", fn := fun _ => fun
  | [d] => { results := [.lit (.bool true)], args := [d] }
  | _ => none }
def fnForksRow : OpenClaim := { program := "ytonadfpblgmohaa", sum := "369a9cbd5a1a5c095b5d3136a424fde9c8ba14abe79539ea198a589e3ea586c5", func := "loop.example/g00602/laws.FnForks", spec := "fnForks", unfollowed := true, recurses := true, apart := false }
def FnForksSaid : Prop := fnForksRow.holds Try.pinned (OpenSpec.ofChange fnForksSpec)

/-- ITS FALSE NEIGHBOUR: 'it returns false'. Refute it at one input. -/
def fnForksWrong : ChangeSpec := { name := "fnForks", fn := fun _ => fun
  | [d] => { results := [.lit (.bool false)], args := [d] }
  | _ => none }
def FnForksWrongFalsely : Prop := fnForksRow.holds Try.pinned (OpenSpec.ofChange fnForksWrong)

/-- 'laws.FnExactForkBit': WHATEVER THE INPUT: true; the input reads as it did. -/
def fnExactForkBitSpec : ChangeSpec := { name := "fnExactForkBit", fn := fun _ => fun
  | [d] => { results := [.lit (.bool true)], args := [d] }
  | _ => none }
def fnExactForkBitRow : OpenClaim := { program := "ytonadfpblgmohaa", sum := "369a9cbd5a1a5c095b5d3136a424fde9c8ba14abe79539ea198a589e3ea586c5", func := "loop.example/g00602/laws.FnExactForkBit", spec := "fnExactForkBit", unfollowed := true, recurses := true, apart := false }
def FnExactForkBitSaid : Prop := fnExactForkBitRow.holds Try.pinned (OpenSpec.ofChange fnExactForkBitSpec)

/-- ITS FALSE NEIGHBOUR: 'it returns false'. Refute it at one input. -/
def fnExactForkBitWrong : ChangeSpec := { name := "fnExactForkBit", fn := fun _ => fun
  | [d] => { results := [.lit (.bool false)], args := [d] }
  | _ => none }
def FnExactForkBitWrongFalsely : Prop := fnExactForkBitRow.holds Try.pinned (OpenSpec.ofChange fnExactForkBitWrong)

/-- 'laws.FnExactNewRoot': WHATEVER THE INPUT: true; the input reads as it did. -/
def fnExactNewRootSpec : ChangeSpec := { name := "fnExactNewRoot", fn := fun _ => fun
  | [d] => { results := [.lit (.bool true)], args := [d] }
  | _ => none }
def fnExactNewRootRow : OpenClaim := { program := "ytonadfpblgmohaa", sum := "369a9cbd5a1a5c095b5d3136a424fde9c8ba14abe79539ea198a589e3ea586c5", func := "loop.example/g00602/laws.FnExactNewRoot", spec := "fnExactNewRoot", unfollowed := true, recurses := true, apart := false }
def FnExactNewRootSaid : Prop := fnExactNewRootRow.holds Try.pinned (OpenSpec.ofChange fnExactNewRootSpec)

/-- ITS FALSE NEIGHBOUR: 'it returns false'. Refute it at one input. -/
def fnExactNewRootWrong : ChangeSpec := { name := "fnExactNewRoot", fn := fun _ => fun
  | [d] => { results := [.lit (.bool false)], args := [d] }
  | _ => none }
def FnExactNewRootWrongFalsely : Prop := fnExactNewRootRow.holds Try.pinned (OpenSpec.ofChange fnExactNewRootWrong)

/-- 'laws.FnExactNearSlot': WHATEVER THE INPUT: true; the input reads as it did. -/
def fnExactNearSlotSpec : ChangeSpec := { name := "fnExactNearSlot", fn := fun _ => fun
  | [d1, d2] => { results := [.lit (.bool true)], args := [d1, d2] }
  | _ => none }
def fnExactNearSlotRow : OpenClaim := { program := "ytonadfpblgmohaa", sum := "369a9cbd5a1a5c095b5d3136a424fde9c8ba14abe79539ea198a589e3ea586c5", func := "loop.example/g00602/laws.FnExactNearSlot", spec := "fnExactNearSlot", unfollowed := true, recurses := true, apart := false }
def FnExactNearSlotSaid : Prop := fnExactNearSlotRow.holds Try.pinned (OpenSpec.ofChange fnExactNearSlotSpec)

/-- ITS FALSE NEIGHBOUR: 'it returns false'. Refute it at one input. -/
def fnExactNearSlotWrong : ChangeSpec := { name := "fnExactNearSlot", fn := fun _ => fun
  | [d1, d2] => { results := [.lit (.bool false)], args := [d1, d2] }
  | _ => none }
def FnExactNearSlotWrongFalsely : Prop := fnExactNearSlotRow.holds Try.pinned (OpenSpec.ofChange fnExactNearSlotWrong)

/-- 'laws.FnExactNewTrail': WHATEVER THE INPUT: true; the input reads as it did. -/
def fnExactNewTrailSpec : ChangeSpec := { name := "fnExactNewTrail", fn := fun _ => fun
  | [d1, d2] => { results := [.lit (.bool true)], args := [d1, d2] }
  | _ => none }
def fnExactNewTrailRow : OpenClaim := { program := "ytonadfpblgmohaa", sum := "369a9cbd5a1a5c095b5d3136a424fde9c8ba14abe79539ea198a589e3ea586c5", func := "loop.example/g00602/laws.FnExactNewTrail", spec := "fnExactNewTrail", unfollowed := true, recurses := true, apart := false }
def FnExactNewTrailSaid : Prop := fnExactNewTrailRow.holds Try.pinned (OpenSpec.ofChange fnExactNewTrailSpec)

/-- ITS FALSE NEIGHBOUR: 'it returns false'. Refute it at one input. -/
def fnExactNewTrailWrong : ChangeSpec := { name := "fnExactNewTrail", fn := fun _ => fun
  | [d1, d2] => { results := [.lit (.bool false)], args := [d1, d2] }
  | _ => none }
def FnExactNewTrailWrongFalsely : Prop := fnExactNewTrailRow.holds Try.pinned (OpenSpec.ofChange fnExactNewTrailWrong)

/-- 'laws.FnExactForksOf': WHATEVER THE INPUT: true; the input reads as it did. -/
def fnExactForksOfSpec : ChangeSpec := { name := "fnExactForksOf", fn := fun _ => fun
  | [d] => { results := [.lit (.bool true)], args := [d] }
  | _ => none }
def fnExactForksOfRow : OpenClaim := { program := "ytonadfpblgmohaa", sum := "369a9cbd5a1a5c095b5d3136a424fde9c8ba14abe79539ea198a589e3ea586c5", func := "loop.example/g00602/laws.FnExactForksOf", spec := "fnExactForksOf", unfollowed := true, recurses := true, apart := false }
def FnExactForksOfSaid : Prop := fnExactForksOfRow.holds Try.pinned (OpenSpec.ofChange fnExactForksOfSpec)

/-- ITS FALSE NEIGHBOUR: 'it returns false'. Refute it at one input. -/
def fnExactForksOfWrong : ChangeSpec := { name := "fnExactForksOf", fn := fun _ => fun
  | [d] => { results := [.lit (.bool false)], args := [d] }
  | _ => none }
def FnExactForksOfWrongFalsely : Prop := fnExactForksOfRow.holds Try.pinned (OpenSpec.ofChange fnExactForksOfWrong)

/-- 'laws.FnExactNodeBytes': WHATEVER THE INPUT: true; the input reads as it did. -/
def fnExactNodeBytesSpec : ChangeSpec := { name := "fnExactNodeBytes", fn := fun _ => fun
  | [d] => { results := [.lit (.bool true)], args := [d] }
  | _ => none }
def fnExactNodeBytesRow : OpenClaim := { program := "ytonadfpblgmohaa", sum := "369a9cbd5a1a5c095b5d3136a424fde9c8ba14abe79539ea198a589e3ea586c5", func := "loop.example/g00602/laws.FnExactNodeBytes", spec := "fnExactNodeBytes", unfollowed := true, recurses := true, apart := false }
def FnExactNodeBytesSaid : Prop := fnExactNodeBytesRow.holds Try.pinned (OpenSpec.ofChange fnExactNodeBytesSpec)

/-- ITS FALSE NEIGHBOUR: 'it returns false'. Refute it at one input. -/
def fnExactNodeBytesWrong : ChangeSpec := { name := "fnExactNodeBytes", fn := fun _ => fun
  | [d] => { results := [.lit (.bool false)], args := [d] }
  | _ => none }
def FnExactNodeBytesWrongFalsely : Prop := fnExactNodeBytesRow.holds Try.pinned (OpenSpec.ofChange fnExactNodeBytesWrong)

/- THE SECOND FORM. 'bulk': how many values and letters a reading holds, each counted each time it is reached (what is shared counts as often as it is met; a slice's spare places count too). A statement '..UptoSaid' is the law's where the arguments, and the package variables that the reading takes, are together of bulk at most 1048576: NARROWER than '..Said'. Prove '..Said' where nothing that the law and all that it calls make is longer than what came in: it says more and counts as full. Else prove '..UptoSaid'. A law counts once. -/
mutual
def uptoBulk {H : Type} : DataW H → Nat
  | .lit (.string bytes) => bytes.length + 1
  | .lit _ => 1
  | .nil => 1
  | .ptr d => uptoBulk d + 1
  | .slice elems spare => uptoBulkAll elems + uptoBulkAll spare + 1
  | .agg parts => uptoBulkAll parts + 1
  | .iface _ d => uptoBulk d + 1
  | .map entries => uptoBulkEntries entries + 1
  | .held _ => 1
def uptoBulkAll {H : Type} : List (DataW H) → Nat
  | [] => 0
  | d :: r => uptoBulk d + uptoBulkAll r
def uptoBulkEntries {H : Type} : List (Lit × DataW H) → Nat
  | [] => 0
  | x :: r => uptoBulkEntry x + uptoBulkEntries r
def uptoBulkEntry {H : Type} : Lit × DataW H → Nat
  | (.string bytes, d) => bytes.length + uptoBulk d + 1
  | (_, d) => uptoBulk d + 1
 end
def uptoSmall : (H : Type) → List (DataW H) → Bool := fun _ ds => decide (uptoBulkAll ds ≤ 1048576)
def OpenSpec.upto (s : _root_.Go.ChangeSpec) : _root_.Go.OpenSpec := { _root_.Go.OpenSpec.ofChange s with cond := some uptoSmall }

/-- 'laws.FnTries', WHERE WHAT IT READS IS OF BULK AT MOST 1048576: true; the input reads as it did. -/
def fnTriesUptoRow : OpenClaim := { program := "ytonadfpblgmohaa", sum := "369a9cbd5a1a5c095b5d3136a424fde9c8ba14abe79539ea198a589e3ea586c5", func := "loop.example/g00602/laws.FnTries", spec := "fnTries", unfollowed := true, recurses := true, apart := false, narrowed := true }
def FnTriesUptoSaid : Prop := fnTriesUptoRow.holds Try.pinned (OpenSpec.upto fnTriesSpec)

/-- 'laws.FnForks', WHERE WHAT IT READS IS OF BULK AT MOST 1048576: true; the input reads as it did. -/
def fnForksUptoRow : OpenClaim := { program := "ytonadfpblgmohaa", sum := "369a9cbd5a1a5c095b5d3136a424fde9c8ba14abe79539ea198a589e3ea586c5", func := "loop.example/g00602/laws.FnForks", spec := "fnForks", unfollowed := true, recurses := true, apart := false, narrowed := true }
def FnForksUptoSaid : Prop := fnForksUptoRow.holds Try.pinned (OpenSpec.upto fnForksSpec)

/-- 'laws.FnExactForkBit', WHERE WHAT IT READS IS OF BULK AT MOST 1048576: true; the input reads as it did. -/
def fnExactForkBitUptoRow : OpenClaim := { program := "ytonadfpblgmohaa", sum := "369a9cbd5a1a5c095b5d3136a424fde9c8ba14abe79539ea198a589e3ea586c5", func := "loop.example/g00602/laws.FnExactForkBit", spec := "fnExactForkBit", unfollowed := true, recurses := true, apart := false, narrowed := true }
def FnExactForkBitUptoSaid : Prop := fnExactForkBitUptoRow.holds Try.pinned (OpenSpec.upto fnExactForkBitSpec)

/-- 'laws.FnExactNewRoot', WHERE WHAT IT READS IS OF BULK AT MOST 1048576: true; the input reads as it did. -/
def fnExactNewRootUptoRow : OpenClaim := { program := "ytonadfpblgmohaa", sum := "369a9cbd5a1a5c095b5d3136a424fde9c8ba14abe79539ea198a589e3ea586c5", func := "loop.example/g00602/laws.FnExactNewRoot", spec := "fnExactNewRoot", unfollowed := true, recurses := true, apart := false, narrowed := true }
def FnExactNewRootUptoSaid : Prop := fnExactNewRootUptoRow.holds Try.pinned (OpenSpec.upto fnExactNewRootSpec)

/-- 'laws.FnExactNearSlot', WHERE WHAT IT READS IS OF BULK AT MOST 1048576: true; the input reads as it did. -/
def fnExactNearSlotUptoRow : OpenClaim := { program := "ytonadfpblgmohaa", sum := "369a9cbd5a1a5c095b5d3136a424fde9c8ba14abe79539ea198a589e3ea586c5", func := "loop.example/g00602/laws.FnExactNearSlot", spec := "fnExactNearSlot", unfollowed := true, recurses := true, apart := false, narrowed := true }
def FnExactNearSlotUptoSaid : Prop := fnExactNearSlotUptoRow.holds Try.pinned (OpenSpec.upto fnExactNearSlotSpec)

/-- 'laws.FnExactNewTrail', WHERE WHAT IT READS IS OF BULK AT MOST 1048576: true; the input reads as it did. -/
def fnExactNewTrailUptoRow : OpenClaim := { program := "ytonadfpblgmohaa", sum := "369a9cbd5a1a5c095b5d3136a424fde9c8ba14abe79539ea198a589e3ea586c5", func := "loop.example/g00602/laws.FnExactNewTrail", spec := "fnExactNewTrail", unfollowed := true, recurses := true, apart := false, narrowed := true }
def FnExactNewTrailUptoSaid : Prop := fnExactNewTrailUptoRow.holds Try.pinned (OpenSpec.upto fnExactNewTrailSpec)

/-- 'laws.FnExactForksOf', WHERE WHAT IT READS IS OF BULK AT MOST 1048576: true; the input reads as it did. -/
def fnExactForksOfUptoRow : OpenClaim := { program := "ytonadfpblgmohaa", sum := "369a9cbd5a1a5c095b5d3136a424fde9c8ba14abe79539ea198a589e3ea586c5", func := "loop.example/g00602/laws.FnExactForksOf", spec := "fnExactForksOf", unfollowed := true, recurses := true, apart := false, narrowed := true }
def FnExactForksOfUptoSaid : Prop := fnExactForksOfUptoRow.holds Try.pinned (OpenSpec.upto fnExactForksOfSpec)

/-- 'laws.FnExactNodeBytes', WHERE WHAT IT READS IS OF BULK AT MOST 1048576: true; the input reads as it did. -/
def fnExactNodeBytesUptoRow : OpenClaim := { program := "ytonadfpblgmohaa", sum := "369a9cbd5a1a5c095b5d3136a424fde9c8ba14abe79539ea198a589e3ea586c5", func := "loop.example/g00602/laws.FnExactNodeBytes", spec := "fnExactNodeBytes", unfollowed := true, recurses := true, apart := false, narrowed := true }
def FnExactNodeBytesUptoSaid : Prop := fnExactNodeBytesUptoRow.holds Try.pinned (OpenSpec.upto fnExactNodeBytesSpec)

end Rows
end Go.Proofs.Ytonadfpblgmohaa
