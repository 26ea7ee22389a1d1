/-
  No cell of these rows narrows 'for every input' (looked for: loops, veiled, ifaces, maps, wideKeys, modest, calm, conditions, laid).
  DERIVED. THE GIVEN ROWS OF THIS SEAT. 8 by the template 'for every input the law returns true; each argument reads behind the call as it read before'; 0 by the template 'total and deterministic' (their statements: YtgflamlfplpfdaaTotals.lean).
  GIVEN WITH THE SEED: the statements are not yours to turn. If you find one false, say at which input.
  Laid BY PROGRAM, IN A SANDBOX (cutbox-rows.mjs): the forced cells as the released guide's own fill.sh prints them over the translation 6b5cf7c2b6621462… (all of the seat's roots in one cut). By AI agents, Wed Nov 11 2026. No macro, syntax, notation, axiom, sorry.
-/
import Derived.Test.YtgflamlfplpfdaaChecked
import GoSem.Claim
import GoSem.ClaimJoined
import GoSem.ClaimMapViews
import Derived.JoinedTies
import Derived.KernelRfl
namespace Go.Proofs.Ytgflamlfplpfdaa
/- THE CELL 'sum', in the pinned program and in every row, IS THE sha256 OF THE DUMP (.gsa) THAT YtgflamlfplpfdaaProg.lean LOADS. Nothing in Lean hashes anything: it is a label: what it is worth is what the hold of that sum in a sandbox is worth. -/
noncomputable def Try.pinned : Pinned := { name := "ytgflamlfplpfdaa", sum := "6b5cf7c2b662146255394530628698d32b3c7e9fbe63da54dbea1eda9316be5e", checked := Try.checked }
namespace Rows
def none {H : Type} : Left H := { results := [], args := [] }

/-- 'laws.FnSlots': WHATEVER THE INPUT: true; the input reads as it did. -/
def fnSlotsSpec : ChangeSpec := { name := "fnSlots", fn := fun _ => fun
  | [d] => { results := [.lit (.bool true)], args := [d] }
  | _ => none }
def fnSlotsRow : OpenClaim := { program := "ytgflamlfplpfdaa", sum := "6b5cf7c2b662146255394530628698d32b3c7e9fbe63da54dbea1eda9316be5e", func := "loop.example/g00602/laws.FnSlots", spec := "fnSlots", unfollowed := true, recurses := true, apart := false }
def FnSlotsSaid : Prop := fnSlotsRow.holds Try.pinned (OpenSpec.ofChange fnSlotsSpec)

/-- ITS FALSE NEIGHBOUR: 'it returns false'. Refute it at one input. -/
def fnSlotsWrong : ChangeSpec := { name := "fnSlots", fn := fun _ => fun
  | [d] => { results := [.lit (.bool false)], args := [d] }
  | _ => none }
def FnSlotsWrongFalsely : Prop := fnSlotsRow.holds Try.pinned (OpenSpec.ofChange fnSlotsWrong)

/-- 'laws.FnOldProofs': WHATEVER THE INPUT: true; the input reads as it did. -/
def fnOldProofsSpec : ChangeSpec := { name := "fnOldProofs", fn := fun _ => fun
  | [d] => { results := [.lit (.bool true)], args := [d] }
  | _ => none }
def fnOldProofsRow : OpenClaim := { program := "ytgflamlfplpfdaa", sum := "6b5cf7c2b662146255394530628698d32b3c7e9fbe63da54dbea1eda9316be5e", func := "loop.example/g00602/laws.FnOldProofs", spec := "fnOldProofs", unfollowed := true, recurses := true, apart := false }
def FnOldProofsSaid : Prop := fnOldProofsRow.holds Try.pinned (OpenSpec.ofChange fnOldProofsSpec)

/-- ITS FALSE NEIGHBOUR: 'it returns false'. Refute it at one input. -/
def fnOldProofsWrong : ChangeSpec := { name := "fnOldProofs", fn := fun _ => fun
  | [d] => { results := [.lit (.bool false)], args := [d] }
  | _ => none }
def FnOldProofsWrongFalsely : Prop := fnOldProofsRow.holds Try.pinned (OpenSpec.ofChange fnOldProofsWrong)

/-- 'laws.FnOldTrue': WHATEVER THE INPUT: true; the input reads as it did. -/
def fnOldTrueSpec : ChangeSpec := { name := "fnOldTrue", fn := fun _ => fun
  | [d] => { results := [.lit (.bool true)], args := [d] }
  | _ => none }
def fnOldTrueRow : OpenClaim := { program := "ytgflamlfplpfdaa", sum := "6b5cf7c2b662146255394530628698d32b3c7e9fbe63da54dbea1eda9316be5e", func := "loop.example/g00602/laws.FnOldTrue", spec := "fnOldTrue", unfollowed := true, recurses := true, apart := false }
def FnOldTrueSaid : Prop := fnOldTrueRow.holds Try.pinned (OpenSpec.ofChange fnOldTrueSpec)

/-- ITS FALSE NEIGHBOUR: 'it returns false'. Refute it at one input. -/
def fnOldTrueWrong : ChangeSpec := { name := "fnOldTrue", fn := fun _ => fun
  | [d] => { results := [.lit (.bool false)], args := [d] }
  | _ => none }
def FnOldTrueWrongFalsely : Prop := fnOldTrueRow.holds Try.pinned (OpenSpec.ofChange fnOldTrueWrong)

/-- 'laws.FnExactSlotsFault': WHATEVER THE INPUT: true; the input reads as it did. -/
def fnExactSlotsFaultSpec : ChangeSpec := { name := "fnExactSlotsFault", fn := fun _ => fun
  | [d] => { results := [.lit (.bool true)], args := [d] }
  | _ => none }
def fnExactSlotsFaultRow : OpenClaim := { program := "ytgflamlfplpfdaa", sum := "6b5cf7c2b662146255394530628698d32b3c7e9fbe63da54dbea1eda9316be5e", func := "loop.example/g00602/laws.FnExactSlotsFault", spec := "fnExactSlotsFault", apart := false }
def FnExactSlotsFaultSaid : Prop := fnExactSlotsFaultRow.holds Try.pinned (OpenSpec.ofChange fnExactSlotsFaultSpec)

/-- ITS FALSE NEIGHBOUR: 'it returns false'. Refute it at one input. -/
def fnExactSlotsFaultWrong : ChangeSpec := { name := "fnExactSlotsFault", fn := fun _ => fun
  | [d] => { results := [.lit (.bool false)], args := [d] }
  | _ => none }
def FnExactSlotsFaultWrongFalsely : Prop := fnExactSlotsFaultRow.holds Try.pinned (OpenSpec.ofChange fnExactSlotsFaultWrong)

/-- 'laws.FnExactEmptySum': WHATEVER THE INPUT: true; the input reads as it did. -/
def fnExactEmptySumSpec : ChangeSpec := { name := "fnExactEmptySum", fn := fun _ => fun
  | [d] => { results := [.lit (.bool true)], args := [d] }
  | _ => none }
def fnExactEmptySumRow : OpenClaim := { program := "ytgflamlfplpfdaa", sum := "6b5cf7c2b662146255394530628698d32b3c7e9fbe63da54dbea1eda9316be5e", func := "loop.example/g00602/laws.FnExactEmptySum", spec := "fnExactEmptySum", apart := false }
def FnExactEmptySumSaid : Prop := fnExactEmptySumRow.holds Try.pinned (OpenSpec.ofChange fnExactEmptySumSpec)

/-- ITS FALSE NEIGHBOUR: 'it returns false'. Refute it at one input. -/
def fnExactEmptySumWrong : ChangeSpec := { name := "fnExactEmptySum", fn := fun _ => fun
  | [d] => { results := [.lit (.bool false)], args := [d] }
  | _ => none }
def FnExactEmptySumWrongFalsely : Prop := fnExactEmptySumRow.holds Try.pinned (OpenSpec.ofChange fnExactEmptySumWrong)

/-- 'laws.FnExactOldRoot': WHATEVER THE INPUT: true; the input reads as it did. -/
def fnExactOldRootSpec : ChangeSpec := { name := "fnExactOldRoot", fn := fun _ => fun
  | [d] => { results := [.lit (.bool true)], args := [d] }
  | _ => none }
def fnExactOldRootRow : OpenClaim := { program := "ytgflamlfplpfdaa", sum := "6b5cf7c2b662146255394530628698d32b3c7e9fbe63da54dbea1eda9316be5e", func := "loop.example/g00602/laws.FnExactOldRoot", spec := "fnExactOldRoot", recurses := true, apart := false }
def FnExactOldRootSaid : Prop := fnExactOldRootRow.holds Try.pinned (OpenSpec.ofChange fnExactOldRootSpec)

/-- ITS FALSE NEIGHBOUR: 'it returns false'. Refute it at one input. -/
def fnExactOldRootWrong : ChangeSpec := { name := "fnExactOldRoot", fn := fun _ => fun
  | [d] => { results := [.lit (.bool false)], args := [d] }
  | _ => none }
def FnExactOldRootWrongFalsely : Prop := fnExactOldRootRow.holds Try.pinned (OpenSpec.ofChange fnExactOldRootWrong)

/-- 'laws.FnExactOldPath': WHATEVER THE INPUT: true; the input reads as it did. -/
def fnExactOldPathSpec : ChangeSpec := { name := "fnExactOldPath", fn := fun _ => fun
  | [d1, d2] => { results := [.lit (.bool true)], args := [d1, d2] }
  | _ => none }
def fnExactOldPathRow : OpenClaim := { program := "ytgflamlfplpfdaa", sum := "6b5cf7c2b662146255394530628698d32b3c7e9fbe63da54dbea1eda9316be5e", func := "loop.example/g00602/laws.FnExactOldPath", spec := "fnExactOldPath", unfollowed := true, recurses := true, apart := false }
def FnExactOldPathSaid : Prop := fnExactOldPathRow.holds Try.pinned (OpenSpec.ofChange fnExactOldPathSpec)

/-- ITS FALSE NEIGHBOUR: 'it returns false'. Refute it at one input. -/
def fnExactOldPathWrong : ChangeSpec := { name := "fnExactOldPath", fn := fun _ => fun
  | [d1, d2] => { results := [.lit (.bool false)], args := [d1, d2] }
  | _ => none }
def FnExactOldPathWrongFalsely : Prop := fnExactOldPathRow.holds Try.pinned (OpenSpec.ofChange fnExactOldPathWrong)

/-- 'laws.FnExactPutSlot': WHATEVER THE INPUT: true; the input reads as it did. -/
def fnExactPutSlotSpec : ChangeSpec := { name := "fnExactPutSlot", fn := fun _ => fun
  | [d1, d2] => { results := [.lit (.bool true)], args := [d1, d2] }
  | _ => none }
def fnExactPutSlotRow : OpenClaim := { program := "ytgflamlfplpfdaa", sum := "6b5cf7c2b662146255394530628698d32b3c7e9fbe63da54dbea1eda9316be5e", func := "loop.example/g00602/laws.FnExactPutSlot", spec := "fnExactPutSlot", unfollowed := true, recurses := true, apart := false }
def FnExactPutSlotSaid : Prop := fnExactPutSlotRow.holds Try.pinned (OpenSpec.ofChange fnExactPutSlotSpec)

/-- ITS FALSE NEIGHBOUR: 'it returns false'. Refute it at one input. -/
def fnExactPutSlotWrong : ChangeSpec := { name := "fnExactPutSlot", fn := fun _ => fun
  | [d1, d2] => { results := [.lit (.bool false)], args := [d1, d2] }
  | _ => none }
def FnExactPutSlotWrongFalsely : Prop := fnExactPutSlotRow.holds Try.pinned (OpenSpec.ofChange fnExactPutSlotWrong)

/- THE SECOND FORM. 'bulk': how many values and letters a reading holds, each counted each time it is reached (what is shared counts as often as it is met; a slice's spare places count too). A statement '..UptoSaid' is the law's where the arguments, and the package variables that the reading takes, are together of bulk at most 1048576: NARROWER than '..Said'. Prove '..Said' where nothing that the law and all that it calls make is longer than what came in: it says more and counts as full. Else prove '..UptoSaid'. A law counts once. -/
mutual
def uptoBulk {H : Type} : DataW H → Nat
  | .lit (.string bytes) => bytes.length + 1
  | .lit _ => 1
  | .nil => 1
  | .ptr d => uptoBulk d + 1
  | .slice elems spare => uptoBulkAll elems + uptoBulkAll spare + 1
  | .agg parts => uptoBulkAll parts + 1
  | .iface _ d => uptoBulk d + 1
  | .map entries => uptoBulkEntries entries + 1
  | .held _ => 1
def uptoBulkAll {H : Type} : List (DataW H) → Nat
  | [] => 0
  | d :: r => uptoBulk d + uptoBulkAll r
def uptoBulkEntries {H : Type} : List (Lit × DataW H) → Nat
  | [] => 0
  | x :: r => uptoBulkEntry x + uptoBulkEntries r
def uptoBulkEntry {H : Type} : Lit × DataW H → Nat
  | (.string bytes, d) => bytes.length + uptoBulk d + 1
  | (_, d) => uptoBulk d + 1
 end
def uptoSmall : (H : Type) → List (DataW H) → Bool := fun _ ds => decide (uptoBulkAll ds ≤ 1048576)
def OpenSpec.upto (s : _root_.Go.ChangeSpec) : _root_.Go.OpenSpec := { _root_.Go.OpenSpec.ofChange s with cond := some uptoSmall }

/-- 'laws.FnSlots', WHERE WHAT IT READS IS OF BULK AT MOST 1048576: true; the input reads as it did. -/
def fnSlotsUptoRow : OpenClaim := { program := "ytgflamlfplpfdaa", sum := "6b5cf7c2b662146255394530628698d32b3c7e9fbe63da54dbea1eda9316be5e", func := "loop.example/g00602/laws.FnSlots", spec := "fnSlots", unfollowed := true, recurses := true, apart := false, narrowed := true }
def FnSlotsUptoSaid : Prop := fnSlotsUptoRow.holds Try.pinned (OpenSpec.upto fnSlotsSpec)

/-- 'laws.FnOldProofs', WHERE WHAT IT READS IS OF BULK AT MOST 1048576: true; the input reads as it did. -/
def fnOldProofsUptoRow : OpenClaim := { program := "ytgflamlfplpfdaa", sum := "6b5cf7c2b662146255394530628698d32b3c7e9fbe63da54dbea1eda9316be5e", func := "loop.example/g00602/laws.FnOldProofs", spec := "fnOldProofs", unfollowed := true, recurses := true, apart := false, narrowed := true }
def FnOldProofsUptoSaid : Prop := fnOldProofsUptoRow.holds Try.pinned (OpenSpec.upto fnOldProofsSpec)

/-- 'laws.FnOldTrue', WHERE WHAT IT READS IS OF BULK AT MOST 1048576: true; the input reads as it did. -/
def fnOldTrueUptoRow : OpenClaim := { program := "ytgflamlfplpfdaa", sum := "6b5cf7c2b662146255394530628698d32b3c7e9fbe63da54dbea1eda9316be5e", func := "loop.example/g00602/laws.FnOldTrue", spec := "fnOldTrue", unfollowed := true, recurses := true, apart := false, narrowed := true }
def FnOldTrueUptoSaid : Prop := fnOldTrueUptoRow.holds Try.pinned (OpenSpec.upto fnOldTrueSpec)

/-- 'laws.FnExactSlotsFault', WHERE WHAT IT READS IS OF BULK AT MOST 1048576: true; the input reads as it did. -/
def fnExactSlotsFaultUptoRow : OpenClaim := { program := "ytgflamlfplpfdaa", sum := "6b5cf7c2b662146255394530628698d32b3c7e9fbe63da54dbea1eda9316be5e", func := "loop.example/g00602/laws.FnExactSlotsFault", spec := "fnExactSlotsFault", apart := false, narrowed := true }
def FnExactSlotsFaultUptoSaid : Prop := fnExactSlotsFaultUptoRow.holds Try.pinned (OpenSpec.upto fnExactSlotsFaultSpec)

/-- 'laws.FnExactEmptySum', WHERE WHAT IT READS IS OF BULK AT MOST 1048576: true; the input reads as it did. -/
def fnExactEmptySumUptoRow : OpenClaim := { program := "ytgflamlfplpfdaa", sum := "6b5cf7c2b662146255394530628698d32b3c7e9fbe63da54dbea1eda9316be5e", func := "loop.example/g00602/laws.FnExactEmptySum", spec := "fnExactEmptySum", apart := false, narrowed := true }
def FnExactEmptySumUptoSaid : Prop := fnExactEmptySumUptoRow.holds Try.pinned (OpenSpec.upto fnExactEmptySumSpec)

/-- 'laws.FnExactOldRoot', WHERE WHAT IT READS IS OF BULK AT MOST 1048576: true; the input reads as it did. -/
def fnExactOldRootUptoRow : OpenClaim := { program := "ytgflamlfplpfdaa", sum := "6b5cf7c2b662146255394530628698d32b3c7e9fbe63da54dbea1eda9316be5e", func := "loop.example/g00602/laws.FnExactOldRoot", spec := "fnExactOldRoot", recurses := true, apart := false, narrowed := true }
def FnExactOldRootUptoSaid : Prop := fnExactOldRootUptoRow.holds Try.pinned (OpenSpec.upto fnExactOldRootSpec)

/-- 'laws.FnExactOldPath', WHERE WHAT IT READS IS OF BULK AT MOST 1048576: true; the input reads as it did. -/
def fnExactOldPathUptoRow : OpenClaim := { program := "ytgflamlfplpfdaa", sum := "6b5cf7c2b662146255394530628698d32b3c7e9fbe63da54dbea1eda9316be5e", func := "loop.example/g00602/laws.FnExactOldPath", spec := "fnExactOldPath", unfollowed := true, recurses := true, apart := false, narrowed := true }
def FnExactOldPathUptoSaid : Prop := fnExactOldPathUptoRow.holds Try.pinned (OpenSpec.upto fnExactOldPathSpec)

/-- 'laws.FnExactPutSlot', WHERE WHAT IT READS IS OF BULK AT MOST 1048576: true; the input reads as it did. -/
def fnExactPutSlotUptoRow : OpenClaim := { program := "ytgflamlfplpfdaa", sum := "6b5cf7c2b662146255394530628698d32b3c7e9fbe63da54dbea1eda9316be5e", func := "loop.example/g00602/laws.FnExactPutSlot", spec := "fnExactPutSlot", unfollowed := true, recurses := true, apart := false, narrowed := true }
def FnExactPutSlotUptoSaid : Prop := fnExactPutSlotUptoRow.holds Try.pinned (OpenSpec.upto fnExactPutSlotSpec)

end Rows
end Go.Proofs.Ytgflamlfplpfdaa
