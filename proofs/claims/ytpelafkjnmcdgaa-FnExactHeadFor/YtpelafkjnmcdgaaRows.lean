/-
  No cell of these rows narrows 'for every input' (looked for: loops, veiled, ifaces, maps, wideKeys, modest, calm, conditions, laid).
  DERIVED. THE GIVEN ROWS OF THIS SEAT. 9 by the template 'for every input the law returns true; each argument reads behind the call as it read before'; 0 by the template 'total and deterministic' (their statements: YtpelafkjnmcdgaaTotals.lean).
  GIVEN WITH THE SEED: the statements are not yours to turn. If you find one false, say at which input.
  Laid BY PROGRAM, IN A SANDBOX (cutbox-rows.mjs): the forced cells as the released guide's own fill.sh prints them over the translation e3f56a859d154fe9… (all of the seat's roots in one cut). By AI agents, Wed Nov 11 2026. No macro, syntax, notation, axiom, sorry.
-/
import Derived.Test.YtpelafkjnmcdgaaChecked
import GoSem.Claim
import GoSem.ClaimJoined
import GoSem.ClaimMapViews
import Derived.JoinedTies
import Derived.KernelRfl
namespace Go.Proofs.Ytpelafkjnmcdgaa
/- THE CELL 'sum', in the pinned program and in every row, IS THE sha256 OF THE DUMP (.gsa) THAT YtpelafkjnmcdgaaProg.lean LOADS. Nothing in Lean hashes anything: it is a label: what it is worth is what the hold of that sum in a sandbox is worth. -/
noncomputable def Try.pinned : Pinned := { name := "ytpelafkjnmcdgaa", sum := "e3f56a859d154fe967af2dfea51727c6ba040b0e2b7623136e021b2466168f08", checked := Try.checked }
namespace Rows
def none {H : Type} : Left H := { results := [], args := [] }

/-- 'laws.FnUpdates': WHATEVER THE INPUT: true; the input reads as it did. -/
def fnUpdatesSpec : ChangeSpec := { name := "fnUpdates", fn := fun _ => fun
  | [d] => { results := [.lit (.bool true)], args := [d] }
  | _ => none }
def fnUpdatesRow : OpenClaim := { program := "ytpelafkjnmcdgaa", sum := "e3f56a859d154fe967af2dfea51727c6ba040b0e2b7623136e021b2466168f08", func := "loop.example/g00602/laws.FnUpdates", spec := "fnUpdates", unfollowed := true, recurses := true, apart := false }
def FnUpdatesSaid : Prop := fnUpdatesRow.holds Try.pinned (OpenSpec.ofChange fnUpdatesSpec)

/-- ITS FALSE NEIGHBOUR: 'it returns false'. Refute it at one input. -/
def fnUpdatesWrong : ChangeSpec := { name := "fnUpdates", fn := fun _ => fun
  | [d] => { results := [.lit (.bool false)], args := [d] }
  | _ => none }
def FnUpdatesWrongFalsely : Prop := fnUpdatesRow.holds Try.pinned (OpenSpec.ofChange fnUpdatesWrong)

/-- 'laws.FnLooks': WHATEVER THE INPUT: true; the input reads as it did. -/
def fnLooksSpec : ChangeSpec := { name := "fnLooks", fn := fun _ => fun
  | [d] => { results := [.lit (.bool true)], args := [d] }
  | _ => none }
def fnLooksRow : OpenClaim := { program := "ytpelafkjnmcdgaa", sum := "e3f56a859d154fe967af2dfea51727c6ba040b0e2b7623136e021b2466168f08", func := "loop.example/g00602/laws.FnLooks", spec := "fnLooks", unfollowed := true, recurses := true, apart := false }
def FnLooksSaid : Prop := fnLooksRow.holds Try.pinned (OpenSpec.ofChange fnLooksSpec)

/-- ITS FALSE NEIGHBOUR: 'it returns false'. Refute it at one input. -/
def fnLooksWrong : ChangeSpec := { name := "fnLooks", fn := fun _ => fun
  | [d] => { results := [.lit (.bool false)], args := [d] }
  | _ => none }
def FnLooksWrongFalsely : Prop := fnLooksRow.holds Try.pinned (OpenSpec.ofChange fnLooksWrong)

/-- 'laws.FnExactHeadFault': WHATEVER THE INPUT: true; the input reads as it did. -/
def fnExactHeadFaultSpec : ChangeSpec := { name := "fnExactHeadFault", fn := fun _ => fun
  | [d] => { results := [.lit (.bool true)], args := [d] }
  | _ => none }
def fnExactHeadFaultRow : OpenClaim := { program := "ytpelafkjnmcdgaa", sum := "e3f56a859d154fe967af2dfea51727c6ba040b0e2b7623136e021b2466168f08", func := "loop.example/g00602/laws.FnExactHeadFault", spec := "fnExactHeadFault", apart := false }
def FnExactHeadFaultSaid : Prop := fnExactHeadFaultRow.holds Try.pinned (OpenSpec.ofChange fnExactHeadFaultSpec)

/-- ITS FALSE NEIGHBOUR: 'it returns false'. Refute it at one input. -/
def fnExactHeadFaultWrong : ChangeSpec := { name := "fnExactHeadFault", fn := fun _ => fun
  | [d] => { results := [.lit (.bool false)], args := [d] }
  | _ => none }
def FnExactHeadFaultWrongFalsely : Prop := fnExactHeadFaultRow.holds Try.pinned (OpenSpec.ofChange fnExactHeadFaultWrong)

/-- 'laws.FnExactPackHead': WHATEVER THE INPUT: true; the input reads as it did. -/
def fnExactPackHeadSpec : ChangeSpec := { name := "fnExactPackHead", fn := fun _ => fun
  | [d] => { results := [.lit (.bool true)], args := [d] }
  | _ => none }
def fnExactPackHeadRow : OpenClaim := { program := "ytpelafkjnmcdgaa", sum := "e3f56a859d154fe967af2dfea51727c6ba040b0e2b7623136e021b2466168f08", func := "loop.example/g00602/laws.FnExactPackHead", spec := "fnExactPackHead", apart := false }
def FnExactPackHeadSaid : Prop := fnExactPackHeadRow.holds Try.pinned (OpenSpec.ofChange fnExactPackHeadSpec)

/-- ITS FALSE NEIGHBOUR: 'it returns false'. Refute it at one input. -/
def fnExactPackHeadWrong : ChangeSpec := { name := "fnExactPackHead", fn := fun _ => fun
  | [d] => { results := [.lit (.bool false)], args := [d] }
  | _ => none }
def FnExactPackHeadWrongFalsely : Prop := fnExactPackHeadRow.holds Try.pinned (OpenSpec.ofChange fnExactPackHeadWrong)

/-- 'laws.FnExactReadHead': WHATEVER THE INPUT: true; the input reads as it did. -/
def fnExactReadHeadSpec : ChangeSpec := { name := "fnExactReadHead", fn := fun _ => fun
  | [d] => { results := [.lit (.bool true)], args := [d] }
  | _ => none }
def fnExactReadHeadRow : OpenClaim := { program := "ytpelafkjnmcdgaa", sum := "e3f56a859d154fe967af2dfea51727c6ba040b0e2b7623136e021b2466168f08", func := "loop.example/g00602/laws.FnExactReadHead", spec := "fnExactReadHead", apart := false }
def FnExactReadHeadSaid : Prop := fnExactReadHeadRow.holds Try.pinned (OpenSpec.ofChange fnExactReadHeadSpec)

/-- ITS FALSE NEIGHBOUR: 'it returns false'. Refute it at one input. -/
def fnExactReadHeadWrong : ChangeSpec := { name := "fnExactReadHead", fn := fun _ => fun
  | [d] => { results := [.lit (.bool false)], args := [d] }
  | _ => none }
def FnExactReadHeadWrongFalsely : Prop := fnExactReadHeadRow.holds Try.pinned (OpenSpec.ofChange fnExactReadHeadWrong)

/-- 'laws.FnExactHeadSum': WHATEVER THE INPUT: true; the input reads as it did. -/
def fnExactHeadSumSpec : ChangeSpec := { name := "fnExactHeadSum", fn := fun _ => fun
  | [d] => { results := [.lit (.bool true)], args := [d] }
  | _ => none }
def fnExactHeadSumRow : OpenClaim := { program := "ytpelafkjnmcdgaa", sum := "e3f56a859d154fe967af2dfea51727c6ba040b0e2b7623136e021b2466168f08", func := "loop.example/g00602/laws.FnExactHeadSum", spec := "fnExactHeadSum", apart := false }
def FnExactHeadSumSaid : Prop := fnExactHeadSumRow.holds Try.pinned (OpenSpec.ofChange fnExactHeadSumSpec)

/-- ITS FALSE NEIGHBOUR: 'it returns false'. Refute it at one input. -/
def fnExactHeadSumWrong : ChangeSpec := { name := "fnExactHeadSum", fn := fun _ => fun
  | [d] => { results := [.lit (.bool false)], args := [d] }
  | _ => none }
def FnExactHeadSumWrongFalsely : Prop := fnExactHeadSumRow.holds Try.pinned (OpenSpec.ofChange fnExactHeadSumWrong)

/-- 'laws.FnExactMayFollow': WHATEVER THE INPUT: true; the input reads as it did. -/
def fnExactMayFollowSpec : ChangeSpec := { name := "fnExactMayFollow", fn := fun _ => fun
  | [d1, d2] => { results := [.lit (.bool true)], args := [d1, d2] }
  | _ => none }
def fnExactMayFollowRow : OpenClaim := { program := "ytpelafkjnmcdgaa", sum := "e3f56a859d154fe967af2dfea51727c6ba040b0e2b7623136e021b2466168f08", func := "loop.example/g00602/laws.FnExactMayFollow", spec := "fnExactMayFollow", apart := false }
def FnExactMayFollowSaid : Prop := fnExactMayFollowRow.holds Try.pinned (OpenSpec.ofChange fnExactMayFollowSpec)

/-- ITS FALSE NEIGHBOUR: 'it returns false'. Refute it at one input. -/
def fnExactMayFollowWrong : ChangeSpec := { name := "fnExactMayFollow", fn := fun _ => fun
  | [d1, d2] => { results := [.lit (.bool false)], args := [d1, d2] }
  | _ => none }
def FnExactMayFollowWrongFalsely : Prop := fnExactMayFollowRow.holds Try.pinned (OpenSpec.ofChange fnExactMayFollowWrong)

/-- 'laws.FnExactChainFault': WHATEVER THE INPUT: true; the input reads as it did. -/
def fnExactChainFaultSpec : ChangeSpec := { name := "fnExactChainFault", fn := fun _ => fun
  | [d] => { results := [.lit (.bool true)], args := [d] }
  | _ => none }
def fnExactChainFaultRow : OpenClaim := { program := "ytpelafkjnmcdgaa", sum := "e3f56a859d154fe967af2dfea51727c6ba040b0e2b7623136e021b2466168f08", func := "loop.example/g00602/laws.FnExactChainFault", spec := "fnExactChainFault", apart := false }
def FnExactChainFaultSaid : Prop := fnExactChainFaultRow.holds Try.pinned (OpenSpec.ofChange fnExactChainFaultSpec)

/-- ITS FALSE NEIGHBOUR: 'it returns false'. Refute it at one input. -/
def fnExactChainFaultWrong : ChangeSpec := { name := "fnExactChainFault", fn := fun _ => fun
  | [d] => { results := [.lit (.bool false)], args := [d] }
  | _ => none }
def FnExactChainFaultWrongFalsely : Prop := fnExactChainFaultRow.holds Try.pinned (OpenSpec.ofChange fnExactChainFaultWrong)

/-- 'laws.FnExactHeadFor': WHATEVER THE INPUT: true; the input reads as it did. -/
def fnExactHeadForSpec : ChangeSpec := { name := "fnExactHeadFor", fn := fun _ => fun
  | [d1, d2, d3, d4] => { results := [.lit (.bool true)], args := [d1, d2, d3, d4] }
  | _ => none }
def fnExactHeadForRow : OpenClaim := { program := "ytpelafkjnmcdgaa", sum := "e3f56a859d154fe967af2dfea51727c6ba040b0e2b7623136e021b2466168f08", func := "loop.example/g00602/laws.FnExactHeadFor", spec := "fnExactHeadFor", unfollowed := true, recurses := true, apart := false }
def FnExactHeadForSaid : Prop := fnExactHeadForRow.holds Try.pinned (OpenSpec.ofChange fnExactHeadForSpec)

/-- ITS FALSE NEIGHBOUR: 'it returns false'. Refute it at one input. -/
def fnExactHeadForWrong : ChangeSpec := { name := "fnExactHeadFor", fn := fun _ => fun
  | [d1, d2, d3, d4] => { results := [.lit (.bool false)], args := [d1, d2, d3, d4] }
  | _ => none }
def FnExactHeadForWrongFalsely : Prop := fnExactHeadForRow.holds Try.pinned (OpenSpec.ofChange fnExactHeadForWrong)

/- THE SECOND FORM. 'bulk': how many values and letters a reading holds, each counted each time it is reached (what is shared counts as often as it is met; a slice's spare places count too). A statement '..UptoSaid' is the law's where the arguments, and the package variables that the reading takes, are together of bulk at most 1048576: NARROWER than '..Said'. Prove '..Said' where nothing that the law and all that it calls make is longer than what came in: it says more and counts as full. Else prove '..UptoSaid'. A law counts once. -/
mutual
def uptoBulk {H : Type} : DataW H → Nat
  | .lit (.string bytes) => bytes.length + 1
  | .lit _ => 1
  | .nil => 1
  | .ptr d => uptoBulk d + 1
  | .slice elems spare => uptoBulkAll elems + uptoBulkAll spare + 1
  | .agg parts => uptoBulkAll parts + 1
  | .iface _ d => uptoBulk d + 1
  | .map entries => uptoBulkEntries entries + 1
  | .held _ => 1
def uptoBulkAll {H : Type} : List (DataW H) → Nat
  | [] => 0
  | d :: r => uptoBulk d + uptoBulkAll r
def uptoBulkEntries {H : Type} : List (Lit × DataW H) → Nat
  | [] => 0
  | x :: r => uptoBulkEntry x + uptoBulkEntries r
def uptoBulkEntry {H : Type} : Lit × DataW H → Nat
  | (.string bytes, d) => bytes.length + uptoBulk d + 1
  | (_, d) => uptoBulk d + 1
 end
def uptoSmall : (H : Type) → List (DataW H) → Bool := fun _ ds => decide (uptoBulkAll ds ≤ 1048576)
def OpenSpec.upto (s : _root_.Go.ChangeSpec) : _root_.Go.OpenSpec := { _root_.Go.OpenSpec.ofChange s with cond := some uptoSmall }

/-- 'laws.FnUpdates', WHERE WHAT IT READS IS OF BULK AT MOST 1048576: true; the input reads as it did. -/
def fnUpdatesUptoRow : OpenClaim := { program := "ytpelafkjnmcdgaa", sum := "e3f56a859d154fe967af2dfea51727c6ba040b0e2b7623136e021b2466168f08", func := "loop.example/g00602/laws.FnUpdates", spec := "fnUpdates", unfollowed := true, recurses := true, apart := false, narrowed := true }
def FnUpdatesUptoSaid : Prop := fnUpdatesUptoRow.holds Try.pinned (OpenSpec.upto fnUpdatesSpec)

/-- 'laws.FnLooks', WHERE WHAT IT READS IS OF BULK AT MOST 1048576: true; the input reads as it did. -/
def fnLooksUptoRow : OpenClaim := { program := "ytpelafkjnmcdgaa", sum := "e3f56a859d154fe967af2dfea51727c6ba040b0e2b7623136e021b2466168f08", func := "loop.example/g00602/laws.FnLooks", spec := "fnLooks", unfollowed := true, recurses := true, apart := false, narrowed := true }
def FnLooksUptoSaid : Prop := fnLooksUptoRow.holds Try.pinned (OpenSpec.upto fnLooksSpec)

/-- 'laws.FnExactHeadFault', WHERE WHAT IT READS IS OF BULK AT MOST 1048576: true; the input reads as it did. -/
def fnExactHeadFaultUptoRow : OpenClaim := { program := "ytpelafkjnmcdgaa", sum := "e3f56a859d154fe967af2dfea51727c6ba040b0e2b7623136e021b2466168f08", func := "loop.example/g00602/laws.FnExactHeadFault", spec := "fnExactHeadFault", apart := false, narrowed := true }
def FnExactHeadFaultUptoSaid : Prop := fnExactHeadFaultUptoRow.holds Try.pinned (OpenSpec.upto fnExactHeadFaultSpec)

/-- 'laws.FnExactPackHead', WHERE WHAT IT READS IS OF BULK AT MOST 1048576: true; the input reads as it did. -/
def fnExactPackHeadUptoRow : OpenClaim := { program := "ytpelafkjnmcdgaa", sum := "e3f56a859d154fe967af2dfea51727c6ba040b0e2b7623136e021b2466168f08", func := "loop.example/g00602/laws.FnExactPackHead", spec := "fnExactPackHead", apart := false, narrowed := true }
def FnExactPackHeadUptoSaid : Prop := fnExactPackHeadUptoRow.holds Try.pinned (OpenSpec.upto fnExactPackHeadSpec)

/-- 'laws.FnExactReadHead', WHERE WHAT IT READS IS OF BULK AT MOST 1048576: true; the input reads as it did. -/
def fnExactReadHeadUptoRow : OpenClaim := { program := "ytpelafkjnmcdgaa", sum := "e3f56a859d154fe967af2dfea51727c6ba040b0e2b7623136e021b2466168f08", func := "loop.example/g00602/laws.FnExactReadHead", spec := "fnExactReadHead", apart := false, narrowed := true }
def FnExactReadHeadUptoSaid : Prop := fnExactReadHeadUptoRow.holds Try.pinned (OpenSpec.upto fnExactReadHeadSpec)

/-- 'laws.FnExactHeadSum', WHERE WHAT IT READS IS OF BULK AT MOST 1048576: true; the input reads as it did. -/
def fnExactHeadSumUptoRow : OpenClaim := { program := "ytpelafkjnmcdgaa", sum := "e3f56a859d154fe967af2dfea51727c6ba040b0e2b7623136e021b2466168f08", func := "loop.example/g00602/laws.FnExactHeadSum", spec := "fnExactHeadSum", apart := false, narrowed := true }
def FnExactHeadSumUptoSaid : Prop := fnExactHeadSumUptoRow.holds Try.pinned (OpenSpec.upto fnExactHeadSumSpec)

/-- 'laws.FnExactMayFollow', WHERE WHAT IT READS IS OF BULK AT MOST 1048576: true; the input reads as it did. -/
def fnExactMayFollowUptoRow : OpenClaim := { program := "ytpelafkjnmcdgaa", sum := "e3f56a859d154fe967af2dfea51727c6ba040b0e2b7623136e021b2466168f08", func := "loop.example/g00602/laws.FnExactMayFollow", spec := "fnExactMayFollow", apart := false, narrowed := true }
def FnExactMayFollowUptoSaid : Prop := fnExactMayFollowUptoRow.holds Try.pinned (OpenSpec.upto fnExactMayFollowSpec)

/-- 'laws.FnExactChainFault', WHERE WHAT IT READS IS OF BULK AT MOST 1048576: true; the input reads as it did. -/
def fnExactChainFaultUptoRow : OpenClaim := { program := "ytpelafkjnmcdgaa", sum := "e3f56a859d154fe967af2dfea51727c6ba040b0e2b7623136e021b2466168f08", func := "loop.example/g00602/laws.FnExactChainFault", spec := "fnExactChainFault", apart := false, narrowed := true }
def FnExactChainFaultUptoSaid : Prop := fnExactChainFaultUptoRow.holds Try.pinned (OpenSpec.upto fnExactChainFaultSpec)

/-- 'laws.FnExactHeadFor', WHERE WHAT IT READS IS OF BULK AT MOST 1048576: true; the input reads as it did. -/
def fnExactHeadForUptoRow : OpenClaim := { program := "ytpelafkjnmcdgaa", sum := "e3f56a859d154fe967af2dfea51727c6ba040b0e2b7623136e021b2466168f08", func := "loop.example/g00602/laws.FnExactHeadFor", spec := "fnExactHeadFor", unfollowed := true, recurses := true, apart := false, narrowed := true }
def FnExactHeadForUptoSaid : Prop := fnExactHeadForUptoRow.holds Try.pinned (OpenSpec.upto fnExactHeadForSpec)

end Rows
end Go.Proofs.Ytpelafkjnmcdgaa
