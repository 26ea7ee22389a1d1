/-
  No cell of these rows narrows 'for every input' (looked for: loops, veiled, ifaces, maps, wideKeys, modest, calm, conditions, laid).
  DERIVED. THE GIVEN ROWS OF THIS SEAT. 5 by the template 'for every input the law returns true; each argument reads behind the call as it read before'; 0 by the template 'total and deterministic' (their statements: YtmnfokgllcdiiaaGreatTotals.lean).
  GIVEN WITH THE SEED: the statements are not yours to turn. If you find one false, say at which input.
  Laid BY PROGRAM, IN A SANDBOX (cutbox-rows.mjs): the forced cells as the released guide's own fill.sh prints them over the translation 7ec4b7f2ad8ff3c2… (all of the seat's roots in one cut). By AI agents, Wed Nov 11 2026. No macro, syntax, notation, axiom, sorry.
-/
import Derived.Test.YtmnfokgllcdiiaaGreatChecked
import GoSem.Claim
import GoSem.ClaimJoined
import GoSem.ClaimMapViews
import Derived.JoinedTies
import Derived.KernelRfl
namespace Go.Proofs.YtmnfokgllcdiiaaGreat
/- THE CELL 'sum', in the pinned program and in every row, IS THE sha256 OF THE DUMP (.gsa) THAT YtmnfokgllcdiiaaGreatProg.lean LOADS. Nothing in Lean hashes anything: it is a label: what it is worth is what the hold of that sum in a sandbox is worth. -/
noncomputable def Tryz.pinned : Pinned := { name := "ytmnfokgllcdiiaagreat", sum := "7ec4b7f2ad8ff3c28591a17e7017b8f5ec4f73fb82f957ce274f6ca112de65cb", checked := Tryz.checked }
namespace Rows
def none {H : Type} : Left H := { results := [], args := [] }

/-- 'laws.FnExactUpdateState': WHATEVER THE INPUT: true; the input reads as it did. -/
def fnExactUpdateStateSpec : ChangeSpec := { name := "fnExactUpdateState", fn := fun _ => fun
  | [d1, d2, d3] => { results := [.lit (.bool true)], args := [d1, d2, d3] }
  | _ => none }
def fnExactUpdateStateRow : OpenClaim := { program := "ytmnfokgllcdiiaagreat", sum := "7ec4b7f2ad8ff3c28591a17e7017b8f5ec4f73fb82f957ce274f6ca112de65cb", func := "loop.example/g00602/laws.FnExactUpdateState", spec := "fnExactUpdateState", unfollowed := true, recurses := true, plainKeys := false, apart := false }
def FnExactUpdateStateSaid : Prop := fnExactUpdateStateRow.holds Tryz.pinned (OpenSpec.ofChange fnExactUpdateStateSpec)

/-- ITS FALSE NEIGHBOUR: 'it returns false'. Refute it at one input. -/
def fnExactUpdateStateWrong : ChangeSpec := { name := "fnExactUpdateState", fn := fun _ => fun
  | [d1, d2, d3] => { results := [.lit (.bool false)], args := [d1, d2, d3] }
  | _ => none }
def FnExactUpdateStateWrongFalsely : Prop := fnExactUpdateStateRow.holds Tryz.pinned (OpenSpec.ofChange fnExactUpdateStateWrong)

/-- 'laws.FnExactDoOp': WHATEVER THE INPUT: true; the input reads as it did. -/
def fnExactDoOpSpec : ChangeSpec := { name := "fnExactDoOp", fn := fun _ => fun
  | [d1, d2] => { results := [.lit (.bool true)], args := [d1, d2] }
  | _ => none }
def fnExactDoOpRow : OpenClaim := { program := "ytmnfokgllcdiiaagreat", sum := "7ec4b7f2ad8ff3c28591a17e7017b8f5ec4f73fb82f957ce274f6ca112de65cb", func := "loop.example/g00602/laws.FnExactDoOp", spec := "fnExactDoOp", unfollowed := true, recurses := true, plainKeys := false, apart := false }
def FnExactDoOpSaid : Prop := fnExactDoOpRow.holds Tryz.pinned (OpenSpec.ofChange fnExactDoOpSpec)

/-- ITS FALSE NEIGHBOUR: 'it returns false'. Refute it at one input. -/
def fnExactDoOpWrong : ChangeSpec := { name := "fnExactDoOp", fn := fun _ => fun
  | [d1, d2] => { results := [.lit (.bool false)], args := [d1, d2] }
  | _ => none }
def FnExactDoOpWrongFalsely : Prop := fnExactDoOpRow.holds Tryz.pinned (OpenSpec.ofChange fnExactDoOpWrong)

/-- 'laws.FnExactReplyTo': WHATEVER THE INPUT: true; the input reads as it did. -/
def fnExactReplyToSpec : ChangeSpec := { name := "fnExactReplyTo", fn := fun _ => fun
  | [d1, d2, d3, d4] => { results := [.lit (.bool true)], args := [d1, d2, d3, d4] }
  | _ => none }
def fnExactReplyToRow : OpenClaim := { program := "ytmnfokgllcdiiaagreat", sum := "7ec4b7f2ad8ff3c28591a17e7017b8f5ec4f73fb82f957ce274f6ca112de65cb", func := "loop.example/g00602/laws.FnExactReplyTo", spec := "fnExactReplyTo", unfollowed := true, recurses := true, plainKeys := false, apart := false }
def FnExactReplyToSaid : Prop := fnExactReplyToRow.holds Tryz.pinned (OpenSpec.ofChange fnExactReplyToSpec)

/-- ITS FALSE NEIGHBOUR: 'it returns false'. Refute it at one input. -/
def fnExactReplyToWrong : ChangeSpec := { name := "fnExactReplyTo", fn := fun _ => fun
  | [d1, d2, d3, d4] => { results := [.lit (.bool false)], args := [d1, d2, d3, d4] }
  | _ => none }
def FnExactReplyToWrongFalsely : Prop := fnExactReplyToRow.holds Tryz.pinned (OpenSpec.ofChange fnExactReplyToWrong)

/-- 'laws.FnExactSampleOf': WHATEVER THE INPUT: true; the input reads as it did. -/
def fnExactSampleOfSpec : ChangeSpec := { name := "fnExactSampleOf", fn := fun _ => fun
  | [d1, d2, d3] => { results := [.lit (.bool true)], args := [d1, d2, d3] }
  | _ => none }
def fnExactSampleOfRow : OpenClaim := { program := "ytmnfokgllcdiiaagreat", sum := "7ec4b7f2ad8ff3c28591a17e7017b8f5ec4f73fb82f957ce274f6ca112de65cb", func := "loop.example/g00602/laws.FnExactSampleOf", spec := "fnExactSampleOf", unfollowed := true, recurses := true, plainKeys := false, apart := false }
def FnExactSampleOfSaid : Prop := fnExactSampleOfRow.holds Tryz.pinned (OpenSpec.ofChange fnExactSampleOfSpec)

/-- ITS FALSE NEIGHBOUR: 'it returns false'. Refute it at one input. -/
def fnExactSampleOfWrong : ChangeSpec := { name := "fnExactSampleOf", fn := fun _ => fun
  | [d1, d2, d3] => { results := [.lit (.bool false)], args := [d1, d2, d3] }
  | _ => none }
def FnExactSampleOfWrongFalsely : Prop := fnExactSampleOfRow.holds Tryz.pinned (OpenSpec.ofChange fnExactSampleOfWrong)

/-- 'laws.FnExactWatchOwn': WHATEVER THE INPUT: true; the input reads as it did. -/
def fnExactWatchOwnSpec : ChangeSpec := { name := "fnExactWatchOwn", fn := fun _ => fun
  | [d1, d2, d3] => { results := [.lit (.bool true)], args := [d1, d2, d3] }
  | _ => none }
def fnExactWatchOwnRow : OpenClaim := { program := "ytmnfokgllcdiiaagreat", sum := "7ec4b7f2ad8ff3c28591a17e7017b8f5ec4f73fb82f957ce274f6ca112de65cb", func := "loop.example/g00602/laws.FnExactWatchOwn", spec := "fnExactWatchOwn", unfollowed := true, recurses := true, plainKeys := false, apart := false }
def FnExactWatchOwnSaid : Prop := fnExactWatchOwnRow.holds Tryz.pinned (OpenSpec.ofChange fnExactWatchOwnSpec)

/-- ITS FALSE NEIGHBOUR: 'it returns false'. Refute it at one input. -/
def fnExactWatchOwnWrong : ChangeSpec := { name := "fnExactWatchOwn", fn := fun _ => fun
  | [d1, d2, d3] => { results := [.lit (.bool false)], args := [d1, d2, d3] }
  | _ => none }
def FnExactWatchOwnWrongFalsely : Prop := fnExactWatchOwnRow.holds Tryz.pinned (OpenSpec.ofChange fnExactWatchOwnWrong)

/- THE SECOND FORM. 'bulk': how many values and letters a reading holds, each counted each time it is reached (what is shared counts as often as it is met; a slice's spare places count too). A statement '..UptoSaid' is the law's where the arguments, and the package variables that the reading takes, are together of bulk at most 1048576: NARROWER than '..Said'. Prove '..Said' where nothing that the law and all that it calls make is longer than what came in: it says more and counts as full. Else prove '..UptoSaid'. A law counts once. -/
mutual
def uptoBulk {H : Type} : DataW H → Nat
  | .lit (.string bytes) => bytes.length + 1
  | .lit _ => 1
  | .nil => 1
  | .ptr d => uptoBulk d + 1
  | .slice elems spare => uptoBulkAll elems + uptoBulkAll spare + 1
  | .agg parts => uptoBulkAll parts + 1
  | .iface _ d => uptoBulk d + 1
  | .map entries => uptoBulkEntries entries + 1
  | .held _ => 1
def uptoBulkAll {H : Type} : List (DataW H) → Nat
  | [] => 0
  | d :: r => uptoBulk d + uptoBulkAll r
def uptoBulkEntries {H : Type} : List (Lit × DataW H) → Nat
  | [] => 0
  | x :: r => uptoBulkEntry x + uptoBulkEntries r
def uptoBulkEntry {H : Type} : Lit × DataW H → Nat
  | (.string bytes, d) => bytes.length + uptoBulk d + 1
  | (_, d) => uptoBulk d + 1
 end
def uptoSmall : (H : Type) → List (DataW H) → Bool := fun _ ds => decide (uptoBulkAll ds ≤ 1048576)
def OpenSpec.upto (s : _root_.Go.ChangeSpec) : _root_.Go.OpenSpec := { _root_.Go.OpenSpec.ofChange s with cond := some uptoSmall }

/-- 'laws.FnExactUpdateState', WHERE WHAT IT READS IS OF BULK AT MOST 1048576: true; the input reads as it did. -/
def fnExactUpdateStateUptoRow : OpenClaim := { program := "ytmnfokgllcdiiaagreat", sum := "7ec4b7f2ad8ff3c28591a17e7017b8f5ec4f73fb82f957ce274f6ca112de65cb", func := "loop.example/g00602/laws.FnExactUpdateState", spec := "fnExactUpdateState", unfollowed := true, recurses := true, plainKeys := false, apart := false, narrowed := true }
def FnExactUpdateStateUptoSaid : Prop := fnExactUpdateStateUptoRow.holds Tryz.pinned (OpenSpec.upto fnExactUpdateStateSpec)

/-- 'laws.FnExactDoOp', WHERE WHAT IT READS IS OF BULK AT MOST 1048576: true; the input reads as it did. -/
def fnExactDoOpUptoRow : OpenClaim := { program := "ytmnfokgllcdiiaagreat", sum := "7ec4b7f2ad8ff3c28591a17e7017b8f5ec4f73fb82f957ce274f6ca112de65cb", func := "loop.example/g00602/laws.FnExactDoOp", spec := "fnExactDoOp", unfollowed := true, recurses := true, plainKeys := false, apart := false, narrowed := true }
def FnExactDoOpUptoSaid : Prop := fnExactDoOpUptoRow.holds Tryz.pinned (OpenSpec.upto fnExactDoOpSpec)

/-- 'laws.FnExactReplyTo', WHERE WHAT IT READS IS OF BULK AT MOST 1048576: true; the input reads as it did. -/
def fnExactReplyToUptoRow : OpenClaim := { program := "ytmnfokgllcdiiaagreat", sum := "7ec4b7f2ad8ff3c28591a17e7017b8f5ec4f73fb82f957ce274f6ca112de65cb", func := "loop.example/g00602/laws.FnExactReplyTo", spec := "fnExactReplyTo", unfollowed := true, recurses := true, plainKeys := false, apart := false, narrowed := true }
def FnExactReplyToUptoSaid : Prop := fnExactReplyToUptoRow.holds Tryz.pinned (OpenSpec.upto fnExactReplyToSpec)

/-- 'laws.FnExactSampleOf', WHERE WHAT IT READS IS OF BULK AT MOST 1048576: true; the input reads as it did. -/
def fnExactSampleOfUptoRow : OpenClaim := { program := "ytmnfokgllcdiiaagreat", sum := "7ec4b7f2ad8ff3c28591a17e7017b8f5ec4f73fb82f957ce274f6ca112de65cb", func := "loop.example/g00602/laws.FnExactSampleOf", spec := "fnExactSampleOf", unfollowed := true, recurses := true, plainKeys := false, apart := false, narrowed := true }
def FnExactSampleOfUptoSaid : Prop := fnExactSampleOfUptoRow.holds Tryz.pinned (OpenSpec.upto fnExactSampleOfSpec)

/-- 'laws.FnExactWatchOwn', WHERE WHAT IT READS IS OF BULK AT MOST 1048576: true; the input reads as it did. -/
def fnExactWatchOwnUptoRow : OpenClaim := { program := "ytmnfokgllcdiiaagreat", sum := "7ec4b7f2ad8ff3c28591a17e7017b8f5ec4f73fb82f957ce274f6ca112de65cb", func := "loop.example/g00602/laws.FnExactWatchOwn", spec := "fnExactWatchOwn", unfollowed := true, recurses := true, plainKeys := false, apart := false, narrowed := true }
def FnExactWatchOwnUptoSaid : Prop := fnExactWatchOwnUptoRow.holds Tryz.pinned (OpenSpec.upto fnExactWatchOwnSpec)

end Rows
end Go.Proofs.YtmnfokgllcdiiaaGreat
