/-
  No cell of these rows narrows 'for every input' (looked for: loops, veiled, ifaces, maps, wideKeys, modest, calm, conditions, laid).
  DERIVED. THE GIVEN ROWS OF THIS SEAT. 7 by the template 'for every input the law returns true; each argument reads behind the call as it read before'; 0 by the template 'total and deterministic' (their statements: YtpodbikmjkohhaaTotals.lean).
  GIVEN WITH THE SEED: the statements are not yours to turn. If you find one false, say at which input.
  Laid BY PROGRAM, IN A SANDBOX (cutbox-rows.mjs): the forced cells as the released guide's own fill.sh prints them over the translation 00ad2f80f7213087… (all of the seat's roots in one cut). By AI agents, Wed Nov 11 2026. No macro, syntax, notation, axiom, sorry.
-/
import Derived.Test.YtpodbikmjkohhaaChecked
import GoSem.Claim
import GoSem.ClaimJoined
import GoSem.ClaimMapViews
import Derived.JoinedTies
import Derived.KernelRfl
namespace Go.Proofs.Ytpodbikmjkohhaa
/- THE CELL 'sum', in the pinned program and in every row, IS THE sha256 OF THE DUMP (.gsa) THAT YtpodbikmjkohhaaProg.lean LOADS. Nothing in Lean hashes anything: it is a label: what it is worth is what the hold of that sum in a sandbox is worth. -/
noncomputable def Try.pinned : Pinned := { name := "ytpodbikmjkohhaa", sum := "00ad2f80f72130878c9edf226dfc17686149524e61af35e9a5469b0cff0da805", checked := Try.checked }
namespace Rows
def none {H : Type} : Left H := { results := [], args := [] }

/-- 'laws.FnClashes': WHATEVER THE INPUT: true; the input reads as it did. -/
def fnClashesSpec : ChangeSpec := { name := "fnClashes", fn := fun _ => fun
  | [d] => { results := [.lit (.bool true)], args := [d] }
  | _ => none }
def fnClashesRow : OpenClaim := { program := "ytpodbikmjkohhaa", sum := "00ad2f80f72130878c9edf226dfc17686149524e61af35e9a5469b0cff0da805", func := "loop.example/g00602/laws.FnClashes", spec := "fnClashes", apart := false }
def FnClashesSaid : Prop := fnClashesRow.holds Try.pinned (OpenSpec.ofChange fnClashesSpec)

/-- ITS FALSE NEIGHBOUR: 'it returns false'. Refute it at one input. -/
def fnClashesWrong : ChangeSpec := { name := "fnClashes", fn := fun _ => fun
  | [d] => { results := [.lit (.bool false)], args := [d] }
  | _ => none }
def FnClashesWrongFalsely : Prop := fnClashesRow.holds Try.pinned (OpenSpec.ofChange fnClashesWrong)

/-- 'laws.FnExactSumOf': WHATEVER THE INPUT: true; the input reads as it did. -/
def fnExactSumOfSpec : ChangeSpec := { name := "fnExactSumOf", fn := fun _ => fun
  | [d] => { results := [.lit (.bool true)], args := [d] }
  | _ => none }
def fnExactSumOfRow : OpenClaim := { program := "ytpodbikmjkohhaa", sum := "00ad2f80f72130878c9edf226dfc17686149524e61af35e9a5469b0cff0da805", func := "loop.example/g00602/laws.FnExactSumOf", spec := "fnExactSumOf", apart := false }
def FnExactSumOfSaid : Prop := fnExactSumOfRow.holds Try.pinned (OpenSpec.ofChange fnExactSumOfSpec)

/-- ITS FALSE NEIGHBOUR: 'it returns false'. Refute it at one input. -/
def fnExactSumOfWrong : ChangeSpec := { name := "fnExactSumOf", fn := fun _ => fun
  | [d] => { results := [.lit (.bool false)], args := [d] }
  | _ => none }
def FnExactSumOfWrongFalsely : Prop := fnExactSumOfRow.holds Try.pinned (OpenSpec.ofChange fnExactSumOfWrong)

/-- 'laws.FnExactTagSum': WHATEVER THE INPUT: true; the input reads as it did. -/
def fnExactTagSumSpec : ChangeSpec := { name := "fnExactTagSum", fn := fun _ => fun
  | [d1, d2] => { results := [.lit (.bool true)], args := [d1, d2] }
  | _ => none }
def fnExactTagSumRow : OpenClaim := { program := "ytpodbikmjkohhaa", sum := "00ad2f80f72130878c9edf226dfc17686149524e61af35e9a5469b0cff0da805", func := "loop.example/g00602/laws.FnExactTagSum", spec := "fnExactTagSum", apart := false }
def FnExactTagSumSaid : Prop := fnExactTagSumRow.holds Try.pinned (OpenSpec.ofChange fnExactTagSumSpec)

/-- ITS FALSE NEIGHBOUR: 'it returns false'. Refute it at one input. -/
def fnExactTagSumWrong : ChangeSpec := { name := "fnExactTagSum", fn := fun _ => fun
  | [d1, d2] => { results := [.lit (.bool false)], args := [d1, d2] }
  | _ => none }
def FnExactTagSumWrongFalsely : Prop := fnExactTagSumRow.holds Try.pinned (OpenSpec.ofChange fnExactTagSumWrong)

/-- 'laws.FnExactTagBytes': WHATEVER THE INPUT: true; the input reads as it did. -/
def fnExactTagBytesSpec : ChangeSpec := { name := "fnExactTagBytes", fn := fun _ => fun
  | [d1, d2] => { results := [.lit (.bool true)], args := [d1, d2] }
  | _ => none }
def fnExactTagBytesRow : OpenClaim := { program := "ytpodbikmjkohhaa", sum := "00ad2f80f72130878c9edf226dfc17686149524e61af35e9a5469b0cff0da805", func := "loop.example/g00602/laws.FnExactTagBytes", spec := "fnExactTagBytes", apart := false }
def FnExactTagBytesSaid : Prop := fnExactTagBytesRow.holds Try.pinned (OpenSpec.ofChange fnExactTagBytesSpec)

/-- ITS FALSE NEIGHBOUR: 'it returns false'. Refute it at one input. -/
def fnExactTagBytesWrong : ChangeSpec := { name := "fnExactTagBytes", fn := fun _ => fun
  | [d1, d2] => { results := [.lit (.bool false)], args := [d1, d2] }
  | _ => none }
def FnExactTagBytesWrongFalsely : Prop := fnExactTagBytesRow.holds Try.pinned (OpenSpec.ofChange fnExactTagBytesWrong)

/-- 'laws.FnExactIsClash': WHATEVER THE INPUT: true; the input reads as it did. -/
def fnExactIsClashSpec : ChangeSpec := { name := "fnExactIsClash", fn := fun _ => fun
  | [d] => { results := [.lit (.bool true)], args := [d] }
  | _ => none }
def fnExactIsClashRow : OpenClaim := { program := "ytpodbikmjkohhaa", sum := "00ad2f80f72130878c9edf226dfc17686149524e61af35e9a5469b0cff0da805", func := "loop.example/g00602/laws.FnExactIsClash", spec := "fnExactIsClash", apart := false }
def FnExactIsClashSaid : Prop := fnExactIsClashRow.holds Try.pinned (OpenSpec.ofChange fnExactIsClashSpec)

/-- ITS FALSE NEIGHBOUR: 'it returns false'. Refute it at one input. -/
def fnExactIsClashWrong : ChangeSpec := { name := "fnExactIsClash", fn := fun _ => fun
  | [d] => { results := [.lit (.bool false)], args := [d] }
  | _ => none }
def FnExactIsClashWrongFalsely : Prop := fnExactIsClashRow.holds Try.pinned (OpenSpec.ofChange fnExactIsClashWrong)

/-- 'laws.FnExactLookClash': WHATEVER THE INPUT: true; the input reads as it did. -/
def fnExactLookClashSpec : ChangeSpec := { name := "fnExactLookClash", fn := fun _ => fun
  | [d1, d2] => { results := [.lit (.bool true)], args := [d1, d2] }
  | _ => none }
def fnExactLookClashRow : OpenClaim := { program := "ytpodbikmjkohhaa", sum := "00ad2f80f72130878c9edf226dfc17686149524e61af35e9a5469b0cff0da805", func := "loop.example/g00602/laws.FnExactLookClash", spec := "fnExactLookClash", apart := false }
def FnExactLookClashSaid : Prop := fnExactLookClashRow.holds Try.pinned (OpenSpec.ofChange fnExactLookClashSpec)

/-- ITS FALSE NEIGHBOUR: 'it returns false'. Refute it at one input. -/
def fnExactLookClashWrong : ChangeSpec := { name := "fnExactLookClash", fn := fun _ => fun
  | [d1, d2] => { results := [.lit (.bool false)], args := [d1, d2] }
  | _ => none }
def FnExactLookClashWrongFalsely : Prop := fnExactLookClashRow.holds Try.pinned (OpenSpec.ofChange fnExactLookClashWrong)

/-- 'laws.FnExactKeyOf': WHATEVER THE INPUT: true; the input reads as it did. -/
def fnExactKeyOfSpec : ChangeSpec := { name := "fnExactKeyOf", fn := fun _ => fun
  | [d] => { results := [.lit (.bool true)], args := [d] }
  | _ => none }
def fnExactKeyOfRow : OpenClaim := { program := "ytpodbikmjkohhaa", sum := "00ad2f80f72130878c9edf226dfc17686149524e61af35e9a5469b0cff0da805", func := "loop.example/g00602/laws.FnExactKeyOf", spec := "fnExactKeyOf", apart := false }
def FnExactKeyOfSaid : Prop := fnExactKeyOfRow.holds Try.pinned (OpenSpec.ofChange fnExactKeyOfSpec)

/-- ITS FALSE NEIGHBOUR: 'it returns false'. Refute it at one input. -/
def fnExactKeyOfWrong : ChangeSpec := { name := "fnExactKeyOf", fn := fun _ => fun
  | [d] => { results := [.lit (.bool false)], args := [d] }
  | _ => none }
def FnExactKeyOfWrongFalsely : Prop := fnExactKeyOfRow.holds Try.pinned (OpenSpec.ofChange fnExactKeyOfWrong)

/- THE SECOND FORM. 'bulk': how many values and letters a reading holds, each counted each time it is reached (what is shared counts as often as it is met; a slice's spare places count too). A statement '..UptoSaid' is the law's where the arguments, and the package variables that the reading takes, are together of bulk at most 1048576: NARROWER than '..Said'. Prove '..Said' where nothing that the law and all that it calls make is longer than what came in: it says more and counts as full. Else prove '..UptoSaid'. A law counts once. -/
mutual
def uptoBulk {H : Type} : DataW H → Nat
  | .lit (.string bytes) => bytes.length + 1
  | .lit _ => 1
  | .nil => 1
  | .ptr d => uptoBulk d + 1
  | .slice elems spare => uptoBulkAll elems + uptoBulkAll spare + 1
  | .agg parts => uptoBulkAll parts + 1
  | .iface _ d => uptoBulk d + 1
  | .map entries => uptoBulkEntries entries + 1
  | .held _ => 1
def uptoBulkAll {H : Type} : List (DataW H) → Nat
  | [] => 0
  | d :: r => uptoBulk d + uptoBulkAll r
def uptoBulkEntries {H : Type} : List (Lit × DataW H) → Nat
  | [] => 0
  | x :: r => uptoBulkEntry x + uptoBulkEntries r
def uptoBulkEntry {H : Type} : Lit × DataW H → Nat
  | (.string bytes, d) => bytes.length + uptoBulk d + 1
  | (_, d) => uptoBulk d + 1
 end
def uptoSmall : (H : Type) → List (DataW H) → Bool := fun _ ds => decide (uptoBulkAll ds ≤ 1048576)
def OpenSpec.upto (s : _root_.Go.ChangeSpec) : _root_.Go.OpenSpec := { _root_.Go.OpenSpec.ofChange s with cond := some uptoSmall }

/-- 'laws.FnClashes', WHERE WHAT IT READS IS OF BULK AT MOST 1048576: true; the input reads as it did. -/
def fnClashesUptoRow : OpenClaim := { program := "ytpodbikmjkohhaa", sum := "00ad2f80f72130878c9edf226dfc17686149524e61af35e9a5469b0cff0da805", func := "loop.example/g00602/laws.FnClashes", spec := "fnClashes", apart := false, narrowed := true }
def FnClashesUptoSaid : Prop := fnClashesUptoRow.holds Try.pinned (OpenSpec.upto fnClashesSpec)

/-- 'laws.FnExactSumOf', WHERE WHAT IT READS IS OF BULK AT MOST 1048576: true; the input reads as it did. -/
def fnExactSumOfUptoRow : OpenClaim := { program := "ytpodbikmjkohhaa", sum := "00ad2f80f72130878c9edf226dfc17686149524e61af35e9a5469b0cff0da805", func := "loop.example/g00602/laws.FnExactSumOf", spec := "fnExactSumOf", apart := false, narrowed := true }
def FnExactSumOfUptoSaid : Prop := fnExactSumOfUptoRow.holds Try.pinned (OpenSpec.upto fnExactSumOfSpec)

/-- 'laws.FnExactTagSum', WHERE WHAT IT READS IS OF BULK AT MOST 1048576: true; the input reads as it did. -/
def fnExactTagSumUptoRow : OpenClaim := { program := "ytpodbikmjkohhaa", sum := "00ad2f80f72130878c9edf226dfc17686149524e61af35e9a5469b0cff0da805", func := "loop.example/g00602/laws.FnExactTagSum", spec := "fnExactTagSum", apart := false, narrowed := true }
def FnExactTagSumUptoSaid : Prop := fnExactTagSumUptoRow.holds Try.pinned (OpenSpec.upto fnExactTagSumSpec)

/-- 'laws.FnExactTagBytes', WHERE WHAT IT READS IS OF BULK AT MOST 1048576: true; the input reads as it did. -/
def fnExactTagBytesUptoRow : OpenClaim := { program := "ytpodbikmjkohhaa", sum := "00ad2f80f72130878c9edf226dfc17686149524e61af35e9a5469b0cff0da805", func := "loop.example/g00602/laws.FnExactTagBytes", spec := "fnExactTagBytes", apart := false, narrowed := true }
def FnExactTagBytesUptoSaid : Prop := fnExactTagBytesUptoRow.holds Try.pinned (OpenSpec.upto fnExactTagBytesSpec)

/-- 'laws.FnExactIsClash', WHERE WHAT IT READS IS OF BULK AT MOST 1048576: true; the input reads as it did. -/
def fnExactIsClashUptoRow : OpenClaim := { program := "ytpodbikmjkohhaa", sum := "00ad2f80f72130878c9edf226dfc17686149524e61af35e9a5469b0cff0da805", func := "loop.example/g00602/laws.FnExactIsClash", spec := "fnExactIsClash", apart := false, narrowed := true }
def FnExactIsClashUptoSaid : Prop := fnExactIsClashUptoRow.holds Try.pinned (OpenSpec.upto fnExactIsClashSpec)

/-- 'laws.FnExactLookClash', WHERE WHAT IT READS IS OF BULK AT MOST 1048576: true; the input reads as it did. -/
def fnExactLookClashUptoRow : OpenClaim := { program := "ytpodbikmjkohhaa", sum := "00ad2f80f72130878c9edf226dfc17686149524e61af35e9a5469b0cff0da805", func := "loop.example/g00602/laws.FnExactLookClash", spec := "fnExactLookClash", apart := false, narrowed := true }
def FnExactLookClashUptoSaid : Prop := fnExactLookClashUptoRow.holds Try.pinned (OpenSpec.upto fnExactLookClashSpec)

/-- 'laws.FnExactKeyOf', WHERE WHAT IT READS IS OF BULK AT MOST 1048576: true; the input reads as it did. -/
def fnExactKeyOfUptoRow : OpenClaim := { program := "ytpodbikmjkohhaa", sum := "00ad2f80f72130878c9edf226dfc17686149524e61af35e9a5469b0cff0da805", func := "loop.example/g00602/laws.FnExactKeyOf", spec := "fnExactKeyOf", apart := false, narrowed := true }
def FnExactKeyOfUptoSaid : Prop := fnExactKeyOfUptoRow.holds Try.pinned (OpenSpec.upto fnExactKeyOfSpec)

end Rows
end Go.Proofs.Ytpodbikmjkohhaa
