/-
  No cell of these rows narrows 'for every input' (looked for: loops, veiled, ifaces, maps, wideKeys, modest, calm, conditions, laid).
  DERIVED. THE GIVEN ROWS OF THIS SEAT. 4 by the template 'for every input the law returns true; each argument reads behind the call as it read before'; 0 by the template 'total and deterministic' (their statements: YtdbbmclobmigdaaGreatTotals.lean).
  GIVEN WITH THE SEED: the statements are not yours to turn. If you find one false, say at which input.
  Laid BY PROGRAM, IN A SANDBOX (cutbox-rows.mjs): the forced cells as the released guide's own fill.sh prints them over the translation cb22982223ca7491… (all of the seat's roots in one cut). By AI agents, Wed Nov 11 2026. No macro, syntax, notation, axiom, sorry.
-/
import Derived.Test.YtdbbmclobmigdaaGreatChecked
import GoSem.Claim
import GoSem.ClaimJoined
import GoSem.ClaimMapViews
import Derived.JoinedTies
import Derived.KernelRfl
namespace Go.Proofs.YtdbbmclobmigdaaGreat
/- THE CELL 'sum', in the pinned program and in every row, IS THE sha256 OF THE DUMP (.gsa) THAT YtdbbmclobmigdaaGreatProg.lean LOADS. Nothing in Lean hashes anything: it is a label: what it is worth is what the hold of that sum in a sandbox is worth. -/
noncomputable def Tryz.pinned : Pinned := { name := "ytdbbmclobmigdaagreat", sum := "cb22982223ca7491f96cb6a256ddecd31e3dd59686be96a058181680a19caada", checked := Tryz.checked }
namespace Rows
def none {H : Type} : Left H := { results := [], args := [] }

/-- 'laws.FnExactSeeReply': WHATEVER THE INPUT: true; the input reads as it did. -/
def fnExactSeeReplySpec : ChangeSpec := { name := "fnExactSeeReply", fn := fun _ => fun
  | [d1, d2, d3] => { results := [.lit (.bool true)], args := [d1, d2, d3] }
  | _ => none }
def fnExactSeeReplyRow : OpenClaim := { program := "ytdbbmclobmigdaagreat", sum := "cb22982223ca7491f96cb6a256ddecd31e3dd59686be96a058181680a19caada", func := "loop.example/g00602/laws.FnExactSeeReply", spec := "fnExactSeeReply", unfollowed := true, recurses := true, plainKeys := false, apart := false }
def FnExactSeeReplySaid : Prop := fnExactSeeReplyRow.holds Tryz.pinned (OpenSpec.ofChange fnExactSeeReplySpec)

/-- ITS FALSE NEIGHBOUR: 'it returns false'. Refute it at one input. -/
def fnExactSeeReplyWrong : ChangeSpec := { name := "fnExactSeeReply", fn := fun _ => fun
  | [d1, d2, d3] => { results := [.lit (.bool false)], args := [d1, d2, d3] }
  | _ => none }
def FnExactSeeReplyWrongFalsely : Prop := fnExactSeeReplyRow.holds Tryz.pinned (OpenSpec.ofChange fnExactSeeReplyWrong)

/-- 'laws.FnExactBothSaid': WHATEVER THE INPUT: true; the input reads as it did. -/
def fnExactBothSaidSpec : ChangeSpec := { name := "fnExactBothSaid", fn := fun _ => fun
  | [d1, d2, d3, d4] => { results := [.lit (.bool true)], args := [d1, d2, d3, d4] }
  | _ => none }
def fnExactBothSaidRow : OpenClaim := { program := "ytdbbmclobmigdaagreat", sum := "cb22982223ca7491f96cb6a256ddecd31e3dd59686be96a058181680a19caada", func := "loop.example/g00602/laws.FnExactBothSaid", spec := "fnExactBothSaid", unfollowed := true, recurses := true, plainKeys := false, apart := false }
def FnExactBothSaidSaid : Prop := fnExactBothSaidRow.holds Tryz.pinned (OpenSpec.ofChange fnExactBothSaidSpec)

/-- ITS FALSE NEIGHBOUR: 'it returns false'. Refute it at one input. -/
def fnExactBothSaidWrong : ChangeSpec := { name := "fnExactBothSaid", fn := fun _ => fun
  | [d1, d2, d3, d4] => { results := [.lit (.bool false)], args := [d1, d2, d3, d4] }
  | _ => none }
def FnExactBothSaidWrongFalsely : Prop := fnExactBothSaidRow.holds Tryz.pinned (OpenSpec.ofChange fnExactBothSaidWrong)

/-- 'laws.FnExactSampleRight': WHATEVER THE INPUT: true; the input reads as it did. -/
def fnExactSampleRightSpec : ChangeSpec := { name := "fnExactSampleRight", fn := fun _ => fun
  | [d1, d2] => { results := [.lit (.bool true)], args := [d1, d2] }
  | _ => none }
def fnExactSampleRightRow : OpenClaim := { program := "ytdbbmclobmigdaagreat", sum := "cb22982223ca7491f96cb6a256ddecd31e3dd59686be96a058181680a19caada", func := "loop.example/g00602/laws.FnExactSampleRight", spec := "fnExactSampleRight", unfollowed := true, recurses := true, plainKeys := false, apart := false }
def FnExactSampleRightSaid : Prop := fnExactSampleRightRow.holds Tryz.pinned (OpenSpec.ofChange fnExactSampleRightSpec)

/-- ITS FALSE NEIGHBOUR: 'it returns false'. Refute it at one input. -/
def fnExactSampleRightWrong : ChangeSpec := { name := "fnExactSampleRight", fn := fun _ => fun
  | [d1, d2] => { results := [.lit (.bool false)], args := [d1, d2] }
  | _ => none }
def FnExactSampleRightWrongFalsely : Prop := fnExactSampleRightRow.holds Tryz.pinned (OpenSpec.ofChange fnExactSampleRightWrong)

/-- 'laws.FnExactWatchOwn': WHATEVER THE INPUT: true; the input reads as it did. -/
def fnExactWatchOwnSpec : ChangeSpec := { name := "fnExactWatchOwn", fn := fun _ => fun
  | [d1, d2, d3] => { results := [.lit (.bool true)], args := [d1, d2, d3] }
  | _ => none }
def fnExactWatchOwnRow : OpenClaim := { program := "ytdbbmclobmigdaagreat", sum := "cb22982223ca7491f96cb6a256ddecd31e3dd59686be96a058181680a19caada", func := "loop.example/g00602/laws.FnExactWatchOwn", spec := "fnExactWatchOwn", unfollowed := true, recurses := true, plainKeys := false, apart := false }
def FnExactWatchOwnSaid : Prop := fnExactWatchOwnRow.holds Tryz.pinned (OpenSpec.ofChange fnExactWatchOwnSpec)

/-- ITS FALSE NEIGHBOUR: 'it returns false'. Refute it at one input. -/
def fnExactWatchOwnWrong : ChangeSpec := { name := "fnExactWatchOwn", fn := fun _ => fun
  | [d1, d2, d3] => { results := [.lit (.bool false)], args := [d1, d2, d3] }
  | _ => none }
def FnExactWatchOwnWrongFalsely : Prop := fnExactWatchOwnRow.holds Tryz.pinned (OpenSpec.ofChange fnExactWatchOwnWrong)

/- THE SECOND FORM. 'bulk': how many values and letters a reading holds, each counted each time it is reached (what is shared counts as often as it is met; a slice's spare places count too). A statement '..UptoSaid' is the law's where the arguments, and the package variables that the reading takes, are together of bulk at most 1048576: NARROWER than '..Said'. Prove '..Said' where nothing that the law and all that it calls make is longer than what came in: it says more and counts as full. Else prove '..UptoSaid'. A law counts once. -/
mutual
def uptoBulk {H : Type} : DataW H → Nat
  | .lit (.string bytes) => bytes.length + 1
  | .lit _ => 1
  | .nil => 1
  | .ptr d => uptoBulk d + 1
  | .slice elems spare => uptoBulkAll elems + uptoBulkAll spare + 1
  | .agg parts => uptoBulkAll parts + 1
  | .iface _ d => uptoBulk d + 1
  | .map entries => uptoBulkEntries entries + 1
  | .held _ => 1
def uptoBulkAll {H : Type} : List (DataW H) → Nat
  | [] => 0
  | d :: r => uptoBulk d + uptoBulkAll r
def uptoBulkEntries {H : Type} : List (Lit × DataW H) → Nat
  | [] => 0
  | x :: r => uptoBulkEntry x + uptoBulkEntries r
def uptoBulkEntry {H : Type} : Lit × DataW H → Nat
  | (.string bytes, d) => bytes.length + uptoBulk d + 1
  | (_, d) => uptoBulk d + 1
 end
def uptoSmall : (H : Type) → List (DataW H) → Bool := fun _ ds => decide (uptoBulkAll ds ≤ 1048576)
def OpenSpec.upto (s : _root_.Go.ChangeSpec) : _root_.Go.OpenSpec := { _root_.Go.OpenSpec.ofChange s with cond := some uptoSmall }

/-- 'laws.FnExactSeeReply', WHERE WHAT IT READS IS OF BULK AT MOST 1048576: true; the input reads as it did. -/
def fnExactSeeReplyUptoRow : OpenClaim := { program := "ytdbbmclobmigdaagreat", sum := "cb22982223ca7491f96cb6a256ddecd31e3dd59686be96a058181680a19caada", func := "loop.example/g00602/laws.FnExactSeeReply", spec := "fnExactSeeReply", unfollowed := true, recurses := true, plainKeys := false, apart := false, narrowed := true }
def FnExactSeeReplyUptoSaid : Prop := fnExactSeeReplyUptoRow.holds Tryz.pinned (OpenSpec.upto fnExactSeeReplySpec)

/-- 'laws.FnExactBothSaid', WHERE WHAT IT READS IS OF BULK AT MOST 1048576: true; the input reads as it did. -/
def fnExactBothSaidUptoRow : OpenClaim := { program := "ytdbbmclobmigdaagreat", sum := "cb22982223ca7491f96cb6a256ddecd31e3dd59686be96a058181680a19caada", func := "loop.example/g00602/laws.FnExactBothSaid", spec := "fnExactBothSaid", unfollowed := true, recurses := true, plainKeys := false, apart := false, narrowed := true }
def FnExactBothSaidUptoSaid : Prop := fnExactBothSaidUptoRow.holds Tryz.pinned (OpenSpec.upto fnExactBothSaidSpec)

/-- 'laws.FnExactSampleRight', WHERE WHAT IT READS IS OF BULK AT MOST 1048576: true; the input reads as it did. -/
def fnExactSampleRightUptoRow : OpenClaim := { program := "ytdbbmclobmigdaagreat", sum := "cb22982223ca7491f96cb6a256ddecd31e3dd59686be96a058181680a19caada", func := "loop.example/g00602/laws.FnExactSampleRight", spec := "fnExactSampleRight", unfollowed := true, recurses := true, plainKeys := false, apart := false, narrowed := true }
def FnExactSampleRightUptoSaid : Prop := fnExactSampleRightUptoRow.holds Tryz.pinned (OpenSpec.upto fnExactSampleRightSpec)

/-- 'laws.FnExactWatchOwn', WHERE WHAT IT READS IS OF BULK AT MOST 1048576: true; the input reads as it did. -/
def fnExactWatchOwnUptoRow : OpenClaim := { program := "ytdbbmclobmigdaagreat", sum := "cb22982223ca7491f96cb6a256ddecd31e3dd59686be96a058181680a19caada", func := "loop.example/g00602/laws.FnExactWatchOwn", spec := "fnExactWatchOwn", unfollowed := true, recurses := true, plainKeys := false, apart := false, narrowed := true }
def FnExactWatchOwnUptoSaid : Prop := fnExactWatchOwnUptoRow.holds Tryz.pinned (OpenSpec.upto fnExactWatchOwnSpec)

end Rows
end Go.Proofs.YtdbbmclobmigdaaGreat
