/-
  No cell of these rows narrows 'for every input' (looked for: loops, veiled, ifaces, maps, wideKeys, modest, calm, conditions, laid).
  DERIVED. THE GIVEN ROWS OF THIS SEAT. 7 by the template 'for every input the law returns true; each argument reads behind the call as it read before'; 0 by the template 'total and deterministic' (their statements: YtcdodpcdennemaaTotals.lean).
  GIVEN WITH THE SEED: the statements are not yours to turn. If you find one false, say at which input.
  Laid BY PROGRAM, IN A SANDBOX (cutbox-rows.mjs): the forced cells as the released guide's own fill.sh prints them over the translation 967acb0031aa402a… (all of the seat's roots in one cut). By AI agents, Wed Nov 11 2026. No macro, syntax, notation, axiom, sorry.
-/
import Derived.Test.YtcdodpcdennemaaChecked
import GoSem.Claim
import GoSem.ClaimJoined
import GoSem.ClaimMapViews
import Derived.JoinedTies
import Derived.KernelRfl
namespace Go.Proofs.Ytcdodpcdennemaa
/- THE CELL 'sum', in the pinned program and in every row, IS THE sha256 OF THE DUMP (.gsa) THAT YtcdodpcdennemaaProg.lean LOADS. Nothing in Lean hashes anything: it is a label: what it is worth is what the hold of that sum in a sandbox is worth. -/
noncomputable def Try.pinned : Pinned := { name := "ytcdodpcdennemaa", sum := "967acb0031aa402a8b40fc945b4b290ca901a4ea73b48719fced8afc77b6682f", checked := Try.checked }
namespace Rows
def none {H : Type} : Left H := { results := [], args := [] }

/-- 'laws.FnExactPackOp': WHATEVER THE INPUT: true; the input reads as it did. -/
def fnExactPackOpSpec : ChangeSpec := { name := "fnExactPackOp", fn := fun _ => fun
  | [d] => { results := [.lit (.bool true)], args := [d] }
  | _ => none }
def fnExactPackOpRow : OpenClaim := { program := "ytcdodpcdennemaa", sum := "967acb0031aa402a8b40fc945b4b290ca901a4ea73b48719fced8afc77b6682f", func := "loop.example/g00602/laws.FnExactPackOp", spec := "fnExactPackOp", unfollowed := true, recurses := true, apart := false }
def FnExactPackOpSaid : Prop := fnExactPackOpRow.holds Try.pinned (OpenSpec.ofChange fnExactPackOpSpec)

/-- ITS FALSE NEIGHBOUR: 'it returns false'. Refute it at one input. -/
def fnExactPackOpWrong : ChangeSpec := { name := "fnExactPackOp", fn := fun _ => fun
  | [d] => { results := [.lit (.bool false)], args := [d] }
  | _ => none }
def FnExactPackOpWrongFalsely : Prop := fnExactPackOpRow.holds Try.pinned (OpenSpec.ofChange fnExactPackOpWrong)

/-- 'laws.FnExactReadOp': WHATEVER THE INPUT: true; the input reads as it did. -/
def fnExactReadOpSpec : ChangeSpec := { name := "fnExactReadOp", fn := fun _ => fun
  | [d] => { results := [.lit (.bool true)], args := [d] }
  | _ => none }
def fnExactReadOpRow : OpenClaim := { program := "ytcdodpcdennemaa", sum := "967acb0031aa402a8b40fc945b4b290ca901a4ea73b48719fced8afc77b6682f", func := "loop.example/g00602/laws.FnExactReadOp", spec := "fnExactReadOp", unfollowed := true, recurses := true, apart := false }
def FnExactReadOpSaid : Prop := fnExactReadOpRow.holds Try.pinned (OpenSpec.ofChange fnExactReadOpSpec)

/-- ITS FALSE NEIGHBOUR: 'it returns false'. Refute it at one input. -/
def fnExactReadOpWrong : ChangeSpec := { name := "fnExactReadOp", fn := fun _ => fun
  | [d] => { results := [.lit (.bool false)], args := [d] }
  | _ => none }
def FnExactReadOpWrongFalsely : Prop := fnExactReadOpRow.holds Try.pinned (OpenSpec.ofChange fnExactReadOpWrong)

/-- 'laws.FnExactNewServer': WHATEVER THE INPUT: true; the input reads as it did. -/
def fnExactNewServerSpec : ChangeSpec := { name := "fnExactNewServer", fn := fun _ => fun
  | [] => { results := [.lit (.bool true)], args := [] }
  | _ => none }
def fnExactNewServerRow : OpenClaim := { program := "ytcdodpcdennemaa", sum := "967acb0031aa402a8b40fc945b4b290ca901a4ea73b48719fced8afc77b6682f", func := "loop.example/g00602/laws.FnExactNewServer", spec := "fnExactNewServer", apart := false }
def FnExactNewServerSaid : Prop := fnExactNewServerRow.holds Try.pinned (OpenSpec.ofChange fnExactNewServerSpec)

/-- ITS FALSE NEIGHBOUR: 'it returns false'. Refute it at one input. -/
def fnExactNewServerWrong : ChangeSpec := { name := "fnExactNewServer", fn := fun _ => fun
  | [] => { results := [.lit (.bool false)], args := [] }
  | _ => none }
def FnExactNewServerWrongFalsely : Prop := fnExactNewServerRow.holds Try.pinned (OpenSpec.ofChange fnExactNewServerWrong)

/-- 'laws.FnExactSameServers': WHATEVER THE INPUT: true; the input reads as it did. -/
def fnExactSameServersSpec : ChangeSpec := { name := "fnExactSameServers", fn := fun _ => fun
  | [d1, d2] => { results := [.lit (.bool true)], args := [d1, d2] }
  | _ => none }
def fnExactSameServersRow : OpenClaim := { program := "ytcdodpcdennemaa", sum := "967acb0031aa402a8b40fc945b4b290ca901a4ea73b48719fced8afc77b6682f", func := "loop.example/g00602/laws.FnExactSameServers", spec := "fnExactSameServers", unfollowed := true, recurses := true, apart := false }
def FnExactSameServersSaid : Prop := fnExactSameServersRow.holds Try.pinned (OpenSpec.ofChange fnExactSameServersSpec)

/-- ITS FALSE NEIGHBOUR: 'it returns false'. Refute it at one input. -/
def fnExactSameServersWrong : ChangeSpec := { name := "fnExactSameServers", fn := fun _ => fun
  | [d1, d2] => { results := [.lit (.bool false)], args := [d1, d2] }
  | _ => none }
def FnExactSameServersWrongFalsely : Prop := fnExactSameServersRow.holds Try.pinned (OpenSpec.ofChange fnExactSameServersWrong)

/-- 'laws.FnExactReplyFault': WHATEVER THE INPUT: true; the input reads as it did. -/
def fnExactReplyFaultSpec : ChangeSpec := { name := "fnExactReplyFault", fn := fun _ => fun
  | [d] => { results := [.lit (.bool true)], args := [d] }
  | _ => none }
def fnExactReplyFaultRow : OpenClaim := { program := "ytcdodpcdennemaa", sum := "967acb0031aa402a8b40fc945b4b290ca901a4ea73b48719fced8afc77b6682f", func := "loop.example/g00602/laws.FnExactReplyFault", spec := "fnExactReplyFault", apart := false }
def FnExactReplyFaultSaid : Prop := fnExactReplyFaultRow.holds Try.pinned (OpenSpec.ofChange fnExactReplyFaultSpec)

/-- ITS FALSE NEIGHBOUR: 'it returns false'. Refute it at one input. -/
def fnExactReplyFaultWrong : ChangeSpec := { name := "fnExactReplyFault", fn := fun _ => fun
  | [d] => { results := [.lit (.bool false)], args := [d] }
  | _ => none }
def FnExactReplyFaultWrongFalsely : Prop := fnExactReplyFaultRow.holds Try.pinned (OpenSpec.ofChange fnExactReplyFaultWrong)

/-- 'laws.FnExactAuditChain': WHATEVER THE INPUT: true; the input reads as it did. -/
def fnExactAuditChainSpec : ChangeSpec := { name := "fnExactAuditChain", fn := fun _ => fun
  | [d1, d2] => { results := [.lit (.bool true)], args := [d1, d2] }
  | _ => none }
def fnExactAuditChainRow : OpenClaim := { program := "ytcdodpcdennemaa", sum := "967acb0031aa402a8b40fc945b4b290ca901a4ea73b48719fced8afc77b6682f", func := "loop.example/g00602/laws.FnExactAuditChain", spec := "fnExactAuditChain", apart := false }
def FnExactAuditChainSaid : Prop := fnExactAuditChainRow.holds Try.pinned (OpenSpec.ofChange fnExactAuditChainSpec)

/-- ITS FALSE NEIGHBOUR: 'it returns false'. Refute it at one input. -/
def fnExactAuditChainWrong : ChangeSpec := { name := "fnExactAuditChain", fn := fun _ => fun
  | [d1, d2] => { results := [.lit (.bool false)], args := [d1, d2] }
  | _ => none }
def FnExactAuditChainWrongFalsely : Prop := fnExactAuditChainRow.holds Try.pinned (OpenSpec.ofChange fnExactAuditChainWrong)

/-- 'laws.FnExactCutOverRight': WHATEVER THE INPUT: true; the input reads as it did. -/
def fnExactCutOverRightSpec : ChangeSpec := { name := "fnExactCutOverRight", fn := fun _ => fun
  | [d1, d2] => { results := [.lit (.bool true)], args := [d1, d2] }
  | _ => none }
def fnExactCutOverRightRow : OpenClaim := { program := "ytcdodpcdennemaa", sum := "967acb0031aa402a8b40fc945b4b290ca901a4ea73b48719fced8afc77b6682f", func := "loop.example/g00602/laws.FnExactCutOverRight", spec := "fnExactCutOverRight", apart := false }
def FnExactCutOverRightSaid : Prop := fnExactCutOverRightRow.holds Try.pinned (OpenSpec.ofChange fnExactCutOverRightSpec)

/-- ITS FALSE NEIGHBOUR: 'it returns false'. Refute it at one input. -/
def fnExactCutOverRightWrong : ChangeSpec := { name := "fnExactCutOverRight", fn := fun _ => fun
  | [d1, d2] => { results := [.lit (.bool false)], args := [d1, d2] }
  | _ => none }
def FnExactCutOverRightWrongFalsely : Prop := fnExactCutOverRightRow.holds Try.pinned (OpenSpec.ofChange fnExactCutOverRightWrong)

/- THE SECOND FORM. 'bulk': how many values and letters a reading holds, each counted each time it is reached (what is shared counts as often as it is met; a slice's spare places count too). A statement '..UptoSaid' is the law's where the arguments, and the package variables that the reading takes, are together of bulk at most 1048576: NARROWER than '..Said'. Prove '..Said' where nothing that the law and all that it calls make is longer than what came in: it says more and counts as full. Else prove '..UptoSaid'. A law counts once. -/
mutual
def uptoBulk {H : Type} : DataW H → Nat
  | .lit (.string bytes) => bytes.length + 1
  | .lit _ => 1
  | .nil => 1
  | .ptr d => uptoBulk d + 1
  | .slice elems spare => uptoBulkAll elems + uptoBulkAll spare + 1
  | .agg parts => uptoBulkAll parts + 1
  | .iface _ d => uptoBulk d + 1
  | .map entries => uptoBulkEntries entries + 1
  | .held _ => 1
def uptoBulkAll {H : Type} : List (DataW H) → Nat
  | [] => 0
  | d :: r => uptoBulk d + uptoBulkAll r
def uptoBulkEntries {H : Type} : List (Lit × DataW H) → Nat
  | [] => 0
  | x :: r => uptoBulkEntry x + uptoBulkEntries r
def uptoBulkEntry {H : Type} : Lit × DataW H → Nat
  | (.string bytes, d) => bytes.length + uptoBulk d + 1
  | (_, d) => uptoBulk d + 1
 end
def uptoSmall : (H : Type) → List (DataW H) → Bool := fun _ ds => decide (uptoBulkAll ds ≤ 1048576)
def OpenSpec.upto (s : _root_.Go.ChangeSpec) : _root_.Go.OpenSpec := { _root_.Go.OpenSpec.ofChange s with cond := some uptoSmall }

/-- 'laws.FnExactPackOp', WHERE WHAT IT READS IS OF BULK AT MOST 1048576: true; the input reads as it did. -/
def fnExactPackOpUptoRow : OpenClaim := { program := "ytcdodpcdennemaa", sum := "967acb0031aa402a8b40fc945b4b290ca901a4ea73b48719fced8afc77b6682f", func := "loop.example/g00602/laws.FnExactPackOp", spec := "fnExactPackOp", unfollowed := true, recurses := true, apart := false, narrowed := true }
def FnExactPackOpUptoSaid : Prop := fnExactPackOpUptoRow.holds Try.pinned (OpenSpec.upto fnExactPackOpSpec)

/-- 'laws.FnExactReadOp', WHERE WHAT IT READS IS OF BULK AT MOST 1048576: true; the input reads as it did. -/
def fnExactReadOpUptoRow : OpenClaim := { program := "ytcdodpcdennemaa", sum := "967acb0031aa402a8b40fc945b4b290ca901a4ea73b48719fced8afc77b6682f", func := "loop.example/g00602/laws.FnExactReadOp", spec := "fnExactReadOp", unfollowed := true, recurses := true, apart := false, narrowed := true }
def FnExactReadOpUptoSaid : Prop := fnExactReadOpUptoRow.holds Try.pinned (OpenSpec.upto fnExactReadOpSpec)

/-- 'laws.FnExactNewServer', WHERE WHAT IT READS IS OF BULK AT MOST 1048576: true; the input reads as it did. -/
def fnExactNewServerUptoRow : OpenClaim := { program := "ytcdodpcdennemaa", sum := "967acb0031aa402a8b40fc945b4b290ca901a4ea73b48719fced8afc77b6682f", func := "loop.example/g00602/laws.FnExactNewServer", spec := "fnExactNewServer", apart := false, narrowed := true }
def FnExactNewServerUptoSaid : Prop := fnExactNewServerUptoRow.holds Try.pinned (OpenSpec.upto fnExactNewServerSpec)

/-- 'laws.FnExactSameServers', WHERE WHAT IT READS IS OF BULK AT MOST 1048576: true; the input reads as it did. -/
def fnExactSameServersUptoRow : OpenClaim := { program := "ytcdodpcdennemaa", sum := "967acb0031aa402a8b40fc945b4b290ca901a4ea73b48719fced8afc77b6682f", func := "loop.example/g00602/laws.FnExactSameServers", spec := "fnExactSameServers", unfollowed := true, recurses := true, apart := false, narrowed := true }
def FnExactSameServersUptoSaid : Prop := fnExactSameServersUptoRow.holds Try.pinned (OpenSpec.upto fnExactSameServersSpec)

/-- 'laws.FnExactReplyFault', WHERE WHAT IT READS IS OF BULK AT MOST 1048576: true; the input reads as it did. -/
def fnExactReplyFaultUptoRow : OpenClaim := { program := "ytcdodpcdennemaa", sum := "967acb0031aa402a8b40fc945b4b290ca901a4ea73b48719fced8afc77b6682f", func := "loop.example/g00602/laws.FnExactReplyFault", spec := "fnExactReplyFault", apart := false, narrowed := true }
def FnExactReplyFaultUptoSaid : Prop := fnExactReplyFaultUptoRow.holds Try.pinned (OpenSpec.upto fnExactReplyFaultSpec)

/-- 'laws.FnExactAuditChain', WHERE WHAT IT READS IS OF BULK AT MOST 1048576: true; the input reads as it did. -/
def fnExactAuditChainUptoRow : OpenClaim := { program := "ytcdodpcdennemaa", sum := "967acb0031aa402a8b40fc945b4b290ca901a4ea73b48719fced8afc77b6682f", func := "loop.example/g00602/laws.FnExactAuditChain", spec := "fnExactAuditChain", apart := false, narrowed := true }
def FnExactAuditChainUptoSaid : Prop := fnExactAuditChainUptoRow.holds Try.pinned (OpenSpec.upto fnExactAuditChainSpec)

/-- 'laws.FnExactCutOverRight', WHERE WHAT IT READS IS OF BULK AT MOST 1048576: true; the input reads as it did. -/
def fnExactCutOverRightUptoRow : OpenClaim := { program := "ytcdodpcdennemaa", sum := "967acb0031aa402a8b40fc945b4b290ca901a4ea73b48719fced8afc77b6682f", func := "loop.example/g00602/laws.FnExactCutOverRight", spec := "fnExactCutOverRight", apart := false, narrowed := true }
def FnExactCutOverRightUptoSaid : Prop := fnExactCutOverRightUptoRow.holds Try.pinned (OpenSpec.upto fnExactCutOverRightSpec)

end Rows
end Go.Proofs.Ytcdodpcdennemaa
