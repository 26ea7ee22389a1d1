/- The law FnExactCloseEpoch holds at every argument: it answers true, and the arguments read as they did. -/
import Derived.Test.YtjhmfaibpnagcaaGreatRows
import Derived.Test.YtjhmfaibpnagcaaGreatGFnExactCloseEpochW
import Derived.ProofKit
import Derived.OpenShut
import Derived.ShutString
import Derived.Test.YtjhmfaibpnagcaaGreatGBC
import Derived.Test.YtjhmfaibpnagcaaGreatGArgSt
namespace Go.Proofs.YtjhmfaibpnagcaaGreat
namespace fnExactCloseEpoch
open Go.ChangeShapes Go.WideShapes Go.ChangeAt Go.RowKit

theorem laidOut : laidOutB Tryz.prog = true := by kernel_rfl
theorem own : ownKnob Tryz.prog.godebug = none := by kernel_rfl

set_option maxRecDepth 100000 in
theorem lifted (os : Os) (started : os.Started) (H : Type) (enc : TypeId × Value → H) :
    ReturnsInHanded {} Tryz.checked os 3 .any (Rows.fnExactCloseEpochSpec.pre6 enc Tryz.prog Tryz.f3 Rows.fnExactCloseEpochRow.domain false) (Rows.fnExactCloseEpochSpec.post enc Tryz.prog Tryz.f3 false true false false) := by
  refine returnsInHanded_of_change (C := Tryz.checked) own started (by kernel_rfl) Tryz.func3
    (ChangeSpec.witness6 (enc := enc) (C := Tryz.checked) false ⟨#[], #[.agg #[.int .i64 0, .int .i64 0, .slice none 0 0, .slice none 0 0, .slice none 0 0, .slice none 0 0]], []⟩ 8 (by kernel_rfl) (by kernel_rfl) (by kernel_rfl) (by kernel_rfl)) ?_
  intro W base args ds gs before hval0 hW hcnd _
  have hval : ∀ (j : Nat) t v, Tryz.f3.params[j]? = some t → args[j]? = some v → Value.okWide Tryz.prog W .any base t v := hval0
  have hW' := hW
  obtain ⟨p, q, hA0, hV, rfl, hfz, hnd⟩ := hW
  have hA : DataW.TrodAll enc Tryz.prog W 0 (fun _ => true) true Tryz.f3.params.toList args.toList ds p := hA0
  rw [Tryz.params3] at hA hval
  obtain ⟨v0, vs0, d0, ds0, p0, q0, hargs0, rfl, rfl, h0, r0⟩ := trodAll_cons hA
  obtain ⟨rfl, rfl, rfl⟩ := trodAll_nil r0
  obtain rfl : args = #[v0] := by cases args; simp_all
  obtain ⟨rfl, rfl⟩ := trodVars_none hV
  obtain ⟨s0, u0, rfl, hs0, hbd0⟩ := U.st_arg (hval 0 29 v0 rfl rfl) h0
  clear hA0 hval0
  refine (U.fnExactCloseEpoch_walk s0 u0 W hs0 hbd0).mono fun e W' ⟨he, hg⟩ => ?_
  subst he
  refine ⟨_, rfl, U.law_post (tb := 4) hW' hg laidOut ?_ (fun n hn => by cases hn) (by kernel_rfl) Tryz.underlying4 rfl rfl rfl⟩
  rw [Tryz.params3]; intro t ht; simp at ht; subst ht <;> exact ⟨by kernel_rfl, of_decide_eq_true (by kernel_rfl)⟩

theorem over : Rows.fnExactCloseEpochRow.holds Tryz.pinned (OpenSpec.ofChange Rows.fnExactCloseEpochSpec) :=
  OpenClaim.holds_of_wide 3 Tryz.f3 rfl rfl rfl rfl rfl rfl rfl ⟨rfl, rfl, rfl, rfl, rfl⟩ rfl rfl rfl rfl rfl (by kernel_rfl) Tryz.func3 (by kernel_rfl)
    (of_decide_eq_true (by kernel_rfl)) (by unfold Func.isWrapper; first | (rw [if_pos (by decide +kernel)]; kernel_rfl) | (rw [if_neg (by decide +kernel)]; exact ⟨rfl, rfl⟩))
    (fun os started H enc _ => lifted os started H enc)
end fnExactCloseEpoch
/-- The law FnExactCloseEpoch: whatever the arguments, the call returns true and they read as before. -/
theorem fnExactCloseEpoch_holds : Rows.FnExactCloseEpochSaid := fnExactCloseEpoch.over
#print axioms fnExactCloseEpoch_holds
end Go.Proofs.YtjhmfaibpnagcaaGreat
