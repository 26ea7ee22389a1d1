/- The law FnExactPackOp holds at every operation that is handed in: it answers true, and the operation reads as it did. -/
import Derived.Test.YtcdodpcdennemaaRows
import Derived.Test.YtcdodpcdennemaaFnExactPackOpW
import Derived.ProofKit
import Derived.OpenShut
import Derived.ShutString
import Derived.Test.YtcdodpcdennemaaLaw
import Derived.Test.YtcdodpcdennemaaArgOp
namespace Go.Proofs.Ytcdodpcdennemaa
namespace fnExactPackOp
open Go.ChangeShapes Go.WideShapes Go.ChangeAt Go.RowKit

theorem laidOut : laidOutB Try.prog = true := by kernel_rfl
theorem own : ownKnob Try.prog.godebug = none := by kernel_rfl

set_option maxRecDepth 100000 in
theorem lifted (os : Os) (started : os.Started) (H : Type) (enc : TypeId × Value → H) :
    ReturnsInHanded {} Try.checked os 3 .any (Rows.fnExactPackOpSpec.pre6 enc Try.prog Try.f3 Rows.fnExactPackOpRow.domain false) (Rows.fnExactPackOpSpec.post enc Try.prog Try.f3 false true false false) := by
  refine returnsInHanded_of_change (C := Try.checked) own started (by kernel_rfl) Try.func3
    (ChangeSpec.witness6 (enc := enc) (C := Try.checked) false ⟨#[], #[.agg #[.int .i64 0, .string ByteArray.empty, .int .i64 0, .int .i64 0, .int .i64 0, .int .i64 0, .int .i64 0]], []⟩ 8 (by kernel_rfl) (by kernel_rfl) (by kernel_rfl) (by kernel_rfl)) ?_
  intro W base args ds gs before hval0 hW hcnd _
  have hval : ∀ (j : Nat) t v, Try.f3.params[j]? = some t → args[j]? = some v → Value.okWide Try.prog W .any base t v := hval0
  have hW' := hW
  obtain ⟨p, q, hA0, hV, rfl, hfz, hnd⟩ := hW
  have hA : DataW.TrodAll enc Try.prog W 0 (fun _ => true) true Try.f3.params.toList args.toList ds p := hA0
  rw [Try.params3] at hA hval
  obtain ⟨v0, vs0, d0, ds0, p0, q0, hargs, rfl, rfl, h0, r0⟩ := trodAll_cons hA
  obtain ⟨rfl, rfl, rfl⟩ := trodAll_nil r0
  obtain rfl : args = #[v0] := by cases args; simp_all
  obtain ⟨rfl, rfl⟩ := trodVars_none hV
  obtain ⟨k0, s0, n1, n2, n3, n4, n5, rfl, hs⟩ := U.op_arg (hval 0 25 v0 rfl rfl) h0
  clear hA0 hval0
  refine (U.fnExactPackOp_walk k0 s0 n1 n2 n3 n4 n5 hs W).mono fun e W' ⟨he, hg⟩ => ?_
  subst he
  refine ⟨_, rfl, U.law_post (tb := 4) hW' hg laidOut ?_ (fun n hn => by cases hn) (by kernel_rfl) Try.underlying4 rfl rfl rfl⟩
  rw [Try.params3]; intro t ht; simp at ht; subst ht; exact ⟨by kernel_rfl, of_decide_eq_true (by kernel_rfl)⟩

theorem over : Rows.fnExactPackOpRow.holds Try.pinned (OpenSpec.ofChange Rows.fnExactPackOpSpec) :=
  OpenClaim.holds_of_wide 3 Try.f3 rfl rfl rfl rfl rfl rfl rfl ⟨rfl, rfl, rfl, rfl, rfl⟩ rfl rfl rfl rfl rfl (by kernel_rfl) Try.func3 (by kernel_rfl)
    (of_decide_eq_true (by kernel_rfl)) (by unfold Func.isWrapper; first | (rw [if_pos (by decide +kernel)]; kernel_rfl) | (rw [if_neg (by decide +kernel)]; exact ⟨rfl, rfl⟩))
    (fun os started H enc _ => lifted os started H enc)
end fnExactPackOp
/-- The law FnExactPackOp: whatever the arguments, the call returns true and they read as before. -/
theorem fnExactPackOp_holds : Rows.FnExactPackOpSaid := fnExactPackOp.over
#print axioms fnExactPackOp_holds
end Go.Proofs.Ytcdodpcdennemaa
