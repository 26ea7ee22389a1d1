/- The law FnExactFormsOf holds at every argument: it answers true, and the arguments read as they did. -/
import Derived.Test.YtnhokdhaobmonaaRows
import Derived.Test.YtnhokdhaobmonaaFnExactFormsOfW
import Derived.ProofKit
import Derived.OpenShut
import Derived.ShutString
import Derived.Test.YtnhokdhaobmonaaLaw
import Derived.Test.YtnhokdhaobmonaaArgHd
namespace Go.Proofs.Ytnhokdhaobmonaa
namespace fnExactFormsOf
open Go.ChangeShapes Go.WideShapes Go.ChangeAt Go.RowKit

theorem laidOut : laidOutB Try.prog = true := by kernel_rfl
theorem own : ownKnob Try.prog.godebug = none := by kernel_rfl

set_option maxRecDepth 100000 in
theorem lifted (os : Os) (started : os.Started) (H : Type) (enc : TypeId × Value → H) :
    ReturnsInHanded {} Try.checked os 9 .any (Rows.fnExactFormsOfSpec.pre6 enc Try.prog Try.f9 Rows.fnExactFormsOfRow.domain false) (Rows.fnExactFormsOfSpec.post enc Try.prog Try.f9 false true false false) := by
  refine returnsInHanded_of_change (C := Try.checked) own started (by kernel_rfl) Try.func9
    (ChangeSpec.witness6 (enc := enc) (C := Try.checked) false ⟨#[], #[.agg #[.int .i64 0, .int .i64 0, .int .i64 0, .int .i64 0, .int .i64 0]], []⟩ 8 (by kernel_rfl) (by kernel_rfl) (by kernel_rfl) (by kernel_rfl)) ?_
  intro W base args ds gs before hval0 hW hcnd _
  have hval : ∀ (j : Nat) t v, Try.f9.params[j]? = some t → args[j]? = some v → Value.okWide Try.prog W .any base t v := hval0
  have hW' := hW
  obtain ⟨p, q, hA0, hV, rfl, hfz, hnd⟩ := hW
  have hA : DataW.TrodAll enc Try.prog W 0 (fun _ => true) true Try.f9.params.toList args.toList ds p := hA0
  rw [Try.params9] at hA hval
  obtain ⟨v0, vs0, d0, ds0, p0, q0, hargs0, rfl, rfl, h0, r0⟩ := trodAll_cons hA
  obtain ⟨rfl, rfl, rfl⟩ := trodAll_nil r0
  obtain rfl : args = #[v0] := by cases args; simp_all
  obtain ⟨rfl, rfl⟩ := trodVars_none hV
  obtain ⟨e0, p0', o0, n0', v0', rfl⟩ := U.hd_arg (hval 0 101 v0 rfl rfl) h0
  clear hA0 hval0
  refine (U.fnExactFormsOf_walk e0 p0' o0 n0' v0' W).mono fun e W' ⟨he, hg⟩ => ?_
  subst he
  refine ⟨_, rfl, U.law_post (tb := 4) hW' hg laidOut ?_ (fun n hn => by cases hn) (by kernel_rfl) Try.underlying4 rfl rfl rfl⟩
  rw [Try.params9]; intro t ht; simp at ht; subst ht <;> exact ⟨by kernel_rfl, of_decide_eq_true (by kernel_rfl)⟩

theorem over : Rows.fnExactFormsOfRow.holds Try.pinned (OpenSpec.ofChange Rows.fnExactFormsOfSpec) :=
  OpenClaim.holds_of_wide 9 Try.f9 rfl rfl rfl rfl rfl rfl rfl ⟨rfl, rfl, rfl, rfl, rfl⟩ rfl rfl rfl rfl rfl (by kernel_rfl) Try.func9 (by kernel_rfl)
    (of_decide_eq_true (by kernel_rfl)) (by unfold Func.isWrapper; first | (rw [if_pos (by decide +kernel)]; kernel_rfl) | (rw [if_neg (by decide +kernel)]; exact ⟨rfl, rfl⟩))
    (fun os started H enc _ => lifted os started H enc)
end fnExactFormsOf
/-- The law FnExactFormsOf: whatever the arguments, the call returns true and they read as before. -/
theorem fnExactFormsOf_holds : Rows.FnExactFormsOfSaid := fnExactFormsOf.over
#print axioms fnExactFormsOf_holds
end Go.Proofs.Ytnhokdhaobmonaa
