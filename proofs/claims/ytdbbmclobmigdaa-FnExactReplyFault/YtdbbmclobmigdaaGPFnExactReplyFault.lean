/- The law FnExactReplyFault holds at every argument: it answers true, and the arguments read as they did. -/
import Derived.Test.YtdbbmclobmigdaaRows
import Derived.Test.YtdbbmclobmigdaaGFnExactReplyFaultW
import Derived.ProofKit
import Derived.OpenShut
import Derived.ShutString
import Derived.Test.YtdbbmclobmigdaaLaw
import Derived.Test.YtdbbmclobmigdaaGArgRp
namespace Go.Proofs.Ytdbbmclobmigdaa
namespace fnExactReplyFault
open Go.ChangeShapes Go.WideShapes Go.ChangeAt Go.RowKit

theorem laidOut : laidOutB Try.prog = true := by kernel_rfl
theorem own : ownKnob Try.prog.godebug = none := by kernel_rfl

set_option maxRecDepth 100000 in
theorem lifted (os : Os) (started : os.Started) (H : Type) (enc : TypeId × Value → H) :
    ReturnsInHanded {} Try.checked os 3 .any (Rows.fnExactReplyFaultSpec.pre6 enc Try.prog Try.f3 Rows.fnExactReplyFaultRow.domain false) (Rows.fnExactReplyFaultSpec.post enc Try.prog Try.f3 false true false false) := by
  refine returnsInHanded_of_change (C := Try.checked) own started (by kernel_rfl) Try.func3
    (ChangeSpec.witness6 (enc := enc) (C := Try.checked) false ⟨#[], #[.agg #[.int .i64 0, .bool false, .string ByteArray.empty, .int .i64 0, .int .i64 0, .int .i64 0, .bool false, .bool false, .int .i64 0, .slice none 0 0, .bool false, .int .i64 0, .int .i64 0, .slice none 0 0]], []⟩ 8 (by kernel_rfl) (by kernel_rfl) (by kernel_rfl) (by kernel_rfl)) ?_
  intro W base args ds gs before hval0 hW hcnd _
  have hval : ∀ (j : Nat) t v, Try.f3.params[j]? = some t → args[j]? = some v → Value.okWide Try.prog W .any base t v := hval0
  have hW' := hW
  obtain ⟨p, q, hA0, hV, rfl, hfz, hnd⟩ := hW
  have hA : DataW.TrodAll enc Try.prog W 0 (fun _ => true) true Try.f3.params.toList args.toList ds p := hA0
  rw [Try.params3] at hA hval
  obtain ⟨v0, vs0, d0, ds0, p0, q0, hargs0, rfl, rfl, h0, r0⟩ := trodAll_cons hA
  obtain ⟨rfl, rfl, rfl⟩ := trodAll_nil r0
  obtain rfl : args = #[v0] := by cases args; simp_all
  obtain ⟨rfl, rfl⟩ := trodVars_none hV
  obtain ⟨e0, b0, r0, i0, j0, m0, a0, t0, z0, s0, p0l, x0, k0, y0, u0, l0, rfl, hr0, hs0, hsl0, hl0, hlen0⟩ := U.rp_arg (hval 0 33 v0 rfl rfl) h0
  clear hA0 hval0
  refine (U.fnExactReplyFault_walk e0 b0 r0 i0 j0 m0 a0 t0 z0 s0 p0l x0 k0 y0 u0 l0 W hr0 hs0 hsl0 hl0 hlen0).mono fun e W' ⟨he, hg⟩ => ?_
  subst he
  refine ⟨_, rfl, U.law_post (tb := 4) hW' hg laidOut ?_ (fun n hn => by cases hn) (by kernel_rfl) Try.underlying4 rfl rfl rfl⟩
  rw [Try.params3]; intro t ht; simp at ht; subst ht <;> exact ⟨by kernel_rfl, of_decide_eq_true (by kernel_rfl)⟩

theorem over : Rows.fnExactReplyFaultRow.holds Try.pinned (OpenSpec.ofChange Rows.fnExactReplyFaultSpec) :=
  OpenClaim.holds_of_wide 3 Try.f3 rfl rfl rfl rfl rfl rfl rfl ⟨rfl, rfl, rfl, rfl, rfl⟩ rfl rfl rfl rfl rfl (by kernel_rfl) Try.func3 (by kernel_rfl)
    (of_decide_eq_true (by kernel_rfl)) (by unfold Func.isWrapper; first | (rw [if_pos (by decide +kernel)]; kernel_rfl) | (rw [if_neg (by decide +kernel)]; exact ⟨rfl, rfl⟩))
    (fun os started H enc _ => lifted os started H enc)
end fnExactReplyFault
/-- The law FnExactReplyFault: whatever the arguments, the call returns true and they read as before. -/
theorem fnExactReplyFault_holds : Rows.FnExactReplyFaultSaid := fnExactReplyFault.over
#print axioms fnExactReplyFault_holds
end Go.Proofs.Ytdbbmclobmigdaa
