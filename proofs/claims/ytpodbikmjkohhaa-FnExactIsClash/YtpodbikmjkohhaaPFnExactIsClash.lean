/- The law FnExactIsClash holds at every clash that is handed in: it answers true, and its pieces read as they did. -/
import Derived.Test.YtpodbikmjkohhaaRows
import Derived.Test.YtpodbikmjkohhaaFnExactIsClashW
import Derived.ProofKit
import Derived.OpenShut
import Derived.ShutString
import Derived.Test.YtpodbikmjkohhaaLaw
import Derived.Test.YtpodbikmjkohhaaArgField
namespace Go.Proofs.Ytpodbikmjkohhaa
namespace fnExactIsClash
open Go.ChangeShapes Go.WideShapes Go.ChangeAt Go.RowKit

theorem laidOut : laidOutB Try.prog = true := by kernel_rfl
theorem own : ownKnob Try.prog.godebug = none := by kernel_rfl

set_option maxRecDepth 100000 in
theorem lifted (os : Os) (started : os.Started) (H : Type) (enc : TypeId × Value → H) :
    ReturnsInHanded {} Try.checked os 7 .any (Rows.fnExactIsClashSpec.pre6 enc Try.prog Try.f7 Rows.fnExactIsClashRow.domain false) (Rows.fnExactIsClashSpec.post enc Try.prog Try.f7 false true false false) := by
  refine returnsInHanded_of_change (C := Try.checked) own started (by kernel_rfl) Try.func7
    (ChangeSpec.witness6 (enc := enc) (C := Try.checked) false ⟨#[], #[.agg #[.bool false, .slice none 0 0, .slice none 0 0]], []⟩ 8 (by kernel_rfl) (by kernel_rfl) (by kernel_rfl) (by kernel_rfl)) ?_
  intro W base args ds gs before hval0 hW hcnd _
  have hval : ∀ (j : Nat) t v, Try.f7.params[j]? = some t → args[j]? = some v → Value.okWide Try.prog W .any base t v := hval0
  have hW' := hW
  obtain ⟨p, q, hA0, hV, rfl, hfz, hnd⟩ := hW
  have hA : DataW.TrodAll enc Try.prog W 0 (fun _ => true) true Try.f7.params.toList args.toList ds p := hA0
  rw [Try.params7] at hA hval
  obtain ⟨v0, vs0, d0, ds0, p0, q0, hargs, rfl, rfl, h0, r0⟩ := trodAll_cons hA
  obtain ⟨rfl, rfl, rfl⟩ := trodAll_nil r0
  obtain rfl : args = #[v0] := by cases args; simp_all
  obtain ⟨rfl, rfl⟩ := trodVars_none hV
  obtain ⟨e0, e1, e2, y0, y1, y2, fuel, rfl, rfl, rfl, t0, t1, t2⟩ := Joins.open_agg3 Try.underlying53 (by kernel_rfl) (by kernel_rfl) (hval 0 53 v0 rfl rfl) h0
  obtain ⟨f, hf0, hy0⟩ := DataW.trod_bool Try.underlying4 t0
  obtain rfl : e0 = .bool f := by simpa using hf0
  obtain ⟨xs1, hxs1, hlen1, hwf1⟩ := U.ints_field Try.underlying22 Try.underlying5 (by kernel_rfl) t1
  obtain ⟨xs2, hxs2, hlen2, hwf2⟩ := U.ints_field Try.underlying22 Try.underlying5 (by kernel_rfl) t2
  clear hA0 hval0
  refine (U.fnExactIsClash_walk f e1 e2 xs1 xs2 W hxs1 hxs2 hlen1 hlen2 (fun b hb => bounds_u8 (hwf1 b hb)) (fun b hb => bounds_u8 (hwf2 b hb))).mono fun e W' ⟨he, hg⟩ => ?_
  subst he
  refine ⟨_, rfl, U.law_post (tb := 4) hW' hg laidOut ?_ (fun n hn => by cases hn) (by kernel_rfl) Try.underlying4 rfl rfl rfl⟩
  rw [Try.params7]; intro t ht; simp at ht; subst ht; exact ⟨by kernel_rfl, of_decide_eq_true (by kernel_rfl)⟩

theorem over : Rows.fnExactIsClashRow.holds Try.pinned (OpenSpec.ofChange Rows.fnExactIsClashSpec) :=
  OpenClaim.holds_of_wide 7 Try.f7 rfl rfl rfl rfl rfl rfl rfl ⟨rfl, rfl, rfl, rfl, rfl⟩ rfl rfl rfl rfl rfl (by kernel_rfl) Try.func7 (by kernel_rfl)
    (of_decide_eq_true (by kernel_rfl)) (by unfold Func.isWrapper; first | (rw [if_pos (by decide +kernel)]; kernel_rfl) | (rw [if_neg (by decide +kernel)]; exact ⟨rfl, rfl⟩))
    (fun os started H enc _ => lifted os started H enc)
end fnExactIsClash
/-- The law FnExactIsClash: whatever the arguments, the call returns true and they read as before. -/
theorem fnExactIsClash_holds : Rows.FnExactIsClashSaid := fnExactIsClash.over
#print axioms fnExactIsClash_holds
end Go.Proofs.Ytpodbikmjkohhaa
