/- The law FnExactSampleRight holds at every argument: it answers true, and the arguments read as they did. -/
import Derived.Test.YtdbbmclobmigdaaGreatRows
import Derived.Test.YtdbbmclobmigdaaGreatGFnExactSampleRightW
import Derived.ProofKit
import Derived.OpenShut
import Derived.ShutString
import Derived.Test.YtdbbmclobmigdaaGreatLaw
import Derived.Test.YtdbbmclobmigdaaGreatGArgHd
import Derived.Test.YtdbbmclobmigdaaGreatArgSm
namespace Go.Proofs.YtdbbmclobmigdaaGreat
namespace fnExactSampleRight
open Go.ChangeShapes Go.WideShapes Go.ChangeAt Go.RowKit

theorem laidOut : laidOutB Tryz.prog = true := by kernel_rfl
theorem own : ownKnob Tryz.prog.godebug = none := by kernel_rfl

set_option maxRecDepth 100000 in
theorem lifted (os : Os) (started : os.Started) (H : Type) (enc : TypeId × Value → H) :
    ReturnsInHanded {} Tryz.checked os 5 .any (Rows.fnExactSampleRightSpec.pre6 enc Tryz.prog Tryz.f5 Rows.fnExactSampleRightRow.domain false) (Rows.fnExactSampleRightSpec.post enc Tryz.prog Tryz.f5 false true false false) := by
  refine returnsInHanded_of_change (C := Tryz.checked) own started (by kernel_rfl) Tryz.func5
    (ChangeSpec.witness6 (enc := enc) (C := Tryz.checked) false ⟨#[], #[.agg #[.int .i64 0, .int .i64 0, .int .i64 0, .int .i64 0, .int .i64 0], .agg #[.string ByteArray.empty, .int .i64 0, .bool false, .string ByteArray.empty, .int .i64 0, .int .i64 0, .int .i64 0, .bool false, .bool false, .int .i64 0, .slice none 0 0, .bool false, .int .i64 0, .int .i64 0, .slice none 0 0, .int .i64 0, .bool false, .string ByteArray.empty, .int .i64 0, .int .i64 0, .int .i64 0, .bool false, .bool false, .int .i64 0, .slice none 0 0, .bool false, .int .i64 0, .int .i64 0, .slice none 0 0]], []⟩ 8 (by kernel_rfl) (by kernel_rfl) (by kernel_rfl) (by kernel_rfl)) ?_
  intro W base args ds gs before hval0 hW hcnd _
  have hval : ∀ (j : Nat) t v, Tryz.f5.params[j]? = some t → args[j]? = some v → Value.okWide Tryz.prog W .any base t v := hval0
  have hW' := hW
  obtain ⟨p, q, hA0, hV, rfl, hfz, hnd⟩ := hW
  have hA : DataW.TrodAll enc Tryz.prog W 0 (fun _ => true) true Tryz.f5.params.toList args.toList ds p := hA0
  rw [Tryz.params5] at hA hval
  obtain ⟨v0, vs0, d0, ds0, p0, q0, hargs0, rfl, rfl, h0, r0⟩ := trodAll_cons hA
  obtain ⟨v1, vs1, d1, ds1, p1, q1, hargs1, rfl, rfl, h1, r1⟩ := trodAll_cons r0
  obtain ⟨rfl, rfl, rfl⟩ := trodAll_nil r1
  obtain rfl : args = #[v0, v1] := by cases args; simp_all
  obtain ⟨rfl, rfl⟩ := trodVars_none hV
  obtain ⟨e0, p0', o0, n0', v0', rfl⟩ := U.hd_arg (hval 0 23 v0 rfl rfl) h0
  obtain ⟨g1, e1n, b1n, r1n, i1n, j1n, m1n, a1n, t1n, z1n, y1n, q1n, x1n, k1n, w1n, u1n, l1n, e1o, b1o, r1o, i1o, j1o, m1o, a1o, t1o, z1o, y1o, q1o, x1o, k1o, w1o, u1o, l1o, rfl, hg1, hm1n0, hm1n1, hm1n2, hm1n3, hm1n4, hm1o0, hm1o1, hm1o2, hm1o3, hm1o4⟩ := U.sm_arg (hval 1 63 v1 rfl rfl) h1
  clear hA0 hval0
  refine (U.fnExactSampleRight_walk e0 p0' o0 n0' v0' g1 e1n b1n r1n i1n j1n m1n a1n t1n z1n y1n q1n x1n k1n w1n u1n l1n e1o b1o r1o i1o j1o m1o a1o t1o z1o y1o q1o x1o k1o w1o u1o l1o W hg1 hm1n0 hm1n1 hm1n2 hm1n3 hm1n4 hm1o0 hm1o1 hm1o2 hm1o3 hm1o4).mono fun e W' ⟨he, hg⟩ => ?_
  subst he
  refine ⟨_, rfl, U.law_post (tb := 4) hW' hg laidOut ?_ (fun n hn => by cases hn) (by kernel_rfl) Tryz.underlying4 rfl rfl rfl⟩
  rw [Tryz.params5]; intro t ht; simp at ht; rcases ht with rfl | rfl <;> exact ⟨by kernel_rfl, of_decide_eq_true (by kernel_rfl)⟩

theorem over : Rows.fnExactSampleRightRow.holds Tryz.pinned (OpenSpec.ofChange Rows.fnExactSampleRightSpec) :=
  OpenClaim.holds_of_wide 5 Tryz.f5 rfl rfl rfl rfl rfl rfl rfl ⟨rfl, rfl, rfl, rfl, rfl⟩ rfl rfl rfl rfl rfl (by kernel_rfl) Tryz.func5 (by kernel_rfl)
    (of_decide_eq_true (by kernel_rfl)) (by unfold Func.isWrapper; first | (rw [if_pos (by decide +kernel)]; kernel_rfl) | (rw [if_neg (by decide +kernel)]; exact ⟨rfl, rfl⟩))
    (fun os started H enc _ => lifted os started H enc)
end fnExactSampleRight
/-- The law FnExactSampleRight: whatever the arguments, the call returns true and they read as before. -/
theorem fnExactSampleRight_holds : Rows.FnExactSampleRightSaid := fnExactSampleRight.over
#print axioms fnExactSampleRight_holds
end Go.Proofs.YtdbbmclobmigdaaGreat
