/- The law FnExactBothSaid holds at every argument: it answers true, and the arguments read as they did. -/
import Derived.Test.YtdbbmclobmigdaaGreatRows
import Derived.Test.YtdbbmclobmigdaaGreatGFnExactBothSaidW
import Derived.ProofKit
import Derived.OpenShut
import Derived.ShutString
import Derived.Test.YtdbbmclobmigdaaGreatLaw
import Derived.Test.YtdbbmclobmigdaaGreatGArgHd
import Derived.Test.YtdbbmclobmigdaaGreatArgRp
namespace Go.Proofs.YtdbbmclobmigdaaGreat
namespace fnExactBothSaid
open Go.ChangeShapes Go.WideShapes Go.ChangeAt Go.RowKit
open Go.ChangeMaps (open_string)

theorem laidOut : laidOutB Tryz.prog = true := by kernel_rfl
theorem own : ownKnob Tryz.prog.godebug = none := by kernel_rfl

set_option maxRecDepth 100000 in
theorem lifted (os : Os) (started : os.Started) (H : Type) (enc : TypeId × Value → H) :
    ReturnsInHanded {} Tryz.checked os 4 .any (Rows.fnExactBothSaidSpec.pre6 enc Tryz.prog Tryz.f4 Rows.fnExactBothSaidRow.domain false) (Rows.fnExactBothSaidSpec.post enc Tryz.prog Tryz.f4 false true false false) := by
  refine returnsInHanded_of_change (C := Tryz.checked) own started (by kernel_rfl) Tryz.func4
    (ChangeSpec.witness6 (enc := enc) (C := Tryz.checked) false ⟨#[], #[.agg #[.int .i64 0, .int .i64 0, .int .i64 0, .int .i64 0, .int .i64 0], .string ByteArray.empty, .agg #[.int .i64 0, .bool false, .string ByteArray.empty, .int .i64 0, .int .i64 0, .int .i64 0, .bool false, .bool false, .int .i64 0, .slice none 0 0, .bool false, .int .i64 0, .int .i64 0, .slice none 0 0], .agg #[.int .i64 0, .bool false, .string ByteArray.empty, .int .i64 0, .int .i64 0, .int .i64 0, .bool false, .bool false, .int .i64 0, .slice none 0 0, .bool false, .int .i64 0, .int .i64 0, .slice none 0 0]], []⟩ 8 (by kernel_rfl) (by kernel_rfl) (by kernel_rfl) (by kernel_rfl)) ?_
  intro W base args ds gs before hval0 hW hcnd _
  have hval : ∀ (j : Nat) t v, Tryz.f4.params[j]? = some t → args[j]? = some v → Value.okWide Tryz.prog W .any base t v := hval0
  have hW' := hW
  obtain ⟨p, q, hA0, hV, rfl, hfz, hnd⟩ := hW
  have hA : DataW.TrodAll enc Tryz.prog W 0 (fun _ => true) true Tryz.f4.params.toList args.toList ds p := hA0
  rw [Tryz.params4] at hA hval
  obtain ⟨v0, vs0, d0, ds0, p0, q0, hargs0, rfl, rfl, h0, r0⟩ := trodAll_cons hA
  obtain ⟨v1, vs1, d1, ds1, p1, q1, hargs1, rfl, rfl, h1, r1⟩ := trodAll_cons r0
  obtain ⟨v2, vs2, d2, ds2, p2, q2, hargs2, rfl, rfl, h2, r2⟩ := trodAll_cons r1
  obtain ⟨v3, vs3, d3, ds3, p3, q3, hargs3, rfl, rfl, h3, r3⟩ := trodAll_cons r2
  obtain ⟨rfl, rfl, rfl⟩ := trodAll_nil r3
  obtain rfl : args = #[v0, v1, v2, v3] := by cases args; simp_all
  obtain ⟨rfl, rfl⟩ := trodVars_none hV
  obtain ⟨e0, p0', o0, n0', v0', rfl⟩ := U.hd_arg (hval 0 23 v0 rfl rfl) h0
  obtain ⟨s1, rfl, rfl, rfl, hs1⟩ := open_string Tryz.underlying9 (hval 1 9 v1 rfl rfl) h1
  obtain ⟨e2, b2, r2, i2, j2, m2, a2, t2, z2, y2, p2l, x2, k2, w2, u2, l2, rfl, hr2, hs2, hsl2, hl2, hlen2⟩ := U.rp_arg (hval 2 35 v2 rfl rfl) h2
  obtain ⟨e3, b3, r3, i3, j3, m3, a3, t3, z3, y3, p3l, x3, k3, w3, u3, l3, rfl, hr3, hs3, hsl3, hl3, hlen3⟩ := U.rp_arg (hval 3 35 v3 rfl rfl) h3
  clear hA0 hval0
  refine (U.fnExactBothSaid_walk e0 p0' o0 n0' v0' s1 e2 b2 r2 i2 j2 m2 a2 t2 z2 y2 p2l x2 k2 w2 u2 l2 e3 b3 r3 i3 j3 m3 a3 t3 z3 y3 p3l x3 k3 w3 u3 l3 W hs1 hr2 hs2 hsl2 hl2 hlen2 hr3 hs3 hsl3 hl3 hlen3).mono fun e W' ⟨he, hg⟩ => ?_
  subst he
  refine ⟨_, rfl, U.law_post (tb := 4) hW' hg laidOut ?_ (fun n hn => by cases hn) (by kernel_rfl) Tryz.underlying4 rfl rfl rfl⟩
  rw [Tryz.params4]; intro t ht; simp at ht; rcases ht with rfl | rfl | rfl | rfl <;> exact ⟨by kernel_rfl, of_decide_eq_true (by kernel_rfl)⟩

theorem over : Rows.fnExactBothSaidRow.holds Tryz.pinned (OpenSpec.ofChange Rows.fnExactBothSaidSpec) :=
  OpenClaim.holds_of_wide 4 Tryz.f4 rfl rfl rfl rfl rfl rfl rfl ⟨rfl, rfl, rfl, rfl, rfl⟩ rfl rfl rfl rfl rfl (by kernel_rfl) Tryz.func4 (by kernel_rfl)
    (of_decide_eq_true (by kernel_rfl)) (by unfold Func.isWrapper; first | (rw [if_pos (by decide +kernel)]; kernel_rfl) | (rw [if_neg (by decide +kernel)]; exact ⟨rfl, rfl⟩))
    (fun os started H enc _ => lifted os started H enc)
end fnExactBothSaid
/-- The law FnExactBothSaid: whatever the arguments, the call returns true and they read as before. -/
theorem fnExactBothSaid_holds : Rows.FnExactBothSaidSaid := fnExactBothSaid.over
#print axioms fnExactBothSaid_holds
end Go.Proofs.YtdbbmclobmigdaaGreat
