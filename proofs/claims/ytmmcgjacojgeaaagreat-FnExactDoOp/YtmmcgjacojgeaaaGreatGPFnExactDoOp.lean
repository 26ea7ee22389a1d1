/- The law FnExactDoOp holds at every argument: it answers true, and the arguments read as they did. -/
import Derived.Test.YtmmcgjacojgeaaaGreatRows
import Derived.Test.YtmmcgjacojgeaaaGreatGFnExactDoOpW
import Derived.ProofKit
import Derived.OpenShut
import Derived.ShutString
import Derived.Test.YtmmcgjacojgeaaaGreatGBC
import Derived.Test.YtmmcgjacojgeaaaGreatGArgSt
import Derived.Test.YtmmcgjacojgeaaaGreatGArgOp
set_option maxRecDepth 100000
set_option maxHeartbeats 4000000
namespace Go.Proofs.YtmmcgjacojgeaaaGreat
namespace fnExactDoOp
open Go.ChangeShapes Go.WideShapes Go.ChangeAt Go.RowKit
theorem laidOut:laidOutB Tryz.prog=true:=by kernel_rfl
theorem own:ownKnob Tryz.prog.godebug=none:=by kernel_rfl
theorem lifted(os:Os)(started:os.Started)(H:Type)(enc:TypeId × Value->H):
  ReturnsInHanded {} Tryz.checked os 4 .any (Rows.fnExactDoOpSpec.pre6 enc Tryz.prog Tryz.f4 Rows.fnExactDoOpRow.domain false) (Rows.fnExactDoOpSpec.post enc Tryz.prog Tryz.f4 false true false false):=by
 refine returnsInHanded_of_change (C:=Tryz.checked) own started (by kernel_rfl) Tryz.func4
  (ChangeSpec.witness6 (enc:=enc) (C:=Tryz.checked) false ⟨#[],#[.agg #[.int .i64 0,.int .i64 0,.slice none 0 0,.slice none 0 0,.slice none 0 0,.slice none 0 0],.agg #[.int .i64 0,.string ByteArray.empty,.int .i64 0,.int .i64 0,.int .i64 0,.int .i64 0,.int .i64 0]],[]⟩ 8 (by kernel_rfl) (by kernel_rfl) (by kernel_rfl) (by kernel_rfl)) ?_
 intro W base args ds gs before hval0 hW hcnd _
 have hval:∀(j:Nat) t v,Tryz.f4.params[j]? = some t->args[j]? = some v->Value.okWide Tryz.prog W .any base t v:=hval0
 have hW':=hW
 obtain⟨p,q,hA0,hV,rfl,hfz,hnd⟩:=hW
 have hA:DataW.TrodAll enc Tryz.prog W 0 (fun _=>true) true Tryz.f4.params.toList args.toList ds p:=hA0
 rw[Tryz.params4]at hA hval
 obtain⟨v0,vs0,d0,ds0,p0,q0,hargs0,rfl,rfl,h0,r0⟩:=trodAll_cons hA
 obtain⟨v1,vs1,d1,ds1,p1,q1,hargs1,rfl,rfl,h1,r1⟩:=trodAll_cons r0
 obtain⟨rfl,rfl,rfl⟩:=trodAll_nil r1
 obtain rfl:args = #[v0,v1]:=by cases args;simp_all
 obtain⟨rfl,rfl⟩:=trodVars_none hV
 obtain⟨s0,u0,rfl,hs0,hbd0⟩:=U.abj (hval 0 29 v0 rfl rfl) h0
 obtain⟨ok1,ol1,oa1,oo1,op1,oc1,om1,rfl,ad1⟩:=U.aa8 (hval 1 54 v1 rfl rfl) h1
 clear hA0 hval0
 refine(U.fnExactDoOp_walk s0 u0 ok1 ol1 oa1 oo1 op1 oc1 om1 W hs0 hbd0 ad1).mono fun e W' ⟨he,hg⟩=> ?_
 subst he
 refine⟨_,rfl,U.WI (tb:=4) hW' hg laidOut ?_ (fun n hn=>by cases hn) (by kernel_rfl) Tryz.underlying4 rfl rfl rfl⟩
 rw[Tryz.params4];intro t ht;simp at ht;rcases ht with rfl | rfl<;>exact⟨by kernel_rfl,of_decide_eq_true (by kernel_rfl)⟩
theorem over:Rows.fnExactDoOpRow.holds Tryz.pinned (OpenSpec.ofChange Rows.fnExactDoOpSpec):=
 OpenClaim.holds_of_wide 4 Tryz.f4 rfl rfl rfl rfl rfl rfl rfl ⟨rfl,rfl,rfl,rfl,rfl⟩ rfl rfl rfl rfl rfl (by as_aux_lemma=>kernel_rfl) Tryz.func4 (by as_aux_lemma=>kernel_rfl)
  (of_decide_eq_true (by as_aux_lemma=>kernel_rfl)) (by as_aux_lemma=>unfold Func.isWrapper;first |(rw[if_pos (by decide +kernel)];kernel_rfl) |(rw[if_neg (by decide +kernel)];exact⟨rfl,rfl⟩))
  (fun os started H enc _=>lifted os started H enc)
end fnExactDoOp
theorem fnExactDoOp_holds:Rows.FnExactDoOpSaid:=fnExactDoOp.over
#print axioms fnExactDoOp_holds
end Go.Proofs.YtmmcgjacojgeaaaGreat
