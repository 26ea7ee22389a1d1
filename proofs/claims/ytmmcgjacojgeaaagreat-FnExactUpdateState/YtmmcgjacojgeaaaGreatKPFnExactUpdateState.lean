/- The law FnExactUpdateState holds at every argument: it answers true, and the arguments read as they did. -/
import Derived.Test.YtmmcgjacojgeaaaGreatRows
import Derived.Test.YtmmcgjacojgeaaaGreatKFnExactUpdateStateW
import Derived.ProofKit
import Derived.OpenShut
import Derived.ShutString
import Derived.Test.YtmmcgjacojgeaaaGreatKBC
import Derived.Test.YtmmcgjacojgeaaaGreatKArgField
import Derived.Test.YtmmcgjacojgeaaaGreatKArgSt
set_option maxRecDepth 100000
set_option maxHeartbeats 4000000
namespace Go.Proofs.YtmmcgjacojgeaaaGreat
namespace fnExactUpdateState
open Go.ChangeShapes Go.WideShapes Go.ChangeAt Go.RowKit
theorem laidOut:laidOutB Tryz.prog=true:=by kernel_rfl
theorem own:ownKnob Tryz.prog.godebug=none:=by kernel_rfl
theorem lifted(os:Os)(started:os.Started)(H:Type)(enc:TypeId × Value->H):
  ReturnsInHanded {} Tryz.checked os 3 .any (Rows.fnExactUpdateStateSpec.pre6 enc Tryz.prog Tryz.f3 Rows.fnExactUpdateStateRow.domain false) (Rows.fnExactUpdateStateSpec.post enc Tryz.prog Tryz.f3 false true false false):=by
 refine returnsInHanded_of_change (C:=Tryz.checked) own started (by kernel_rfl) Tryz.func3
  (ChangeSpec.witness6 (enc:=enc) (C:=Tryz.checked) false ⟨#[],#[.agg #[.int .i64 0,.int .i64 0,.slice none 0 0,.slice none 0 0,.slice none 0 0,.slice none 0 0],.agg #[.string ByteArray.empty,.int .i64 0,.int .i64 0,.int .i64 0],.int .i64 0],[]⟩ 8 (by kernel_rfl) (by kernel_rfl) (by kernel_rfl) (by kernel_rfl)) ?_
 intro W base args ds gs before hval0 hW hcnd _
 have hval:∀(j:Nat) t v,Tryz.f3.params[j]? = some t->args[j]? = some v->Value.okWide Tryz.prog W .any base t v:=hval0
 have hW':=hW
 obtain⟨p,q,hA0,hV,rfl,hfz,hnd⟩:=hW
 have hA:DataW.TrodAll enc Tryz.prog W 0 (fun _=>true) true Tryz.f3.params.toList args.toList ds p:=hA0
 rw[Tryz.params3]at hA hval
 obtain⟨v0,vs0,d0,ds0,p0,q0,hargs0,rfl,rfl,h0,r0⟩:=trodAll_cons hA
 obtain⟨v1,vs1,d1,ds1,p1,q1,hargs1,rfl,rfl,h1,r1⟩:=trodAll_cons r0
 obtain⟨v2,vs2,d2,ds2,p2,q2,Z5,rfl,rfl,h2,r2⟩:=trodAll_cons r1
 obtain⟨rfl,rfl,rfl⟩:=trodAll_nil r2
 obtain rfl:args = #[v0,v1,v2]:=by cases args;simp_all
 obtain⟨rfl,rfl⟩:=trodVars_none hV
 obtain⟨s0,u0,rfl,hs0,hbd0⟩:=U.WZ (hval 0 29 v0 rfl rfl) h0
 obtain⟨e10,e11,e12,e13,y10,QS,QT,y13,fuel1,rfl,rfl,rfl,t10,t11,t12,t13⟩:=Joins.open_agg4 Tryz.underlying31 (by kernel_rfl) (by kernel_rfl) (hval 1 31 v1 rfl rfl) h1
 obtain⟨s1,hs10,-,hs1⟩:=DataW.trod_string Tryz.underlying9 t10
 obtain rfl:e10 = .string s1:=by simpa using hs10
 obtain⟨n11,YO,-,-⟩:=DataW.trod_int Tryz.underlying2 t11
 obtain rfl:e11 = .int .i64 n11:=by simpa using YO
 obtain⟨n12,qp,-,-⟩:=DataW.trod_int Tryz.underlying2 t12
 obtain rfl:e12 = .int .i64 n12:=by simpa using qp
 obtain⟨n13,YP,-,-⟩:=DataW.trod_int Tryz.underlying2 t13
 obtain rfl:e13 = .int .i64 n13:=by simpa using YP
 obtain⟨n2,rfl,rfl,rfl,-⟩:=open_int Tryz.underlying2 (hval 2 2 v2 rfl rfl) h2
 clear hA0 hval0
 refine(U.fnExactUpdateState_walk s0 u0 s1 n11 n12 n13 n2 W hs0 hbd0 hs1).mono fun e W' ⟨he,hg⟩=> ?_
 subst he
 refine⟨_,rfl,U.Sj (tb:=4) hW' hg laidOut ?_ (fun n hn=>by cases hn) (by kernel_rfl) Tryz.underlying4 rfl rfl rfl⟩
 rw[Tryz.params3];intro t ht;simp at ht;rcases ht with rfl | rfl | rfl<;>exact⟨by kernel_rfl,of_decide_eq_true (by kernel_rfl)⟩
theorem over:Rows.fnExactUpdateStateRow.holds Tryz.pinned (OpenSpec.ofChange Rows.fnExactUpdateStateSpec):=
 OpenClaim.holds_of_wide 3 Tryz.f3 rfl rfl rfl rfl rfl rfl rfl ⟨rfl,rfl,rfl,rfl,rfl⟩ rfl rfl rfl rfl rfl (by as_aux_lemma=>kernel_rfl) Tryz.func3 (by as_aux_lemma=>kernel_rfl)
  (of_decide_eq_true (by as_aux_lemma=>kernel_rfl)) (by as_aux_lemma=>unfold Func.isWrapper;first |(rw[if_pos (by decide +kernel)];kernel_rfl) |(rw[if_neg (by decide +kernel)];exact⟨rfl,rfl⟩))
  (fun os started H enc _=>lifted os started H enc)
end fnExactUpdateState
theorem fnExactUpdateState_holds:Rows.FnExactUpdateStateSaid:=fnExactUpdateState.over
#print axioms fnExactUpdateState_holds
end Go.Proofs.YtmmcgjacojgeaaaGreat
