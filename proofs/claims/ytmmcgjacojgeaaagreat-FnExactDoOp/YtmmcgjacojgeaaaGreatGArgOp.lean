/- An argument that is an operation, opened: its kind, its record, its secret, its number. -/
import Derived.Test.YtmmcgjacojgeaaaGreatGArgField
import Derived.Test.YtmmcgjacojgeaaaGreatGBC
set_option maxRecDepth 100000
namespace Go.Proofs.YtmmcgjacojgeaaaGreat
namespace U
open Go.ChangeShapes Go.WideShapes Go.ChangeAt Go.RowKit
theorem Yg(T:Array Value)(h:T.size=7):∃v0 v1 v2 v3 v4 v5 v6:Value,T = #[v0,v1,v2,v3,v4,v5,v6]:=by
 rcases T with⟨l⟩
 match l,h with
 | [a,b,c,d,e,f,g],_=>exact⟨a,b,c,d,e,f,g,rfl⟩
theorem xI{H:Type}{enc:TypeId × Value->H}{P:Program}{w:World}{t:TypeId}{f0 f1 f2 f3:Field}{fuel:Nat}{cs:List Value}{x:DataW H × List MemPlace}(ht:P.underlying t=some (.struct #[f0,f1,f2,f3]))(h:DataW.trod enc P w 0 (fun _=>true) true fuel t cs=some x):
  ∃y0 y1 y2 y3 n,DataW.trod enc P w 0 (fun _=>true) true n f0.type ((cs.drop f0.offset).take (P.cellsOf f0.type))=some y0/\DataW.trod enc P w 0 (fun _=>true) true n f1.type ((cs.drop f1.offset).take (P.cellsOf f1.type))=some y1/\
   DataW.trod enc P w 0 (fun _=>true) true n f2.type ((cs.drop f2.offset).take (P.cellsOf f2.type))=some y2/\DataW.trod enc P w 0 (fun _=>true) true n f3.type ((cs.drop f3.offset).take (P.cellsOf f3.type))=some y3:=by
 obtain⟨xs,n,_,rfl,hl,hlen,hf⟩:=DataW.trod_struct ht h
 match xs,hlen with
 | [y0,y1,y2,y3],_=>exact⟨y0,y1,y2,y3,n,by simpa using hf 0 f0 rfl,by simpa using hf 1 f1 rfl,by simpa using hf 2 f2 rfl,by simpa using hf 3 f3 rfl⟩
theorem Xa{H:Type}{enc:TypeId × Value->H}{W:World}{n:Nat}{c0 c1 c2 c3:Value}{y:DataW H × List MemPlace}(hf:DataW.trod enc Tryz.prog W 0 (fun _=>true) true n 31 [c0,c1,c2,c3]=some y):
  ∃s v o p,c0 = .string s/\c1 = .int .i64 v/\c2 = .int .i64 o/\c3 = .int .i64 p/\s.size<=maxLen:=by
 obtain⟨y0,y1,y2,y3,n,h0,h1,h2,h3⟩:=xI Tryz.underlying31 hf
 have k0:Tryz.prog.cellsOf 9=1:=by kernel_rfl
 have k1:Tryz.prog.cellsOf 2=1:=by kernel_rfl
 simp only[k0,k1]at h0 h1 h2 h3
 simp at h0 h1 h2 h3
 obtain⟨s,hs0,-,hs⟩:=DataW.trod_string Tryz.underlying9 h0
 obtain⟨a,ha,-⟩:=DataW.trod_int Tryz.underlying2 h1
 obtain⟨b,hb,-⟩:=DataW.trod_int Tryz.underlying2 h2
 obtain⟨c,hc,-⟩:=DataW.trod_int Tryz.underlying2 h3
 exact⟨s,a,b,c,by simpa using hs0,by simpa using ha,by simpa using hb,by simpa using hc,hs⟩
theorem aa8{H:Type}{enc:TypeId × Value->H}{W:World}{base:Nat}{v:Value}{d:DataW H}{p:List MemPlace}(hv:Value.okWide Tryz.prog W .any base 54 v)(h:DataW.Trod enc Tryz.prog W 0 (fun _=>true) true 54 v d p):
  ∃k l a o p c n,v = .agg #[.int .i64 k,.string l,.int .i64 a,.int .i64 o,.int .i64 p,.int .i64 c,.int .i64 n]/\l.size<=maxLen:=by
 obtain⟨cs,rfl,hsz⟩:=okWide_struct Tryz.underlying54 hv
 obtain⟨c0,c1,c2,c3,c4,c5,c6,rfl⟩:=Yg cs (hsz.trans (show Tryz.prog.cellsOf 54=7 by kernel_rfl))
 obtain⟨fuel,hf⟩:=h
 obtain⟨y0,y1,y2,y3,n,h0,h1,h2,h3⟩:=xI Tryz.underlying54 hf
 have k1:Tryz.prog.cellsOf 2=1:=by kernel_rfl
 have k3:Tryz.prog.cellsOf 31=4:=by kernel_rfl
 simp only[Value.cells,k1,k3]at h0 h1 h2 h3
 simp at h0 h1 h2 h3
 obtain⟨k,hk,-⟩:=DataW.trod_int Tryz.underlying2 h0
 obtain⟨l,a,o,p,e1,e2,e3,e4,hl⟩:=Xa h1
 obtain⟨c,hc,-⟩:=DataW.trod_int Tryz.underlying2 h2
 obtain⟨m,hm,-⟩:=DataW.trod_int Tryz.underlying2 h3
 have e0:c0 = .int .i64 k:=by simpa using hk
 have e5:c5 = .int .i64 c:=by simpa using hc
 have e6:c6 = .int .i64 m:=by simpa using hm
 subst e0 e1 e2 e3 e4 e5 e6
 exact⟨k,l,a,o,p,c,m,rfl,hl⟩
end U
end Go.Proofs.YtmmcgjacojgeaaaGreat
