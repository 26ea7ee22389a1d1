/- An argument that is a state, opened. -/
import Derived.Test.YtmnfokgllcdiiaaGreatYBC
import Derived.Test.YtmnfokgllcdiiaaGreatYBD
set_option maxRecDepth 100000
set_option maxHeartbeats 1000000
namespace Go.Proofs.YtmnfokgllcdiiaaGreat
namespace U
open Go.ChangeShapes Go.WideShapes Go.ChangeAt Go.RowKit
theorem Qo{H:Type}{enc:TypeId × Value->H}{W:World}{v:Value}{fuel:Nat}{x:DataW H × List MemPlace}(hf:DataW.trod enc Tryz.prog W 0 (fun _=>true) true fuel 25 [v]=some x):∃l,Prs W v l/\l.length<=maxLen:=by
 rcases Go.Deep.open_slice_pairs Tryz.underlying25 Tryz.underlying161 (by kernel_rfl) rfl rfl (by kernel_rfl) (by kernel_rfl) hf with⟨hcs,hx⟩ |⟨a,len,cap,m,n,V0,V1,D0,D1,P0,P1,hcs,h1,hl,hm,hmm,hx,hcell⟩
 ·have e1:v = .slice none 0 0:=by simpa using hcs
  subst e1
  exact⟨[],Or.inl ⟨rfl,none,0,rfl⟩,by simp⟩
 ·have e1:v = .slice (some a) len cap:=by simpa using hcs
  subst e1
  rw[if_pos rfl]at hmm
  subst hmm
  by_cases h0:len=0
  ·subst h0
   exact⟨[],Or.inl ⟨rfl,_,_,rfl⟩,by simp⟩
  ·have each:∀i,i<len->∃q:Int × Int,W.cell? (a.add (i*2))=some (.int .i64 q.1)/\W.cell? (a.add (i*2+1))=some (.int .i64 q.2):=fun i hi=>by
    obtain⟨k0,k1,t0,t1⟩:=hcell i (by omega)
    obtain⟨x,hx0,-⟩:=xW Tryz.underlying2 t0
    obtain⟨y,hy0,-⟩:=xW Tryz.underlying2 t1
    exact⟨(x,y),by rw[k0,hx0],by rw[k1,hy0]⟩
   obtain⟨q,hq⟩:=Go.Deep.choose_lt each
   obtain⟨b,off,spot⟩:=a
   have hspot:spot=none:=by simpa [Addr.add]using World.cell?_spot (hq 0 (by omega)).1
   subst hspot
   have hb:b<W.heap.size:=by
    have h3:=(hq 0 (by omega)).1
    rw[add_plain]at h3
    rcases hh:W.heap[b]? with _ | o
    ·simp[World.cell?,hh]at h3
    ·exact(Array.getElem?_eq_some_iff.1 hh).1
   refine⟨(List.range len).map q,Or.inr ⟨b,off,_,by simp;rfl,hb,fun j hj=> ?_⟩,by simp;omega⟩
   have hj':j<len:=by simpa using hj
   have e2:pAt ((List.range len).map q) j=q j:=by rw[eH hj];simp
   rw[e2]
   have h3:=hq j hj'
   rw[add_plain,add_plain]at h3
   exact⟨h3.1,by rw[Nat.add_assoc];exact h3.2⟩
theorem Jf{H:Type}{enc:TypeId × Value->H}{W:World}{u:Value}{fuel:Nat}{x:DataW H × List MemPlace}(hf:DataW.trod enc Tryz.prog W 0 (fun _=>true) true fuel 24 [u]=some x):∃l,Rcs W u l/\l.length<=maxLen/\LbM l:=by
 obtain⟨xs,n,_,-,hl,hlen,hfs⟩:=DataW.trod_struct Tryz.underlying24 hf
 have h0:=hfs 0 _ rfl
 have k1:Tryz.prog.cellsOf 22=1:=by kernel_rfl
 match xs,hlen with
 | [y0],_=>
  have g0:DataW.trod enc Tryz.prog W 0 (fun _=>true) true n 22 [u]=some y0:=by simpa [k1]using h0
  exact Qq Tryz.underlying22 Tryz.underlying31 (by kernel_rfl) (by kernel_rfl) Tryz.underlying9 Tryz.underlying2 Tryz.underlying2 Tryz.underlying2 g0
theorem O8{H:Type}{enc:TypeId × Value->H}{W:World}{v:Value}{fuel:Nat}{x:DataW H × List MemPlace}(hf:DataW.trod enc Tryz.prog W 0 (fun _=>true) true fuel 27 [v]=some x):∃p,Dss W v p/\p.length<=maxLen/\∀j,j<p.length->(dAt p j).length<=maxLen/\LbM (dAt p j):=by
 rcases Go.Deep.open_slice Tryz.underlying27 hf with⟨hcs,hx⟩ |⟨a,len,cap,m,n,D,Pl,hcs,hb,hl,hm,hmm,hx,hcell⟩
 ·have e1:v = .slice none 0 0:=by simpa using hcs
  subst e1
  exact⟨[],Dss.nil _ _ _,by simp,fun j hj=>by simp at hj⟩
 ·have e1:v = .slice (some a) len cap:=by simpa using hcs
  subst e1
  rw[if_pos rfl]at hmm
  subst hmm
  by_cases h0:len=0
  ·subst h0
   exact⟨[],Dss.nil _ _ _,by simp,fun j hj=>by simp at hj⟩
  ·have each:∀i,i<len->∃l:Rcl,(∃u,W.cell? (a.add i)=some u/\Rcs W u l)/\l.length<=maxLen/\LbM l:=by
    intro i hi
    obtain⟨cs',h1,h2⟩:=hcell i (by omega)
    have ce:Tryz.prog.cellsOf 24=1:=by kernel_rfl
    rw[ce]at h1
    obtain⟨_,hlen,hc⟩:=World.cells?_some h1
    match cs',hlen with
    | [v0],_=>
     obtain⟨l,k1,k2,k3⟩:=Jf h2
     have e0:=hc 0 (by omega)
     rw[Go.Deep.add_add]at e0
     exact⟨l,⟨v0,by simpa using e0,k1⟩,k2,k3⟩
   obtain⟨q,hq⟩:=Go.Deep.choose_lt each
   obtain⟨b,off,spot⟩:=a
   have hspot:spot=none:=by
    obtain⟨⟨u,h1,-⟩,-⟩:=hq 0 (by omega)
    simpa [Addr.add]using World.cell?_spot h1
   subst hspot
   have hbb:b<W.heap.size:=by
    obtain⟨⟨u,h3,-⟩,-⟩:=hq 0 (by omega)
    rw[add_plain]at h3
    rcases hh:W.heap[b]? with _ | o
    ·simp[World.cell?,hh]at h3
    ·exact(Array.getElem?_eq_some_iff.1 hh).1
   have e2:∀j,j<((List.range len).map q).length->dAt ((List.range len).map q) j=q j:=fun j hj=>by rw[O6 hj];simp
   refine⟨(List.range len).map q,Or.inr ⟨b,off,_,by simp;rfl,hbb,fun j hj=> ?_⟩,by simp;omega,fun j hj=> ?_⟩
   ·have hj':j<len:=by simpa using hj
    rw[e2 j hj]
    obtain⟨⟨u,h3,h4⟩,-⟩:=hq j hj'
    rw[add_plain]at h3
    exact⟨u,h3,h4⟩
   ·have hj':j<len:=by simpa using hj
    rw[e2 j hj]
    exact(hq j hj').2
theorem TY(T:Array Value)(h:T.size=6):∃v0 v1 v2 v3 v4 v5:Value,T = #[v0,v1,v2,v3,v4,v5]:=by
 rcases T with⟨l⟩
 match l,h with
 | [a,b,c,d,e,f],_=>exact⟨a,b,c,d,e,f,rfl⟩
theorem WA{H:Type}{enc:TypeId × Value->H}{W:World}{base:Nat}{v:Value}{d:DataW H}{p:List MemPlace}(hv:Value.okWide Tryz.prog W .any base 29 v)(h:DataW.Trod enc Tryz.prog W 0 (fun _=>true) true 29 v d p):
  ∃s u,v=stV s u/\Sts W u s/\StA s:=by
 obtain⟨cs,rfl,hsz⟩:=okWide_struct Tryz.underlying29 hv
 obtain⟨c0,c1,c2,c3,c4,c5,rfl⟩:=TY cs (hsz.trans (show Tryz.prog.cellsOf 29=6 by kernel_rfl))
 obtain⟨fuel,hf⟩:=h
 obtain⟨xs,n,_,-,hl,hlen,hfs⟩:=DataW.trod_struct Tryz.underlying29 hf
 have k1:Tryz.prog.cellsOf 2=1:=by kernel_rfl
 have k2:Tryz.prog.cellsOf 24=1:=by kernel_rfl
 have k3:Tryz.prog.cellsOf 25=1:=by kernel_rfl
 have k4:Tryz.prog.cellsOf 26=1:=by kernel_rfl
 have k5:Tryz.prog.cellsOf 27=1:=by kernel_rfl
 have h0:=hfs 0 _ rfl
 have h1:=hfs 1 _ rfl
 have h2:=hfs 2 _ rfl
 have h3:=hfs 3 _ rfl
 have h4:=hfs 4 _ rfl
 have h5:=hfs 5 _ rfl
 match xs,hlen with
 | [y0,y1,y2,y3,y4,y5],_=>
  have g0:DataW.trod enc Tryz.prog W 0 (fun _=>true) true n 2 [c0]=some y0:=by simpa [Value.cells,k1]using h0
  have g1:DataW.trod enc Tryz.prog W 0 (fun _=>true) true n 2 [c1]=some y1:=by simpa [Value.cells,k1]using h1
  have g2:DataW.trod enc Tryz.prog W 0 (fun _=>true) true n 24 [c2]=some y2:=by simpa [Value.cells,k2]using h2
  have g3:DataW.trod enc Tryz.prog W 0 (fun _=>true) true n 25 [c3]=some y3:=by simpa [Value.cells,k3]using h3
  have g4:DataW.trod enc Tryz.prog W 0 (fun _=>true) true n 26 [c4]=some y4:=by simpa [Value.cells,k4]using h4
  have g5:DataW.trod enc Tryz.prog W 0 (fun _=>true) true n 27 [c5]=some y5:=by simpa [Value.cells,k5]using h5
  obtain⟨ph,rfl,-⟩:=xW Tryz.underlying2 g0
  obtain⟨cu,rfl,-⟩:=xW Tryz.underlying2 g1
  obtain⟨dl,q2,r2,t2⟩:=Jf g2
  obtain⟨nl,q3,r3⟩:=Qo g3
  obtain⟨hl,q4,r4⟩:=Py g4
  obtain⟨pl,q5,r5,t5⟩:=O8 g5
  exact⟨⟨ph,cu,dl,nl,hl,pl⟩,⟨c2,c3,c4,c5⟩,rfl,⟨q2,q3,q4,q5⟩,⟨r2,t2,r3,r4,r5,t5⟩⟩
end U
end Go.Proofs.YtmnfokgllcdiiaaGreat
