/- Joined: what the texts behind it need. -/
import Derived.Test.YtmmcgjacojgeaaaGreatKBD
import Derived.Test.YtmmcgjacojgeaaaGreatKBB
import Derived.Laws.CopyOwn
import Derived.Deep.SlicePairs
import Derived.Test.YtmmcgjacojgeaaaGreatKBC
import Derived.Test.YtmmcgjacojgeaaaGreatKBA
set_option maxRecDepth 100000
set_option maxHeartbeats 4000000
namespace Go.Proofs.YtmmcgjacojgeaaaGreat
open Go.RowKit
namespace U
theorem qK(b off j:Nat):(⟨b,off,none⟩:Addr).add j=⟨b,off+j,none⟩:=by simp[Addr.add]
theorem pF{P:Program}(w:World)(dT sT ty elem:TypeId)(g n:Nat)(a:Addr)(sCap:Nat)(cur:Array Value)(t:TypeId)(cs:List Value)(z:Nat)
  (hu:P.underlying dT=some (.slice elem)) (hs:(P.info? elem).map (·.size)=some z)
  (hg:w.heap[g]? = some (.cells cur t (0,0))) (hn:cs.length=n*z)
  (hsrc:∀j v,cs[j]? = some v->w.cell? (a.add j)=some v) (hfit:cur.size=n*z) (h1:∀v∈cs,v.oneCell'=true) :
  (Builtin.copy_ #[dT,sT] ty #[.slice (some ⟨g,0,none⟩) n n,.slice (some a) n sCap]).run P w = .ok (goInt n) (w.setRow g cs.toArray):=by
 have hl:=run_loadCells_list (P:=P) w a cs hsrc
 have hst:=run_storeCells_at P g 0 t cs 0 cur w hg (by simp;omega) h1
 have hd:cur.toList.drop cs.length=[]:=by rw[List.drop_eq_nil_iff];simp;omega
 cases hq:P.info? elem with
 | none=>simp[hq]at hs
 | some i=>
  have hi:i.size=z:=by simpa [hq]using hs
  simp[Builtin.copy_,run_underlying hu,Builtin.lenOf,Builtin.firstCells,sizeOf,typeInfo,hq,hi,←hn,hl,hst,hd]
theorem pq{w:World}{B g n z:Nat}{e:TypeId}{cur:Array Value}{cs:List Value}(hg:w.heap[g]? = some (.cells cur e (0,0)))(hB:B<=g)(hn:cs.length=n*z)(hm:n<=maxLen):(w.setRow g cs.toArray).ownsRow B e z (.slice (some ⟨g,0,none⟩) n n) n cs:=
 ⟨hn,Or.inr ⟨g,n,cs.toArray,rfl,hB,setRow_heap w g cur cs.toArray e (0,0) hg,Nat.le_refl _,hm,by simp[hn],by simp[←hn]⟩⟩
theorem rF{w:World}{B g n z:Nat}{e:TypeId}{xs:List Value}(h:w.ownsRow B e z (.slice (some ⟨g,0,none⟩) n n) n xs):∃cur,w.heap[g]? = some (.cells cur e (0,0))/\cur.size=n*z:=by
 rcases h.2 with⟨e1,_⟩ |⟨g',cap,cur,e1,_,hg,_,_,hs,_⟩
 ·cases e1
 ·cases e1
  exact⟨cur,hg,hs⟩
theorem IC{w:World}{ad:Addr}{m c:Nat}{l:Rcl}(h:Rcs w (.slice (some ad) m c) l):∀j u,(flR l)[j]? = some u->w.cell? (ad.add j)=some u:=by
 intro j u hj
 have hlen:j<l.length*4:=by
  have:=(List.getElem?_eq_some_iff.1 hj).1
  rwa [pJ]at this
 obtain⟨_,b,off,e,_,hc⟩:=h.at (by omega)
 cases e
 obtain⟨d0,d1,d2,d3⟩:=hc (j/4) (by omega)
 obtain⟨k0,k1,k2,k3⟩:=FK l (j/4) (by omega)
 rw[qK]
 have hd:j=j/4*4+j%4:=by omega
 rcases(by omega:j%4=0∨j%4=1∨j%4=2∨j%4=3)with h4 | h4 | h4 | h4<;>rw[h4]at hd
 ·rw[Nat.add_zero]at hd;rw[hd]at hj ⊢;rw[d0,←hj,k0]
 ·rw[hd]at hj ⊢;rw[←Nat.add_assoc,d1,←hj,k1]
 ·rw[hd]at hj ⊢;rw[←Nat.add_assoc,d2,←hj,k2]
 ·rw[hd]at hj ⊢;rw[←Nat.add_assoc,d3,←hj,k3]
theorem Gn{w:World}{ad:Addr}{m c:Nat}{l:Hdl}(h:Hds w (.slice (some ad) m c) l):∀j u,(flH l)[j]? = some u->w.cell? (ad.add j)=some u:=by
 intro j u hj
 have hlen:j<l.length*5:=by
  have:=(List.getElem?_eq_some_iff.1 hj).1
  rwa [xP]at this
 obtain⟨_,b,off,e,_,hc⟩:=h.at (by omega)
 cases e
 obtain⟨d0,d1,d2,d3,d4⟩:=hc (j/5) (by omega)
 obtain⟨k0,k1,k2,k3,k4⟩:=FI l (j/5) (by omega)
 rw[qK]
 have hd:j=j/5*5+j%5:=by omega
 rcases(by omega:j%5=0∨j%5=1∨j%5=2∨j%5=3∨j%5=4)with h4 | h4 | h4 | h4 | h4<;>rw[h4]at hd
 ·rw[Nat.add_zero]at hd;rw[hd]at hj ⊢;rw[d0,←hj,k0]
 ·rw[hd]at hj ⊢;rw[←Nat.add_assoc,d1,←hj,k1]
 ·rw[hd]at hj ⊢;rw[←Nat.add_assoc,d2,←hj,k2]
 ·rw[hd]at hj ⊢;rw[←Nat.add_assoc,d3,←hj,k3]
 ·rw[hd]at hj ⊢;rw[←Nat.add_assoc,d4,←hj,k4]
theorem KY{l:Rcl}:∀v∈flR l,v.oneCell'=true:=by
 intro v hv
 unfold flR at hv
 rw[List.mem_flatMap]at hv
 obtain⟨r,_,hr⟩:=hv
 simp at hr
 rcases hr with rfl | rfl | rfl | rfl<;>rfl
theorem KX{l:Hdl}:∀v∈flH l,v.oneCell'=true:=by
 intro v hv
 unfold flH at hv
 rw[List.mem_flatMap]at hv
 obtain⟨r,_,hr⟩:=hv
 simp at hr
 rcases hr with rfl | rfl | rfl | rfl | rfl<;>rfl
theorem Qo{l:Prl}:∀v∈(fl l).map (Value.int .i64),v.oneCell'=true:=by
 intro v hv
 obtain⟨x,_,rfl⟩:=List.mem_map.1 hv
 rfl
theorem Dss.cells{w:World}{ad:Addr}{n c:Nat}{p:Pst}(h:Dss w (.slice (some ad) n c) p)(h0:0<p.length):∃us:List Value,us.length=p.length/\(∀j u,us[j]? = some u->w.cell? (ad.add j)=some u)/\(∀j,j<p.length->Rcs w (uAt us j) (dAt p j))/\∀u∈us,u.oneCell'=true:=by
 obtain⟨_,b,off,e,_,hc⟩:=h.at h0
 cases e
 obtain⟨q,hq⟩:=Go.Deep.choose_lt hc
 refine⟨(List.range p.length).map q,by simp,fun j u hj=> ?_,fun j hj=> ?_,fun u hu=> ?_⟩
 ·have hl:j<p.length:=by
   have:=(List.getElem?_eq_some_iff.1 hj).1
   simpa using this
  have e:u=q j:=by
   have:((List.range p.length).map q)[j]? = some (q j):=by simp[hl]
   rw[this]at hj
   exact(Option.some.inj hj).symm
  rw[qK,e]
  exact(hq j hl).1
 ·have e:uAt ((List.range p.length).map q) j=q j:=by
   unfold uAt
   rw[List.getD_eq_getElem?_getD]
   simp[hj]
  rw[e]
  exact(hq j hj).2
 ·obtain⟨i,hi,rfl⟩:=List.mem_map.1 hu
  obtain⟨a,c,e⟩:=(hq i (List.mem_range.1 hi)).2.shape
  rw[e]
  rfl
theorem OT(b off c n:Nat)(cs:List Value)(w:World)(h0:0<n)(hx:n<=1048576)(hlt:b<w.heap.size)(hl:cs.length=n*2)(hs:∀j v,cs[j]? = some v->w.cell? ((⟨b,off,none⟩:Addr).add j)=some v)(h1:∀v∈cs,v.oneCell'=true):
  Calls Tryz.prog 78 #[.slice (some ⟨b,off,none⟩) n c] w fun e w'=>e = .returned (.slice (some ⟨w.heap.size,0,none⟩) n n)/\Below w.heap.size w w'/\w'.ownsRow w.heap.size 110 2 (.slice (some ⟨w.heap.size,0,none⟩) n n) n cs:=by
 obtain⟨i0,hi,hz0,hz1,hz2⟩:=info_parts Tryz.mG
 have hsz:(Tryz.prog.info? 110).map (·.size)=some 2:=by rw[hi];simp[hz1]
 have hn0:((n:Int)==0)=false:=by simp;omega
 go_enter Tryz.func78,Tryz.ntmps78
 go_wp2_with (at_make;refine wpList_make_full _ rfl _ _ 37 rfl w.heap.size 110 i0 (.agg #[.int .i64 0,.int .i64 0]) 2 Tryz.underlying37 hi hz0 hz1 _ _ _ _ n rfl rfl rfl rfl (by rw[hz2];omega) (by unfold maxLen;omega) (Nat.le_refl _) ?_)
 intro w1 hown1 hg1
 have hB1:Below w.heap.size w w1:=(Below.refl _ _).grown hg1 (Nat.le_refl _) (fun k hk=>by cases hk)
 obtain⟨cur,hgc,hcs⟩:=rF hown1
 have hcp:=fun ty=>pF (P:=Tryz.prog) w1 37 37 ty 110 w.heap.size n ⟨b,off,none⟩ c cur 110 cs 2 Tryz.underlying37 hsz hgc hl (fun j v hj=>(hB1.cell (p:=(⟨b,off,none⟩:Addr).add j) (by rw[qK];exact hlt)).trans (hs j v hj)) hcs h1
 have HO:Hid ((w1.setRow w.heap.size cs.toArray).ownsRow w.heap.size 110 2 (.slice (some ⟨w.heap.size,0,none⟩) n n) n cs):=pq hgc (Nat.le_refl _) hl (by unfold maxLen;omega)
 have HB:Hid (Below w.heap.size w (w1.setRow w.heap.size cs.toArray)):=below_setRow hB1 (Nat.le_refl _) _
 clear hown1 hg1 hgc hcs hs h1 hl hB1
 go_wp2
 go_ret
 exact⟨rfl,HB.out,HO.out⟩
theorem OQ(a:Option Addr)(c:Nat)(w:World):
  Calls Tryz.prog 78 #[.slice a 0 c] w fun e w'=>e = .returned (.slice none 0 0)/\w'=w:=by
 go_enter Tryz.func78,Tryz.ntmps78
 go_wp2
 go_ret
 exact⟨rfl,rfl⟩
theorem Rk(v:Value)(l:Prl)(w:World)(hv:Prs w v l)(hx:l.length<=1048576):
  Calls Tryz.prog 78 #[v] w fun e w'=>∃a c,e = .returned (.slice a l.length c)/\Below w.heap.size w w'/\w'.ownsRow w.heap.size 110 2 (.slice a l.length c) l.length ((fl l).map (Value.int .i64)):=by
 obtain⟨a,c,rfl⟩:=hv.shape
 by_cases h0:0<l.length
 ·obtain⟨-,b,off,rfl,hb,-⟩:=hv.at h0
  refine(OT b off c l.length ((fl l).map (Value.int .i64)) w h0 hx hb (by rw[List.length_map,kR]) (zU hv) Qo).mono ?_
  rintro e w' ⟨rfl,h1,h2⟩
  exact⟨_,_,rfl,h1,h2⟩
 ·have e1:l=[]:=List.eq_nil_of_length_eq_zero (by omega)
  subst e1
  refine(OQ a c w).mono ?_
  rintro e w' ⟨rfl,rfl⟩
  exact⟨none,0,rfl,Below.refl _ _,rfl,Or.inl ⟨rfl,rfl⟩⟩
theorem OL(b off c n:Nat)(cs:List Value)(w:World)(h0:0<n)(hx:n<=1048576)(hlt:b<w.heap.size)(hl:cs.length=n*5)(hs:∀j v,cs[j]? = some v->w.cell? ((⟨b,off,none⟩:Addr).add j)=some v)(h1:∀v∈cs,v.oneCell'=true):
  Calls Tryz.prog 79 #[.slice (some ⟨b,off,none⟩) n c] w fun e w'=>e = .returned (.slice (some ⟨w.heap.size,0,none⟩) n n)/\Below w.heap.size w w'/\w'.ownsRow w.heap.size 114 5 (.slice (some ⟨w.heap.size,0,none⟩) n n) n cs:=by
 obtain⟨i0,hi,hz0,hz1,hz2⟩:=info_parts Tryz.AX
 have hsz:(Tryz.prog.info? 114).map (·.size)=some 5:=by rw[hi];simp[hz1]
 have hn0:((n:Int)==0)=false:=by simp;omega
 go_enter Tryz.func79,Tryz.ntmps79
 go_wp2_with (at_make;refine wpList_make_full _ rfl _ _ 38 rfl w.heap.size 114 i0 (.agg #[.int .i64 0,.int .i64 0,.int .i64 0,.int .i64 0,.int .i64 0]) 5 Tryz.underlying38 hi hz0 hz1 _ _ _ _ n rfl rfl rfl rfl (by rw[hz2];omega) (by unfold maxLen;omega) (Nat.le_refl _) ?_)
 intro w1 hown1 hg1
 have hB1:Below w.heap.size w w1:=(Below.refl _ _).grown hg1 (Nat.le_refl _) (fun k hk=>by cases hk)
 obtain⟨cur,hgc,hcs⟩:=rF hown1
 have hcp:=fun ty=>pF (P:=Tryz.prog) w1 38 38 ty 114 w.heap.size n ⟨b,off,none⟩ c cur 114 cs 5 Tryz.underlying38 hsz hgc hl (fun j v hj=>(hB1.cell (p:=(⟨b,off,none⟩:Addr).add j) (by rw[qK];exact hlt)).trans (hs j v hj)) hcs h1
 have HO:Hid ((w1.setRow w.heap.size cs.toArray).ownsRow w.heap.size 114 5 (.slice (some ⟨w.heap.size,0,none⟩) n n) n cs):=pq hgc (Nat.le_refl _) hl (by unfold maxLen;omega)
 have HB:Hid (Below w.heap.size w (w1.setRow w.heap.size cs.toArray)):=below_setRow hB1 (Nat.le_refl _) _
 clear hown1 hg1 hgc hcs hs h1 hl hB1
 go_wp2
 go_ret
 exact⟨rfl,HB.out,HO.out⟩
theorem OJ(a:Option Addr)(c:Nat)(w:World):
  Calls Tryz.prog 79 #[.slice a 0 c] w fun e w'=>e = .returned (.slice none 0 0)/\w'=w:=by
 go_enter Tryz.func79,Tryz.ntmps79
 go_wp2
 go_ret
 exact⟨rfl,rfl⟩
theorem Ri(v:Value)(l:Hdl)(w:World)(hv:Hds w v l)(hx:l.length<=1048576):
  Calls Tryz.prog 79 #[v] w fun e w'=>∃a c,e = .returned (.slice a l.length c)/\Below w.heap.size w w'/\w'.ownsRow w.heap.size 114 5 (.slice a l.length c) l.length (flH l):=by
 obtain⟨a,c,rfl⟩:=hv.shape
 by_cases h0:0<l.length
 ·obtain⟨-,b,off,rfl,hb,-⟩:=hv.at h0
  refine(OL b off c l.length (flH l) w h0 hx hb (xP l) (Gn hv) KX).mono ?_
  rintro e w' ⟨rfl,h1,h2⟩
  exact⟨_,_,rfl,h1,h2⟩
 ·have e1:l=[]:=List.eq_nil_of_length_eq_zero (by omega)
  subst e1
  refine(OJ a c w).mono ?_
  rintro e w' ⟨rfl,rfl⟩
  exact⟨none,0,rfl,Below.refl _ _,rfl,Or.inl ⟨rfl,rfl⟩⟩
theorem OO(b off c n:Nat)(cs:List Value)(w:World)(h0:0<n)(hx:n<=1048576)(hlt:b<w.heap.size)(hl:cs.length=n*4)(hs:∀j v,cs[j]? = some v->w.cell? ((⟨b,off,none⟩:Addr).add j)=some v)(h1:∀v∈cs,v.oneCell'=true):
  Calls Tryz.prog 125 #[.slice (some ⟨b,off,none⟩) n c] w fun e w'=>e = .returned (.slice (some ⟨w.heap.size,0,none⟩) n n)/\Below w.heap.size w w'/\w'.ownsRow w.heap.size 46 4 (.slice (some ⟨w.heap.size,0,none⟩) n n) n cs:=by
 obtain⟨i0,hi,hz0,hz1,hz2⟩:=info_parts Tryz.su
 have hsz:(Tryz.prog.info? 46).map (·.size)=some 4:=by rw[hi];simp[hz1]
 have hn0:((n:Int)==0)=false:=by simp;omega
 go_enter Tryz.func125,Tryz.ntmps125
 go_wp2_with (at_make;refine wpList_make_full _ rfl _ _ 34 rfl w.heap.size 46 i0 (.agg #[.string ⟨#[]⟩,.int .i64 0,.int .i64 0,.int .i64 0]) 4 Tryz.underlying34 hi hz0 hz1 _ _ _ _ n rfl rfl rfl rfl (by rw[hz2];omega) (by unfold maxLen;omega) (Nat.le_refl _) ?_)
 intro w1 hown1 hg1
 have hB1:Below w.heap.size w w1:=(Below.refl _ _).grown hg1 (Nat.le_refl _) (fun k hk=>by cases hk)
 obtain⟨cur,hgc,hcs⟩:=rF hown1
 have hcp:=fun ty=>pF (P:=Tryz.prog) w1 34 34 ty 46 w.heap.size n ⟨b,off,none⟩ c cur 46 cs 4 Tryz.underlying34 hsz hgc hl (fun j v hj=>(hB1.cell (p:=(⟨b,off,none⟩:Addr).add j) (by rw[qK];exact hlt)).trans (hs j v hj)) hcs h1
 have HO:Hid ((w1.setRow w.heap.size cs.toArray).ownsRow w.heap.size 46 4 (.slice (some ⟨w.heap.size,0,none⟩) n n) n cs):=pq hgc (Nat.le_refl _) hl (by unfold maxLen;omega)
 have HB:Hid (Below w.heap.size w (w1.setRow w.heap.size cs.toArray)):=below_setRow hB1 (Nat.le_refl _) _
 clear hown1 hg1 hgc hcs hs h1 hl hB1
 go_wp2
 go_ret
 exact⟨rfl,HB.out,HO.out⟩
theorem OM(a:Option Addr)(c:Nat)(w:World):
  Calls Tryz.prog 125 #[.slice a 0 c] w fun e w'=>e = .returned (.slice none 0 0)/\w'=w:=by
 go_enter Tryz.func125,Tryz.ntmps125
 go_wp2
 go_ret
 exact⟨rfl,rfl⟩
theorem Rj(v:Value)(l:Rcl)(w:World)(hv:Rcs w v l)(hx:l.length<=1048576):
  Calls Tryz.prog 125 #[v] w fun e w'=>∃a c,e = .returned (.slice a l.length c)/\Below w.heap.size w w'/\w'.ownsRow w.heap.size 46 4 (.slice a l.length c) l.length (flR l):=by
 obtain⟨a,c,rfl⟩:=hv.shape
 by_cases h0:0<l.length
 ·obtain⟨-,b,off,rfl,hb,-⟩:=hv.at h0
  refine(OO b off c l.length (flR l) w h0 hx hb (pJ l) (IC hv) KY).mono ?_
  rintro e w' ⟨rfl,h1,h2⟩
  exact⟨_,_,rfl,h1,h2⟩
 ·have e1:l=[]:=List.eq_nil_of_length_eq_zero (by omega)
  subst e1
  refine(OM a c w).mono ?_
  rintro e w' ⟨rfl,rfl⟩
  exact⟨none,0,rfl,Below.refl _ _,rfl,Or.inl ⟨rfl,rfl⟩⟩
theorem OI(b off c n:Nat)(cs:List Value)(w:World)(h0:0<n)(hx:n<=1048576)(hlt:b<w.heap.size)(hl:cs.length=n*1)(hs:∀j v,cs[j]? = some v->w.cell? ((⟨b,off,none⟩:Addr).add j)=some v)(h1:∀v∈cs,v.oneCell'=true):
  Calls Tryz.prog 80 #[.slice (some ⟨b,off,none⟩) n c] w fun e w'=>e = .returned (.slice (some ⟨w.heap.size,0,none⟩) n n)/\Below w.heap.size w w'/\w'.ownsRow w.heap.size 36 1 (.slice (some ⟨w.heap.size,0,none⟩) n n) n cs:=by
 obtain⟨i0,hi,hz0,hz1,hz2⟩:=info_parts Tryz.AV
 have hsz:(Tryz.prog.info? 36).map (·.size)=some 1:=by rw[hi];simp[hz1]
 have hn0:((n:Int)==0)=false:=by simp;omega
 go_enter Tryz.func80,Tryz.ntmps80
 go_wp2_with (at_make;refine wpList_make_full _ rfl _ _ 39 rfl w.heap.size 36 i0 (.agg #[.slice none 0 0]) 1 Tryz.underlying39 hi hz0 hz1 _ _ _ _ n rfl rfl rfl rfl (by rw[hz2];omega) (by unfold maxLen;omega) (Nat.le_refl _) ?_)
 intro w1 hown1 hg1
 have hB1:Below w.heap.size w w1:=(Below.refl _ _).grown hg1 (Nat.le_refl _) (fun k hk=>by cases hk)
 obtain⟨cur,hgc,hcs⟩:=rF hown1
 have hcp:=fun ty=>pF (P:=Tryz.prog) w1 39 39 ty 36 w.heap.size n ⟨b,off,none⟩ c cur 36 cs 1 Tryz.underlying39 hsz hgc hl (fun j v hj=>(hB1.cell (p:=(⟨b,off,none⟩:Addr).add j) (by rw[qK];exact hlt)).trans (hs j v hj)) hcs h1
 have HO:Hid ((w1.setRow w.heap.size cs.toArray).ownsRow w.heap.size 36 1 (.slice (some ⟨w.heap.size,0,none⟩) n n) n cs):=pq hgc (Nat.le_refl _) hl (by unfold maxLen;omega)
 have HB:Hid (Below w.heap.size w (w1.setRow w.heap.size cs.toArray)):=below_setRow hB1 (Nat.le_refl _) _
 clear hown1 hg1 hgc hcs hs h1 hl hB1
 go_wp2
 go_ret
 exact⟨rfl,HB.out,HO.out⟩
theorem OH(a:Option Addr)(c:Nat)(w:World):
  Calls Tryz.prog 80 #[.slice a 0 c] w fun e w'=>e = .returned (.slice none 0 0)/\w'=w:=by
 go_enter Tryz.func80,Tryz.ntmps80
 go_wp2
 go_ret
 exact⟨rfl,rfl⟩
theorem Ru{l:Rcl}{k:Nat}(h:k<l.length):((((flR l).set (k*4) (.string (rAt l k).l)).set (k*4+1) (.int .i64 (rAt l k).v)).set (k*4+2) (.int .i64 (rAt l k).o)).set (k*4+3) (.int .i64 (rAt l k).p)=flR l:=by
 rw[←CJ l (rAt l k) k h]
 congr 1
 rw[fA h]
 exact List.set_getElem_self h
theorem Uz{w:World}{b:Nat}{x y:Value}{t:TypeId}(h:w.heap[b]? = some (.cells #[x] t)):(w.setCell ⟨b,0,none⟩ y).heap[b]? = some (.cells #[y] t):=by
 have:=heap_setCell_same w b 0 _ _ y h
 simpa using this
theorem rE{w:World}{g:Nat}{x:Value}{t:TypeId}(h:w.heap[g]? = some (.cells #[x] t)):w.cell? ⟨g,0,none⟩=some x/\w.frozen? ⟨g,0,none⟩=false:=by
 simp[World.cell?,World.frozen?,h]
theorem gU(w:World)(a p:Addr)(x:Value)(h:p.block≠a.block):(w.setCell a x).cell? p=w.cell? p:=World.cell?_of_block (heap_setCell_other w a p.block x h)
structure OdI(N lo:Nat)(w:World)(a:Option Addr)(n c:Nat)(l:Rcl)(wr:World):Prop where
 below:Below w.heap.size w wr
 box:wr.heap[N]? = some (.cells #[.slice a n c] 36)
 res:wr.heap[N+1]? = some (.cells #[.slice none 0 0] 36)
 own:wr.ownsRow lo 46 4 (.slice a n c) n (flR l)
theorem OdI.next{N lo:Nat}{w:World}{a:Option Addr}{n c:Nat}{l:Rcl}{wr w':World}(h:OdI N lo w a n c l wr)(hb:Below wr.heap.size wr w'):OdI N lo w a n c l w':=
 ⟨ah h.below hb,(hb.block N (Array.getElem?_eq_some_iff.1 h.box).1).trans h.box,(hb.block (N+1) (Array.getElem?_eq_some_iff.1 h.res).1).trans h.res,own_below h.own hb⟩
theorem qC(u:Value)(l:Rcl)(w:World)(hv:Rcs w u l)(hl:Lbs l)(hx:l.length<=1048576):
  Calls Tryz.prog 77 #[.agg #[u]] w fun e w'=>∃a c,e = .returned (.agg #[.slice a l.length c])/\Below w.heap.size w w'/\w'.ownsRow w.heap.size 46 4 (.slice a l.length c) l.length (flR l):=by
 obtain⟨W,hW⟩:∃W,W=(w.alloc (.cells #[u] 36)).alloc (.cells #[.slice none 0 0] 36):=⟨_,rfl⟩
 have hBW:Below w.heap.size w W:=by rw[hW];exact aN _ _
 have h2:=heap_alloc_new (w.alloc (.cells #[u] 36)) (.cells #[.slice none 0 0] 36)
 rw[World.size_alloc,←hW]at h2
 have h1:W.heap[w.heap.size]? = some (.cells #[u] 36):=by
  rw[hW];exact((aj _).block w.heap.size (by simp)).trans (heap_alloc_new w _)
 have hC:=Rj u l W (hv.below hBW) hx
 obtain⟨ua,uc,rfl⟩:=hv.shape
 have VG:Hid (W.heap[w.heap.size]? = some (.cells #[.slice ua l.length uc] 36)/\W.heap[w.heap.size+1]? = some (.cells #[.slice none 0 0] 36)):=⟨h1,h2⟩
 have gX:Hid (w.heap.size+1<W.heap.size):=(Array.getElem?_eq_some_iff.1 h2).1
 have HW:Hid ((w.alloc (.cells #[.slice ua l.length uc] 36)).alloc (.cells #[.slice none 0 0] 36)=W):=hW.symm
 have bH:Hid (Below w.heap.size w W):=hBW
 have HL:Hid (Lbs l):=hl
 obtain⟨n,hn⟩:∃n,n=l.length:=⟨_,rfl⟩
 have HN:Hid (n=l.length):=hn
 rw[←hn]at hC VG HW hx ⊢
 clear hv hl hW hBW h1 h2 hn
 go_enter Tryz.func77,Tryz.ntmps77
 go_wp2_with fail
 rw[HW.out]
 refine hC.mono ?_
 rintro e w1 ⟨a,c,rfl,hb1,o1⟩
 have q1:=(hb1.block w.heap.size (by have:=gX.out;omega)).trans VG.out.1
 have q2:=(hb1.block (w.heap.size+1) gX.out).trans VG.out.2
 obtain⟨k1,f1⟩:=rE q1
 obtain⟨W1,hW1⟩:∃W1,W1=w1.setCell ⟨w.heap.size,0,none⟩ (.slice a n c):=⟨_,rfl⟩
 have I1:OdI w.heap.size W.heap.size w a n c l W1:=by
  rw[hW1]
  exact⟨(ah bH.out hb1).setCell (Nat.le_refl _) _,Uz q1,(heap_setCell_other w1 ⟨w.heap.size,0,none⟩ (w.heap.size+1) _ (by simp)).trans q2,ownsRow_setCell_below o1 (by show w.heap.size<W.heap.size;have:=gX.out;omega) _⟩
 have HI1:Hid (OdI w.heap.size W.heap.size w a n c l (w1.setCell ⟨w.heap.size,0,none⟩ (.slice a n c))):=(by rw[←hW1];exact I1:OdI w.heap.size W.heap.size w a n c l (w1.setCell ⟨w.heap.size,0,none⟩ (.slice a n c)))
 obtain⟨k2,-⟩:=rE HI1.out.box
 have XY:Hid (W.heap.size<=w1.heap.size):=hb1.size
 clear hC hb1 o1 q1 q2 hW1 I1 HW
 go_wp2
 go_loopw [12] (fun i wr=>∃k:Nat,k<=n/\i = .int .i64 k/\Hid (OdI w.heap.size W.heap.size w a n c l wr)/\Hid (W.heap.size<=wr.heap.size)) (fun i _=>n - (intOf i).toNat)
 case atStart=>exact⟨0,Nat.zero_le _,rfl,HI1,(by simpa using XY.out:W.heap.size<=(w1.setCell ⟨w.heap.size,0,none⟩ (.slice a n c)).heap.size)⟩
 case round=>
  obtain⟨k,hk,rfl,HI,HWr⟩:=hrel
  clear k1 f1 k2 HI1 XY
  by_cases hkn:k<n
  ·have hki:(k:Int)<(n:Int):=by omega
   have hlk:k<l.length:=by have:=HN.out;omega
   obtain⟨g,rfl,hgW⟩:∃g,a=some ⟨g,0,none⟩/\W.heap.size<=g:=by
    rcases HI.out.own.2 with⟨_,h⟩ |⟨g,cap,cur,e,h,_⟩
    ·omega
    ·cases e;exact⟨g,rfl,h⟩
   have hrd:=(SL HI.out.own).at (by omega)
   obtain⟨-,b',off',e',-,hcc⟩:=hrd
   cases e'
   obtain⟨d0,d1,d2,d3⟩:=hcc k hlk
   simp only[Nat.zero_add]at d0 d1 d2 d3
   have hR:=fun w=>fZ (rAt l k).l (rAt l k).v (rAt l k).o (rAt l k).p w (HL.out.at hlk)
   have Zu:Hid (((((flR l).set (k*4) (.string (rAt l k).l)).set (k*4+1) (.int .i64 (rAt l k).v)).set (k*4+2) (.int .i64 (rAt l k).o)).set (k*4+3) (.int .i64 (rAt l k).p)=flR l):=Ru hlk
   generalize (rAt l k).l=x0 at *
   generalize (rAt l k).v=x1 at *
   generalize (rAt l k).o=x2 at *
   generalize (rAt l k).p=x3 at *
   have hgs:g<wr.heap.size:=(HI.out.own.lt _ rfl).2
   obtain⟨V,hV⟩:∃V,V=wr.alloc (.cells #[.string x0,.int .i64 x1,.int .i64 x2,.int .i64 x3] 46):=⟨_,rfl⟩
   have HV:Hid _:=hV.symm
   have vY:Below wr.heap.size wr V:=by rw[hV];exact aj _
   have qR:V.heap[wr.heap.size]? = some (.cells #[.string x0,.int .i64 x1,.int .i64 x2,.int .i64 x3] 46):=by rw[hV];exact heap_alloc_new wr _
   have TK:Hid (∀w',Below V.heap.size V w'->OdI w.heap.size W.heap.size w (some ⟨g,0,none⟩) n c l w'):=fun w' hb=>(HI.out.next vY).next hb
   have aH:Hid (∀w',Below V.heap.size V w'->w'.cell? ⟨w.heap.size,0,none⟩=some (.slice (some ⟨g,0,none⟩) n c)/\w'.cell? ⟨wr.heap.size,0,none⟩=some (.string x0)/\w'.cell? ⟨wr.heap.size,1,none⟩=some (.int .i64 x1)/\w'.cell? ⟨wr.heap.size,2,none⟩=some (.int .i64 x2)/\w'.cell? ⟨wr.heap.size,3,none⟩=some (.int .i64 x3)):=fun w' hb=>by
    obtain⟨y0,y1,y2,y3⟩:=bI ((hb.block _ (Array.getElem?_eq_some_iff.1 qR).1).trans qR)
    exact⟨wY (TK.out w' hb).box,y0,y1,y2,y3⟩
   have hbx:Below V.heap.size V V:=Below.refl _ _
   obtain⟨y0,y1,y2,y3,y4⟩:=aH.out _ hbx
   have TU:Hid (wr.heap.size<=V.heap.size):=vY.size
   clear hV vY qR hcc HI
   go_wp2_with fail
   rw[HV.out]
   clear d0 d1 d2 d3 HV
   have abk:k*4+3<n*4:=by omega
   have TI:Hid (∀w':World,(w'.cell? ⟨w.heap.size,0,none⟩=some (.slice (some ⟨g,0,none⟩) n c)/\w'.cell? ⟨wr.heap.size,0,none⟩=some (.string x0)/\w'.cell? ⟨wr.heap.size,1,none⟩=some (.int .i64 x1)/\w'.cell? ⟨wr.heap.size,2,none⟩=some (.int .i64 x2)/\w'.cell? ⟨wr.heap.size,3,none⟩=some (.int .i64 x3))->((((w'.setCell ⟨g,k*4,none⟩ (.string x0)).setCell ⟨g,k*4+1,none⟩ (.int .i64 x1)).setCell ⟨g,k*4+2,none⟩ (.int .i64 x2)).setCell ⟨g,k*4+3,none⟩ (.int .i64 x3)).cell? ⟨w.heap.size,0,none⟩=some (.slice (some ⟨g,0,none⟩) n c)/\((((w'.setCell ⟨g,k*4,none⟩ (.string x0)).setCell ⟨g,k*4+1,none⟩ (.int .i64 x1)).setCell ⟨g,k*4+2,none⟩ (.int .i64 x2)).setCell ⟨g,k*4+3,none⟩ (.int .i64 x3)).cell? ⟨wr.heap.size,0,none⟩=some (.string x0)/\((((w'.setCell ⟨g,k*4,none⟩ (.string x0)).setCell ⟨g,k*4+1,none⟩ (.int .i64 x1)).setCell ⟨g,k*4+2,none⟩ (.int .i64 x2)).setCell ⟨g,k*4+3,none⟩ (.int .i64 x3)).cell? ⟨wr.heap.size,1,none⟩=some (.int .i64 x1)/\((((w'.setCell ⟨g,k*4,none⟩ (.string x0)).setCell ⟨g,k*4+1,none⟩ (.int .i64 x1)).setCell ⟨g,k*4+2,none⟩ (.int .i64 x2)).setCell ⟨g,k*4+3,none⟩ (.int .i64 x3)).cell? ⟨wr.heap.size,2,none⟩=some (.int .i64 x2)/\((((w'.setCell ⟨g,k*4,none⟩ (.string x0)).setCell ⟨g,k*4+1,none⟩ (.int .i64 x1)).setCell ⟨g,k*4+2,none⟩ (.int .i64 x2)).setCell ⟨g,k*4+3,none⟩ (.int .i64 x3)).cell? ⟨wr.heap.size,3,none⟩=some (.int .i64 x3)):=fun w' h=>by
    have q:∀p:Addr,p.block≠g->((((w'.setCell ⟨g,k*4,none⟩ (.string x0)).setCell ⟨g,k*4+1,none⟩ (.int .i64 x1)).setCell ⟨g,k*4+2,none⟩ (.int .i64 x2)).setCell ⟨g,k*4+3,none⟩ (.int .i64 x3)).cell? p=w'.cell? p:=fun p hp=>by
     rw[gU _ _ p _ hp,gU _ _ p _ hp,gU _ _ p _ hp,gU _ _ p _ hp]
    have n0:w.heap.size≠g:=by have:=gX.out;omega
    have n1:wr.heap.size≠g:=by omega
    exact⟨(q ⟨w.heap.size,0,none⟩ n0).trans h.1,(q ⟨wr.heap.size,0,none⟩ n1).trans h.2.1,(q ⟨wr.heap.size,1,none⟩ n1).trans h.2.2.1,(q ⟨wr.heap.size,2,none⟩ n1).trans h.2.2.2.1,(q ⟨wr.heap.size,3,none⟩ n1).trans h.2.2.2.2⟩
   go_region_held3 (fun w'=>w'.cell? ⟨w.heap.size,0,none⟩=some (.slice (some ⟨g,0,none⟩) n c)/\w'.cell? ⟨wr.heap.size,0,none⟩=some (.string x0)/\w'.cell? ⟨wr.heap.size,1,none⟩=some (.int .i64 x1)/\w'.cell? ⟨wr.heap.size,2,none⟩=some (.int .i64 x2)/\w'.cell? ⟨wr.heap.size,3,none⟩=some (.int .i64 x3))
    (first | with_reducible exact⟨y0,y1,y2,y3,y4⟩|with_reducible exact aH.out _ hbx | with_reducible exact aH.out _ hbx.drew | with_reducible exact TI.out _ (aH.out _ hbx))
    (first
     |(go_at_call 75;refine(hR _).mono ?_;rintro e w5 ⟨rfl,hb5⟩;have hbx:Below V.heap.size V w5:=(by first | exact ah hbx hb5 | exact ah hbx.drew hb5);have ni:=(TK.out _ hbx).own;have f0:=ni.frozenAt (k*4);have f1:=ni.frozenAt (k*4+1);have f2:=ni.frozenAt (k*4+2);have f3:=ni.frozenAt (k*4+3);obtain⟨z0,e0⟩:=eU ni (j:=k*4) (by omega);obtain⟨z1,e1⟩:=eU ni (j:=k*4+1) (by omega);obtain⟨z2,e2⟩:=eU ni (j:=k*4+2) (by omega);obtain⟨z3,e3⟩:=eU ni (j:=k*4+3) (by omega)))
   have I5:=TK.out _ hbx
   have s1:=(ni.stored (k*4) (.string x0)).1
   have s2:=(s1.stored (k*4+1) (.int .i64 x1)).1
   have s3:=(s2.stored (k*4+2) (.int .i64 x2)).1
   have s4:=(s3.stored (k*4+3) (.int .i64 x3)).1
   rw[Zu.out]at s4
   have hgN:∀(x:Nat),x<W.heap.size->x≠g:=fun x hx=>by omega
   have hN0:w.heap.size≠g:=hgN _ (by have:=gX.out;omega)
   have hN1:w.heap.size+1≠g:=hgN _ gX.out
   have VH:Hid (OdI w.heap.size W.heap.size w (some ⟨g,0,none⟩) n c l ((((w5.setCell ⟨g,k*4,none⟩ (.string x0)).setCell ⟨g,k*4+1,none⟩ (.int .i64 x1)).setCell ⟨g,k*4+2,none⟩ (.int .i64 x2)).setCell ⟨g,k*4+3,none⟩ (.int .i64 x3))):=(by
    have hgw:w.heap.size<=g:=by have:=gX.out;omega
    refine⟨(((I5.below.setCell hgw _).setCell hgw _).setCell hgw _).setCell hgw _, ?_, ?_,s4⟩
    ·rw[heap_setCell_other _ _ _ _ (by exact hN0),heap_setCell_other _ _ _ _ (by exact hN0),heap_setCell_other _ _ _ _ (by exact hN0),heap_setCell_other _ _ _ _ (by exact hN0)]
     exact I5.box
    ·rw[heap_setCell_other _ _ _ _ (by exact hN1),heap_setCell_other _ _ _ _ (by exact hN1),heap_setCell_other _ _ _ _ (by exact hN1),heap_setCell_other _ _ _ _ (by exact hN1)]
     exact I5.res:OdI w.heap.size W.heap.size w (some ⟨g,0,none⟩) n c l ((((w5.setCell ⟨g,k*4,none⟩ (.string x0)).setCell ⟨g,k*4+1,none⟩ (.int .i64 x1)).setCell ⟨g,k*4+2,none⟩ (.int .i64 x2)).setCell ⟨g,k*4+3,none⟩ (.int .i64 x3)))
   have uZ:Hid (W.heap.size<=((((w5.setCell ⟨g,k*4,none⟩ (.string x0)).setCell ⟨g,k*4+1,none⟩ (.int .i64 x1)).setCell ⟨g,k*4+2,none⟩ (.int .i64 x2)).setCell ⟨g,k*4+3,none⟩ (.int .i64 x3)).heap.size):=(by have:=hbx.size;have:=TU.out;have:=HWr.out;simp;omega:W.heap.size<=((((w5.setCell ⟨g,k*4,none⟩ (.string x0)).setCell ⟨g,k*4+1,none⟩ (.int .i64 x1)).setCell ⟨g,k*4+2,none⟩ (.int .i64 x2)).setCell ⟨g,k*4+3,none⟩ (.int .i64 x3)).heap.size)
   clear I5 s1 s2 s3 s4 ni hN0 hN1 hgN hR aH TK y0 y1 y2 y3 y4 hb5 hbx
   go_wp2
   go_roundw
   case rel=>exact⟨k+1,by omega,by go_num,VH,uZ⟩
   case measure=>simp[intOf];omega
  ·have hkn:k=n:=by omega
   subst hkn
   obtain⟨k1,-⟩:=rE HI.out.box
   obtain⟨k2,f2⟩:=rE HI.out.res
   have hsz:w.heap.size+1<wr.heap.size:=(Array.getElem?_eq_some_iff.1 HI.out.res).1
   go_wp2
   refine bodyPost_ret (v:= .agg #[.slice a k c]) (by simp[results,Tryz.results77,go_sem,k2]) rfl ⟨a,c,rfl,HI.out.below.setCell (Nat.le_succ _) _, ?_⟩
   exact aF (ownsRow_setCell_below HI.out.own (by show w.heap.size+1<W.heap.size;exact gX.out) _) (by have:=gX.out;omega)
theorem UC(v:Value)(p:Pst)(w:World)(hv:Dss w v p)(hx:p.length<=1048576):∃us:List Value,us.length=p.length/\(∀j,j<p.length->Rcs w (uAt us j) (dAt p j))/\∀w',Below w.heap.size w w'->
  Calls Tryz.prog 80 #[v] w' fun e w''=>∃a c,e = .returned (.slice a p.length c)/\Below w'.heap.size w' w''/\w''.ownsRow w'.heap.size 36 1 (.slice a p.length c) p.length us:=by
 obtain⟨a,c,rfl⟩:=hv.shape
 by_cases h0:0<p.length
 ·obtain⟨-,b,off,rfl,hb,-⟩:=hv.at h0
  obtain⟨us,h1,h2,h3,h4⟩:=hv.cells h0
  refine⟨us,h1,h3,fun w' hbw=> ?_⟩
  refine(OI b off c p.length us w' h0 hx (Nat.lt_of_lt_of_le hb hbw.size) (by omega) (fun j u hj=>(hbw.cell (p:=(⟨b,off,none⟩:Addr).add j) (by rw[qK];exact hb)).trans (h2 j u hj)) h4).mono ?_
  rintro e w'' ⟨rfl,k1,k2⟩
  exact⟨_,_,rfl,k1,k2⟩
 ·have e1:p=[]:=List.eq_nil_of_length_eq_zero (by omega)
  subst e1
  refine⟨[],rfl,fun j hj=>by simp at hj,fun w' _=> ?_⟩
  refine(OH a c w').mono ?_
  rintro e w'' ⟨rfl,rfl⟩
  exact⟨none,0,rfl,Below.refl _ _,rfl,Or.inl ⟨rfl,rfl⟩⟩
structure OsI(N:Nat)(ph cu:Int)(x2 x3 x4 x5:Value)(w:World):Prop where
 box:w.heap[N]? = some (.cells #[.int .i64 ph,.int .i64 cu,x2,x3,x4,x5] 41)
 res:w.heap[N+1]? = some (.cells #[.int .i64 0,.int .i64 0,.slice none 0 0,.slice none 0 0,.slice none 0 0,.slice none 0 0] 41)
theorem OsI.lt{N:Nat}{ph cu:Int}{x2 x3 x4 x5:Value}{w:World}(h:OsI N ph cu x2 x3 x4 x5 w):N+1<w.heap.size:=(Array.getElem?_eq_some_iff.1 h.res).1
theorem OsI.below{N:Nat}{ph cu:Int}{x2 x3 x4 x5:Value}{w w':World}(h:OsI N ph cu x2 x3 x4 x5 w)(hb:Below w.heap.size w w'):OsI N ph cu x2 x3 x4 x5 w':=
 ⟨(hb.block N (by have:=h.lt;omega)).trans h.box,(hb.block (N+1) h.lt).trans h.res⟩
theorem OsI.other{N:Nat}{ph cu:Int}{x2 x3 x4 x5:Value}{w:World}(h:OsI N ph cu x2 x3 x4 x5 w)(a:Addr)(x:Value)(h1:N≠a.block)(h2:N+1≠a.block):OsI N ph cu x2 x3 x4 x5 (w.setCell a x):=
 ⟨(heap_setCell_other w a N x h1).trans h.box,(heap_setCell_other w a (N+1) x h2).trans h.res⟩
theorem OsI.set2{N:Nat}{ph cu:Int}{x2 x3 x4 x5:Value}{w:World}(h:OsI N ph cu x2 x3 x4 x5 w)(y:Value):OsI N ph cu y x3 x4 x5 (w.setCell ⟨N,2,none⟩ y):=
 ⟨by simpa using heap_setCell_same w N 2 _ _ y h.box,(heap_setCell_other w ⟨N,2,none⟩ (N+1) y (by simp)).trans h.res⟩
theorem OsI.IW{N:Nat}{ph cu:Int}{x2 x3 x4 x5:Value}{w:World}(h:OsI N ph cu x2 x3 x4 x5 w)(y:Value):OsI N ph cu x2 y x4 x5 (w.setCell ⟨N,3,none⟩ y):=
 ⟨by simpa using heap_setCell_same w N 3 _ _ y h.box,(heap_setCell_other w ⟨N,3,none⟩ (N+1) y (by simp)).trans h.res⟩
theorem OsI.IX{N:Nat}{ph cu:Int}{x2 x3 x4 x5:Value}{w:World}(h:OsI N ph cu x2 x3 x4 x5 w)(y:Value):OsI N ph cu x2 x3 y x5 (w.setCell ⟨N,4,none⟩ y):=
 ⟨by simpa using heap_setCell_same w N 4 _ _ y h.box,(heap_setCell_other w ⟨N,4,none⟩ (N+1) y (by simp)).trans h.res⟩
theorem OsI.N8{N:Nat}{ph cu:Int}{x2 x3 x4 x5:Value}{w:World}(h:OsI N ph cu x2 x3 x4 x5 w)(y:Value):OsI N ph cu x2 x3 x4 y (w.setCell ⟨N,5,none⟩ y):=
 ⟨by simpa using heap_setCell_same w N 5 _ _ y h.box,(heap_setCell_other w ⟨N,5,none⟩ (N+1) y (by simp)).trans h.res⟩
theorem Vw{us:List Value}{k:Nat}(u:Value)(h:k<us.length):uAt (us.set k u) k=u:=by
 unfold uAt
 rw[List.getD_eq_getElem?_getD,List.getElem?_set_self h]
 rfl
theorem BX{us:List Value}{k j:Nat}(u:Value)(h:j≠k):uAt (us.set k u) j=uAt us j:=by
 unfold uAt
 rw[List.getD_eq_getElem?_getD,List.getD_eq_getElem?_getD,List.getElem?_set_ne (by omega)]
theorem Qr{us:List Value}{p:Pst}{k:Nat}(u:Value)(h:k<us.length):aI (us.set k u) p (k+1)=aI us p k++[aK u (dAt p k)]:=by
 show aI (us.set k u) p k++[aK (uAt (us.set k u) k) (dAt p k)]=_
 rw[Vw u h,zT (us:=us.set k u) (us':=us) (p:=p) (p':=p) k (fun j hj=>⟨BX u (by omega),rfl⟩)]
theorem Ie(s:St)(v:Sv)(w:World)(hv:Sts w v s)(hB:StB s):
  Calls Tryz.prog 33 #[stV s v] w fun e w'=>∃u us,e = .returned (stV s u)/\o8 w s u us w':=by
 obtain⟨W,hW⟩:∃W,W=(w.alloc (stC s v 41)).alloc (.cells #[.int .i64 0,.int .i64 0,.slice none 0 0,.slice none 0 0,.slice none 0 0,.slice none 0 0] 41):=⟨_,rfl⟩
 have hBW:Below w.heap.size w W:=by rw[hW];exact aN _ _
 have I0:OsI w.heap.size s.ph s.cu v.d v.n v.h v.p W:=by
  have h2:=heap_alloc_new (w.alloc (stC s v 41)) (.cells #[.int .i64 0,.int .i64 0,.slice none 0 0,.slice none 0 0,.slice none 0 0,.slice none 0 0] 41)
  rw[World.size_alloc]at h2
  rw[hW]
  exact⟨((aj _).block w.heap.size (by simp)).trans (heap_alloc_new w _),h2⟩
 have hT1:=qC v.d s.d W (hv.d.below hBW) hB.dl hB.d
 have HT2:Hid (∀w',Below w.heap.size w w'->Calls Tryz.prog 78 #[v.n] w' fun e w''=>∃a c,e = .returned (.slice a s.n.length c)/\Below w'.heap.size w' w''/\w''.ownsRow w'.heap.size 110 2 (.slice a s.n.length c) s.n.length ((fl s.n).map (Value.int .i64))):=fun w' hb=>Rk v.n s.n w' (hv.n.below hb) hB.n
 have HT3:Hid (∀w',Below w.heap.size w w'->Calls Tryz.prog 79 #[v.h] w' fun e w''=>∃a c,e = .returned (.slice a s.h.length c)/\Below w'.heap.size w' w''/\w''.ownsRow w'.heap.size 114 5 (.slice a s.h.length c) s.h.length (flH s.h)):=fun w' hb=>Ri v.h s.h w' (hv.h.below hb) hB.h
 obtain⟨dP,hu1,hu2,hu3⟩:=UC v.p s.p w hv.p hB.p
 have HT4:Hid (∀w',Below w.heap.size w w'->Calls Tryz.prog 80 #[v.p] w' fun e w''=>∃a c,e = .returned (.slice a s.p.length c)/\Below w'.heap.size w' w''/\w''.ownsRow w'.heap.size 36 1 (.slice a s.p.length c) s.p.length dP):=hu3
 have TS:Hid (dP.length=s.p.length/\∀j,j<s.p.length->Rcs w (uAt dP j) (dAt s.p j)):=⟨hu1,hu2⟩
 have VO:Hid (∀j,j<s.p.length->(dAt s.p j).length<=1048576/\Lbs (dAt s.p j)):=hB.pd
 obtain⟨a1,c1,e1⟩:=hv.d.shape
 obtain⟨a2,c2,e2⟩:=hv.n.shape
 obtain⟨a3,c3,e3⟩:=hv.h.shape
 obtain⟨a4,c4,e4⟩:=hv.p.shape
 have gX:Hid (w.heap.size+1<W.heap.size):=I0.lt
 have hpx:=hB.p
 obtain⟨ph,cu,d,n,h,p⟩:=s
 obtain⟨vd,vn,vh,vp⟩:=v
 dsimp only at *
 subst e1 e2 e3 e4
 have HI0:Hid (OsI w.heap.size ph cu (.slice a1 d.length c1) (.slice a2 n.length c2) (.slice a3 h.length c3) (.slice a4 p.length c4) W):=I0
 unfold stV
 unfold stC at hW
 dsimp only at *
 have HW:Hid _:=hW.symm
 have HB0:Hid (Below w.heap.size w W):=hBW
 clear hW hv hB I0 hBW hu1 hu2 hu3
 go_enter Tryz.func33,Tryz.ntmps33
 go_wp2_with fail
 rw[HW.out]
 refine hT1.mono ?_
 rintro e w1 ⟨b1,d1,rfl,hb1,o1⟩
 have I1:=HI0.out.below hb1
 obtain⟨⟨-,-,-,j3,-,-⟩,-⟩:=ay (I1.set2 (.slice b1 d.length d1)).box
 obtain⟨⟨-,-,k2,-,-,-⟩,-,-,f2,-⟩:=ay I1.box
 obtain⟨W1,hW1⟩:∃W1,W1=w1.setCell ⟨w.heap.size,2,none⟩ (.slice b1 d.length d1):=⟨_,rfl⟩
 have HI1:Hid (OsI w.heap.size ph cu (.slice b1 d.length d1) (.slice a2 n.length c2) (.slice a3 h.length c3) (.slice a4 p.length c4) W1):=(by rw[hW1];exact I1.set2 _:OsI w.heap.size ph cu (.slice b1 d.length d1) (.slice a2 n.length c2) (.slice a3 h.length c3) (.slice a4 p.length c4) W1)
 have hsz1:W1.heap.size=w1.heap.size:=by rw[hW1];simp
 have gY:Hid (Own W.heap.size W1.heap.size W1 [aK (.slice b1 d.length d1) d]):=(by
  rw[hsz1,hW1]
  exact(Own.single (r:=aK (.slice b1 d.length d1) d) o1 (Nat.le_refl _)).setCell _ (by show w.heap.size<W.heap.size;have:=gX.out;omega) _:Own W.heap.size W1.heap.size W1 [aK (.slice b1 d.length d1) d])
 have HB1:Hid (Below w.heap.size w W1):=(by rw[hW1];exact(ah HB0.out hb1).setCell (Nat.le_refl _) _:Below w.heap.size w W1)
 have HS2:Hid (W.heap.size<=W1.heap.size):=(by rw[hsz1];have:=hb1.size;omega:W.heap.size<=W1.heap.size)
 have HW1:Hid (w1.setCell ⟨w.heap.size,2,none⟩ (.slice b1 d.length d1)=W1):=hW1.symm
 clear hT1 HW
 have hC:=HT2.out _ HB1.out
 clear hW1 hsz1 I1 hb1 o1
 go_wp2_with fail
 rw[HW1.out]
 clear HW1 k2 f2 j3
 refine hC.mono ?_
 rintro e w2 ⟨b2,d2,rfl,hb2,o2⟩
 clear hC
 have I2:=HI1.out.below hb2
 obtain⟨⟨-,-,-,-,j4,-⟩,-⟩:=ay (I2.IW (.slice b2 n.length d2)).box
 obtain⟨⟨-,-,-,k3,-,-⟩,-,-,-,f3,-⟩:=ay I2.box
 obtain⟨W2,hW2⟩:∃W2,W2=w2.setCell ⟨w.heap.size,3,none⟩ (.slice b2 n.length d2):=⟨_,rfl⟩
 have HI2:Hid (OsI w.heap.size ph cu (.slice b1 d.length d1) (.slice b2 n.length d2) (.slice a3 h.length c3) (.slice a4 p.length c4) W2):=(by rw[hW2];exact I2.IW _:OsI w.heap.size ph cu (.slice b1 d.length d1) (.slice b2 n.length d2) (.slice a3 h.length c3) (.slice a4 p.length c4) W2)
 have hsz2:W2.heap.size=w2.heap.size:=by rw[hW2];simp
 have kN:Hid (Own W.heap.size W2.heap.size W2 ([aK (.slice b1 d.length d1) d]++[nRow (.slice b2 n.length d2) n])):=(by
  rw[hsz2,hW2]
  exact((gY.out.below hb2).app (Own.single (r:=nRow (.slice b2 n.length d2) n) o2 (Nat.le_refl _)) (by have:=hb2.size;have:=HS2.out;omega) hb2.size).setCell _ (by show w.heap.size<W.heap.size;have:=gX.out;omega) _:Own W.heap.size W2.heap.size W2 ([aK (.slice b1 d.length d1) d]++[nRow (.slice b2 n.length d2) n]))
 have HB2:Hid (Below w.heap.size w W2):=(by rw[hW2];exact(ah HB1.out hb2).setCell (Nat.le_refl _) _:Below w.heap.size w W2)
 have yN:Hid (W.heap.size<=W2.heap.size):=(by rw[hsz2];have:=hb2.size;have:=HS2.out;omega:W.heap.size<=W2.heap.size)
 have HW2:Hid (w2.setCell ⟨w.heap.size,3,none⟩ (.slice b2 n.length d2)=W2):=hW2.symm
 have hC:=HT3.out _ HB2.out
 clear hW2 hsz2 I2 hb2 o2
 go_wp2_with fail
 rw[HW2.out]
 clear HW2 k3 f3 j4
 refine hC.mono ?_
 rintro e w3 ⟨b3,d3,rfl,hb3,o3⟩
 clear hC
 have I3:=HI2.out.below hb3
 obtain⟨⟨-,-,-,-,-,j5⟩,-⟩:=ay (I3.IX (.slice b3 h.length d3)).box
 obtain⟨⟨-,-,-,-,k4,-⟩,-,-,-,-,f4,-⟩:=ay I3.box
 obtain⟨W3,hW3⟩:∃W3,W3=w3.setCell ⟨w.heap.size,4,none⟩ (.slice b3 h.length d3):=⟨_,rfl⟩
 have HI3:Hid (OsI w.heap.size ph cu (.slice b1 d.length d1) (.slice b2 n.length d2) (.slice b3 h.length d3) (.slice a4 p.length c4) W3):=(by rw[hW3];exact I3.IX _:OsI w.heap.size ph cu (.slice b1 d.length d1) (.slice b2 n.length d2) (.slice b3 h.length d3) (.slice a4 p.length c4) W3)
 have hsz3:W3.heap.size=w3.heap.size:=by rw[hW3];simp
 have iY:Hid (Own W.heap.size W3.heap.size W3 (([aK (.slice b1 d.length d1) d]++[nRow (.slice b2 n.length d2) n])++[hRow (.slice b3 h.length d3) h])):=(by
  rw[hsz3,hW3]
  exact((kN.out.below hb3).app (Own.single (r:=hRow (.slice b3 h.length d3) h) o3 (Nat.le_refl _)) (by have:=hb3.size;have:=yN.out;omega) hb3.size).setCell _ (by show w.heap.size<W.heap.size;have:=gX.out;omega) _:Own W.heap.size W3.heap.size W3 (([aK (.slice b1 d.length d1) d]++[nRow (.slice b2 n.length d2) n])++[hRow (.slice b3 h.length d3) h]))
 have HB3:Hid (Below w.heap.size w W3):=(by rw[hW3];exact(ah HB2.out hb3).setCell (Nat.le_refl _) _:Below w.heap.size w W3)
 have Dy:Hid (W.heap.size<=W3.heap.size):=(by rw[hsz3];have:=hb3.size;have:=yN.out;omega:W.heap.size<=W3.heap.size)
 have HW3:Hid (w3.setCell ⟨w.heap.size,4,none⟩ (.slice b3 h.length d3)=W3):=hW3.symm
 have hC:=HT4.out _ HB3.out
 clear hW3 hsz3 I3 hb3 o3
 go_wp2_with fail
 rw[HW3.out]
 clear HW3 k4 f4 j5
 refine hC.mono ?_
 rintro e w4 ⟨b4,d4,rfl,hb4,o4⟩
 clear hC
 have I4:=HI3.out.below hb4
 obtain⟨⟨-,-,-,-,-,j5⟩,-⟩:=ay (I4.N8 (.slice b4 p.length d4)).box
 obtain⟨⟨-,-,-,-,-,k5⟩,-,-,-,-,-,f5⟩:=ay I4.box
 obtain⟨W4,iE⟩:∃W4,W4=w4.setCell ⟨w.heap.size,5,none⟩ (.slice b4 p.length d4):=⟨_,rfl⟩
 have HI4:Hid (OsI w.heap.size ph cu (.slice b1 d.length d1) (.slice b2 n.length d2) (.slice b3 h.length d3) (.slice b4 p.length d4) W4):=(by rw[iE];exact I4.N8 _:OsI w.heap.size ph cu (.slice b1 d.length d1) (.slice b2 n.length d2) (.slice b3 h.length d3) (.slice b4 p.length d4) W4)
 have zG:W4.heap.size=w4.heap.size:=by rw[iE];simp
 have qJ:Hid (Own W.heap.size W4.heap.size W4 ((([aK (.slice b1 d.length d1) d]++[nRow (.slice b2 n.length d2) n])++[hRow (.slice b3 h.length d3) h])++[aQ (.slice b4 p.length d4) dP])):=(by
  rw[zG,iE]
  exact((iY.out.below hb4).app (Own.single (r:=aQ (.slice b4 p.length d4) dP) (by show w4.ownsRow W3.heap.size 36 1 (.slice b4 p.length d4) dP.length dP;rw[TS.out.1];exact o4) (Nat.le_refl _)) (by have:=hb4.size;have:=Dy.out;omega) hb4.size).setCell _ (by show w.heap.size<W.heap.size;have:=gX.out;omega) _:Own W.heap.size W4.heap.size W4 ((([aK (.slice b1 d.length d1) d]++[nRow (.slice b2 n.length d2) n])++[hRow (.slice b3 h.length d3) h])++[aQ (.slice b4 p.length d4) dP]))
 have HB4:Hid (Below w.heap.size w W4):=(by rw[iE];exact(ah HB3.out hb4).setCell (Nat.le_refl _) _:Below w.heap.size w W4)
 have uZ:Hid (W.heap.size<=W4.heap.size):=(by rw[zG];have:=hb4.size;have:=Dy.out;omega:W.heap.size<=W4.heap.size)
 have yO:Hid (w4.setCell ⟨w.heap.size,5,none⟩ (.slice b4 p.length d4)=W4):=iE.symm
 have yP:Hid (OsI w.heap.size ph cu (.slice b1 d.length d1) (.slice b2 n.length d2) (.slice b3 h.length d3) (.slice b4 p.length d4) (w4.setCell ⟨w.heap.size,5,none⟩ (.slice b4 p.length d4))/\Below w.heap.size w (w4.setCell ⟨w.heap.size,5,none⟩ (.slice b4 p.length d4))/\Own W.heap.size (w4.setCell ⟨w.heap.size,5,none⟩ (.slice b4 p.length d4)).heap.size (w4.setCell ⟨w.heap.size,5,none⟩ (.slice b4 p.length d4)) ((([aK (.slice b1 d.length d1) d]++[nRow (.slice b2 n.length d2) n])++[hRow (.slice b3 h.length d3) h])++[aQ (.slice b4 p.length d4) dP])/\W.heap.size<=(w4.setCell ⟨w.heap.size,5,none⟩ (.slice b4 p.length d4)).heap.size):=(by rw[←iE];exact⟨HI4.out,HB4.out,qJ.out,uZ.out⟩:_/\_)
 have TT:Hid (dP.length=p.length):=TS.out.1
 generalize hA:(([aK (.slice b1 d.length d1) d]++[nRow (.slice b2 n.length d2) n])++[hRow (.slice b3 h.length d3) h])=AA at yP
 have Zn:Hid (AA=(([aK (.slice b1 d.length d1) d]++[nRow (.slice b2 n.length d2) n])++[hRow (.slice b3 h.length d3) h])):=hA.symm
 clear iE zG I4 hb4 o4 yO HI4 HB4 qJ uZ HI3 HB3 iY Dy HI2 HB2 kN yN HI1 HB1 gY HS2 HI0 HB0 HT2 HT3 HT4 hA
 obtain⟨m,hm⟩:∃m,m=p.length:=⟨_,rfl⟩
 have HM:Hid (m=p.length):=hm
 rw[←hm]at k5 j5 yP TT TS VO hpx ⊢
 clear hm
 go_wp2
 go_loopw [24] (fun i wr=>∃(k:Nat)(us:List Value),k<=m/\i = .int .i64 k/\Hid (OsI w.heap.size ph cu (.slice b1 d.length d1) (.slice b2 n.length d2) (.slice b3 h.length d3) (.slice b4 m d4) wr)/\Hid (Below w.heap.size w wr)/\Hid (Own W.heap.size wr.heap.size wr ((AA++[aQ (.slice b4 m d4) us])++aI us p k))/\Hid (us.length=m)/\Hid (∀j,k<=j->j<m->uAt us j=uAt dP j)/\Hid (W.heap.size<=wr.heap.size)) (fun i _=>m - (intOf i).toNat)
 case atStart=>exact⟨0,dP,Nat.zero_le _,rfl,yP.out.1,yP.out.2.1,(by show Own _ _ _ ((AA++[aQ (.slice b4 m d4) dP])++[]);rw[List.append_nil];exact yP.out.2.2.1),TT,fun j _ _=>rfl,yP.out.2.2.2⟩
 case round=>
  obtain⟨k,us,hk,rfl,HI,HB,HO,HL,HE,HS⟩:=hrel
  clear k5 f5 j5 yP
  by_cases hkm:k<m
  ·have hki:(k:Int)<(m:Int):=by omega
   have hrow:=HO.out.own (aQ (.slice b4 m d4) us) (by simp)
   have hrow:wr.ownsRow W.heap.size 36 1 (.slice b4 m d4) us.length us:=hrow
   rw[HL.out]at hrow
   obtain⟨g,rfl,hgW⟩:∃g,b4=some ⟨g,0,none⟩/\W.heap.size<=g:=by
    rcases hrow.2 with⟨_,hh⟩ |⟨g,cap,cur,e,hh,_⟩
    ·omega
    ·cases e;exact⟨g,rfl,hh⟩
   have dk:wr.cell? ⟨g,k,none⟩=some (uAt us k):=by
    have:=hrow.cellAt k (by omega)
    rw[this]
    unfold uAt
    rw[List.getD_eq_getElem?_getD,List.getElem?_eq_getElem (by rw[HL.out];exact hkm)]
    rfl
   rw[HE.out k (Nat.le_refl _) hkm]at dk
   have hrk:=(TS.out.2 k hkm).below HB.out
   obtain⟨ua,uc,PK⟩:=hrk.shape
   have hgs:g<wr.heap.size:=(hrow.lt _ rfl).2
   obtain⟨V,hV⟩:∃V,V=wr.alloc (.cells #[uAt dP k] 36):=⟨_,rfl⟩
   have vY:Below wr.heap.size wr V:=by rw[hV];exact aj _
   have qR:V.heap[wr.heap.size]? = some (.cells #[uAt dP k] 36):=by rw[hV];exact heap_alloc_new wr _
   have Ua:=fun w' (hb:Below V.heap.size V w')=>qC (uAt dP k) (dAt p k) w' ((hrk.below vY).below hb) (VO.out k hkm).2 (VO.out k hkm).1
   have TQ:Hid (∀w',Below V.heap.size V w'->Own W.heap.size V.heap.size w' ((AA++[aQ (.slice (some ⟨g,0,none⟩) m d4) us])++aI us p k)/\OsI w.heap.size ph cu (.slice b1 d.length d1) (.slice b2 n.length d2) (.slice b3 h.length d3) (.slice (some ⟨g,0,none⟩) m d4) w'/\Below w.heap.size w w'):=fun w' hb=>⟨((HO.out.below vY).below hb).wide (Nat.le_refl _) vY.size,(HI.out.below vY).below hb,ah (ah HB.out vY) hb⟩
   rw[PK]at Ua dk qR hV
   obtain⟨q,hq⟩:∃q,q=(dAt p k).length:=⟨_,rfl⟩
   have HQ:Hid (q=(dAt p k).length):=hq
   rw[←hq]at Ua dk qR hV
   have HV:Hid (wr.alloc (.cells #[.slice ua q uc] 36)=V):=hV.symm
   have aH:Hid (∀w',Below V.heap.size V w'->w'.cell? ⟨w.heap.size,5,none⟩=some (.slice (some ⟨g,0,none⟩) m d4)/\w'.cell? ⟨wr.heap.size,0,none⟩=some (.slice ua q uc)):=fun w' hb=>⟨(ay (TQ.out w' hb).2.1.box).1.2.2.2.2.2,wY ((hb.block _ (Array.getElem?_eq_some_iff.1 qR).1).trans qR)⟩
   have TI:Hid (∀(w':World)(y:Value),(w'.cell? ⟨w.heap.size,5,none⟩=some (.slice (some ⟨g,0,none⟩) m d4)/\w'.cell? ⟨wr.heap.size,0,none⟩=some (.slice ua q uc))->(w'.setCell ⟨g,k,none⟩ y).cell? ⟨w.heap.size,5,none⟩=some (.slice (some ⟨g,0,none⟩) m d4)/\(w'.setCell ⟨g,k,none⟩ y).cell? ⟨wr.heap.size,0,none⟩=some (.slice ua q uc)):=fun w' y hh=>by
    have n0:w.heap.size≠g:=by have:=gX.out;omega
    have n1:wr.heap.size≠g:=by omega
    exact⟨(gU w' ⟨g,k,none⟩ ⟨w.heap.size,5,none⟩ y n0).trans hh.1,(gU w' ⟨g,k,none⟩ ⟨wr.heap.size,0,none⟩ y n1).trans hh.2⟩
   have hbx:Below V.heap.size V V:=Below.refl _ _
   obtain⟨y0,y1⟩:=aH.out _ hbx
   have TU:Hid (wr.heap.size<=V.heap.size):=vY.size
   clear hV vY qR hrk hrow PK HO HI HB hq
   go_wp2_with fail
   rw[HV.out]
   clear dk HV
   go_region_held3 (fun w'=>w'.cell? ⟨w.heap.size,5,none⟩=some (.slice (some ⟨g,0,none⟩) m d4)/\w'.cell? ⟨wr.heap.size,0,none⟩=some (.slice ua q uc))
    (first | with_reducible exact⟨y0,y1⟩|with_reducible exact aH.out _ hbx | with_reducible exact aH.out _ hbx.drew | with_reducible exact TI.out _ _ (aH.out _ hbx))
    (first
     |(go_at_call 77;refine(Ua _ (by first | exact hbx | exact hbx.drew)).mono ?_;rintro e w5 ⟨a5,c5,rfl,hb5,o5⟩;have HV5:Hid (Below V.heap.size V w5/\∃N5,V.heap.size<=N5/\N5<=w5.heap.size/\w5.ownsRow N5 46 4 (.slice a5 q c5) q (flR (dAt p k))):=(by first | exact⟨ah hbx hb5,_,hbx.size,hb5.size,o5⟩|exact⟨ah hbx.drew hb5,_,hbx.drew.size,hb5.size,o5⟩);have hbx:Below V.heap.size V w5:=HV5.out.1;have ni:=(TQ.out _ hbx).1.own (aQ (.slice (some ⟨g,0,none⟩) m d4) us) (by simp);have ni:w5.ownsRow W.heap.size 36 1 (.slice (some ⟨g,0,none⟩) m d4) us.length us:=ni;rw[HL.out]at ni;have f0:=ni.frozenAt k;obtain⟨z0,e0⟩:=Bo ni (j:=k) (by omega)))
   obtain⟨s1,r1⟩:=ni.stored k (.slice a5 q c5)
   obtain⟨YG,N5,hn5,YQ,Yt⟩:=HV5.out
   obtain⟨OV,IV,BV⟩:=TQ.out _ hbx
   have hgN:w.heap.size≠g/\w.heap.size+1≠g:=by have:=gX.out;omega
   have VH:Hid (OsI w.heap.size ph cu (.slice b1 d.length d1) (.slice b2 n.length d2) (.slice b3 h.length d3) (.slice (some ⟨g,0,none⟩) m d4) (w5.setCell ⟨g,k,none⟩ (.slice a5 q c5))):=IV.other _ _ hgN.1 hgN.2
   have uy:Hid (Below w.heap.size w (w5.setCell ⟨g,k,none⟩ (.slice a5 q c5))):=BV.setCell (by show w.heap.size<=g;have:=gX.out;omega) _
   have rX:Hid ((us.set k (.slice a5 q c5)).length=m):=(by rw[List.length_set];exact HL.out:(us.set k (.slice a5 q c5)).length=m)
   have Zr:Hid (∀j,k+1<=j->j<m->uAt (us.set k (.slice a5 q c5)) j=uAt dP j):=fun j h1 h2=>by rw[BX _ (by omega)];exact HE.out j (by omega) h2
   have uZ:Hid (W.heap.size<=(w5.setCell ⟨g,k,none⟩ (.slice a5 q c5)).heap.size):=(by have:=hbx.size;have:=TU.out;have:=HS.out;simp;omega:W.heap.size<=(w5.setCell ⟨g,k,none⟩ (.slice a5 q c5)).heap.size)
   have ZC:Hid (Own W.heap.size (w5.setCell ⟨g,k,none⟩ (.slice a5 q c5)).heap.size (w5.setCell ⟨g,k,none⟩ (.slice a5 q c5)) ((AA++[aQ (.slice (some ⟨g,0,none⟩) m d4) (us.set k (.slice a5 q c5))])++aI (us.set k (.slice a5 q c5)) p (k+1))):=(by
    rw[Qr _ (by rw[HL.out];exact hkm)]
    have X:Own N5 w5.heap.size w5 [aK (.slice a5 q c5) (dAt p k)]:=Own.single (by
     show w5.ownsRow N5 46 4 (.slice a5 q c5) (dAt p k).length (flR (dAt p k))
     rw[←HQ.out]
     exact Yt) (Nat.le_refl _)
    have Y:=(OV.wide (Nat.le_refl _) hn5).app X (by have:=HS.out;have:=TU.out;omega) YQ
    rw[List.append_assoc,List.append_assoc]at Y
    have Z:=Y.set (A:=AA) (r:=aQ (.slice (some ⟨g,0,none⟩) m d4) us) (r':=aQ (.slice (some ⟨g,0,none⟩) m d4) (us.set k (.slice a5 q c5))) (B:=aI us p k++[aK (.slice a5 q c5) (dAt p k)]) rfl r1 (by
     show(w5.setCell ⟨g,k,none⟩ (.slice a5 q c5)).ownsRow W.heap.size 36 1 (.slice (some ⟨g,0,none⟩) m d4) (us.set k (.slice a5 q c5)).length (us.set k (.slice a5 q c5))
     rw[rX.out]
     exact s1)
    rw[List.append_assoc]
    exact Z.wide (Nat.le_refl _) (by simp):Own W.heap.size (w5.setCell ⟨g,k,none⟩ (.slice a5 q c5)).heap.size (w5.setCell ⟨g,k,none⟩ (.slice a5 q c5)) ((AA++[aQ (.slice (some ⟨g,0,none⟩) m d4) (us.set k (.slice a5 q c5))])++aI (us.set k (.slice a5 q c5)) p (k+1)))
   clear s1 r1 ni o5 Yt OV IV BV Ua TQ aH TI y0 y1 hbx YG hb5 HV5
   go_wp2
   go_roundw
   case rel=>exact⟨k+1,us.set k (.slice a5 q c5),by omega,by go_num,VH,uy,ZC,rX,Zr,uZ⟩
   case measure=>simp[intOf];omega
  ·have hkm:k=m:=by omega
   subst hkm
   obtain⟨⟨y0,y1,y2,y3,y4,y5⟩,-⟩:=ay HI.out.box
   obtain⟨⟨z0,z1,z2,z3,z4,z5⟩,g0,g1,g2,g3,g4,g5⟩:=ay HI.out.res
   have hlt4:=HI.out.lt
   go_wp2
   refine bodyPost_ret (v:= .agg #[.int .i64 ph,.int .i64 cu,.slice b1 d.length d1,.slice b2 n.length d2,.slice b3 h.length d3,.slice b4 k d4]) (by simp[results,Tryz.results33,go_sem,z0,z1,z2,z3,z4,z5]) rfl ⟨⟨.slice b1 d.length d1,.slice b2 n.length d2,.slice b3 h.length d3,.slice b4 k d4⟩,us,rfl, ?_, ?_⟩
   ·exact(((((HB.out.setCell (Nat.le_succ _) _).setCell (Nat.le_succ _) _).setCell (Nat.le_succ _) _).setCell (Nat.le_succ _) _).setCell (Nat.le_succ _) _).setCell (Nat.le_succ _) _
   ·have hL1:w.heap.size+1<W.heap.size:=gX.out
    have A:aT W.heap.size wr.heap.size wr ⟨.slice b1 d.length d1,.slice b2 n.length d2,.slice b3 h.length d3,.slice b4 k d4⟩ us ⟨ph,cu,d,n,h,p⟩:=⟨by
     have:=HO.out
     rw[Zn.out,HM.out]at this
     simp only[List.append_assoc]at this
     rw[←HM.out]at this
     show Own _ _ _ ([aK (.slice b1 d.length d1) d]++([nRow (.slice b2 n.length d2) n]++([hRow (.slice b3 h.length d3) h]++([aQ (.slice b4 k d4) us]++aI us p p.length))))
     rw[←HM.out]
     exact this,by show us.length=p.length;rw[HL.out];exact HM.out⟩
    have B:=(((((A.setCell ⟨w.heap.size+1,0,none⟩ hL1 (.int .i64 ph)).setCell ⟨w.heap.size+1,1,none⟩ hL1 (.int .i64 cu)).setCell ⟨w.heap.size+1,2,none⟩ hL1 (.slice b1 d.length d1)).setCell ⟨w.heap.size+1,3,none⟩ hL1 (.slice b2 n.length d2)).setCell ⟨w.heap.size+1,4,none⟩ hL1 (.slice b3 h.length d3)).setCell ⟨w.heap.size+1,5,none⟩ hL1 (.slice b4 k d4)
    exact B.wide (by omega) (by simp)
def stZ:St:=⟨0,0,[],[],[],[]⟩
def svZ:Sv:=⟨.slice none 0 0,.slice none 0 0,.slice none 0 0,.slice none 0 0⟩
theorem Dp(lo hi:Nat)(w:World):aT lo hi w svZ [] stZ:=by
 refine⟨⟨fun r hr=> ?_,fun g hg=> ?_, ?_⟩,rfl⟩
 ·have:r=aK (.slice none 0 0) []∨r=nRow (.slice none 0 0) []∨r=hRow (.slice none 0 0) []∨r=aQ (.slice none 0 0) []:=by simpa [kZ,svZ,stZ,aI]using hr
  rcases this with rfl | rfl | rfl | rfl<;>exact⟨rfl,Or.inl ⟨rfl,rfl⟩⟩
 ·simp[kZ,svZ,stZ,aI,blks,aK,nRow,hRow,aQ,Value.ownBlock]at hg
 ·simp[kZ,svZ,stZ,aI,blks,aK,nRow,hRow,aQ,Value.ownBlock]
def jr(w:World)(c:Int)(t:St)(e:Ending)(w':World):Prop:=∃u us,e = .returned (srV c t u)/\Below w.heap.size w w'/\aT w.heap.size w'.heap.size w' u us t
theorem aO{w:World}{b:Nat}{x0 x1 x2 x3 x4 x5 x6:Value}{t:TypeId}(h:w.heap[b]? = some (.cells #[x0,x1,x2,x3,x4,x5,x6] t)):(w.cell? ⟨b,0,none⟩=some x0/\w.cell? ⟨b,1,none⟩=some x1/\w.cell? ⟨b,2,none⟩=some x2/\w.cell? ⟨b,3,none⟩=some x3/\w.cell? ⟨b,4,none⟩=some x4/\w.cell? ⟨b,5,none⟩=some x5/\w.cell? ⟨b,6,none⟩=some x6)/\w.frozen? ⟨b,0,none⟩=false/\w.frozen? ⟨b,1,none⟩=false/\w.frozen? ⟨b,2,none⟩=false/\w.frozen? ⟨b,3,none⟩=false/\w.frozen? ⟨b,4,none⟩=false/\w.frozen? ⟨b,5,none⟩=false/\w.frozen? ⟨b,6,none⟩=false:=by
 simp[World.cell?,World.frozen?,h]
theorem aT.ph{lo hi:Nat}{w:World}{v:Sv}{us:List Value}{s:St}(h:aT lo hi w v us s)(p c:Int):aT lo hi w v us ⟨p,c,s.d,s.n,s.h,s.p⟩:=⟨h.own,h.len⟩
end U
end Go.Proofs.YtmmcgjacojgeaaaGreat
