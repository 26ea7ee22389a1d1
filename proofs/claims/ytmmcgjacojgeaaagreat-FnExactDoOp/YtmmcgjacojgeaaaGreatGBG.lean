/- Joined: what the texts behind it need. -/
import Derived.Test.YtmmcgjacojgeaaaGreatGBC
import Derived.Test.YtmmcgjacojgeaaaGreatGBA
import Derived.RangeFuncBox
import Derived.Test.YtmmcgjacojgeaaaGreatGBB
import Derived.Deep.RegionLaw
set_option maxRecDepth 100000
set_option maxHeartbeats 8000000
namespace Go.Proofs.YtmmcgjacojgeaaaGreat
open Go.RowKit Go.Maps
namespace U
def lkO(l:Rcl)(key:Int):Option Rc:=if atI l key = -1 then none else some (rAt l (atI l key).toNat)
theorem nH{l:Rcl}(h:bY l)(x:Int):bC l l.length x=lkO l x:=by
 rcases UO h x with⟨h1,h2⟩ |⟨j,-,h1,h2,-⟩
 ·rw[h2,lkO,if_pos h1]
 ·rw[h2,lkO,h1,if_neg (by omega),Int.toNat_natCast]
theorem vP{l:Rcl}{x:Int}{r:Rc}(h:lkO l x=some r):r.k=x/\r∈l:=by
 unfold lkO at h
 rcases yA l x with⟨h1,-⟩ |⟨j,h1,h2,h3⟩
 ·rw[if_pos h1]at h;cases h
 ·rw[h3,if_neg (by omega),Int.toNat_natCast]at h
  cases h
  exact⟨h2,Ai h1⟩
theorem lW{w:World}{b:Nat}{v:Value}{t:TypeId}(h:w.heap[b]? = some (.cells #[v] t (0,0))):w.cell? ⟨b,0,none⟩=some v:=by unfold World.cell?;rw[h];rfl
end U
end Go.Proofs.YtmmcgjacojgeaaaGreat
namespace Go.Proofs.YtmmcgjacojgeaaaGreat
open Go.RowKit
namespace U
def dZ(s:Int):Int:=bI (bF 6 [s])
def owC(s:Int):Int:=if inB s 0 999=true then 0 else 3
def owV(s:Int):Int:=if inB s 0 999=true then dZ s else 0
theorem mg{s:Int}(h:inB s 0 999=true):owC s=0/\owV s=dZ s:=by simp[owC,owV,h]
theorem RN{s:Int}(h:inB s 0 999=false):owC s=3/\owV s=0:=by simp[owC,owV,h]
theorem BN{w:World}{g:Nat}{a:Int}{t:TypeId}(hg:g=w.heap.size):Ints .i64 (w.alloc (.cells #[.int .i64 a] t)) (.slice (some ⟨g,0,none⟩) 1 1) [a]:=by
 subst hg
 have hh:=heap_alloc_new w (.cells #[.int .i64 a] t)
 refine Or.inr ⟨w.heap.size,0,1,rfl,by simp,fun j hj=> ?_⟩
 have hj2:j<1:=hj
 obtain rfl:j=0:=by omega
 unfold World.cell?
 rw[hh]
 rfl
theorem gG(s:Int)(w:World):Calls Tryz.prog 69 #[.int .i64 s] w fun e w'=>jR w (owC s) (owV s) e w':=by
 rcases Bool.eq_false_or_eq_true (inB s 0 999)with h | h
 ·have hb:=eF h
  have h3 : [s].all aX=true:=by simp[bG];omega
  have ht:=xg (tag:=6) (xs:=[s]) (by decide) (by simp) h3
  have hT:=fun (w:World) v hv=>pI 6 v [s] w hv (by simp)
  rw[SB ht.1,ht.1,ht.2]at hT
  rw[(mg h).1,(mg h).2]
  unfold dZ
  generalize bI (bF 6 [s])=z at *
  have n1:¬s<0:=by omega
  have n2:¬ 999<s:=by omega
  clear h h3 ht hb
  go_enter Tryz.func69,Tryz.ntmps69
  go_wp2_with fail
  refine(hT _ _ (BN (by simp))).mono ?_
  rintro e w1 ⟨rfl,hb1⟩
  obtain⟨c0,c1,f0,f1⟩:=aS ((hb1.block w.heap.size (by simp;omega)).trans (((aj _).block w.heap.size (by simp)).trans (heap_alloc_new w _)))
  have hB:=ak (ak hb1)
  clear hT hb1
  go_wp2
  exact bodyPost_ret (v:= .agg #[.int .i64 0,.int .i64 z]) (by simp[results,Tryz.results69,go_sem,c0,c1]) rfl ⟨rfl,(hB.setCell (Nat.le_refl _) _).setCell (Nat.le_refl _) _⟩
 ·rw[(RN h).1,(RN h).2]
  rcases oD h with h1 | h1
  ·go_enter Tryz.func69,Tryz.ntmps69
   go_wp2
   exact bodyPost_ret (v:= .agg #[.int .i64 3,.int .i64 0]) (by simp[results,Tryz.results69,go_sem]) rfl ⟨rfl,aj _⟩
  ·have n1:¬s<0:=by omega
   go_enter Tryz.func69,Tryz.ntmps69
   go_wp2
   exact bodyPost_ret (v:= .agg #[.int .i64 3,.int .i64 0]) (by simp[results,Tryz.results69,go_sem]) rfl ⟨rfl,aj _⟩
theorem Q8(tag a:Int)(u:Value)(w:World)(ht:0<=tag/\tag<=255)(hu:Ints .i64 w u [a])(ha:0<=a/\a<=65520):
  Calls Tryz.prog 175 #[.int .i64 tag,u] w fun e w'=>e = .returned (.int .i64 (bI (bF tag [a])))/\Below w.heap.size w w':=by
 have h3 : [a].all aX=true:=by simp[bG,ha]
 have hB:=fun w h=>jH tag u [a] w h (by simp) ht h3
 have hS:=fun v w h=>lT v (bF tag [a]) w h (ny ht h3) (by rw[kQ];simp)
 have hl:(bF tag [a]).length=3:=by rw[kQ];rfl
 have HU:Hid (Ints .i64 w u [a]):=hu
 obtain⟨a',c',hu2⟩:=hu.shape
 have hu3:u = .slice a' 1 c':=hu2
 subst hu3
 clear hu2
 rw[hl]at hB
 have HL:Hid ((bF tag [a]).length=3):=hl
 generalize bI (bF tag [a])=s at *
 generalize bF tag [a]=ys at *
 clear hu hl h3 ha ht
 go_enter Tryz.func175,Tryz.ntmps175
 go_wp2_with fail
 refine(hB _ HU.out).mono ?_
 rintro e w1 ⟨v',rfl,bP,hb1⟩
 rw[←HL.out]at bP
 have HI:Hid (Ints .u8 w1 v' ys):=iL bP
 obtain⟨a1,c1,rfl⟩:=bn bP
 rw[HL.out]at HI ⊢
 clear hB bP
 go_wp2_with fail
 refine(hS _ _ HI.out).mono ?_
 rintro e w2 ⟨rfl,rfl⟩
 clear hS
 go_wp2
 go_ret
 exact⟨rfl,hb1⟩
theorem NT(s:Int)(w:World)(h:0<=s/\s<=999):Calls Tryz.prog 150 #[.int .i64 s] w fun e w'=>e = .returned (.int .i64 (dZ s))/\Below w.heap.size w w':=by
 have hT:=fun (w:World) u hu=>Q8 6 s u w (by omega) hu (by omega)
 unfold dZ
 generalize bI (bF 6 [s])=z at *
 go_enter Tryz.func150,Tryz.ntmps150
 go_wp2_with fail
 refine(hT _ _ (BN rfl)).mono ?_
 rintro e w1 ⟨rfl,hb1⟩
 clear hT
 go_wp2
 go_ret
 exact⟨rfl,ak hb1⟩
def wP(o:Option Rc)(full:Bool)(r:Rc)(ow:Int):Int:=
 match o with
 | some x=>if(r.l.toList==x.l.toList)=true then(if ow=x.o then(if r.v=x.v+1 then 0 else 7)else 8)else 6
 | none=>if r.v=1 then(if ow=r.o then(if full=true then 11 else 0)else 8)else 7
def pJ(l:Rcl)(r:Rc)(s:Int):Int:=if inB s 0 999=true then wP (lkO l r.k) (decide (12<=l.length)) r (dZ s)else 3
def upC(l:Rcl)(r:Rc)(s:Int):Int:=if aF l=0 then(if r.c=0 then pJ l r s else r.c)else aF l
def bD(l:Rcl)(r:Rc):Nat->Bool × Rcl
 | 0=>(false,[])
 | k+1=>
  let d:=(bD l r k).1
  let o:=(bD l r k).2
  let o1:=if(!d&&decide (r.k<=(rAt l k).k))=true then o++[r]else o
  (d||decide (r.k<=(rAt l k).k),if(rAt l k).k=r.k then o1 else o1++[rAt l k])
def fG(l:Rcl)(r:Rc):Rcl:=if(bD l r l.length).1=true then(bD l r l.length).2 else(bD l r l.length).2++[r]
def upL(l:Rcl)(r:Rc)(s:Int):Rcl:=if upC l r s=0 then fG l r else []
def ltF(l:Rcl)(r:Rc):Rcl:=l.filter fun x=>decide (x.k<r.k)
def gtF(l:Rcl)(r:Rc):Rcl:=l.filter fun x=>decide (r.k<x.k)
def su(l:Rcl)(r:Rc):Bool:=l.any fun x=>decide (r.k<=x.k)
theorem WL(l:Rcl)(x r:Rc):ltF (l++[x]) r=ltF l r++(if x.k<r.k then [x]else []):=by
 unfold ltF
 rw[List.filter_append]
 congr 1
 by_cases h:x.k<r.k<;>simp[h]
theorem V8(l:Rcl)(x r:Rc):gtF (l++[x]) r=gtF l r++(if r.k<x.k then [x]else []):=by
 unfold gtF
 rw[List.filter_append]
 congr 1
 by_cases h:r.k<x.k<;>simp[h]
theorem Tf(l:Rcl)(x r:Rc):su (l++[x]) r=(su l r||decide (r.k<=x.k)):=by
 unfold su
 rw[List.any_append]
 simp
theorem Sl(l:Rcl){k:Nat}(h:k<l.length):l.take (k+1)=l.take k++[rAt l k]:=by
 rw[List.take_add_one,List.getElem?_eq_getElem h,gX h]
 rfl
theorem Jm{l:Rcl}{r:Rc}(h:su l r=false):gtF l r=[]:=by
 unfold gtF
 rw[List.filter_eq_nil_iff]
 intro x hx
 unfold su at h
 rw[List.any_eq_false]at h
 have:=h x hx
 simp at this ⊢
 omega
theorem Ye{l:Rcl}(hl:bY l){r:Rc}{k:Nat}(hk:k<l.length)(h:(rAt l k).k<=r.k):su (l.take k) r=false:=by
 unfold su
 rw[List.any_eq_false]
 intro x hx
 obtain⟨j,hj,rfl⟩:=List.mem_iff_getElem.1 hx
 rw[List.length_take]at hj
 have h1:=hl.rise k hk j (by omega)
 rw[gX (by omega)]at h1
 rw[List.getElem_take]
 simp
 omega
theorem PE{l:Rcl}(hl:bY l)(r:Rc):∀k,k<=l.length->bD l r k=(su (l.take k) r,ltF (l.take k) r++if su (l.take k) r=true then r::gtF (l.take k) r else [])
 | 0,_=>rfl
 | k+1,hk=>by
  have ih:=PE hl r k (by omega)
  have hno:=fun h=>Ye hl (r:=r) (k:=k) (by omega) h
  rw[Sl l (by omega),WL,V8,Tf]
  show((bD l r k).1||decide (r.k<=(rAt l k).k),if(rAt l k).k=r.k then(if(!(bD l r k).1&&decide (r.k<=(rAt l k).k))=true then(bD l r k).2++[r]else(bD l r k).2)else(if(!(bD l r k).1&&decide (r.k<=(rAt l k).k))=true then(bD l r k).2++[r]else(bD l r k).2)++[rAt l k])=_
  rw[ih]
  generalize rAt l k=x at *
  have hg:=fun h=>Jm (l:=l.take k) (r:=r) h
  generalize ltF (l.take k) r=a at *
  generalize gtF (l.take k) r=b at *
  rcases Int.lt_trichotomy x.k r.k with h | h | h
  ·have h0:=hno (by omega)
   rw[h0]
   have h1:¬x.k=r.k:=by omega
   have h2:¬r.k<=x.k:=by omega
   simp[h,h1,h2]
  ·have h0:=hno (by omega)
   rw[hg h0,h0]
   simp[h]
  ·have h1:¬x.k=r.k:=by omega
   have h2:¬x.k<r.k:=by omega
   have h3:r.k<=x.k:=by omega
   cases hd:su (l.take k) r
   ·rw[hg hd]
    simp[h,h1,h2,h3]
   ·simp[h,h1,h2,h3]
theorem FU{l:Rcl}(hl:bY l)(r:Rc):fG l r=ltF l r++r::gtF l r:=by
 unfold fG
 rw[PE hl r l.length (Nat.le_refl _),List.take_length]
 dsimp only
 cases hd:su l r
 ·rw[Jm hd]
  simp
 ·simp
theorem bY.pair{l:Rcl}(h:bY l):l.Pairwise (fun x y=>x.k<y.k):=by
 rw[List.pairwise_iff_getElem]
 intro i j hi hj hij
 have:=h.rise j hj i hij
 rw[gX hi,gX hj]at this
 exact this
theorem G8{l:Rcl}(hl:bY l)(r:Rc):(fG l r).Pairwise (fun x y=>x.k<y.k):=by
 rw[FU hl,List.pairwise_append]
 refine⟨hl.pair.filter _, ?_, ?_⟩
 ·rw[List.pairwise_cons]
  refine⟨fun y hy=> ?_,hl.pair.filter _⟩
  have:=(List.mem_filter.1 hy).2
  simpa using this
 ·intro x hx y hy
  have h1:x.k<r.k:=by simpa using(List.mem_filter.1 hx).2
  rcases List.mem_cons.1 hy with rfl | hy
  ·exact h1
  ·have h2:r.k<y.k:=by simpa using(List.mem_filter.1 hy).2
   omega
theorem LH{l:Rcl}(hl:bY l)(r x:Rc):x∈fG l r↔x=r∨(x∈l/\x.k≠r.k):=by
 rw[FU hl,List.mem_append,List.mem_cons]
 unfold ltF gtF
 rw[List.mem_filter,List.mem_filter]
 simp only[decide_eq_true_eq]
 constructor
 ·rintro(⟨h1,h2⟩|rfl |⟨h1,h2⟩)
  ·exact Or.inr ⟨h1,by omega⟩
  ·exact Or.inl rfl
  ·exact Or.inr ⟨h1,by omega⟩
 ·rintro(rfl |⟨h1,h2⟩)
  ·exact Or.inr (Or.inl rfl)
  ·rcases Int.lt_or_gt_of_ne h2 with h | h
   ·exact Or.inl ⟨h1,h⟩
   ·exact Or.inr (Or.inr ⟨h1,h⟩)
def upG(l:Rcl)(r:Rc)(x:Int):Option Rc:=if x=r.k then some r else bC l l.length x
theorem uO{l:Rcl}(hl:bY l){x:Int}{y:Rc}:bC l l.length x=some y↔y∈l/\y.k=x:=by
 rw[nH hl]
 constructor
 ·intro h
  have:=vP h
  exact⟨this.2,this.1⟩
 ·rintro⟨h1,h2⟩
  obtain⟨j,hj,rfl⟩:=List.mem_iff_getElem.1 h1
  rw[←gX hj]at h2 ⊢
  rw[←nH hl]
  exact wO h2 _ hj (fun i hi e=>hl.one hi hj (by rw[e,h2]))
theorem nM{l:Rcl}(hl:bY l){r:Rc}{x:Int}{y:Rc}:upG l r x=some y↔y∈fG l r/\y.k=x:=by
 unfold upG
 rw[LH hl]
 by_cases h:x=r.k
 ·rw[if_pos h]
  constructor
  ·intro e
   cases e
   exact⟨Or.inl rfl,h.symm⟩
  ·rintro⟨rfl |⟨h1,h2⟩,h3⟩
   ·rfl
   ·exact absurd (h3.trans h) h2
 ·rw[if_neg h,uO hl]
  constructor
  ·rintro⟨h1,h2⟩
   exact⟨Or.inr ⟨h1,by rw[h2];exact h⟩,h2⟩
  ·rintro⟨rfl |⟨h1,h2⟩,h3⟩
   ·exact absurd h3.symm h
   ·exact⟨h1,h3⟩
theorem LQ:∀ {a b:List Int},a.Pairwise (· < ·)->b.Pairwise (· < ·)->(∀x,x∈a↔x∈b)->a=b
 | [],[],_,_,_=>rfl
 | [],y::b,_,_,h=>by have:=(h y).2 (by simp);cases this
 | x::a,[],_,_,h=>by have:=(h x).1 (by simp);cases this
 | x::a,y::b,ha,hb,h=>by
  obtain⟨ha1,ha2⟩:=List.pairwise_cons.1 ha
  obtain⟨hb1,hb2⟩:=List.pairwise_cons.1 hb
  have hxy:x=y:=by
   rcases List.mem_cons.1 ((h x).1 (by simp))with e | e
   ·exact e
   ·rcases List.mem_cons.1 ((h y).2 (by simp))with e2 | e2
    ·exact e2.symm
    ·have:=hb1 x e;have:=ha1 y e2;omega
  subst hxy
  congr 1
  refine LQ ha2 hb2 (fun z=>⟨fun hz=> ?_,fun hz=> ?_⟩)
  ·rcases List.mem_cons.1 ((h z).1 (by simp[hz]))with e | e
   ·have:=ha1 z hz;omega
   ·exact e
  ·rcases List.mem_cons.1 ((h z).2 (by simp[hz]))with e | e
   ·have:=hb1 z hz;omega
   ·exact e
theorem tH{l:Rcl}(hl:bY l)(r:Rc){ks:List Int}(hs:ks.Pairwise (· < ·))(hm:∀x,x∈ks↔(upG l r x).isSome=true):ks.map (fun x=>(upG l r x).getD rcZ)=fG l r:=by
 have e:ks=(fG l r).map (fun y=>y.k):=by
  refine LQ hs ?_ (fun x=> ?_)
  ·rw[List.pairwise_map]
   exact G8 hl r
  ·rw[hm,List.mem_map,Option.isSome_iff_exists]
   constructor
   ·rintro⟨y,hy⟩
    have:=(nM hl).1 hy
    exact⟨y,this.1,this.2⟩
   ·rintro⟨y,h1,h2⟩
    exact⟨y,(nM hl).2 ⟨h1,h2⟩⟩
 rw[e,List.map_map]
 have:∀y∈fG l r,((fun x=>(upG l r x).getD rcZ)∘fun y=>y.k) y=y:=fun y hy=>by
  show(upG l r y.k).getD rcZ=y
  rw[(nM hl).2 ⟨hy,rfl⟩]
  rfl
 rw[List.map_congr_left this]
 exact List.map_id _
theorem zK(r:Rc):∀l:Rcl,(ltF l r).length+(gtF l r).length<=l.length
 | []=>Nat.le_refl _
 | x::t=>by
  have ih:=zK r t
  unfold ltF gtF at ih ⊢
  rw[List.filter_cons,List.filter_cons]
  rcases Int.lt_trichotomy x.k r.k with h | h | h
  ·have h2:¬r.k<x.k:=by omega
   simp[h,h2]
   omega
  ·have h1:¬x.k<r.k:=by omega
   have h2:¬r.k<x.k:=by omega
   simp[h1,h2]
   omega
  ·have h1:¬x.k<r.k:=by omega
   simp[h,h1]
   omega
end U
end Go.Proofs.YtmmcgjacojgeaaaGreat
namespace Go.Proofs.YtmmcgjacojgeaaaGreat
open Go.RowKit Go.Maps
namespace U
theorem UF(g og b off c n:Nat)(l:Rcl)(key:Int)(w:World)(hn:n<=12)(hg:g<w.heap.size)(hb:b<w.heap.size)(hsm:∀j,j<n->(rAt l j).l.size<=12)
  (hD:w.cell? ⟨g,og,none⟩=some (.slice (some ⟨b,off,none⟩) n c)) (hc:∀j,j<n->dV w b (off+j*4) (rAt l j)) :
  Calls Tryz.prog 149 #[.pointer (some ⟨g,og,none⟩),.int .i64 key] w fun e w'=>e = .returned (.int .i64 (atK l key n 0))/\Below w.heap.size w w':=by
 obtain⟨q,hq⟩:∃q,q=atK l key n 0:=⟨_,rfl⟩
 have HQ:Hid (atK l key n 0=q):=hq.symm
 rw[←hq]
 clear hq
 have HD:Hid (∀w',Below w.heap.size w w'->w'.cell? ⟨g,og,none⟩=some (.slice (some ⟨b,off,none⟩) n c)):=fun w' h=>(h.cell (p:=⟨g,og,none⟩) hg).trans hD
 go_enter Tryz.func149,Tryz.ntmps149
 go_wp2
 go_loopw [5] (fun i wr=>∃k:Nat,k<=n/\i = .int .i64 k/\Hid (Below w.heap.size w wr)/\Hid (atK l key (n - k) k=q)) (fun i _=>n - (intOf i).toNat)
 case atStart=>exact⟨0,Nat.zero_le _,rfl,Below.refl _ _,HQ⟩
 case round=>
  obtain⟨k,hk,rfl,hB,HS⟩:=hrel
  have DW:=HD.out _ hB.out
  by_cases hkn:k<n
  ·have hki:(k:Int)<(n:Int):=by omega
   have d0:=((hc k hkn).below hB.out hb).c0
   have hK:=fun w=>lS (rAt l k).l w (hsm k hkn)
   have e2:aZ (rAt l k).l=(rAt l k).k:=rfl
   rw[e2]at hK
   have lu:Hid (n - k=(n - k - 1)+1):=(by omega:n - k=(n - k - 1)+1)
   have HH:Hid ((rAt l k).k=key->q=k):=(fun h=>by rw[←HS.out,lu.out];exact OH h:(rAt l k).k=key->q=k)
   have HM:Hid (¬(rAt l k).k=key->atK l key (n - k - 1) (k+1)=q):=(fun h=>by rw[←HS.out,lu.out];exact(I8 h).symm:¬(rAt l k).k=key->atK l key (n - k - 1) (k+1)=q)
   generalize (rAt l k).k=kz at *
   generalize (rAt l k).l=x0 at *
   clear hc e2 hsm
   by_cases hkk:kz=key
   ·subst hkk
    have iE:Hid (q=k):=HH.out rfl
    clear HH HM
    go_wp2_with fail
    refine(hK _).mono ?_
    rintro e w1 ⟨rfl,hb1⟩
    have HB1:Hid (Below w.heap.size w w1):=ah hB.out hb1
    clear hK hb1
    go_wp2
    go_ret
    exact⟨aN iE.out.symm,HB1.out⟩
   ·have hbn:(kz==key)=false:=by simpa using hkk
    have iE:Hid (atK l key (n - k - 1) (k+1)=q):=HM.out hkk
    clear HH HM hkk
    go_wp2_with fail
    refine(hK _).mono ?_
    rintro e w1 ⟨rfl,hb1⟩
    have HB1:Hid (Below w.heap.size w w1):=ah hB.out hb1
    clear hK hb1
    go_wp2
    go_roundw
    case rel=>exact⟨k+1,by omega,by go_num,HB1,by rw[show n - (k+1)=n - k - 1 by omega];exact iE⟩
    case measure=>simp[intOf];omega
  ·have hkn:k=n:=by omega
   subst hkn
   have e0:Hid (q = -1):=(by rw[←HS.out,Nat.sub_self];rfl:q = -1)
   clear hc
   go_wp2
   go_ret
   exact⟨aN e0.out.symm,hB.out⟩
theorem WG(g og:Nat)(v:Value)(l:Rcl)(key:Int)(w:World)(hg:g<w.heap.size)(hD:w.cell? ⟨g,og,none⟩=some v)(hv:Rcs w v l)(hok:bY l):
  Calls Tryz.prog 149 #[.pointer (some ⟨g,og,none⟩),.int .i64 key] w fun e w'=>e = .returned (.int .i64 (atI l key))/\Below w.heap.size w w':=by
 obtain⟨a,c,rfl⟩:=hv.shape
 by_cases h0:0<l.length
 ·obtain⟨_,b,off,rfl,hb,hc⟩:=hv.at h0
  exact UF g og b off c l.length l key w hok.len hg hb (fun j hj=>Rc.kN (hok.ok j hj)) hD hc
 ·have e1:l=[]:=List.eq_nil_of_length_eq_zero (by omega)
  subst e1
  have e2:atI [] key = -1:=rfl
  rw[e2]
  simp only[List.length_nil]at *
  clear hv h0 hok e2
  go_enter Tryz.func149,Tryz.ntmps149
  go_wp2
  refine wp_loop_rounds 1 ?_;rw[rounds_succ]
  go_wp2
  go_ret
  exact⟨rfl,Below.refl _ _⟩
end U
end Go.Proofs.YtmmcgjacojgeaaaGreat
namespace Go.Proofs.YtmmcgjacojgeaaaGreat
open Go.RowKit
namespace U
theorem NS(g og p po b off c n j:Nat)(s:Int)(x0 r0:ByteArray)(x1 x2 r1 r2 ow kz:Int)(w:World)(hg:g<w.heap.size)(hp:p<w.heap.size)(hb:b<w.heap.size)(hj:j<n)(hD:w.cell? ⟨g,og,none⟩=some (.slice (some ⟨b,off,none⟩) n c))
  (hx0:w.cell? ⟨b,off+j*4,none⟩=some (.string x0)) (hx1:w.cell? ⟨b,off+j*4+1,none⟩=some (.int .i64 x1)) (hx2:w.cell? ⟨b,off+j*4+2,none⟩=some (.int .i64 x2)) (hr0:w.cell? ⟨p,po,none⟩=some (.string r0)) (hr1:w.cell? ⟨p,po+1,none⟩=some (.int .i64 r1)) (hr2:w.cell? ⟨p,po+2,none⟩=some (.int .i64 r2)) (_:1<=x1/\x1<=999) (hs:inB s 0 999=true)
  (hl:(x0.toList==r0.toList)=false)
  (hK:∀w',Calls Tryz.prog 104 #[.string r0] w' fun e w''=>e = .returned (.int .i64 kz)/\Below w'.heap.size w' w'') (hA:∀w',Below w.heap.size w w'->Calls Tryz.prog 149 #[.pointer (some ⟨g,og,none⟩),.int .i64 kz] w' fun e w''=>e = .returned (.int .i64 (j:Int))/\Below w'.heap.size w' w'') (_:∀w',Calls Tryz.prog 150 #[.int .i64 s] w' fun e w''=>e = .returned (.int .i64 ow)/\Below w'.heap.size w' w'') :
  Calls Tryz.prog 110 #[.pointer (some ⟨g,og,none⟩),.pointer (some ⟨p,po,none⟩),.int .i64 s] w fun e w'=>e = .returned (.int .i64 6)/\Below w.heap.size w w':=by
 have hI:=fun w=>aY s 0 999 w
 rw[hs]at hI
 have hji:(j:Int)<(n:Int):=by omega
 have hj0:decide ((j:Int)<0)=false:=by simp
 have hj1:decide (0<=(j:Int))=true:=by simp
 have HR:Hid (∀w',Below w.heap.size w w'->w'.cell? ⟨g,og,none⟩=some (.slice (some ⟨b,off,none⟩) n c)/\w'.cell? ⟨p,po,none⟩=some (.string r0)/\w'.cell? ⟨p,po+1,none⟩=some (.int .i64 r1)/\w'.cell? ⟨p,po+2,none⟩=some (.int .i64 r2)/\w'.cell? ⟨b,off+j*4,none⟩=some (.string x0)/\w'.cell? ⟨b,off+j*4+1,none⟩=some (.int .i64 x1)/\w'.cell? ⟨b,off+j*4+2,none⟩=some (.int .i64 x2)):=fun w' h=>⟨(h.cell (p:=⟨g,og,none⟩) hg).trans hD,(h.cell (p:=⟨p,po,none⟩) hp).trans hr0,(h.cell (p:=⟨p,po+1,none⟩) hp).trans hr1,(h.cell (p:=⟨p,po+2,none⟩) hp).trans hr2,(h.cell (p:=⟨b,off+j*4,none⟩) hb).trans hx0,(h.cell (p:=⟨b,off+j*4+1,none⟩) hb).trans hx1,(h.cell (p:=⟨b,off+j*4+2,none⟩) hb).trans hx2⟩
 clear hs hD hr1 hr2 hx0 hx1 hx2
 go_enter Tryz.func110,Tryz.ntmps110
 go_wp2_with fail
 refine(hI _).mono ?_
 rintro e w0 ⟨rfl,rfl⟩
 clear hI
 go_wp2_with fail
 refine(hK _).mono ?_
 rintro e w1 ⟨rfl,hb1⟩
 clear hK hr0
 go_wp2_with fail
 refine(hA _ hb1).mono ?_
 rintro e w2 ⟨rfl,hb2⟩
 have hB2:=ah hb1 hb2
 clear hA hb1 hb2
 obtain⟨kD,k0,k1,k2,m0,m1,m2⟩:=HR.out _ hB2
 have eX:=After.cell kD
 have eH:=After.cell k0
 have eP:=After.cell k1
 have eU:=After.cell k2
 have oJ:=After.cell m0
 have oK:=After.cell m1
 have oL:=After.cell m2
 have hne:=After.ne w2
 go_wp2_with fail
 refine au (by kernel_rfl) (by kernel_rfl) ?_
 repeat(first | go_big_quiet_skip |(go_big_quiet_want;go_big_quiet_op;first | go_big_quiet_on | go_big_quiet_call (first |(go_at_call 150;refine(fE _).mono ?_;rintro e wq ⟨rfl,hbq⟩;exact⟨rfl,ay (ah (After.b _) hbq)⟩))))
 refine wpQuiet_nil ?_
 rintro _ ⟨n2,rfl⟩
 have hB3:=ah hB2 n2.b
 generalize n2.w=w3 at *
 clear hne n2 eX eH eP eU oJ oK oL kD k0 k1 k2 m0 m1 m2 hB2
 obtain⟨kD,k0,k1,k2,m0,m1,m2⟩:=HR.out _ hB3
 go_wp2
 go_ret
 exact⟨rfl,hB3⟩
theorem NR(g og p po b off c n j:Nat)(s:Int)(x0 r0:ByteArray)(x1 x2 r1 r2 ow kz:Int)(w:World)(hg:g<w.heap.size)(hp:p<w.heap.size)(hb:b<w.heap.size)(hj:j<n)(hD:w.cell? ⟨g,og,none⟩=some (.slice (some ⟨b,off,none⟩) n c))
  (hx0:w.cell? ⟨b,off+j*4,none⟩=some (.string x0)) (hx1:w.cell? ⟨b,off+j*4+1,none⟩=some (.int .i64 x1)) (hx2:w.cell? ⟨b,off+j*4+2,none⟩=some (.int .i64 x2)) (hr0:w.cell? ⟨p,po,none⟩=some (.string r0)) (hr1:w.cell? ⟨p,po+1,none⟩=some (.int .i64 r1)) (hr2:w.cell? ⟨p,po+2,none⟩=some (.int .i64 r2)) (_:1<=x1/\x1<=999) (hs:inB s 0 999=true)
  (hl:(x0.toList==r0.toList)=true) (ho:(x2 != ow)=true)
  (hK:∀w',Calls Tryz.prog 104 #[.string r0] w' fun e w''=>e = .returned (.int .i64 kz)/\Below w'.heap.size w' w'') (hA:∀w',Below w.heap.size w w'->Calls Tryz.prog 149 #[.pointer (some ⟨g,og,none⟩),.int .i64 kz] w' fun e w''=>e = .returned (.int .i64 (j:Int))/\Below w'.heap.size w' w'') (fE:∀w',Calls Tryz.prog 150 #[.int .i64 s] w' fun e w''=>e = .returned (.int .i64 ow)/\Below w'.heap.size w' w'') :
  Calls Tryz.prog 110 #[.pointer (some ⟨g,og,none⟩),.pointer (some ⟨p,po,none⟩),.int .i64 s] w fun e w'=>e = .returned (.int .i64 8)/\Below w.heap.size w w':=by
 have hI:=fun w=>aY s 0 999 w
 rw[hs]at hI
 have hji:(j:Int)<(n:Int):=by omega
 have hj0:decide ((j:Int)<0)=false:=by simp
 have hj1:decide (0<=(j:Int))=true:=by simp
 have HR:Hid (∀w',Below w.heap.size w w'->w'.cell? ⟨g,og,none⟩=some (.slice (some ⟨b,off,none⟩) n c)/\w'.cell? ⟨p,po,none⟩=some (.string r0)/\w'.cell? ⟨p,po+1,none⟩=some (.int .i64 r1)/\w'.cell? ⟨p,po+2,none⟩=some (.int .i64 r2)/\w'.cell? ⟨b,off+j*4,none⟩=some (.string x0)/\w'.cell? ⟨b,off+j*4+1,none⟩=some (.int .i64 x1)/\w'.cell? ⟨b,off+j*4+2,none⟩=some (.int .i64 x2)):=fun w' h=>⟨(h.cell (p:=⟨g,og,none⟩) hg).trans hD,(h.cell (p:=⟨p,po,none⟩) hp).trans hr0,(h.cell (p:=⟨p,po+1,none⟩) hp).trans hr1,(h.cell (p:=⟨p,po+2,none⟩) hp).trans hr2,(h.cell (p:=⟨b,off+j*4,none⟩) hb).trans hx0,(h.cell (p:=⟨b,off+j*4+1,none⟩) hb).trans hx1,(h.cell (p:=⟨b,off+j*4+2,none⟩) hb).trans hx2⟩
 clear hs hD hr1 hr2 hx0 hx1 hx2
 go_enter Tryz.func110,Tryz.ntmps110
 go_wp2_with fail
 refine(hI _).mono ?_
 rintro e w0 ⟨rfl,rfl⟩
 clear hI
 go_wp2_with fail
 refine(hK _).mono ?_
 rintro e w1 ⟨rfl,hb1⟩
 clear hK hr0
 go_wp2_with fail
 refine(hA _ hb1).mono ?_
 rintro e w2 ⟨rfl,hb2⟩
 have hB2:=ah hb1 hb2
 clear hA hb1 hb2
 obtain⟨kD,k0,k1,k2,m0,m1,m2⟩:=HR.out _ hB2
 have eX:=After.cell kD
 have eH:=After.cell k0
 have eP:=After.cell k1
 have eU:=After.cell k2
 have oJ:=After.cell m0
 have oK:=After.cell m1
 have oL:=After.cell m2
 have hne:=After.ne w2
 go_wp2_with fail
 refine au (by kernel_rfl) (by kernel_rfl) ?_
 repeat(first | go_big_quiet_skip |(go_big_quiet_want;go_big_quiet_op;first | go_big_quiet_on | go_big_quiet_call (first |(go_at_call 150;refine(fE _).mono ?_;rintro e wq ⟨rfl,hbq⟩;exact⟨rfl,ay (ah (After.b _) hbq)⟩))))
 refine wpQuiet_nil ?_
 rintro _ ⟨n2,rfl⟩
 have hB3:=ah hB2 n2.b
 generalize n2.w=w3 at *
 clear hne n2 eX eH eP eU oJ oK oL kD k0 k1 k2 m0 m1 m2 hB2
 obtain⟨kD,k0,k1,k2,m0,m1,m2⟩:=HR.out _ hB3
 have eX:=After.cell kD
 have eH:=After.cell k0
 have eP:=After.cell k1
 have eU:=After.cell k2
 have oJ:=After.cell m0
 have oK:=After.cell m1
 have oL:=After.cell m2
 have hne:=After.ne w3
 go_wp2_with fail
 refine au (by kernel_rfl) (by kernel_rfl) ?_
 repeat(first | go_big_quiet_skip |(go_big_quiet_want;go_big_quiet_op;first | go_big_quiet_on | go_big_quiet_call (first |(go_at_call 150;refine(fE _).mono ?_;rintro e wq ⟨rfl,hbq⟩;exact⟨rfl,ay (ah (After.b _) hbq)⟩))))
 refine wpQuiet_nil ?_
 rintro _ ⟨n3,rfl⟩
 have hB4:=ah hB3 n3.b
 generalize n3.w=w4 at *
 clear hne n3 eX eH eP eU oJ oK oL kD k0 k1 k2 m0 m1 m2 hB3
 obtain⟨kD,k0,k1,k2,m0,m1,m2⟩:=HR.out _ hB4
 go_wp2
 go_ret
 exact⟨rfl,hB4⟩
theorem Ii(g og p po b off c n j:Nat)(s:Int)(x0 r0:ByteArray)(x1 x2 r1 r2 ow kz:Int)(w:World)(hg:g<w.heap.size)(hp:p<w.heap.size)(hb:b<w.heap.size)(hj:j<n)(hD:w.cell? ⟨g,og,none⟩=some (.slice (some ⟨b,off,none⟩) n c))
  (hx0:w.cell? ⟨b,off+j*4,none⟩=some (.string x0)) (hx1:w.cell? ⟨b,off+j*4+1,none⟩=some (.int .i64 x1)) (hx2:w.cell? ⟨b,off+j*4+2,none⟩=some (.int .i64 x2)) (hr0:w.cell? ⟨p,po,none⟩=some (.string r0)) (hr1:w.cell? ⟨p,po+1,none⟩=some (.int .i64 r1)) (hr2:w.cell? ⟨p,po+2,none⟩=some (.int .i64 r2)) (hv:1<=x1/\x1<=999) (hs:inB s 0 999=true)
  (hl:(x0.toList==r0.toList)=true) (ho:(x2 != ow)=false) (hvn:(x1+1 != r1)=true)
  (hK:∀w',Calls Tryz.prog 104 #[.string r0] w' fun e w''=>e = .returned (.int .i64 kz)/\Below w'.heap.size w' w'') (hA:∀w',Below w.heap.size w w'->Calls Tryz.prog 149 #[.pointer (some ⟨g,og,none⟩),.int .i64 kz] w' fun e w''=>e = .returned (.int .i64 (j:Int))/\Below w'.heap.size w' w'') (fE:∀w',Calls Tryz.prog 150 #[.int .i64 s] w' fun e w''=>e = .returned (.int .i64 ow)/\Below w'.heap.size w' w'') :
  Calls Tryz.prog 110 #[.pointer (some ⟨g,og,none⟩),.pointer (some ⟨p,po,none⟩),.int .i64 s] w fun e w'=>e = .returned (.int .i64 7)/\Below w.heap.size w w':=by
 have hI:=fun w=>aY s 0 999 w
 rw[hs]at hI
 have hji:(j:Int)<(n:Int):=by omega
 have hj0:decide ((j:Int)<0)=false:=by simp
 have hj1:decide (0<=(j:Int))=true:=by simp
 have HR:Hid (∀w',Below w.heap.size w w'->w'.cell? ⟨g,og,none⟩=some (.slice (some ⟨b,off,none⟩) n c)/\w'.cell? ⟨p,po,none⟩=some (.string r0)/\w'.cell? ⟨p,po+1,none⟩=some (.int .i64 r1)/\w'.cell? ⟨p,po+2,none⟩=some (.int .i64 r2)/\w'.cell? ⟨b,off+j*4,none⟩=some (.string x0)/\w'.cell? ⟨b,off+j*4+1,none⟩=some (.int .i64 x1)/\w'.cell? ⟨b,off+j*4+2,none⟩=some (.int .i64 x2)):=fun w' h=>⟨(h.cell (p:=⟨g,og,none⟩) hg).trans hD,(h.cell (p:=⟨p,po,none⟩) hp).trans hr0,(h.cell (p:=⟨p,po+1,none⟩) hp).trans hr1,(h.cell (p:=⟨p,po+2,none⟩) hp).trans hr2,(h.cell (p:=⟨b,off+j*4,none⟩) hb).trans hx0,(h.cell (p:=⟨b,off+j*4+1,none⟩) hb).trans hx1,(h.cell (p:=⟨b,off+j*4+2,none⟩) hb).trans hx2⟩
 clear hs hD hr1 hr2 hx0 hx1 hx2
 go_enter Tryz.func110,Tryz.ntmps110
 go_wp2_with fail
 refine(hI _).mono ?_
 rintro e w0 ⟨rfl,rfl⟩
 clear hI
 go_wp2_with fail
 refine(hK _).mono ?_
 rintro e w1 ⟨rfl,hb1⟩
 clear hK hr0
 go_wp2_with fail
 refine(hA _ hb1).mono ?_
 rintro e w2 ⟨rfl,hb2⟩
 have hB2:=ah hb1 hb2
 clear hA hb1 hb2
 obtain⟨kD,k0,k1,k2,m0,m1,m2⟩:=HR.out _ hB2
 have eX:=After.cell kD
 have eH:=After.cell k0
 have eP:=After.cell k1
 have eU:=After.cell k2
 have oJ:=After.cell m0
 have oK:=After.cell m1
 have oL:=After.cell m2
 have hne:=After.ne w2
 go_wp2_with fail
 refine au (by kernel_rfl) (by kernel_rfl) ?_
 repeat(first | go_big_quiet_skip |(go_big_quiet_want;go_big_quiet_op;first | go_big_quiet_on | go_big_quiet_call (first |(go_at_call 150;refine(fE _).mono ?_;rintro e wq ⟨rfl,hbq⟩;exact⟨rfl,ay (ah (After.b _) hbq)⟩))))
 refine wpQuiet_nil ?_
 rintro _ ⟨n2,rfl⟩
 have hB3:=ah hB2 n2.b
 generalize n2.w=w3 at *
 clear hne n2 eX eH eP eU oJ oK oL kD k0 k1 k2 m0 m1 m2 hB2
 obtain⟨kD,k0,k1,k2,m0,m1,m2⟩:=HR.out _ hB3
 have eX:=After.cell kD
 have eH:=After.cell k0
 have eP:=After.cell k1
 have eU:=After.cell k2
 have oJ:=After.cell m0
 have oK:=After.cell m1
 have oL:=After.cell m2
 have hne:=After.ne w3
 go_wp2_with fail
 refine au (by kernel_rfl) (by kernel_rfl) ?_
 repeat(first | go_big_quiet_skip |(go_big_quiet_want;go_big_quiet_op;first | go_big_quiet_on | go_big_quiet_call (first |(go_at_call 150;refine(fE _).mono ?_;rintro e wq ⟨rfl,hbq⟩;exact⟨rfl,ay (ah (After.b _) hbq)⟩))))
 refine wpQuiet_nil ?_
 rintro _ ⟨n3,rfl⟩
 have hB4:=ah hB3 n3.b
 generalize n3.w=w4 at *
 clear hne n3 eX eH eP eU oJ oK oL kD k0 k1 k2 m0 m1 m2 hB3
 obtain⟨kD,k0,k1,k2,m0,m1,m2⟩:=HR.out _ hB4
 have eX:=After.cell kD
 have eH:=After.cell k0
 have eP:=After.cell k1
 have eU:=After.cell k2
 have oJ:=After.cell m0
 have oK:=After.cell m1
 have oL:=After.cell m2
 have hne:=After.ne w4
 go_wp2_with fail
 refine au (by kernel_rfl) (by kernel_rfl) ?_
 repeat(first | go_big_quiet_skip |(go_big_quiet_want;go_big_quiet_op;first | go_big_quiet_on | go_big_quiet_call (first |(go_at_call 150;refine(fE _).mono ?_;rintro e wq ⟨rfl,hbq⟩;exact⟨rfl,ay (ah (After.b _) hbq)⟩))))
 refine wpQuiet_nil ?_
 rintro _ ⟨n4,rfl⟩
 have jZ:=ah hB4 n4.b
 generalize n4.w=w5 at *
 clear hne n4 eX eH eP eU oJ oK oL kD k0 k1 k2 m0 m1 m2 hB4
 obtain⟨kD,k0,k1,k2,m0,m1,m2⟩:=HR.out _ jZ
 go_wp2
 go_ret
 exact⟨rfl,jZ⟩
theorem WH(g og p po b off c n j:Nat)(s:Int)(x0 r0:ByteArray)(x1 x2 r1 r2 ow kz:Int)(w:World)(hg:g<w.heap.size)(hp:p<w.heap.size)(hb:b<w.heap.size)(hj:j<n)(hD:w.cell? ⟨g,og,none⟩=some (.slice (some ⟨b,off,none⟩) n c))
  (hx0:w.cell? ⟨b,off+j*4,none⟩=some (.string x0)) (hx1:w.cell? ⟨b,off+j*4+1,none⟩=some (.int .i64 x1)) (hx2:w.cell? ⟨b,off+j*4+2,none⟩=some (.int .i64 x2)) (hr0:w.cell? ⟨p,po,none⟩=some (.string r0)) (hr1:w.cell? ⟨p,po+1,none⟩=some (.int .i64 r1)) (hr2:w.cell? ⟨p,po+2,none⟩=some (.int .i64 r2)) (hv:1<=x1/\x1<=999) (hs:inB s 0 999=true)
  (hl:(x0.toList==r0.toList)=true) (ho:(x2 != ow)=false) (hvn:(x1+1 != r1)=false)
  (hK:∀w',Calls Tryz.prog 104 #[.string r0] w' fun e w''=>e = .returned (.int .i64 kz)/\Below w'.heap.size w' w'') (hA:∀w',Below w.heap.size w w'->Calls Tryz.prog 149 #[.pointer (some ⟨g,og,none⟩),.int .i64 kz] w' fun e w''=>e = .returned (.int .i64 (j:Int))/\Below w'.heap.size w' w'') (fE:∀w',Calls Tryz.prog 150 #[.int .i64 s] w' fun e w''=>e = .returned (.int .i64 ow)/\Below w'.heap.size w' w'') :
  Calls Tryz.prog 110 #[.pointer (some ⟨g,og,none⟩),.pointer (some ⟨p,po,none⟩),.int .i64 s] w fun e w'=>e = .returned (.int .i64 0)/\Below w.heap.size w w':=by
 have hI:=fun w=>aY s 0 999 w
 rw[hs]at hI
 have hji:(j:Int)<(n:Int):=by omega
 have hj0:decide ((j:Int)<0)=false:=by simp
 have hj1:decide (0<=(j:Int))=true:=by simp
 have HR:Hid (∀w',Below w.heap.size w w'->w'.cell? ⟨g,og,none⟩=some (.slice (some ⟨b,off,none⟩) n c)/\w'.cell? ⟨p,po,none⟩=some (.string r0)/\w'.cell? ⟨p,po+1,none⟩=some (.int .i64 r1)/\w'.cell? ⟨p,po+2,none⟩=some (.int .i64 r2)/\w'.cell? ⟨b,off+j*4,none⟩=some (.string x0)/\w'.cell? ⟨b,off+j*4+1,none⟩=some (.int .i64 x1)/\w'.cell? ⟨b,off+j*4+2,none⟩=some (.int .i64 x2)):=fun w' h=>⟨(h.cell (p:=⟨g,og,none⟩) hg).trans hD,(h.cell (p:=⟨p,po,none⟩) hp).trans hr0,(h.cell (p:=⟨p,po+1,none⟩) hp).trans hr1,(h.cell (p:=⟨p,po+2,none⟩) hp).trans hr2,(h.cell (p:=⟨b,off+j*4,none⟩) hb).trans hx0,(h.cell (p:=⟨b,off+j*4+1,none⟩) hb).trans hx1,(h.cell (p:=⟨b,off+j*4+2,none⟩) hb).trans hx2⟩
 clear hs hD hr1 hr2 hx0 hx1 hx2
 go_enter Tryz.func110,Tryz.ntmps110
 go_wp2_with fail
 refine(hI _).mono ?_
 rintro e w0 ⟨rfl,rfl⟩
 clear hI
 go_wp2_with fail
 refine(hK _).mono ?_
 rintro e w1 ⟨rfl,hb1⟩
 clear hK hr0
 go_wp2_with fail
 refine(hA _ hb1).mono ?_
 rintro e w2 ⟨rfl,hb2⟩
 have hB2:=ah hb1 hb2
 clear hA hb1 hb2
 obtain⟨kD,k0,k1,k2,m0,m1,m2⟩:=HR.out _ hB2
 have eX:=After.cell kD
 have eH:=After.cell k0
 have eP:=After.cell k1
 have eU:=After.cell k2
 have oJ:=After.cell m0
 have oK:=After.cell m1
 have oL:=After.cell m2
 have hne:=After.ne w2
 go_wp2_with fail
 refine au (by kernel_rfl) (by kernel_rfl) ?_
 repeat(first | go_big_quiet_skip |(go_big_quiet_want;go_big_quiet_op;first | go_big_quiet_on | go_big_quiet_call (first |(go_at_call 150;refine(fE _).mono ?_;rintro e wq ⟨rfl,hbq⟩;exact⟨rfl,ay (ah (After.b _) hbq)⟩))))
 refine wpQuiet_nil ?_
 rintro _ ⟨n2,rfl⟩
 have hB3:=ah hB2 n2.b
 generalize n2.w=w3 at *
 clear hne n2 eX eH eP eU oJ oK oL kD k0 k1 k2 m0 m1 m2 hB2
 obtain⟨kD,k0,k1,k2,m0,m1,m2⟩:=HR.out _ hB3
 have eX:=After.cell kD
 have eH:=After.cell k0
 have eP:=After.cell k1
 have eU:=After.cell k2
 have oJ:=After.cell m0
 have oK:=After.cell m1
 have oL:=After.cell m2
 have hne:=After.ne w3
 go_wp2_with fail
 refine au (by kernel_rfl) (by kernel_rfl) ?_
 repeat(first | go_big_quiet_skip |(go_big_quiet_want;go_big_quiet_op;first | go_big_quiet_on | go_big_quiet_call (first |(go_at_call 150;refine(fE _).mono ?_;rintro e wq ⟨rfl,hbq⟩;exact⟨rfl,ay (ah (After.b _) hbq)⟩))))
 refine wpQuiet_nil ?_
 rintro _ ⟨n3,rfl⟩
 have hB4:=ah hB3 n3.b
 generalize n3.w=w4 at *
 clear hne n3 eX eH eP eU oJ oK oL kD k0 k1 k2 m0 m1 m2 hB3
 obtain⟨kD,k0,k1,k2,m0,m1,m2⟩:=HR.out _ hB4
 have eX:=After.cell kD
 have eH:=After.cell k0
 have eP:=After.cell k1
 have eU:=After.cell k2
 have oJ:=After.cell m0
 have oK:=After.cell m1
 have oL:=After.cell m2
 have hne:=After.ne w4
 go_wp2_with fail
 refine au (by kernel_rfl) (by kernel_rfl) ?_
 repeat(first | go_big_quiet_skip |(go_big_quiet_want;go_big_quiet_op;first | go_big_quiet_on | go_big_quiet_call (first |(go_at_call 150;refine(fE _).mono ?_;rintro e wq ⟨rfl,hbq⟩;exact⟨rfl,ay (ah (After.b _) hbq)⟩))))
 refine wpQuiet_nil ?_
 rintro _ ⟨n4,rfl⟩
 have jZ:=ah hB4 n4.b
 generalize n4.w=w5 at *
 clear hne n4 eX eH eP eU oJ oK oL kD k0 k1 k2 m0 m1 m2 hB4
 obtain⟨kD,k0,k1,k2,m0,m1,m2⟩:=HR.out _ jZ
 have eX:=After.cell kD
 have eH:=After.cell k0
 have eP:=After.cell k1
 have eU:=After.cell k2
 have oJ:=After.cell m0
 have oK:=After.cell m1
 have oL:=After.cell m2
 have hne:=After.ne w5
 go_wp2_with fail
 refine au (by kernel_rfl) (by kernel_rfl) ?_
 repeat(first | go_big_quiet_skip |(go_big_quiet_want;go_big_quiet_op;first | go_big_quiet_on | go_big_quiet_call (first |(go_at_call 150;refine(fE _).mono ?_;rintro e wq ⟨rfl,hbq⟩;exact⟨rfl,ay (ah (After.b _) hbq)⟩))))
 refine wpQuiet_nil ?_
 rintro _ ⟨n5,rfl⟩
 have jL:=ah jZ n5.b
 generalize n5.w=w6 at *
 clear hne n5 eX eH eP eU oJ oK oL kD k0 k1 k2 m0 m1 m2 jZ
 obtain⟨kD,k0,k1,k2,m0,m1,m2⟩:=HR.out _ jL
 go_wp2
 go_ret
 exact⟨rfl,jL⟩
theorem NQ(g og p po n c:Nat)(a:Option Addr)(s:Int)(r0:ByteArray)(r1 r2 ow kz:Int)(w:World)(hg:g<w.heap.size)(hp:p<w.heap.size)(_:n<=12)(hD:w.cell? ⟨g,og,none⟩=some (.slice a n c))
  (hr0:w.cell? ⟨p,po,none⟩=some (.string r0)) (hr1:w.cell? ⟨p,po+1,none⟩=some (.int .i64 r1)) (hr2:w.cell? ⟨p,po+2,none⟩=some (.int .i64 r2)) (hs:inB s 0 999=true)
  (hvn:(r1 != 1)=true)
  (hK:∀w',Calls Tryz.prog 104 #[.string r0] w' fun e w''=>e = .returned (.int .i64 kz)/\Below w'.heap.size w' w'') (hA:∀w',Below w.heap.size w w'->Calls Tryz.prog 149 #[.pointer (some ⟨g,og,none⟩),.int .i64 kz] w' fun e w''=>e = .returned (.int .i64 (-1))/\Below w'.heap.size w' w'') (_:∀w',Calls Tryz.prog 150 #[.int .i64 s] w' fun e w''=>e = .returned (.int .i64 ow)/\Below w'.heap.size w' w'') :
  Calls Tryz.prog 110 #[.pointer (some ⟨g,og,none⟩),.pointer (some ⟨p,po,none⟩),.int .i64 s] w fun e w'=>e = .returned (.int .i64 7)/\Below w.heap.size w w':=by
 have hI:=fun w=>aY s 0 999 w
 rw[hs]at hI
 have HR:Hid (∀w',Below w.heap.size w w'->w'.cell? ⟨g,og,none⟩=some (.slice a n c)/\w'.cell? ⟨p,po,none⟩=some (.string r0)/\w'.cell? ⟨p,po+1,none⟩=some (.int .i64 r1)/\w'.cell? ⟨p,po+2,none⟩=some (.int .i64 r2)):=fun w' h=>⟨(h.cell (p:=⟨g,og,none⟩) hg).trans hD,(h.cell (p:=⟨p,po,none⟩) hp).trans hr0,(h.cell (p:=⟨p,po+1,none⟩) hp).trans hr1,(h.cell (p:=⟨p,po+2,none⟩) hp).trans hr2⟩
 clear hs hD hr1 hr2
 go_enter Tryz.func110,Tryz.ntmps110
 go_wp2_with fail
 refine(hI _).mono ?_
 rintro e w0 ⟨rfl,rfl⟩
 clear hI
 go_wp2_with fail
 refine(hK _).mono ?_
 rintro e w1 ⟨rfl,hb1⟩
 clear hK hr0
 go_wp2_with fail
 refine(hA _ hb1).mono ?_
 rintro e w2 ⟨rfl,hb2⟩
 have hB2:=ah hb1 hb2
 clear hA hb1 hb2
 obtain⟨kD,k0,k1,k2⟩:=HR.out _ hB2
 have eX:=After.cell kD
 have eH:=After.cell k0
 have eP:=After.cell k1
 have eU:=After.cell k2
 have hne:=After.ne w2
 go_wp2_with fail
 refine au (by kernel_rfl) (by kernel_rfl) ?_
 repeat(first | go_big_quiet_skip |(go_big_quiet_want;go_big_quiet_op;first | go_big_quiet_on | go_big_quiet_call (first |(go_at_call 150;refine(fE _).mono ?_;rintro e wq ⟨rfl,hbq⟩;exact⟨rfl,ay (ah (After.b _) hbq)⟩))))
 refine wpQuiet_nil ?_
 rintro _ ⟨n2,rfl⟩
 have hB3:=ah hB2 n2.b
 generalize n2.w=w3 at *
 clear hne n2 eX eH eP eU kD k0 k1 k2 hB2
 obtain⟨kD,k0,k1,k2⟩:=HR.out _ hB3
 have eX:=After.cell kD
 have eH:=After.cell k0
 have eP:=After.cell k1
 have eU:=After.cell k2
 have hne:=After.ne w3
 go_wp2_with fail
 refine au (by kernel_rfl) (by kernel_rfl) ?_
 repeat(first | go_big_quiet_skip |(go_big_quiet_want;go_big_quiet_op;first | go_big_quiet_on | go_big_quiet_call (first |(go_at_call 150;refine(fE _).mono ?_;rintro e wq ⟨rfl,hbq⟩;exact⟨rfl,ay (ah (After.b _) hbq)⟩))))
 refine wpQuiet_nil ?_
 rintro _ ⟨n3,rfl⟩
 have hB4:=ah hB3 n3.b
 generalize n3.w=w4 at *
 clear hne n3 eX eH eP eU kD k0 k1 k2 hB3
 obtain⟨kD,k0,k1,k2⟩:=HR.out _ hB4
 have eX:=After.cell kD
 have eH:=After.cell k0
 have eP:=After.cell k1
 have eU:=After.cell k2
 have hne:=After.ne w4
 go_wp2_with fail
 refine au (by kernel_rfl) (by kernel_rfl) ?_
 repeat(first | go_big_quiet_skip |(go_big_quiet_want;go_big_quiet_op;first | go_big_quiet_on | go_big_quiet_call (first |(go_at_call 150;refine(fE _).mono ?_;rintro e wq ⟨rfl,hbq⟩;exact⟨rfl,ay (ah (After.b _) hbq)⟩))))
 refine wpQuiet_nil ?_
 rintro _ ⟨n4,rfl⟩
 have jZ:=ah hB4 n4.b
 generalize n4.w=w5 at *
 clear hne n4 eX eH eP eU kD k0 k1 k2 hB4
 obtain⟨kD,k0,k1,k2⟩:=HR.out _ jZ
 go_wp2
 go_ret
 exact⟨rfl,jZ⟩
theorem UG(g og p po n c:Nat)(a:Option Addr)(s:Int)(r0:ByteArray)(r1 r2 ow kz:Int)(w:World)(hg:g<w.heap.size)(hp:p<w.heap.size)(_:n<=12)(hD:w.cell? ⟨g,og,none⟩=some (.slice a n c))
  (hr0:w.cell? ⟨p,po,none⟩=some (.string r0)) (hr1:w.cell? ⟨p,po+1,none⟩=some (.int .i64 r1)) (hr2:w.cell? ⟨p,po+2,none⟩=some (.int .i64 r2)) (hs:inB s 0 999=true)
  (hvn:(r1 != 1)=false) (ho:(r2 != ow)=true)
  (hK:∀w',Calls Tryz.prog 104 #[.string r0] w' fun e w''=>e = .returned (.int .i64 kz)/\Below w'.heap.size w' w'') (hA:∀w',Below w.heap.size w w'->Calls Tryz.prog 149 #[.pointer (some ⟨g,og,none⟩),.int .i64 kz] w' fun e w''=>e = .returned (.int .i64 (-1))/\Below w'.heap.size w' w'') (fE:∀w',Calls Tryz.prog 150 #[.int .i64 s] w' fun e w''=>e = .returned (.int .i64 ow)/\Below w'.heap.size w' w'') :
  Calls Tryz.prog 110 #[.pointer (some ⟨g,og,none⟩),.pointer (some ⟨p,po,none⟩),.int .i64 s] w fun e w'=>e = .returned (.int .i64 8)/\Below w.heap.size w w':=by
 have hI:=fun w=>aY s 0 999 w
 rw[hs]at hI
 have HR:Hid (∀w',Below w.heap.size w w'->w'.cell? ⟨g,og,none⟩=some (.slice a n c)/\w'.cell? ⟨p,po,none⟩=some (.string r0)/\w'.cell? ⟨p,po+1,none⟩=some (.int .i64 r1)/\w'.cell? ⟨p,po+2,none⟩=some (.int .i64 r2)):=fun w' h=>⟨(h.cell (p:=⟨g,og,none⟩) hg).trans hD,(h.cell (p:=⟨p,po,none⟩) hp).trans hr0,(h.cell (p:=⟨p,po+1,none⟩) hp).trans hr1,(h.cell (p:=⟨p,po+2,none⟩) hp).trans hr2⟩
 clear hs hD hr1 hr2
 go_enter Tryz.func110,Tryz.ntmps110
 go_wp2_with fail
 refine(hI _).mono ?_
 rintro e w0 ⟨rfl,rfl⟩
 clear hI
 go_wp2_with fail
 refine(hK _).mono ?_
 rintro e w1 ⟨rfl,hb1⟩
 clear hK hr0
 go_wp2_with fail
 refine(hA _ hb1).mono ?_
 rintro e w2 ⟨rfl,hb2⟩
 have hB2:=ah hb1 hb2
 clear hA hb1 hb2
 obtain⟨kD,k0,k1,k2⟩:=HR.out _ hB2
 have eX:=After.cell kD
 have eH:=After.cell k0
 have eP:=After.cell k1
 have eU:=After.cell k2
 have hne:=After.ne w2
 go_wp2_with fail
 refine au (by kernel_rfl) (by kernel_rfl) ?_
 repeat(first | go_big_quiet_skip |(go_big_quiet_want;go_big_quiet_op;first | go_big_quiet_on | go_big_quiet_call (first |(go_at_call 150;refine(fE _).mono ?_;rintro e wq ⟨rfl,hbq⟩;exact⟨rfl,ay (ah (After.b _) hbq)⟩))))
 refine wpQuiet_nil ?_
 rintro _ ⟨n2,rfl⟩
 have hB3:=ah hB2 n2.b
 generalize n2.w=w3 at *
 clear hne n2 eX eH eP eU kD k0 k1 k2 hB2
 obtain⟨kD,k0,k1,k2⟩:=HR.out _ hB3
 have eX:=After.cell kD
 have eH:=After.cell k0
 have eP:=After.cell k1
 have eU:=After.cell k2
 have hne:=After.ne w3
 go_wp2_with fail
 refine au (by kernel_rfl) (by kernel_rfl) ?_
 repeat(first | go_big_quiet_skip |(go_big_quiet_want;go_big_quiet_op;first | go_big_quiet_on | go_big_quiet_call (first |(go_at_call 150;refine(fE _).mono ?_;rintro e wq ⟨rfl,hbq⟩;exact⟨rfl,ay (ah (After.b _) hbq)⟩))))
 refine wpQuiet_nil ?_
 rintro _ ⟨n3,rfl⟩
 have hB4:=ah hB3 n3.b
 generalize n3.w=w4 at *
 clear hne n3 eX eH eP eU kD k0 k1 k2 hB3
 obtain⟨kD,k0,k1,k2⟩:=HR.out _ hB4
 have eX:=After.cell kD
 have eH:=After.cell k0
 have eP:=After.cell k1
 have eU:=After.cell k2
 have hne:=After.ne w4
 go_wp2_with fail
 refine au (by kernel_rfl) (by kernel_rfl) ?_
 repeat(first | go_big_quiet_skip |(go_big_quiet_want;go_big_quiet_op;first | go_big_quiet_on | go_big_quiet_call (first |(go_at_call 150;refine(fE _).mono ?_;rintro e wq ⟨rfl,hbq⟩;exact⟨rfl,ay (ah (After.b _) hbq)⟩))))
 refine wpQuiet_nil ?_
 rintro _ ⟨n4,rfl⟩
 have jZ:=ah hB4 n4.b
 generalize n4.w=w5 at *
 clear hne n4 eX eH eP eU kD k0 k1 k2 hB4
 obtain⟨kD,k0,k1,k2⟩:=HR.out _ jZ
 have eX:=After.cell kD
 have eH:=After.cell k0
 have eP:=After.cell k1
 have eU:=After.cell k2
 have hne:=After.ne w5
 go_wp2_with fail
 refine au (by kernel_rfl) (by kernel_rfl) ?_
 repeat(first | go_big_quiet_skip |(go_big_quiet_want;go_big_quiet_op;first | go_big_quiet_on | go_big_quiet_call (first |(go_at_call 150;refine(fE _).mono ?_;rintro e wq ⟨rfl,hbq⟩;exact⟨rfl,ay (ah (After.b _) hbq)⟩))))
 refine wpQuiet_nil ?_
 rintro _ ⟨n5,rfl⟩
 have jL:=ah jZ n5.b
 generalize n5.w=w6 at *
 clear hne n5 eX eH eP eU kD k0 k1 k2 jZ
 obtain⟨kD,k0,k1,k2⟩:=HR.out _ jL
 go_wp2
 go_ret
 exact⟨rfl,jL⟩
theorem Rl(g og p po n c:Nat)(a:Option Addr)(s:Int)(r0:ByteArray)(r1 r2 ow kz:Int)(w:World)(hg:g<w.heap.size)(hp:p<w.heap.size)(hn:n<=12)(hD:w.cell? ⟨g,og,none⟩=some (.slice a n c))
  (hr0:w.cell? ⟨p,po,none⟩=some (.string r0)) (hr1:w.cell? ⟨p,po+1,none⟩=some (.int .i64 r1)) (hr2:w.cell? ⟨p,po+2,none⟩=some (.int .i64 r2)) (hs:inB s 0 999=true)
  (hvn:(r1 != 1)=false) (ho:(r2 != ow)=false) (hf:12<=n)
  (hK:∀w',Calls Tryz.prog 104 #[.string r0] w' fun e w''=>e = .returned (.int .i64 kz)/\Below w'.heap.size w' w'') (hA:∀w',Below w.heap.size w w'->Calls Tryz.prog 149 #[.pointer (some ⟨g,og,none⟩),.int .i64 kz] w' fun e w''=>e = .returned (.int .i64 (-1))/\Below w'.heap.size w' w'') (fE:∀w',Calls Tryz.prog 150 #[.int .i64 s] w' fun e w''=>e = .returned (.int .i64 ow)/\Below w'.heap.size w' w'') :
  Calls Tryz.prog 110 #[.pointer (some ⟨g,og,none⟩),.pointer (some ⟨p,po,none⟩),.int .i64 s] w fun e w'=>e = .returned (.int .i64 11)/\Below w.heap.size w w':=by
 have hI:=fun w=>aY s 0 999 w
 rw[hs]at hI
 have HR:Hid (∀w',Below w.heap.size w w'->w'.cell? ⟨g,og,none⟩=some (.slice a n c)/\w'.cell? ⟨p,po,none⟩=some (.string r0)/\w'.cell? ⟨p,po+1,none⟩=some (.int .i64 r1)/\w'.cell? ⟨p,po+2,none⟩=some (.int .i64 r2)):=fun w' h=>⟨(h.cell (p:=⟨g,og,none⟩) hg).trans hD,(h.cell (p:=⟨p,po,none⟩) hp).trans hr0,(h.cell (p:=⟨p,po+1,none⟩) hp).trans hr1,(h.cell (p:=⟨p,po+2,none⟩) hp).trans hr2⟩
 clear hs hD hr1 hr2
 go_enter Tryz.func110,Tryz.ntmps110
 go_wp2_with fail
 refine(hI _).mono ?_
 rintro e w0 ⟨rfl,rfl⟩
 clear hI
 go_wp2_with fail
 refine(hK _).mono ?_
 rintro e w1 ⟨rfl,hb1⟩
 clear hK hr0
 go_wp2_with fail
 refine(hA _ hb1).mono ?_
 rintro e w2 ⟨rfl,hb2⟩
 have hB2:=ah hb1 hb2
 clear hA hb1 hb2
 obtain⟨kD,k0,k1,k2⟩:=HR.out _ hB2
 have eX:=After.cell kD
 have eH:=After.cell k0
 have eP:=After.cell k1
 have eU:=After.cell k2
 have hne:=After.ne w2
 go_wp2_with fail
 refine au (by kernel_rfl) (by kernel_rfl) ?_
 repeat(first | go_big_quiet_skip |(go_big_quiet_want;go_big_quiet_op;first | go_big_quiet_on | go_big_quiet_call (first |(go_at_call 150;refine(fE _).mono ?_;rintro e wq ⟨rfl,hbq⟩;exact⟨rfl,ay (ah (After.b _) hbq)⟩))))
 refine wpQuiet_nil ?_
 rintro _ ⟨n2,rfl⟩
 have hB3:=ah hB2 n2.b
 generalize n2.w=w3 at *
 clear hne n2 eX eH eP eU kD k0 k1 k2 hB2
 obtain⟨kD,k0,k1,k2⟩:=HR.out _ hB3
 have eX:=After.cell kD
 have eH:=After.cell k0
 have eP:=After.cell k1
 have eU:=After.cell k2
 have hne:=After.ne w3
 go_wp2_with fail
 refine au (by kernel_rfl) (by kernel_rfl) ?_
 repeat(first | go_big_quiet_skip |(go_big_quiet_want;go_big_quiet_op;first | go_big_quiet_on | go_big_quiet_call (first |(go_at_call 150;refine(fE _).mono ?_;rintro e wq ⟨rfl,hbq⟩;exact⟨rfl,ay (ah (After.b _) hbq)⟩))))
 refine wpQuiet_nil ?_
 rintro _ ⟨n3,rfl⟩
 have hB4:=ah hB3 n3.b
 generalize n3.w=w4 at *
 clear hne n3 eX eH eP eU kD k0 k1 k2 hB3
 obtain⟨kD,k0,k1,k2⟩:=HR.out _ hB4
 have eX:=After.cell kD
 have eH:=After.cell k0
 have eP:=After.cell k1
 have eU:=After.cell k2
 have hne:=After.ne w4
 go_wp2_with fail
 refine au (by kernel_rfl) (by kernel_rfl) ?_
 repeat(first | go_big_quiet_skip |(go_big_quiet_want;go_big_quiet_op;first | go_big_quiet_on | go_big_quiet_call (first |(go_at_call 150;refine(fE _).mono ?_;rintro e wq ⟨rfl,hbq⟩;exact⟨rfl,ay (ah (After.b _) hbq)⟩))))
 refine wpQuiet_nil ?_
 rintro _ ⟨n4,rfl⟩
 have jZ:=ah hB4 n4.b
 generalize n4.w=w5 at *
 clear hne n4 eX eH eP eU kD k0 k1 k2 hB4
 obtain⟨kD,k0,k1,k2⟩:=HR.out _ jZ
 have eX:=After.cell kD
 have eH:=After.cell k0
 have eP:=After.cell k1
 have eU:=After.cell k2
 have hne:=After.ne w5
 go_wp2_with fail
 refine au (by kernel_rfl) (by kernel_rfl) ?_
 repeat(first | go_big_quiet_skip |(go_big_quiet_want;go_big_quiet_op;first | go_big_quiet_on | go_big_quiet_call (first |(go_at_call 150;refine(fE _).mono ?_;rintro e wq ⟨rfl,hbq⟩;exact⟨rfl,ay (ah (After.b _) hbq)⟩))))
 refine wpQuiet_nil ?_
 rintro _ ⟨n5,rfl⟩
 have jL:=ah jZ n5.b
 generalize n5.w=w6 at *
 clear hne n5 eX eH eP eU kD k0 k1 k2 jZ
 obtain⟨kD,k0,k1,k2⟩:=HR.out _ jL
 go_wp2
 go_ret
 exact⟨rfl,jL⟩
theorem Rn(g og p po n c:Nat)(a:Option Addr)(s:Int)(r0:ByteArray)(r1 r2 ow kz:Int)(w:World)(hg:g<w.heap.size)(hp:p<w.heap.size)(hn:n<=12)(hD:w.cell? ⟨g,og,none⟩=some (.slice a n c))
  (hr0:w.cell? ⟨p,po,none⟩=some (.string r0)) (hr1:w.cell? ⟨p,po+1,none⟩=some (.int .i64 r1)) (hr2:w.cell? ⟨p,po+2,none⟩=some (.int .i64 r2)) (hs:inB s 0 999=true)
  (hvn:(r1 != 1)=false) (ho:(r2 != ow)=false) (hf:¬ 12<=n)
  (hK:∀w',Calls Tryz.prog 104 #[.string r0] w' fun e w''=>e = .returned (.int .i64 kz)/\Below w'.heap.size w' w'') (hA:∀w',Below w.heap.size w w'->Calls Tryz.prog 149 #[.pointer (some ⟨g,og,none⟩),.int .i64 kz] w' fun e w''=>e = .returned (.int .i64 (-1))/\Below w'.heap.size w' w'') (fE:∀w',Calls Tryz.prog 150 #[.int .i64 s] w' fun e w''=>e = .returned (.int .i64 ow)/\Below w'.heap.size w' w'') :
  Calls Tryz.prog 110 #[.pointer (some ⟨g,og,none⟩),.pointer (some ⟨p,po,none⟩),.int .i64 s] w fun e w'=>e = .returned (.int .i64 0)/\Below w.heap.size w w':=by
 have hI:=fun w=>aY s 0 999 w
 rw[hs]at hI
 have HR:Hid (∀w',Below w.heap.size w w'->w'.cell? ⟨g,og,none⟩=some (.slice a n c)/\w'.cell? ⟨p,po,none⟩=some (.string r0)/\w'.cell? ⟨p,po+1,none⟩=some (.int .i64 r1)/\w'.cell? ⟨p,po+2,none⟩=some (.int .i64 r2)):=fun w' h=>⟨(h.cell (p:=⟨g,og,none⟩) hg).trans hD,(h.cell (p:=⟨p,po,none⟩) hp).trans hr0,(h.cell (p:=⟨p,po+1,none⟩) hp).trans hr1,(h.cell (p:=⟨p,po+2,none⟩) hp).trans hr2⟩
 clear hs hD hr1 hr2
 go_enter Tryz.func110,Tryz.ntmps110
 go_wp2_with fail
 refine(hI _).mono ?_
 rintro e w0 ⟨rfl,rfl⟩
 clear hI
 go_wp2_with fail
 refine(hK _).mono ?_
 rintro e w1 ⟨rfl,hb1⟩
 clear hK hr0
 go_wp2_with fail
 refine(hA _ hb1).mono ?_
 rintro e w2 ⟨rfl,hb2⟩
 have hB2:=ah hb1 hb2
 clear hA hb1 hb2
 obtain⟨kD,k0,k1,k2⟩:=HR.out _ hB2
 have eX:=After.cell kD
 have eH:=After.cell k0
 have eP:=After.cell k1
 have eU:=After.cell k2
 have hne:=After.ne w2
 go_wp2_with fail
 refine au (by kernel_rfl) (by kernel_rfl) ?_
 repeat(first | go_big_quiet_skip |(go_big_quiet_want;go_big_quiet_op;first | go_big_quiet_on | go_big_quiet_call (first |(go_at_call 150;refine(fE _).mono ?_;rintro e wq ⟨rfl,hbq⟩;exact⟨rfl,ay (ah (After.b _) hbq)⟩))))
 refine wpQuiet_nil ?_
 rintro _ ⟨n2,rfl⟩
 have hB3:=ah hB2 n2.b
 generalize n2.w=w3 at *
 clear hne n2 eX eH eP eU kD k0 k1 k2 hB2
 obtain⟨kD,k0,k1,k2⟩:=HR.out _ hB3
 have eX:=After.cell kD
 have eH:=After.cell k0
 have eP:=After.cell k1
 have eU:=After.cell k2
 have hne:=After.ne w3
 go_wp2_with fail
 refine au (by kernel_rfl) (by kernel_rfl) ?_
 repeat(first | go_big_quiet_skip |(go_big_quiet_want;go_big_quiet_op;first | go_big_quiet_on | go_big_quiet_call (first |(go_at_call 150;refine(fE _).mono ?_;rintro e wq ⟨rfl,hbq⟩;exact⟨rfl,ay (ah (After.b _) hbq)⟩))))
 refine wpQuiet_nil ?_
 rintro _ ⟨n3,rfl⟩
 have hB4:=ah hB3 n3.b
 generalize n3.w=w4 at *
 clear hne n3 eX eH eP eU kD k0 k1 k2 hB3
 obtain⟨kD,k0,k1,k2⟩:=HR.out _ hB4
 have eX:=After.cell kD
 have eH:=After.cell k0
 have eP:=After.cell k1
 have eU:=After.cell k2
 have hne:=After.ne w4
 go_wp2_with fail
 refine au (by kernel_rfl) (by kernel_rfl) ?_
 repeat(first | go_big_quiet_skip |(go_big_quiet_want;go_big_quiet_op;first | go_big_quiet_on | go_big_quiet_call (first |(go_at_call 150;refine(fE _).mono ?_;rintro e wq ⟨rfl,hbq⟩;exact⟨rfl,ay (ah (After.b _) hbq)⟩))))
 refine wpQuiet_nil ?_
 rintro _ ⟨n4,rfl⟩
 have jZ:=ah hB4 n4.b
 generalize n4.w=w5 at *
 clear hne n4 eX eH eP eU kD k0 k1 k2 hB4
 obtain⟨kD,k0,k1,k2⟩:=HR.out _ jZ
 have eX:=After.cell kD
 have eH:=After.cell k0
 have eP:=After.cell k1
 have eU:=After.cell k2
 have hne:=After.ne w5
 go_wp2_with fail
 refine au (by kernel_rfl) (by kernel_rfl) ?_
 repeat(first | go_big_quiet_skip |(go_big_quiet_want;go_big_quiet_op;first | go_big_quiet_on | go_big_quiet_call (first |(go_at_call 150;refine(fE _).mono ?_;rintro e wq ⟨rfl,hbq⟩;exact⟨rfl,ay (ah (After.b _) hbq)⟩))))
 refine wpQuiet_nil ?_
 rintro _ ⟨n5,rfl⟩
 have jL:=ah jZ n5.b
 generalize n5.w=w6 at *
 clear hne n5 eX eH eP eU kD k0 k1 k2 jZ
 obtain⟨kD,k0,k1,k2⟩:=HR.out _ jL
 go_wp2
 go_ret
 exact⟨rfl,jL⟩
end U
end Go.Proofs.YtmmcgjacojgeaaaGreat
namespace Go.Proofs.YtmmcgjacojgeaaaGreat
open Go.RowKit Go.Maps
namespace U
end U
end Go.Proofs.YtmmcgjacojgeaaaGreat
namespace Go.Proofs.YtmmcgjacojgeaaaGreat
open Go.RowKit
namespace U
theorem BO(l:Rcl)(r:Rc):∀k,(bD l r k).2.length<=2*k
 | 0=>Nat.le_refl _
 | k+1=>by
  have ih:=BO l r k
  show(if(rAt l k).k=r.k then(if(!(bD l r k).1&&decide (r.k<=(rAt l k).k))=true then(bD l r k).2++[r]else(bD l r k).2)else(if(!(bD l r k).1&&decide (r.k<=(rAt l k).k))=true then(bD l r k).2++[r]else(bD l r k).2)++[rAt l k]).length<=_
  split<;>split<;>(try simp only[List.length_append,List.length_cons,List.length_nil])<;>omega
theorem kT{W w1:World}{n₀ B:Nat}{t e:TypeId}{size:Nat}{v:Value}{k:Nat}{xs:List Value}{tmp:Obj}(hv:Boxed W B t v)(hte:t≠e)(hrow:W.ownsRow n₀ e size v k xs)(hgrow:(W.alloc tmp).grownBy w1 v.ownBlock):Boxed w1 B t v:=(hv.alloc tmp).kept hgrow (hv.not_row hte hrow)
theorem wz{V W w1:World}{row:Option Nat}(h:V.grownBy w1 row)(e1:V.os=W.os)(e2:V.tape=W.tape)(e3:V.output=W.output)(e4:V.heap=W.heap):W.grownBy w1 row:=⟨h.os.trans e1,h.tape.trans e2,h.output.trans e3,by rw[←e4];exact h.size,fun i hi hr=>by rw[←e4]at hi ⊢;exact h.block i hi hr⟩
theorem Vj(l:Rcl)(r:Rc)(k:Nat):bD l r (k+1)=((bD l r k).1||decide (r.k<=(rAt l k).k),if(rAt l k).k=r.k then(if(!(bD l r k).1&&decide (r.k<=(rAt l k).k))=true then(bD l r k).2++[r]else(bD l r k).2)else(if(!(bD l r k).1&&decide (r.k<=(rAt l k).k))=true then(bD l r k).2++[r]else(bD l r k).2)++[rAt l k]):=rfl
theorem Ro(g og b off c n:Nat)(av:Option Addr)(l:Rcl)(r0:ByteArray)(r1 r2 r3:Int)(w:World)(hn:n<=12)(hg:g<w.heap.size)(hav:0<n->av=some ⟨b,off,none⟩/\b<w.heap.size)(hsm:∀j,j<n->(rAt l j).l.size<=12)(hrs:r0.size<=12)
  (hD:w.cell? ⟨g,og,none⟩=some (.slice av n c)) (hc:∀j,j<n->dV w b (off+j*4) (rAt l j)) :
  Calls Tryz.prog 111 #[.pointer (some ⟨g,og,none⟩),.agg #[.string r0,.int .i64 r1,.int .i64 r2,.int .i64 r3]] w fun e w'=>∃a m c,e = .returned (.agg #[.slice a m c])/\Below w.heap.size w w'/\w'.ownsRow w.heap.size 46 4 (.slice a m c) m (flR (if(bD l ⟨r0,r1,r2,r3⟩ n).1=true then(bD l ⟨r0,r1,r2,r3⟩ n).2 else(bD l ⟨r0,r1,r2,r3⟩ n).2++[⟨r0,r1,r2,r3⟩])):=by
 obtain⟨i0,hi,hz0,hz1,hz2⟩:=info_parts Tryz.vO
 obtain⟨r,hr⟩:∃r:Rc,r=⟨r0,r1,r2,r3⟩:=⟨_,rfl⟩
 have HR0:Hid (r=⟨r0,r1,r2,r3⟩):=hr
 rw[←hr]
 obtain⟨RL,hRL⟩:∃RL,RL=if(bD l r n).1=true then(bD l r n).2 else(bD l r n).2++[r]:=⟨_,rfl⟩
 have HRL:Hid (RL=if(bD l r n).1=true then(bD l r n).2 else(bD l r n).2++[r]):=hRL
 rw[←hRL]
 clear hRL
 have hKr:=fun w=>lS r0 w hrs
 have e0:aZ r0=r.k:=by rw[hr];rfl
 rw[e0]at hKr
 clear hr e0
 obtain⟨W,hW⟩:∃W,W=((w.alloc (.cells #[.string r0,.int .i64 r1,.int .i64 r2,.int .i64 r3] 46)).alloc (.cells #[.slice none 0 0] 36)).alloc (.cells #[.slice none 0 0] 36):=⟨_,rfl⟩
 have HW:Hid _:=hW.symm
 have hB:Below w.heap.size w W:=by rw[hW];exact((aj _).alloc (aj _).size _).alloc ((aj _).alloc (aj _).size _).size _
 have q2:Boxed W (w.heap.size+1+1) 36 (.slice none 0 0):=by
  have h2:=heap_alloc_new ((w.alloc (.cells #[.string r0,.int .i64 r1,.int .i64 r2,.int .i64 r3] 46)).alloc (.cells #[.slice none 0 0] 36)) (.cells #[.slice none 0 0] 36)
  simp only[World.size_alloc]at h2
  rw[hW]
  exact h2
 have q1:Boxed W (w.heap.size+1) 36 (.slice none 0 0):=by
  have h1:=heap_alloc_new (w.alloc (.cells #[.string r0,.int .i64 r1,.int .i64 r2,.int .i64 r3] 46)) (.cells #[.slice none 0 0] 36)
  simp only[World.size_alloc]at h1
  rw[hW]
  exact((aj _).block (w.heap.size+1) (by simp)).trans h1
 have q0:W.heap[w.heap.size]? = some (.cells #[.string r0,.int .i64 r1,.int .i64 r2,.int .i64 r3] 46):=by
  rw[hW]
  exact((aj _).block w.heap.size (by simp;omega)).trans (heap_alloc_old' _ _ _ (heap_alloc_new w _))
 clear hW
 go_enter Tryz.func111,Tryz.ntmps111
 go_wp2_with fail
 rw[HW.out]
 refine(hKr _).mono ?_
 rintro e w1 ⟨rfl,hb1⟩
 have q2:Boxed w1 (w.heap.size+1+1) 36 (.slice none 0 0):=(hb1.block _ q2.lt).trans q2
 have q1:Boxed w1 (w.heap.size+1) 36 (.slice none 0 0):=(hb1.block _ q1.lt).trans q1
 have q0:=(hb1.block _ (Array.getElem?_eq_some_iff.1 q0).1).trans q0
 have hBW:=ah hB hb1
 have HD:Hid (∀w',Below (w.heap.size+1+1) w1 w'->w'.cell? ⟨g,og,none⟩=some (.slice av n c)):=fun w' h=>(h.cell (p:=⟨g,og,none⟩) (by show g<w.heap.size+1+1;omega)).trans ((hBW.cell (p:=⟨g,og,none⟩) hg).trans hD)
 have HX:Hid (∀j w',j<n->Below (w.heap.size+1+1) w1 w'->dV w' b (off+j*4) (rAt l j)):=fun j w' hj h=>((hc j hj).below hBW (hav (by omega)).2).below h (by have:=(hav (by omega)).2;omega)
 have OC:Hid (∀w',Below (w.heap.size+1+1) w1 w'->w'.cell? ⟨w.heap.size,0,none⟩=some (.string r0)/\w'.cell? ⟨w.heap.size,1,none⟩=some (.int .i64 r1)/\w'.cell? ⟨w.heap.size,2,none⟩=some (.int .i64 r2)/\w'.cell? ⟨w.heap.size,3,none⟩=some (.int .i64 r3)):=fun w' h=>bT ((h.block _ (by omega)).trans q0)
 have HZ1:Hid (∀w',Below (w.heap.size+1+1) w1 w'->Boxed w' (w.heap.size+1) 36 (.slice none 0 0)):=fun w' h=>(h.block _ (by omega)).trans q1
 have hzw:w.heap.size+1+1<w1.heap.size:=q2.lt
 clear hKr hb1 hB q0 q1 hc hD
 go_wp2
 go_loopw [6,8] (fun d i wr=>∃k:Nat,k<=n/\i = .int .i64 k/\d = .bool (bD l r k).1/\Hid (Below (w.heap.size+1+1) w1 wr)/\Hid (w1.heap.size<=wr.heap.size)/\Hid (∃a c,Boxed wr (w.heap.size+1+1) 36 (.slice a (bD l r k).2.length c)/\wr.ownsRow w1.heap.size 46 4 (.slice a (bD l r k).2.length c) (bD l r k).2.length (flR (bD l r k).2))) (fun _ i _=>n - (intOf i).toNat)
 case atStart=>exact⟨0,Nat.zero_le _,rfl,rfl,Below.refl _ _,Nat.le_refl _,⟨none,0,q2,World.ownsRow_nil _ _ _ _⟩⟩
 case round=>
  obtain⟨k,hk,rfl,rfl,hB,hzr,ho⟩:=hrel
  obtain⟨a,cr,hbx,hrow⟩:=ho.out
  have DW:=HD.out _ hB.out
  have hcx:=hbx.cell
  have hml:=BO l r k
  obtain⟨PL,PN,PO,PS⟩:=OC.out _ hB.out
  have JQ:=hzr.out
  by_cases hkn:k<n
  ·have hki:(k:Int)<(n:Int):=by omega
   obtain⟨adO,hb⟩:=hav (by omega)
   subst adO
   have hK:=fun w=>lS (rAt l k).l w (hsm k hkn)
   have e2:aZ (rAt l k).l=(rAt l k).k:=rfl
   rw[e2]at hK
   have SX:Hid (∀w',Below (w.heap.size+1+1) w1 w'->dV w' b (off+k*4) (rAt l k)):=fun w' h=>HX.out k w' hkn h
   have HST:=Vj l r k
   have HS:Hid (bD l r (k+1)=((bD l r k).1||decide (r.k<=(rAt l k).k),if(rAt l k).k=r.k then(if(!(bD l r k).1&&decide (r.k<=(rAt l k).k))=true then(bD l r k).2++[r]else(bD l r k).2)else(if(!(bD l r k).1&&decide (r.k<=(rAt l k).k))=true then(bD l r k).2++[r]else(bD l r k).2)++[rAt l k])):=HST
   generalize rAt l k=x at *
   obtain⟨x0,x1,x2,x3⟩:=x
   generalize hxk:Rc.k ⟨x0,x1,x2,x3⟩=xk at *
   have IU:Hid (∀w',Below (w.heap.size+1+1) w1 w'->w'.cell? ⟨b,off+k*4,none⟩=some (.string x0)/\w'.cell? ⟨b,off+k*4+1,none⟩=some (.int .i64 x1)/\w'.cell? ⟨b,off+k*4+2,none⟩=some (.int .i64 x2)/\w'.cell? ⟨b,off+k*4+3,none⟩=some (.int .i64 x3)):=fun w' h=>⟨(SX.out _ h).c0,(SX.out _ h).c1,(SX.out _ h).c2,(SX.out _ h).c3⟩
   obtain⟨P7,-,-,-⟩:=IU.out _ hB.out
   dsimp only at hK
   generalize (bD l r k).1=d at *
   generalize (bD l r k).2=o at *
   generalize hrk:r.k=rk at *
   have nP:Hid (Boxed wr (w.heap.size+1+1) 36 (.slice a o.length cr)):=hbx
   have oO:Hid (wr.ownsRow w1.heap.size 46 4 (.slice a o.length cr) o.length (flR o)):=hrow
   clear HST e2 hxk hrk SX hbx hrow ho HX
   cases d
   ·by_cases hge:rk<=xk
    ·have hdl:decide (rk<=xk)=true:=by simpa using hge
     by_cases hxr:xk=rk
     ·have hxn:(xk != rk)=false:=by simpa using hxr
      have HQ:Hid (bD l r (k+1)=(true,o++[r])):=(by rw[HS.out];simp[hxr]:bD l r (k+1)=(true,o++[r]))
      go_wp2_with fail
      refine(hK _).mono ?_
      rintro e w2 ⟨rfl,hb2⟩
      have hB2:Below (w.heap.size+1+1) w1 w2:=hB.out.trans (hb2.mono (by omega))
      have kE:Hid (Boxed w2 (w.heap.size+1+1) 36 (.slice a o.length cr)):=(hb2.block _ nP.out.lt).trans nP.out
      have iD:Hid (w2.ownsRow w1.heap.size 46 4 (.slice a o.length cr) o.length (flR o)):=own_below oO.out hb2
      have JR:w1.heap.size<=w2.heap.size:=Nat.le_trans JQ hb2.size
      have Jq:=HD.out _ hB2
      have JC:=kE.out.cell
      obtain⟨PL,PN,PO,PS⟩:=OC.out _ hB2
      obtain⟨P7,Vz,VA,VB⟩:=IU.out _ hB2
      have hlt2:w.heap.size+1+1<w2.heap.size:=by omega
      clear hK hb2 nP oO hcx DW
      go_wp2_with (at_builtin;refine wpList_append_own _ rfl _ _ 34 rfl w1.heap.size 46 i0 (.agg #[.string ⟨#[]⟩,.int .i64 0,.int .i64 0,.int .i64 0]) 4 40 Tryz.underlying34 hi hz0 hz1 hz2 rfl (by decide) _ _ _ rfl (iD.out.alloc _) ⟨w2.heap.size,0,none⟩ 1 1 [.string r0,.int .i64 r1,.int .i64 r2,.int .i64 r3] rfl rfl (World.news_of_block (heap_alloc_new _ _)) (by simp[Value.oneCell']) (by unfold maxLen;omega) (by omega) (by simp;omega) ?_;intro v' kC hown1 hgrow1 hnil1;obtain⟨g1,p1,rfl⟩:=ownsRow_succ hown1;obtain⟨sS,yX,JL,JJ,yQ⟩:=kE.out.appended (by decide) (aP iD.out (by omega:w.heap.size+1+1<=w1.heap.size)) (by omega) (Nat.le_refl _) (aP hown1 (by omega:w.heap.size+1+1<=w1.heap.size)) hgrow1;have QC:=sS.cell;have QE:=sS.frozen;have xY:Hid (kC.ownsRow w1.heap.size 46 4 (.slice (some ⟨g1,0,none⟩) (o.length+1) p1) (o.length+1) (flR o++[.string r0,.int .i64 r1,.int .i64 r2,.int .i64 r3])):=hown1;have EZ:Hid (Boxed (kC.setCell ⟨w.heap.size+1+1,0,none⟩ (.slice (some ⟨g1,0,none⟩) (o.length+1) p1)) (w.heap.size+1+1) 36 (.slice (some ⟨g1,0,none⟩) (o.length+1) p1)):=yX;have xW:Hid (Below (w.heap.size+1+1) w2 (kC.setCell ⟨w.heap.size+1+1,0,none⟩ (.slice (some ⟨g1,0,none⟩) (o.length+1) p1))):=yQ;have VH:Hid (w2.heap.size<=kC.heap.size):=Nat.le_trans (by simp) hgrow1.size;clear hgrow1 hnil1 hown1 JL JJ yX yQ)
      have Gz:Below (w.heap.size+1+1) w1 (kC.setCell ⟨w.heap.size+1+1,0,none⟩ (.slice (some ⟨g1,0,none⟩) (o.length+1) p1)):=hB2.trans xW.out
      have oP:Hid ((kC.setCell ⟨w.heap.size+1+1,0,none⟩ (.slice (some ⟨g1,0,none⟩) (o.length+1) p1)).ownsRow w1.heap.size 46 4 (.slice (some ⟨g1,0,none⟩) (o.length+1) p1) (o.length+1) (flR (o++[r]))):=(by rw[pF,HR0.out];exact ownsRow_setCell_below xY.out (by show w.heap.size+1+1<w1.heap.size;omega) _:(kC.setCell ⟨w.heap.size+1+1,0,none⟩ (.slice (some ⟨g1,0,none⟩) (o.length+1) p1)).ownsRow w1.heap.size 46 4 (.slice (some ⟨g1,0,none⟩) (o.length+1) p1) (o.length+1) (flR (o++[r])))
      have HZE:Hid (w1.heap.size<=(kC.setCell ⟨w.heap.size+1+1,0,none⟩ (.slice (some ⟨g1,0,none⟩) (o.length+1) p1)).heap.size):=Gz.size
      clear QC QE xW xY sS
      go_wp2
      go_roundw
      case rel=>exact⟨k+1,by omega,by go_num,by rw[HQ.out],Gz,HZE,⟨_,_,by rw[HQ.out,List.length_append];exact EZ.out,by rw[HQ.out,List.length_append];exact oP.out⟩⟩
      case measure=>simp[intOf];omega
     ·have hxn:(xk != rk)=true:=by simpa using hxr
      have HQ:Hid (bD l r (k+1)=(true,(o++[r])++[⟨x0,x1,x2,x3⟩])):=(by rw[HS.out];simp[hdl,hxr]:bD l r (k+1)=(true,(o++[r])++[⟨x0,x1,x2,x3⟩]))
      go_wp2_with fail
      refine(hK _).mono ?_
      rintro e w2 ⟨rfl,hb2⟩
      have hB2:Below (w.heap.size+1+1) w1 w2:=hB.out.trans (hb2.mono (by omega))
      have kE:Hid (Boxed w2 (w.heap.size+1+1) 36 (.slice a o.length cr)):=(hb2.block _ nP.out.lt).trans nP.out
      have iD:Hid (w2.ownsRow w1.heap.size 46 4 (.slice a o.length cr) o.length (flR o)):=own_below oO.out hb2
      have JR:w1.heap.size<=w2.heap.size:=Nat.le_trans JQ hb2.size
      have Jq:=HD.out _ hB2
      have JC:=kE.out.cell
      obtain⟨PL,PN,PO,PS⟩:=OC.out _ hB2
      obtain⟨P7,Vz,VA,VB⟩:=IU.out _ hB2
      have hlt2:w.heap.size+1+1<w2.heap.size:=by omega
      clear hK hb2 nP oO hcx DW
      go_wp2_with (at_builtin;refine wpList_append_own _ rfl _ _ 34 rfl w1.heap.size 46 i0 (.agg #[.string ⟨#[]⟩,.int .i64 0,.int .i64 0,.int .i64 0]) 4 40 Tryz.underlying34 hi hz0 hz1 hz2 rfl (by decide) _ _ _ rfl (iD.out.alloc _) ⟨w2.heap.size,0,none⟩ 1 1 [.string r0,.int .i64 r1,.int .i64 r2,.int .i64 r3] rfl rfl (World.news_of_block (heap_alloc_new _ _)) (by simp[Value.oneCell']) (by unfold maxLen;omega) (by omega) (by simp;omega) ?_;intro v' kC hown1 hgrow1 hnil1;obtain⟨g1,p1,rfl⟩:=ownsRow_succ hown1;obtain⟨sS,yX,JL,JJ,yQ⟩:=kE.out.appended (by decide) (aP iD.out (by omega:w.heap.size+1+1<=w1.heap.size)) (by omega) (Nat.le_refl _) (aP hown1 (by omega:w.heap.size+1+1<=w1.heap.size)) hgrow1;have QC:=sS.cell;have QE:=sS.frozen;have xY:Hid (kC.ownsRow w1.heap.size 46 4 (.slice (some ⟨g1,0,none⟩) (o.length+1) p1) (o.length+1) (flR o++[.string r0,.int .i64 r1,.int .i64 r2,.int .i64 r3])):=hown1;have EZ:Hid (Boxed (kC.setCell ⟨w.heap.size+1+1,0,none⟩ (.slice (some ⟨g1,0,none⟩) (o.length+1) p1)) (w.heap.size+1+1) 36 (.slice (some ⟨g1,0,none⟩) (o.length+1) p1)):=yX;have xW:Hid (Below (w.heap.size+1+1) w2 (kC.setCell ⟨w.heap.size+1+1,0,none⟩ (.slice (some ⟨g1,0,none⟩) (o.length+1) p1))):=yQ;have VH:Hid (w2.heap.size<=kC.heap.size):=Nat.le_trans (by simp) hgrow1.size;clear hgrow1 hnil1 hown1 JL JJ yX yQ)
      have Gz:Below (w.heap.size+1+1) w1 (kC.setCell ⟨w.heap.size+1+1,0,none⟩ (.slice (some ⟨g1,0,none⟩) (o.length+1) p1)):=hB2.trans xW.out
      have oP:Hid ((kC.setCell ⟨w.heap.size+1+1,0,none⟩ (.slice (some ⟨g1,0,none⟩) (o.length+1) p1)).ownsRow w1.heap.size 46 4 (.slice (some ⟨g1,0,none⟩) (o.length+1) p1) (o.length+1) (flR (o++[r]))):=(by rw[pF,HR0.out];exact ownsRow_setCell_below xY.out (by show w.heap.size+1+1<w1.heap.size;omega) _:(kC.setCell ⟨w.heap.size+1+1,0,none⟩ (.slice (some ⟨g1,0,none⟩) (o.length+1) p1)).ownsRow w1.heap.size 46 4 (.slice (some ⟨g1,0,none⟩) (o.length+1) p1) (o.length+1) (flR (o++[r])))
      have iW:Hid (Boxed (kC.setCell ⟨w.heap.size+1+1,0,none⟩ (.slice (some ⟨g1,0,none⟩) (o.length+1) p1)) (w.heap.size+1+1) 36 (.slice (some ⟨g1,0,none⟩) (o.length+1) p1)):=EZ.out
      obtain⟨E,hE⟩:∃E,E=kC.setCell ⟨w.heap.size+1+1,0,none⟩ (.slice (some ⟨g1,0,none⟩) (o.length+1) p1):=⟨_,rfl⟩
      rw[←hE]at Gz oP iW ⊢
      have ahg:=HD.out _ Gz
      have ahm:=iW.out.cell
      have ahx:w1.heap.size<=E.heap.size:=Gz.size
      obtain⟨ex0,ex1,ex2,ex3⟩:=IU.out _ Gz
      have aht:w.heap.size+1+1<E.heap.size:=by omega
      clear QC QE xW xY sS EZ hE kE iD JC Jq PL PN PO PS P7 Vz VA VB hB2 hlt2 VH
      try go_wp2_with fail
      go_region_law (first
       |(refine jF (by rfl) _ _ _ (by rfl) w1.heap.size 46 i0 (.agg #[.string ⟨#[]⟩,.int .i64 0,.int .i64 0,.int .i64 0]) 4 40 Tryz.underlying34 hi hz0 hz1 hz2 rfl (by decide) (.slice (some ⟨g1,0,none⟩) (o.length+1) p1) (o.length+1) (flR (o++[r])) (by rfl) (by first | exact oP.out.alloc _ | exact(oP.out.alloc _).drew | exact((oP.out.alloc _).drew).drew | exact(oP.out.drew.alloc _)|exact(oP.out.drew.alloc _).drew) ⟨E.heap.size,0,none⟩ 1 [.string x0,.int .i64 x1,.int .i64 x2,.int .i64 x3] (by rfl) (by rfl) (World.news_of_block (by first | exact heap_alloc_new E _ | exact heap_alloc_new E.drew _)) (by simp[Value.oneCell']) (by unfold maxLen;omega) (by omega) (by simp;omega) ?_;intro gx px wx tC yL;have uo:(E.alloc (.cells #[.string x0,.int .i64 x1,.int .i64 x2,.int .i64 x3] 46)).grownBy wx (Value.slice (some ⟨g1,0,none⟩) (o.length+1) p1).ownBlock:=wz yL rfl rfl rfl rfl;clear yL;have kx:=(kT iW.out (by decide) (aP oP.out (by omega:w.heap.size+1+1<=w1.heap.size)) uo).cell;have kf:=(kT iW.out (by decide) (aP oP.out (by omega:w.heap.size+1+1<=w1.heap.size)) uo).frozen))
      all_goals (
       obtain⟨y1,y2,y3,y4,y5⟩:=iW.out.appended (by decide) (aP oP.out (by omega:w.heap.size+1+1<=w1.heap.size)) (by omega) (Nat.le_refl _) (aP tC (by omega:w.heap.size+1+1<=w1.heap.size)) uo
       have SN:Hid ((wx.setCell ⟨w.heap.size+1+1,0,none⟩ (.slice (some ⟨gx,0,none⟩) (o.length+1+1) px)).ownsRow w1.heap.size 46 4 (.slice (some ⟨gx,0,none⟩) (o.length+1+1) px) (o.length+1+1) (flR (o++[r])++[.string x0,.int .i64 x1,.int .i64 x2,.int .i64 x3])):=ownsRow_setCell_below tC (by show w.heap.size+1+1<w1.heap.size;omega) _
       have qW:Hid (Below (w.heap.size+1+1) w1 (wx.setCell ⟨w.heap.size+1+1,0,none⟩ (.slice (some ⟨gx,0,none⟩) (o.length+1+1) px))):=Gz.trans y5
       have Tc:Hid (w1.heap.size<=(wx.setCell ⟨w.heap.size+1+1,0,none⟩ (.slice (some ⟨gx,0,none⟩) (o.length+1+1) px)).heap.size):=qW.out.size
       have S9:Hid (Boxed (wx.setCell ⟨w.heap.size+1+1,0,none⟩ (.slice (some ⟨gx,0,none⟩) (o.length+1+1) px)) (w.heap.size+1+1) 36 (.slice (some ⟨gx,0,none⟩) (o.length+1+1) px)):=y2
       clear y1 y2 y3 y4 y5 tC uo kx kf
       go_wp2
       go_roundw
       case rel=>exact⟨k+1,by omega,by go_num,by rw[HQ.out],qW,Tc,⟨_,_,by rw[HQ.out,List.length_append,List.length_append];exact S9.out,by rw[HQ.out,List.length_append,List.length_append,pF];exact SN.out⟩⟩
       case measure=>simp[intOf];omega)
    ·have hdl:decide (rk<=xk)=false:=by simpa using hge
     by_cases hxr:xk=rk
     ·omega
     ·have hxn:(xk != rk)=true:=by simpa using hxr
      have HQ:Hid (bD l r (k+1)=(false,o++[⟨x0,x1,x2,x3⟩])):=(by rw[HS.out];simp[hdl,hxr]:bD l r (k+1)=(false,o++[⟨x0,x1,x2,x3⟩]))
      go_wp2_with fail
      refine(hK _).mono ?_
      rintro e w2 ⟨rfl,hb2⟩
      have hB2:Below (w.heap.size+1+1) w1 w2:=hB.out.trans (hb2.mono (by omega))
      have kE:Hid (Boxed w2 (w.heap.size+1+1) 36 (.slice a o.length cr)):=(hb2.block _ nP.out.lt).trans nP.out
      have iD:Hid (w2.ownsRow w1.heap.size 46 4 (.slice a o.length cr) o.length (flR o)):=own_below oO.out hb2
      have JR:w1.heap.size<=w2.heap.size:=Nat.le_trans JQ hb2.size
      have Jq:=HD.out _ hB2
      have JC:=kE.out.cell
      obtain⟨PL,PN,PO,PS⟩:=OC.out _ hB2
      obtain⟨P7,Vz,VA,VB⟩:=IU.out _ hB2
      have hlt2:w.heap.size+1+1<w2.heap.size:=by omega
      clear hK hb2 nP oO hcx DW
      go_wp2_with fail
      go_region_law (first
       |(refine jF (by rfl) _ _ _ (by rfl) w1.heap.size 46 i0 (.agg #[.string ⟨#[]⟩,.int .i64 0,.int .i64 0,.int .i64 0]) 4 40 Tryz.underlying34 hi hz0 hz1 hz2 rfl (by decide) (.slice a o.length cr) (o.length) (flR (o)) (by rfl) (by first | exact iD.out.alloc _ | exact(iD.out.alloc _).drew | exact((iD.out.alloc _).drew).drew | exact(iD.out.drew.alloc _)|exact(iD.out.drew.alloc _).drew) ⟨w2.heap.size,0,none⟩ 1 [.string x0,.int .i64 x1,.int .i64 x2,.int .i64 x3] (by rfl) (by rfl) (World.news_of_block (by first | exact heap_alloc_new w2 _ | exact heap_alloc_new w2.drew _)) (by simp[Value.oneCell']) (by unfold maxLen;omega) (by omega) (by simp;omega) ?_;intro gx px wx tC yL;have uo:(w2.alloc (.cells #[.string x0,.int .i64 x1,.int .i64 x2,.int .i64 x3] 46)).grownBy wx (Value.slice a o.length cr).ownBlock:=wz yL rfl rfl rfl rfl;clear yL;have kx:=(kT kE.out (by decide) (aP iD.out (by omega:w.heap.size+1+1<=w1.heap.size)) uo).cell;have kf:=(kT kE.out (by decide) (aP iD.out (by omega:w.heap.size+1+1<=w1.heap.size)) uo).frozen))
      all_goals (
       obtain⟨y1,y2,y3,y4,y5⟩:=kE.out.appended (by decide) (aP iD.out (by omega:w.heap.size+1+1<=w1.heap.size)) (by omega) (Nat.le_refl _) (aP tC (by omega:w.heap.size+1+1<=w1.heap.size)) uo
       have SN:Hid ((wx.setCell ⟨w.heap.size+1+1,0,none⟩ (.slice (some ⟨gx,0,none⟩) (o.length+1) px)).ownsRow w1.heap.size 46 4 (.slice (some ⟨gx,0,none⟩) (o.length+1) px) (o.length+1) (flR (o)++[.string x0,.int .i64 x1,.int .i64 x2,.int .i64 x3])):=ownsRow_setCell_below tC (by show w.heap.size+1+1<w1.heap.size;omega) _
       have qW:Hid (Below (w.heap.size+1+1) w1 (wx.setCell ⟨w.heap.size+1+1,0,none⟩ (.slice (some ⟨gx,0,none⟩) (o.length+1) px))):=hB2.trans y5
       have Tc:Hid (w1.heap.size<=(wx.setCell ⟨w.heap.size+1+1,0,none⟩ (.slice (some ⟨gx,0,none⟩) (o.length+1) px)).heap.size):=qW.out.size
       have S9:Hid (Boxed (wx.setCell ⟨w.heap.size+1+1,0,none⟩ (.slice (some ⟨gx,0,none⟩) (o.length+1) px)) (w.heap.size+1+1) 36 (.slice (some ⟨gx,0,none⟩) (o.length+1) px)):=y2
       clear y1 y2 y3 y4 y5 tC uo kx kf
       go_wp2
       go_roundw
       case rel=>exact⟨k+1,by omega,by go_num,by rw[HQ.out],qW,Tc,⟨_,_,by rw[HQ.out,List.length_append];exact S9.out,by rw[HQ.out,List.length_append,pF];exact SN.out⟩⟩
       case measure=>simp[intOf];omega)
   ·by_cases hxr:xk=rk
    ·have hxn:(xk != rk)=false:=by simpa using hxr
     have HQ:Hid (bD l r (k+1)=(true,o)):=(by rw[HS.out];simp[hxr]:bD l r (k+1)=(true,o))
     go_wp2_with fail
     refine(hK _).mono ?_
     rintro e w2 ⟨rfl,hb2⟩
     have hB2:Below (w.heap.size+1+1) w1 w2:=hB.out.trans (hb2.mono (by omega))
     have kE:Hid (Boxed w2 (w.heap.size+1+1) 36 (.slice a o.length cr)):=(hb2.block _ nP.out.lt).trans nP.out
     have iD:Hid (w2.ownsRow w1.heap.size 46 4 (.slice a o.length cr) o.length (flR o)):=own_below oO.out hb2
     have JR:w1.heap.size<=w2.heap.size:=Nat.le_trans JQ hb2.size
     have Jq:=HD.out _ hB2
     have JC:=kE.out.cell
     obtain⟨PL,PN,PO,PS⟩:=OC.out _ hB2
     obtain⟨P7,Vz,VA,VB⟩:=IU.out _ hB2
     have hlt2:w.heap.size+1+1<w2.heap.size:=by omega
     clear hK hb2 nP oO hcx DW
     have HZ2:Hid (w1.heap.size<=w2.heap.size):=JR
     have HB2:Hid (Below (w.heap.size+1+1) w1 w2):=hB2
     go_wp2
     go_roundw
     case rel=>exact⟨k+1,by omega,by go_num,by rw[HQ.out],HB2,HZ2,⟨_,_,by rw[HQ.out];exact kE.out,by rw[HQ.out];exact iD.out⟩⟩
     case measure=>simp[intOf];omega
    ·have hxn:(xk != rk)=true:=by simpa using hxr
     have HQ:Hid (bD l r (k+1)=(true,o++[⟨x0,x1,x2,x3⟩])):=(by rw[HS.out];simp[hxr]:bD l r (k+1)=(true,o++[⟨x0,x1,x2,x3⟩]))
     go_wp2_with fail
     refine(hK _).mono ?_
     rintro e w2 ⟨rfl,hb2⟩
     have hB2:Below (w.heap.size+1+1) w1 w2:=hB.out.trans (hb2.mono (by omega))
     have kE:Hid (Boxed w2 (w.heap.size+1+1) 36 (.slice a o.length cr)):=(hb2.block _ nP.out.lt).trans nP.out
     have iD:Hid (w2.ownsRow w1.heap.size 46 4 (.slice a o.length cr) o.length (flR o)):=own_below oO.out hb2
     have JR:w1.heap.size<=w2.heap.size:=Nat.le_trans JQ hb2.size
     have Jq:=HD.out _ hB2
     have JC:=kE.out.cell
     obtain⟨PL,PN,PO,PS⟩:=OC.out _ hB2
     obtain⟨P7,Vz,VA,VB⟩:=IU.out _ hB2
     have hlt2:w.heap.size+1+1<w2.heap.size:=by omega
     clear hK hb2 nP oO hcx DW
     go_wp2_with fail
     go_region_law (first
      |(refine jF (by rfl) _ _ _ (by rfl) w1.heap.size 46 i0 (.agg #[.string ⟨#[]⟩,.int .i64 0,.int .i64 0,.int .i64 0]) 4 40 Tryz.underlying34 hi hz0 hz1 hz2 rfl (by decide) (.slice a o.length cr) (o.length) (flR (o)) (by rfl) (by first | exact iD.out.alloc _ | exact(iD.out.alloc _).drew | exact((iD.out.alloc _).drew).drew | exact(iD.out.drew.alloc _)|exact(iD.out.drew.alloc _).drew) ⟨w2.heap.size,0,none⟩ 1 [.string x0,.int .i64 x1,.int .i64 x2,.int .i64 x3] (by rfl) (by rfl) (World.news_of_block (by first | exact heap_alloc_new w2 _ | exact heap_alloc_new w2.drew _)) (by simp[Value.oneCell']) (by unfold maxLen;omega) (by omega) (by simp;omega) ?_;intro gx px wx tC yL;have uo:(w2.alloc (.cells #[.string x0,.int .i64 x1,.int .i64 x2,.int .i64 x3] 46)).grownBy wx (Value.slice a o.length cr).ownBlock:=wz yL rfl rfl rfl rfl;clear yL;have kx:=(kT kE.out (by decide) (aP iD.out (by omega:w.heap.size+1+1<=w1.heap.size)) uo).cell;have kf:=(kT kE.out (by decide) (aP iD.out (by omega:w.heap.size+1+1<=w1.heap.size)) uo).frozen))
     all_goals (
      obtain⟨y1,y2,y3,y4,y5⟩:=kE.out.appended (by decide) (aP iD.out (by omega:w.heap.size+1+1<=w1.heap.size)) (by omega) (Nat.le_refl _) (aP tC (by omega:w.heap.size+1+1<=w1.heap.size)) uo
      have SN:Hid ((wx.setCell ⟨w.heap.size+1+1,0,none⟩ (.slice (some ⟨gx,0,none⟩) (o.length+1) px)).ownsRow w1.heap.size 46 4 (.slice (some ⟨gx,0,none⟩) (o.length+1) px) (o.length+1) (flR (o)++[.string x0,.int .i64 x1,.int .i64 x2,.int .i64 x3])):=ownsRow_setCell_below tC (by show w.heap.size+1+1<w1.heap.size;omega) _
      have qW:Hid (Below (w.heap.size+1+1) w1 (wx.setCell ⟨w.heap.size+1+1,0,none⟩ (.slice (some ⟨gx,0,none⟩) (o.length+1) px))):=hB2.trans y5
      have Tc:Hid (w1.heap.size<=(wx.setCell ⟨w.heap.size+1+1,0,none⟩ (.slice (some ⟨gx,0,none⟩) (o.length+1) px)).heap.size):=qW.out.size
      have S9:Hid (Boxed (wx.setCell ⟨w.heap.size+1+1,0,none⟩ (.slice (some ⟨gx,0,none⟩) (o.length+1) px)) (w.heap.size+1+1) 36 (.slice (some ⟨gx,0,none⟩) (o.length+1) px)):=y2
      clear y1 y2 y3 y4 y5 tC uo kx kf
      go_wp2
      go_roundw
      case rel=>exact⟨k+1,by omega,by go_num,by rw[HQ.out],qW,Tc,⟨_,_,by rw[HQ.out,List.length_append];exact S9.out,by rw[HQ.out,List.length_append,pF];exact SN.out⟩⟩
      case measure=>simp[intOf];omega)
  ·have hkn:k=n:=by omega
   subst hkn
   have hz1b:=HZ1.out _ hB.out
   have adP:=hz1b.cell
   have ahn:=hz1b.frozen
   have HZB:Hid (Boxed wr (w.heap.size+1) 36 (.slice none 0 0)):=hz1b
   have iW:Hid (Below w.heap.size w wr):=hBW.trans (hB.out.mono (by omega))
   generalize (bD l r k).1=d at *
   generalize (bD l r k).2=o at *
   have nP:Hid (Boxed wr (w.heap.size+1+1) 36 (.slice a o.length cr)):=hbx
   have oO:Hid (wr.ownsRow w1.heap.size 46 4 (.slice a o.length cr) o.length (flR o)):=hrow
   have ahv:w.heap.size+1+1<wr.heap.size:=by omega
   clear hbx hrow ho HX hz1b
   cases d
   ·have oP:Hid (RL=o++[r]):=(by rw[HRL.out];rfl:RL=o++[r])
    go_wp2_with (at_builtin;refine wpList_append_own _ rfl _ _ 34 rfl w1.heap.size 46 i0 (.agg #[.string ⟨#[]⟩,.int .i64 0,.int .i64 0,.int .i64 0]) 4 40 Tryz.underlying34 hi hz0 hz1 hz2 rfl (by decide) _ _ _ rfl (oO.out.alloc _) ⟨wr.heap.size,0,none⟩ 1 1 [.string r0,.int .i64 r1,.int .i64 r2,.int .i64 r3] rfl rfl (World.news_of_block (heap_alloc_new _ _)) (by simp[Value.oneCell']) (by unfold maxLen;omega) (by omega) (by simp;omega) ?_;intro v' kC hown1 hgrow1 hnil1;obtain⟨g1,p1,rfl⟩:=ownsRow_succ hown1;obtain⟨sS,yX,JL,JJ,yQ⟩:=nP.out.appended (by decide) (aP oO.out (by omega:w.heap.size+1+1<=w1.heap.size)) (by omega) (Nat.le_refl _) (aP hown1 (by omega:w.heap.size+1+1<=w1.heap.size)) hgrow1;have QC:=sS.cell;have QE:=sS.frozen;have xY:Hid (kC.ownsRow w1.heap.size 46 4 (.slice (some ⟨g1,0,none⟩) (o.length+1) p1) (o.length+1) (flR o++[.string r0,.int .i64 r1,.int .i64 r2,.int .i64 r3])):=hown1;have EZ:Hid (Boxed (kC.setCell ⟨w.heap.size+1+1,0,none⟩ (.slice (some ⟨g1,0,none⟩) (o.length+1) p1)) (w.heap.size+1+1) 36 (.slice (some ⟨g1,0,none⟩) (o.length+1) p1)):=yX;have xW:Hid (Below (w.heap.size+1+1) wr (kC.setCell ⟨w.heap.size+1+1,0,none⟩ (.slice (some ⟨g1,0,none⟩) (o.length+1) p1))):=yQ;have VH:Hid (wr.heap.size<=kC.heap.size):=Nat.le_trans (by simp) hgrow1.size;have hq1:=(HZB.out.alloc (.cells #[.string r0,.int .i64 r1,.int .i64 r2,.int .i64 r3] 46)).kept hgrow1 (fun e=>by have:=(oO.out.lt _ e.symm).1;omega);have hqc:=hq1.cell;have hqf:=hq1.frozen;clear hgrow1 hnil1 hown1 JL JJ yX yQ)
    have jX:Hid ((kC.setCell ⟨w.heap.size+1+1,0,none⟩ (.slice (some ⟨g1,0,none⟩) (o.length+1) p1)).ownsRow w1.heap.size 46 4 (.slice (some ⟨g1,0,none⟩) (o.length+1) p1) (o.length+1) (flR RL)):=(by rw[oP.out,pF,HR0.out];exact ownsRow_setCell_below xY.out (by show w.heap.size+1+1<w1.heap.size;omega) _:(kC.setCell ⟨w.heap.size+1+1,0,none⟩ (.slice (some ⟨g1,0,none⟩) (o.length+1) p1)).ownsRow w1.heap.size 46 4 (.slice (some ⟨g1,0,none⟩) (o.length+1) p1) (o.length+1) (flR RL))
    have HBF:Hid (Below w.heap.size w (kC.setCell ⟨w.heap.size+1+1,0,none⟩ (.slice (some ⟨g1,0,none⟩) (o.length+1) p1))):=iW.out.trans (xW.out.mono (by omega))
    clear xW xY sS EZ oP
    go_wp2
    exact bodyPost_ret (v:= .agg #[.slice (some ⟨g1,0,none⟩) (o.length+1) p1]) (by simp[results,Tryz.results111,go_sem,hqc]) rfl ⟨_,_,_,rfl,HBF.out.setCell (Nat.le_succ _) _,aP (ownsRow_setCell_below jX.out (by show w.heap.size+1<w1.heap.size;omega) _) (by omega)⟩
   ·have oP:Hid (RL=o):=(by rw[HRL.out];rfl:RL=o)
    have jX:Hid (wr.ownsRow w1.heap.size 46 4 (.slice a o.length cr) o.length (flR RL)):=(by rw[oP.out];exact oO.out:wr.ownsRow w1.heap.size 46 4 (.slice a o.length cr) o.length (flR RL))
    go_wp2
    exact bodyPost_ret (v:= .agg #[.slice a o.length cr]) (by simp[results,Tryz.results111,go_sem,adP]) rfl ⟨a,_,cr,rfl,iW.out.setCell (Nat.le_succ _) _,aP (ownsRow_setCell_below jX.out (by show w.heap.size+1<w1.heap.size;omega) _) (by omega)⟩
theorem UJ(g og:Nat)(v:Value)(l:Rcl)(r:Rc)(w:World)(hg:g<w.heap.size)(hD:w.cell? ⟨g,og,none⟩=some v)(hv:Rcs w v l)(hok:bY l)(hrs:r.l.size<=12):
  Calls Tryz.prog 111 #[.pointer (some ⟨g,og,none⟩),.agg #[.string r.l,.int .i64 r.v,.int .i64 r.o,.int .i64 r.p]] w fun e w'=>∃a m c,e = .returned (.agg #[.slice a m c])/\Below w.heap.size w w'/\w'.ownsRow w.heap.size 46 4 (.slice a m c) m (flR (fG l r)):=by
 obtain⟨a,c,rfl⟩:=hv.shape
 obtain⟨b,off,hav,hc⟩:∃b off,(0<l.length->a=some ⟨b,off,none⟩/\b<w.heap.size)/\∀j,j<l.length->dV w b (off+j*4) (rAt l j):=by
  by_cases h0:0<l.length
  ·obtain⟨-,b,off,e,hb,hc⟩:=hv.at h0
   exact⟨b,off,fun _=>⟨e,hb⟩,hc⟩
  ·exact⟨0,0,fun h=>absurd h h0,fun j hj=>by omega⟩
 exact Ro g og b off c l.length a l r.l r.v r.o r.p w hok.len hg hav (fun j hj=>Rc.kN (hok.ok j hj)) hrs hD hc
theorem KJ(g og p po:Nat)(s:Int)(w:World)(hs:inB s 0 999=false):
  Calls Tryz.prog 110 #[.pointer (some ⟨g,og,none⟩),.pointer (some ⟨p,po,none⟩),.int .i64 s] w fun e w'=>e = .returned (.int .i64 3)/\Below w.heap.size w w':=by
 have hI:=fun w=>aY s 0 999 w
 rw[hs]at hI
 clear hs
 go_enter Tryz.func110,Tryz.ntmps110
 go_wp2_with fail
 refine(hI _).mono ?_
 rintro e w0 ⟨rfl,rfl⟩
 clear hI
 go_wp2
 go_ret
 exact⟨rfl,Below.refl _ _⟩
theorem Gn(a b:List UInt8):(a==b)=(b==a):=by
 rw[Bool.eq_iff_iff]
 simp only[beq_iff_eq]
 exact eq_comm
theorem UH(g og p po:Nat)(v:Value)(l:Rcl)(r:Rc)(s:Int)(w:World)(hg:g<w.heap.size)(hD:w.cell? ⟨g,og,none⟩=some v)(hv:Rcs w v l)(hok:bY l)(hp:p<w.heap.size)(hr:dV w p po r)(hrc:r.c=0):
  Calls Tryz.prog 110 #[.pointer (some ⟨g,og,none⟩),.pointer (some ⟨p,po,none⟩),.int .i64 s] w fun e w'=>e = .returned (.int .i64 (pJ l r s))/\Below w.heap.size w w':=by
 rcases Bool.eq_false_or_eq_true (inB s 0 999)with hs | hs
 ·have e0:pJ l r s=wP (lkO l r.k) (decide (12<=l.length)) r (dZ s):=by unfold pJ;rw[if_pos hs]
  rw[e0]
  have hK:=fun w=>lS r.l w (Rc.kN hrc)
  have hA:=fun w' (h:Below w.heap.size w w')=>WG g og v l r.k w' (Nat.lt_of_lt_of_le hg h.size) ((h.cell (p:=⟨g,og,none⟩) hg).trans hD) (hv.below h) hok
  have hO:=fun w=>NT s w (eF hs)
  obtain⟨a,c,rfl⟩:=hv.shape
  rcases yA l r.k with⟨h1,-⟩ |⟨j,hj,-,h1⟩
  ·have e1:lkO l r.k=none:=by unfold lkO;rw[if_pos h1]
   rw[e1]
   rw[h1]at hA
   have hn:=hok.len
   unfold wP
   dsimp only
   by_cases hv1:r.v=1
   ·rw[if_pos hv1]
    by_cases ho:dZ s=r.o
    ·rw[if_pos ho]
     by_cases hf:12<=l.length
     ·rw[if_pos (by simpa using hf)]
      exact Rl g og p po l.length c a s r.l r.v r.o (dZ s) r.k w hg hp hn hD hr.c0 hr.c1 hr.c2 hs (by simp[hv1]) (by simp[ho]) hf hK hA hO
     ·rw[if_neg (by simpa using hf)]
      exact Rn g og p po l.length c a s r.l r.v r.o (dZ s) r.k w hg hp hn hD hr.c0 hr.c1 hr.c2 hs (by simp[hv1]) (by simp[ho]) hf hK hA hO
    ·rw[if_neg ho]
     exact UG g og p po l.length c a s r.l r.v r.o (dZ s) r.k w hg hp hn hD hr.c0 hr.c1 hr.c2 hs (by simp[hv1]) (by simp;exact fun e=>ho e.symm) hK hA hO
   ·rw[if_neg hv1]
    exact NQ g og p po l.length c a s r.l r.v r.o (dZ s) r.k w hg hp hn hD hr.c0 hr.c1 hr.c2 hs (by simp[hv1]) hK hA hO
  ·have e1:lkO l r.k=some (rAt l j):=by unfold lkO;rw[h1,if_neg (by omega),Int.toNat_natCast]
   rw[e1]
   rw[h1]at hA
   obtain⟨-,b,off,rfl,hb,hc⟩:=hv.at (by omega)
   have hx:=hc j hj
   have hxk:=hok.abe hj
   have hxb:1<=(rAt l j).v/\(rAt l j).v<=999:=⟨hxk.v0,hxk.v1⟩
   generalize rAt l j=x at *
   unfold wP
   dsimp only
   rcases Bool.eq_false_or_eq_true (r.l.toList==x.l.toList)with hl | hl
   ·rw[if_pos hl]
    rw[Gn]at hl
    by_cases ho:dZ s=x.o
    ·rw[if_pos ho]
     by_cases hvv:r.v=x.v+1
     ·rw[if_pos hvv]
      exact WH g og p po b off c l.length j s x.l r.l x.v x.o r.v r.o (dZ s) r.k w hg hp hb hj hD hx.c0 hx.c1 hx.c2 hr.c0 hr.c1 hr.c2 hxb hs hl (by simp[ho]) (by simp[hvv]) hK hA hO
     ·rw[if_neg hvv]
      exact Ii g og p po b off c l.length j s x.l r.l x.v x.o r.v r.o (dZ s) r.k w hg hp hb hj hD hx.c0 hx.c1 hx.c2 hr.c0 hr.c1 hr.c2 hxb hs hl (by simp[ho]) (by simp;exact fun e=>hvv e.symm) hK hA hO
    ·rw[if_neg ho]
     exact NR g og p po b off c l.length j s x.l r.l x.v x.o r.v r.o (dZ s) r.k w hg hp hb hj hD hx.c0 hx.c1 hx.c2 hr.c0 hr.c1 hr.c2 hxb hs hl (by simp;exact fun e=>ho e.symm) hK hA hO
   ·rw[if_neg (by rw[hl];decide)]
    rw[Gn]at hl
    exact NS g og p po b off c l.length j s x.l r.l x.v x.o r.v r.o (dZ s) r.k w hg hp hb hj hD hx.c0 hx.c1 hx.c2 hr.c0 hr.c1 hr.c2 hxb hs hl hK hA hO
 ·have e0:pJ l r s=3:=by unfold pJ;rw[if_neg (by rw[hs];decide)]
  rw[e0]
  exact KJ g og p po s w hs
def u9C(l:Rcl)(r:Rc)(s:Int):Int:=if r.c=0 then pJ l r s else r.c
def u9L(l:Rcl)(r:Rc)(s:Int):Rcl:=if u9C l r s=0 then fG l r else []
theorem Zc{w:World}{B m:Nat}{e:TypeId}{a:Option Addr}{c:Nat}{L:Rcl}(h:w.ownsRow B e 4 (.slice a m c) m (flR L)):m=L.length:=by
 have:=h.1
 rw[rJ]at this
 omega
theorem zy(g og p po:Nat)(v:Value)(l:Rcl)(r:Rc)(s:Int)(w:World)(hg:g<w.heap.size)(hD:w.cell? ⟨g,og,none⟩=some v)(hv:Rcs w v l)(hok:bY l)(hp:p<w.heap.size)(hr:dV w p po r)(hrs:r.l.size<=1048576):
  Calls Tryz.prog 57 #[.pointer (some ⟨g,og,none⟩),.pointer (some ⟨p,po,none⟩),.int .i64 s] w fun e w'=>∃a c,e = .returned (.tuple #[.agg #[.slice a (u9L l r s).length c],.int .i64 (u9C l r s)])/\Below w.heap.size w w'/\w'.ownsRow w.heap.size 46 4 (.slice a (u9L l r s).length c) (u9L l r s).length (flR (u9L l r s)):=by
 have HF:Hid (∀w',Below w.heap.size w w'->Calls Tryz.prog 92 #[.pointer (some ⟨p,po,none⟩)] w' fun e w''=>e = .returned (.int .i64 r.c)/\Below w'.heap.size w' w''):=fun w' h=>wK p po r.l r.v r.o r.p w' (hr.below h hp) hrs
 have HM:Hid (r.c=0->∀w',Below w.heap.size w w'->Calls Tryz.prog 110 #[.pointer (some ⟨g,og,none⟩),.pointer (some ⟨p,po,none⟩),.int .i64 s] w' fun e w''=>e = .returned (.int .i64 (pJ l r s))/\Below w'.heap.size w' w''):=fun h0 w' h=>UH g og p po v l r s w' (Nat.lt_of_lt_of_le hg h.size) ((h.cell (p:=⟨g,og,none⟩) hg).trans hD) (hv.below h) hok (Nat.lt_of_lt_of_le hp h.size) (hr.below h hp) h0
 have HP:Hid (r.c=0->∀w',Below w.heap.size w w'->Calls Tryz.prog 111 #[.pointer (some ⟨g,og,none⟩),.agg #[.string r.l,.int .i64 r.v,.int .i64 r.o,.int .i64 r.p]] w' fun e w''=>∃a m c,e = .returned (.agg #[.slice a m c])/\Below w'.heap.size w' w''/\w''.ownsRow w'.heap.size 46 4 (.slice a m c) m (flR (fG l r))):=fun h0 w' h=>UJ g og v l r w' (Nat.lt_of_lt_of_le hg h.size) ((h.cell (p:=⟨g,og,none⟩) hg).trans hD) (hv.below h) hok (Rc.kN h0)
 have HC:Hid (∀w',Below w.heap.size w w'->w'.cell? ⟨p,po,none⟩=some (.string r.l)/\w'.cell? ⟨p,po+1,none⟩=some (.int .i64 r.v)/\w'.cell? ⟨p,po+2,none⟩=some (.int .i64 r.o)/\w'.cell? ⟨p,po+3,none⟩=some (.int .i64 r.p)):=fun w' h=>⟨(hr.below h hp).c0,(hr.below h hp).c1,(hr.below h hp).c2,(hr.below h hp).c3⟩
 have q0:=heap_alloc_new w (.cells #[.slice none 0 0] 36)
 have hB0:=aj (w:=w) (.cells #[.slice none 0 0] 36)
 clear hv hr hok hD
 by_cases h0:r.c=0
 ·have hM:=HM.out h0
  have hP:=HP.out h0
  have hF:=HF.out
  rw[h0]at hF
  have e1:u9C l r s=pJ l r s:=by unfold u9C;rw[if_pos h0]
  unfold u9L
  rw[e1]
  generalize pJ l r s=q at *
  clear HF HM HP h0 e1
  by_cases hq:q=0
  ·subst hq
   rw[if_pos rfl]
   generalize fG l r=L at *
   generalize r.l=r0 at *
   generalize r.v=r1 at *
   generalize r.o=r2 at *
   generalize r.p=r3 at *
   go_enter Tryz.func57,Tryz.ntmps57
   go_wp2_with fail
   refine(hF _ hB0).mono ?_
   rintro e w1 ⟨rfl,hb1⟩
   have hB1:=ah hB0 hb1
   have q1:=(hb1.block _ (by simp)).trans q0
   clear hF hb1
   go_wp2_with fail
   refine(hM _ hB1).mono ?_
   rintro e w2 ⟨rfl,hb2⟩
   have hB2:=ah hB1 hb2
   have q2:=(hb2.block _ (Array.getElem?_eq_some_iff.1 q1).1).trans q1
   obtain⟨c0,c1,c2,c3⟩:=HC.out _ hB2
   clear hM hb2 q1 hB1
   go_wp2_with fail
   refine(hP _ hB2).mono ?_
   rintro e w3 ⟨a3,m3,c3',rfl,hb3,ho3⟩
   have hB3:=ah hB2 hb3
   have q3:Boxed w3 w.heap.size 36 (.slice none 0 0):=(hb3.block _ (Array.getElem?_eq_some_iff.1 q2).1).trans q2
   have k3:=q3.cell
   have f3:=q3.frozen
   have hlt2:w.heap.size<w2.heap.size:=(Array.getElem?_eq_some_iff.1 q2).1
   have fB:Hid (w3.ownsRow w2.heap.size 46 4 (.slice a3 m3 c3') m3 (flR L)):=ho3
   have HL3:Hid (m3=L.length):=Zc ho3
   clear hP hb3 ho3 q2 q3 hB2
   go_wp2
   refine bodyPost_ret (v:= .tuple #[.agg #[.slice a3 m3 c3'],.int .i64 0]) (by simp[results,Tryz.results57,go_sem,k3]) rfl ⟨a3,c3',by rw[←HL3.out],hB3.setCell (Nat.le_refl _) _, ?_⟩
   rw[←HL3.out]
   exact aP (ownsRow_setCell_below fB.out (by show w.heap.size<w2.heap.size;exact hlt2) _) (Nat.le_of_lt hlt2)
  ·rw[if_neg hq]
   have Uk:(q != 0)=true:=by simpa using hq
   clear hP
   go_enter Tryz.func57,Tryz.ntmps57
   go_wp2_with fail
   refine(hF _ hB0).mono ?_
   rintro e w1 ⟨rfl,hb1⟩
   have hB1:=ah hB0 hb1
   have q1:=(hb1.block _ (by simp)).trans q0
   clear hF hb1
   go_wp2_with fail
   refine(hM _ hB1).mono ?_
   rintro e w2 ⟨rfl,hb2⟩
   have hB2:=ah hB1 hb2
   have q2:Boxed w2 w.heap.size 36 (.slice none 0 0):=(hb2.block _ (Array.getElem?_eq_some_iff.1 q1).1).trans q1
   have k3:=q2.cell
   have f3:=q2.frozen
   clear hM hb2 q1 hB1 q2
   go_wp2
   exact bodyPost_ret (v:= .tuple #[.agg #[.slice none 0 0],.int .i64 q]) (by simp[results,Tryz.results57,go_sem,k3]) rfl ⟨none,0,rfl,hB2.setCell (Nat.le_refl _) _,World.ownsRow_nil _ _ _ _⟩
 ·have e1:u9C l r s=r.c:=by unfold u9C;rw[if_neg h0]
  have hF:=HF.out
  unfold u9L
  rw[e1,if_neg h0]
  generalize r.c=q at *
  have Uk:(q != 0)=true:=by simpa using h0
  clear HF HM HP e1 h0
  go_enter Tryz.func57,Tryz.ntmps57
  go_wp2_with fail
  refine(hF _ hB0).mono ?_
  rintro e w1 ⟨rfl,hb1⟩
  have hB1:=ah hB0 hb1
  have q1:Boxed w1 w.heap.size 36 (.slice none 0 0):=(hb1.block _ (by simp)).trans q0
  have k3:=q1.cell
  have f3:=q1.frozen
  clear hF hb1 q1
  go_wp2
  exact bodyPost_ret (v:= .tuple #[.agg #[.slice none 0 0],.int .i64 q]) (by simp[results,Tryz.results57,go_sem,k3]) rfl ⟨none,0,rfl,hB1.setCell (Nat.le_refl _) _,World.ownsRow_nil _ _ _ _⟩
end U
end Go.Proofs.YtmmcgjacojgeaaaGreat
namespace Go.Proofs.YtmmcgjacojgeaaaGreat
open Go.RowKit Go.Maps
namespace U
def nO(w:World)(code:Int)(l:Rcl)(e:Ending)(w':World):Prop:=
 ∃a c,e = .returned (.agg #[.int .i64 code,.slice a l.length c])/\Below w.heap.size w w'/\w'.ownsRow w.heap.size 46 4 (.slice a l.length c) l.length (flR l)
theorem EX{l:Rcl}{r:Rc}{s:Int}(h:aF l=0):upC l r s=u9C l r s/\upL l r s=u9L l r s:=by
 have e:upC l r s=u9C l r s:=by unfold upC u9C;rw[if_pos h]
 refine⟨e, ?_⟩
 unfold upL u9L
 rw[e]
def nxC(x r:Rc)(ow:Int):Int:=if(r.l.toList==x.l.toList)=true then(if ow=x.o then(if r.v=x.v+1 then 0 else 7)else 8)else 6
def wu(r:Rc)(ow:Int):Int:=if r.v=1 then(if ow=r.o then 0 else 8)else 7
theorem xH(x0:ByteArray)(x1 x2 x3:Int)(r0:ByteArray)(r1 r2 r3 ow:Int)(w:World)(hv:1<=x1/\x1<=999):
  Calls Tryz.prog 73 #[.agg #[.string x0,.int .i64 x1,.int .i64 x2,.int .i64 x3],.agg #[.string r0,.int .i64 r1,.int .i64 r2,.int .i64 r3],.int .i64 ow] w fun e w'=>e = .returned (.int .i64 (nxC ⟨x0,x1,x2,x3⟩ ⟨r0,r1,r2,r3⟩ ow))/\Below w.heap.size w w':=by
 unfold nxC
 dsimp only
 rcases Bool.eq_false_or_eq_true (r0.toList==x0.toList)with hl | hl
 ·rw[if_pos hl]
  by_cases ho:ow=x2
  ·rw[if_pos ho]
   have hon:(ow != x2)=false:=by simp[ho]
   by_cases hvv:r1=x1+1
   ·rw[if_pos hvv]
    have hvn:(r1 != x1+1)=false:=by simp[hvv]
    clear ho hvv
    go_enter Tryz.func73,Tryz.ntmps73
    go_wp2
    go_ret
    exact⟨rfl,aH _ _⟩
   ·rw[if_neg hvv]
    have hvn:(r1 != x1+1)=true:=by simp[hvv]
    clear ho hvv
    go_enter Tryz.func73,Tryz.ntmps73
    go_wp2
    go_ret
    exact⟨rfl,aH _ _⟩
  ·rw[if_neg ho]
   have hon:(ow != x2)=true:=by simp[ho]
   clear ho
   go_enter Tryz.func73,Tryz.ntmps73
   go_wp2
   go_ret
   exact⟨rfl,aH _ _⟩
 ·rw[if_neg (by rw[hl];decide)]
  go_enter Tryz.func73,Tryz.ntmps73
  go_wp2
  go_ret
  exact⟨rfl,aH _ _⟩
theorem pz(r0:ByteArray)(r1 r2 r3 ow:Int)(w:World):
  Calls Tryz.prog 74 #[.agg #[.string r0,.int .i64 r1,.int .i64 r2,.int .i64 r3],.int .i64 ow] w fun e w'=>e = .returned (.int .i64 (wu ⟨r0,r1,r2,r3⟩ ow))/\Below w.heap.size w w':=by
 unfold wu
 dsimp only
 by_cases hv:r1=1
 ·rw[if_pos hv]
  have hvn:(r1 != 1)=false:=by simp[hv]
  by_cases ho:ow=r2
  ·rw[if_pos ho]
   have hon:(ow != r2)=false:=by simp[ho]
   clear hv ho
   go_enter Tryz.func74,Tryz.ntmps74
   go_wp2
   go_ret
   exact⟨rfl,aj _⟩
  ·rw[if_neg ho]
   have hon:(ow != r2)=true:=by simp[ho]
   clear hv ho
   go_enter Tryz.func74,Tryz.ntmps74
   go_wp2
   go_ret
   exact⟨rfl,aj _⟩
 ·rw[if_neg hv]
  have hvn:(r1 != 1)=true:=by simp[hv]
  clear hv
  go_enter Tryz.func74,Tryz.ntmps74
  go_wp2
  go_ret
  exact⟨rfl,aj _⟩
end U
end Go.Proofs.YtmmcgjacojgeaaaGreat
