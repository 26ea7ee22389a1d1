/- Joined: what the texts behind it need. -/
import Derived.Test.YtmmcgjacojgeaaaGreatKBC
import Derived.Test.YtmmcgjacojgeaaaGreatKBA
import Derived.RangeFuncBox
import Derived.Test.YtmmcgjacojgeaaaGreatKBB
import Derived.Deep.RegionLaw
set_option maxRecDepth 100000
set_option maxHeartbeats 8000000
namespace Go.Proofs.YtmmcgjacojgeaaaGreat
open Go.RowKit Go.Maps
namespace U
def lkO(l:Rcl)(key:Int):Option Rc:=if atI l key = -1 then none else some (rAt l (atI l key).toNat)
theorem lI{l:Rcl}(h:bM l)(x:Int):aX l l.length x=lkO l x:=by
 rcases Qb h x with⟨h1,h2⟩ |⟨j,-,h1,h2,-⟩
 ·rw[h2,lkO,if_pos h1]
 ·rw[h2,lkO,h1,if_neg (by omega),Int.toNat_natCast]
theorem sD{l:Rcl}{x:Int}{r:Rc}(h:lkO l x=some r):r.k=x/\r∈l:=by
 unfold lkO at h
 rcases vw l x with⟨h1,-⟩ |⟨j,h1,h2,h3⟩
 ·rw[if_pos h1]at h;cases h
 ·rw[h3,if_neg (by omega),Int.toNat_natCast]at h
  cases h
  exact⟨h2,x9 h1⟩
theorem kJ{w:World}{b:Nat}{v:Value}{t:TypeId}(h:w.heap[b]? = some (.cells #[v] t (0,0))):w.cell? ⟨b,0,none⟩=some v:=by unfold World.cell?;rw[h];rfl
end U
end Go.Proofs.YtmmcgjacojgeaaaGreat
namespace Go.Proofs.YtmmcgjacojgeaaaGreat
open Go.RowKit
namespace U
def dH(s:Int):Int:=bn (aZ 6 [s])
def owC(s:Int):Int:=if inB s 0 999=true then 0 else 3
def owV(s:Int):Int:=if inB s 0 999=true then dH s else 0
theorem kW{s:Int}(h:inB s 0 999=true):owC s=0/\owV s=dH s:=by simp[owC,owV,h]
theorem Ug{s:Int}(h:inB s 0 999=false):owC s=3/\owV s=0:=by simp[owC,owV,h]
theorem yV{w:World}{g:Nat}{a:Int}{t:TypeId}(hg:g=w.heap.size):Ints .i64 (w.alloc (.cells #[.int .i64 a] t)) (.slice (some ⟨g,0,none⟩) 1 1) [a]:=by
 subst hg
 have hh:=heap_alloc_new w (.cells #[.int .i64 a] t)
 refine Or.inr ⟨w.heap.size,0,1,rfl,by simp,fun j hj=> ?_⟩
 have hj2:j<1:=hj
 obtain rfl:j=0:=by omega
 unfold World.cell?
 rw[hh]
 rfl
theorem fQ(s:Int)(w:World):Calls Tryz.prog 69 #[.int .i64 s] w fun e w'=>jF w (owC s) (owV s) e w':=by
 rcases Bool.eq_false_or_eq_true (inB s 0 999)with h | h
 ·have hb:=jd h
  have h3 : [s].all aP=true:=by simp[bC];omega
  have ht:=uq (tag:=6) (xs:=[s]) (by decide) (by simp) h3
  have hT:=fun (w:World) v hv=>nM 6 v [s] w hv (by simp)
  rw[Oi ht.1,ht.1,ht.2]at hT
  rw[(kW h).1,(kW h).2]
  unfold dH
  generalize bn (aZ 6 [s])=z at *
  have n1:¬s<0:=by omega
  have n2:¬ 999<s:=by omega
  clear h h3 ht hb
  go_enter Tryz.func69,Tryz.ntmps69
  go_wp2_with fail
  refine(hT _ _ (yV (by simp))).mono ?_
  rintro e w1 ⟨rfl,hb1⟩
  obtain⟨c0,c1,f0,f1⟩:=aG ((hb1.block w.heap.size (by simp;omega)).trans (((aj _).block w.heap.size (by simp)).trans (heap_alloc_new w _)))
  have hB:=ak (ak hb1)
  clear hT hb1
  go_wp2
  exact bodyPost_ret (v:= .agg #[.int .i64 0,.int .i64 z]) (by simp[results,Tryz.results69,go_sem,c0,c1]) rfl ⟨rfl,(hB.setCell (Nat.le_refl _) _).setCell (Nat.le_refl _) _⟩
 ·rw[(Ug h).1,(Ug h).2]
  rcases wK h with h1 | h1
  ·go_enter Tryz.func69,Tryz.ntmps69
   go_wp2
   exact bodyPost_ret (v:= .agg #[.int .i64 3,.int .i64 0]) (by simp[results,Tryz.results69,go_sem]) rfl ⟨rfl,aj _⟩
  ·have n1:¬s<0:=by omega
   go_enter Tryz.func69,Tryz.ntmps69
   go_wp2
   exact bodyPost_ret (v:= .agg #[.int .i64 3,.int .i64 0]) (by simp[results,Tryz.results69,go_sem]) rfl ⟨rfl,aj _⟩
theorem Nl(tag a:Int)(u:Value)(w:World)(ht:0<=tag/\tag<=255)(hu:Ints .i64 w u [a])(ha:0<=a/\a<=65520):
  Calls Tryz.prog 175 #[.int .i64 tag,u] w fun e w'=>e = .returned (.int .i64 (bn (aZ tag [a])))/\Below w.heap.size w w':=by
 have h3 : [a].all aP=true:=by simp[bC,ha]
 have hB:=fun w h=>iP tag u [a] w h (by simp) ht h3
 have hS:=fun v w h=>kC v (aZ tag [a]) w h (lD ht h3) (by rw[jE];simp)
 have hl:(aZ tag [a]).length=3:=by rw[jE];rfl
 have HU:Hid (Ints .i64 w u [a]):=hu
 obtain⟨a',c',hu2⟩:=hu.shape
 have hu3:u = .slice a' 1 c':=hu2
 subst hu3
 clear hu2
 rw[hl]at hB
 have HL:Hid ((aZ tag [a]).length=3):=hl
 generalize bn (aZ tag [a])=s at *
 generalize aZ tag [a]=ys at *
 clear hu hl h3 ha ht
 go_enter Tryz.func175,Tryz.ntmps175
 go_wp2_with fail
 refine(hB _ HU.out).mono ?_
 rintro e w1 ⟨v',rfl,bG,hb1⟩
 rw[←HL.out]at bG
 have HI:Hid (Ints .u8 w1 v' ys):=gq bG
 obtain⟨a1,c1,rfl⟩:=aW bG
 rw[HL.out]at HI ⊢
 clear hB bG
 go_wp2_with fail
 refine(hS _ _ HI.out).mono ?_
 rintro e w2 ⟨rfl,rfl⟩
 clear hS
 go_wp2
 go_ret
 exact⟨rfl,hb1⟩
theorem JG(s:Int)(w:World)(h:0<=s/\s<=999):Calls Tryz.prog 150 #[.int .i64 s] w fun e w'=>e = .returned (.int .i64 (dH s))/\Below w.heap.size w w':=by
 have hT:=fun (w:World) u hu=>Nl 6 s u w (by omega) hu (by omega)
 unfold dH
 generalize bn (aZ 6 [s])=z at *
 go_enter Tryz.func150,Tryz.ntmps150
 go_wp2_with fail
 refine(hT _ _ (yV rfl)).mono ?_
 rintro e w1 ⟨rfl,hb1⟩
 clear hT
 go_wp2
 go_ret
 exact⟨rfl,ak hb1⟩
def tN(o:Option Rc)(full:Bool)(r:Rc)(ow:Int):Int:=
 match o with
 | some x=>if(r.l.toList==x.l.toList)=true then(if ow=x.o then(if r.v=x.v+1 then 0 else 7)else 8)else 6
 | none=>if r.v=1 then(if ow=r.o then(if full=true then 11 else 0)else 8)else 7
def nN(l:Rcl)(r:Rc)(s:Int):Int:=if inB s 0 999=true then tN (lkO l r.k) (decide (12<=l.length)) r (dH s)else 3
def upC(l:Rcl)(r:Rc)(s:Int):Int:=if aB l=0 then(if r.c=0 then nN l r s else r.c)else aB l
def aY(l:Rcl)(r:Rc):Nat->Bool × Rcl
 | 0=>(false,[])
 | k+1=>
  let d:=(aY l r k).1
  let o:=(aY l r k).2
  let o1:=if(!d&&decide (r.k<=(rAt l k).k))=true then o++[r]else o
  (d||decide (r.k<=(rAt l k).k),if(rAt l k).k=r.k then o1 else o1++[rAt l k])
def dQ(l:Rcl)(r:Rc):Rcl:=if(aY l r l.length).1=true then(aY l r l.length).2 else(aY l r l.length).2++[r]
def upL(l:Rcl)(r:Rc)(s:Int):Rcl:=if upC l r s=0 then dQ l r else []
def ltF(l:Rcl)(r:Rc):Rcl:=l.filter fun x=>decide (x.k<r.k)
def gtF(l:Rcl)(r:Rc):Rcl:=l.filter fun x=>decide (r.k<x.k)
def pY(l:Rcl)(r:Rc):Bool:=l.any fun x=>decide (r.k<=x.k)
theorem Sm(l:Rcl)(x r:Rc):ltF (l++[x]) r=ltF l r++(if x.k<r.k then [x]else []):=by
 unfold ltF
 rw[List.filter_append]
 congr 1
 by_cases h:x.k<r.k<;>simp[h]
theorem Ry(l:Rcl)(x r:Rc):gtF (l++[x]) r=gtF l r++(if r.k<x.k then [x]else []):=by
 unfold gtF
 rw[List.filter_append]
 congr 1
 by_cases h:r.k<x.k<;>simp[h]
theorem OE(l:Rcl)(x r:Rc):pY (l++[x]) r=(pY l r||decide (r.k<=x.k)):=by
 unfold pY
 rw[List.any_append]
 simp
theorem Ob(l:Rcl){k:Nat}(h:k<l.length):l.take (k+1)=l.take k++[rAt l k]:=by
 rw[List.take_add_one,List.getElem?_eq_getElem h,fA h]
 rfl
theorem FN{l:Rcl}{r:Rc}(h:pY l r=false):gtF l r=[]:=by
 unfold gtF
 rw[List.filter_eq_nil_iff]
 intro x hx
 unfold pY at h
 rw[List.any_eq_false]at h
 have:=h x hx
 simp at this ⊢
 omega
theorem Uw{l:Rcl}(hl:bM l){r:Rc}{k:Nat}(hk:k<l.length)(h:(rAt l k).k<=r.k):pY (l.take k) r=false:=by
 unfold pY
 rw[List.any_eq_false]
 intro x hx
 obtain⟨j,hj,rfl⟩:=List.mem_iff_getElem.1 hx
 rw[List.length_take]at hj
 have h1:=hl.rise k hk j (by omega)
 rw[fA (by omega)]at h1
 rw[List.getElem_take]
 simp
 omega
theorem La{l:Rcl}(hl:bM l)(r:Rc):∀k,k<=l.length->aY l r k=(pY (l.take k) r,ltF (l.take k) r++if pY (l.take k) r=true then r::gtF (l.take k) r else [])
 | 0,_=>rfl
 | k+1,hk=>by
  have ih:=La hl r k (by omega)
  have hno:=fun h=>Uw hl (r:=r) (k:=k) (by omega) h
  rw[Ob l (by omega),Sm,Ry,OE]
  show((aY l r k).1||decide (r.k<=(rAt l k).k),if(rAt l k).k=r.k then(if(!(aY l r k).1&&decide (r.k<=(rAt l k).k))=true then(aY l r k).2++[r]else(aY l r k).2)else(if(!(aY l r k).1&&decide (r.k<=(rAt l k).k))=true then(aY l r k).2++[r]else(aY l r k).2)++[rAt l k])=_
  rw[ih]
  generalize rAt l k=x at *
  have hg:=fun h=>FN (l:=l.take k) (r:=r) h
  generalize ltF (l.take k) r=a at *
  generalize gtF (l.take k) r=b at *
  rcases Int.lt_trichotomy x.k r.k with h | h | h
  ·have h0:=hno (by omega)
   rw[h0]
   have h1:¬x.k=r.k:=by omega
   have h2:¬r.k<=x.k:=by omega
   simp[h,h1,h2]
  ·have h0:=hno (by omega)
   rw[hg h0,h0]
   simp[h]
  ·have h1:¬x.k=r.k:=by omega
   have h2:¬x.k<r.k:=by omega
   have h3:r.k<=x.k:=by omega
   cases hd:pY (l.take k) r
   ·rw[hg hd]
    simp[h,h1,h2,h3]
   ·simp[h,h1,h2,h3]
theorem Df{l:Rcl}(hl:bM l)(r:Rc):dQ l r=ltF l r++r::gtF l r:=by
 unfold dQ
 rw[La hl r l.length (Nat.le_refl _),List.take_length]
 dsimp only
 cases hd:pY l r
 ·rw[FN hd]
  simp
 ·simp
theorem bM.pair{l:Rcl}(h:bM l):l.Pairwise (fun x y=>x.k<y.k):=by
 rw[List.pairwise_iff_getElem]
 intro i j hi hj hij
 have:=h.rise j hj i hij
 rw[fA hi,fA hj]at this
 exact this
theorem Ea{l:Rcl}(hl:bM l)(r:Rc):(dQ l r).Pairwise (fun x y=>x.k<y.k):=by
 rw[Df hl,List.pairwise_append]
 refine⟨hl.pair.filter _, ?_, ?_⟩
 ·rw[List.pairwise_cons]
  refine⟨fun y hy=> ?_,hl.pair.filter _⟩
  have:=(List.mem_filter.1 hy).2
  simpa using this
 ·intro x hx y hy
  have h1:x.k<r.k:=by simpa using(List.mem_filter.1 hx).2
  rcases List.mem_cons.1 hy with rfl | hy
  ·exact h1
  ·have h2:r.k<y.k:=by simpa using(List.mem_filter.1 hy).2
   omega
theorem Iz{l:Rcl}(hl:bM l)(r x:Rc):x∈dQ l r↔x=r∨(x∈l/\x.k≠r.k):=by
 rw[Df hl,List.mem_append,List.mem_cons]
 unfold ltF gtF
 rw[List.mem_filter,List.mem_filter]
 simp only[decide_eq_true_eq]
 constructor
 ·rintro(⟨h1,h2⟩|rfl |⟨h1,h2⟩)
  ·exact Or.inr ⟨h1,by omega⟩
  ·exact Or.inl rfl
  ·exact Or.inr ⟨h1,by omega⟩
 ·rintro(rfl |⟨h1,h2⟩)
  ·exact Or.inr (Or.inl rfl)
  ·rcases Int.lt_or_gt_of_ne h2 with h | h
   ·exact Or.inl ⟨h1,h⟩
   ·exact Or.inr (Or.inr ⟨h1,h⟩)
def upG(l:Rcl)(r:Rc)(x:Int):Option Rc:=if x=r.k then some r else aX l l.length x
theorem rC{l:Rcl}(hl:bM l){x:Int}{y:Rc}:aX l l.length x=some y↔y∈l/\y.k=x:=by
 rw[lI hl]
 constructor
 ·intro h
  have:=sD h
  exact⟨this.2,this.1⟩
 ·rintro⟨h1,h2⟩
  obtain⟨j,hj,rfl⟩:=List.mem_iff_getElem.1 h1
  rw[←fA hj]at h2 ⊢
  rw[←lI hl]
  exact tK h2 _ hj (fun i hi e=>hl.one hi hj (by rw[e,h2]))
theorem lK{l:Rcl}(hl:bM l){r:Rc}{x:Int}{y:Rc}:upG l r x=some y↔y∈dQ l r/\y.k=x:=by
 unfold upG
 rw[Iz hl]
 by_cases h:x=r.k
 ·rw[if_pos h]
  constructor
  ·intro e
   cases e
   exact⟨Or.inl rfl,h.symm⟩
  ·rintro⟨rfl |⟨h1,h2⟩,h3⟩
   ·rfl
   ·exact absurd (h3.trans h) h2
 ·rw[if_neg h,rC hl]
  constructor
  ·rintro⟨h1,h2⟩
   exact⟨Or.inr ⟨h1,by rw[h2];exact h⟩,h2⟩
  ·rintro⟨rfl |⟨h1,h2⟩,h3⟩
   ·exact absurd h3.symm h
   ·exact⟨h1,h3⟩
theorem II:∀ {a b:List Int},a.Pairwise (· < ·)->b.Pairwise (· < ·)->(∀x,x∈a↔x∈b)->a=b
 | [],[],_,_,_=>rfl
 | [],y::b,_,_,h=>by have:=(h y).2 (by simp);cases this
 | x::a,[],_,_,h=>by have:=(h x).1 (by simp);cases this
 | x::a,y::b,ha,hb,h=>by
  obtain⟨ha1,ha2⟩:=List.pairwise_cons.1 ha
  obtain⟨hb1,hb2⟩:=List.pairwise_cons.1 hb
  have hxy:x=y:=by
   rcases List.mem_cons.1 ((h x).1 (by simp))with e | e
   ·exact e
   ·rcases List.mem_cons.1 ((h y).2 (by simp))with e2 | e2
    ·exact e2.symm
    ·have:=hb1 x e;have:=ha1 y e2;omega
  subst hxy
  congr 1
  refine II ha2 hb2 (fun z=>⟨fun hz=> ?_,fun hz=> ?_⟩)
  ·rcases List.mem_cons.1 ((h z).1 (by simp[hz]))with e | e
   ·have:=ha1 z hz;omega
   ·exact e
  ·rcases List.mem_cons.1 ((h z).2 (by simp[hz]))with e | e
   ·have:=hb1 z hz;omega
   ·exact e
theorem qF{l:Rcl}(hl:bM l)(r:Rc){ks:List Int}(hs:ks.Pairwise (· < ·))(hm:∀x,x∈ks↔(upG l r x).isSome=true):ks.map (fun x=>(upG l r x).getD rcZ)=dQ l r:=by
 have e:ks=(dQ l r).map (fun y=>y.k):=by
  refine II hs ?_ (fun x=> ?_)
  ·rw[List.pairwise_map]
   exact Ea hl r
  ·rw[hm,List.mem_map,Option.isSome_iff_exists]
   constructor
   ·rintro⟨y,hy⟩
    have:=(lK hl).1 hy
    exact⟨y,this.1,this.2⟩
   ·rintro⟨y,h1,h2⟩
    exact⟨y,(lK hl).2 ⟨h1,h2⟩⟩
 rw[e,List.map_map]
 have:∀y∈dQ l r,((fun x=>(upG l r x).getD rcZ)∘fun y=>y.k) y=y:=fun y hy=>by
  show(upG l r y.k).getD rcZ=y
  rw[(lK hl).2 ⟨hy,rfl⟩]
  rfl
 rw[List.map_congr_left this]
 exact List.map_id _
theorem xq(r:Rc):∀l:Rcl,(ltF l r).length+(gtF l r).length<=l.length
 | []=>Nat.le_refl _
 | x::t=>by
  have ih:=xq r t
  unfold ltF gtF at ih ⊢
  rw[List.filter_cons,List.filter_cons]
  rcases Int.lt_trichotomy x.k r.k with h | h | h
  ·have h2:¬r.k<x.k:=by omega
   simp[h,h2]
   omega
  ·have h1:¬x.k<r.k:=by omega
   have h2:¬r.k<x.k:=by omega
   simp[h1,h2]
   omega
  ·have h1:¬x.k<r.k:=by omega
   simp[h,h1]
   omega
end U
end Go.Proofs.YtmmcgjacojgeaaaGreat
namespace Go.Proofs.YtmmcgjacojgeaaaGreat
open Go.RowKit Go.Maps
namespace U
theorem PY(g og b off c n:Nat)(l:Rcl)(key:Int)(w:World)(hn:n<=12)(hg:g<w.heap.size)(hb:b<w.heap.size)(hsm:∀j,j<n->(rAt l j).l.size<=12)
  (hD:w.cell? ⟨g,og,none⟩=some (.slice (some ⟨b,off,none⟩) n c)) (hc:∀j,j<n->dG w b (off+j*4) (rAt l j)) :
  Calls Tryz.prog 149 #[.pointer (some ⟨g,og,none⟩),.int .i64 key] w fun e w'=>e = .returned (.int .i64 (atK l key n 0))/\Below w.heap.size w w':=by
 obtain⟨q,hq⟩:∃q,q=atK l key n 0:=⟨_,rfl⟩
 have HQ:Hid (atK l key n 0=q):=hq.symm
 rw[←hq]
 clear hq
 have HD:Hid (∀w',Below w.heap.size w w'->w'.cell? ⟨g,og,none⟩=some (.slice (some ⟨b,off,none⟩) n c)):=fun w' h=>(h.cell (p:=⟨g,og,none⟩) hg).trans hD
 go_enter Tryz.func149,Tryz.ntmps149
 go_wp2
 go_loopw [5] (fun i wr=>∃k:Nat,k<=n/\i = .int .i64 k/\Hid (Below w.heap.size w wr)/\Hid (atK l key (n - k) k=q)) (fun i _=>n - (intOf i).toNat)
 case atStart=>exact⟨0,Nat.zero_le _,rfl,Below.refl _ _,HQ⟩
 case round=>
  obtain⟨k,hk,rfl,hB,HS⟩:=hrel
  have Ap:=HD.out _ hB.out
  by_cases hkn:k<n
  ·have hki:(k:Int)<(n:Int):=by omega
   have d0:=((hc k hkn).below hB.out hb).c0
   have hK:=fun w=>ku (rAt l k).l w (hsm k hkn)
   have e2:aS (rAt l k).l=(rAt l k).k:=rfl
   rw[e2]at hK
   have jM:Hid (n - k=(n - k - 1)+1):=(by omega:n - k=(n - k - 1)+1)
   have HH:Hid ((rAt l k).k=key->q=k):=(fun h=>by rw[←HS.out,jM.out];exact KA h:(rAt l k).k=key->q=k)
   have HM:Hid (¬(rAt l k).k=key->atK l key (n - k - 1) (k+1)=q):=(fun h=>by rw[←HS.out,jM.out];exact(Fj h).symm:¬(rAt l k).k=key->atK l key (n - k - 1) (k+1)=q)
   generalize (rAt l k).k=kz at *
   generalize (rAt l k).l=x0 at *
   clear hc e2 hsm
   by_cases hkk:kz=key
   ·subst hkk
    have fK:Hid (q=k):=HH.out rfl
    clear HH HM
    go_wp2_with fail
    refine(hK _).mono ?_
    rintro e w1 ⟨rfl,hb1⟩
    have HB1:Hid (Below w.heap.size w w1):=ah hB.out hb1
    clear hK hb1
    go_wp2
    go_ret
    exact⟨aC fK.out.symm,HB1.out⟩
   ·have hbn:(kz==key)=false:=by simpa using hkk
    have fK:Hid (atK l key (n - k - 1) (k+1)=q):=HM.out hkk
    clear HH HM hkk
    go_wp2_with fail
    refine(hK _).mono ?_
    rintro e w1 ⟨rfl,hb1⟩
    have HB1:Hid (Below w.heap.size w w1):=ah hB.out hb1
    clear hK hb1
    go_wp2
    go_roundw
    case rel=>exact⟨k+1,by omega,by go_num,HB1,by rw[show n - (k+1)=n - k - 1 by omega];exact fK⟩
    case measure=>simp[intOf];omega
  ·have hkn:k=n:=by omega
   subst hkn
   have e0:Hid (q = -1):=(by rw[←HS.out,Nat.sub_self];rfl:q = -1)
   clear hc
   go_wp2
   go_ret
   exact⟨aC e0.out.symm,hB.out⟩
theorem RZ(g og:Nat)(v:Value)(l:Rcl)(key:Int)(w:World)(hg:g<w.heap.size)(hD:w.cell? ⟨g,og,none⟩=some v)(hv:Rcs w v l)(hok:bM l):
  Calls Tryz.prog 149 #[.pointer (some ⟨g,og,none⟩),.int .i64 key] w fun e w'=>e = .returned (.int .i64 (atI l key))/\Below w.heap.size w w':=by
 obtain⟨a,c,rfl⟩:=hv.shape
 by_cases h0:0<l.length
 ·obtain⟨_,b,off,rfl,hb,hc⟩:=hv.at h0
  exact PY g og b off c l.length l key w hok.len hg hb (fun j hj=>Rc.jC (hok.ok j hj)) hD hc
 ·have e1:l=[]:=List.eq_nil_of_length_eq_zero (by omega)
  subst e1
  have e2:atI [] key = -1:=rfl
  rw[e2]
  simp only[List.length_nil]at *
  clear hv h0 hok e2
  go_enter Tryz.func149,Tryz.ntmps149
  go_wp2
  refine wp_loop_rounds 1 ?_;rw[rounds_succ]
  go_wp2
  go_ret
  exact⟨rfl,Below.refl _ _⟩
end U
end Go.Proofs.YtmmcgjacojgeaaaGreat
namespace Go.Proofs.YtmmcgjacojgeaaaGreat
open Go.RowKit
namespace U
theorem JF(g og p po b off c n j:Nat)(s:Int)(x0 r0:ByteArray)(x1 x2 r1 r2 ow kz:Int)(w:World)(hg:g<w.heap.size)(hp:p<w.heap.size)(hb:b<w.heap.size)(hj:j<n)(hD:w.cell? ⟨g,og,none⟩=some (.slice (some ⟨b,off,none⟩) n c))
  (hx0:w.cell? ⟨b,off+j*4,none⟩=some (.string x0)) (hx1:w.cell? ⟨b,off+j*4+1,none⟩=some (.int .i64 x1)) (hx2:w.cell? ⟨b,off+j*4+2,none⟩=some (.int .i64 x2)) (hr0:w.cell? ⟨p,po,none⟩=some (.string r0)) (hr1:w.cell? ⟨p,po+1,none⟩=some (.int .i64 r1)) (hr2:w.cell? ⟨p,po+2,none⟩=some (.int .i64 r2)) (_:1<=x1/\x1<=999) (hs:inB s 0 999=true)
  (hl:(x0.toList==r0.toList)=false)
  (hK:∀w',Calls Tryz.prog 104 #[.string r0] w' fun e w''=>e = .returned (.int .i64 kz)/\Below w'.heap.size w' w'') (hA:∀w',Below w.heap.size w w'->Calls Tryz.prog 149 #[.pointer (some ⟨g,og,none⟩),.int .i64 kz] w' fun e w''=>e = .returned (.int .i64 (j:Int))/\Below w'.heap.size w' w'') (_:∀w',Calls Tryz.prog 150 #[.int .i64 s] w' fun e w''=>e = .returned (.int .i64 ow)/\Below w'.heap.size w' w'') :
  Calls Tryz.prog 110 #[.pointer (some ⟨g,og,none⟩),.pointer (some ⟨p,po,none⟩),.int .i64 s] w fun e w'=>e = .returned (.int .i64 6)/\Below w.heap.size w w':=by
 have hI:=fun w=>bg s 0 999 w
 rw[hs]at hI
 have hji:(j:Int)<(n:Int):=by omega
 have hj0:decide ((j:Int)<0)=false:=by simp
 have hj1:decide (0<=(j:Int))=true:=by simp
 have HR:Hid (∀w',Below w.heap.size w w'->w'.cell? ⟨g,og,none⟩=some (.slice (some ⟨b,off,none⟩) n c)/\w'.cell? ⟨p,po,none⟩=some (.string r0)/\w'.cell? ⟨p,po+1,none⟩=some (.int .i64 r1)/\w'.cell? ⟨p,po+2,none⟩=some (.int .i64 r2)/\w'.cell? ⟨b,off+j*4,none⟩=some (.string x0)/\w'.cell? ⟨b,off+j*4+1,none⟩=some (.int .i64 x1)/\w'.cell? ⟨b,off+j*4+2,none⟩=some (.int .i64 x2)):=fun w' h=>⟨(h.cell (p:=⟨g,og,none⟩) hg).trans hD,(h.cell (p:=⟨p,po,none⟩) hp).trans hr0,(h.cell (p:=⟨p,po+1,none⟩) hp).trans hr1,(h.cell (p:=⟨p,po+2,none⟩) hp).trans hr2,(h.cell (p:=⟨b,off+j*4,none⟩) hb).trans hx0,(h.cell (p:=⟨b,off+j*4+1,none⟩) hb).trans hx1,(h.cell (p:=⟨b,off+j*4+2,none⟩) hb).trans hx2⟩
 clear hs hD hr1 hr2 hx0 hx1 hx2
 go_enter Tryz.func110,Tryz.ntmps110
 go_wp2_with fail
 refine(hI _).mono ?_
 rintro e w0 ⟨rfl,rfl⟩
 clear hI
 go_wp2_with fail
 refine(hK _).mono ?_
 rintro e w1 ⟨rfl,hb1⟩
 clear hK hr0
 go_wp2_with fail
 refine(hA _ hb1).mono ?_
 rintro e w2 ⟨rfl,hb2⟩
 have hB2:=ah hb1 hb2
 clear hA hb1 hb2
 obtain⟨kD,k0,k1,k2,m0,m1,m2⟩:=HR.out _ hB2
 have dM:=After.cell kD
 have dJ:=After.cell k0
 have dK:=After.cell k1
 have dL:=After.cell k2
 have mO:=After.cell m0
 have mP:=After.cell m1
 have mQ:=After.cell m2
 have hne:=After.ne w2
 go_wp2_with fail
 refine au (by kernel_rfl) (by kernel_rfl) ?_
 repeat(first | go_big_quiet_skip |(go_big_quiet_want;go_big_quiet_op;first | go_big_quiet_on | go_big_quiet_call (first |(go_at_call 150;refine(dO _).mono ?_;rintro e wq ⟨rfl,hbq⟩;exact⟨rfl,aA (ah (After.b _) hbq)⟩))))
 refine wpQuiet_nil ?_
 rintro _ ⟨n2,rfl⟩
 have hB3:=ah hB2 n2.b
 generalize n2.w=w3 at *
 clear hne n2 dM dJ dK dL mO mP mQ kD k0 k1 k2 m0 m1 m2 hB2
 obtain⟨kD,k0,k1,k2,m0,m1,m2⟩:=HR.out _ hB3
 go_wp2
 go_ret
 exact⟨rfl,hB3⟩
theorem JE(g og p po b off c n j:Nat)(s:Int)(x0 r0:ByteArray)(x1 x2 r1 r2 ow kz:Int)(w:World)(hg:g<w.heap.size)(hp:p<w.heap.size)(hb:b<w.heap.size)(hj:j<n)(hD:w.cell? ⟨g,og,none⟩=some (.slice (some ⟨b,off,none⟩) n c))
  (hx0:w.cell? ⟨b,off+j*4,none⟩=some (.string x0)) (hx1:w.cell? ⟨b,off+j*4+1,none⟩=some (.int .i64 x1)) (hx2:w.cell? ⟨b,off+j*4+2,none⟩=some (.int .i64 x2)) (hr0:w.cell? ⟨p,po,none⟩=some (.string r0)) (hr1:w.cell? ⟨p,po+1,none⟩=some (.int .i64 r1)) (hr2:w.cell? ⟨p,po+2,none⟩=some (.int .i64 r2)) (_:1<=x1/\x1<=999) (hs:inB s 0 999=true)
  (hl:(x0.toList==r0.toList)=true) (ho:(x2 != ow)=true)
  (hK:∀w',Calls Tryz.prog 104 #[.string r0] w' fun e w''=>e = .returned (.int .i64 kz)/\Below w'.heap.size w' w'') (hA:∀w',Below w.heap.size w w'->Calls Tryz.prog 149 #[.pointer (some ⟨g,og,none⟩),.int .i64 kz] w' fun e w''=>e = .returned (.int .i64 (j:Int))/\Below w'.heap.size w' w'') (dO:∀w',Calls Tryz.prog 150 #[.int .i64 s] w' fun e w''=>e = .returned (.int .i64 ow)/\Below w'.heap.size w' w'') :
  Calls Tryz.prog 110 #[.pointer (some ⟨g,og,none⟩),.pointer (some ⟨p,po,none⟩),.int .i64 s] w fun e w'=>e = .returned (.int .i64 8)/\Below w.heap.size w w':=by
 have hI:=fun w=>bg s 0 999 w
 rw[hs]at hI
 have hji:(j:Int)<(n:Int):=by omega
 have hj0:decide ((j:Int)<0)=false:=by simp
 have hj1:decide (0<=(j:Int))=true:=by simp
 have HR:Hid (∀w',Below w.heap.size w w'->w'.cell? ⟨g,og,none⟩=some (.slice (some ⟨b,off,none⟩) n c)/\w'.cell? ⟨p,po,none⟩=some (.string r0)/\w'.cell? ⟨p,po+1,none⟩=some (.int .i64 r1)/\w'.cell? ⟨p,po+2,none⟩=some (.int .i64 r2)/\w'.cell? ⟨b,off+j*4,none⟩=some (.string x0)/\w'.cell? ⟨b,off+j*4+1,none⟩=some (.int .i64 x1)/\w'.cell? ⟨b,off+j*4+2,none⟩=some (.int .i64 x2)):=fun w' h=>⟨(h.cell (p:=⟨g,og,none⟩) hg).trans hD,(h.cell (p:=⟨p,po,none⟩) hp).trans hr0,(h.cell (p:=⟨p,po+1,none⟩) hp).trans hr1,(h.cell (p:=⟨p,po+2,none⟩) hp).trans hr2,(h.cell (p:=⟨b,off+j*4,none⟩) hb).trans hx0,(h.cell (p:=⟨b,off+j*4+1,none⟩) hb).trans hx1,(h.cell (p:=⟨b,off+j*4+2,none⟩) hb).trans hx2⟩
 clear hs hD hr1 hr2 hx0 hx1 hx2
 go_enter Tryz.func110,Tryz.ntmps110
 go_wp2_with fail
 refine(hI _).mono ?_
 rintro e w0 ⟨rfl,rfl⟩
 clear hI
 go_wp2_with fail
 refine(hK _).mono ?_
 rintro e w1 ⟨rfl,hb1⟩
 clear hK hr0
 go_wp2_with fail
 refine(hA _ hb1).mono ?_
 rintro e w2 ⟨rfl,hb2⟩
 have hB2:=ah hb1 hb2
 clear hA hb1 hb2
 obtain⟨kD,k0,k1,k2,m0,m1,m2⟩:=HR.out _ hB2
 have dM:=After.cell kD
 have dJ:=After.cell k0
 have dK:=After.cell k1
 have dL:=After.cell k2
 have mO:=After.cell m0
 have mP:=After.cell m1
 have mQ:=After.cell m2
 have hne:=After.ne w2
 go_wp2_with fail
 refine au (by kernel_rfl) (by kernel_rfl) ?_
 repeat(first | go_big_quiet_skip |(go_big_quiet_want;go_big_quiet_op;first | go_big_quiet_on | go_big_quiet_call (first |(go_at_call 150;refine(dO _).mono ?_;rintro e wq ⟨rfl,hbq⟩;exact⟨rfl,aA (ah (After.b _) hbq)⟩))))
 refine wpQuiet_nil ?_
 rintro _ ⟨n2,rfl⟩
 have hB3:=ah hB2 n2.b
 generalize n2.w=w3 at *
 clear hne n2 dM dJ dK dL mO mP mQ kD k0 k1 k2 m0 m1 m2 hB2
 obtain⟨kD,k0,k1,k2,m0,m1,m2⟩:=HR.out _ hB3
 have dM:=After.cell kD
 have dJ:=After.cell k0
 have dK:=After.cell k1
 have dL:=After.cell k2
 have mO:=After.cell m0
 have mP:=After.cell m1
 have mQ:=After.cell m2
 have hne:=After.ne w3
 go_wp2_with fail
 refine au (by kernel_rfl) (by kernel_rfl) ?_
 repeat(first | go_big_quiet_skip |(go_big_quiet_want;go_big_quiet_op;first | go_big_quiet_on | go_big_quiet_call (first |(go_at_call 150;refine(dO _).mono ?_;rintro e wq ⟨rfl,hbq⟩;exact⟨rfl,aA (ah (After.b _) hbq)⟩))))
 refine wpQuiet_nil ?_
 rintro _ ⟨n3,rfl⟩
 have hB4:=ah hB3 n3.b
 generalize n3.w=w4 at *
 clear hne n3 dM dJ dK dL mO mP mQ kD k0 k1 k2 m0 m1 m2 hB3
 obtain⟨kD,k0,k1,k2,m0,m1,m2⟩:=HR.out _ hB4
 go_wp2
 go_ret
 exact⟨rfl,hB4⟩
theorem EG(g og p po b off c n j:Nat)(s:Int)(x0 r0:ByteArray)(x1 x2 r1 r2 ow kz:Int)(w:World)(hg:g<w.heap.size)(hp:p<w.heap.size)(hb:b<w.heap.size)(hj:j<n)(hD:w.cell? ⟨g,og,none⟩=some (.slice (some ⟨b,off,none⟩) n c))
  (hx0:w.cell? ⟨b,off+j*4,none⟩=some (.string x0)) (hx1:w.cell? ⟨b,off+j*4+1,none⟩=some (.int .i64 x1)) (hx2:w.cell? ⟨b,off+j*4+2,none⟩=some (.int .i64 x2)) (hr0:w.cell? ⟨p,po,none⟩=some (.string r0)) (hr1:w.cell? ⟨p,po+1,none⟩=some (.int .i64 r1)) (hr2:w.cell? ⟨p,po+2,none⟩=some (.int .i64 r2)) (hv:1<=x1/\x1<=999) (hs:inB s 0 999=true)
  (hl:(x0.toList==r0.toList)=true) (ho:(x2 != ow)=false) (hvn:(x1+1 != r1)=true)
  (hK:∀w',Calls Tryz.prog 104 #[.string r0] w' fun e w''=>e = .returned (.int .i64 kz)/\Below w'.heap.size w' w'') (hA:∀w',Below w.heap.size w w'->Calls Tryz.prog 149 #[.pointer (some ⟨g,og,none⟩),.int .i64 kz] w' fun e w''=>e = .returned (.int .i64 (j:Int))/\Below w'.heap.size w' w'') (dO:∀w',Calls Tryz.prog 150 #[.int .i64 s] w' fun e w''=>e = .returned (.int .i64 ow)/\Below w'.heap.size w' w'') :
  Calls Tryz.prog 110 #[.pointer (some ⟨g,og,none⟩),.pointer (some ⟨p,po,none⟩),.int .i64 s] w fun e w'=>e = .returned (.int .i64 7)/\Below w.heap.size w w':=by
 have hI:=fun w=>bg s 0 999 w
 rw[hs]at hI
 have hji:(j:Int)<(n:Int):=by omega
 have hj0:decide ((j:Int)<0)=false:=by simp
 have hj1:decide (0<=(j:Int))=true:=by simp
 have HR:Hid (∀w',Below w.heap.size w w'->w'.cell? ⟨g,og,none⟩=some (.slice (some ⟨b,off,none⟩) n c)/\w'.cell? ⟨p,po,none⟩=some (.string r0)/\w'.cell? ⟨p,po+1,none⟩=some (.int .i64 r1)/\w'.cell? ⟨p,po+2,none⟩=some (.int .i64 r2)/\w'.cell? ⟨b,off+j*4,none⟩=some (.string x0)/\w'.cell? ⟨b,off+j*4+1,none⟩=some (.int .i64 x1)/\w'.cell? ⟨b,off+j*4+2,none⟩=some (.int .i64 x2)):=fun w' h=>⟨(h.cell (p:=⟨g,og,none⟩) hg).trans hD,(h.cell (p:=⟨p,po,none⟩) hp).trans hr0,(h.cell (p:=⟨p,po+1,none⟩) hp).trans hr1,(h.cell (p:=⟨p,po+2,none⟩) hp).trans hr2,(h.cell (p:=⟨b,off+j*4,none⟩) hb).trans hx0,(h.cell (p:=⟨b,off+j*4+1,none⟩) hb).trans hx1,(h.cell (p:=⟨b,off+j*4+2,none⟩) hb).trans hx2⟩
 clear hs hD hr1 hr2 hx0 hx1 hx2
 go_enter Tryz.func110,Tryz.ntmps110
 go_wp2_with fail
 refine(hI _).mono ?_
 rintro e w0 ⟨rfl,rfl⟩
 clear hI
 go_wp2_with fail
 refine(hK _).mono ?_
 rintro e w1 ⟨rfl,hb1⟩
 clear hK hr0
 go_wp2_with fail
 refine(hA _ hb1).mono ?_
 rintro e w2 ⟨rfl,hb2⟩
 have hB2:=ah hb1 hb2
 clear hA hb1 hb2
 obtain⟨kD,k0,k1,k2,m0,m1,m2⟩:=HR.out _ hB2
 have dM:=After.cell kD
 have dJ:=After.cell k0
 have dK:=After.cell k1
 have dL:=After.cell k2
 have mO:=After.cell m0
 have mP:=After.cell m1
 have mQ:=After.cell m2
 have hne:=After.ne w2
 go_wp2_with fail
 refine au (by kernel_rfl) (by kernel_rfl) ?_
 repeat(first | go_big_quiet_skip |(go_big_quiet_want;go_big_quiet_op;first | go_big_quiet_on | go_big_quiet_call (first |(go_at_call 150;refine(dO _).mono ?_;rintro e wq ⟨rfl,hbq⟩;exact⟨rfl,aA (ah (After.b _) hbq)⟩))))
 refine wpQuiet_nil ?_
 rintro _ ⟨n2,rfl⟩
 have hB3:=ah hB2 n2.b
 generalize n2.w=w3 at *
 clear hne n2 dM dJ dK dL mO mP mQ kD k0 k1 k2 m0 m1 m2 hB2
 obtain⟨kD,k0,k1,k2,m0,m1,m2⟩:=HR.out _ hB3
 have dM:=After.cell kD
 have dJ:=After.cell k0
 have dK:=After.cell k1
 have dL:=After.cell k2
 have mO:=After.cell m0
 have mP:=After.cell m1
 have mQ:=After.cell m2
 have hne:=After.ne w3
 go_wp2_with fail
 refine au (by kernel_rfl) (by kernel_rfl) ?_
 repeat(first | go_big_quiet_skip |(go_big_quiet_want;go_big_quiet_op;first | go_big_quiet_on | go_big_quiet_call (first |(go_at_call 150;refine(dO _).mono ?_;rintro e wq ⟨rfl,hbq⟩;exact⟨rfl,aA (ah (After.b _) hbq)⟩))))
 refine wpQuiet_nil ?_
 rintro _ ⟨n3,rfl⟩
 have hB4:=ah hB3 n3.b
 generalize n3.w=w4 at *
 clear hne n3 dM dJ dK dL mO mP mQ kD k0 k1 k2 m0 m1 m2 hB3
 obtain⟨kD,k0,k1,k2,m0,m1,m2⟩:=HR.out _ hB4
 have dM:=After.cell kD
 have dJ:=After.cell k0
 have dK:=After.cell k1
 have dL:=After.cell k2
 have mO:=After.cell m0
 have mP:=After.cell m1
 have mQ:=After.cell m2
 have hne:=After.ne w4
 go_wp2_with fail
 refine au (by kernel_rfl) (by kernel_rfl) ?_
 repeat(first | go_big_quiet_skip |(go_big_quiet_want;go_big_quiet_op;first | go_big_quiet_on | go_big_quiet_call (first |(go_at_call 150;refine(dO _).mono ?_;rintro e wq ⟨rfl,hbq⟩;exact⟨rfl,aA (ah (After.b _) hbq)⟩))))
 refine wpQuiet_nil ?_
 rintro _ ⟨n4,rfl⟩
 have jl:=ah hB4 n4.b
 generalize n4.w=w5 at *
 clear hne n4 dM dJ dK dL mO mP mQ kD k0 k1 k2 m0 m1 m2 hB4
 obtain⟨kD,k0,k1,k2,m0,m1,m2⟩:=HR.out _ jl
 go_wp2
 go_ret
 exact⟨rfl,jl⟩
theorem Si(g og p po b off c n j:Nat)(s:Int)(x0 r0:ByteArray)(x1 x2 r1 r2 ow kz:Int)(w:World)(hg:g<w.heap.size)(hp:p<w.heap.size)(hb:b<w.heap.size)(hj:j<n)(hD:w.cell? ⟨g,og,none⟩=some (.slice (some ⟨b,off,none⟩) n c))
  (hx0:w.cell? ⟨b,off+j*4,none⟩=some (.string x0)) (hx1:w.cell? ⟨b,off+j*4+1,none⟩=some (.int .i64 x1)) (hx2:w.cell? ⟨b,off+j*4+2,none⟩=some (.int .i64 x2)) (hr0:w.cell? ⟨p,po,none⟩=some (.string r0)) (hr1:w.cell? ⟨p,po+1,none⟩=some (.int .i64 r1)) (hr2:w.cell? ⟨p,po+2,none⟩=some (.int .i64 r2)) (hv:1<=x1/\x1<=999) (hs:inB s 0 999=true)
  (hl:(x0.toList==r0.toList)=true) (ho:(x2 != ow)=false) (hvn:(x1+1 != r1)=false)
  (hK:∀w',Calls Tryz.prog 104 #[.string r0] w' fun e w''=>e = .returned (.int .i64 kz)/\Below w'.heap.size w' w'') (hA:∀w',Below w.heap.size w w'->Calls Tryz.prog 149 #[.pointer (some ⟨g,og,none⟩),.int .i64 kz] w' fun e w''=>e = .returned (.int .i64 (j:Int))/\Below w'.heap.size w' w'') (dO:∀w',Calls Tryz.prog 150 #[.int .i64 s] w' fun e w''=>e = .returned (.int .i64 ow)/\Below w'.heap.size w' w'') :
  Calls Tryz.prog 110 #[.pointer (some ⟨g,og,none⟩),.pointer (some ⟨p,po,none⟩),.int .i64 s] w fun e w'=>e = .returned (.int .i64 0)/\Below w.heap.size w w':=by
 have hI:=fun w=>bg s 0 999 w
 rw[hs]at hI
 have hji:(j:Int)<(n:Int):=by omega
 have hj0:decide ((j:Int)<0)=false:=by simp
 have hj1:decide (0<=(j:Int))=true:=by simp
 have HR:Hid (∀w',Below w.heap.size w w'->w'.cell? ⟨g,og,none⟩=some (.slice (some ⟨b,off,none⟩) n c)/\w'.cell? ⟨p,po,none⟩=some (.string r0)/\w'.cell? ⟨p,po+1,none⟩=some (.int .i64 r1)/\w'.cell? ⟨p,po+2,none⟩=some (.int .i64 r2)/\w'.cell? ⟨b,off+j*4,none⟩=some (.string x0)/\w'.cell? ⟨b,off+j*4+1,none⟩=some (.int .i64 x1)/\w'.cell? ⟨b,off+j*4+2,none⟩=some (.int .i64 x2)):=fun w' h=>⟨(h.cell (p:=⟨g,og,none⟩) hg).trans hD,(h.cell (p:=⟨p,po,none⟩) hp).trans hr0,(h.cell (p:=⟨p,po+1,none⟩) hp).trans hr1,(h.cell (p:=⟨p,po+2,none⟩) hp).trans hr2,(h.cell (p:=⟨b,off+j*4,none⟩) hb).trans hx0,(h.cell (p:=⟨b,off+j*4+1,none⟩) hb).trans hx1,(h.cell (p:=⟨b,off+j*4+2,none⟩) hb).trans hx2⟩
 clear hs hD hr1 hr2 hx0 hx1 hx2
 go_enter Tryz.func110,Tryz.ntmps110
 go_wp2_with fail
 refine(hI _).mono ?_
 rintro e w0 ⟨rfl,rfl⟩
 clear hI
 go_wp2_with fail
 refine(hK _).mono ?_
 rintro e w1 ⟨rfl,hb1⟩
 clear hK hr0
 go_wp2_with fail
 refine(hA _ hb1).mono ?_
 rintro e w2 ⟨rfl,hb2⟩
 have hB2:=ah hb1 hb2
 clear hA hb1 hb2
 obtain⟨kD,k0,k1,k2,m0,m1,m2⟩:=HR.out _ hB2
 have dM:=After.cell kD
 have dJ:=After.cell k0
 have dK:=After.cell k1
 have dL:=After.cell k2
 have mO:=After.cell m0
 have mP:=After.cell m1
 have mQ:=After.cell m2
 have hne:=After.ne w2
 go_wp2_with fail
 refine au (by kernel_rfl) (by kernel_rfl) ?_
 repeat(first | go_big_quiet_skip |(go_big_quiet_want;go_big_quiet_op;first | go_big_quiet_on | go_big_quiet_call (first |(go_at_call 150;refine(dO _).mono ?_;rintro e wq ⟨rfl,hbq⟩;exact⟨rfl,aA (ah (After.b _) hbq)⟩))))
 refine wpQuiet_nil ?_
 rintro _ ⟨n2,rfl⟩
 have hB3:=ah hB2 n2.b
 generalize n2.w=w3 at *
 clear hne n2 dM dJ dK dL mO mP mQ kD k0 k1 k2 m0 m1 m2 hB2
 obtain⟨kD,k0,k1,k2,m0,m1,m2⟩:=HR.out _ hB3
 have dM:=After.cell kD
 have dJ:=After.cell k0
 have dK:=After.cell k1
 have dL:=After.cell k2
 have mO:=After.cell m0
 have mP:=After.cell m1
 have mQ:=After.cell m2
 have hne:=After.ne w3
 go_wp2_with fail
 refine au (by kernel_rfl) (by kernel_rfl) ?_
 repeat(first | go_big_quiet_skip |(go_big_quiet_want;go_big_quiet_op;first | go_big_quiet_on | go_big_quiet_call (first |(go_at_call 150;refine(dO _).mono ?_;rintro e wq ⟨rfl,hbq⟩;exact⟨rfl,aA (ah (After.b _) hbq)⟩))))
 refine wpQuiet_nil ?_
 rintro _ ⟨n3,rfl⟩
 have hB4:=ah hB3 n3.b
 generalize n3.w=w4 at *
 clear hne n3 dM dJ dK dL mO mP mQ kD k0 k1 k2 m0 m1 m2 hB3
 obtain⟨kD,k0,k1,k2,m0,m1,m2⟩:=HR.out _ hB4
 have dM:=After.cell kD
 have dJ:=After.cell k0
 have dK:=After.cell k1
 have dL:=After.cell k2
 have mO:=After.cell m0
 have mP:=After.cell m1
 have mQ:=After.cell m2
 have hne:=After.ne w4
 go_wp2_with fail
 refine au (by kernel_rfl) (by kernel_rfl) ?_
 repeat(first | go_big_quiet_skip |(go_big_quiet_want;go_big_quiet_op;first | go_big_quiet_on | go_big_quiet_call (first |(go_at_call 150;refine(dO _).mono ?_;rintro e wq ⟨rfl,hbq⟩;exact⟨rfl,aA (ah (After.b _) hbq)⟩))))
 refine wpQuiet_nil ?_
 rintro _ ⟨n4,rfl⟩
 have jl:=ah hB4 n4.b
 generalize n4.w=w5 at *
 clear hne n4 dM dJ dK dL mO mP mQ kD k0 k1 k2 m0 m1 m2 hB4
 obtain⟨kD,k0,k1,k2,m0,m1,m2⟩:=HR.out _ jl
 have dM:=After.cell kD
 have dJ:=After.cell k0
 have dK:=After.cell k1
 have dL:=After.cell k2
 have mO:=After.cell m0
 have mP:=After.cell m1
 have mQ:=After.cell m2
 have hne:=After.ne w5
 go_wp2_with fail
 refine au (by kernel_rfl) (by kernel_rfl) ?_
 repeat(first | go_big_quiet_skip |(go_big_quiet_want;go_big_quiet_op;first | go_big_quiet_on | go_big_quiet_call (first |(go_at_call 150;refine(dO _).mono ?_;rintro e wq ⟨rfl,hbq⟩;exact⟨rfl,aA (ah (After.b _) hbq)⟩))))
 refine wpQuiet_nil ?_
 rintro _ ⟨n5,rfl⟩
 have iT:=ah jl n5.b
 generalize n5.w=w6 at *
 clear hne n5 dM dJ dK dL mO mP mQ kD k0 k1 k2 m0 m1 m2 jl
 obtain⟨kD,k0,k1,k2,m0,m1,m2⟩:=HR.out _ iT
 go_wp2
 go_ret
 exact⟨rfl,iT⟩
theorem JD(g og p po n c:Nat)(a:Option Addr)(s:Int)(r0:ByteArray)(r1 r2 ow kz:Int)(w:World)(hg:g<w.heap.size)(hp:p<w.heap.size)(_:n<=12)(hD:w.cell? ⟨g,og,none⟩=some (.slice a n c))
  (hr0:w.cell? ⟨p,po,none⟩=some (.string r0)) (hr1:w.cell? ⟨p,po+1,none⟩=some (.int .i64 r1)) (hr2:w.cell? ⟨p,po+2,none⟩=some (.int .i64 r2)) (hs:inB s 0 999=true)
  (hvn:(r1 != 1)=true)
  (hK:∀w',Calls Tryz.prog 104 #[.string r0] w' fun e w''=>e = .returned (.int .i64 kz)/\Below w'.heap.size w' w'') (hA:∀w',Below w.heap.size w w'->Calls Tryz.prog 149 #[.pointer (some ⟨g,og,none⟩),.int .i64 kz] w' fun e w''=>e = .returned (.int .i64 (-1))/\Below w'.heap.size w' w'') (_:∀w',Calls Tryz.prog 150 #[.int .i64 s] w' fun e w''=>e = .returned (.int .i64 ow)/\Below w'.heap.size w' w'') :
  Calls Tryz.prog 110 #[.pointer (some ⟨g,og,none⟩),.pointer (some ⟨p,po,none⟩),.int .i64 s] w fun e w'=>e = .returned (.int .i64 7)/\Below w.heap.size w w':=by
 have hI:=fun w=>bg s 0 999 w
 rw[hs]at hI
 have HR:Hid (∀w',Below w.heap.size w w'->w'.cell? ⟨g,og,none⟩=some (.slice a n c)/\w'.cell? ⟨p,po,none⟩=some (.string r0)/\w'.cell? ⟨p,po+1,none⟩=some (.int .i64 r1)/\w'.cell? ⟨p,po+2,none⟩=some (.int .i64 r2)):=fun w' h=>⟨(h.cell (p:=⟨g,og,none⟩) hg).trans hD,(h.cell (p:=⟨p,po,none⟩) hp).trans hr0,(h.cell (p:=⟨p,po+1,none⟩) hp).trans hr1,(h.cell (p:=⟨p,po+2,none⟩) hp).trans hr2⟩
 clear hs hD hr1 hr2
 go_enter Tryz.func110,Tryz.ntmps110
 go_wp2_with fail
 refine(hI _).mono ?_
 rintro e w0 ⟨rfl,rfl⟩
 clear hI
 go_wp2_with fail
 refine(hK _).mono ?_
 rintro e w1 ⟨rfl,hb1⟩
 clear hK hr0
 go_wp2_with fail
 refine(hA _ hb1).mono ?_
 rintro e w2 ⟨rfl,hb2⟩
 have hB2:=ah hb1 hb2
 clear hA hb1 hb2
 obtain⟨kD,k0,k1,k2⟩:=HR.out _ hB2
 have dM:=After.cell kD
 have dJ:=After.cell k0
 have dK:=After.cell k1
 have dL:=After.cell k2
 have hne:=After.ne w2
 go_wp2_with fail
 refine au (by kernel_rfl) (by kernel_rfl) ?_
 repeat(first | go_big_quiet_skip |(go_big_quiet_want;go_big_quiet_op;first | go_big_quiet_on | go_big_quiet_call (first |(go_at_call 150;refine(dO _).mono ?_;rintro e wq ⟨rfl,hbq⟩;exact⟨rfl,aA (ah (After.b _) hbq)⟩))))
 refine wpQuiet_nil ?_
 rintro _ ⟨n2,rfl⟩
 have hB3:=ah hB2 n2.b
 generalize n2.w=w3 at *
 clear hne n2 dM dJ dK dL kD k0 k1 k2 hB2
 obtain⟨kD,k0,k1,k2⟩:=HR.out _ hB3
 have dM:=After.cell kD
 have dJ:=After.cell k0
 have dK:=After.cell k1
 have dL:=After.cell k2
 have hne:=After.ne w3
 go_wp2_with fail
 refine au (by kernel_rfl) (by kernel_rfl) ?_
 repeat(first | go_big_quiet_skip |(go_big_quiet_want;go_big_quiet_op;first | go_big_quiet_on | go_big_quiet_call (first |(go_at_call 150;refine(dO _).mono ?_;rintro e wq ⟨rfl,hbq⟩;exact⟨rfl,aA (ah (After.b _) hbq)⟩))))
 refine wpQuiet_nil ?_
 rintro _ ⟨n3,rfl⟩
 have hB4:=ah hB3 n3.b
 generalize n3.w=w4 at *
 clear hne n3 dM dJ dK dL kD k0 k1 k2 hB3
 obtain⟨kD,k0,k1,k2⟩:=HR.out _ hB4
 have dM:=After.cell kD
 have dJ:=After.cell k0
 have dK:=After.cell k1
 have dL:=After.cell k2
 have hne:=After.ne w4
 go_wp2_with fail
 refine au (by kernel_rfl) (by kernel_rfl) ?_
 repeat(first | go_big_quiet_skip |(go_big_quiet_want;go_big_quiet_op;first | go_big_quiet_on | go_big_quiet_call (first |(go_at_call 150;refine(dO _).mono ?_;rintro e wq ⟨rfl,hbq⟩;exact⟨rfl,aA (ah (After.b _) hbq)⟩))))
 refine wpQuiet_nil ?_
 rintro _ ⟨n4,rfl⟩
 have jl:=ah hB4 n4.b
 generalize n4.w=w5 at *
 clear hne n4 dM dJ dK dL kD k0 k1 k2 hB4
 obtain⟨kD,k0,k1,k2⟩:=HR.out _ jl
 go_wp2
 go_ret
 exact⟨rfl,jl⟩
theorem PZ(g og p po n c:Nat)(a:Option Addr)(s:Int)(r0:ByteArray)(r1 r2 ow kz:Int)(w:World)(hg:g<w.heap.size)(hp:p<w.heap.size)(_:n<=12)(hD:w.cell? ⟨g,og,none⟩=some (.slice a n c))
  (hr0:w.cell? ⟨p,po,none⟩=some (.string r0)) (hr1:w.cell? ⟨p,po+1,none⟩=some (.int .i64 r1)) (hr2:w.cell? ⟨p,po+2,none⟩=some (.int .i64 r2)) (hs:inB s 0 999=true)
  (hvn:(r1 != 1)=false) (ho:(r2 != ow)=true)
  (hK:∀w',Calls Tryz.prog 104 #[.string r0] w' fun e w''=>e = .returned (.int .i64 kz)/\Below w'.heap.size w' w'') (hA:∀w',Below w.heap.size w w'->Calls Tryz.prog 149 #[.pointer (some ⟨g,og,none⟩),.int .i64 kz] w' fun e w''=>e = .returned (.int .i64 (-1))/\Below w'.heap.size w' w'') (dO:∀w',Calls Tryz.prog 150 #[.int .i64 s] w' fun e w''=>e = .returned (.int .i64 ow)/\Below w'.heap.size w' w'') :
  Calls Tryz.prog 110 #[.pointer (some ⟨g,og,none⟩),.pointer (some ⟨p,po,none⟩),.int .i64 s] w fun e w'=>e = .returned (.int .i64 8)/\Below w.heap.size w w':=by
 have hI:=fun w=>bg s 0 999 w
 rw[hs]at hI
 have HR:Hid (∀w',Below w.heap.size w w'->w'.cell? ⟨g,og,none⟩=some (.slice a n c)/\w'.cell? ⟨p,po,none⟩=some (.string r0)/\w'.cell? ⟨p,po+1,none⟩=some (.int .i64 r1)/\w'.cell? ⟨p,po+2,none⟩=some (.int .i64 r2)):=fun w' h=>⟨(h.cell (p:=⟨g,og,none⟩) hg).trans hD,(h.cell (p:=⟨p,po,none⟩) hp).trans hr0,(h.cell (p:=⟨p,po+1,none⟩) hp).trans hr1,(h.cell (p:=⟨p,po+2,none⟩) hp).trans hr2⟩
 clear hs hD hr1 hr2
 go_enter Tryz.func110,Tryz.ntmps110
 go_wp2_with fail
 refine(hI _).mono ?_
 rintro e w0 ⟨rfl,rfl⟩
 clear hI
 go_wp2_with fail
 refine(hK _).mono ?_
 rintro e w1 ⟨rfl,hb1⟩
 clear hK hr0
 go_wp2_with fail
 refine(hA _ hb1).mono ?_
 rintro e w2 ⟨rfl,hb2⟩
 have hB2:=ah hb1 hb2
 clear hA hb1 hb2
 obtain⟨kD,k0,k1,k2⟩:=HR.out _ hB2
 have dM:=After.cell kD
 have dJ:=After.cell k0
 have dK:=After.cell k1
 have dL:=After.cell k2
 have hne:=After.ne w2
 go_wp2_with fail
 refine au (by kernel_rfl) (by kernel_rfl) ?_
 repeat(first | go_big_quiet_skip |(go_big_quiet_want;go_big_quiet_op;first | go_big_quiet_on | go_big_quiet_call (first |(go_at_call 150;refine(dO _).mono ?_;rintro e wq ⟨rfl,hbq⟩;exact⟨rfl,aA (ah (After.b _) hbq)⟩))))
 refine wpQuiet_nil ?_
 rintro _ ⟨n2,rfl⟩
 have hB3:=ah hB2 n2.b
 generalize n2.w=w3 at *
 clear hne n2 dM dJ dK dL kD k0 k1 k2 hB2
 obtain⟨kD,k0,k1,k2⟩:=HR.out _ hB3
 have dM:=After.cell kD
 have dJ:=After.cell k0
 have dK:=After.cell k1
 have dL:=After.cell k2
 have hne:=After.ne w3
 go_wp2_with fail
 refine au (by kernel_rfl) (by kernel_rfl) ?_
 repeat(first | go_big_quiet_skip |(go_big_quiet_want;go_big_quiet_op;first | go_big_quiet_on | go_big_quiet_call (first |(go_at_call 150;refine(dO _).mono ?_;rintro e wq ⟨rfl,hbq⟩;exact⟨rfl,aA (ah (After.b _) hbq)⟩))))
 refine wpQuiet_nil ?_
 rintro _ ⟨n3,rfl⟩
 have hB4:=ah hB3 n3.b
 generalize n3.w=w4 at *
 clear hne n3 dM dJ dK dL kD k0 k1 k2 hB3
 obtain⟨kD,k0,k1,k2⟩:=HR.out _ hB4
 have dM:=After.cell kD
 have dJ:=After.cell k0
 have dK:=After.cell k1
 have dL:=After.cell k2
 have hne:=After.ne w4
 go_wp2_with fail
 refine au (by kernel_rfl) (by kernel_rfl) ?_
 repeat(first | go_big_quiet_skip |(go_big_quiet_want;go_big_quiet_op;first | go_big_quiet_on | go_big_quiet_call (first |(go_at_call 150;refine(dO _).mono ?_;rintro e wq ⟨rfl,hbq⟩;exact⟨rfl,aA (ah (After.b _) hbq)⟩))))
 refine wpQuiet_nil ?_
 rintro _ ⟨n4,rfl⟩
 have jl:=ah hB4 n4.b
 generalize n4.w=w5 at *
 clear hne n4 dM dJ dK dL kD k0 k1 k2 hB4
 obtain⟨kD,k0,k1,k2⟩:=HR.out _ jl
 have dM:=After.cell kD
 have dJ:=After.cell k0
 have dK:=After.cell k1
 have dL:=After.cell k2
 have hne:=After.ne w5
 go_wp2_with fail
 refine au (by kernel_rfl) (by kernel_rfl) ?_
 repeat(first | go_big_quiet_skip |(go_big_quiet_want;go_big_quiet_op;first | go_big_quiet_on | go_big_quiet_call (first |(go_at_call 150;refine(dO _).mono ?_;rintro e wq ⟨rfl,hbq⟩;exact⟨rfl,aA (ah (After.b _) hbq)⟩))))
 refine wpQuiet_nil ?_
 rintro _ ⟨n5,rfl⟩
 have iT:=ah jl n5.b
 generalize n5.w=w6 at *
 clear hne n5 dM dJ dK dL kD k0 k1 k2 jl
 obtain⟨kD,k0,k1,k2⟩:=HR.out _ iT
 go_wp2
 go_ret
 exact⟨rfl,iT⟩
theorem Ny(g og p po n c:Nat)(a:Option Addr)(s:Int)(r0:ByteArray)(r1 r2 ow kz:Int)(w:World)(hg:g<w.heap.size)(hp:p<w.heap.size)(hn:n<=12)(hD:w.cell? ⟨g,og,none⟩=some (.slice a n c))
  (hr0:w.cell? ⟨p,po,none⟩=some (.string r0)) (hr1:w.cell? ⟨p,po+1,none⟩=some (.int .i64 r1)) (hr2:w.cell? ⟨p,po+2,none⟩=some (.int .i64 r2)) (hs:inB s 0 999=true)
  (hvn:(r1 != 1)=false) (ho:(r2 != ow)=false) (hf:12<=n)
  (hK:∀w',Calls Tryz.prog 104 #[.string r0] w' fun e w''=>e = .returned (.int .i64 kz)/\Below w'.heap.size w' w'') (hA:∀w',Below w.heap.size w w'->Calls Tryz.prog 149 #[.pointer (some ⟨g,og,none⟩),.int .i64 kz] w' fun e w''=>e = .returned (.int .i64 (-1))/\Below w'.heap.size w' w'') (dO:∀w',Calls Tryz.prog 150 #[.int .i64 s] w' fun e w''=>e = .returned (.int .i64 ow)/\Below w'.heap.size w' w'') :
  Calls Tryz.prog 110 #[.pointer (some ⟨g,og,none⟩),.pointer (some ⟨p,po,none⟩),.int .i64 s] w fun e w'=>e = .returned (.int .i64 11)/\Below w.heap.size w w':=by
 have hI:=fun w=>bg s 0 999 w
 rw[hs]at hI
 have HR:Hid (∀w',Below w.heap.size w w'->w'.cell? ⟨g,og,none⟩=some (.slice a n c)/\w'.cell? ⟨p,po,none⟩=some (.string r0)/\w'.cell? ⟨p,po+1,none⟩=some (.int .i64 r1)/\w'.cell? ⟨p,po+2,none⟩=some (.int .i64 r2)):=fun w' h=>⟨(h.cell (p:=⟨g,og,none⟩) hg).trans hD,(h.cell (p:=⟨p,po,none⟩) hp).trans hr0,(h.cell (p:=⟨p,po+1,none⟩) hp).trans hr1,(h.cell (p:=⟨p,po+2,none⟩) hp).trans hr2⟩
 clear hs hD hr1 hr2
 go_enter Tryz.func110,Tryz.ntmps110
 go_wp2_with fail
 refine(hI _).mono ?_
 rintro e w0 ⟨rfl,rfl⟩
 clear hI
 go_wp2_with fail
 refine(hK _).mono ?_
 rintro e w1 ⟨rfl,hb1⟩
 clear hK hr0
 go_wp2_with fail
 refine(hA _ hb1).mono ?_
 rintro e w2 ⟨rfl,hb2⟩
 have hB2:=ah hb1 hb2
 clear hA hb1 hb2
 obtain⟨kD,k0,k1,k2⟩:=HR.out _ hB2
 have dM:=After.cell kD
 have dJ:=After.cell k0
 have dK:=After.cell k1
 have dL:=After.cell k2
 have hne:=After.ne w2
 go_wp2_with fail
 refine au (by kernel_rfl) (by kernel_rfl) ?_
 repeat(first | go_big_quiet_skip |(go_big_quiet_want;go_big_quiet_op;first | go_big_quiet_on | go_big_quiet_call (first |(go_at_call 150;refine(dO _).mono ?_;rintro e wq ⟨rfl,hbq⟩;exact⟨rfl,aA (ah (After.b _) hbq)⟩))))
 refine wpQuiet_nil ?_
 rintro _ ⟨n2,rfl⟩
 have hB3:=ah hB2 n2.b
 generalize n2.w=w3 at *
 clear hne n2 dM dJ dK dL kD k0 k1 k2 hB2
 obtain⟨kD,k0,k1,k2⟩:=HR.out _ hB3
 have dM:=After.cell kD
 have dJ:=After.cell k0
 have dK:=After.cell k1
 have dL:=After.cell k2
 have hne:=After.ne w3
 go_wp2_with fail
 refine au (by kernel_rfl) (by kernel_rfl) ?_
 repeat(first | go_big_quiet_skip |(go_big_quiet_want;go_big_quiet_op;first | go_big_quiet_on | go_big_quiet_call (first |(go_at_call 150;refine(dO _).mono ?_;rintro e wq ⟨rfl,hbq⟩;exact⟨rfl,aA (ah (After.b _) hbq)⟩))))
 refine wpQuiet_nil ?_
 rintro _ ⟨n3,rfl⟩
 have hB4:=ah hB3 n3.b
 generalize n3.w=w4 at *
 clear hne n3 dM dJ dK dL kD k0 k1 k2 hB3
 obtain⟨kD,k0,k1,k2⟩:=HR.out _ hB4
 have dM:=After.cell kD
 have dJ:=After.cell k0
 have dK:=After.cell k1
 have dL:=After.cell k2
 have hne:=After.ne w4
 go_wp2_with fail
 refine au (by kernel_rfl) (by kernel_rfl) ?_
 repeat(first | go_big_quiet_skip |(go_big_quiet_want;go_big_quiet_op;first | go_big_quiet_on | go_big_quiet_call (first |(go_at_call 150;refine(dO _).mono ?_;rintro e wq ⟨rfl,hbq⟩;exact⟨rfl,aA (ah (After.b _) hbq)⟩))))
 refine wpQuiet_nil ?_
 rintro _ ⟨n4,rfl⟩
 have jl:=ah hB4 n4.b
 generalize n4.w=w5 at *
 clear hne n4 dM dJ dK dL kD k0 k1 k2 hB4
 obtain⟨kD,k0,k1,k2⟩:=HR.out _ jl
 have dM:=After.cell kD
 have dJ:=After.cell k0
 have dK:=After.cell k1
 have dL:=After.cell k2
 have hne:=After.ne w5
 go_wp2_with fail
 refine au (by kernel_rfl) (by kernel_rfl) ?_
 repeat(first | go_big_quiet_skip |(go_big_quiet_want;go_big_quiet_op;first | go_big_quiet_on | go_big_quiet_call (first |(go_at_call 150;refine(dO _).mono ?_;rintro e wq ⟨rfl,hbq⟩;exact⟨rfl,aA (ah (After.b _) hbq)⟩))))
 refine wpQuiet_nil ?_
 rintro _ ⟨n5,rfl⟩
 have iT:=ah jl n5.b
 generalize n5.w=w6 at *
 clear hne n5 dM dJ dK dL kD k0 k1 k2 jl
 obtain⟨kD,k0,k1,k2⟩:=HR.out _ iT
 go_wp2
 go_ret
 exact⟨rfl,iT⟩
theorem Nz(g og p po n c:Nat)(a:Option Addr)(s:Int)(r0:ByteArray)(r1 r2 ow kz:Int)(w:World)(hg:g<w.heap.size)(hp:p<w.heap.size)(hn:n<=12)(hD:w.cell? ⟨g,og,none⟩=some (.slice a n c))
  (hr0:w.cell? ⟨p,po,none⟩=some (.string r0)) (hr1:w.cell? ⟨p,po+1,none⟩=some (.int .i64 r1)) (hr2:w.cell? ⟨p,po+2,none⟩=some (.int .i64 r2)) (hs:inB s 0 999=true)
  (hvn:(r1 != 1)=false) (ho:(r2 != ow)=false) (hf:¬ 12<=n)
  (hK:∀w',Calls Tryz.prog 104 #[.string r0] w' fun e w''=>e = .returned (.int .i64 kz)/\Below w'.heap.size w' w'') (hA:∀w',Below w.heap.size w w'->Calls Tryz.prog 149 #[.pointer (some ⟨g,og,none⟩),.int .i64 kz] w' fun e w''=>e = .returned (.int .i64 (-1))/\Below w'.heap.size w' w'') (dO:∀w',Calls Tryz.prog 150 #[.int .i64 s] w' fun e w''=>e = .returned (.int .i64 ow)/\Below w'.heap.size w' w'') :
  Calls Tryz.prog 110 #[.pointer (some ⟨g,og,none⟩),.pointer (some ⟨p,po,none⟩),.int .i64 s] w fun e w'=>e = .returned (.int .i64 0)/\Below w.heap.size w w':=by
 have hI:=fun w=>bg s 0 999 w
 rw[hs]at hI
 have HR:Hid (∀w',Below w.heap.size w w'->w'.cell? ⟨g,og,none⟩=some (.slice a n c)/\w'.cell? ⟨p,po,none⟩=some (.string r0)/\w'.cell? ⟨p,po+1,none⟩=some (.int .i64 r1)/\w'.cell? ⟨p,po+2,none⟩=some (.int .i64 r2)):=fun w' h=>⟨(h.cell (p:=⟨g,og,none⟩) hg).trans hD,(h.cell (p:=⟨p,po,none⟩) hp).trans hr0,(h.cell (p:=⟨p,po+1,none⟩) hp).trans hr1,(h.cell (p:=⟨p,po+2,none⟩) hp).trans hr2⟩
 clear hs hD hr1 hr2
 go_enter Tryz.func110,Tryz.ntmps110
 go_wp2_with fail
 refine(hI _).mono ?_
 rintro e w0 ⟨rfl,rfl⟩
 clear hI
 go_wp2_with fail
 refine(hK _).mono ?_
 rintro e w1 ⟨rfl,hb1⟩
 clear hK hr0
 go_wp2_with fail
 refine(hA _ hb1).mono ?_
 rintro e w2 ⟨rfl,hb2⟩
 have hB2:=ah hb1 hb2
 clear hA hb1 hb2
 obtain⟨kD,k0,k1,k2⟩:=HR.out _ hB2
 have dM:=After.cell kD
 have dJ:=After.cell k0
 have dK:=After.cell k1
 have dL:=After.cell k2
 have hne:=After.ne w2
 go_wp2_with fail
 refine au (by kernel_rfl) (by kernel_rfl) ?_
 repeat(first | go_big_quiet_skip |(go_big_quiet_want;go_big_quiet_op;first | go_big_quiet_on | go_big_quiet_call (first |(go_at_call 150;refine(dO _).mono ?_;rintro e wq ⟨rfl,hbq⟩;exact⟨rfl,aA (ah (After.b _) hbq)⟩))))
 refine wpQuiet_nil ?_
 rintro _ ⟨n2,rfl⟩
 have hB3:=ah hB2 n2.b
 generalize n2.w=w3 at *
 clear hne n2 dM dJ dK dL kD k0 k1 k2 hB2
 obtain⟨kD,k0,k1,k2⟩:=HR.out _ hB3
 have dM:=After.cell kD
 have dJ:=After.cell k0
 have dK:=After.cell k1
 have dL:=After.cell k2
 have hne:=After.ne w3
 go_wp2_with fail
 refine au (by kernel_rfl) (by kernel_rfl) ?_
 repeat(first | go_big_quiet_skip |(go_big_quiet_want;go_big_quiet_op;first | go_big_quiet_on | go_big_quiet_call (first |(go_at_call 150;refine(dO _).mono ?_;rintro e wq ⟨rfl,hbq⟩;exact⟨rfl,aA (ah (After.b _) hbq)⟩))))
 refine wpQuiet_nil ?_
 rintro _ ⟨n3,rfl⟩
 have hB4:=ah hB3 n3.b
 generalize n3.w=w4 at *
 clear hne n3 dM dJ dK dL kD k0 k1 k2 hB3
 obtain⟨kD,k0,k1,k2⟩:=HR.out _ hB4
 have dM:=After.cell kD
 have dJ:=After.cell k0
 have dK:=After.cell k1
 have dL:=After.cell k2
 have hne:=After.ne w4
 go_wp2_with fail
 refine au (by kernel_rfl) (by kernel_rfl) ?_
 repeat(first | go_big_quiet_skip |(go_big_quiet_want;go_big_quiet_op;first | go_big_quiet_on | go_big_quiet_call (first |(go_at_call 150;refine(dO _).mono ?_;rintro e wq ⟨rfl,hbq⟩;exact⟨rfl,aA (ah (After.b _) hbq)⟩))))
 refine wpQuiet_nil ?_
 rintro _ ⟨n4,rfl⟩
 have jl:=ah hB4 n4.b
 generalize n4.w=w5 at *
 clear hne n4 dM dJ dK dL kD k0 k1 k2 hB4
 obtain⟨kD,k0,k1,k2⟩:=HR.out _ jl
 have dM:=After.cell kD
 have dJ:=After.cell k0
 have dK:=After.cell k1
 have dL:=After.cell k2
 have hne:=After.ne w5
 go_wp2_with fail
 refine au (by kernel_rfl) (by kernel_rfl) ?_
 repeat(first | go_big_quiet_skip |(go_big_quiet_want;go_big_quiet_op;first | go_big_quiet_on | go_big_quiet_call (first |(go_at_call 150;refine(dO _).mono ?_;rintro e wq ⟨rfl,hbq⟩;exact⟨rfl,aA (ah (After.b _) hbq)⟩))))
 refine wpQuiet_nil ?_
 rintro _ ⟨n5,rfl⟩
 have iT:=ah jl n5.b
 generalize n5.w=w6 at *
 clear hne n5 dM dJ dK dL kD k0 k1 k2 jl
 obtain⟨kD,k0,k1,k2⟩:=HR.out _ iT
 go_wp2
 go_ret
 exact⟨rfl,iT⟩
end U
end Go.Proofs.YtmmcgjacojgeaaaGreat
namespace Go.Proofs.YtmmcgjacojgeaaaGreat
open Go.RowKit Go.Maps
namespace U
end U
end Go.Proofs.YtmmcgjacojgeaaaGreat
namespace Go.Proofs.YtmmcgjacojgeaaaGreat
open Go.RowKit
namespace U
theorem yX(l:Rcl)(r:Rc):∀k,(aY l r k).2.length<=2*k
 | 0=>Nat.le_refl _
 | k+1=>by
  have ih:=yX l r k
  show(if(rAt l k).k=r.k then(if(!(aY l r k).1&&decide (r.k<=(rAt l k).k))=true then(aY l r k).2++[r]else(aY l r k).2)else(if(!(aY l r k).1&&decide (r.k<=(rAt l k).k))=true then(aY l r k).2++[r]else(aY l r k).2)++[rAt l k]).length<=_
  split<;>split<;>(try simp only[List.length_append,List.length_cons,List.length_nil])<;>omega
theorem jH{W w1:World}{n₀ B:Nat}{t e:TypeId}{size:Nat}{v:Value}{k:Nat}{xs:List Value}{tmp:Obj}(hv:Boxed W B t v)(hte:t≠e)(hrow:W.ownsRow n₀ e size v k xs)(hgrow:(W.alloc tmp).grownBy w1 v.ownBlock):Boxed w1 B t v:=(hv.alloc tmp).kept hgrow (hv.not_row hte hrow)
theorem sQ{V W w1:World}{row:Option Nat}(h:V.grownBy w1 row)(e1:V.os=W.os)(e2:V.tape=W.tape)(e3:V.output=W.output)(e4:V.heap=W.heap):W.grownBy w1 row:=⟨h.os.trans e1,h.tape.trans e2,h.output.trans e3,by rw[←e4];exact h.size,fun i hi hr=>by rw[←e4]at hi ⊢;exact h.block i hi hr⟩
theorem Qx(l:Rcl)(r:Rc)(k:Nat):aY l r (k+1)=((aY l r k).1||decide (r.k<=(rAt l k).k),if(rAt l k).k=r.k then(if(!(aY l r k).1&&decide (r.k<=(rAt l k).k))=true then(aY l r k).2++[r]else(aY l r k).2)else(if(!(aY l r k).1&&decide (r.k<=(rAt l k).k))=true then(aY l r k).2++[r]else(aY l r k).2)++[rAt l k]):=rfl
theorem NC(g og b off c n:Nat)(av:Option Addr)(l:Rcl)(r0:ByteArray)(r1 r2 r3:Int)(w:World)(hn:n<=12)(hg:g<w.heap.size)(hav:0<n->av=some ⟨b,off,none⟩/\b<w.heap.size)(hsm:∀j,j<n->(rAt l j).l.size<=12)(hrs:r0.size<=12)
  (hD:w.cell? ⟨g,og,none⟩=some (.slice av n c)) (hc:∀j,j<n->dG w b (off+j*4) (rAt l j)) :
  Calls Tryz.prog 111 #[.pointer (some ⟨g,og,none⟩),.agg #[.string r0,.int .i64 r1,.int .i64 r2,.int .i64 r3]] w fun e w'=>∃a m c,e = .returned (.agg #[.slice a m c])/\Below w.heap.size w w'/\w'.ownsRow w.heap.size 46 4 (.slice a m c) m (flR (if(aY l ⟨r0,r1,r2,r3⟩ n).1=true then(aY l ⟨r0,r1,r2,r3⟩ n).2 else(aY l ⟨r0,r1,r2,r3⟩ n).2++[⟨r0,r1,r2,r3⟩])):=by
 obtain⟨i0,hi,hz0,hz1,hz2⟩:=info_parts Tryz.su
 obtain⟨r,hr⟩:∃r:Rc,r=⟨r0,r1,r2,r3⟩:=⟨_,rfl⟩
 have HR0:Hid (r=⟨r0,r1,r2,r3⟩):=hr
 rw[←hr]
 obtain⟨RL,hRL⟩:∃RL,RL=if(aY l r n).1=true then(aY l r n).2 else(aY l r n).2++[r]:=⟨_,rfl⟩
 have XR:Hid (RL=if(aY l r n).1=true then(aY l r n).2 else(aY l r n).2++[r]):=hRL
 rw[←hRL]
 clear hRL
 have hKr:=fun w=>ku r0 w hrs
 have e0:aS r0=r.k:=by rw[hr];rfl
 rw[e0]at hKr
 clear hr e0
 obtain⟨W,hW⟩:∃W,W=((w.alloc (.cells #[.string r0,.int .i64 r1,.int .i64 r2,.int .i64 r3] 46)).alloc (.cells #[.slice none 0 0] 36)).alloc (.cells #[.slice none 0 0] 36):=⟨_,rfl⟩
 have HW:Hid _:=hW.symm
 have hB:Below w.heap.size w W:=by rw[hW];exact((aj _).alloc (aj _).size _).alloc ((aj _).alloc (aj _).size _).size _
 have q2:Boxed W (w.heap.size+1+1) 36 (.slice none 0 0):=by
  have h2:=heap_alloc_new ((w.alloc (.cells #[.string r0,.int .i64 r1,.int .i64 r2,.int .i64 r3] 46)).alloc (.cells #[.slice none 0 0] 36)) (.cells #[.slice none 0 0] 36)
  simp only[World.size_alloc]at h2
  rw[hW]
  exact h2
 have q1:Boxed W (w.heap.size+1) 36 (.slice none 0 0):=by
  have h1:=heap_alloc_new (w.alloc (.cells #[.string r0,.int .i64 r1,.int .i64 r2,.int .i64 r3] 46)) (.cells #[.slice none 0 0] 36)
  simp only[World.size_alloc]at h1
  rw[hW]
  exact((aj _).block (w.heap.size+1) (by simp)).trans h1
 have q0:W.heap[w.heap.size]? = some (.cells #[.string r0,.int .i64 r1,.int .i64 r2,.int .i64 r3] 46):=by
  rw[hW]
  exact((aj _).block w.heap.size (by simp;omega)).trans (heap_alloc_old' _ _ _ (heap_alloc_new w _))
 clear hW
 go_enter Tryz.func111,Tryz.ntmps111
 go_wp2_with fail
 rw[HW.out]
 refine(hKr _).mono ?_
 rintro e w1 ⟨rfl,hb1⟩
 have q2:Boxed w1 (w.heap.size+1+1) 36 (.slice none 0 0):=(hb1.block _ q2.lt).trans q2
 have q1:Boxed w1 (w.heap.size+1) 36 (.slice none 0 0):=(hb1.block _ q1.lt).trans q1
 have q0:=(hb1.block _ (Array.getElem?_eq_some_iff.1 q0).1).trans q0
 have hBW:=ah hB hb1
 have HD:Hid (∀w',Below (w.heap.size+1+1) w1 w'->w'.cell? ⟨g,og,none⟩=some (.slice av n c)):=fun w' h=>(h.cell (p:=⟨g,og,none⟩) (by show g<w.heap.size+1+1;omega)).trans ((hBW.cell (p:=⟨g,og,none⟩) hg).trans hD)
 have HX:Hid (∀j w',j<n->Below (w.heap.size+1+1) w1 w'->dG w' b (off+j*4) (rAt l j)):=fun j w' hj h=>((hc j hj).below hBW (hav (by omega)).2).below h (by have:=(hav (by omega)).2;omega)
 have Ku:Hid (∀w',Below (w.heap.size+1+1) w1 w'->w'.cell? ⟨w.heap.size,0,none⟩=some (.string r0)/\w'.cell? ⟨w.heap.size,1,none⟩=some (.int .i64 r1)/\w'.cell? ⟨w.heap.size,2,none⟩=some (.int .i64 r2)/\w'.cell? ⟨w.heap.size,3,none⟩=some (.int .i64 r3)):=fun w' h=>bI ((h.block _ (by omega)).trans q0)
 have HZ1:Hid (∀w',Below (w.heap.size+1+1) w1 w'->Boxed w' (w.heap.size+1) 36 (.slice none 0 0)):=fun w' h=>(h.block _ (by omega)).trans q1
 have hzw:w.heap.size+1+1<w1.heap.size:=q2.lt
 clear hKr hb1 hB q0 q1 hc hD
 go_wp2
 go_loopw [6,8] (fun d i wr=>∃k:Nat,k<=n/\i = .int .i64 k/\d = .bool (aY l r k).1/\Hid (Below (w.heap.size+1+1) w1 wr)/\Hid (w1.heap.size<=wr.heap.size)/\Hid (∃a c,Boxed wr (w.heap.size+1+1) 36 (.slice a (aY l r k).2.length c)/\wr.ownsRow w1.heap.size 46 4 (.slice a (aY l r k).2.length c) (aY l r k).2.length (flR (aY l r k).2))) (fun _ i _=>n - (intOf i).toNat)
 case atStart=>exact⟨0,Nat.zero_le _,rfl,rfl,Below.refl _ _,Nat.le_refl _,⟨none,0,q2,World.ownsRow_nil _ _ _ _⟩⟩
 case round=>
  obtain⟨k,hk,rfl,rfl,hB,Yo,ho⟩:=hrel
  obtain⟨a,cr,hbx,hrow⟩:=ho.out
  have Ap:=HD.out _ hB.out
  have hcx:=hbx.cell
  have hml:=yX l r k
  obtain⟨Lh,Lj,Ll,Lm⟩:=Ku.out _ hB.out
  have Gw:=Yo.out
  by_cases hkn:k<n
  ·have hki:(k:Int)<(n:Int):=by omega
   obtain⟨YE,hb⟩:=hav (by omega)
   subst YE
   have hK:=fun w=>ku (rAt l k).l w (hsm k hkn)
   have e2:aS (rAt l k).l=(rAt l k).k:=rfl
   rw[e2]at hK
   have OA:Hid (∀w',Below (w.heap.size+1+1) w1 w'->dG w' b (off+k*4) (rAt l k)):=fun w' h=>HX.out k w' hkn h
   have HST:=Qx l r k
   have HS:Hid (aY l r (k+1)=((aY l r k).1||decide (r.k<=(rAt l k).k),if(rAt l k).k=r.k then(if(!(aY l r k).1&&decide (r.k<=(rAt l k).k))=true then(aY l r k).2++[r]else(aY l r k).2)else(if(!(aY l r k).1&&decide (r.k<=(rAt l k).k))=true then(aY l r k).2++[r]else(aY l r k).2)++[rAt l k])):=HST
   generalize rAt l k=x at *
   obtain⟨x0,x1,x2,x3⟩:=x
   generalize hxk:Rc.k ⟨x0,x1,x2,x3⟩=xk at *
   have E8:Hid (∀w',Below (w.heap.size+1+1) w1 w'->w'.cell? ⟨b,off+k*4,none⟩=some (.string x0)/\w'.cell? ⟨b,off+k*4+1,none⟩=some (.int .i64 x1)/\w'.cell? ⟨b,off+k*4+2,none⟩=some (.int .i64 x2)/\w'.cell? ⟨b,off+k*4+3,none⟩=some (.int .i64 x3)):=fun w' h=>⟨(OA.out _ h).c0,(OA.out _ h).c1,(OA.out _ h).c2,(OA.out _ h).c3⟩
   obtain⟨LH,-,-,-⟩:=E8.out _ hB.out
   dsimp only at hK
   generalize (aY l r k).1=d at *
   generalize (aY l r k).2=o at *
   generalize hrk:r.k=rk at *
   have lQ:Hid (Boxed wr (w.heap.size+1+1) 36 (.slice a o.length cr)):=hbx
   have mX:Hid (wr.ownsRow w1.heap.size 46 4 (.slice a o.length cr) o.length (flR o)):=hrow
   clear HST e2 hxk hrk OA hbx hrow ho HX
   cases d
   ·by_cases hge:rk<=xk
    ·have hdl:decide (rk<=xk)=true:=by simpa using hge
     by_cases hxr:xk=rk
     ·have hxn:(xk != rk)=false:=by simpa using hxr
      have HQ:Hid (aY l r (k+1)=(true,o++[r])):=(by rw[HS.out];simp[hxr]:aY l r (k+1)=(true,o++[r]))
      go_wp2_with fail
      refine(hK _).mono ?_
      rintro e w2 ⟨rfl,hb2⟩
      have hB2:Below (w.heap.size+1+1) w1 w2:=hB.out.trans (hb2.mono (by omega))
      have jq:Hid (Boxed w2 (w.heap.size+1+1) 36 (.slice a o.length cr)):=(hb2.block _ lQ.out.lt).trans lQ.out
      have fH:Hid (w2.ownsRow w1.heap.size 46 4 (.slice a o.length cr) o.length (flR o)):=own_below mX.out hb2
      have Gx:w1.heap.size<=w2.heap.size:=Nat.le_trans Gw hb2.size
      have FU:=HD.out _ hB2
      have Gh:=jq.out.cell
      obtain⟨Lh,Lj,Ll,Lm⟩:=Ku.out _ hB2
      obtain⟨LH,QM,QN,QO⟩:=E8.out _ hB2
      have hlt2:w.heap.size+1+1<w2.heap.size:=by omega
      clear hK hb2 lQ mX hcx Ap
      go_wp2_with (at_builtin;refine wpList_append_own _ rfl _ _ 34 rfl w1.heap.size 46 i0 (.agg #[.string ⟨#[]⟩,.int .i64 0,.int .i64 0,.int .i64 0]) 4 40 Tryz.underlying34 hi hz0 hz1 hz2 rfl (by decide) _ _ _ rfl (fH.out.alloc _) ⟨w2.heap.size,0,none⟩ 1 1 [.string r0,.int .i64 r1,.int .i64 r2,.int .i64 r3] rfl rfl (World.news_of_block (heap_alloc_new _ _)) (by simp[Value.oneCell']) (by unfold maxLen;omega) (by omega) (by simp;omega) ?_;intro v' jo hown1 hgrow1 hnil1;obtain⟨g1,p1,rfl⟩:=ownsRow_succ hown1;obtain⟨qx,wz,Gt,Gq,vX⟩:=jq.out.appended (by decide) (aF fH.out (by omega:w.heap.size+1+1<=w1.heap.size)) (by omega) (Nat.le_refl _) (aF hown1 (by omega:w.heap.size+1+1<=w1.heap.size)) hgrow1;have MK:=qx.cell;have MO:=qx.frozen;have uX:Hid (jo.ownsRow w1.heap.size 46 4 (.slice (some ⟨g1,0,none⟩) (o.length+1) p1) (o.length+1) (flR o++[.string r0,.int .i64 r1,.int .i64 r2,.int .i64 r3])):=hown1;have Cc:Hid (Boxed (jo.setCell ⟨w.heap.size+1+1,0,none⟩ (.slice (some ⟨g1,0,none⟩) (o.length+1) p1)) (w.heap.size+1+1) 36 (.slice (some ⟨g1,0,none⟩) (o.length+1) p1)):=wz;have uT:Hid (Below (w.heap.size+1+1) w2 (jo.setCell ⟨w.heap.size+1+1,0,none⟩ (.slice (some ⟨g1,0,none⟩) (o.length+1) p1))):=vX;have QX:Hid (w2.heap.size<=jo.heap.size):=Nat.le_trans (by simp) hgrow1.size;clear hgrow1 hnil1 hown1 Gt Gq wz vX)
      have DT:Below (w.heap.size+1+1) w1 (jo.setCell ⟨w.heap.size+1+1,0,none⟩ (.slice (some ⟨g1,0,none⟩) (o.length+1) p1)):=hB2.trans uT.out
      have mY:Hid ((jo.setCell ⟨w.heap.size+1+1,0,none⟩ (.slice (some ⟨g1,0,none⟩) (o.length+1) p1)).ownsRow w1.heap.size 46 4 (.slice (some ⟨g1,0,none⟩) (o.length+1) p1) (o.length+1) (flR (o++[r]))):=(by rw[nJ,HR0.out];exact ownsRow_setCell_below uX.out (by show w.heap.size+1+1<w1.heap.size;omega) _:(jo.setCell ⟨w.heap.size+1+1,0,none⟩ (.slice (some ⟨g1,0,none⟩) (o.length+1) p1)).ownsRow w1.heap.size 46 4 (.slice (some ⟨g1,0,none⟩) (o.length+1) p1) (o.length+1) (flR (o++[r])))
      have ZP:Hid (w1.heap.size<=(jo.setCell ⟨w.heap.size+1+1,0,none⟩ (.slice (some ⟨g1,0,none⟩) (o.length+1) p1)).heap.size):=DT.size
      clear MK MO uT uX qx
      go_wp2
      go_roundw
      case rel=>exact⟨k+1,by omega,by go_num,by rw[HQ.out],DT,ZP,⟨_,_,by rw[HQ.out,List.length_append];exact Cc.out,by rw[HQ.out,List.length_append];exact mY.out⟩⟩
      case measure=>simp[intOf];omega
     ·have hxn:(xk != rk)=true:=by simpa using hxr
      have HQ:Hid (aY l r (k+1)=(true,(o++[r])++[⟨x0,x1,x2,x3⟩])):=(by rw[HS.out];simp[hdl,hxr]:aY l r (k+1)=(true,(o++[r])++[⟨x0,x1,x2,x3⟩]))
      go_wp2_with fail
      refine(hK _).mono ?_
      rintro e w2 ⟨rfl,hb2⟩
      have hB2:Below (w.heap.size+1+1) w1 w2:=hB.out.trans (hb2.mono (by omega))
      have jq:Hid (Boxed w2 (w.heap.size+1+1) 36 (.slice a o.length cr)):=(hb2.block _ lQ.out.lt).trans lQ.out
      have fH:Hid (w2.ownsRow w1.heap.size 46 4 (.slice a o.length cr) o.length (flR o)):=own_below mX.out hb2
      have Gx:w1.heap.size<=w2.heap.size:=Nat.le_trans Gw hb2.size
      have FU:=HD.out _ hB2
      have Gh:=jq.out.cell
      obtain⟨Lh,Lj,Ll,Lm⟩:=Ku.out _ hB2
      obtain⟨LH,QM,QN,QO⟩:=E8.out _ hB2
      have hlt2:w.heap.size+1+1<w2.heap.size:=by omega
      clear hK hb2 lQ mX hcx Ap
      go_wp2_with (at_builtin;refine wpList_append_own _ rfl _ _ 34 rfl w1.heap.size 46 i0 (.agg #[.string ⟨#[]⟩,.int .i64 0,.int .i64 0,.int .i64 0]) 4 40 Tryz.underlying34 hi hz0 hz1 hz2 rfl (by decide) _ _ _ rfl (fH.out.alloc _) ⟨w2.heap.size,0,none⟩ 1 1 [.string r0,.int .i64 r1,.int .i64 r2,.int .i64 r3] rfl rfl (World.news_of_block (heap_alloc_new _ _)) (by simp[Value.oneCell']) (by unfold maxLen;omega) (by omega) (by simp;omega) ?_;intro v' jo hown1 hgrow1 hnil1;obtain⟨g1,p1,rfl⟩:=ownsRow_succ hown1;obtain⟨qx,wz,Gt,Gq,vX⟩:=jq.out.appended (by decide) (aF fH.out (by omega:w.heap.size+1+1<=w1.heap.size)) (by omega) (Nat.le_refl _) (aF hown1 (by omega:w.heap.size+1+1<=w1.heap.size)) hgrow1;have MK:=qx.cell;have MO:=qx.frozen;have uX:Hid (jo.ownsRow w1.heap.size 46 4 (.slice (some ⟨g1,0,none⟩) (o.length+1) p1) (o.length+1) (flR o++[.string r0,.int .i64 r1,.int .i64 r2,.int .i64 r3])):=hown1;have Cc:Hid (Boxed (jo.setCell ⟨w.heap.size+1+1,0,none⟩ (.slice (some ⟨g1,0,none⟩) (o.length+1) p1)) (w.heap.size+1+1) 36 (.slice (some ⟨g1,0,none⟩) (o.length+1) p1)):=wz;have uT:Hid (Below (w.heap.size+1+1) w2 (jo.setCell ⟨w.heap.size+1+1,0,none⟩ (.slice (some ⟨g1,0,none⟩) (o.length+1) p1))):=vX;have QX:Hid (w2.heap.size<=jo.heap.size):=Nat.le_trans (by simp) hgrow1.size;clear hgrow1 hnil1 hown1 Gt Gq wz vX)
      have DT:Below (w.heap.size+1+1) w1 (jo.setCell ⟨w.heap.size+1+1,0,none⟩ (.slice (some ⟨g1,0,none⟩) (o.length+1) p1)):=hB2.trans uT.out
      have mY:Hid ((jo.setCell ⟨w.heap.size+1+1,0,none⟩ (.slice (some ⟨g1,0,none⟩) (o.length+1) p1)).ownsRow w1.heap.size 46 4 (.slice (some ⟨g1,0,none⟩) (o.length+1) p1) (o.length+1) (flR (o++[r]))):=(by rw[nJ,HR0.out];exact ownsRow_setCell_below uX.out (by show w.heap.size+1+1<w1.heap.size;omega) _:(jo.setCell ⟨w.heap.size+1+1,0,none⟩ (.slice (some ⟨g1,0,none⟩) (o.length+1) p1)).ownsRow w1.heap.size 46 4 (.slice (some ⟨g1,0,none⟩) (o.length+1) p1) (o.length+1) (flR (o++[r])))
      have gJ:Hid (Boxed (jo.setCell ⟨w.heap.size+1+1,0,none⟩ (.slice (some ⟨g1,0,none⟩) (o.length+1) p1)) (w.heap.size+1+1) 36 (.slice (some ⟨g1,0,none⟩) (o.length+1) p1)):=Cc.out
      obtain⟨E,hE⟩:∃E,E=jo.setCell ⟨w.heap.size+1+1,0,none⟩ (.slice (some ⟨g1,0,none⟩) (o.length+1) p1):=⟨_,rfl⟩
      rw[←hE]at DT mY gJ ⊢
      have aa3:=HD.out _ DT
      have aa9:=gJ.out.cell
      have abn:w1.heap.size<=E.heap.size:=DT.size
      obtain⟨ex0,ex1,ex2,ex3⟩:=E8.out _ DT
      have abj:w.heap.size+1+1<E.heap.size:=by omega
      clear MK MO uT uX qx Cc hE jq fH Gh FU Lh Lj Ll Lm LH QM QN QO hB2 hlt2 QX
      try go_wp2_with fail
      go_region_law (first
       |(refine iM (by rfl) _ _ _ (by rfl) w1.heap.size 46 i0 (.agg #[.string ⟨#[]⟩,.int .i64 0,.int .i64 0,.int .i64 0]) 4 40 Tryz.underlying34 hi hz0 hz1 hz2 rfl (by decide) (.slice (some ⟨g1,0,none⟩) (o.length+1) p1) (o.length+1) (flR (o++[r])) (by rfl) (by first | exact mY.out.alloc _ | exact(mY.out.alloc _).drew | exact((mY.out.alloc _).drew).drew | exact(mY.out.drew.alloc _)|exact(mY.out.drew.alloc _).drew) ⟨E.heap.size,0,none⟩ 1 [.string x0,.int .i64 x1,.int .i64 x2,.int .i64 x3] (by rfl) (by rfl) (World.news_of_block (by first | exact heap_alloc_new E _ | exact heap_alloc_new E.drew _)) (by simp[Value.oneCell']) (by unfold maxLen;omega) (by omega) (by simp;omega) ?_;intro gx px wx qE vS;have qP:(E.alloc (.cells #[.string x0,.int .i64 x1,.int .i64 x2,.int .i64 x3] 46)).grownBy wx (Value.slice (some ⟨g1,0,none⟩) (o.length+1) p1).ownBlock:=sQ vS rfl rfl rfl rfl;clear vS;have kx:=(jH gJ.out (by decide) (aF mY.out (by omega:w.heap.size+1+1<=w1.heap.size)) qP).cell;have kf:=(jH gJ.out (by decide) (aF mY.out (by omega:w.heap.size+1+1<=w1.heap.size)) qP).frozen))
      all_goals (
       obtain⟨y1,y2,y3,y4,y5⟩:=gJ.out.appended (by decide) (aF mY.out (by omega:w.heap.size+1+1<=w1.heap.size)) (by omega) (Nat.le_refl _) (aF qE (by omega:w.heap.size+1+1<=w1.heap.size)) qP
       have Ov:Hid ((wx.setCell ⟨w.heap.size+1+1,0,none⟩ (.slice (some ⟨gx,0,none⟩) (o.length+1+1) px)).ownsRow w1.heap.size 46 4 (.slice (some ⟨gx,0,none⟩) (o.length+1+1) px) (o.length+1+1) (flR (o++[r])++[.string x0,.int .i64 x1,.int .i64 x2,.int .i64 x3])):=ownsRow_setCell_below qE (by show w.heap.size+1+1<w1.heap.size;omega) _
       have Dv:Hid (Below (w.heap.size+1+1) w1 (wx.setCell ⟨w.heap.size+1+1,0,none⟩ (.slice (some ⟨gx,0,none⟩) (o.length+1+1) px))):=DT.trans y5
       have OC:Hid (w1.heap.size<=(wx.setCell ⟨w.heap.size+1+1,0,none⟩ (.slice (some ⟨gx,0,none⟩) (o.length+1+1) px)).heap.size):=Dv.out.size
       have OB:Hid (Boxed (wx.setCell ⟨w.heap.size+1+1,0,none⟩ (.slice (some ⟨gx,0,none⟩) (o.length+1+1) px)) (w.heap.size+1+1) 36 (.slice (some ⟨gx,0,none⟩) (o.length+1+1) px)):=y2
       clear y1 y2 y3 y4 y5 qE qP kx kf
       go_wp2
       go_roundw
       case rel=>exact⟨k+1,by omega,by go_num,by rw[HQ.out],Dv,OC,⟨_,_,by rw[HQ.out,List.length_append,List.length_append];exact OB.out,by rw[HQ.out,List.length_append,List.length_append,nJ];exact Ov.out⟩⟩
       case measure=>simp[intOf];omega)
    ·have hdl:decide (rk<=xk)=false:=by simpa using hge
     by_cases hxr:xk=rk
     ·omega
     ·have hxn:(xk != rk)=true:=by simpa using hxr
      have HQ:Hid (aY l r (k+1)=(false,o++[⟨x0,x1,x2,x3⟩])):=(by rw[HS.out];simp[hdl,hxr]:aY l r (k+1)=(false,o++[⟨x0,x1,x2,x3⟩]))
      go_wp2_with fail
      refine(hK _).mono ?_
      rintro e w2 ⟨rfl,hb2⟩
      have hB2:Below (w.heap.size+1+1) w1 w2:=hB.out.trans (hb2.mono (by omega))
      have jq:Hid (Boxed w2 (w.heap.size+1+1) 36 (.slice a o.length cr)):=(hb2.block _ lQ.out.lt).trans lQ.out
      have fH:Hid (w2.ownsRow w1.heap.size 46 4 (.slice a o.length cr) o.length (flR o)):=own_below mX.out hb2
      have Gx:w1.heap.size<=w2.heap.size:=Nat.le_trans Gw hb2.size
      have FU:=HD.out _ hB2
      have Gh:=jq.out.cell
      obtain⟨Lh,Lj,Ll,Lm⟩:=Ku.out _ hB2
      obtain⟨LH,QM,QN,QO⟩:=E8.out _ hB2
      have hlt2:w.heap.size+1+1<w2.heap.size:=by omega
      clear hK hb2 lQ mX hcx Ap
      go_wp2_with fail
      go_region_law (first
       |(refine iM (by rfl) _ _ _ (by rfl) w1.heap.size 46 i0 (.agg #[.string ⟨#[]⟩,.int .i64 0,.int .i64 0,.int .i64 0]) 4 40 Tryz.underlying34 hi hz0 hz1 hz2 rfl (by decide) (.slice a o.length cr) (o.length) (flR (o)) (by rfl) (by first | exact fH.out.alloc _ | exact(fH.out.alloc _).drew | exact((fH.out.alloc _).drew).drew | exact(fH.out.drew.alloc _)|exact(fH.out.drew.alloc _).drew) ⟨w2.heap.size,0,none⟩ 1 [.string x0,.int .i64 x1,.int .i64 x2,.int .i64 x3] (by rfl) (by rfl) (World.news_of_block (by first | exact heap_alloc_new w2 _ | exact heap_alloc_new w2.drew _)) (by simp[Value.oneCell']) (by unfold maxLen;omega) (by omega) (by simp;omega) ?_;intro gx px wx qE vS;have qP:(w2.alloc (.cells #[.string x0,.int .i64 x1,.int .i64 x2,.int .i64 x3] 46)).grownBy wx (Value.slice a o.length cr).ownBlock:=sQ vS rfl rfl rfl rfl;clear vS;have kx:=(jH jq.out (by decide) (aF fH.out (by omega:w.heap.size+1+1<=w1.heap.size)) qP).cell;have kf:=(jH jq.out (by decide) (aF fH.out (by omega:w.heap.size+1+1<=w1.heap.size)) qP).frozen))
      all_goals (
       obtain⟨y1,y2,y3,y4,y5⟩:=jq.out.appended (by decide) (aF fH.out (by omega:w.heap.size+1+1<=w1.heap.size)) (by omega) (Nat.le_refl _) (aF qE (by omega:w.heap.size+1+1<=w1.heap.size)) qP
       have Ov:Hid ((wx.setCell ⟨w.heap.size+1+1,0,none⟩ (.slice (some ⟨gx,0,none⟩) (o.length+1) px)).ownsRow w1.heap.size 46 4 (.slice (some ⟨gx,0,none⟩) (o.length+1) px) (o.length+1) (flR (o)++[.string x0,.int .i64 x1,.int .i64 x2,.int .i64 x3])):=ownsRow_setCell_below qE (by show w.heap.size+1+1<w1.heap.size;omega) _
       have Dv:Hid (Below (w.heap.size+1+1) w1 (wx.setCell ⟨w.heap.size+1+1,0,none⟩ (.slice (some ⟨gx,0,none⟩) (o.length+1) px))):=hB2.trans y5
       have OC:Hid (w1.heap.size<=(wx.setCell ⟨w.heap.size+1+1,0,none⟩ (.slice (some ⟨gx,0,none⟩) (o.length+1) px)).heap.size):=Dv.out.size
       have OB:Hid (Boxed (wx.setCell ⟨w.heap.size+1+1,0,none⟩ (.slice (some ⟨gx,0,none⟩) (o.length+1) px)) (w.heap.size+1+1) 36 (.slice (some ⟨gx,0,none⟩) (o.length+1) px)):=y2
       clear y1 y2 y3 y4 y5 qE qP kx kf
       go_wp2
       go_roundw
       case rel=>exact⟨k+1,by omega,by go_num,by rw[HQ.out],Dv,OC,⟨_,_,by rw[HQ.out,List.length_append];exact OB.out,by rw[HQ.out,List.length_append,nJ];exact Ov.out⟩⟩
       case measure=>simp[intOf];omega)
   ·by_cases hxr:xk=rk
    ·have hxn:(xk != rk)=false:=by simpa using hxr
     have HQ:Hid (aY l r (k+1)=(true,o)):=(by rw[HS.out];simp[hxr]:aY l r (k+1)=(true,o))
     go_wp2_with fail
     refine(hK _).mono ?_
     rintro e w2 ⟨rfl,hb2⟩
     have hB2:Below (w.heap.size+1+1) w1 w2:=hB.out.trans (hb2.mono (by omega))
     have jq:Hid (Boxed w2 (w.heap.size+1+1) 36 (.slice a o.length cr)):=(hb2.block _ lQ.out.lt).trans lQ.out
     have fH:Hid (w2.ownsRow w1.heap.size 46 4 (.slice a o.length cr) o.length (flR o)):=own_below mX.out hb2
     have Gx:w1.heap.size<=w2.heap.size:=Nat.le_trans Gw hb2.size
     have FU:=HD.out _ hB2
     have Gh:=jq.out.cell
     obtain⟨Lh,Lj,Ll,Lm⟩:=Ku.out _ hB2
     obtain⟨LH,QM,QN,QO⟩:=E8.out _ hB2
     have hlt2:w.heap.size+1+1<w2.heap.size:=by omega
     clear hK hb2 lQ mX hcx Ap
     have HZ2:Hid (w1.heap.size<=w2.heap.size):=Gx
     have HB2:Hid (Below (w.heap.size+1+1) w1 w2):=hB2
     go_wp2
     go_roundw
     case rel=>exact⟨k+1,by omega,by go_num,by rw[HQ.out],HB2,HZ2,⟨_,_,by rw[HQ.out];exact jq.out,by rw[HQ.out];exact fH.out⟩⟩
     case measure=>simp[intOf];omega
    ·have hxn:(xk != rk)=true:=by simpa using hxr
     have HQ:Hid (aY l r (k+1)=(true,o++[⟨x0,x1,x2,x3⟩])):=(by rw[HS.out];simp[hxr]:aY l r (k+1)=(true,o++[⟨x0,x1,x2,x3⟩]))
     go_wp2_with fail
     refine(hK _).mono ?_
     rintro e w2 ⟨rfl,hb2⟩
     have hB2:Below (w.heap.size+1+1) w1 w2:=hB.out.trans (hb2.mono (by omega))
     have jq:Hid (Boxed w2 (w.heap.size+1+1) 36 (.slice a o.length cr)):=(hb2.block _ lQ.out.lt).trans lQ.out
     have fH:Hid (w2.ownsRow w1.heap.size 46 4 (.slice a o.length cr) o.length (flR o)):=own_below mX.out hb2
     have Gx:w1.heap.size<=w2.heap.size:=Nat.le_trans Gw hb2.size
     have FU:=HD.out _ hB2
     have Gh:=jq.out.cell
     obtain⟨Lh,Lj,Ll,Lm⟩:=Ku.out _ hB2
     obtain⟨LH,QM,QN,QO⟩:=E8.out _ hB2
     have hlt2:w.heap.size+1+1<w2.heap.size:=by omega
     clear hK hb2 lQ mX hcx Ap
     go_wp2_with fail
     go_region_law (first
      |(refine iM (by rfl) _ _ _ (by rfl) w1.heap.size 46 i0 (.agg #[.string ⟨#[]⟩,.int .i64 0,.int .i64 0,.int .i64 0]) 4 40 Tryz.underlying34 hi hz0 hz1 hz2 rfl (by decide) (.slice a o.length cr) (o.length) (flR (o)) (by rfl) (by first | exact fH.out.alloc _ | exact(fH.out.alloc _).drew | exact((fH.out.alloc _).drew).drew | exact(fH.out.drew.alloc _)|exact(fH.out.drew.alloc _).drew) ⟨w2.heap.size,0,none⟩ 1 [.string x0,.int .i64 x1,.int .i64 x2,.int .i64 x3] (by rfl) (by rfl) (World.news_of_block (by first | exact heap_alloc_new w2 _ | exact heap_alloc_new w2.drew _)) (by simp[Value.oneCell']) (by unfold maxLen;omega) (by omega) (by simp;omega) ?_;intro gx px wx qE vS;have qP:(w2.alloc (.cells #[.string x0,.int .i64 x1,.int .i64 x2,.int .i64 x3] 46)).grownBy wx (Value.slice a o.length cr).ownBlock:=sQ vS rfl rfl rfl rfl;clear vS;have kx:=(jH jq.out (by decide) (aF fH.out (by omega:w.heap.size+1+1<=w1.heap.size)) qP).cell;have kf:=(jH jq.out (by decide) (aF fH.out (by omega:w.heap.size+1+1<=w1.heap.size)) qP).frozen))
     all_goals (
      obtain⟨y1,y2,y3,y4,y5⟩:=jq.out.appended (by decide) (aF fH.out (by omega:w.heap.size+1+1<=w1.heap.size)) (by omega) (Nat.le_refl _) (aF qE (by omega:w.heap.size+1+1<=w1.heap.size)) qP
      have Ov:Hid ((wx.setCell ⟨w.heap.size+1+1,0,none⟩ (.slice (some ⟨gx,0,none⟩) (o.length+1) px)).ownsRow w1.heap.size 46 4 (.slice (some ⟨gx,0,none⟩) (o.length+1) px) (o.length+1) (flR (o)++[.string x0,.int .i64 x1,.int .i64 x2,.int .i64 x3])):=ownsRow_setCell_below qE (by show w.heap.size+1+1<w1.heap.size;omega) _
      have Dv:Hid (Below (w.heap.size+1+1) w1 (wx.setCell ⟨w.heap.size+1+1,0,none⟩ (.slice (some ⟨gx,0,none⟩) (o.length+1) px))):=hB2.trans y5
      have OC:Hid (w1.heap.size<=(wx.setCell ⟨w.heap.size+1+1,0,none⟩ (.slice (some ⟨gx,0,none⟩) (o.length+1) px)).heap.size):=Dv.out.size
      have OB:Hid (Boxed (wx.setCell ⟨w.heap.size+1+1,0,none⟩ (.slice (some ⟨gx,0,none⟩) (o.length+1) px)) (w.heap.size+1+1) 36 (.slice (some ⟨gx,0,none⟩) (o.length+1) px)):=y2
      clear y1 y2 y3 y4 y5 qE qP kx kf
      go_wp2
      go_roundw
      case rel=>exact⟨k+1,by omega,by go_num,by rw[HQ.out],Dv,OC,⟨_,_,by rw[HQ.out,List.length_append];exact OB.out,by rw[HQ.out,List.length_append,nJ];exact Ov.out⟩⟩
      case measure=>simp[intOf];omega)
  ·have hkn:k=n:=by omega
   subst hkn
   have hz1b:=HZ1.out _ hB.out
   have YF:=hz1b.cell
   have abb:=hz1b.frozen
   have ZO:Hid (Boxed wr (w.heap.size+1) 36 (.slice none 0 0)):=hz1b
   have gJ:Hid (Below w.heap.size w wr):=hBW.trans (hB.out.mono (by omega))
   generalize (aY l r k).1=d at *
   generalize (aY l r k).2=o at *
   have lQ:Hid (Boxed wr (w.heap.size+1+1) 36 (.slice a o.length cr)):=hbx
   have mX:Hid (wr.ownsRow w1.heap.size 46 4 (.slice a o.length cr) o.length (flR o)):=hrow
   have abl:w.heap.size+1+1<wr.heap.size:=by omega
   clear hbx hrow ho HX hz1b
   cases d
   ·have mY:Hid (RL=o++[r]):=(by rw[XR.out];rfl:RL=o++[r])
    go_wp2_with (at_builtin;refine wpList_append_own _ rfl _ _ 34 rfl w1.heap.size 46 i0 (.agg #[.string ⟨#[]⟩,.int .i64 0,.int .i64 0,.int .i64 0]) 4 40 Tryz.underlying34 hi hz0 hz1 hz2 rfl (by decide) _ _ _ rfl (mX.out.alloc _) ⟨wr.heap.size,0,none⟩ 1 1 [.string r0,.int .i64 r1,.int .i64 r2,.int .i64 r3] rfl rfl (World.news_of_block (heap_alloc_new _ _)) (by simp[Value.oneCell']) (by unfold maxLen;omega) (by omega) (by simp;omega) ?_;intro v' jo hown1 hgrow1 hnil1;obtain⟨g1,p1,rfl⟩:=ownsRow_succ hown1;obtain⟨qx,wz,Gt,Gq,vX⟩:=lQ.out.appended (by decide) (aF mX.out (by omega:w.heap.size+1+1<=w1.heap.size)) (by omega) (Nat.le_refl _) (aF hown1 (by omega:w.heap.size+1+1<=w1.heap.size)) hgrow1;have MK:=qx.cell;have MO:=qx.frozen;have uX:Hid (jo.ownsRow w1.heap.size 46 4 (.slice (some ⟨g1,0,none⟩) (o.length+1) p1) (o.length+1) (flR o++[.string r0,.int .i64 r1,.int .i64 r2,.int .i64 r3])):=hown1;have Cc:Hid (Boxed (jo.setCell ⟨w.heap.size+1+1,0,none⟩ (.slice (some ⟨g1,0,none⟩) (o.length+1) p1)) (w.heap.size+1+1) 36 (.slice (some ⟨g1,0,none⟩) (o.length+1) p1)):=wz;have uT:Hid (Below (w.heap.size+1+1) wr (jo.setCell ⟨w.heap.size+1+1,0,none⟩ (.slice (some ⟨g1,0,none⟩) (o.length+1) p1))):=vX;have QX:Hid (wr.heap.size<=jo.heap.size):=Nat.le_trans (by simp) hgrow1.size;have hq1:=(ZO.out.alloc (.cells #[.string r0,.int .i64 r1,.int .i64 r2,.int .i64 r3] 46)).kept hgrow1 (fun e=>by have:=(mX.out.lt _ e.symm).1;omega);have hqc:=hq1.cell;have hqf:=hq1.frozen;clear hgrow1 hnil1 hown1 Gt Gq wz vX)
    have ji:Hid ((jo.setCell ⟨w.heap.size+1+1,0,none⟩ (.slice (some ⟨g1,0,none⟩) (o.length+1) p1)).ownsRow w1.heap.size 46 4 (.slice (some ⟨g1,0,none⟩) (o.length+1) p1) (o.length+1) (flR RL)):=(by rw[mY.out,nJ,HR0.out];exact ownsRow_setCell_below uX.out (by show w.heap.size+1+1<w1.heap.size;omega) _:(jo.setCell ⟨w.heap.size+1+1,0,none⟩ (.slice (some ⟨g1,0,none⟩) (o.length+1) p1)).ownsRow w1.heap.size 46 4 (.slice (some ⟨g1,0,none⟩) (o.length+1) p1) (o.length+1) (flR RL))
    have Zo:Hid (Below w.heap.size w (jo.setCell ⟨w.heap.size+1+1,0,none⟩ (.slice (some ⟨g1,0,none⟩) (o.length+1) p1))):=gJ.out.trans (uT.out.mono (by omega))
    clear uT uX qx Cc mY
    go_wp2
    exact bodyPost_ret (v:= .agg #[.slice (some ⟨g1,0,none⟩) (o.length+1) p1]) (by simp[results,Tryz.results111,go_sem,hqc]) rfl ⟨_,_,_,rfl,Zo.out.setCell (Nat.le_succ _) _,aF (ownsRow_setCell_below ji.out (by show w.heap.size+1<w1.heap.size;omega) _) (by omega)⟩
   ·have mY:Hid (RL=o):=(by rw[XR.out];rfl:RL=o)
    have ji:Hid (wr.ownsRow w1.heap.size 46 4 (.slice a o.length cr) o.length (flR RL)):=(by rw[mY.out];exact mX.out:wr.ownsRow w1.heap.size 46 4 (.slice a o.length cr) o.length (flR RL))
    go_wp2
    exact bodyPost_ret (v:= .agg #[.slice a o.length cr]) (by simp[results,Tryz.results111,go_sem,YF]) rfl ⟨a,_,cr,rfl,gJ.out.setCell (Nat.le_succ _) _,aF (ownsRow_setCell_below ji.out (by show w.heap.size+1<w1.heap.size;omega) _) (by omega)⟩
theorem P6(g og:Nat)(v:Value)(l:Rcl)(r:Rc)(w:World)(hg:g<w.heap.size)(hD:w.cell? ⟨g,og,none⟩=some v)(hv:Rcs w v l)(hok:bM l)(hrs:r.l.size<=12):
  Calls Tryz.prog 111 #[.pointer (some ⟨g,og,none⟩),.agg #[.string r.l,.int .i64 r.v,.int .i64 r.o,.int .i64 r.p]] w fun e w'=>∃a m c,e = .returned (.agg #[.slice a m c])/\Below w.heap.size w w'/\w'.ownsRow w.heap.size 46 4 (.slice a m c) m (flR (dQ l r)):=by
 obtain⟨a,c,rfl⟩:=hv.shape
 obtain⟨b,off,hav,hc⟩:∃b off,(0<l.length->a=some ⟨b,off,none⟩/\b<w.heap.size)/\∀j,j<l.length->dG w b (off+j*4) (rAt l j):=by
  by_cases h0:0<l.length
  ·obtain⟨-,b,off,e,hb,hc⟩:=hv.at h0
   exact⟨b,off,fun _=>⟨e,hb⟩,hc⟩
  ·exact⟨0,0,fun h=>absurd h h0,fun j hj=>by omega⟩
 exact NC g og b off c l.length a l r.l r.v r.o r.p w hok.len hg hav (fun j hj=>Rc.jC (hok.ok j hj)) hrs hD hc
theorem Hu(g og p po:Nat)(s:Int)(w:World)(hs:inB s 0 999=false):
  Calls Tryz.prog 110 #[.pointer (some ⟨g,og,none⟩),.pointer (some ⟨p,po,none⟩),.int .i64 s] w fun e w'=>e = .returned (.int .i64 3)/\Below w.heap.size w w':=by
 have hI:=fun w=>bg s 0 999 w
 rw[hs]at hI
 clear hs
 go_enter Tryz.func110,Tryz.ntmps110
 go_wp2_with fail
 refine(hI _).mono ?_
 rintro e w0 ⟨rfl,rfl⟩
 clear hI
 go_wp2
 go_ret
 exact⟨rfl,Below.refl _ _⟩
theorem DJ(a b:List UInt8):(a==b)=(b==a):=by
 rw[Bool.eq_iff_iff]
 simp only[beq_iff_eq]
 exact eq_comm
theorem P5(g og p po:Nat)(v:Value)(l:Rcl)(r:Rc)(s:Int)(w:World)(hg:g<w.heap.size)(hD:w.cell? ⟨g,og,none⟩=some v)(hv:Rcs w v l)(hok:bM l)(hp:p<w.heap.size)(hr:dG w p po r)(hrc:r.c=0):
  Calls Tryz.prog 110 #[.pointer (some ⟨g,og,none⟩),.pointer (some ⟨p,po,none⟩),.int .i64 s] w fun e w'=>e = .returned (.int .i64 (nN l r s))/\Below w.heap.size w w':=by
 rcases Bool.eq_false_or_eq_true (inB s 0 999)with hs | hs
 ·have e0:nN l r s=tN (lkO l r.k) (decide (12<=l.length)) r (dH s):=by unfold nN;rw[if_pos hs]
  rw[e0]
  have hK:=fun w=>ku r.l w (Rc.jC hrc)
  have hA:=fun w' (h:Below w.heap.size w w')=>RZ g og v l r.k w' (Nat.lt_of_lt_of_le hg h.size) ((h.cell (p:=⟨g,og,none⟩) hg).trans hD) (hv.below h) hok
  have hO:=fun w=>JG s w (jd hs)
  obtain⟨a,c,rfl⟩:=hv.shape
  rcases vw l r.k with⟨h1,-⟩ |⟨j,hj,-,h1⟩
  ·have e1:lkO l r.k=none:=by unfold lkO;rw[if_pos h1]
   rw[e1]
   rw[h1]at hA
   have hn:=hok.len
   unfold tN
   dsimp only
   by_cases hv1:r.v=1
   ·rw[if_pos hv1]
    by_cases ho:dH s=r.o
    ·rw[if_pos ho]
     by_cases hf:12<=l.length
     ·rw[if_pos (by simpa using hf)]
      exact Ny g og p po l.length c a s r.l r.v r.o (dH s) r.k w hg hp hn hD hr.c0 hr.c1 hr.c2 hs (by simp[hv1]) (by simp[ho]) hf hK hA hO
     ·rw[if_neg (by simpa using hf)]
      exact Nz g og p po l.length c a s r.l r.v r.o (dH s) r.k w hg hp hn hD hr.c0 hr.c1 hr.c2 hs (by simp[hv1]) (by simp[ho]) hf hK hA hO
    ·rw[if_neg ho]
     exact PZ g og p po l.length c a s r.l r.v r.o (dH s) r.k w hg hp hn hD hr.c0 hr.c1 hr.c2 hs (by simp[hv1]) (by simp;exact fun e=>ho e.symm) hK hA hO
   ·rw[if_neg hv1]
    exact JD g og p po l.length c a s r.l r.v r.o (dH s) r.k w hg hp hn hD hr.c0 hr.c1 hr.c2 hs (by simp[hv1]) hK hA hO
  ·have e1:lkO l r.k=some (rAt l j):=by unfold lkO;rw[h1,if_neg (by omega),Int.toNat_natCast]
   rw[e1]
   rw[h1]at hA
   obtain⟨-,b,off,rfl,hb,hc⟩:=hv.at (by omega)
   have hx:=hc j hj
   have hxk:=hok.WV hj
   have hxb:1<=(rAt l j).v/\(rAt l j).v<=999:=⟨hxk.v0,hxk.v1⟩
   generalize rAt l j=x at *
   unfold tN
   dsimp only
   rcases Bool.eq_false_or_eq_true (r.l.toList==x.l.toList)with hl | hl
   ·rw[if_pos hl]
    rw[DJ]at hl
    by_cases ho:dH s=x.o
    ·rw[if_pos ho]
     by_cases hvv:r.v=x.v+1
     ·rw[if_pos hvv]
      exact Si g og p po b off c l.length j s x.l r.l x.v x.o r.v r.o (dH s) r.k w hg hp hb hj hD hx.c0 hx.c1 hx.c2 hr.c0 hr.c1 hr.c2 hxb hs hl (by simp[ho]) (by simp[hvv]) hK hA hO
     ·rw[if_neg hvv]
      exact EG g og p po b off c l.length j s x.l r.l x.v x.o r.v r.o (dH s) r.k w hg hp hb hj hD hx.c0 hx.c1 hx.c2 hr.c0 hr.c1 hr.c2 hxb hs hl (by simp[ho]) (by simp;exact fun e=>hvv e.symm) hK hA hO
    ·rw[if_neg ho]
     exact JE g og p po b off c l.length j s x.l r.l x.v x.o r.v r.o (dH s) r.k w hg hp hb hj hD hx.c0 hx.c1 hx.c2 hr.c0 hr.c1 hr.c2 hxb hs hl (by simp;exact fun e=>ho e.symm) hK hA hO
   ·rw[if_neg (by rw[hl];decide)]
    rw[DJ]at hl
    exact JF g og p po b off c l.length j s x.l r.l x.v x.o r.v r.o (dH s) r.k w hg hp hb hj hD hx.c0 hx.c1 hx.c2 hr.c0 hr.c1 hr.c2 hxb hs hl hK hA hO
 ·have e0:nN l r s=3:=by unfold nN;rw[if_neg (by rw[hs];decide)]
  rw[e0]
  exact Hu g og p po s w hs
def u9C(l:Rcl)(r:Rc)(s:Int):Int:=if r.c=0 then nN l r s else r.c
def u9L(l:Rcl)(r:Rc)(s:Int):Rcl:=if u9C l r s=0 then dQ l r else []
theorem Va{w:World}{B m:Nat}{e:TypeId}{a:Option Addr}{c:Nat}{L:Rcl}(h:w.ownsRow B e 4 (.slice a m c) m (flR L)):m=L.length:=by
 have:=h.1
 rw[pJ]at this
 omega
theorem wQ(g og p po:Nat)(v:Value)(l:Rcl)(r:Rc)(s:Int)(w:World)(hg:g<w.heap.size)(hD:w.cell? ⟨g,og,none⟩=some v)(hv:Rcs w v l)(hok:bM l)(hp:p<w.heap.size)(hr:dG w p po r)(hrs:r.l.size<=1048576):
  Calls Tryz.prog 57 #[.pointer (some ⟨g,og,none⟩),.pointer (some ⟨p,po,none⟩),.int .i64 s] w fun e w'=>∃a c,e = .returned (.tuple #[.agg #[.slice a (u9L l r s).length c],.int .i64 (u9C l r s)])/\Below w.heap.size w w'/\w'.ownsRow w.heap.size 46 4 (.slice a (u9L l r s).length c) (u9L l r s).length (flR (u9L l r s)):=by
 have HF:Hid (∀w',Below w.heap.size w w'->Calls Tryz.prog 92 #[.pointer (some ⟨p,po,none⟩)] w' fun e w''=>e = .returned (.int .i64 r.c)/\Below w'.heap.size w' w''):=fun w' h=>Bf p po r.l r.v r.o r.p w' (hr.below h hp) hrs
 have HM:Hid (r.c=0->∀w',Below w.heap.size w w'->Calls Tryz.prog 110 #[.pointer (some ⟨g,og,none⟩),.pointer (some ⟨p,po,none⟩),.int .i64 s] w' fun e w''=>e = .returned (.int .i64 (nN l r s))/\Below w'.heap.size w' w''):=fun h0 w' h=>P5 g og p po v l r s w' (Nat.lt_of_lt_of_le hg h.size) ((h.cell (p:=⟨g,og,none⟩) hg).trans hD) (hv.below h) hok (Nat.lt_of_lt_of_le hp h.size) (hr.below h hp) h0
 have HP:Hid (r.c=0->∀w',Below w.heap.size w w'->Calls Tryz.prog 111 #[.pointer (some ⟨g,og,none⟩),.agg #[.string r.l,.int .i64 r.v,.int .i64 r.o,.int .i64 r.p]] w' fun e w''=>∃a m c,e = .returned (.agg #[.slice a m c])/\Below w'.heap.size w' w''/\w''.ownsRow w'.heap.size 46 4 (.slice a m c) m (flR (dQ l r))):=fun h0 w' h=>P6 g og v l r w' (Nat.lt_of_lt_of_le hg h.size) ((h.cell (p:=⟨g,og,none⟩) hg).trans hD) (hv.below h) hok (Rc.jC h0)
 have HC:Hid (∀w',Below w.heap.size w w'->w'.cell? ⟨p,po,none⟩=some (.string r.l)/\w'.cell? ⟨p,po+1,none⟩=some (.int .i64 r.v)/\w'.cell? ⟨p,po+2,none⟩=some (.int .i64 r.o)/\w'.cell? ⟨p,po+3,none⟩=some (.int .i64 r.p)):=fun w' h=>⟨(hr.below h hp).c0,(hr.below h hp).c1,(hr.below h hp).c2,(hr.below h hp).c3⟩
 have q0:=heap_alloc_new w (.cells #[.slice none 0 0] 36)
 have hB0:=aj (w:=w) (.cells #[.slice none 0 0] 36)
 clear hv hr hok hD
 by_cases h0:r.c=0
 ·have hM:=HM.out h0
  have hP:=HP.out h0
  have hF:=HF.out
  rw[h0]at hF
  have e1:u9C l r s=nN l r s:=by unfold u9C;rw[if_pos h0]
  unfold u9L
  rw[e1]
  generalize nN l r s=q at *
  clear HF HM HP h0 e1
  by_cases hq:q=0
  ·subst hq
   rw[if_pos rfl]
   generalize dQ l r=L at *
   generalize r.l=r0 at *
   generalize r.v=r1 at *
   generalize r.o=r2 at *
   generalize r.p=r3 at *
   go_enter Tryz.func57,Tryz.ntmps57
   go_wp2_with fail
   refine(hF _ hB0).mono ?_
   rintro e w1 ⟨rfl,hb1⟩
   have hB1:=ah hB0 hb1
   have q1:=(hb1.block _ (by simp)).trans q0
   clear hF hb1
   go_wp2_with fail
   refine(hM _ hB1).mono ?_
   rintro e w2 ⟨rfl,hb2⟩
   have hB2:=ah hB1 hb2
   have q2:=(hb2.block _ (Array.getElem?_eq_some_iff.1 q1).1).trans q1
   obtain⟨c0,c1,c2,c3⟩:=HC.out _ hB2
   clear hM hb2 q1 hB1
   go_wp2_with fail
   refine(hP _ hB2).mono ?_
   rintro e w3 ⟨a3,m3,c3',rfl,hb3,ho3⟩
   have hB3:=ah hB2 hb3
   have q3:Boxed w3 w.heap.size 36 (.slice none 0 0):=(hb3.block _ (Array.getElem?_eq_some_iff.1 q2).1).trans q2
   have k3:=q3.cell
   have f3:=q3.frozen
   have hlt2:w.heap.size<w2.heap.size:=(Array.getElem?_eq_some_iff.1 q2).1
   have iY:Hid (w3.ownsRow w2.heap.size 46 4 (.slice a3 m3 c3') m3 (flR L)):=ho3
   have Xz:Hid (m3=L.length):=Va ho3
   clear hP hb3 ho3 q2 q3 hB2
   go_wp2
   refine bodyPost_ret (v:= .tuple #[.agg #[.slice a3 m3 c3'],.int .i64 0]) (by simp[results,Tryz.results57,go_sem,k3]) rfl ⟨a3,c3',by rw[←Xz.out],hB3.setCell (Nat.le_refl _) _, ?_⟩
   rw[←Xz.out]
   exact aF (ownsRow_setCell_below iY.out (by show w.heap.size<w2.heap.size;exact hlt2) _) (Nat.le_of_lt hlt2)
  ·rw[if_neg hq]
   have PG:(q != 0)=true:=by simpa using hq
   clear hP
   go_enter Tryz.func57,Tryz.ntmps57
   go_wp2_with fail
   refine(hF _ hB0).mono ?_
   rintro e w1 ⟨rfl,hb1⟩
   have hB1:=ah hB0 hb1
   have q1:=(hb1.block _ (by simp)).trans q0
   clear hF hb1
   go_wp2_with fail
   refine(hM _ hB1).mono ?_
   rintro e w2 ⟨rfl,hb2⟩
   have hB2:=ah hB1 hb2
   have q2:Boxed w2 w.heap.size 36 (.slice none 0 0):=(hb2.block _ (Array.getElem?_eq_some_iff.1 q1).1).trans q1
   have k3:=q2.cell
   have f3:=q2.frozen
   clear hM hb2 q1 hB1 q2
   go_wp2
   exact bodyPost_ret (v:= .tuple #[.agg #[.slice none 0 0],.int .i64 q]) (by simp[results,Tryz.results57,go_sem,k3]) rfl ⟨none,0,rfl,hB2.setCell (Nat.le_refl _) _,World.ownsRow_nil _ _ _ _⟩
 ·have e1:u9C l r s=r.c:=by unfold u9C;rw[if_neg h0]
  have hF:=HF.out
  unfold u9L
  rw[e1,if_neg h0]
  generalize r.c=q at *
  have PG:(q != 0)=true:=by simpa using h0
  clear HF HM HP e1 h0
  go_enter Tryz.func57,Tryz.ntmps57
  go_wp2_with fail
  refine(hF _ hB0).mono ?_
  rintro e w1 ⟨rfl,hb1⟩
  have hB1:=ah hB0 hb1
  have q1:Boxed w1 w.heap.size 36 (.slice none 0 0):=(hb1.block _ (by simp)).trans q0
  have k3:=q1.cell
  have f3:=q1.frozen
  clear hF hb1 q1
  go_wp2
  exact bodyPost_ret (v:= .tuple #[.agg #[.slice none 0 0],.int .i64 q]) (by simp[results,Tryz.results57,go_sem,k3]) rfl ⟨none,0,rfl,hB1.setCell (Nat.le_refl _) _,World.ownsRow_nil _ _ _ _⟩
end U
end Go.Proofs.YtmmcgjacojgeaaaGreat
namespace Go.Proofs.YtmmcgjacojgeaaaGreat
open Go.RowKit Go.Maps
namespace U
def lN(w:World)(code:Int)(l:Rcl)(e:Ending)(w':World):Prop:=
 ∃a c,e = .returned (.agg #[.int .i64 code,.slice a l.length c])/\Below w.heap.size w w'/\w'.ownsRow w.heap.size 46 4 (.slice a l.length c) l.length (flR l)
theorem BZ{l:Rcl}{r:Rc}{s:Int}(h:aB l=0):upC l r s=u9C l r s/\upL l r s=u9L l r s:=by
 have e:upC l r s=u9C l r s:=by unfold upC u9C;rw[if_pos h]
 refine⟨e, ?_⟩
 unfold upL u9L
 rw[e]
def nxC(x r:Rc)(ow:Int):Int:=if(r.l.toList==x.l.toList)=true then(if ow=x.o then(if r.v=x.v+1 then 0 else 7)else 8)else 6
def sO(r:Rc)(ow:Int):Int:=if r.v=1 then(if ow=r.o then 0 else 8)else 7
theorem uI(x0:ByteArray)(x1 x2 x3:Int)(r0:ByteArray)(r1 r2 r3 ow:Int)(w:World)(hv:1<=x1/\x1<=999):
  Calls Tryz.prog 73 #[.agg #[.string x0,.int .i64 x1,.int .i64 x2,.int .i64 x3],.agg #[.string r0,.int .i64 r1,.int .i64 r2,.int .i64 r3],.int .i64 ow] w fun e w'=>e = .returned (.int .i64 (nxC ⟨x0,x1,x2,x3⟩ ⟨r0,r1,r2,r3⟩ ow))/\Below w.heap.size w w':=by
 unfold nxC
 dsimp only
 rcases Bool.eq_false_or_eq_true (r0.toList==x0.toList)with hl | hl
 ·rw[if_pos hl]
  by_cases ho:ow=x2
  ·rw[if_pos ho]
   have hon:(ow != x2)=false:=by simp[ho]
   by_cases hvv:r1=x1+1
   ·rw[if_pos hvv]
    have hvn:(r1 != x1+1)=false:=by simp[hvv]
    clear ho hvv
    go_enter Tryz.func73,Tryz.ntmps73
    go_wp2
    go_ret
    exact⟨rfl,aN _ _⟩
   ·rw[if_neg hvv]
    have hvn:(r1 != x1+1)=true:=by simp[hvv]
    clear ho hvv
    go_enter Tryz.func73,Tryz.ntmps73
    go_wp2
    go_ret
    exact⟨rfl,aN _ _⟩
  ·rw[if_neg ho]
   have hon:(ow != x2)=true:=by simp[ho]
   clear ho
   go_enter Tryz.func73,Tryz.ntmps73
   go_wp2
   go_ret
   exact⟨rfl,aN _ _⟩
 ·rw[if_neg (by rw[hl];decide)]
  go_enter Tryz.func73,Tryz.ntmps73
  go_wp2
  go_ret
  exact⟨rfl,aN _ _⟩
theorem nI(r0:ByteArray)(r1 r2 r3 ow:Int)(w:World):
  Calls Tryz.prog 74 #[.agg #[.string r0,.int .i64 r1,.int .i64 r2,.int .i64 r3],.int .i64 ow] w fun e w'=>e = .returned (.int .i64 (sO ⟨r0,r1,r2,r3⟩ ow))/\Below w.heap.size w w':=by
 unfold sO
 dsimp only
 by_cases hv:r1=1
 ·rw[if_pos hv]
  have hvn:(r1 != 1)=false:=by simp[hv]
  by_cases ho:ow=r2
  ·rw[if_pos ho]
   have hon:(ow != r2)=false:=by simp[ho]
   clear hv ho
   go_enter Tryz.func74,Tryz.ntmps74
   go_wp2
   go_ret
   exact⟨rfl,aj _⟩
  ·rw[if_neg ho]
   have hon:(ow != r2)=true:=by simp[ho]
   clear hv ho
   go_enter Tryz.func74,Tryz.ntmps74
   go_wp2
   go_ret
   exact⟨rfl,aj _⟩
 ·rw[if_neg hv]
  have hvn:(r1 != 1)=true:=by simp[hv]
  clear hv
  go_enter Tryz.func74,Tryz.ntmps74
  go_wp2
  go_ret
  exact⟨rfl,aj _⟩
end U
end Go.Proofs.YtmmcgjacojgeaaaGreat
