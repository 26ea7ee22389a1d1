/- Joined: what the texts behind it need. -/
import Derived.Test.YtmnfokgllcdiiaaGreatYZz
import Derived.Test.YtmnfokgllcdiiaaGreatYBB
import Derived.Deep.Trees
import Derived.Test.YtmnfokgllcdiiaaGreatYBA
import Derived.Handy
import Derived.Lib.Walk
import Derived.Lib.BitFns
import Derived.WalkLawsBesides
import Derived.Test.YtmnfokgllcdiiaaGreatRows
import Derived.WalkKit
import Derived.ProofKit
import Derived.OpenShut
import Derived.ShutString
import Derived.WalkSmall
import Derived.Deep.SlicePairs
import Derived.Lib.SmallJoins
import Derived.Maps.OwnSet
import Derived.Maps.Ext
import Derived.Deep.RegionHeld3
import Derived.Test.YtmnfokgllcdiiaaGreatShelf
set_option maxRecDepth 100000
set_option maxHeartbeats 4000000
namespace Go.Proofs.YtmnfokgllcdiiaaGreat
open Go.RowKit
namespace U
theorem SA{l:Prl}(h:Ris l)(hf:∀p∈l,fine p=true)(n:Nat):Pls (rows l n):=by
 have h0:∀p∈l,0<=p.1:=fun p hp=>(jS (hf p hp)).1.1
 intro p hp
 have h1:=UN h h0 n p hp
 obtain⟨p',hp',e⟩:=((rows_row h h0 n).2 p.1).1 ⟨p.2,hp⟩
 have h2:=(jS (hf p' hp')).1
 have h3:p'.1/(2^n:Nat)<=p'.1:=Int.ediv_le_self _ h2.1
 exact⟨⟨h1.1,by omega⟩,h1.2⟩
theorem UE{w:World}{B:Nat}{e:TypeId}{v:Value}{m:Nat}{xs:List Value}(h:w.ownsRow B e 2 v m xs):∀a n c,v = .slice a n c->n<=c:=by
 intro a n c hv
 subst hv
 rcases h.2 with⟨h1,_⟩ |⟨g,cap,cur,h1,_,_,hc,_⟩
 ·cases h1;omega
 ·cases h1;exact hc
theorem UK{l:Prl}{n:Nat}(h:(rows l n).length=0):prt l n=emp n:=by
 unfold prt
 rw[List.eq_nil_of_length_eq_zero h]
theorem RY{l:Prl}{n:Nat}(h:0<(rows l n).length):prt l n=(pAt (rows l n) 0).2:=by
 unfold prt
 rcases hr:rows l n with _ |⟨p,t⟩
 ·rw[hr]at h;simp at h
 ·simp[pAt]
theorem gB(v:Value)(l:Prl)(n:Nat)(w:World)(hv:Prs w v l)(hl:l.length<=12)(hr:Ris l)(hf:∀p∈l,fine p=true)(hn:n<=8):
  Calls Tryz.prog 266 #[v,.int .i64 (n:Int),.agg (bH emp)] w fun e w'=>e = .returned (.int .i64 (prt l n))/\Below w.heap.size w w':=by
 have hL:=fun o=>KG v l _ (hv.below (aj o)) hl hf
 obtain⟨ad,c,rfl⟩:=hv.shape
 generalize l.length=len at hv ⊢ hL
 have HL:Hid (l.length<=12):=hl
 have HR:Hid (Ris l):=hr
 have HF:Hid (∀p∈l,fine p=true):=hf
 have A0:=bV.of (f:=emp) (heap_alloc_new w (.cells (bH emp) 340))
 clear hv hr hf hl
 go_enter Tryz.func266,Tryz.ntmps266
 go_wp2_with fail
 refine(hL _).mono ?_
 rintro e w1 ⟨v1,rfl,ho1,hb1⟩
 rw[World.size_alloc]at ho1
 have A1:=A0.below hb1 (by simp)
 have hB1:=ak hb1
 have hz1:w.heap.size<w1.heap.size:=by have:=hb1.size;simp at this;omega
 have HA1:Hid (bV w1 w.heap.size emp):=A1
 have HB1:Hid (Below w.heap.size w w1):=hB1
 have jF:Hid (w1.ownsRow (w.heap.size+1) 381 2 v1 (rows l 0).length ((fl (rows l 0)).map (Value.int .i64))):=ho1
 clear hL A0 A1 hb1 ho1 hB1
 go_wp2
 go_loopw [7,12] (fun u i wr=>∃k:Nat,k<=n/\i = .int .i64 k/\w.heap.size<wr.heap.size/\Hid (Below w.heap.size w wr)/\Hid (bV wr w.heap.size emp)/\Hid (wr.ownsRow (w.heap.size+1) 381 2 u (rows l k).length ((fl (rows l k)).map (Value.int .i64)))) (fun _ i _=>n - (intOf i).toNat)
 case atStart=>exact⟨0,Nat.zero_le _,rfl,hz1,HB1,HA1,jF⟩
 case round=>
  obtain⟨k,hk,rfl,hz,HB,HA,HO⟩:=hrel
  have Hu:=aP HO.out
  have hcap:=UE HO.out
  obtain⟨a',c',rfl⟩:=bW HO.out
  by_cases hkn:k<n
  ·have hki:(k:Int)<(n:Int):=by omega
   have hk9:(k:Int)<9:=by omega
   have hk0:(0:Int)<=(k:Int):=by omega
   have ck:=HA.out.c k (by omega)
   have hR:=JB _ (rows l k) (emp k) wr Hu hcap (Nat.le_trans (Sm l k) HL.out) (Bf k) (SA HR.out HF.out k)
   have e1:abv (emp k) (rows l k)=rows l (k+1):=rfl
   rw[e1]at hR
   obtain⟨r2,hr2⟩:∃r2,r2=rows l (k+1):=⟨_,rfl⟩
   have HR2:Hid (rows l (k+1)=r2):=hr2.symm
   rw[←hr2]at hR
   clear hr2 e1
   generalize emp k=x at *
   generalize (rows l k).length=m at *
   clear Hu hcap HO
   go_wp2_with fail
   refine hR.mono ?_
   rintro e w2 ⟨v2,rfl,ho2,hb2⟩
   have hB2:=ah HB.out hb2
   have A2:=HA.out.below hb2 hz
   have ho3:=aS ho2 (show w.heap.size+1<=wr.heap.size by omega)
   have hz2:=hb2.size
   clear hR hb2 ho2 ck
   go_wp2
   go_roundw
   case rel=>exact⟨k+1,by omega,by go_num,by omega,hB2,A2,by rw[HR2.out];exact ho3⟩
   case measure=>simp[intOf];omega
  ·have hkn:k=n:=by omega
   subst hkn
   have hki:¬(k:Int)<(k:Int):=by omega
   have hk9:(k:Int)<9:=by omega
   have hk0:(0:Int)<=(k:Int):=by omega
   have ck:=HA.out.c k (by omega)
   have HZ:Hid ((rows l k).length=0->prt l k=emp k):=UK
   have HC:Hid (0<(rows l k).length->prt l k=(pAt (rows l k) 0).2):=RY
   by_cases h0:(rows l k).length=0
   ·have e1:=HZ.out h0
    have E1:Hid (prt l k=emp k):=e1
    rw[h0]
    generalize emp k=x at *
    clear Hu hcap e1
    go_wp2
    go_ret
    exact⟨aG E1.out.symm,HB.out⟩
   ·obtain⟨-,b,off,rfl,hb,hc⟩:=Hu.at (by omega)
    have g1:=(hc 0 (by omega)).2
    have E1:Hid (prt l k=(pAt (rows l k) 0).2):=HC.out (by omega)
    simp only[Nat.zero_mul,Nat.add_zero]at g1
    generalize (pAt (rows l k) 0).2=y at *
    have hm1:0<(rows l k).length:=by omega
    have hm2:¬((rows l k).length:Int)=0:=by omega
    have LK:(0:Int)<((rows l k).length:Int):=by omega
    generalize (rows l k).length=m at *
    clear Hu hcap hc HZ HC ck
    go_wp2
    go_ret
    exact⟨aG E1.out.symm,HB.out⟩
theorem O4{l:Prl}(hf:∀p∈l,fine p=true):∀p∈l,p.1/(2^8:Nat)=0:=fun p hp=>by
 have:=(jS (hf p hp)).1
 show p.1/256=0
 omega
def orC(l:Prl):Int:=slF l
def orV(l:Prl):Int:=if slF l=0 then nd l 8 0 else 0
theorem BJ(v:Value)(l:Prl)(w:World)(hv:Prs w v l)(hx:l.length<=1099511627776):
  Calls Tryz.prog 284 #[v] w fun e w'=>iO w (orC l) (orV l) e w':=by
 have hF:=fun w' h=>dX v l w' (hv.below h) hx
 have hE:=fun w=>vk w
 unfold orC orV
 by_cases h0:slF l=0
 ·have hs:=kQ h0
  have hP:=fun w' h=>gB v l 8 w' (hv.below h) hs.len hs.ris hs.fin (by omega)
  have e1:prt l 8=nd l 8 0:=Qp hs.ris hs.pos (O4 hs.fin)
  rw[e1]at hP
  rw[if_pos h0,h0]
  rw[h0]at hF
  obtain⟨ad,c,rfl⟩:=hv.shape
  generalize nd l 8 0=x at *
  generalize l.length=n at *
  generalize bH emp=A at *
  clear hv e1 h0 hs
  go_enter Tryz.func284,Tryz.ntmps284
  go_wp2_with fail
  refine(hF _ (aj _)).mono ?_
  rintro e w1 ⟨rfl,hb1⟩
  clear hF
  go_wp2_with fail
  refine(hE _).mono ?_
  rintro e w2 ⟨rfl,hb2⟩
  have hb2':=ah hb1 hb2
  clear hE
  go_wp2_with fail
  refine(hP _ (ak hb2')).mono ?_
  rintro e w3 ⟨rfl,hb3⟩
  have zK:=ah hb2' hb3
  obtain⟨g0,g1,f0,f1⟩:=eG ((zK.block w.heap.size (by simp)).trans (heap_alloc_new w _))
  have hB3:=ak zK
  clear hP hb1 hb2 hb3 hb2' zK
  go_wp2
  exact bodyPost_ret (v:= .agg #[.int .i64 0,.int .i64 x]) (by simp[results,Tryz.results284,go_sem, *]) rfl ⟨rfl,(hB3.setCell (by simp) _).setCell (by simp) _⟩
 ·rw[if_neg h0]
  obtain⟨ad,c,rfl⟩:=hv.shape
  generalize slF l=f at *
  generalize l.length=n at *
  have hfn:(f != 0)=true:=by simpa using h0
  clear hv hE h0
  go_enter Tryz.func284,Tryz.ntmps284
  go_wp2_with fail
  refine(hF _ (aj _)).mono ?_
  rintro e w1 ⟨rfl,hb1⟩
  obtain⟨g0,g1,f0,f1⟩:=eG ((hb1.block w.heap.size (by simp)).trans (heap_alloc_new w _))
  have hB1:=ak hb1
  clear hF hb1
  go_wp2
  exact bodyPost_ret (v:= .agg #[.int .i64 f,.int .i64 0]) (by simp[results,Tryz.results284,go_sem, *]) rfl ⟨rfl,(hB1.setCell (by simp) _).setCell (by simp) _⟩
theorem NV(v:Value)(l:Prl)(w:World)(hv:Prs w v l)(hl:l.length<=1048576)(hf:∀p∈l,fine p=true):
  Calls Tryz.prog 246 #[v] w fun e w'=>e = .returned (.int .i64 (nd l 8 0))/\Below w.heap.size w w':=by
 have hN:=fun w' h=>RD v l 0 0 w' (hv.below h) hl hf (by show _=_;rfl) (by omega)
 obtain⟨ad,c,rfl⟩:=hv.shape
 generalize nd l 8 0=x at *
 generalize l.length=n at *
 clear hv hf
 go_enter Tryz.func246,Tryz.ntmps246
 go_wp2_with fail
 refine(hN _ (Below.refl _ _)).mono ?_
 rintro e w1 ⟨rfl,hb1⟩
 clear hN
 go_wp2
 go_ret
 exact⟨rfl,hb1⟩
end U
end Go.Proofs.YtmnfokgllcdiiaaGreat
namespace Go.Proofs.YtmnfokgllcdiiaaGreat
namespace U
def aV(k:Int)(b:Nat):Int:=k/(2^b:Nat)%2
theorem nP(k:Int)(b:Nat):aV k b=0∨aV k b=1:=by unfold aV;omega
def sd(l:Prl)(b:Nat)(s:Int):Prl:=l.filter fun p=>decide (aV p.1 b=s)
theorem xH{l:Prl}{b:Nat}{s:Int}{p:Int × Int}:p∈sd l b s↔p∈l/\aV p.1 b=s:=by
 unfold sd;rw[List.mem_filter,decide_eq_true_iff]
theorem Wx{l:Prl}(h:Ris l)(b:Nat)(s:Int):Ris (sd l b s):=List.Pairwise.filter _ h
theorem Qu(l:Prl)(b:Nat)(s:Int):(sd l b s).length<=l.length:=List.length_filter_le _ _
theorem TP{l:Prl}{b:Nat}{s:Int}{p:Int × Int}(hp:p∈l)(h:aV p.1 b≠s):(sd l b s).length<l.length:=by
 unfold sd
 rw[List.length_filter_lt_length_iff_exists]
 exact⟨p,hp,by simpa using h⟩
theorem iy{l:Prl}(h:Sls l)(b:Nat)(s:Int):Sls (sd l b s):=
 ⟨Nat.le_trans (Qu l b s) h.len,Wx h.ris b s,fun p hp=>h.fin p (xH.1 hp).1⟩
structure FB(l:Prl)(b:Nat):Prop where
 le:b<=7
 top:∀p∈l,p.1/(2^(b+1):Nat)=(pAt l 0).1/(2^(b+1):Nat)
 lo:aV (pAt l 0).1 b=0
 hi:aV (pAt l (l.length - 1)).1 b=1
theorem EG{l:Prl}(h:Ris l){p:Int × Int}(hp:p∈l):(pAt l 0).1<=p.1:=by
 obtain⟨i,hi,rfl⟩:=List.getElem_of_mem hp
 rw[←eH hi]
 rcases Nat.eq_zero_or_pos i with rfl | h0
 ·exact Int.le_refl _
 ·exact Int.le_of_lt (xE h h0 hi)
theorem Jz{l:Prl}(h:Ris l){p:Int × Int}(hp:p∈l):p.1<=(pAt l (l.length - 1)).1:=by
 obtain⟨i,hi,rfl⟩:=List.getElem_of_mem hp
 rw[←eH hi]
 by_cases e:i=l.length - 1
 ·rw[←e];exact Int.le_refl _
 ·exact Int.le_of_lt (xE h (by omega) (by omega))
theorem jC{l:Prl}{i:Nat}(h:i<l.length):pAt l i∈l:=by rw[eH h];exact List.getElem_mem _
theorem sQ{x y:Int}(h:x<=y)(n:Nat):x/(2^n:Nat)<=y/(2^n:Nat):=Int.ediv_le_ediv (pow_pos n) h
theorem VH{x y:Int}(h:x<y):∀n:Nat,x/(2^n:Nat)=y/(2^n:Nat)->∃b,b<n/\x/(2^(b+1):Nat)=y/(2^(b+1):Nat)/\x/(2^b:Nat)≠y/(2^b:Nat):=by
 intro n
 induction n with
 | zero=>intro h1;simp at h1;omega
 | succ n ih=>
  intro h1
  by_cases e:x/(2^n:Nat)=y/(2^n:Nat)
  ·obtain⟨b,h2,h3⟩:=ih e
   exact⟨b,by omega,h3⟩
  ·exact⟨n,by omega,h1,e⟩
theorem MZ{l:Prl}{b:Nat}(h:Ris l)(hb:b<=7)(h2:2<=l.length)(e1:(pAt l 0).1/(2^(b+1):Nat)=(pAt l (l.length - 1)).1/(2^(b+1):Nat))(e2:(pAt l 0).1/(2^b:Nat)≠(pAt l (l.length - 1)).1/(2^b:Nat)):FB l b:=by
 have h3:=sQ (Int.le_of_lt (xE h (show 0<l.length - 1 by omega) (by omega))) b
 have e3:=e1
 rw[iP,iP]at e3
 refine⟨hb,fun p hp=> ?_, ?_, ?_⟩
 ·have h4:=sQ (EG h hp) (b+1)
  have h5:=sQ (Jz h hp) (b+1)
  omega
 ·unfold aV;omega
 ·unfold aV;omega
theorem Xj{l:Prl}(h:Sls l)(h2:2<=l.length):∃b,FB l b:=by
 have h3:=xE h.ris (show 0<l.length - 1 by omega) (by omega)
 have h4:=(h.at (show 0<l.length by omega)).1
 have h5:=(h.at (show l.length - 1<l.length by omega)).1
 have h6:(pAt l 0).1/(2^8:Nat)=(pAt l (l.length - 1)).1/(2^8:Nat):=by
  show _/256=_/256
  omega
 obtain⟨b,hb,e1,e2⟩:=VH h3 8 h6
 exact⟨b,MZ h.ris (by omega) h2 e1 e2⟩
theorem VI{l:Prl}{b:Nat}(h:FB l b)(h0:0<l.length){p:Int × Int}(hp:p∈l):p.1/(2^b:Nat)=(pAt l (l.length - 1)).1/(2^b:Nat) - 1+aV p.1 b:=by
 have h1:=h.top p hp
 have h2:=h.top _ (jC (show l.length - 1<l.length by omega))
 have h3:=h.hi
 rw[iP,iP]at h1 h2
 unfold aV at *
 omega
theorem Lu{l:Prl}{b c:Nat}(h:FB l b)(h':FB l c)(h0:0<l.length):b=c:=by
 have key:∀ {b c:Nat},FB l b->FB l c->¬b<c:=by
  intro b c h h' hlt
  have h1:=h.top _ (jC (show l.length - 1<l.length by omega))
  have h2:=h'.lo
  have h3:=h'.hi
  unfold aV at h2 h3
  obtain⟨d,rfl⟩:∃d,c=(b+1)+d:=⟨c - (b+1),by omega⟩
  rw[Nat.pow_add,Int.natCast_mul,←Int.ediv_ediv_of_nonneg (Int.natCast_nonneg _)]at h2 h3
  rw[h1]at h3
  omega
 have h1:=key h h'
 have h2:=key h' h
 omega
def ones(l:Prl)(b:Nat):Int:=(pAt l (l.length - 1)).1/(2^b:Nat)*(2^b:Nat)
theorem IQ{l:Prl}{b:Nat}(h:FB l b)(h0:0<l.length){p:Int × Int}(hp:p∈l):p.1<ones l b↔aV p.1 b=0:=by
 unfold ones
 rw[←Int.ediv_lt_iff_lt_mul (pow_pos b)]
 have h1:=VI h h0 hp
 have h2:=nP p.1 b
 omega
theorem UU{l:Prl}{b:Nat}(hr:Ris l)(h:FB l b)(h0:0<l.length):sd l b 0=l.take (low l (ones l b)):=by
 rw[←qO hr]
 unfold sd
 apply List.filter_congr
 intro p hp
 rw[decide_eq_decide]
 exact(IQ h h0 hp).symm
theorem Wv{l:Prl}{b:Nat}(hr:Ris l)(h:FB l b)(h0:0<l.length):sd l b 1=l.drop (low l (ones l b)):=by
 rw[←Ar hr]
 unfold sd
 apply List.filter_congr
 intro p hp
 rw[decide_eq_decide]
 have h1:=IQ h h0 hp
 have h2:=nP p.1 b
 omega
theorem Uj{l:Prl}{b:Nat}(h:FB l b)(h0:0<l.length):pAt l 0∈sd l b 0:=xH.2 ⟨jC h0,h.lo⟩
theorem QW{l:Prl}{b:Nat}(h:FB l b)(h0:0<l.length):pAt l (l.length - 1)∈sd l b 1:=xH.2 ⟨jC (by omega),h.hi⟩
theorem Ls{l:Prl}{b:Nat}{s:Int}(h:FB l b)(h0:0<l.length)(hs:s=0∨s=1):(sd l b s).length<l.length:=by
 rcases hs with rfl | rfl
 ·exact TP (jC (show l.length - 1<l.length by omega)) (by rw[h.hi];decide)
 ·exact TP (jC h0) (by rw[h.lo];decide)
theorem lV{l:Prl}{b:Nat}{s:Int}(h:FB l b)(h0:0<l.length)(hs:s=0∨s=1):0<(sd l b s).length:=by
 rcases hs with rfl | rfl
 ·exact List.length_pos_of_mem (Uj h h0)
 ·exact List.length_pos_of_mem (QW h h0)
theorem UR(l:Prl)(b:Nat):(sd l b 0).length+(sd l b 1).length=l.length:=by
 induction l with
 | nil=>rfl
 | cons p t ih=>
  unfold sd at *
  rcases nP p.1 b with e | e
  ·rw[List.filter_cons_of_pos (by simp[e]),List.filter_cons_of_neg (by simp[e]),List.length_cons,List.length_cons];omega
  ·rw[List.filter_cons_of_neg (by simp[e]),List.filter_cons_of_pos (by simp[e]),List.length_cons,List.length_cons];omega
abbrev Bt:=Go.Deep.BT (Option (Int × Int))
def shp:Bt->Prop
 | .nil=>True
 | .node b o (some _) l r=>b=0/\o=0/\l = .nil/\r = .nil
 | .node _ o none l r=>o=0/\shp l/\shp r
structure Tr where
 t:Bt
 h:shp t
def Tr.none:Tr:=⟨.nil,trivial⟩
def Tr.leaf(k v:Int):Tr:=⟨.node 0 0 (some (k,v)) .nil .nil,rfl,rfl,rfl,rfl⟩
def Tr.fork(b:Nat)(l r:Tr):Tr:=⟨.node b 0 Option.none l.t r.t,rfl,l.h,r.h⟩
def foB{α:Type}(n:α)(lf:Int->Int->α)(fk:Nat->Tr->Tr->α->α->α):(t:Bt)->shp t->α
 | .nil,_=>n
 | .node _ _ (some p) _ _,_=>lf p.1 p.2
 | .node b _ none l r,h=>fk b ⟨l,h.2.1⟩ ⟨r,h.2.2⟩ (foB n lf fk l h.2.1) (foB n lf fk r h.2.2)
def Tr.fo{α:Type}(n:α)(lf:Int->Int->α)(fk:Nat->Tr->Tr->α->α->α)(t:Tr):α:=foB n lf fk t.t t.h
theorem DK{motive:Tr->Prop}(none:motive Tr.none)(leaf:∀k v,motive (Tr.leaf k v))(fork:∀b l r,motive l->motive r->motive (Tr.fork b l r)):∀(t:Bt)(h:shp t),motive ⟨t,h⟩
 | .nil,_=>none
 | .node b o (some (k,v)) l r,h=>by
  obtain⟨rfl,rfl,rfl,rfl⟩:=h
  exact leaf k v
 | .node b o Option.none l r,h=>by
  obtain⟨rfl,h1,h2⟩:=h
  exact fork b ⟨l,h1⟩ ⟨r,h2⟩ (DK none leaf fork l h1) (DK none leaf fork r h2)
theorem Tr.ind{motive:Tr->Prop}(none:motive Tr.none)(leaf:∀k v,motive (Tr.leaf k v))(fork:∀b l r,motive l->motive r->motive (Tr.fork b l r))(t:Tr):motive t:=DK none leaf fork t.t t.h
theorem Tr.cs{motive:Tr->Prop}(none:motive Tr.none)(leaf:∀k v,motive (Tr.leaf k v))(fork:∀b l r,motive (Tr.fork b l r))(t:Tr):motive t:=Tr.ind none leaf (fun b l r _ _=>fork b l r) t
theorem Tr.three(t:Tr):t=Tr.none∨(∃k v,t=Tr.leaf k v)∨∃b l r,t=Tr.fork b l r:=by
 induction t using Tr.cs with
 | none=>exact Or.inl rfl
 | leaf k v=>exact Or.inr (Or.inl ⟨k,v,rfl⟩)
 | fork b l r=>exact Or.inr (Or.inr ⟨b,l,r,rfl⟩)
def isB:Bt->Prl->Prop
 | .nil,l=>l=[]
 | .node _ _ (some p) _ _,l=>l=[p]
 | .node b _ none L R,l=>2<=l.length/\FB l b/\isB L (sd l b 0)/\isB R (sd l b 1)
structure bG(l:Prl)(t:Tr):Prop where
 b:isB t.t l
theorem bG.none:bG [] Tr.none:=⟨rfl⟩
theorem bG.leaf(k v:Int):bG [(k,v)] (Tr.leaf k v):=⟨rfl⟩
theorem bG.fork{l:Prl}{b:Nat}{L R:Tr}(h2:2<=l.length)(hb:FB l b)(h3:bG (sd l b 0) L)(h4:bG (sd l b 1) R):bG l (Tr.fork b L R):=⟨⟨h2,hb,h3.b,h4.b⟩⟩
theorem bG.ind{motive:(l:Prl)->(t:Tr)->bG l t->Prop}(none:motive [] Tr.none bG.none)(leaf:∀k v,motive [(k,v)] (Tr.leaf k v) (bG.leaf k v))
  (fork:∀ {l:Prl} {b:Nat} {L R:Tr} (h2:2<=l.length) (hb:FB l b) (h3:bG (sd l b 0) L) (h4:bG (sd l b 1) R),motive (sd l b 0) L h3->motive (sd l b 1) R h4->motive l (Tr.fork b L R) (bG.fork h2 hb h3 h4)) {l:Prl} {t:Tr} (h:bG l t):motive l t h:=by
 induction t using Tr.ind generalizing l with
 | none=>obtain⟨e⟩:=h;cases(show l=[] from e);exact none
 | leaf k v=>obtain⟨e⟩:=h;cases(show l=[(k,v)] from e);exact leaf k v
 | fork b L R ih1 ih2=>
  obtain⟨h2,hb,h3,h4⟩:=h
  exact fork h2 hb ⟨h3⟩ ⟨h4⟩ (ih1 ⟨h3⟩) (ih2 ⟨h4⟩)
theorem bG.cs{motive:(l:Prl)->(t:Tr)->bG l t->Prop}(none:motive [] Tr.none bG.none)(leaf:∀k v,motive [(k,v)] (Tr.leaf k v) (bG.leaf k v))
  (fork:∀ {l:Prl} {b:Nat} {L R:Tr} (h2:2<=l.length) (hb:FB l b) (h3:bG (sd l b 0) L) (h4:bG (sd l b 1) R),motive l (Tr.fork b L R) (bG.fork h2 hb h3 h4)) {l:Prl} {t:Tr} (h:bG l t):motive l t h:=
 bG.ind none leaf (fun h2 hb h3 h4 _ _=>fork h2 hb h3 h4) h
theorem LU:∀(n:Nat)(l:Prl),l.length<=n->Sls l->∃t,bG l t:=by
 intro n
 induction n with
 | zero=>
  intro l h _
  rw[List.eq_nil_of_length_eq_zero (Nat.le_zero.1 h)]
  exact⟨_,bG.none⟩
 | succ n ih=>
  intro l h hs
  match l,h,hs with
  | [],_,_=>exact⟨_,bG.none⟩
  | [(k,v)],_,_=>exact⟨_,bG.leaf k v⟩
  | p::q::r,h,hs=>
   have h2:2<=(p::q::r).length:=by simp
   obtain⟨b,hb⟩:=Xj hs h2
   have h3:=Ls (s:=0) hb (by omega) (Or.inl rfl)
   have h4:=Ls (s:=1) hb (by omega) (Or.inr rfl)
   obtain⟨L,hL⟩:=ih _ (by omega) (iy hs b 0)
   obtain⟨R,hR⟩:=ih _ (by omega) (iy hs b 1)
   exact⟨_,bG.fork h2 hb hL hR⟩
def Tr.bts(t:Tr):List Int:=t.fo (bg 9 []) (fun k v=>bg 4 [k,v]) (fun b _ _ x y=>bg 5 [(b:Int),bf x,bf y])
theorem Tr.QS:Tr.none.bts=bg 9 []:=rfl
theorem Tr.QN(k v:Int):(Tr.leaf k v).bts=bg 4 [k,v]:=rfl
theorem Tr.QM(b:Nat)(l r:Tr):(Tr.fork b l r).bts=bg 5 [(b:Int),bf l.bts,bf r.bts]:=rfl
def Tr.sum(t:Tr):Int:=bf t.bts
theorem Tr.JJ(t:Tr):0<=t.sum/\t.sum<=65520:=nV _
theorem Tr.len(t:Tr):t.bts.length<=7:=by
 induction t using Tr.cs with
 | none=>rw[Tr.QS,lT];simp
 | leaf k v=>rw[Tr.QN,lT];simp
 | fork b l r=>rw[Tr.QM,lT];simp
def Tr.Ok(t:Tr):Prop:=t.fo True (fun k v=>(0<=k/\k<=255)/\(0<=v/\v<=65520)) (fun b _ _ x y=>b<=7/\x/\y)
theorem bG.ok{l:Prl}{t:Tr}(h:bG l t)(hs:Sls l):t.Ok:=by
 induction h using bG.ind with
 | none=>trivial
 | leaf k v=>exact jS (hs.fin _ (List.mem_singleton.2 rfl))
 | fork _ hb _ _ ih1 ih2=>exact⟨hb.le,ih1 (iy hs _ _),ih2 (iy hs _ _)⟩
theorem Tr.Ok.N9{b:Nat}(hb:b<=7)(l r:Tr): [(b:Int),l.sum,r.sum].all aJ=true:=by
 have h1:=l.JJ
 have h2:=r.JJ
 simp[bD]
 omega
theorem Tr.Ok.N8{k v:Int}(hk:0<=k/\k<=255)(hv:0<=v/\v<=65520): [k,v].all aJ=true:=by
 simp[bD]
 omega
theorem Tr.Ok.bts{t:Tr}(h:t.Ok):Bts t.bts:=by
 induction t using Tr.cs with
 | none=>exact nX (by omega) rfl
 | leaf k v=>exact nX (by omega) (Tr.Ok.N8 h.1 h.2)
 | fork b l r=>exact nX (by omega) (Tr.Ok.N9 h.1 l r)
def Tr.forks(t:Tr):Nat:=t.fo 0 (fun _ _=>0) (fun _ _ _ x y=>1+x+y)
theorem Tr.tV(b:Nat)(l r:Tr):(Tr.fork b l r).forks=1+l.forks+r.forks:=rfl
theorem bG.forks{l:Prl}{t:Tr}(h:bG l t):t.forks=l.length - 1:=by
 induction h using bG.ind with
 | none=>rfl
 | leaf k v=>rfl
 | fork h2 hb h3 h4 ih1 ih2=>
  rename_i l b L R
  have e:=UR l b
  have e1:=lV (s:=0) hb (by omega) (Or.inl rfl)
  have e2:=lV (s:=1) hb (by omega) (Or.inr rfl)
  rw[Tr.tV]
  omega
def Tr.near(key:Int)(t:Tr):Int × Int:=t.fo (0,0) (fun k v=>(k,v)) (fun b _ _ x y=>if aV key b=0 then x else y)
theorem Tr.wZ(key:Int)(b:Nat)(l r:Tr):(Tr.fork b l r).near key=if aV key b=0 then l.near key else r.near key:=rfl
theorem bG.near{l:Prl}{t:Tr}(h:bG l t):∀p∈l,t.near p.1=p:=by
 induction h using bG.ind with
 | none=>intro p hp;cases hp
 | leaf k v=>intro p hp;rw[List.mem_singleton]at hp;subst hp;rfl
 | fork h2 hb h3 h4 ih1 ih2=>
  intro p hp
  rw[Tr.wZ]
  split
  ·rename_i e;exact ih1 p (xH.2 ⟨hp,e⟩)
  ·rename_i l b L R e
   have e2:=nP p.1 b
   exact ih2 p (xH.2 ⟨hp,by omega⟩)
def Tr.way(key:Int)(t:Tr):Prl:=t.fo [] (fun _ _=>[]) (fun b l r x y=>if aV key b=0 then x++[((b:Int),r.sum)]else y++[((b:Int),l.sum)])
theorem Tr.Ti(key:Int):Tr.none.way key=[]:=rfl
theorem Tr.Tf(key k v:Int):(Tr.leaf k v).way key=[]:=rfl
theorem Tr.AX(key:Int)(b:Nat)(l r:Tr):(Tr.fork b l r).way key=if aV key b=0 then l.way key++[((b:Int),r.sum)]else r.way key++[((b:Int),l.sum)]:=rfl
theorem Tr.D8(key:Int)(t:Tr):(t.way key).length<=t.forks:=by
 induction t using Tr.ind with
 | none=>simp[Tr.Ti]
 | leaf k v=>simp[Tr.Tf]
 | fork b l r ih1 ih2=>
  rw[Tr.AX,Tr.tV]
  split<;>simp<;>omega
end U
end Go.Proofs.YtmnfokgllcdiiaaGreat
namespace Go.Proofs.YtmnfokgllcdiiaaGreat
open Go.RowKit
namespace U
def Tr.val(t:Tr):Value:=t.fo (.iface 389 (.agg #[])) (fun k v=> .iface 351 (.agg #[.int .i64 k,.int .i64 v])) (fun b _ _ x y=> .iface 358 (.agg #[.int .i64 (b:Int),x,y]))
theorem Tr.AV:Tr.none.val = .iface 389 (.agg #[]):=rfl
theorem Tr.JW(k v:Int):(Tr.leaf k v).val = .iface 351 (.agg #[.int .i64 k,.int .i64 v]):=rfl
theorem Tr.JV(b:Nat)(l r:Tr):(Tr.fork b l r).val = .iface 358 (.agg #[.int .i64 (b:Int),l.val,r.val]):=rfl
theorem Tr.isIface(t:Tr):∃k x,t.val = .iface k x:=by
 induction t using Tr.cs<;>exact⟨_,_,rfl⟩
theorem bF{w:World}{g:Nat}{x y z:Value}{t:TypeId}(h:w.heap[g]? = some (.cells #[x,y,z] t)):w.cell? ⟨g,0,none⟩=some x/\w.cell? ⟨g,1,none⟩=some y/\w.cell? ⟨g,2,none⟩=some z:=by
 refine⟨?_, ?_, ?_⟩
 ·unfold World.cell?;rw[h];rfl
 ·unfold World.cell?;rw[h];rfl
 ·unfold World.cell?;rw[h];rfl
theorem Ua(x:Value)(w:World):(Instr.typeAssert (.iface 358 x) 346 358 true).run Tryz.prog w = .ok (.tuple #[x,.bool true]) w:=by kernel_rfl
theorem Gu(x:Value)(w:World):(Instr.typeAssert (.iface 351 x) 346 358 true).run Tryz.prog w = .ok (.tuple #[.agg #[.int .i64 0,.nilIface,.nilIface],.bool false]) w:=by kernel_rfl
theorem Gv(x:Value)(w:World):(Instr.typeAssert (.iface 389 x) 346 358 true).run Tryz.prog w = .ok (.tuple #[.agg #[.int .i64 0,.nilIface,.nilIface],.bool false]) w:=by kernel_rfl
theorem Ub(x:Value)(w:World):(Instr.typeAssert (.iface 351 x) 346 351 true).run Tryz.prog w = .ok (.tuple #[x,.bool true]) w:=by kernel_rfl
theorem Gw(x:Value)(w:World):(Instr.typeAssert (.iface 389 x) 346 351 true).run Tryz.prog w = .ok (.tuple #[.agg #[.int .i64 0,.int .i64 0],.bool false]) w:=by kernel_rfl
theorem TW:∀q:Fin 256,bits BinOp.and IntKind.i64 ((q.1:Nat):Int) 1=((q.1:Nat):Int)%2:=by decide +kernel
theorem and_one{q:Int}(h0:0<=q)(h1:q<=255):bits BinOp.and IntKind.i64 q 1=q%2:=by
 have:=TW ⟨q.toNat,by omega⟩
 have e:((q.toNat:Nat):Int)=q:=by omega
 simp only[e]at this
 exact this
theorem Eh(k:Int)(b:Nat)(w:World)(hb:b<=7)(hk:0<=k/\k<=255):Calls Tryz.prog 271 #[.int .i64 k,.int .i64 (b:Int)] w fun e w'=>e = .returned (.int .i64 (aV k b))/\w'=w:=by
 unfold aV
 rcases(show b=0∨b=1∨b=2∨b=3∨b=4∨b=5∨b=6∨b=7 by omega)with rfl | rfl | rfl | rfl | rfl | rfl | rfl | rfl
 all_goals
  go_enter Tryz.func271,Tryz.ntmps271
  go_wp2
  go_ret
  refine⟨aG ?_,rfl⟩
  rw[and_one (by omega) (by omega)]
  simp only[Nat.reducePow]
  omega
theorem oU(k:Int)(b:Nat)(w:World)(hb:b<=7)(hk:0<=k/\k<=255):Calls Tryz.prog 214 #[.int .i64 k,.int .i64 (b:Int)] w fun e w'=>e = .returned (.int .i64 (aV k b))/\w'=w:=by
 unfold aV
 rcases(show b=0∨b=1∨b=2∨b=3∨b=4∨b=5∨b=6∨b=7 by omega)with rfl | rfl | rfl | rfl | rfl | rfl | rfl | rfl
 all_goals
  go_enter Tryz.func214,Tryz.ntmps214
  go_wp2
  go_ret
  refine⟨aG ?_,rfl⟩
  simp only[Nat.reducePow]
  omega
theorem U7(a b:Nat)(ha:a<256)(hb:b<256):bits .xor .i64 (a:Int) (b:Int)=((a ^^^ b:Nat):Int):=by
 have hx:a ^^^ b<2^8:=Nat.xor_lt_two_pow (n:=8) ha hb
 have h1:(BitVec.ofInt 64 (a:Int)).toNat=a:=by
  rw[BitVec.ofInt_natCast,BitVec.toNat_ofNat];exact Nat.mod_eq_of_lt (by omega)
 have h2:(BitVec.ofInt 64 (b:Int)).toNat=b:=by
  rw[BitVec.ofInt_natCast,BitVec.toNat_ofNat];exact Nat.mod_eq_of_lt (by omega)
 show IntKind.i64.wrap ((BitVec.ofInt 64 (a:Int) ^^^ BitVec.ofInt 64 (b:Int)).toNat:Int)=_
 rw[BitVec.toNat_xor,h1,h2,IntKind.wrap_i64]
 omega
theorem EP(a b c:Nat):(a ^^^ b)/2^c=(a/2^c) ^^^ (b/2^c):=by
 rw[←Nat.shiftRight_eq_div_pow,←Nat.shiftRight_eq_div_pow,←Nat.shiftRight_eq_div_pow,Nat.shiftRight_xor_distrib]
theorem KY{a b:Nat}(h:a ^^^ b=0):a=b:=by
 have:a ^^^ b ^^^ b=b:=by rw[h];simp
 rw[Nat.xor_assoc,Nat.xor_self,Nat.xor_zero]at this
 exact this
theorem U8{a b c:Nat}(h1:a/2^(c+1)=b/2^(c+1))(h2:a/2^c≠b/2^c):2^c<=a ^^^ b/\a ^^^ b<2^(c+1):=by
 have e1:(a ^^^ b)/2^(c+1)=0:=by rw[EP,h1,Nat.xor_self]
 have e2:(a ^^^ b)/2^c≠0:=by
  rw[EP]
  exact fun h=>h2 (KY h)
 have p1:=Nat.two_pow_pos (c+1)
 have p2:=Nat.two_pow_pos c
 constructor
 ·rcases Nat.lt_or_ge (a ^^^ b) (2^c)with h | h
  ·exact absurd (Nat.div_eq_of_lt h) e2
  ·exact h
 ·rcases Nat.lt_or_ge (a ^^^ b) (2^(c+1))with h | h
  ·exact h
  ·have:=Nat.div_pos h p1
   omega
theorem P5(x:Int)(w:World)(h0:0<=x)(h1:x<=255):Calls Tryz.prog 326 #[.int .u64 x] w fun e w'=>e = .returned (.int .i64 (Lib.bitLen x.toNat))/\w'=w:=by
 have g1:¬x≥4294967296:=by omega
 have g2:¬x≥65536:=by omega
 have g3:¬x≥256:=by omega
 go_enter Tryz.func326,Tryz.ntmps326
 go_wp2
 go_ret
 refine⟨aG ?_,rfl⟩
 rw[Lib.len8_of x h0 h1]
 have l:=Lib.bitLen_le8' x h0 h1
 simp only[wrap64]
 omega
theorem OU{x c:Nat}(h1:2^c<=x)(h2:x<2^(c+1))(hx:x<256):Lib.bitLen x=c+1:=by
 rw[Lib.bitLen_shift c x h1 (by omega)]
 have e:x/2^c=1:=by
  have p:=Nat.two_pow_pos c
  rw[Nat.pow_succ]at h2
  have h3:1<=x/2^c:=(Nat.le_div_iff_mul_le p).2 (by omega)
  have h4:x/2^c<2:=(Nat.div_lt_iff_lt_mul p).2 (by omega)
  omega
 rw[e]
 rfl
theorem Ui{l:Prl}{b:Nat}(hs:Sls l)(h2:2<=l.length)(hb:FB l b):∃x:Nat,bits .xor .i64 (pAt l 0).1 (pAt l (l.length - 1)).1=(x:Int)/\x<256/\Lib.bitLen x=b+1:=by
 have h3:=(hs.at (show 0<l.length by omega)).1
 have h4:=(hs.at (show l.length - 1<l.length by omega)).1
 have t:=hb.top _ (jC (show l.length - 1<l.length by omega))
 have lo:=hb.lo
 have hi:=hb.hi
 unfold aV at lo hi
 generalize (pAt l 0).1=p at *
 generalize (pAt l (l.length - 1)).1=q at *
 obtain⟨p,rfl⟩:∃n:Nat,p=n:=⟨p.toNat,by omega⟩
 obtain⟨q,rfl⟩:∃n:Nat,q=n:=⟨q.toNat,by omega⟩
 have e1:p/2^(b+1)=q/2^(b+1):=by
  rw[←Int.natCast_ediv,←Int.natCast_ediv]at t
  omega
 have e2:p/2^b≠q/2^b:=by
  rw[←Int.natCast_ediv]at lo hi
  intro h
  rw[h]at lo
  omega
 have hx:p ^^^ q<2^8:=Nat.xor_lt_two_pow (n:=8) (by omega) (by omega)
 have hl:=U8 e1 e2
 exact⟨p ^^^ q,U7 p q (by omega) (by omega),hx,OU hl.1 hl.2 hx⟩
theorem EX(v:Value)(l:Prl)(b:Nat)(w:World)(hv:Prs w v l)(hs:Sls l)(h2:2<=l.length)(hb:FB l b):
  Calls Tryz.prog 302 #[v] w fun e w'=>e = .returned (.int .i64 (b:Int))/\∃n,w'=w.drewN n:=by
 obtain⟨a,c,rfl⟩:=hv.shape
 obtain⟨-,bb,off,rfl,hlt,hc⟩:=hv.at (by omega)
 obtain⟨x,hx,hx2,hx3⟩:=Ui hs h2 hb
 have hn:=hs.len
 have hb7:=hb.le
 have c0:=(hc 0 (by omega)).1
 have c1:=(hc (l.length - 1) (by omega)).1
 have hL:=fun w=>P5 (x:Int) w (by omega) (by omega)
 rw[Int.toNat_natCast,hx3]at hL
 simp only[Nat.zero_mul,Nat.add_zero]at c0
 generalize (pAt l 0).1=p at *
 generalize (pAt l (l.length - 1)).1=q at *
 clear hv hs hb hc hx3
 generalize l.length=n at *
 obtain⟨m,rfl⟩:∃m,n=m+1:=⟨n - 1,by omega⟩
 have hm1:1<=m:=by omega
 have hm2:m<=11:=by omega
 rw[Nat.add_sub_cancel]at c1
 clear h2 hn
 go_enter Tryz.func302,Tryz.ntmps302
 go_wp2
 go_quiet (fail)
 go_wp2_with fail
 refine(hL _).mono ?_
 rintro e w1 ⟨rfl,rfl⟩
 clear hL
 go_wp2
 go_ret
 exact⟨aG (by go_arith),_,rfl⟩
def jE(l:Prl)(b:Nat)(s:Int)(k:Nat):Prl:=sd (l.take k) b s
theorem SG(l:Prl)(b:Nat)(s:Int):jE l b s l.length=sd l b s:=by unfold jE;rw[List.take_length]
theorem UQ{l:Prl}{b:Nat}{s:Int}{k:Nat}(h:k<l.length)(h1:aV (pAt l k).1 b=s):jE l b s (k+1)=jE l b s k++[pAt l k]:=by
 unfold jE sd
 rw[Df h,List.filter_append,List.filter_cons_of_pos (by simp[h1])]
 rfl
theorem SI{l:Prl}{b:Nat}{s:Int}{k:Nat}(h:k<l.length)(h1:¬aV (pAt l k).1 b=s):jE l b s (k+1)=jE l b s k:=by
 unfold jE sd
 rw[Df h,List.filter_append,List.filter_cons_of_neg (by simp[h1])]
 simp
theorem SH(l:Prl)(b:Nat)(s:Int)(k:Nat):(jE l b s k).length<=l.length:=by
 have h1:=Qu (l.take k) b s
 rw[List.length_take]at h1
 unfold jE
 omega
theorem KD(ad:Option Addr)(n c:Nat)(l:Prl)(b:Nat)(s:Int)(w:World)(HN:Hid (n=l.length))(hn:n<=12)(HS:Hid (Sls l))(hb7:b<=7)(HV:Hid (Prs w (.slice ad n c) l)):
  Calls Tryz.prog 215 #[.slice ad n c,.int .i64 (b:Int),.int .i64 s] w fun e w'=>∃v',e = .returned v'/\w'.ownsRow w.heap.size 63 2 v' (sd l b s).length ((fl (sd l b s)).map (Value.int .i64))/\Below w.heap.size w w':=by
 obtain⟨i0,hi,hz0,hz1,hz2⟩:=info_parts Tryz.qL
 go_enter Tryz.func215,Tryz.ntmps215
 go_wp2
 go_loopw [7,8] (fun u i wr=>∃k:Nat,k<=n/\i = .int .i64 k/\Hid (Below w.heap.size w wr)/\Hid (wr.ownsRow w.heap.size 63 2 u (jE l b s k).length ((fl (jE l b s k)).map (Value.int .i64)))) (fun _ i _=>n - (intOf i).toNat)
 case atStart=>exact⟨0,Nat.zero_le _,rfl,aj _,qR w _ _ (Nat.le_refl _)⟩
 case round=>
  obtain⟨k,hk,rfl,hB,ho⟩:=hrel
  obtain⟨a',c',rfl⟩:=bW ho.out
  by_cases hkn:k<n
  ·have hki:(k:Int)<(n:Int):=by omega
   have hkl:k<l.length:=by have:=HN.out;omega
   obtain⟨-,bk,off,rfl,hbk,hc⟩:=HV.out.at (by omega)
   have hc1:=(hB.out.cell (p:=⟨bk,off+k*2,none⟩) hbk).trans (hc k hkl).1
   have hc2:=(hB.out.cell (p:=⟨bk,off+k*2+1,none⟩) hbk).trans (hc k hkl).2
   have HI:Hid (aV (pAt l k).1 b=s->jE l b s (k+1)=jE l b s k++[((pAt l k).1,(pAt l k).2)]):=UQ hkl
   have HO:Hid (¬aV (pAt l k).1 b=s->jE l b s (k+1)=jE l b s k):=SI hkl
   have hBt:=fun w=>oU (pAt l k).1 b w hb7 (HS.out.at hkl).1
   have hlen:=SH l b s k
   rw[←HN.out]at hlen
   generalize aV (pAt l k).1 b=z at *
   generalize (pAt l k).1=x at *
   generalize (pAt l k).2=y at *
   generalize jE l b s k=m at *
   clear hc
   by_cases h1:z=s
   ·have HI2:=HI.out h1
    have HS:Hid (jE l b s (k+1)=m++[(x,y)]):=HI2
    have h1':(z==s)=true:=by simpa using h1
    have ho2:=ho.out
    have hsz:=hB.out.size
    clear HI HO HI2 h1
    go_wp2_with fail
    refine(hBt _).mono ?_
    rintro e w1 ⟨rfl,rfl⟩
    clear hBt
    go_wp2_with (at_builtin;refine wpList_append_own _ rfl _ _ 37 rfl w.heap.size 63 i0 (.agg #[.int .i64 0,.int .i64 0]) 2 16 Tryz.underlying37 hi hz0 hz1 hz2 rfl (by decide) _ _ _ rfl (ho2.alloc _) ⟨w1.heap.size,0,none⟩ 1 1 [.int .i64 x,.int .i64 y] rfl rfl (World.news_of_block (heap_alloc_new _ _)) (ints_oneCell .i64 [x,y]) (by unfold maxLen;omega) (by omega) (by simp;omega) ?_)
    intro v' w2 hown' hgrow _
    have hb2:Below w.heap.size w w2:=(hB.out.alloc (by omega) _).grown hgrow (by simp;omega) (fun k hk=>(ho.out.lt k hk).1)
    have aN:=uN hown'
    clear hgrow hown' ho2 ho
    go_wp2
    go_roundw
    case rel=>exact⟨k+1,by omega,by go_num,hb2,by rw[HS.out];exact aN⟩
    case measure=>simp[intOf];omega
   ·have HS:Hid (jE l b s (k+1)=m):=HO.out h1
    have h1':(z==s)=false:=by simpa using h1
    clear HI HO h1
    go_wp2_with fail
    refine(hBt _).mono ?_
    rintro e w1 ⟨rfl,rfl⟩
    clear hBt
    go_wp2
    go_roundw
    case rel=>exact⟨k+1,by omega,by go_num,hB,by rw[HS.out];exact ho⟩
    case measure=>simp[intOf];omega
  ·have hkn:k=n:=by omega
   subst hkn
   have e1:jE l b s k=sd l b s:=by rw[HN.out];exact SG _ _ _
   rw[e1]at ho ⊢
   go_wp2
   go_ret
   exact⟨_,rfl,ho.out,hB.out⟩
theorem uH(v:Value)(l:Prl)(b:Nat)(s:Int)(w:World)(hv:Prs w v l)(hs:Sls l)(hb:b<=7):
  Calls Tryz.prog 215 #[v,.int .i64 (b:Int),.int .i64 s] w fun e w'=>∃a' c',e = .returned (.slice a' (sd l b s).length c')/\w'.ownsRow w.heap.size 63 2 (.slice a' (sd l b s).length c') (sd l b s).length ((fl (sd l b s)).map (Value.int .i64))/\Below w.heap.size w w':=by
 obtain⟨ad,c,rfl⟩:=hv.shape
 refine(KD ad l.length c l b s w rfl hs.len hs hb hv).mono ?_
 rintro e w' ⟨v',rfl,ho,hb⟩
 obtain⟨a',c',rfl⟩:=bW ho
 exact⟨a',c',rfl,ho,hb⟩
def Top(l:Prl)(k:Nat):Prop:=∀p∈l,p.1/(2^(k+1):Nat)=(pAt l 0).1/(2^(k+1):Nat)
theorem QD{l:Prl}(hs:Sls l)(h0:0<l.length):Top l 7:=by
 intro p hp
 have h1:=(jS (hs.fin p hp)).1
 have h2:=(hs.at h0).1
 show p.1/256=_/256
 omega
theorem S9{l:Prl}{k:Nat}(h:Top l (k+1))(hb:∀j,j<l.length->aV (pAt l j).1 (k+1)=aV (pAt l 0).1 (k+1)):Top l k:=by
 intro p hp
 obtain⟨i,hi,rfl⟩:=List.getElem_of_mem hp
 have h1:=h _ hp
 have h2:=hb i hi
 rw[eH hi]at h2
 unfold aV at h2
 rw[iP _ (k+1),iP (pAt l 0).1 (k+1)]at h1
 omega
theorem QC{l:Prl}{k i:Nat}(hs:Sls l)(hk:k<=7)(h:Top l k)(hi:i<l.length)(h2:2<=l.length)(hd:aV (pAt l i).1 k≠aV (pAt l 0).1 k):FB l k:=by
 refine MZ hs.ris hk h2 (h _ (jC (by omega))).symm ?_
 intro e
 apply hd
 have h4:=sQ (EG hs.ris (jC hi)) k
 have h5:=sQ (Jz hs.ris (jC hi)) k
 unfold aV
 rw[show(pAt l i).1/(2^k:Nat)=(pAt l 0).1/(2^k:Nat) by omega]
theorem Tc{l:Prl}(hs:Sls l)(h:Top l 0)(h2:2<=l.length):FB l 0:=by
 refine MZ hs.ris (by omega) h2 (h _ (jC (by omega))).symm ?_
 have h3:=xE hs.ris (show 0<l.length - 1 by omega) (by omega)
 show _/1≠_/1
 omega
structure ML(k b z:Int):Prop where
 c:∀w,Calls Tryz.prog 214 #[.int .i64 k,.int .i64 b] w fun e w'=>e = .returned (.int .i64 z)/\w'=w
theorem KC(bk off c n:Nat)(l:Prl)(b:Nat)(w:World)(HN:Hid (n=l.length))(hn:n<=12)(hn2:2<=n)(HS:Hid (Sls l))(HB:Hid (FB l b))(hbk:bk<w.heap.size)
  (HC:Hid (∀j,j<n->w.cell? ⟨bk,off+j*2,none⟩=some (.int .i64 (pAt l j).1)/\w.cell? ⟨bk,off+j*2+1,none⟩=some (.int .i64 (pAt l j).2))) :
  Calls Tryz.prog 213 #[.slice (some ⟨bk,off,none⟩) n c] w fun e w'=>e = .returned (.int .i64 (b:Int))/\Below w.heap.size w w':=by
 go_enter Tryz.func213,Tryz.ntmps213
 go_wp2
 go_loopw [3] (fun i wr=>∃k:Nat,k<=7/\i = .int .i64 k/\Hid (Below w.heap.size w wr)/\Hid (Top l k)) (fun i _=>(intOf i).toNat)
 case atStart=>exact⟨7,Nat.le_refl _,rfl,Below.refl _ _,QD HS.out (by have:=HN.out;omega)⟩
 case round=>
  obtain⟨k,hk,rfl,hB,ht⟩:=hrel
  by_cases hk0:0<k
  ·have hki:(0:Int)<(k:Int):=by omega
   go_wp2
   go_loopw [4] (fun i wr2=>∃j:Nat,1<=j/\j<=n/\i = .int .i64 j/\Hid (Below w.heap.size w wr2)/\Hid (∀m,m<j->aV (pAt l m).1 k=aV (pAt l 0).1 k)) (fun i _=>n - (intOf i).toNat)
   case atStart=>exact⟨1,Nat.le_refl _,by omega,rfl,hB,fun m hm=>by rw[show m=0 by omega]⟩
   case round=>
    obtain⟨j,hj1,hjn,rfl,hB2,hE⟩:=hrel
    by_cases hlt:j<n
    ·have hji:(j:Int)<(n:Int):=by omega
     have hjl:j<l.length:=by have:=HN.out;omega
     have h0l:0<l.length:=by omega
     have c0:=(hB2.out.cell (p:=⟨bk,off+0*2,none⟩) hbk).trans (HC.out 0 (by omega)).1
     have cj:=(hB2.out.cell (p:=⟨bk,off+j*2,none⟩) hbk).trans (HC.out j hlt).1
     simp only[Nat.zero_mul,Nat.add_zero]at c0
     have b0:ML (pAt l 0).1 (k:Int) (aV (pAt l 0).1 k):=⟨fun w=>oU _ k w hk (HS.out.at h0l).1⟩
     have bj:ML (pAt l j).1 (k:Int) (aV (pAt l j).1 k):=⟨fun w=>oU _ k w hk (HS.out.at hjl).1⟩
     have HF:Hid (aV (pAt l j).1 k≠aV (pAt l 0).1 k->b=k):=fun h=>Lu HB.out (QC HS.out hk ht.out hjl (by omega) h) h0l
     obtain⟨z0,hz0⟩:∃z,z=aV (pAt l 0).1 k:=⟨_,rfl⟩
     obtain⟨zj,hzj⟩:∃z,z=aV (pAt l j).1 k:=⟨_,rfl⟩
     have HZ0:Hid (z0=aV (pAt l 0).1 k):=hz0
     have Za:Hid (zj=aV (pAt l j).1 k):=hzj
     rw[←hz0]at b0 HF
     rw[←hzj]at bj HF
     clear hz0 hzj hjl h0l
     obtain⟨x0,hx0⟩:∃x,x=(pAt l 0).1:=⟨_,rfl⟩
     obtain⟨xj,hxj⟩:∃x,x=(pAt l j).1:=⟨_,rfl⟩
     rw[←hx0]at b0 c0
     rw[←hxj]at bj cj
     clear hx0 hxj
     have q0:=After.cell c0
     have qj:=After.cell cj
     have hne:=After.ne wr
     clear c0 cj
     by_cases hz:zj=z0
     ·have hz':(zj != z0)=false:=by simpa using hz
      have HE2:Hid (∀m,m<j+1->aV (pAt l m).1 k=aV (pAt l 0).1 k):=fun m hm=>by
       by_cases hmj:m=j
       ·rw[hmj,←HZ0.out,←Za.out,hz]
       ·exact hE.out m (by omega)
      clear hz
      go_wp2_with fail
      refine ay (by kernel_rfl) (by kernel_rfl) ?_
      repeat(first | go_big_quiet_skip |(go_big_quiet_want;go_big_quiet_op;first | go_big_quiet_on | go_big_quiet_call (first
       |(go_at_call 214;refine(ML.c (by assumption) _).mono ?_;rintro e wq ⟨rfl,rfl⟩;exact⟨rfl,_,rfl⟩))))
      refine wpQuiet_nil ?_
      rintro _ ⟨n3,rfl⟩
      have hB3:=ah hB2.out n3.b
      generalize n3.w=w3 at *
      clear q0 qj hne n3
      go_wp2
      go_roundw
      case rel=>exact⟨j+1,by omega,by omega,by go_num,hB3,HE2⟩
      case measure=>simp[intOf];omega
     ·have hz':(zj != z0)=true:=by simpa using hz
      have e:Hid (b=k):=HF.out hz
      clear hz
      go_wp2_with fail
      refine ay (by kernel_rfl) (by kernel_rfl) ?_
      repeat(first | go_big_quiet_skip |(go_big_quiet_want;go_big_quiet_op;first | go_big_quiet_on | go_big_quiet_call (first
       |(go_at_call 214;refine(ML.c (by assumption) _).mono ?_;rintro e wq ⟨rfl,rfl⟩;exact⟨rfl,_,rfl⟩))))
      refine wpQuiet_nil ?_
      rintro _ ⟨n3,rfl⟩
      have hB3:=ah hB2.out n3.b
      generalize n3.w=w3 at *
      clear q0 qj hne n3
      go_wp2
      go_ret
      exact⟨aG (by rw[e.out]),hB3⟩
    ·have hjn:j=n:=by omega
     subst hjn
     obtain⟨m,rfl⟩:∃m,k=m+1:=⟨k - 1,by omega⟩
     have hT:Hid (Top l m):=S9 ht.out (fun i hi=>hE.out i (by have:=HN.out;omega))
     go_wp2
     go_roundw
     case rel=>exact⟨m,by omega,by go_num,hB2,hT⟩
     case measure=>simp[intOf]
  ·have hk0:k=0:=by omega
   subst hk0
   have e:Hid (b=0):=Lu HB.out (Tc HS.out ht.out (by have:=HN.out;omega)) (by have:=HN.out;omega)
   go_wp2
   go_ret
   exact⟨aG (by rw[e.out];rfl),hB.out⟩
theorem uF(v:Value)(l:Prl)(b:Nat)(w:World)(hv:Prs w v l)(hs:Sls l)(h2:2<=l.length)(hb:FB l b):
  Calls Tryz.prog 213 #[v] w fun e w'=>e = .returned (.int .i64 (b:Int))/\Below w.heap.size w w':=by
 obtain⟨a,c,rfl⟩:=hv.shape
 obtain⟨-,bb,off,rfl,hlt,hc⟩:=hv.at (by omega)
 exact KC bb off c l.length l b w rfl hs.len h2 hs hb hlt hc
end U
end Go.Proofs.YtmnfokgllcdiiaaGreat
namespace Go.Proofs.YtmnfokgllcdiiaaGreat
namespace U
end U
end Go.Proofs.YtmnfokgllcdiiaaGreat
namespace Go.Proofs.YtmnfokgllcdiiaaGreat
open Go.RowKit
namespace U
theorem vZ(c:Int)(a:Option Addr)(n k:Nat)(w:World):(Instr.field 300 (.agg #[.int .i64 c,.slice a n k]) 1).run Tryz.prog w = .ok (.slice a n k) w:=by kernel_rfl
def pcF(t:Tr):Nat:=t.fo 332 (fun _ _=>333) (fun _ _ _ _ _=>366)
def pcV(t:Tr):Value:=t.fo (.agg #[]) (fun k v=> .agg #[.int .i64 k,.int .i64 v]) (fun b l r _ _=> .agg #[.int .i64 (b:Int),l.val,r.val])
theorem Ja:pcF Tr.none=332:=rfl
theorem I9(k v:Int):pcF (Tr.leaf k v)=333:=rfl
theorem I8(b:Nat)(l r:Tr):pcF (Tr.fork b l r)=366:=rfl
theorem Jd:pcV Tr.none = .agg #[]:=rfl
theorem Jc(k v:Int):pcV (Tr.leaf k v) = .agg #[.int .i64 k,.int .i64 v]:=rfl
theorem Jb(b:Nat)(l r:Tr):pcV (Tr.fork b l r) = .agg #[.int .i64 (b:Int),l.val,r.val]:=rfl
structure Gn(t:Tr):Prop where
 c:∀w,Calls Tryz.prog (pcF t) #[pcV t] w fun e w'=>∃v',e = .returned v'/\w'.ownsRow w.heap.size 5 1 v' t.bts.length (t.bts.map (Value.int .u8))/\Below w.heap.size w w'
theorem Tr.sumOf{t:Tr}(h:t.Ok)(u:Value)(w:World)(hu:Ints .u8 w u t.bts):Calls Tryz.prog 168 #[u] w fun e w'=>e = .returned (.agg #[.int .i64 0,.int .i64 t.sum])/\Below w.heap.size w w':=by
 have h1:=iY u t.bts w hu h.bts (by have:=t.len;omega)
 have h2:=uQ (bs:=t.bts) (by have:=t.len;omega)
 rw[h2.1,h2.2]at h1
 exact h1
theorem uY{t:Tr}(h:t.Ok)(hp:Gn t)(w:World):Calls Tryz.prog 272 #[t.val] w fun e w'=>e = .returned (.int .i64 t.sum)/\Below w.heap.size w w':=by
 have hP:=hp.c
 have hS:=fun u w hu=>Tr.sumOf h u w hu
 have hf:=rC
 rcases t.three with rfl |⟨k,v,rfl⟩ |⟨b,l,r,rfl⟩
 all_goals
  simp only[Ja,I9,I8,Jd,Jc,Jb,Tr.AV,Tr.JW,Tr.JV]at hP ⊢
  generalize Tr.sum _=s at *
  generalize Tr.bts _=ys at *
  clear hp h
  try generalize Tr.val _=vl at *
  try generalize Tr.val _=vr at *
  go_enter Tryz.func272,Tryz.ntmps272
  go_wp2_with fail
  refine(hP _).mono ?_
  rintro e w1 ⟨u,rfl,cZ,hb1⟩
  have HI:=gZ cZ
  obtain⟨a1,c1,rfl⟩:=aQ cZ
  clear hP cZ
  go_wp2_with fail
  refine(hS _ _ HI).mono ?_
  rintro e w2 ⟨rfl,hb2⟩
  have hB2:=ah hb1 hb2
  clear hS hb1 hb2 HI
  go_wp2
  go_ret
  exact⟨rfl,hB2⟩
theorem Dh(w:World)(a b c:Int)(t:TypeId):Ints .i64 (w.alloc (.cells #[.int .i64 a,.int .i64 b,.int .i64 c] t)) (.slice (some ⟨w.heap.size,0,none⟩) 3 3) [a,b,c]:=by
 refine Or.inr ⟨w.heap.size,0,3,rfl,by simp,fun j hj=> ?_⟩
 have hh:=heap_alloc_new w (.cells #[.int .i64 a,.int .i64 b,.int .i64 c] t)
 unfold World.cell?
 rw[hh]
 rcases(show j=0∨j=1∨j=2 by simp at hj;omega)with rfl | rfl | rfl<;>rfl
theorem JO:tgC 9 []=0/\tgL 9 []=Tr.none.bts:=yt rfl (by simp) rfl
theorem JM{k v:Int}(h:(Tr.leaf k v).Ok):tgC 4 [k,v]=0/\tgL 4 [k,v]=(Tr.leaf k v).bts:=yt rfl (by simp) (Tr.Ok.N8 h.1 h.2)
theorem JL{b:Nat}{l r:Tr}(h:(Tr.fork b l r).Ok):tgC 5 [(b:Int),l.sum,r.sum]=0/\tgL 5 [(b:Int),l.sum,r.sum]=(Tr.fork b l r).bts:=yt rfl (by simp) (Tr.Ok.N9 h.1 l r)
theorem Ot:Gn .none:=by
 refine⟨fun w=> ?_⟩
 have hT:=fun w=>iQ 9 (.slice none 0 0) [] w (Or.inl ⟨rfl,_,_,rfl⟩) (by simp)
 rw[JO.1,JO.2]at hT
 simp only[Ja,Jd]
 generalize Tr.bts _=ys at *
 go_enter Tryz.func332,Tryz.ntmps332
 go_wp2_with fail
 refine(hT _).mono ?_
 intro e w2 h2
 obtain⟨a2,c2,rfl,hb2,aN⟩:=h2.use
 have kf:=fun w=>vZ 0 a2 ys.length c2 w
 have hB2:=ak hb2
 rw[World.size_alloc]at aN
 have nT:=aS aN (show w.heap.size<=w.heap.size+1 by omega)
 clear hT h2
 go_wp2
 go_ret
 exact⟨_,rfl,nT,hB2⟩
theorem Oq{k v:Int}(h:(Tr.leaf k v).Ok):Gn (.leaf k v):=by
 refine⟨fun w=> ?_⟩
 have hT:=fun u w hu=>iQ 4 u [k,v] w hu (by simp)
 rw[(JM h).1,(JM h).2]at hT
 simp only[I9,Jc]
 generalize Tr.bts _=ys at *
 clear h
 go_enter Tryz.func333,Tryz.ntmps333
 go_wp2_with fail
 refine(hT _ _ (zu (by simp))).mono ?_
 intro e w2 h2
 obtain⟨a2,c2,rfl,hb2,aN⟩:=h2.use
 have kf:=fun w=>vZ 0 a2 ys.length c2 w
 have hB2:=ak (ak hb2)
 rw[World.size_alloc,World.size_alloc]at aN
 have nT:=aS aN (show w.heap.size<=w.heap.size+1+1 by omega)
 clear hT h2
 go_wp2
 go_ret
 exact⟨_,rfl,nT,hB2⟩
structure Gq(v:Value)(s:Int):Prop where
 c:∀w,Calls Tryz.prog 272 #[v] w fun e w'=>e = .returned (.int .i64 s)/\Below w.heap.size w w'
theorem Oo{b:Nat}{l r:Tr}(h:(Tr.fork b l r).Ok)(h1:Gq l.val l.sum)(h2:Gq r.val r.sum):Gn (.fork b l r):=by
 refine⟨fun w=> ?_⟩
 have hT:=fun u w hu=>iQ 5 u [(b:Int),l.sum,r.sum] w hu (by simp)
 rw[(JL h).1,(JL h).2]at hT
 simp only[I8,Jb]
 generalize Tr.bts _=ys at *
 generalize l.val=vl at *
 generalize r.val=vr at *
 generalize l.sum=x at *
 generalize r.sum=y at *
 clear h
 have A0:=bF (heap_alloc_new w (.cells #[.int .i64 (b:Int),vl,vr] 358))
 obtain⟨W,hW⟩:∃W,W=w.alloc (.cells #[.int .i64 (b:Int),vl,vr] 358):=⟨_,rfl⟩
 have hBW:Hid (Below w.heap.size w W):=by rw[hW];exact aj _
 have hlt:w.heap.size<W.heap.size:=by rw[hW];simp
 rw[←hW]at A0
 have HW:Hid (w.alloc (.cells #[.int .i64 (b:Int),vl,vr] 358)=W):=hW.symm
 have HG:Hid (∀w',Below W.heap.size W w'->w'.cell? ⟨w.heap.size,0,none⟩=some (.int .i64 (b:Int))/\w'.cell? ⟨w.heap.size,1,none⟩=some vl/\w'.cell? ⟨w.heap.size,2,none⟩=some vr):=fun w' h=>⟨(h.cell (p:=⟨w.heap.size,0,none⟩) hlt).trans A0.1,(h.cell (p:=⟨w.heap.size,1,none⟩) hlt).trans A0.2.1,(h.cell (p:=⟨w.heap.size,2,none⟩) hlt).trans A0.2.2⟩
 obtain⟨c0,c1,c2⟩:=A0
 have hbr:=Below.refl W.heap.size W
 clear hW
 go_enter Tryz.func366,Tryz.ntmps366
 go_wp2
 rw[HW.out]
 go_region_held3 (fun w'=>w'.cell? ⟨w.heap.size,0,none⟩=some (.int .i64 (b:Int))/\w'.cell? ⟨w.heap.size,1,none⟩=some vl/\w'.cell? ⟨w.heap.size,2,none⟩=some vr)
  (first | exact⟨c0,c1,c2⟩|exact HG.out _ hbr | exact HG.out _ (hbr.alloc hbr.size _))
  (first
   |(go_at_call 272;refine(Gq.c (by assumption) _).mono ?_;rintro e wq ⟨rfl,hbq⟩;have hbr:Below W.heap.size W wq:=(by first | exact ah hbr hbq | exact ah hbr.drew hbq))
   |(go_at_call 251;refine(hT _ _ (Dh _ _ _ _ _)).mono ?_;intro e wt ht;obtain⟨at',Zb,rfl,hbt,aN⟩:=ht.use;rw[World.size_alloc]at aN;have nT:=aS aN (Nat.le_succ_of_le (Nat.le_trans (Nat.le_of_lt hlt) hbr.size));have hbr:Below W.heap.size W wt:=ah (hbr.alloc hbr.size _) hbt;have kf:=fun w=>vZ 0 at' ys.length Zb w))
 have hB3:=ah hBW.out hbr
 go_wp2
 go_ret
 exact⟨_,rfl,nT,hB3⟩
theorem Qm(t:Tr):t.Ok->Gn t:=by
 induction t using Tr.ind with
 | none=>exact fun _=>Ot
 | leaf k v=>exact fun h=>Oq h
 | fork b l r ih1 ih2=>exact fun h=>Oo h ⟨fun w=>uY h.2.1 (ih1 h.2.1) w⟩ ⟨fun w=>uY h.2.2 (ih2 h.2.2) w⟩
theorem sG{t:Tr}(h:t.Ok):Gq t.val t.sum:=⟨fun w=>uY h (Qm t h) w⟩
structure FZ(l:Prl)(t:Tr):Prop where
 c:∀(v:Value)(w:World),Prs w v l->Calls Tryz.prog 262 #[v] w fun e w'=>∃v',e = .returned v'/\w'.ownsRow w.heap.size 5 1 v' t.bts.length (t.bts.map (Value.int .u8))/\Below w.heap.size w w'
structure Dj(l:Prl)(x:Int):Prop where
 c:∀(v:Value)(w:World),Prs w v l->Calls Tryz.prog 216 #[v] w fun e w'=>e = .returned (.int .i64 x)/\Below w.heap.size w w'
theorem wR{l:Prl}{t:Tr}(h:FZ l t)(hok:t.Ok):Dj l t.sum:=by
 refine⟨fun v w hv=> ?_⟩
 have hB:=h.c v w hv
 have hS:=fun u w hu=>lX u t.bts w hu hok.bts (by have:=t.len;omega)
 obtain⟨ad,c,rfl⟩:=hv.shape
 have e1:bf t.bts=t.sum:=rfl
 rw[e1]at hS
 generalize t.sum=x at *
 generalize t.bts=ys at *
 generalize l.length=n at *
 clear hv h hok e1
 go_enter Tryz.func216,Tryz.ntmps216
 go_wp2_with fail
 refine hB.mono ?_
 rintro e w1 ⟨u,rfl,cZ,hb1⟩
 have HI:=gZ cZ
 obtain⟨a1,c1,rfl⟩:=aQ cZ
 clear hB cZ
 go_wp2_with fail
 refine(hS _ _ HI).mono ?_
 rintro e w2 ⟨rfl,rfl⟩
 clear hS HI
 go_wp2
 go_ret
 exact⟨rfl,hb1⟩
theorem Ip:FZ [] .none:=by
 refine⟨fun v w hv=> ?_⟩
 have hT:=fun w=>jU 9 (.slice none 0 0) [] w (Or.inl ⟨rfl,_,_,rfl⟩) (by simp) (by omega) rfl
 obtain⟨ad,c,rfl⟩:=hv.shape
 have e1:bg 9 []=Tr.none.bts:=rfl
 rw[e1]at hT
 generalize Tr.bts _=ys at *
 clear hv e1
 go_enter Tryz.func262,Tryz.ntmps262
 go_wp2_with fail
 refine(hT _).mono ?_
 rintro e w2 ⟨u,rfl,aN,hb2⟩
 obtain⟨a2,c2,rfl⟩:=aQ aN
 clear hT
 go_wp2
 go_ret
 exact⟨_,rfl,aN,hb2⟩
theorem Io{k y:Int}(h:(Tr.leaf k y).Ok):FZ [(k,y)] (.leaf k y):=by
 refine⟨fun v w hv=> ?_⟩
 have hT:=fun u w hu=>jU 4 u [k,y] w hu (by simp) (by omega) (Tr.Ok.N8 h.1 h.2)
 obtain⟨ad,c,rfl⟩:=hv.shape
 obtain⟨-,b,off,rfl,hlt,hc⟩:=hv.at (by simp)
 have c0:w.cell? ⟨b,off,none⟩=some (.int .i64 k):=by simpa [pAt]using(hc 0 (by simp)).1
 have c1:w.cell? ⟨b,off+1,none⟩=some (.int .i64 y):=by simpa [pAt]using(hc 0 (by simp)).2
 have e1:bg 4 [k,y]=(Tr.leaf k y).bts:=rfl
 rw[e1]at hT
 generalize Tr.bts _=ys at *
 have HG:Hid (∀w',Below w.heap.size w w'->w'.cell? ⟨b,off,none⟩=some (.int .i64 k)/\w'.cell? ⟨b,off+1,none⟩=some (.int .i64 y)):=fun w' h=>⟨(h.cell (p:=⟨b,off,none⟩) hlt).trans c0,(h.cell (p:=⟨b,off+1,none⟩) hlt).trans c1⟩
 clear hv e1 h hc
 have hbr:=Below.refl w.heap.size w
 go_enter Tryz.func262,Tryz.ntmps262
 go_wp2
 go_region_held3 (fun w'=>w'.cell? ⟨b,off,none⟩=some (.int .i64 k)/\w'.cell? ⟨b,off+1,none⟩=some (.int .i64 y))
  (first | exact⟨c0,c1⟩|exact HG.out _ hbr | exact HG.out _ hbr.drew | exact HG.out _ (aj _)|exact HG.out _ (hbr.drew.alloc hbr.drew.size _))
  (first
   |(go_at_call 259;refine(hT _ _ ((fV w k y 2).below (Below.refl _ _).drew)).mono ?_;rintro e wt ⟨u,rfl,aN,hbt⟩;obtain⟨a2,c2,rfl⟩:=aQ aN;have hbd:Below w.heap.size w (w.alloc (.cells #[.int .i64 k,.int .i64 y] 2)).drew:=(aj _).drew;have nT:=aS aN hbd.size;have hbr:Below w.heap.size w wt:=ah hbd hbt))
 go_wp2
 go_ret
 exact⟨_,rfl,nT,hbr⟩
theorem Il{l:Prl}{b:Nat}{L R:Tr}(hs:Sls l)(h2:2<=l.length)(hb:FB l b)(r0:Dj (sd l b 0) L.sum)(r1:Dj (sd l b 1) R.sum):FZ l (.fork b L R):=by
 refine⟨fun v w hv=> ?_⟩
 have hF:=fun w' h=>uF v l b w' (hv.below h) hs h2 hb
 have hS:=fun s w' h=>uH v l b s w' (hv.below h) hs hb.le
 have hT:=fun u w hu=>jU 5 u [(b:Int),L.sum,R.sum] w hu (by simp) (by omega) (Tr.Ok.N9 hb.le L R)
 have e1:bg 5 [(b:Int),L.sum,R.sum]=(Tr.fork b L R).bts:=rfl
 rw[e1]at hT
 have hn:=hs.len
 obtain⟨ad,c,rfl⟩:=hv.shape
 have R0:=fun a c w h=>r0.c (.slice a (sd l b 0).length c) w h
 have R1:=fun a c w h=>r1.c (.slice a (sd l b 1).length c) w h
 have S0:=hS 0
 have S1:=hS 1
 generalize L.sum=x at *
 generalize R.sum=y at *
 generalize Tr.bts _=ys at *
 generalize sd l b 0=m0 at *
 generalize sd l b 1=m1 at *
 generalize l.length=n at *
 clear hv e1 hs hS r0 r1 hb
 have d1:¬((n:Int)=0):=by omega
 have d2:¬((n:Int)=1):=by omega
 have d1':((n:Int)==0)=false:=by simpa using d1
 have Ej:((n:Int)==1)=false:=by simpa using d2
 go_enter Tryz.func262,Tryz.ntmps262
 go_wp2_with fail
 refine(hF _ (Below.refl _ _)).mono ?_
 rintro e w1 ⟨rfl,hb1⟩
 clear hF
 go_wp2_with fail
 refine(S0 _ hb1).mono ?_
 rintro e w2 ⟨a2,c2,rfl,aN,hb2⟩
 have hB2:=ah hb1 hb2
 clear S0 hb1 hb2
 go_wp2_with fail
 refine(R0 _ _ _ (lM aN)).mono ?_
 rintro e w3 ⟨rfl,hb3⟩
 have hB3:=ah hB2 hb3
 clear R0 hB2 hb3 aN
 go_wp2_with fail
 refine(S1 _ hB3).mono ?_
 rintro e w4 ⟨a4,c4,rfl,own4,hb4⟩
 have hB4:=ah hB3 hb4
 clear S1 hB3 hb4
 go_wp2_with fail
 refine(R1 _ _ _ (lM own4)).mono ?_
 rintro e w5 ⟨rfl,hb5⟩
 have oL:=ah hB4 hb5
 clear R1 hB4 hb5 own4
 go_wp2_with fail
 refine(hT _ _ (Dh _ _ _ _ _)).mono ?_
 rintro e w6 ⟨u,rfl,RP,hb6⟩
 rw[World.size_alloc]at RP
 have Wp:=aS RP (Nat.le_succ_of_le oL.size)
 have jm:=ah (oL.alloc oL.size _) hb6
 obtain⟨a6,c6,rfl⟩:=aQ Wp
 clear hT RP hb6 oL
 go_wp2
 go_ret
 exact⟨_,rfl,Wp,jm⟩
theorem KA{l:Prl}{t:Tr}(h:bG l t):Sls l->FZ l t:=by
 induction h using bG.ind with
 | none=>intro _;exact Ip
 | leaf k y=>intro hs;exact Io ((bG.leaf k y).ok hs)
 | fork h2 hb h3 h4 ih1 ih2=>
  intro hs
  exact Il hs h2 hb (wR (ih1 (iy hs _ _)) (h3.ok (iy hs _ _))) (wR (ih2 (iy hs _ _)) (h4.ok (iy hs _ _)))
theorem uG{l:Prl}{t:Tr}(h:bG l t)(hs:Sls l):Dj l t.sum:=wR (KA h hs) (h.ok hs)
theorem KX(a:Option Addr)(c:Nat)(w:World):Calls Tryz.prog 269 #[.slice a 0 c] w fun e w'=>e = .returned Tr.none.val/\Below w.heap.size w w':=by
 rw[Tr.AV]
 go_enter Tryz.func269,Tryz.ntmps269
 go_wp2
 go_ret
 exact⟨rfl,Below.refl _ _⟩
theorem KW(b off c:Nat)(k v:Int)(w:World)(c0:w.cell? ⟨b,off,none⟩=some (.int .i64 k))(c1:w.cell? ⟨b,off+1,none⟩=some (.int .i64 v)):
  Calls Tryz.prog 269 #[.slice (some ⟨b,off,none⟩) 1 c] w fun e w'=>e = .returned (Tr.leaf k v).val/\Below w.heap.size w w':=by
 rw[Tr.JW]
 go_enter Tryz.func269,Tryz.ntmps269
 go_wp2
 go_ret
 exact⟨rfl,Below.refl _ _⟩
structure QI(W:World)(v x:Value):Prop where
 c:∀w',Below W.heap.size W w'->Calls Tryz.prog 269 #[v] w' fun e w''=>e = .returned x/\Below w'.heap.size w' w''
theorem KU(l:Prl)(b:Nat)(L R:Tr)(h2:2<=l.length)(hb:FB l b)
  (ih1:∀(v:Value)(w:World),Prs w v (sd l b 0)->Okv v->Calls Tryz.prog 269 #[v] w fun e w'=>e = .returned L.val/\Below w.heap.size w w')
  (ih2:∀(v:Value)(w:World),Prs w v (sd l b 1)->Okv v->Calls Tryz.prog 269 #[v] w fun e w'=>e = .returned R.val/\Below w.heap.size w w')
  (v:Value) (w:World) (hv:Prs w v l) (hcap:Okv v) (hs:Sls l) :
  Calls Tryz.prog 269 #[v] w fun e w'=>e = .returned (Tr.fork b L R).val/\Below w.heap.size w w':=by
 have hF:=fun w' h=>EX v l b w' (hv.below h) hs h2 hb
 have hP:=fun w' h=>sF v l (ones l b) w' (hv.below h) hs.len hs.ris
 obtain⟨a,c,rfl⟩:=hv.shape
 obtain⟨-,bb,off,rfl,hlt,hc⟩:=hv.at (by omega)
 have hcp:=(hcap _ _ _ rfl).1
 have hn:=hs.len
 have hb7:=hb.le
 have c1:=(hc (l.length - 1) (by omega)).1
 have hK:=(hs.at (show l.length - 1<l.length by omega)).1
 have e0:=UU hs.ris hb (by omega)
 have e1:=Wv hs.ris hb (by omega)
 have hlo:0<low l (ones l b)/\low l (ones l b)<l.length:=by
  have s0:=lV (s:=0) hb (by omega) (Or.inl rfl)
  have s1:=lV (s:=1) hb (by omega) (Or.inr rfl)
  rw[e0,List.length_take]at s0
  rw[e1,List.length_drop]at s1
  omega
 have hp1:∀cc,Prs w (.slice (some ⟨bb,off,none⟩) (low l (ones l b)) cc) (sd l b 0):=fun cc=>by
  rw[e0]
  exact Au (i:=0) rfl hlt (Nat.zero_le _) (Nat.le_of_lt hlo.2) hc
 have hp2:∀cc,Prs w (.slice (some ⟨bb,off+low l (ones l b)*2,none⟩) (l.length - low l (ones l b)) cc) (sd l b 1):=fun cc=>by
  have:=Au (c:=cc) rfl hlt (show low l (ones l b)<=l.length by omega) (Nat.le_refl _) hc
  rw[List.take_length]at this
  rw[e1]
  exact this
 have hX:wrap64 ((pAt l (l.length - 1)).1/2^b*2^b)=ones l b:=by
  have h1:=Int.ediv_mul_le (pAt l (l.length - 1)).1 (Int.ne_of_gt (pow_pos b))
  have h3:0<=ones l b:=Int.mul_nonneg (Int.ediv_nonneg hK.1 (Int.le_of_lt (pow_pos b))) (Int.le_of_lt (pow_pos b))
  have e:(pAt l (l.length - 1)).1/2^b*2^b=ones l b:=by unfold ones;rw[Int.natCast_pow];rfl
  rw[e]
  have h4:ones l b<=(pAt l (l.length - 1)).1:=h1
  generalize ones l b=z at *
  generalize (pAt l (l.length - 1)).1=y at *
  go_arith
 generalize (pAt l (l.length - 1)).1=q at *
 generalize ones l b=X at *
 generalize low l X=lo at *
 generalize thr l X=th at *
 have T1:QI w (.slice (some ⟨bb,off,none⟩) lo c) L.val:=⟨fun w' h=>ih1 _ w' ((hp1 c).below (w':=w') h) (by intro a n c' e;cases e;exact⟨by omega,fun h=>by cases h⟩)⟩
 have T2:QI w (.slice (some ⟨bb,off+lo*2,none⟩) (l.length - lo) (c - lo)) R.val:=⟨fun w' h=>ih2 _ w' ((hp2 (c - lo)).below (w':=w') h) (by intro a n c' e;cases e;exact⟨by omega,fun h=>by cases h⟩)⟩
 clear ih1 ih2 hp1 hp2 e0 e1 hc hv hs hcap hb
 generalize l.length=n at *
 obtain⟨m,rfl⟩:∃m,n=m+1:=⟨n - 1,by omega⟩
 rw[Nat.add_sub_cancel]at c1
 rw[Tr.JV]
 obtain⟨tL,xL,eL⟩:=L.isIface
 obtain⟨tR,xR,eR⟩:=R.isIface
 rw[eL]at T1 ⊢
 rw[eR]at T2 ⊢
 clear eL eR
 have hm1:1<=m:=by omega
 have hm2:m<=11:=by omega
 have hb0:(0:Int)<=(b:Int):=by omega
 have hb8:(b:Int)<=64:=by omega
 have d1:¬((m:Int)+1=0):=by omega
 have d2:¬((m:Int)+1=1):=by omega
 have d3:¬(m=0):=by omega
 go_enter Tryz.func269,Tryz.ntmps269
 go_wp2_with fail
 refine(hF _ (Below.refl _ _)).mono ?_
 rintro e w1 ⟨rfl,k1,rfl⟩
 have hb1:Below w.heap.size w (w.drewN k1):=below_drewN (Below.refl _ _) _
 clear hF
 go_wp2_with fail
 refine(hP _ hb1).mono ?_
 rintro e w2 ⟨rfl,hb2⟩
 have hB2:=ah hb1 hb2
 have hne:=After.ne w2
 clear hP hb1 hb2
 go_wp2_with fail
 refine ay (by kernel_rfl) (by kernel_rfl) ?_
 repeat(first | go_big_quiet_skip |(go_big_quiet_want;go_big_quiet_op;first | go_big_quiet_on | go_big_quiet_call (first
  |(go_at_call 269;refine(QI.c (by assumption) _ (ah hB2 (After.b _))).mono ?_;rintro e wq ⟨rfl,hbq⟩;exact⟨rfl,bP (ah (After.b _) hbq)⟩))))
 refine wpQuiet_nil ?_
 rintro _ ⟨n3,rfl⟩
 have hB3:=ah hB2 n3.b
 generalize n3.w=w3 at *
 clear hne n3 hB2 T1 T2
 go_wp2
 go_ret
 exact⟨rfl,hB3⟩
theorem uX{l:Prl}{t:Tr}(h:bG l t):∀(v:Value)(w:World),Sls l->Prs w v l->Okv v->Calls Tryz.prog 269 #[v] w fun e w'=>e = .returned t.val/\Below w.heap.size w w':=by
 induction h using bG.ind with
 | none=>
  intro v w _ hv _
  obtain⟨a,c,rfl⟩:=hv.shape
  exact KX a c w
 | leaf k y=>
  intro v w _ hv _
  obtain⟨a,c,rfl⟩:=hv.shape
  obtain⟨-,b,off,rfl,-,hc⟩:=hv.at (by simp)
  have h0:=hc 0 (by simp)
  exact KW b off c k y w (by simpa [pAt]using h0.1) (by simpa [pAt]using h0.2)
 | fork h2 hb h3 h4 ih1 ih2=>
  intro v w hs hv ho
  exact KU _ _ _ _ h2 hb (fun v w hp ho=>ih1 v w (iy hs _ _) hp ho) (fun v w hp ho=>ih2 v w (iy hs _ _) hp ho) v w hv ho hs
theorem DF(v:Value)(l:Prl)(t:Tr)(w:World)(hv:Prs w v l)(ho:Okv v)(h0:slF l=0)(ht:bG l t):
  Calls Tryz.prog 285 #[v] w fun e w'=>iO w 0 t.sum e w':=by
 have hs:=kQ h0
 have hF:=fun w' h=>dX v l w' (hv.below h) (by have:=hs.len;omega)
 have hT:=fun w' h=>uX ht v w' hs (hv.below h) ho
 have hfk:t.forks<=1000:=by have:=ht.forks;have:=hs.len;omega
 have hQ:=(Gq.c (sG (ht.ok hs)))
 rw[h0]at hF
 obtain⟨tT,xT,eT⟩:=t.isIface
 rw[eT]at hT hQ
 obtain⟨ad,c,rfl⟩:=hv.shape
 generalize t.sum=x at *
 generalize l.length=n at *
 clear hv h0 hs ht ho eT hfk
 go_enter Tryz.func285,Tryz.ntmps285
 go_wp2_with fail
 refine(hF _ (aj _)).mono ?_
 rintro e w1 ⟨rfl,hb1⟩
 clear hF
 go_wp2_with fail
 refine(hT _ (ak hb1)).mono ?_
 rintro e w2 ⟨rfl,hb2⟩
 have hb2':=ah hb1 hb2
 clear hT hb1 hb2
 go_wp2_with fail
 refine(hQ _).mono ?_
 rintro e w3 ⟨rfl,hb3⟩
 have zK:=ah hb2' hb3
 obtain⟨g0,g1,f0,f1⟩:=eG ((zK.block w.heap.size (by simp)).trans (heap_alloc_new w _))
 have hB3:=ak zK
 clear hQ hb2' hb3 zK
 go_wp2
 exact bodyPost_ret (v:= .agg #[.int .i64 0,.int .i64 x]) (by simp[results,Tryz.results285,go_sem, *]) rfl ⟨rfl,(hB3.setCell (by simp) _).setCell (by simp) _⟩
structure lU(l:Prl)(o n:Int):Prop where
 so:∀(v:Value)(w:World),Prs w v l->Calls Tryz.prog 246 #[v] w fun e w'=>e = .returned (.int .i64 o)/\Below w.heap.size w w'
 sn:∀(v:Value)(w:World),Prs w v l->Calls Tryz.prog 216 #[v] w fun e w'=>e = .returned (.int .i64 n)/\Below w.heap.size w w'
 io:∀(v:Value)(w:World),Prs w v l->Calls Tryz.prog 284 #[v] w fun e w'=>iO w 0 o e w'
 inn:∀(v:Value)(w:World),Prs w v l->Okv v->Calls Tryz.prog 285 #[v] w fun e w'=>iO w 0 n e w'
 ob:0<=o/\o<=65520
 nb:0<=n/\n<=65520
theorem Sj(l:Prl)(h:slF l=0):∃o n,lU l o n:=by
 have hs:=kQ h
 obtain⟨t,ht⟩:=LU _ l (Nat.le_refl _) hs
 have hlen:=hs.len
 refine⟨nd l 8 0,t.sum,fun v w hv=>NV v l w hv (by omega) hs.fin,fun v w hv=>(uG ht hs).c v w hv,fun v w hv=> ?_,fun v w hv ho=>DF v l t w hv ho h ht, ?_, ?_⟩
 ·have:=BJ v l w hv (by omega)
  unfold orC orV at this
  rw[h]at this
  exact this
 ·exact iV _ _ _
 ·exact t.JJ
theorem aX{w:World}{b:Nat}{x0 x1 x2 x3 x4:Value}{t:TypeId}(h:w.heap[b]? = some (.cells #[x0,x1,x2,x3,x4] t (0,0))):(w.cell? ⟨b,0,none⟩=some x0/\w.cell? ⟨b,1,none⟩=some x1/\w.cell? ⟨b,2,none⟩=some x2/\w.cell? ⟨b,3,none⟩=some x3/\w.cell? ⟨b,4,none⟩=some x4)/\w.frozen? ⟨b,0,none⟩=false/\w.frozen? ⟨b,1,none⟩=false/\w.frozen? ⟨b,2,none⟩=false/\w.frozen? ⟨b,3,none⟩=false/\w.frozen? ⟨b,4,none⟩=false:=by
 simp[World.cell?,World.frozen?,h]
theorem Es{w:World}{b:Nat}{x0 x1 x2 x3 x4:Value}{t:TypeId}(h:w.heap[b]? = some (.cells #[x0,x1,x2,x3,x4] t (0,0)))(x:Value):(w.setCell ⟨b,2,none⟩ x).heap[b]? = some (.cells #[x0,x1,x,x3,x4] t (0,0)):=by
 have:=heap_setCell_same w b 2 _ _ x h
 simpa using this
theorem Du(c:Int)(v:Value)(w:World)(h:∃a n k,v = .slice a n k):(Instr.field 215 (.agg #[.int .i64 c,v]) 1).run Tryz.prog w = .ok v w:=by
 obtain⟨a,n,k,rfl⟩:=h
 kernel_rfl
theorem KO(u:Value)(l:Rcl)(o n:Int)(w:World)(hv:Rcs w u l)(hl:Lbs l)(h0:aI l=0)(hR:lU (aB l) o n):
  Calls Tryz.prog 250 #[.agg #[u]] w fun x w'=>x = .returned (trV o n)/\Below w.heap.size w w':=by
 have hok:=dP h0
 have hS:=gW u l ((w.alloc (.cells #[u] 36)).alloc (.cells #[.int .i64 0,.int .i64 0] 314)) (hv.below (aA _ _)) hl (by have:=hok.len;omega)
 have e1:sfL l=aB l:=by unfold sfL;rw[if_pos h0]
 rw[e1,h0]at hS
 obtain⟨a,c,rfl⟩:=hv.shape
 generalize aB l=m at *
 generalize l.length=k at *
 clear hv hl h0 e1 hok
 unfold trV
 go_enter Tryz.func250,Tryz.ntmps250
 go_wp2_with fail
 refine hS.mono ?_
 intro x w1 h1
 obtain⟨hb1,v1,rfl,o1⟩:=h1
 obtain⟨a1,c1,rfl⟩:=lg o1
 have p1:=aP o1
 have k1:=jW o1
 have kf:=fun w=>Du 0 (.slice a1 m.length c1) w ⟨_,_,_,rfl⟩
 have Q1:=(fU hb1).2
 have hB1:Below w.heap.size w w1:=ak (ak hb1)
 have hO:=hR.io _ _ p1
 have HN:Hid (∀w',Below w1.heap.size w1 w'->Calls Tryz.prog 285 #[.slice a1 m.length c1] w' fun e w''=>iO w' 0 n e w''):=fun w' h=>hR.inn _ _ (p1.below h) k1
 have hlt1:=(Array.getElem?_eq_some_iff.1 Q1).1
 generalize m.length=mn at *
 clear o1 k1 p1 hR hb1 hS
 go_wp2_with fail
 refine hO.mono ?_
 rintro x w2 ⟨rfl,hb2⟩
 have kg:=fun w=>xU 0 o w
 have hN:=HN.out _ hb2
 clear hO kf HN
 go_wp2_with fail
 refine hN.mono ?_
 rintro x w3 ⟨rfl,hb3⟩
 have kh:=fun w=>xU 0 n w
 have zJ:=ah hb2 hb3
 obtain⟨c0,c1',f0,f1⟩:=bQ ((zJ.block _ hlt1).trans Q1)
 have hB3:=ah hB1 zJ
 clear hN hb2 hb3 zJ Q1 hB1 hlt1
 go_wp2
 exact bodyPost_ret (v:= .agg #[.int .i64 o,.int .i64 n]) (by simp[results,Tryz.results250,go_sem,c0,c1']) rfl ⟨rfl,(hB3.setCell (Nat.le_succ _) _).setCell (Nat.le_succ _) _⟩
theorem Kt(g og:Nat)(u:Value)(l:Rcl)(e p v o n:Int)(w:World)(hg:g<w.heap.size)(hD:w.cell? ⟨g,og,none⟩=some u)(hv:Rcs w u l)(hok:iZ l)(hR:lU (aB l) o n):
  Calls Tryz.prog 187 #[.pointer (some ⟨g,og,none⟩),.int .i64 e,.int .i64 p,.int .i64 v] w fun x w'=>x = .returned (hdV e p (nG p o) (nD p n) v)/\Below w.heap.size w w':=by
 have hB0:Below w.heap.size w ((w.alloc (.cells #[.int .i64 0,.int .i64 0,.int .i64 0,.int .i64 0,.int .i64 0] 136)).alloc (.cells #[.int .i64 e,.int .i64 p,.int .i64 0,.int .i64 0,.int .i64 v] 136)):=aA _ _
 have hS:=jk g og u l _ (Nat.lt_of_lt_of_le hg hB0.size) ((hB0.cell (p:=⟨g,og,none⟩) hg).trans hD) (hv.below hB0) hok
 have hO:=fun w=>pz p w
 have hN:=fun w=>pq p w
 generalize aB l=m at *
 clear hv hD
 unfold hdV nG nD
 rcases Bool.eq_false_or_eq_true (ny p)with h1 | h1
 ·rcases Bool.eq_false_or_eq_true (kL p)with h2 | h2
  ·rw[h1]at hO ⊢
   rw[h2]at hN ⊢
   simp only[if_true]
   clear h1 h2
   go_enter Tryz.func187,Tryz.ntmps187
   go_wp2_with fail
   refine hS.mono ?_
   rintro x w1 ⟨v1,rfl,hb1,o1⟩
   obtain⟨a1,c1,rfl⟩:=lg o1
   have QA:=(fU hb1).1
   have QB:=(fU hb1).2
   have hB1:Below w.heap.size w w1:=ak (ak hb1)
   have jF:Hid (w1.ownsRow (w.heap.size+2) 63 2 (.slice a1 m.length c1) m.length ((fl m).map (Value.int .i64))):=aS o1 (by simp)
   have hl2:w.heap.size+1<w1.heap.size:=(Array.getElem?_eq_some_iff.1 QB).1
   have hl1:w.heap.size<w1.heap.size:=(Array.getElem?_eq_some_iff.1 QA).1
   clear o1 hb1 hS
   obtain⟨⟨a0,a1',a2,a3,a4⟩,b0,b1,b2,b3,b4⟩:=aX QA
   obtain⟨⟨c0,c1',c2,c3,c4⟩,d0,d1,d2,d3,d4⟩:=aX QB
   go_wp2_with fail
   refine(hO _).mono ?_
   rintro x wq ⟨rfl,hwq⟩
   rw[hwq]
   clear hwq wq
   clear hO
   have hA:=hR.so _ _ (aP jF.out)
   have HM:Hid (lU m o n):=hR
   clear hR
   generalize hmn:m.length=mn at *
   have XG:Hid (m.length=mn):=hmn
   clear hmn
   go_wp2_with fail
   refine hA.mono ?_
   rintro x w2 ⟨rfl,hb2⟩
   have Gp:=(hb2.block _ hl1).trans QA
   have AZ:=(hb2.block _ hl2).trans QB
   have hB2:=ah hB1 hb2
   have kZ:=own_below jF.out hb2
   have hl3:w.heap.size+1<w2.heap.size:=(Array.getElem?_eq_some_iff.1 AZ).1
   clear a0 a1' a2 a3 a4 b0 b1 b2 b3 b4 c0 c1' c2 c3 c4 d0 d1 d2 d3 d4 QA QB hA hb2 jF
   obtain⟨⟨a0,a1',a2,a3,a4⟩,b0,b1,b2,b3,b4⟩:=aX Gp
   obtain⟨⟨c0,c1',c2,c3,c4⟩,d0,d1,d2,d3,d4⟩:=aX AZ
   obtain⟨W3,hW3⟩:∃W3,W3=w2.setCell ⟨w.heap.size+1,2,none⟩ (.int .i64 o):=⟨_,rfl⟩
   have HW3:Hid (w2.setCell ⟨w.heap.size+1,2,none⟩ (.int .i64 o)=W3):=hW3.symm
   have Lh:W3.heap[w.heap.size]? = some (.cells #[.int .i64 0,.int .i64 0,.int .i64 0,.int .i64 0,.int .i64 0] 136):=by rw[hW3];exact(heap_setCell_other w2 ⟨w.heap.size+1,2,none⟩ w.heap.size _ (by simp)).trans Gp
   have Lj:W3.heap[w.heap.size+1]? = some (.cells #[.int .i64 e,.int .i64 p,.int .i64 o,.int .i64 0,.int .i64 v] 136):=by rw[hW3];exact Es AZ _
   have hB3:Below w.heap.size w W3:=by rw[hW3];exact hB2.setCell (Nat.le_succ _) _
   have qh:Hid (W3.ownsRow (w.heap.size+2) 63 2 (.slice a1 mn c1) mn ((fl m).map (Value.int .i64))):=by rw[hW3];exact ownsRow_setCell_below kZ (by simp) _
   clear hW3 kZ hB2 hB1 Gp AZ
   go_wp2_with fail
   rw[HW3.out]
   clear a0 a1' a2 a3 a4 b0 b1 b2 b3 b4 c0 c1' c2 c3 c4 d0 d1 d2 d3 d4 HW3
   obtain⟨⟨a0,a1',a2,a3,a4⟩,b0,b1,b2,b3,b4⟩:=aX Lh
   obtain⟨⟨c0,c1',c2,c3,c4⟩,d0,d1,d2,d3,d4⟩:=aX Lj
   refine(hN _).mono ?_
   rintro x wq ⟨rfl,hwq⟩
   rw[hwq]
   clear hwq wq
   clear hN
   have hA:=HM.out.sn _ _ (Qk XG.out.symm qh.out)
   have hl4:w.heap.size<W3.heap.size:=(Array.getElem?_eq_some_iff.1 Lh).1
   have hl5:w.heap.size+1<W3.heap.size:=(Array.getElem?_eq_some_iff.1 Lj).1
   go_wp2_with fail
   refine hA.mono ?_
   rintro x w4 ⟨rfl,hb4⟩
   have Vw:=(hb4.block _ hl4).trans Lh
   have Vx:=(hb4.block _ hl5).trans Lj
   have hB4:=ah hB3 hb4
   clear a0 a1' a2 a3 a4 b0 b1 b2 b3 b4 c0 c1' c2 c3 c4 d0 d1 d2 d3 d4 Lh Lj hA hb4 hl4 hl5
   obtain⟨⟨a0,a1',a2,a3,a4⟩,b0,b1,b2,b3,b4⟩:=aX Vw
   obtain⟨⟨c0,c1',c2,c3,c4⟩,d0,d1,d2,d3,d4⟩:=aX Vx
   have AY:Hid (Below w.heap.size w w4):=hB4
   clear hB4
   go_wp2
   refine bodyPost_ret (v:= .agg #[.int .i64 e,.int .i64 p,.int .i64 o,.int .i64 n,.int .i64 v]) (by simp[results,Tryz.results187,go_sem,a0,a1',a2,a3,a4]) rfl ⟨rfl, ?_⟩
   exact(((((AY.out.setCell (Nat.le_succ _) _).setCell (Nat.le_refl _) _).setCell (Nat.le_refl _) _).setCell (Nat.le_refl _) _).setCell (Nat.le_refl _) _).setCell (Nat.le_refl _) _
  ·rw[h1]at hO ⊢
   rw[h2]at hN ⊢
   simp only[if_true,if_false,Bool.false_eq_true]
   clear h1 h2
   go_enter Tryz.func187,Tryz.ntmps187
   go_wp2_with fail
   refine hS.mono ?_
   rintro x w1 ⟨v1,rfl,hb1,o1⟩
   obtain⟨a1,c1,rfl⟩:=lg o1
   have QA:=(fU hb1).1
   have QB:=(fU hb1).2
   have hB1:Below w.heap.size w w1:=ak (ak hb1)
   have jF:Hid (w1.ownsRow (w.heap.size+2) 63 2 (.slice a1 m.length c1) m.length ((fl m).map (Value.int .i64))):=aS o1 (by simp)
   have hl2:w.heap.size+1<w1.heap.size:=(Array.getElem?_eq_some_iff.1 QB).1
   have hl1:w.heap.size<w1.heap.size:=(Array.getElem?_eq_some_iff.1 QA).1
   clear o1 hb1 hS
   obtain⟨⟨a0,a1',a2,a3,a4⟩,b0,b1,b2,b3,b4⟩:=aX QA
   obtain⟨⟨c0,c1',c2,c3,c4⟩,d0,d1,d2,d3,d4⟩:=aX QB
   go_wp2_with fail
   refine(hO _).mono ?_
   rintro x wq ⟨rfl,hwq⟩
   rw[hwq]
   clear hwq wq
   clear hO
   have hA:=hR.so _ _ (aP jF.out)
   have HM:Hid (lU m o n):=hR
   clear hR
   generalize hmn:m.length=mn at *
   have XG:Hid (m.length=mn):=hmn
   clear hmn
   go_wp2_with fail
   refine hA.mono ?_
   rintro x w2 ⟨rfl,hb2⟩
   have Gp:=(hb2.block _ hl1).trans QA
   have AZ:=(hb2.block _ hl2).trans QB
   have hB2:=ah hB1 hb2
   have kZ:=own_below jF.out hb2
   have hl3:w.heap.size+1<w2.heap.size:=(Array.getElem?_eq_some_iff.1 AZ).1
   clear a0 a1' a2 a3 a4 b0 b1 b2 b3 b4 c0 c1' c2 c3 c4 d0 d1 d2 d3 d4 QA QB hA hb2 jF
   obtain⟨⟨a0,a1',a2,a3,a4⟩,b0,b1,b2,b3,b4⟩:=aX Gp
   obtain⟨⟨c0,c1',c2,c3,c4⟩,d0,d1,d2,d3,d4⟩:=aX AZ
   obtain⟨W3,hW3⟩:∃W3,W3=w2.setCell ⟨w.heap.size+1,2,none⟩ (.int .i64 o):=⟨_,rfl⟩
   have HW3:Hid (w2.setCell ⟨w.heap.size+1,2,none⟩ (.int .i64 o)=W3):=hW3.symm
   have Lh:W3.heap[w.heap.size]? = some (.cells #[.int .i64 0,.int .i64 0,.int .i64 0,.int .i64 0,.int .i64 0] 136):=by rw[hW3];exact(heap_setCell_other w2 ⟨w.heap.size+1,2,none⟩ w.heap.size _ (by simp)).trans Gp
   have Lj:W3.heap[w.heap.size+1]? = some (.cells #[.int .i64 e,.int .i64 p,.int .i64 o,.int .i64 0,.int .i64 v] 136):=by rw[hW3];exact Es AZ _
   have hB3:Below w.heap.size w W3:=by rw[hW3];exact hB2.setCell (Nat.le_succ _) _
   have qh:Hid (W3.ownsRow (w.heap.size+2) 63 2 (.slice a1 mn c1) mn ((fl m).map (Value.int .i64))):=by rw[hW3];exact ownsRow_setCell_below kZ (by simp) _
   clear hW3 kZ hB2 hB1 Gp AZ
   go_wp2_with fail
   rw[HW3.out]
   clear a0 a1' a2 a3 a4 b0 b1 b2 b3 b4 c0 c1' c2 c3 c4 d0 d1 d2 d3 d4 HW3
   obtain⟨⟨a0,a1',a2,a3,a4⟩,b0,b1,b2,b3,b4⟩:=aX Lh
   obtain⟨⟨c0,c1',c2,c3,c4⟩,d0,d1,d2,d3,d4⟩:=aX Lj
   refine(hN _).mono ?_
   rintro x wq ⟨rfl,hwq⟩
   rw[hwq]
   clear hwq wq
   clear hN
   have AY:Hid (Below w.heap.size w W3):=hB3
   clear hB3
   go_wp2
   refine bodyPost_ret (v:= .agg #[.int .i64 e,.int .i64 p,.int .i64 o,.int .i64 0,.int .i64 v]) (by simp[results,Tryz.results187,go_sem,a0,a1',a2,a3,a4]) rfl ⟨rfl, ?_⟩
   exact(((((AY.out).setCell (Nat.le_refl _) _).setCell (Nat.le_refl _) _).setCell (Nat.le_refl _) _).setCell (Nat.le_refl _) _).setCell (Nat.le_refl _) _
 ·rcases Bool.eq_false_or_eq_true (kL p)with h2 | h2
  ·rw[h1]at hO ⊢
   rw[h2]at hN ⊢
   simp only[if_true,if_false,Bool.false_eq_true]
   clear h1 h2
   go_enter Tryz.func187,Tryz.ntmps187
   go_wp2_with fail
   refine hS.mono ?_
   rintro x w1 ⟨v1,rfl,hb1,o1⟩
   obtain⟨a1,c1,rfl⟩:=lg o1
   have QA:=(fU hb1).1
   have QB:=(fU hb1).2
   have hB1:Below w.heap.size w w1:=ak (ak hb1)
   have jF:Hid (w1.ownsRow (w.heap.size+2) 63 2 (.slice a1 m.length c1) m.length ((fl m).map (Value.int .i64))):=aS o1 (by simp)
   have hl2:w.heap.size+1<w1.heap.size:=(Array.getElem?_eq_some_iff.1 QB).1
   have hl1:w.heap.size<w1.heap.size:=(Array.getElem?_eq_some_iff.1 QA).1
   clear o1 hb1 hS
   obtain⟨⟨a0,a1',a2,a3,a4⟩,b0,b1,b2,b3,b4⟩:=aX QA
   obtain⟨⟨c0,c1',c2,c3,c4⟩,d0,d1,d2,d3,d4⟩:=aX QB
   go_wp2_with fail
   refine(hO _).mono ?_
   rintro x wq ⟨rfl,hwq⟩
   rw[hwq]
   clear hwq wq
   clear hO
   go_wp2_with fail
   refine(hN _).mono ?_
   rintro x wq ⟨rfl,hwq⟩
   rw[hwq]
   clear hwq wq
   clear hN
   have hA:=hR.sn _ _ (aP jF.out)
   generalize m.length=mn at *
   have hl4:w.heap.size<w1.heap.size:=(Array.getElem?_eq_some_iff.1 QA).1
   have hl5:w.heap.size+1<w1.heap.size:=(Array.getElem?_eq_some_iff.1 QB).1
   go_wp2_with fail
   refine hA.mono ?_
   rintro x w4 ⟨rfl,hb4⟩
   have Vw:=(hb4.block _ hl4).trans QA
   have Vx:=(hb4.block _ hl5).trans QB
   have hB4:=ah hB1 hb4
   clear a0 a1' a2 a3 a4 b0 b1 b2 b3 b4 c0 c1' c2 c3 c4 d0 d1 d2 d3 d4 QA QB hA hb4 hl4 hl5
   obtain⟨⟨a0,a1',a2,a3,a4⟩,b0,b1,b2,b3,b4⟩:=aX Vw
   obtain⟨⟨c0,c1',c2,c3,c4⟩,d0,d1,d2,d3,d4⟩:=aX Vx
   have AY:Hid (Below w.heap.size w w4):=hB4
   clear hB4
   go_wp2
   refine bodyPost_ret (v:= .agg #[.int .i64 e,.int .i64 p,.int .i64 0,.int .i64 n,.int .i64 v]) (by simp[results,Tryz.results187,go_sem,a0,a1',a2,a3,a4]) rfl ⟨rfl, ?_⟩
   exact(((((AY.out.setCell (Nat.le_succ _) _).setCell (Nat.le_refl _) _).setCell (Nat.le_refl _) _).setCell (Nat.le_refl _) _).setCell (Nat.le_refl _) _).setCell (Nat.le_refl _) _
  ·rw[h1]at hO ⊢
   rw[h2]at hN ⊢
   simp only[if_false,Bool.false_eq_true]
   clear h1 h2
   go_enter Tryz.func187,Tryz.ntmps187
   go_wp2_with fail
   refine hS.mono ?_
   rintro x w1 ⟨v1,rfl,hb1,o1⟩
   obtain⟨a1,c1,rfl⟩:=lg o1
   have QA:=(fU hb1).1
   have QB:=(fU hb1).2
   have hB1:Below w.heap.size w w1:=ak (ak hb1)
   have jF:Hid (w1.ownsRow (w.heap.size+2) 63 2 (.slice a1 m.length c1) m.length ((fl m).map (Value.int .i64))):=aS o1 (by simp)
   have hl2:w.heap.size+1<w1.heap.size:=(Array.getElem?_eq_some_iff.1 QB).1
   have hl1:w.heap.size<w1.heap.size:=(Array.getElem?_eq_some_iff.1 QA).1
   clear o1 hb1 hS
   obtain⟨⟨a0,a1',a2,a3,a4⟩,b0,b1,b2,b3,b4⟩:=aX QA
   obtain⟨⟨c0,c1',c2,c3,c4⟩,d0,d1,d2,d3,d4⟩:=aX QB
   go_wp2_with fail
   refine(hO _).mono ?_
   rintro x wq ⟨rfl,hwq⟩
   rw[hwq]
   clear hwq wq
   clear hO
   go_wp2_with fail
   refine(hN _).mono ?_
   rintro x wq ⟨rfl,hwq⟩
   rw[hwq]
   clear hwq wq
   clear hN
   have AY:Hid (Below w.heap.size w w1):=hB1
   clear hB1
   go_wp2
   refine bodyPost_ret (v:= .agg #[.int .i64 e,.int .i64 p,.int .i64 0,.int .i64 0,.int .i64 v]) (by simp[results,Tryz.results187,go_sem,a0,a1',a2,a3,a4]) rfl ⟨rfl, ?_⟩
   exact(((((AY.out).setCell (Nat.le_refl _) _).setCell (Nat.le_refl _) _).setCell (Nat.le_refl _) _).setCell (Nat.le_refl _) _).setCell (Nat.le_refl _) _
def hfC(l:Rcl)(e p v:Int):Int:=if aI l=0 then(if hdN e p v=true then 0 else 3)else aI l
theorem Uo{l:Rcl}{e p v:Int}(h:¬aI l=0):hfC l e p v=aI l:=if_neg h
theorem VZ{l:Rcl}{e p v:Int}(h:aI l=0)(h1:hdN e p v=true):hfC l e p v=0:=by unfold hfC;rw[if_pos h,h1];rfl
theorem Rh(e p v:Int):hdC e p 0 0 v=if hdN e p v=true then 0 else 3:=by
 have h0:aJ 0=true:=by decide
 have h1:hdF p 0 0=true:=by simp[hdF]
 unfold hdC hdR
 rw[h0,h1]
 simp
theorem PD(l:Rcl)(e p v:Int):(if aI l=0 then hdC e p 0 0 v else aI l)=hfC l e p v:=by unfold hfC;rw[Rh]
theorem BG(u:Value)(l:Rcl)(e p v:Int)(w:World)(hv:Rcs w u l)(hl:Lbs l)(hx:l.length<=1099511627776)(h:¬hfC l e p v=0):
  Calls Tryz.prog 193 #[.agg #[u],.int .i64 e,.int .i64 p,.int .i64 v] w fun x w'=>x = .returned (hrV (hfC l e p v) 0 0 0 0 0)/\Below w.heap.size w w':=by
 obtain⟨W,hW⟩:∃W,W=((w.alloc (.cells #[u] 36)).alloc lu).alloc (.cells #[.int .i64 e,.int .i64 p,.int .i64 0,.int .i64 0,.int .i64 v] 316):=⟨_,rfl⟩
 have HW:Hid _:=hW.symm
 have hB0:Below w.heap.size w W:=by rw[hW];exact(aA _ _).alloc (by simp;omega) _
 have A0:W.heap[w.heap.size]? = some (.cells #[u] 36):=by
  rw[hW];exact((aj _).block w.heap.size (by simp;omega)).trans (((aj lu).block w.heap.size (by simp)).trans (heap_alloc_new w _))
 have A1:W.heap[w.heap.size+1]? = some lu:=by
  rw[hW];exact((aj _).block (w.heap.size+1) (by simp)).trans (aU w _ _)
 have A2:W.heap[w.heap.size+1+1]? = some (.cells #[.int .i64 e,.int .i64 p,.int .i64 0,.int .i64 0,.int .i64 v] 316):=by
  rw[hW]
  have:=heap_alloc_new ((w.alloc (.cells #[u] 36)).alloc lu) (.cells #[.int .i64 e,.int .i64 p,.int .i64 0,.int .i64 0,.int .i64 v] 316)
  simpa using this
 have HD:Hid (∀w',Below W.heap.size W w'->Calls Tryz.prog 109 #[.agg #[u]] w' fun x w''=>x = .returned (.int .i64 (aI l))/\Below w'.heap.size w' w''):=fun w' h=>aY u l w' (hv.below (ah hB0 h)) hl hx
 have G9:=fun w=>zC e p 0 0 v w
 have He:=fun w=>jq e p 0 0 v w
 have hOr:=fun u w hu=>oJ (aI l) (hdC e p 0 0 v) u w hu
 rw[PD]at hOr
 have hcn:=jR h
 unfold hrV
 obtain⟨a,c,rfl⟩:=hv.shape
 unfold hdV at G9 He
 unfold lu at HW A1
 generalize hdC e p 0 0 v=hc at *
 generalize aI l=df at *
 generalize hfC l e p v=q at *
 clear hl h
 generalize l.length=k at *
 have l0:=(Array.getElem?_eq_some_iff.1 A0).1
 have l1:=(Array.getElem?_eq_some_iff.1 A1).1
 have l2:=(Array.getElem?_eq_some_iff.1 A2).1
 have aZ:Hid (∀w',Below W.heap.size W w'->w'.cell? ⟨w.heap.size,0,none⟩=some (.slice a k c)/\w'.cell? ⟨w.heap.size+1+1,0,none⟩=some (.int .i64 e)/\w'.cell? ⟨w.heap.size+1+1,1,none⟩=some (.int .i64 p)/\w'.cell? ⟨w.heap.size+1+1,2,none⟩=some (.int .i64 0)/\w'.cell? ⟨w.heap.size+1+1,3,none⟩=some (.int .i64 0)/\w'.cell? ⟨w.heap.size+1+1,4,none⟩=some (.int .i64 v)):=
  fun w' h=>⟨by unfold World.cell?;rw[(h.block _ l0).trans A0];rfl,gq ((h.block _ l2).trans A2)⟩
 have HA1:Hid (∀w',Below W.heap.size W w'->w'.heap[w.heap.size+1]? = some (.cells #[.int .i64 0,.int .i64 0,.int .i64 0,.int .i64 0,.int .i64 0,.int .i64 0] 272)):=fun w' h=>(h.block _ l1).trans A1
 have HA2:Hid (∀w',Below W.heap.size W w'->w'.heap[w.heap.size+1+1]? = some (.cells #[.int .i64 e,.int .i64 p,.int .i64 0,.int .i64 0,.int .i64 v] 316)):=fun w' h=>(h.block _ l2).trans A2
 have fB:Hid (∀w',Below W.heap.size W w'->Below w.heap.size w w'):=fun w' h=>ah hB0 h
 have hbr:=Below.refl W.heap.size W
 obtain⟨g0,g1,g2,g3,g4,g5⟩:=aZ.out _ hbr
 clear hv hW hB0 A0 A1 A2 l0 l1 l2 hx
 go_enter Tryz.func193,Tryz.ntmps193
 go_wp2_with fail
 rw[HW.out]
 go_region_held3 (fun w'=>w'.cell? ⟨w.heap.size,0,none⟩=some (.slice a k c)/\w'.cell? ⟨w.heap.size+1+1,0,none⟩=some (.int .i64 e)/\w'.cell? ⟨w.heap.size+1+1,1,none⟩=some (.int .i64 p)/\w'.cell? ⟨w.heap.size+1+1,2,none⟩=some (.int .i64 0)/\w'.cell? ⟨w.heap.size+1+1,3,none⟩=some (.int .i64 0)/\w'.cell? ⟨w.heap.size+1+1,4,none⟩=some (.int .i64 v))
  (first | with_reducible exact⟨g0,g1,g2,g3,g4,g5⟩|with_reducible exact aZ.out _ hbr | with_reducible exact aZ.out _ hbr.drew | with_reducible exact aZ.out _ (hbr.alloc hbr.size _))
  (first
   |(go_at_call 109;refine(HD.out _ (by first | exact hbr | exact hbr.drew)).mono ?_;rintro x w2 ⟨rfl,hb2⟩;have hbr:Below W.heap.size W w2:=(by first | exact ah hbr hb2 | exact ah hbr.drew hb2))
   |(go_at_call 249;refine(G9 _).mono ?_;rintro x w3 ⟨rfl,hb3⟩;have hbr:Below W.heap.size W w3:=(by first | exact ah hbr hb3 | exact ah hbr.drew hb3))
   |(go_at_call 180;refine(He _).mono ?_;rintro x w4 ⟨rfl,hb4⟩;have hbr:Below W.heap.size W w4:=(by first | exact ah hbr hb4 | exact ah hbr.drew hb4))
   |(go_at_call 65;refine(hOr _ _ (xO rfl)).mono ?_;rintro x w5 ⟨rfl,hw5⟩;have hbr:Below W.heap.size W w5:=(by rw[hw5];exact hbr.alloc hbr.size _);clear hw5))
 clear g0 g1 g2 g3 g4 g5 HD He hOr HW
 obtain⟨⟨c0,c1,c2,c3,c4,c5⟩,f0,f1,f2,f3,f4,f5⟩:=CS (HA1.out _ hbr)
 have hB1:=fB.out _ hbr
 clear aZ HA1 HA2 fB G9 hbr
 go_wp2
 refine bodyPost_ret (v:= .agg #[.int .i64 q,.int .i64 0,.int .i64 0,.int .i64 0,.int .i64 0,.int .i64 0]) (by simp[results,Tryz.results193,go_sem,c0,c1,c2,c3,c4,c5]) rfl ⟨rfl, ?_⟩
 exact(((((hB1.setCell (Nat.le_succ _) _).setCell (Nat.le_succ _) _).setCell (Nat.le_succ _) _).setCell (Nat.le_succ _) _).setCell (Nat.le_succ _) _).setCell (Nat.le_succ _) _
theorem DC(u:Value)(l:Rcl)(e p v o n:Int)(w:World)(hv:Rcs w u l)(hl:Lbs l)(hx:l.length<=1099511627776)(h0:aI l=0)(h1:hdN e p v=true)(hR:lU (aB l) o n):
  Calls Tryz.prog 193 #[.agg #[u],.int .i64 e,.int .i64 p,.int .i64 v] w fun x w'=>x = .returned (hrV 0 e p (nG p o) (nD p n) v)/\Below w.heap.size w w':=by
 obtain⟨W,hW⟩:∃W,W=((w.alloc (.cells #[u] 36)).alloc lu).alloc (.cells #[.int .i64 e,.int .i64 p,.int .i64 0,.int .i64 0,.int .i64 v] 316):=⟨_,rfl⟩
 have HW:Hid _:=hW.symm
 have hB0:Below w.heap.size w W:=by rw[hW];exact(aA _ _).alloc (by simp;omega) _
 have A0:W.heap[w.heap.size]? = some (.cells #[u] 36):=by
  rw[hW];exact((aj _).block w.heap.size (by simp;omega)).trans (((aj lu).block w.heap.size (by simp)).trans (heap_alloc_new w _))
 have A1:W.heap[w.heap.size+1]? = some lu:=by
  rw[hW];exact((aj _).block (w.heap.size+1) (by simp)).trans (aU w _ _)
 have A2:W.heap[w.heap.size+1+1]? = some (.cells #[.int .i64 e,.int .i64 p,.int .i64 0,.int .i64 0,.int .i64 v] 316):=by
  rw[hW]
  have:=heap_alloc_new ((w.alloc (.cells #[u] 36)).alloc lu) (.cells #[.int .i64 e,.int .i64 p,.int .i64 0,.int .i64 0,.int .i64 v] 316)
  simpa using this
 have HD:Hid (∀w',Below W.heap.size W w'->Calls Tryz.prog 109 #[.agg #[u]] w' fun x w''=>x = .returned (.int .i64 (aI l))/\Below w'.heap.size w' w''):=fun w' h=>aY u l w' (hv.below (ah hB0 h)) hl hx
 have G9:=fun w=>zC e p 0 0 v w
 have He:=fun w=>jq e p 0 0 v w
 have hOr:=fun u w hu=>oJ (aI l) (hdC e p 0 0 v) u w hu
 rw[PD]at hOr
 rw[VZ h0 h1]at hOr
 have mP:Hid (∀w',Below W.heap.size W w'->Calls Tryz.prog 250 #[.agg #[u]] w' fun x w''=>x = .returned (trV o n)/\Below w'.heap.size w' w''):=fun w' h=>KO u l o n w' (hv.below (ah hB0 h)) hl h0 hR
 have hK:=fun w=>BP o n p w
 have hF2:=fun w=>zC e p (nG p o) (nD p n) v w
 unfold hrV
 unfold trV at mP hK
 unfold hdV at hF2
 clear hR h0 h1
 obtain⟨a,c,rfl⟩:=hv.shape
 unfold hdV at G9 He
 unfold lu at HW A1
 generalize hdC e p 0 0 v=hc at *
 generalize aI l=df at *
 generalize nG p o=ko at *
 generalize nD p n=kn at *
 clear hl
 generalize l.length=k at *
 have l0:=(Array.getElem?_eq_some_iff.1 A0).1
 have l1:=(Array.getElem?_eq_some_iff.1 A1).1
 have l2:=(Array.getElem?_eq_some_iff.1 A2).1
 have aZ:Hid (∀w',Below W.heap.size W w'->w'.cell? ⟨w.heap.size,0,none⟩=some (.slice a k c)/\w'.cell? ⟨w.heap.size+1+1,0,none⟩=some (.int .i64 e)/\w'.cell? ⟨w.heap.size+1+1,1,none⟩=some (.int .i64 p)/\w'.cell? ⟨w.heap.size+1+1,2,none⟩=some (.int .i64 0)/\w'.cell? ⟨w.heap.size+1+1,3,none⟩=some (.int .i64 0)/\w'.cell? ⟨w.heap.size+1+1,4,none⟩=some (.int .i64 v)):=
  fun w' h=>⟨by unfold World.cell?;rw[(h.block _ l0).trans A0];rfl,gq ((h.block _ l2).trans A2)⟩
 have HA1:Hid (∀w',Below W.heap.size W w'->w'.heap[w.heap.size+1]? = some (.cells #[.int .i64 0,.int .i64 0,.int .i64 0,.int .i64 0,.int .i64 0,.int .i64 0] 272)):=fun w' h=>(h.block _ l1).trans A1
 have HA2:Hid (∀w',Below W.heap.size W w'->w'.heap[w.heap.size+1+1]? = some (.cells #[.int .i64 e,.int .i64 p,.int .i64 0,.int .i64 0,.int .i64 v] 316)):=fun w' h=>(h.block _ l2).trans A2
 have fB:Hid (∀w',Below W.heap.size W w'->Below w.heap.size w w'):=fun w' h=>ah hB0 h
 have hbr:=Below.refl W.heap.size W
 obtain⟨g0,g1,g2,g3,g4,g5⟩:=aZ.out _ hbr
 clear hv hW hB0 A0 A1 A2 l0 l1 l2 hx
 go_enter Tryz.func193,Tryz.ntmps193
 go_wp2_with fail
 rw[HW.out]
 go_region_held3 (fun w'=>w'.cell? ⟨w.heap.size,0,none⟩=some (.slice a k c)/\w'.cell? ⟨w.heap.size+1+1,0,none⟩=some (.int .i64 e)/\w'.cell? ⟨w.heap.size+1+1,1,none⟩=some (.int .i64 p)/\w'.cell? ⟨w.heap.size+1+1,2,none⟩=some (.int .i64 0)/\w'.cell? ⟨w.heap.size+1+1,3,none⟩=some (.int .i64 0)/\w'.cell? ⟨w.heap.size+1+1,4,none⟩=some (.int .i64 v))
  (first | with_reducible exact⟨g0,g1,g2,g3,g4,g5⟩|with_reducible exact aZ.out _ hbr | with_reducible exact aZ.out _ hbr.drew | with_reducible exact aZ.out _ (hbr.alloc hbr.size _))
  (first
   |(go_at_call 109;refine(HD.out _ (by first | exact hbr | exact hbr.drew)).mono ?_;rintro x w2 ⟨rfl,hb2⟩;have hbr:Below W.heap.size W w2:=(by first | exact ah hbr hb2 | exact ah hbr.drew hb2))
   |(go_at_call 249;refine(G9 _).mono ?_;rintro x w3 ⟨rfl,hb3⟩;have hbr:Below W.heap.size W w3:=(by first | exact ah hbr hb3 | exact ah hbr.drew hb3))
   |(go_at_call 180;refine(He _).mono ?_;rintro x w4 ⟨rfl,hb4⟩;have hbr:Below W.heap.size W w4:=(by first | exact ah hbr hb4 | exact ah hbr.drew hb4))
   |(go_at_call 65;refine(hOr _ _ (xO rfl)).mono ?_;rintro x w5 ⟨rfl,hw5⟩;have hbr:Below W.heap.size W w5:=(by rw[hw5];exact hbr.alloc hbr.size _);clear hw5))
 clear g0 g1 g2 g3 g4 g5 HD He hOr HW
 obtain⟨g0,g1,g2,g3,g4,g5⟩:=aZ.out _ hbr
 clear aZ G9
 go_wp2_with fail
 refine(mP.out _ hbr).mono ?_
 rintro x w6 ⟨rfl,hb6⟩
 have VX:=ah hbr hb6
 clear mP hb6
 go_wp2_with fail
 refine(hK _).mono ?_
 rintro x w7 ⟨rfl,hb7⟩
 have Nl:=ah VX hb7
 have Q1:=HA1.out _ Nl
 have Q2:=HA2.out _ Nl
 have XZ:=fB.out _ Nl
 clear hK hb7 HA1 HA2 fB hbr VX Nl g0 g1 g2 g3 g4 g5
 obtain⟨⟨d0,d1,d2,d3,d4⟩,j0,j1,j2,j3,j4⟩:=aX Q2
 obtain⟨W8,TG⟩:∃W8,W8=(w7.setCell ⟨w.heap.size+1+1,2,none⟩ (.int .i64 ko)).setCell ⟨w.heap.size+1+1,3,none⟩ (.int .i64 kn):=⟨_,rfl⟩
 have XU:Hid _:=TG.symm
 have R1:W8.heap[w.heap.size+1]? = some (.cells #[.int .i64 0,.int .i64 0,.int .i64 0,.int .i64 0,.int .i64 0,.int .i64 0] 272):=by
  rw[TG];exact(heap_setCell_other _ ⟨w.heap.size+1+1,3,none⟩ (w.heap.size+1) _ (by simp)).trans ((heap_setCell_other _ ⟨w.heap.size+1+1,2,none⟩ (w.heap.size+1) _ (by simp)).trans Q1)
 have rD:Below w.heap.size w W8:=by rw[TG];exact(XZ.setCell (by show w.heap.size<=w.heap.size+1+1;omega) _).setCell (by show w.heap.size<=w.heap.size+1+1;omega) _
 have lt8:=(Array.getElem?_eq_some_iff.1 R1).1
 clear TG Q1 Q2 XZ
 go_wp2_with fail
 rw[XU.out]
 clear d0 d1 d2 d3 d4 j0 j1 j2 j3 j4 XU
 refine(hF2 _).mono ?_
 rintro x w9 ⟨rfl,LH⟩
 obtain⟨⟨c0,c1,c2,c3,c4,c5⟩,f0,f1,f2,f3,f4,f5⟩:=CS ((LH.block _ lt8).trans R1)
 have G5:=ah rD LH
 clear hF2 LH R1 rD lt8
 go_wp2
 refine bodyPost_ret (v:= .agg #[.int .i64 0,.int .i64 e,.int .i64 p,.int .i64 ko,.int .i64 kn,.int .i64 v]) (by simp[results,Tryz.results193,go_sem,c0,c1,c2,c3,c4,c5]) rfl ⟨rfl, ?_⟩
 exact(((((G5.setCell (Nat.le_succ _) _).setCell (Nat.le_succ _) _).setCell (Nat.le_succ _) _).setCell (Nat.le_succ _) _).setCell (Nat.le_succ _) _).setCell (Nat.le_succ _) _
theorem JR(l:ByteArray)(v o p:Int)(w:World):
  Calls Tryz.prog 12 #[dG l v o p] w fun e w'=>e = .returned (dG l v o p)/\Below w.heap.size w w':=by
 unfold dG
 go_enter Tryz.func12,Tryz.ntmps12
 go_wp2
 refine bodyPost_ret (v:=dG l v o p) (by simp[results,Tryz.results12,go_sem,dG]) rfl ⟨rfl, ?_⟩
 exact(aA _ _).alloc (by simp;omega) _
structure Vy(w:World)(g:Nat)(c:Int)(l:ByteArray)(v o p:Int):Prop where
 c0:w.cell? ⟨g,0,none⟩=some (.int .i64 c)
 c1:w.cell? ⟨g,1,none⟩=some (.string l)
 c2:w.cell? ⟨g,2,none⟩=some (.int .i64 v)
 c3:w.cell? ⟨g,3,none⟩=some (.int .i64 o)
 c4:w.cell? ⟨g,4,none⟩=some (.int .i64 p)
 f0:w.frozen? ⟨g,0,none⟩=false
 f1:w.frozen? ⟨g,1,none⟩=false
 f2:w.frozen? ⟨g,2,none⟩=false
 f3:w.frozen? ⟨g,3,none⟩=false
 f4:w.frozen? ⟨g,4,none⟩=false
theorem KN{W:World}{g:Nat}{c:Int}{l:ByteArray}{v o p:Int}{t:TypeId}(h:W.heap[g]? = some (.cells #[.int .i64 c,.string l,.int .i64 v,.int .i64 o,.int .i64 p] t (0,0))):Vy W g c l v o p:=by
 constructor<;>simp[World.cell?,World.frozen?,h]
theorem vw(l:ByteArray)(v o p:Int)(w:World):
  Calls Tryz.prog 169 #[dG l v o p,dG l v o p] w fun e w'=>e = .returned (.bool true)/\Below w.heap.size w w':=by
 have h1:(l.toList==l.toList)=true:=by simp
 unfold dG
 go_enter Tryz.func169,Tryz.ntmps169
 go_wp2
 go_ret
 exact⟨rfl,aA _ _⟩
structure A8(w:World)(g:Nat)(c:Int)(l:ByteArray)(v o p:Int):Prop where
 lt:g<w.heap.size
 c0:w.cell? ⟨g,0,none⟩=some (.int .i64 c)
 c1:w.cell? ⟨g,1,none⟩=some (.string l)
 c2:w.cell? ⟨g,2,none⟩=some (.int .i64 v)
 c3:w.cell? ⟨g,3,none⟩=some (.int .i64 o)
 c4:w.cell? ⟨g,4,none⟩=some (.int .i64 p)
theorem A8.new(w:World)(c:Int)(l:ByteArray)(v o p:Int)(t:TypeId):A8 (w.alloc (.cells #[.int .i64 c,.string l,.int .i64 v,.int .i64 o,.int .i64 p] t)) w.heap.size c l v o p:=by
 have h:=KN (heap_alloc_new w (.cells #[.int .i64 c,.string l,.int .i64 v,.int .i64 o,.int .i64 p] t))
 exact⟨by simp,h.c0,h.c1,h.c2,h.c3,h.c4⟩
theorem A8.below{w w':World}{g:Nat}{c:Int}{l:ByteArray}{v o p:Int}(h:A8 w g c l v o p)(hb:Below w.heap.size w w'):A8 w' g c l v o p:=
 ⟨Nat.lt_of_lt_of_le h.lt hb.size,(hb.cell (p:=⟨g,0,none⟩) h.lt).trans h.c0,(hb.cell (p:=⟨g,1,none⟩) h.lt).trans h.c1,(hb.cell (p:=⟨g,2,none⟩) h.lt).trans h.c2,(hb.cell (p:=⟨g,3,none⟩) h.lt).trans h.c3,(hb.cell (p:=⟨g,4,none⟩) h.lt).trans h.c4⟩
theorem Tryz.PU:(Tryz.prog.info? 46).map (fun i=>(i.zero,i.size,i.bytes))=some (some (.agg #[.string ⟨#[]⟩,.int .i64 0,.int .i64 0,.int .i64 0]),4,40):=by kernel_rfl
def szT(l:Rcl)(z:Int):Nat->Int
 | 0=>z - l.length
 | k+1=>szT l z k - (rAt l k).l.size
theorem lS(l:Rcl)(z:Int)(k:Nat):∀d,szT l z (k+d)<=szT l z k
 | 0=>Int.le_refl _
 | d+1=>by
  have:=lS l z k d
  show szT l z (k+d) - _<=_
  omega
def szR(l:Rcl)(z:Int):Int:=if szT l z l.length<0 then -1 else szT l z l.length
theorem C9{l:Rcl}{z:Int}{k:Nat}:szT l z k<=z:=by
 have h:=lS l z 0 k
 rw[Nat.zero_add]at h
 have:szT l z 0=z - l.length:=rfl
 omega
theorem CZ{l:Rcl}{z:Int}(hz:z<=1048576)(h:¬szR l z<0):l.length<=1048576/\Lbs l/\szR l z<=z/\szR l z=szT l z l.length:=by
 unfold szR at h ⊢
 by_cases h1:szT l z l.length<0
 ·rw[if_pos h1]at h;omega
 ·rw[if_neg h1]
  refine⟨?_, ?_,C9,rfl⟩
  ·have h2:=lS l z 0 l.length
   rw[Nat.zero_add]at h2
   have:szT l z 0=z - l.length:=rfl
   omega
  ·intro r hr
   obtain⟨j,hj,rfl⟩:=List.mem_iff_getElem.1 hr
   have h2:=lS l z (j+1) (l.length - (j+1))
   rw[show j+1+(l.length - (j+1))=l.length by omega]at h2
   have h3:szT l z (j+1)=szT l z j - (rAt l j).l.size:=rfl
   have h4:szT l z j<=z:=C9
   rw[qU hj]at h3
   omega
theorem JK(l:ByteArray)(v o p z:Int)(w:World)(hs:l.size<=maxLen)(hz:0<=z/\z<=1048576):
  Calls Tryz.prog 9 #[dG l v o p,.int .i64 z] w fun e w'=>e = .returned (.int .i64 (if z - l.size<0 then -1 else z - l.size))/\Below w.heap.size w w':=by
 unfold dG
 unfold maxLen at hs
 have h:=mQ.new w l v o p 31
 by_cases h1:z - l.size<0
 ·rw[if_pos h1]
  go_enter Tryz.func9,Tryz.ntmps9
  go_wp2
  go_ret
  exact⟨rfl,aj _⟩
 ·rw[if_neg h1]
  go_enter Tryz.func9,Tryz.ntmps9
  go_wp2
  go_ret
  exact⟨rfl,aj _⟩
def LbM(l:Rcl):Prop:=∀r∈l,r.l.size<=maxLen
theorem LbM.at{l:Rcl}(h:LbM l){j:Nat}(hj:j<l.length):(rAt l j).l.size<=maxLen:=h _ (sZ hj)
theorem D6(b off c n:Nat)(l:Rcl)(z:Int)(w:World)(HN:Hid (n=l.length))(hn:n<=1048576)(hz:0<=z/\z<=1048576)(hnz:¬z - n<0)(hb:b<w.heap.size)(hM:LbM l)(hc:∀j,j<n->fP w b (off+j*4) (rAt l j)):
  Calls Tryz.prog 97 #[.slice (some ⟨b,off,none⟩) n c,.int .i64 z] w fun e w'=>e = .returned (.int .i64 (szR l z))/\Below w.heap.size w w':=by
 have e0:szT l z 0=z - n:=by rw[HN.out];rfl
 have HZ:Hid (szR l z=if szT l z n<0 then -1 else szT l z n):=(by rw[HN.out];rfl:szR l z=if szT l z n<0 then -1 else szT l z n)
 have HM:Hid (∀k d,szT l z (k+d)<=szT l z k):=lS l z
 have HL:Hid (∀k,szT l z k<=z):=fun k=>C9
 generalize szR l z=q at *
 go_enter Tryz.func97,Tryz.ntmps97
 go_wp2
 go_loopw [1,5] (fun u i wr=>∃k:Nat,k<=n/\i = .int .i64 k/\u = .int .i64 (szT l z k)/\0<=szT l z k/\Hid (Below w.heap.size w wr)) (fun _ i _=>n - (intOf i).toNat)
 case atStart=>exact⟨0,Nat.zero_le _,rfl,by rw[e0],by omega,Below.refl _ _⟩
 case round=>
  obtain⟨k,hk,rfl,rfl,h0,hB⟩:=hrel
  by_cases hkn:k<n
  ·have hki:(k:Int)<(n:Int):=by omega
   obtain⟨d0,d1,d2,d3⟩:=(hc k hkn).below hB.out hb
   have hbr:b<wr.heap.size:=Nat.lt_of_lt_of_le hb hB.out.size
   have hS:=fun w=>JK (rAt l k).l (rAt l k).v (rAt l k).o (rAt l k).p (szT l z k) w (hM.at (by have:=HN.out;omega)) ⟨h0,by have:=HL.out k;omega⟩
   have HX:Hid (szT l z (k+1)=szT l z k - (rAt l k).l.size):=rfl
   rw[←HX.out]at hS
   have HQ:Hid (szT l z (k+1)<0->q = -1):=(fun h=>by
    have:=HM.out (k+1) (n - (k+1))
    rw[show k+1+(n - (k+1))=n by omega]at this
    rw[HZ.out,if_pos (by omega)]:szT l z (k+1)<0->q = -1)
   unfold dG at hS
   generalize (rAt l k).l=x0 at *
   generalize (rAt l k).v=x1 at *
   generalize (rAt l k).o=x2 at *
   generalize (rAt l k).p=x3 at *
   generalize hs1:szT l z (k+1)=s1 at *
   have Gh:Hid (szT l z (k+1)=s1):=hs1
   generalize szT l z k=s0 at *
   clear hc hs1 HX
   by_cases hlt:s1<0
   ·rw[if_pos hlt]at hS
    have gG:Hid (q = -1):=HQ.out hlt
    clear HQ
    go_wp2_with fail
    refine(hS _).mono ?_
    rintro e w1 ⟨rfl,hb1⟩
    have HB1:Hid (Below w.heap.size w w1):=ah hB.out hb1
    clear hS hb1
    go_wp2
    go_ret
    exact⟨aG gG.out.symm,HB1.out⟩
   ·rw[if_neg hlt]at hS
    clear HQ
    go_wp2_with fail
    refine(hS _).mono ?_
    rintro e w1 ⟨rfl,hb1⟩
    have HB1:Hid (Below w.heap.size w w1):=ah hB.out hb1
    clear hS hb1
    go_wp2
    go_roundw
    case rel=>exact⟨k+1,by omega,by go_num,by rw[Gh.out],by rw[Gh.out];omega,HB1⟩
    case measure=>simp[intOf];omega
  ·have hkn:k=n:=by omega
   subst hkn
   have gG:Hid (q=szT l z k):=(by rw[HZ.out,if_neg (by omega)]:q=szT l z k)
   generalize szT l z k=s0 at *
   clear hc
   go_wp2
   go_ret
   exact⟨aG gG.out.symm,hB.out⟩
theorem FN(v:Value)(l:Rcl)(z:Int)(w:World)(hv:Rcs w v l)(hM:LbM l)(hx:l.length<=maxLen)(hz:0<=z/\z<=1048576):
  Calls Tryz.prog 97 #[v,.int .i64 z] w fun e w'=>e = .returned (.int .i64 (szR l z))/\Below w.heap.size w w':=by
 obtain⟨a,c,rfl⟩:=hv.shape
 by_cases h:z - l.length<0
 ·have HQ:szR l z = -1:=by
   have h2:=lS l z 0 l.length
   rw[Nat.zero_add]at h2
   have:szT l z 0=z - l.length:=rfl
   unfold szR
   rw[if_pos (by omega)]
  rw[HQ]
  generalize l.length=n at *
  unfold maxLen at hx
  clear hv HQ
  go_enter Tryz.func97,Tryz.ntmps97
  go_wp2
  go_ret
  exact⟨rfl,Below.refl _ _⟩
 ·by_cases h0:0<l.length
  ·obtain⟨_,b,off,rfl,hb,hc⟩:=hv.at h0
   exact D6 b off c l.length l z w rfl (by omega) hz h hb hM hc
  ·have e1:l=[]:=List.eq_nil_of_length_eq_zero (by omega)
   subst e1
   have e2:szR [] z=z:=by unfold szR szT;simp;omega
   rw[e2]
   simp only[List.length_nil]
   have hzn:¬z<0:=by omega
   clear hv h0 hx h e2 hM
   go_enter Tryz.func97,Tryz.ntmps97
   go_wp2
   refine wp_loop_rounds 1 ?_;rw[rounds_succ]
   go_wp2
   go_ret
   exact⟨rfl,Below.refl _ _⟩
theorem rY(v:Value)(l:Rcl)(z:Int)(w:World)(hv:Rcs w v l)(hM:LbM l)(hx:l.length<=maxLen)(hz:0<=z/\z<=1048576):
  Calls Tryz.prog 42 #[.agg #[v],.int .i64 z] w fun e w'=>e = .returned (.int .i64 (szR l z))/\Below w.heap.size w w':=by
 have hS:=fun o=>FN v l z (w.alloc o) (hv.below (aj _)) hM hx hz
 obtain⟨a,c,rfl⟩:=hv.shape
 have HQ:Hid (szR l z<0->szR l z = -1):=(fun h=>by unfold szR at h ⊢;by_cases h1:szT l z l.length<0<;>simp[h1]at h ⊢ : szR l z<0->szR l z = -1)
 generalize szR l z=q at *
 generalize l.length=n at *
 clear hv hM
 by_cases hq:q<0
 ·have e:=HQ.out hq
  subst e
  clear HQ
  go_enter Tryz.func42,Tryz.ntmps42
  go_wp2_with fail
  refine(hS _).mono ?_
  rintro e w1 ⟨rfl,hb1⟩
  clear hS
  go_wp2
  go_ret
  exact⟨rfl,ak hb1⟩
 ·clear HQ
  go_enter Tryz.func42,Tryz.ntmps42
  go_wp2_with fail
  refine(hS _).mono ?_
  rintro e w1 ⟨rfl,hb1⟩
  clear hS
  go_wp2
  go_ret
  exact⟨rfl,ak hb1⟩
theorem LD(l:Rcl)(r:Rc):∀(k:Nat),k<l.length->flR (l.set k r)=((((flR l).set (k*4) (.string r.l)).set (k*4+1) (.int .i64 r.v)).set (k*4+2) (.int .i64 r.o)).set (k*4+3) (.int .i64 r.p):=by
 induction l with
 | nil=>intro k h;simp at h
 | cons x t ih=>
  intro k h
  have e:∀t:Rcl,∀x:Rc,flR (x::t) = .string x.l :: .int .i64 x.v :: .int .i64 x.o :: .int .i64 x.p::flR t:=fun t x=>rfl
  cases k with
  | zero=>simp[e]
  | succ k=>
   have h1:=ih k (by simpa using h)
   rw[aaI,e,e,h1,show(k+1)*4=k*4+1+1+1+1 by omega]
   simp
def jL(l:Rcl)(k:Nat):Rcl:=l.take k++List.replicate (l.length - k) rcZ
theorem JD(l:Rcl){k:Nat}(h:k<=l.length):(jL l k).length=l.length:=by unfold jL;rw[List.length_append,List.length_take,List.length_replicate];omega
theorem SB(l:Rcl):jL l l.length=l:=by unfold jL;simp
theorem MB(l:Rcl){k:Nat}(h:k<=l.length)(i:Nat):(jL l k)[i]? = if i<k then l[i]? else if i<l.length then some rcZ else none:=by
 unfold jL
 rw[List.getElem?_append,List.length_take,List.getElem?_take,List.getElem?_replicate]
 by_cases h1:i<k
 ·rw[if_pos (by omega),if_pos h1]
  simp[h1]
 ·rw[if_neg (by omega),if_neg h1]
  by_cases h2:i<l.length
  ·rw[if_pos h2,if_pos (by omega)]
  ·rw[if_neg h2,if_neg (by omega)]
theorem SC(l:Rcl){k:Nat}(h:k<l.length):(jL l k).set k (rAt l k)=jL l (k+1):=by
 apply List.ext_getElem?
 intro i
 rw[List.getElem?_set,MB l (by omega),MB l (by omega),JD l (by omega)]
 by_cases e:k=i
 ·subst e
  rw[if_pos rfl,if_pos h,if_pos (by omega),qU h,List.getElem?_eq_getElem h]
 ·rw[if_neg e]
  by_cases h1:i<k
  ·rw[if_pos h1,if_pos (by omega)]
  ·have h2:¬i<k+1:=by omega
   rw[if_neg h1,if_neg h2]
theorem P9(n:Nat):(madeCells #[Value.string ⟨#[]⟩,Value.int .i64 0,Value.int .i64 0,Value.int .i64 0] (n*4)).toList=flR (List.replicate n rcZ):=by
 apply List.ext_getElem?
 intro i
 by_cases hi:i<n*4
 ·have h4:=Pj (List.replicate n rcZ) (i/4) (by rw[List.length_replicate];omega)
  have hz:rAt (List.replicate n rcZ) (i/4)=rcZ:=by rw[qU (by rw[List.length_replicate];omega),List.getElem_replicate]
  rw[hz]at h4
  have hm:(madeCells #[Value.string ⟨#[]⟩,Value.int .i64 0,Value.int .i64 0,Value.int .i64 0] (n*4)).toList[i]? = some (#[Value.string ⟨#[]⟩,Value.int .i64 0,Value.int .i64 0,Value.int .i64 0][i%4]!):=by
   simp only[madeCells,Array.toList_map,List.getElem?_map]
   rw[show(Array.range (n*4)).toList[i]? = some i by simp[hi]]
   rfl
  rw[hm]
  have hd:i=i/4*4+i%4:=by omega
  rcases(by omega:i%4=0∨i%4=1∨i%4=2∨i%4=3)with h | h | h | h
  ·rw[h,Nat.add_zero]at hd
   rw[h,hd,h4.1]
   rfl
  ·rw[h]at hd
   rw[h,hd,h4.2.1]
   rfl
  ·rw[h]at hd
   rw[h,hd,h4.2.2.1]
   rfl
  ·rw[h]at hd
   rw[h,hd,h4.2.2.2]
   rfl
 ·rw[List.getElem?_eq_none (by simp[madeCells];omega),List.getElem?_eq_none (by rw[Ul,List.length_replicate];omega)]
theorem IB{w1 w:World}{n:Nat}{l:Rcl}(HN:n=l.length)(h:w1.ownsRow w.heap.size 46 4 (.slice (some ⟨w.heap.size,0,none⟩) n n) n (madeCells #[Value.string ⟨#[]⟩,Value.int .i64 0,Value.int .i64 0,Value.int .i64 0] (n*4)).toList):
  w1.ownsRow w.heap.size 46 4 (.slice (some ⟨w.heap.size,0,none⟩) n n) n (flR (jL l 0)):=by
 have e:jL l 0=List.replicate n rcZ:=by unfold jL;simp[HN]
 rw[e,←P9]
 exact h
theorem jI{w:World}{B g n cap:Nat}{e:TypeId}{xs:List Value}(h:w.ownsRow B e 4 (.slice (some ⟨g,0,none⟩) n cap) n xs){j:Nat}(hj:j<n*4):∃x,w.cell? ⟨g,j,none⟩=some x:=
 ⟨_,(h.cellAt j (by omega)).trans (List.getElem?_eq_getElem (by rw[h.1];omega))⟩
theorem D7(b off c n:Nat)(l:Rcl)(w:World)(HN:Hid (n=l.length))(hx:n<=1048576)(hb:b<w.heap.size)(hc:∀j,j<n->fP w b (off+j*4) (rAt l j)):
  Calls Tryz.prog 106 #[.slice (some ⟨b,off,none⟩) n c] w fun e w'=>e = .returned (.slice (some ⟨w.heap.size,0,none⟩) n n)/\Below w.heap.size w w'/\w'.ownsRow w.heap.size 46 4 (.slice (some ⟨w.heap.size,0,none⟩) n n) n (flR l):=by
 obtain⟨i0,hi,hz0,hz1,hz2⟩:=info_parts Tryz.PU
 go_enter Tryz.func106,Tryz.ntmps106
 go_wp2_with (at_make;refine wpList_make_full _ rfl _ _ 34 rfl w.heap.size 46 i0 (.agg #[.string ⟨#[]⟩,.int .i64 0,.int .i64 0,.int .i64 0]) 4 Tryz.underlying34 hi hz0 hz1 _ _ _ _ n rfl rfl rfl rfl (by rw[hz2];omega) (by unfold maxLen;omega) (Nat.le_refl _) ?_)
 intro w1 hown1 hg1
 have cZ:=IB HN.out hown1
 have hB1:Below w.heap.size w w1:=(Below.refl _ _).grown hg1 (Nat.le_refl _) (fun k hk=>by cases hk)
 clear hown1 hg1
 go_wp2
 go_loopw [4] (fun i wr=>∃k:Nat,k<=n/\i = .int .i64 k/\Below w.heap.size w wr/\w.heap.size<wr.heap.size/\wr.ownsRow w.heap.size 46 4 (.slice (some ⟨w.heap.size,0,none⟩) n n) n (flR (jL l k))) (fun i _=>n - (intOf i).toNat)
 case atStart=>exact⟨0,Nat.zero_le _,rfl,hB1,(cZ.lt _ rfl).2,cZ⟩
 case round=>
  obtain⟨k,hk,rfl,hB,hsz,ho⟩:=hrel
  by_cases hkn:k<n
  ·have hki:(k:Int)<(n:Int):=by omega
   obtain⟨d0,d1,d2,d3⟩:=(hc k hkn).below hB hb
   have hbr:b<wr.heap.size:=Nat.lt_of_lt_of_le hb hB.size
   have hlk:k<l.length:=by have:=HN.out;omega
   have hts:((((flR (jL l k)).set (k*4) (.string (rAt l k).l)).set (k*4+1) (.int .i64 (rAt l k).v)).set (k*4+2) (.int .i64 (rAt l k).o)).set (k*4+3) (.int .i64 (rAt l k).p)=flR (jL l (k+1)):=by
    rw[←LD _ _ k (by rw[JD l (by omega)];exact hlk),SC l hlk]
   have hT:=fun w=>JR (rAt l k).l (rAt l k).v (rAt l k).o (rAt l k).p w
   unfold dG at hT
   generalize (rAt l k).l=x0 at *
   generalize (rAt l k).v=x1 at *
   generalize (rAt l k).o=x2 at *
   generalize (rAt l k).p=x3 at *
   have HT:Hid (((((flR (jL l k)).set (k*4) (.string x0)).set (k*4+1) (.int .i64 x1)).set (k*4+2) (.int .i64 x2)).set (k*4+3) (.int .i64 x3)=flR (jL l (k+1))):=hts
   have HB:Hid (Below w.heap.size w wr):=hB
   have HO:Hid (wr.ownsRow w.heap.size 46 4 (.slice (some ⟨w.heap.size,0,none⟩) n n) n (flR (jL l k))):=ho
   clear hc hts cZ hB1 ho hB
   go_wp2_with fail
   refine(hT _).mono ?_
   rintro e w2 ⟨rfl,hb2⟩
   have ho2:=own_below HO.out hb2
   have f0:=ho2.frozenAt (k*4)
   have f1:=ho2.frozenAt (k*4+1)
   have f2:=ho2.frozenAt (k*4+2)
   have f3:=ho2.frozenAt (k*4+3)
   obtain⟨z0,g0⟩:=jI ho2 (j:=k*4) (by omega)
   obtain⟨z1,g1⟩:=jI ho2 (j:=k*4+1) (by omega)
   obtain⟨z2,g2⟩:=jI ho2 (j:=k*4+2) (by omega)
   obtain⟨z3,g3⟩:=jI ho2 (j:=k*4+3) (by omega)
   have s1:=(ho2.stored (k*4) (.string x0)).1
   have s2:=(s1.stored (k*4+1) (.int .i64 x1)).1
   have s3:=(s2.stored (k*4+2) (.int .i64 x2)).1
   have s4:=(s3.stored (k*4+3) (.int .i64 x3)).1
   rw[HT.out]at s4
   have hB2:Below w.heap.size w ((((w2.setCell ⟨w.heap.size,k*4,none⟩ (.string x0)).setCell ⟨w.heap.size,k*4+1,none⟩ (.int .i64 x1)).setCell ⟨w.heap.size,k*4+2,none⟩ (.int .i64 x2)).setCell ⟨w.heap.size,k*4+3,none⟩ (.int .i64 x3)):=((((ah HB.out hb2).setCell (Nat.le_refl _) _).setCell (Nat.le_refl _) _).setCell (Nat.le_refl _) _).setCell (Nat.le_refl _) _
   have hsz2:w.heap.size<w2.heap.size:=by have:=hb2.size;omega
   have HB2:Hid (Below w.heap.size w ((((w2.setCell ⟨w.heap.size,k*4,none⟩ (.string x0)).setCell ⟨w.heap.size,k*4+1,none⟩ (.int .i64 x1)).setCell ⟨w.heap.size,k*4+2,none⟩ (.int .i64 x2)).setCell ⟨w.heap.size,k*4+3,none⟩ (.int .i64 x3))):=hB2
   have HS2:Hid (((((w2.setCell ⟨w.heap.size,k*4,none⟩ (.string x0)).setCell ⟨w.heap.size,k*4+1,none⟩ (.int .i64 x1)).setCell ⟨w.heap.size,k*4+2,none⟩ (.int .i64 x2)).setCell ⟨w.heap.size,k*4+3,none⟩ (.int .i64 x3)).ownsRow w.heap.size 46 4 (.slice (some ⟨w.heap.size,0,none⟩) n n) n (flR (jL l (k+1)))):=s4
   clear ho2 s1 s2 s3 s4 hB2 hb2 hT
   go_wp2
   go_roundw
   case rel=>exact⟨k+1,by omega,by go_num,HB2.out,by simp;omega,HS2.out⟩
   case measure=>simp[intOf];omega
  ·have hkn:k=n:=by omega
   subst hkn
   have e1:jL l k=l:=by rw[HN.out];exact SB _
   rw[e1]at ho
   go_wp2
   go_ret
   exact⟨rfl,hB,ho⟩
theorem FP(v:Value)(l:Rcl)(w:World)(hv:Rcs w v l)(hx:l.length<=1048576):
  Calls Tryz.prog 106 #[v] w fun e w'=>∃a c,e = .returned (.slice a l.length c)/\Below w.heap.size w w'/\w'.ownsRow w.heap.size 46 4 (.slice a l.length c) l.length (flR l):=by
 obtain⟨a,c,rfl⟩:=hv.shape
 by_cases h0:0<l.length
 ·obtain⟨_,b,off,rfl,hb,hc⟩:=hv.at h0
  refine(D7 b off c l.length l w rfl hx hb hc).mono ?_
  rintro e w' ⟨rfl,hB,ho⟩
  exact⟨_,_,rfl,hB,ho⟩
 ·have e1:l=[]:=List.eq_nil_of_length_eq_zero (by omega)
  subst e1
  obtain⟨i0,hi,hz0,hz1,hz2⟩:=info_parts Tryz.PU
  simp only[List.length_nil]at *
  clear hv h0
  go_enter Tryz.func106,Tryz.ntmps106
  go_wp2_with (at_make;refine wpList_make_full _ rfl _ _ 34 rfl w.heap.size 46 i0 (.agg #[.string ⟨#[]⟩,.int .i64 0,.int .i64 0,.int .i64 0]) 4 Tryz.underlying34 hi hz0 hz1 _ _ _ _ 0 rfl rfl rfl rfl (by rw[hz2];omega) (by unfold maxLen;omega) (Nat.le_refl _) ?_)
  intro w1 hown1 hg1
  have hB1:Below w.heap.size w w1:=(Below.refl _ _).grown hg1 (Nat.le_refl _) (fun k hk=>by cases hk)
  have cZ:=IB (l:=[]) rfl hown1
  clear hown1 hg1
  go_wp2
  refine wp_loop_rounds 1 ?_;rw[rounds_succ]
  go_wp2
  go_ret
  exact⟨_,_,rfl,hB1,cZ⟩
theorem rZ(v:Value)(l:Rcl)(w:World)(hv:Rcs w v l)(hx:l.length<=1048576):
  Calls Tryz.prog 48 #[.agg #[v]] w fun e w'=>∃a c,e = .returned (.agg #[.slice a l.length c])/\Below w.heap.size w w'/\w'.ownsRow w.heap.size 46 4 (.slice a l.length c) l.length (flR l):=by
 obtain⟨a,c,rfl⟩:=hv.shape
 obtain⟨W,hW⟩:∃W,W=((w.alloc (.cells #[.slice a l.length c] 24)).alloc (.cells #[.slice none 0 0] 36)).alloc (.cells #[.slice none 0 0] 36):=⟨_,rfl⟩
 have HW:Hid _:=hW.symm
 have hB:Below w.heap.size w W:=by rw[hW];exact((aj _).alloc (aj _).size _).alloc ((aj _).alloc (aj _).size _).size _
 have HH:Hid (W.heap[w.heap.size+1]? = some (.cells #[.slice none 0 0] 36)/\W.heap[w.heap.size+1+1]? = some (.cells #[.slice none 0 0] 36)):=(by
  rw[hW]
  have h1:=heap_alloc_new (w.alloc (.cells #[.slice a l.length c] 24)) (.cells #[.slice none 0 0] 36)
  have h2:=heap_alloc_new ((w.alloc (.cells #[.slice a l.length c] 24)).alloc (.cells #[.slice none 0 0] 36)) (.cells #[.slice none 0 0] 36)
  simp only[World.size_alloc]at h1 h2
  exact⟨((aj _).block (w.heap.size+1) (by simp)).trans h1,h2⟩:_/\_)
 have hT:=FP _ l W (hv.below hB) hx
 have Yf:w.heap.size+1+1<W.heap.size:=(Array.getElem?_eq_some_iff.1 HH.out.2).1
 generalize l.length=n at *
 clear hW hv
 go_enter Tryz.func48,Tryz.ntmps48
 go_wp2_with fail
 rw[HW.out]
 refine hT.mono ?_
 rintro e w1 ⟨a1,c1,rfl,hb1,o1⟩
 have HO:Hid (w1.ownsRow W.heap.size 46 4 (.slice a1 n c1) n (flR l)):=o1
 have q1:=(hb1.block (w.heap.size+1) (by omega)).trans HH.out.1
 have q2:=(hb1.block (w.heap.size+1+1) Yf).trans HH.out.2
 have k1:w1.cell? ⟨w.heap.size+1,0,none⟩=some (.slice none 0 0):=by unfold World.cell?;rw[q1];rfl
 have k2:w1.cell? ⟨w.heap.size+1+1,0,none⟩=some (.slice none 0 0):=by unfold World.cell?;rw[q2];rfl
 have f1:w1.frozen? ⟨w.heap.size+1,0,none⟩=false:=by unfold World.frozen?;rw[q1];rfl
 have f2:w1.frozen? ⟨w.heap.size+1+1,0,none⟩=false:=by unfold World.frozen?;rw[q2];rfl
 have HB1:Hid (Below w.heap.size w w1):=ah hB hb1
 have hz1:w.heap.size+1+1<w1.heap.size:=Nat.lt_of_lt_of_le Yf hb1.size
 clear hT hb1 o1 q1 q2
 go_wp2
 refine bodyPost_ret (v:= .agg #[.slice a1 n c1]) (by simp[results,Tryz.results48,go_sem, *]) rfl ⟨a1,c1,rfl,(HB1.out.setCell (by show w.heap.size<=w.heap.size+1+1;omega) _).setCell (by show w.heap.size<=w.heap.size+1;omega) _, ?_⟩
 exact aS (ownsRow_setCell_below (ownsRow_setCell_below HO.out (by show w.heap.size+1+1<W.heap.size;omega) _) (by show w.heap.size+1<W.heap.size;omega) _) hB.size
theorem Qi{w:World}{g:Nat}{x:Value}{t:TypeId}(h:w.heap[g]? = some (.cells #[x] t)):w.cell? ⟨g,0,none⟩=some x:=by unfold World.cell?;rw[h];rfl
theorem Dq(b off c b' off' c' n:Nat)(l:Rcl)(w:World)(hx:n<=1048576)(hb:b<w.heap.size)(hb':b'<w.heap.size)(hc:∀j,j<n->fP w b (off+j*4) (rAt l j))(hc':∀j,j<n->fP w b' (off'+j*4) (rAt l j)):
  Calls Tryz.prog 129 #[.slice (some ⟨b,off,none⟩) n c,.slice (some ⟨b',off',none⟩) n c'] w fun e w'=>e = .returned (.bool true)/\Below w.heap.size w w':=by
 have hnn:=dA
 go_enter Tryz.func129,Tryz.ntmps129
 go_wp2
 go_loopw [5] (fun i wr=>∃k:Nat,k<=n/\i = .int .i64 k/\Hid (Below w.heap.size w wr)) (fun i _=>n - (intOf i).toNat)
 case atStart=>exact⟨0,Nat.zero_le _,rfl,Below.refl _ _⟩
 case round=>
  obtain⟨k,hk,rfl,hB⟩:=hrel
  by_cases hkn:k<n
  ·have hki:(k:Int)<(n:Int):=by omega
   obtain⟨d0,d1,d2,d3⟩:=(hc k hkn).below hB.out hb
   obtain⟨d0',d1',Ej,O5⟩:=(hc' k hkn).below hB.out hb'
   have hE:=fun w=>vw (rAt l k).l (rAt l k).v (rAt l k).o (rAt l k).p w
   unfold dG at hE
   generalize (rAt l k).l=x0 at *
   generalize (rAt l k).v=x1 at *
   generalize (rAt l k).o=x2 at *
   generalize (rAt l k).p=x3 at *
   have q0:=After.cell d0
   have q1:=After.cell d1
   have q2:=After.cell d2
   have q3:=After.cell d3
   have p0:=After.cell d0'
   have p1:=After.cell d1'
   have p2:=After.cell Ej
   have p3:=After.cell O5
   have hne:=After.ne wr
   clear hc hc' d0 d1 d2 d3 d0' d1' Ej O5
   go_wp2_with fail
   refine ay (by kernel_rfl) (by kernel_rfl) ?_
   repeat(first | go_big_quiet_skip |(go_big_quiet_want;go_big_quiet_op;first | go_big_quiet_on | go_big_quiet_call (first |(go_at_call 169;refine(hE _).mono ?_;rintro e wq ⟨rfl,hbq⟩;exact⟨rfl,bP (ah (After.b _) hbq)⟩))))
   refine wpQuiet_nil ?_
   rintro _ ⟨n6,rfl⟩
   have iE:Hid (Below w.heap.size w n6.w):=ah hB.out n6.b
   generalize n6.w=w6 at *
   clear hne q0 q1 q2 q3 p0 p1 p2 p3 n6 hE
   go_wp2
   go_roundw
   case rel=>exact⟨k+1,by omega,by go_num,iE⟩
   case measure=>simp[intOf];omega
  ·have hkn:k=n:=by omega
   subst hkn
   clear hc hc'
   go_wp2
   go_ret
   exact⟨rfl,hB.out⟩
theorem Dt(v u:Value)(l:Rcl)(w:World)(hv:Rcs w v l)(hu:Rcs w u l)(hx:l.length<=1048576):
  Calls Tryz.prog 129 #[v,u] w fun e w'=>e = .returned (.bool true)/\Below w.heap.size w w':=by
 obtain⟨a,c,rfl⟩:=hv.shape
 obtain⟨a',c',rfl⟩:=hu.shape
 by_cases h0:0<l.length
 ·obtain⟨_,b,off,rfl,hb,hc⟩:=hv.at h0
  obtain⟨_,b',off',rfl,hb',hc'⟩:=hu.at h0
  exact Dq b off c b' off' c' l.length l w hx hb hb' hc hc'
 ·have e1:l=[]:=List.eq_nil_of_length_eq_zero (by omega)
  subst e1
  simp only[List.length_nil]at *
  clear hv hu h0
  go_enter Tryz.func129,Tryz.ntmps129
  go_wp2
  refine wp_loop_rounds 1 ?_;rw[rounds_succ]
  go_wp2
  go_ret
  exact⟨rfl,Below.refl _ _⟩
theorem qB(v u:Value)(l:Rcl)(w:World)(hv:Rcs w v l)(hu:Rcs w u l)(hx:l.length<=1048576):
  Calls Tryz.prog 55 #[.agg #[v],.agg #[u]] w fun e w'=>e = .returned (.bool true)/\Below w.heap.size w w':=by
 have hE:=fun o o'=>Dt v u l ((w.alloc o).alloc o') (hv.below (aA _ _)) (hu.below (aA _ _)) hx
 obtain⟨a,c,rfl⟩:=hv.shape
 obtain⟨a',c',rfl⟩:=hu.shape
 generalize l.length=n at *
 clear hv hu
 go_enter Tryz.func55,Tryz.ntmps55
 go_wp2_with fail
 refine(hE _ _).mono ?_
 rintro e w1 ⟨rfl,hb1⟩
 clear hE
 go_wp2
 go_ret
 exact⟨rfl,ak (ak hb1)⟩
theorem Oy(e p o n v:Int)(w:World):
  Calls Tryz.prog 91 #[hdV e p o n v] w fun x w'=>x = .returned (hdV e p o n v)/\Below w.heap.size w w':=by
 unfold hdV
 go_enter Tryz.func91,Tryz.ntmps91
 go_wp2
 refine bodyPost_ret (v:=hdV e p o n v) (by simp[results,Tryz.results91,go_sem,hdV]) rfl ⟨rfl, ?_⟩
 exact(aA _ _).alloc (by simp;omega) _
theorem J7(e p o n v:Int)(w:World):
  Calls Tryz.prog 96 #[hdV e p o n v,hdV e p o n v] w fun x w'=>x = .returned (.bool true)/\Below w.heap.size w w':=by
 have h0:=dA e
 have h1:=dA p
 have h2:=dA o
 have h3:=dA n
 have h4:=dA v
 unfold hdV
 go_enter Tryz.func96,Tryz.ntmps96
 go_wp2
 go_ret
 exact⟨rfl,aA _ _⟩
theorem Tryz.PO:(Tryz.prog.info? 136).map (fun i=>(i.zero,i.size,i.bytes))=some (some (.agg #[.int .i64 0,.int .i64 0,.int .i64 0,.int .i64 0,.int .i64 0]),5,40):=by kernel_rfl
theorem LC(l:Hdl)(r:Hd):∀(k:Nat),k<l.length->flH (l.set k r)=(((((flH l).set (k*5) (.int .i64 r.e)).set (k*5+1) (.int .i64 r.p)).set (k*5+2) (.int .i64 r.o)).set (k*5+3) (.int .i64 r.n)).set (k*5+4) (.int .i64 r.v):=by
 induction l with
 | nil=>intro k h;simp at h
 | cons x t ih=>
  intro k h
  have e:∀t:Hdl,∀x:Hd,flH (x::t) = .int .i64 x.e :: .int .i64 x.p :: .int .i64 x.o :: .int .i64 x.n :: .int .i64 x.v::flH t:=fun t x=>rfl
  cases k with
  | zero=>simp[e]
  | succ k=>
   have h1:=ih k (by simpa using h)
   rw[aaI,e,e,h1,show(k+1)*5=k*5+1+1+1+1+1 by omega]
   simp
def hset(l:Hdl)(k:Nat):Hdl:=l.take k++List.replicate (l.length - k) hdZ
theorem Hw(l:Hdl){k:Nat}(h:k<=l.length):(hset l k).length=l.length:=by unfold hset;rw[List.length_append,List.length_take,List.length_replicate];omega
theorem Rn(l:Hdl):hset l l.length=l:=by unfold hset;simp
theorem LP(l:Hdl){k:Nat}(h:k<=l.length)(i:Nat):(hset l k)[i]? = if i<k then l[i]? else if i<l.length then some hdZ else none:=by
 unfold hset
 rw[List.getElem?_append,List.length_take,List.getElem?_take,List.getElem?_replicate]
 by_cases h1:i<k
 ·rw[if_pos (by omega),if_pos h1]
  simp[h1]
 ·rw[if_neg (by omega),if_neg h1]
  by_cases h2:i<l.length
  ·rw[if_pos h2,if_pos (by omega)]
  ·rw[if_neg h2,if_neg (by omega)]
theorem Ro(l:Hdl){k:Nat}(h:k<l.length):(hset l k).set k (hAt l k)=hset l (k+1):=by
 apply List.ext_getElem?
 intro i
 rw[List.getElem?_set,LP l (by omega),LP l (by omega),Hw l (by omega)]
 by_cases e:k=i
 ·subst e
  rw[if_pos rfl,if_pos h,if_pos (by omega),Bo h,List.getElem?_eq_getElem h]
 ·rw[if_neg e]
  by_cases h1:i<k
  ·rw[if_pos h1,if_pos (by omega)]
  ·have h2:¬i<k+1:=by omega
   rw[if_neg h1,if_neg h2]
theorem P8(n:Nat):(madeCells #[Value.int .i64 0,Value.int .i64 0,Value.int .i64 0,Value.int .i64 0,Value.int .i64 0] (n*5)).toList=flH (List.replicate n hdZ):=by
 apply List.ext_getElem?
 intro i
 by_cases hi:i<n*5
 ·have h4:=Ph (List.replicate n hdZ) (i/5) (by rw[List.length_replicate];omega)
  have hz:hAt (List.replicate n hdZ) (i/5)=hdZ:=by rw[Bo (by rw[List.length_replicate];omega),List.getElem_replicate]
  rw[hz]at h4
  have hm:(madeCells #[Value.int .i64 0,Value.int .i64 0,Value.int .i64 0,Value.int .i64 0,Value.int .i64 0] (n*5)).toList[i]? = some (#[Value.int .i64 0,Value.int .i64 0,Value.int .i64 0,Value.int .i64 0,Value.int .i64 0][i%5]!):=by
   simp only[madeCells,Array.toList_map,List.getElem?_map]
   rw[show(Array.range (n*5)).toList[i]? = some i by simp[hi]]
   rfl
  rw[hm]
  have hd:i=i/5*5+i%5:=by omega
  rcases(by omega:i%5=0∨i%5=1∨i%5=2∨i%5=3∨i%5=4)with h | h | h | h | h
  ·rw[h,Nat.add_zero]at hd
   rw[h,hd,h4.1]
   rfl
  ·rw[h]at hd
   rw[h,hd,h4.2.1]
   rfl
  ·rw[h]at hd
   rw[h,hd,h4.2.2.1]
   rfl
  ·rw[h]at hd
   rw[h,hd,h4.2.2.2.1]
   rfl
  ·rw[h]at hd
   rw[h,hd,h4.2.2.2.2]
   rfl
 ·rw[List.getElem?_eq_none (by simp[madeCells];omega),List.getElem?_eq_none (by rw[Uk,List.length_replicate];omega)]
theorem Iz{w1 w:World}{n:Nat}{l:Hdl}(HN:n=l.length)(h:w1.ownsRow w.heap.size 136 5 (.slice (some ⟨w.heap.size,0,none⟩) n n) n (madeCells #[Value.int .i64 0,Value.int .i64 0,Value.int .i64 0,Value.int .i64 0,Value.int .i64 0] (n*5)).toList):
  w1.ownsRow w.heap.size 136 5 (.slice (some ⟨w.heap.size,0,none⟩) n n) n (flH (hset l 0)):=by
 have e:hset l 0=List.replicate n hdZ:=by unfold hset;simp[HN]
 rw[e,←P8]
 exact h
theorem iI{w:World}{B g n cap:Nat}{e:TypeId}{xs:List Value}(h:w.ownsRow B e 5 (.slice (some ⟨g,0,none⟩) n cap) n xs){j:Nat}(hj:j<n*5):∃x,w.cell? ⟨g,j,none⟩=some x:=
 ⟨_,(h.cellAt j (by omega)).trans (List.getElem?_eq_getElem (by rw[h.1];omega))⟩
theorem JQ(b off c n:Nat)(l:Hdl)(w:World)(HN:Hid (n=l.length))(hx:n<=1048576)(hb:b<w.heap.size)(hc:∀j,j<n->HdS w b (off+j*5) (hAt l j)):
  Calls Tryz.prog 36 #[.slice (some ⟨b,off,none⟩) n c] w fun e w'=>e = .returned (.slice (some ⟨w.heap.size,0,none⟩) n n)/\Below w.heap.size w w'/\w'.ownsRow w.heap.size 136 5 (.slice (some ⟨w.heap.size,0,none⟩) n n) n (flH l):=by
 obtain⟨i0,hi,hz0,hz1,hz2⟩:=info_parts Tryz.PO
 go_enter Tryz.func36,Tryz.ntmps36
 go_wp2_with (at_make;refine wpList_make_full _ rfl _ _ 38 rfl w.heap.size 136 i0 (.agg #[.int .i64 0,.int .i64 0,.int .i64 0,.int .i64 0,.int .i64 0]) 5 Tryz.underlying38 hi hz0 hz1 _ _ _ _ n rfl rfl rfl rfl (by rw[hz2];omega) (by unfold maxLen;omega) (Nat.le_refl _) ?_)
 intro w1 hown1 hg1
 have cZ:=Iz HN.out hown1
 have hB1:Below w.heap.size w w1:=(Below.refl _ _).grown hg1 (Nat.le_refl _) (fun k hk=>by cases hk)
 clear hown1 hg1
 go_wp2
 go_loopw [4] (fun i wr=>∃k:Nat,k<=n/\i = .int .i64 k/\Below w.heap.size w wr/\w.heap.size<wr.heap.size/\wr.ownsRow w.heap.size 136 5 (.slice (some ⟨w.heap.size,0,none⟩) n n) n (flH (hset l k))) (fun i _=>n - (intOf i).toNat)
 case atStart=>exact⟨0,Nat.zero_le _,rfl,hB1,(cZ.lt _ rfl).2,cZ⟩
 case round=>
  obtain⟨k,hk,rfl,hB,hsz,ho⟩:=hrel
  by_cases hkn:k<n
  ·have hki:(k:Int)<(n:Int):=by omega
   obtain⟨d0,d1,d2,d3,d4⟩:=(hc k hkn).below hB hb
   have hbr:b<wr.heap.size:=Nat.lt_of_lt_of_le hb hB.size
   have hlk:k<l.length:=by have:=HN.out;omega
   have hts:(((((flH (hset l k)).set (k*5) (.int .i64 (hAt l k).e)).set (k*5+1) (.int .i64 (hAt l k).p)).set (k*5+2) (.int .i64 (hAt l k).o)).set (k*5+3) (.int .i64 (hAt l k).n)).set (k*5+4) (.int .i64 (hAt l k).v)=flH (hset l (k+1)):=by
    rw[←LC _ _ k (by rw[Hw l (by omega)];exact hlk),Ro l hlk]
   have hT:=fun w=>Oy (hAt l k).e (hAt l k).p (hAt l k).o (hAt l k).n (hAt l k).v w
   unfold hdV at hT
   generalize (hAt l k).e=x0 at *
   generalize (hAt l k).p=x1 at *
   generalize (hAt l k).o=x2 at *
   generalize (hAt l k).n=x3 at *
   generalize (hAt l k).v=x4 at *
   have HT:Hid ((((((flH (hset l k)).set (k*5) (.int .i64 x0)).set (k*5+1) (.int .i64 x1)).set (k*5+2) (.int .i64 x2)).set (k*5+3) (.int .i64 x3)).set (k*5+4) (.int .i64 x4)=flH (hset l (k+1))):=hts
   have HB:Hid (Below w.heap.size w wr):=hB
   have HO:Hid (wr.ownsRow w.heap.size 136 5 (.slice (some ⟨w.heap.size,0,none⟩) n n) n (flH (hset l k))):=ho
   clear hc hts cZ hB1 ho hB
   go_wp2_with fail
   refine(hT _).mono ?_
   rintro e w2 ⟨rfl,hb2⟩
   have ho2:=own_below HO.out hb2
   have f0:=ho2.frozenAt (k*5)
   have f1:=ho2.frozenAt (k*5+1)
   have f2:=ho2.frozenAt (k*5+2)
   have f3:=ho2.frozenAt (k*5+3)
   have f4:=ho2.frozenAt (k*5+4)
   obtain⟨z0,g0⟩:=iI ho2 (j:=k*5) (by omega)
   obtain⟨z1,g1⟩:=iI ho2 (j:=k*5+1) (by omega)
   obtain⟨z2,g2⟩:=iI ho2 (j:=k*5+2) (by omega)
   obtain⟨z3,g3⟩:=iI ho2 (j:=k*5+3) (by omega)
   obtain⟨z4,g4⟩:=iI ho2 (j:=k*5+4) (by omega)
   have s1:=(ho2.stored (k*5) (.int .i64 x0)).1
   have s2:=(s1.stored (k*5+1) (.int .i64 x1)).1
   have s3:=(s2.stored (k*5+2) (.int .i64 x2)).1
   have s4:=(s3.stored (k*5+3) (.int .i64 x3)).1
   have s5:=(s4.stored (k*5+4) (.int .i64 x4)).1
   rw[HT.out]at s5
   have hsz2:w.heap.size<w2.heap.size:=by have:=hb2.size;omega
   have HB2:Hid (Below w.heap.size w (((((w2.setCell ⟨w.heap.size,k*5,none⟩ (.int .i64 x0)).setCell ⟨w.heap.size,k*5+1,none⟩ (.int .i64 x1)).setCell ⟨w.heap.size,k*5+2,none⟩ (.int .i64 x2)).setCell ⟨w.heap.size,k*5+3,none⟩ (.int .i64 x3)).setCell ⟨w.heap.size,k*5+4,none⟩ (.int .i64 x4))):=(((((ah HB.out hb2).setCell (Nat.le_refl _) _).setCell (Nat.le_refl _) _).setCell (Nat.le_refl _) _).setCell (Nat.le_refl _) _).setCell (Nat.le_refl _) _
   have HS2:Hid ((((((w2.setCell ⟨w.heap.size,k*5,none⟩ (.int .i64 x0)).setCell ⟨w.heap.size,k*5+1,none⟩ (.int .i64 x1)).setCell ⟨w.heap.size,k*5+2,none⟩ (.int .i64 x2)).setCell ⟨w.heap.size,k*5+3,none⟩ (.int .i64 x3)).setCell ⟨w.heap.size,k*5+4,none⟩ (.int .i64 x4)).ownsRow w.heap.size 136 5 (.slice (some ⟨w.heap.size,0,none⟩) n n) n (flH (hset l (k+1)))):=s5
   clear ho2 s1 s2 s3 s4 s5 hb2 hT
   go_wp2
   go_roundw
   case rel=>exact⟨k+1,by omega,by go_num,HB2.out,by simp;omega,HS2.out⟩
   case measure=>simp[intOf];omega
  ·have hkn:k=n:=by omega
   subst hkn
   have e1:hset l k=l:=by rw[HN.out];exact Rn _
   rw[e1]at ho
   go_wp2
   go_ret
   exact⟨rfl,hB,ho⟩
theorem KQ(v:Value)(l:Hdl)(w:World)(hv:Hds w v l)(hx:l.length<=1048576):
  Calls Tryz.prog 36 #[v] w fun e w'=>∃a c,e = .returned (.slice a l.length c)/\Below w.heap.size w w'/\w'.ownsRow w.heap.size 136 5 (.slice a l.length c) l.length (flH l):=by
 obtain⟨a,c,rfl⟩:=hv.shape
 by_cases h0:0<l.length
 ·obtain⟨_,b,off,rfl,hb,hc⟩:=hv.at h0
  refine(JQ b off c l.length l w rfl hx hb hc).mono ?_
  rintro e w' ⟨rfl,hB,ho⟩
  exact⟨_,_,rfl,hB,ho⟩
 ·have e1:l=[]:=List.eq_nil_of_length_eq_zero (by omega)
  subst e1
  obtain⟨i0,hi,hz0,hz1,hz2⟩:=info_parts Tryz.PO
  simp only[List.length_nil]at *
  clear hv h0
  go_enter Tryz.func36,Tryz.ntmps36
  go_wp2_with (at_make;refine wpList_make_full _ rfl _ _ 38 rfl w.heap.size 136 i0 (.agg #[.int .i64 0,.int .i64 0,.int .i64 0,.int .i64 0,.int .i64 0]) 5 Tryz.underlying38 hi hz0 hz1 _ _ _ _ 0 rfl rfl rfl rfl (by rw[hz2];omega) (by unfold maxLen;omega) (Nat.le_refl _) ?_)
  intro w1 hown1 hg1
  have hB1:Below w.heap.size w w1:=(Below.refl _ _).grown hg1 (Nat.le_refl _) (fun k hk=>by cases hk)
  have cZ:=Iz (l:=[]) rfl hown1
  clear hown1 hg1
  go_wp2
  refine wp_loop_rounds 1 ?_;rw[rounds_succ]
  go_wp2
  go_ret
  exact⟨_,_,rfl,hB1,cZ⟩
theorem GR(b off c b' off' c' n:Nat)(l:Hdl)(w:World)(hx:n<=1048576)(hb:b<w.heap.size)(hb':b'<w.heap.size)(hc:∀j,j<n->HdS w b (off+j*5) (hAt l j))(hc':∀j,j<n->HdS w b' (off'+j*5) (hAt l j)):
  Calls Tryz.prog 40 #[.slice (some ⟨b,off,none⟩) n c,.slice (some ⟨b',off',none⟩) n c'] w fun e w'=>e = .returned (.bool true)/\Below w.heap.size w w':=by
 have hnn:=dA
 go_enter Tryz.func40,Tryz.ntmps40
 go_wp2
 go_loopw [5] (fun i wr=>∃k:Nat,k<=n/\i = .int .i64 k/\Hid (Below w.heap.size w wr)) (fun i _=>n - (intOf i).toNat)
 case atStart=>exact⟨0,Nat.zero_le _,rfl,Below.refl _ _⟩
 case round=>
  obtain⟨k,hk,rfl,hB⟩:=hrel
  by_cases hkn:k<n
  ·have hki:(k:Int)<(n:Int):=by omega
   obtain⟨d0,d1,d2,d3,d4⟩:=(hc k hkn).below hB.out hb
   obtain⟨d0',d1',Ej,O5,XW⟩:=(hc' k hkn).below hB.out hb'
   have hE:=fun w=>J7 (hAt l k).e (hAt l k).p (hAt l k).o (hAt l k).n (hAt l k).v w
   unfold hdV at hE
   generalize (hAt l k).e=x0 at *
   generalize (hAt l k).p=x1 at *
   generalize (hAt l k).o=x2 at *
   generalize (hAt l k).n=x3 at *
   generalize (hAt l k).v=x4 at *
   have q0:=After.cell d0
   have q1:=After.cell d1
   have q2:=After.cell d2
   have q3:=After.cell d3
   have q4:=After.cell d4
   have p0:=After.cell d0'
   have p1:=After.cell d1'
   have p2:=After.cell Ej
   have p3:=After.cell O5
   have p4:=After.cell XW
   have hne:=After.ne wr
   clear hc hc' d0 d1 d2 d3 d4 d0' d1' Ej O5 XW
   go_wp2_with fail
   refine ay (by kernel_rfl) (by kernel_rfl) ?_
   repeat(first | go_big_quiet_skip |(go_big_quiet_want;go_big_quiet_op;first | go_big_quiet_on | go_big_quiet_call (first |(go_at_call 96;refine(hE _).mono ?_;rintro e wq ⟨rfl,hbq⟩;exact⟨rfl,bP (ah (After.b _) hbq)⟩))))
   refine wpQuiet_nil ?_
   rintro _ ⟨n6,rfl⟩
   have iE:Hid (Below w.heap.size w n6.w):=ah hB.out n6.b
   generalize n6.w=w6 at *
   clear hne q0 q1 q2 q3 q4 p0 p1 p2 p3 p4 n6 hE
   go_wp2
   go_roundw
   case rel=>exact⟨k+1,by omega,by go_num,iE⟩
   case measure=>simp[intOf];omega
  ·have hkn:k=n:=by omega
   subst hkn
   clear hc hc'
   go_wp2
   go_ret
   exact⟨rfl,hB.out⟩
theorem GU(v u:Value)(l:Hdl)(w:World)(hv:Hds w v l)(hu:Hds w u l)(hx:l.length<=1048576):
  Calls Tryz.prog 40 #[v,u] w fun e w'=>e = .returned (.bool true)/\Below w.heap.size w w':=by
 obtain⟨a,c,rfl⟩:=hv.shape
 obtain⟨a',c',rfl⟩:=hu.shape
 by_cases h0:0<l.length
 ·obtain⟨_,b,off,rfl,hb,hc⟩:=hv.at h0
  obtain⟨_,b',off',rfl,hb',hc'⟩:=hu.at h0
  exact GR b off c b' off' c' l.length l w hx hb hb' hc hc'
 ·have e1:l=[]:=List.eq_nil_of_length_eq_zero (by omega)
  subst e1
  simp only[List.length_nil]at *
  clear hv hu h0
  go_enter Tryz.func40,Tryz.ntmps40
  go_wp2
  refine wp_loop_rounds 1 ?_;rw[rounds_succ]
  go_wp2
  go_ret
  exact⟨rfl,Below.refl _ _⟩
end U
end Go.Proofs.YtmnfokgllcdiiaaGreat
namespace Go.Proofs.YtmnfokgllcdiiaaGreat
namespace U
open Go.ChangeShapes Go.WideShapes Go.ChangeAt Go.RowKit
section
variable {H:Type} {enc:TypeId × Value->H} {P:Program} {W W':World}
theorem Ee(hl:laidOutB P=true)(hb:Below W.heap.size W W'):∀(ts:List TypeId)(vs:List Value) (ds:List (DataW H)) (ps:List MemPlace),(∀t∈ts,P.readableRec t=true/\t<P.types.size)->
  DataW.TrodAll enc P W 0 (fun _=>true) true ts vs ds ps->(∀x∈ps,x.block<W.heap.size)->DataW.TrodAll enc P W' 0 (fun b=>decide (b<W.heap.size)) true ts vs ds ps
 | [],[],[],_,_,h,_=>h
 | t::ts,v::vs,d::ds,ps,ht,h,hlt=>by
  obtain⟨p,q,h1,h2,rfl⟩:=h
  have hp:=ht t (by simp)
  exact⟨p,q,Below.trod hl hp.1 hp.2 h1 hb (fun x hx=>hlt x (by simp[hx])),Ee hl hb ts vs ds q (fun t h=>ht t (by simp[h])) h2 (fun x hx=>hlt x (by simp[hx])),rfl⟩
 | [],[],_::_,_,_,h,_=>h.elim
 | [],_::_,_,_,_,h,_=>by cases h
 | _::_,[],_,_,_,h,_=>by cases h
 | _::_,_::_,[],_,_,h,_=>h.elim
theorem EN(hl:laidOutB P=true)(hb:Below W.heap.size W W'):∀(ns:List String) (ds:List (DataW H)) (ps:List MemPlace),(∀n∈ns,∀g t,P.globalNamed n=some g->(P.globals[g]?).map (·.type)=some t->P.readableRec t=true/\t<P.types.size)->
  DataW.TrodVars enc P W (fun _=>true) ns ds ps->(∀x∈ps,x.block<W.heap.size)->DataW.TrodVars enc P W' (fun b=>decide (b<W.heap.size)) ns ds ps
 | [],[],_,_,h,_=>h
 | n::ns,d::ds,ps,ht,h,hlt=>by
  obtain⟨g,t,cs,fuel,p,q,h1,h2,h3,h4,h5,rfl⟩:=h
  have hp:=ht n (by simp) g t h1 h2
  have hg:g<W.heap.size:=by
   have h3':=h3
   simp only[World.var?,h1,Option.bind_some]at h3'
   rcases hh:W.heap[g]? with _ | o
   ·rw[hh]at h3';cases h3'
   ·exact(Array.getElem?_eq_some_iff.1 hh).1
  refine⟨g,t,cs,fuel,p,q,h1,h2,var?_below hb h1 hg h3, ?_,EN hl hb ns ds q (fun m hm=>ht m (by simp[hm])) h5 (fun x hx=>hlt x (by simp[hx])),rfl⟩
  exact DataW.trod_stays (kids_book hl hp.1) (book_sized hp.1) (fun h=>by cases h) ⟨hp.2,book_self t⟩ h4 (fun x hx=>hb.same (hlt x (by simp[hx]))) (fun x hx=>by simpa using hlt x (by simp[hx]))
 | [],_::_,_,_,h,_=>h.elim
 | _::_,[],_,_,h,_=>h.elim
theorem RF{f:Func}{s:ChangeSpec}{apart:Bool}{args:Array Value}{ds gs:List (DataW H)}{before:List MemPlace}{tb:TypeId}
  (hW:DataW.Whole enc P f.params.toList s.vars apart W args.toList ds gs before) (hb:Below W.heap.size W W') (hl:laidOutB P=true)
  (ht:∀t∈f.params.toList,P.readableRec t=true/\t<P.types.size)
  (hv:∀n∈s.vars,∀g t,P.globalNamed n=some g->(P.globals[g]?).map (·.type)=some t->P.readableRec t=true/\t<P.types.size)
  (hr:f.resultTypes = #[tb]) (htb:P.underlying tb=some .bool)
  (hf1:(s.fn H (ds++gs)).results=[.lit (.bool true)]) (hf2:(s.fn H (ds++gs)).args=ds) (hf3:(s.fn H (ds++gs)).vars=gs) :
  s.post enc P f apart true false false W args (.bool true) W':=by
 have hlt:=hW.lt
 have hW2:=hW
 obtain⟨p,q,hA,hV,rfl,_,_⟩:=hW
 refine⟨ds,gs,p++q,[],p,q,hW2, ?_, ?_, ?_,hb.frame _,fun h=>by cases h⟩
 ·rw[hf1,hr]
  exact trodAll_cons_mk (shut_bool htb _) trodAll_mk0
 ·rw[hf2]
  exact Ee hl hb _ _ _ _ ht hA (fun x hx=>hlt x (by simp[hx]))
 ·rw[hf3]
  exact EN hl hb _ _ _ hv hV (fun x hx=>hlt x (by simp[hx]))
end
open Go.ChangeShapes Go.WideShapes Go.ChangeAt Go.RowKit
theorem Qq{H:Type}{enc:TypeId × Value->H}{P:Program}{W:World}{t e:TypeId}{f0 f1 f2 f3:Field}{v:Value}{fuel:Nat}{x:DataW H × List MemPlace}(ht:P.underlying t=some (.slice e))(he:P.underlying e=some (.struct #[f0,f1,f2,f3]))
  (ce:P.cellsOf e=4) (hone:Go.Deep.oneCellFields P #[f0,f1,f2,f3]=true) (i0:P.underlying f0.type=some .string) (i1:P.underlying f1.type=some (.int .i64)) (i2:P.underlying f2.type=some (.int .i64)) (i3:P.underlying f3.type=some (.int .i64))
  (hf:DataW.trod enc P W 0 (fun _=>true) true fuel t [v]=some x):∃l,Rcs W v l/\l.length<=maxLen/\LbM l:=by
 rcases Go.Deep.open_slice ht hf with⟨hcs,hx⟩ |⟨a,len,cap,m,n,D,Pl,hcs,hb,hl,hm,hmm,hx,hcell⟩
 ·have e1:v = .slice none 0 0:=by simpa using hcs
  subst e1
  exact⟨[],Rcs.nil _ _ _,by simp,fun r hr=>by cases hr⟩
 ·have e1:v = .slice (some a) len cap:=by simpa using hcs
  subst e1
  rw[if_pos rfl]at hmm
  subst hmm
  by_cases h0:len=0
  ·subst h0
   exact⟨[],Rcs.nil _ _ _,by simp,fun r hr=>by cases hr⟩
  ·have each:∀i,i<len->∃r:Rc,W.cell? (a.add (i*4))=some (.string r.l)/\W.cell? (a.add (i*4+1))=some (.int .i64 r.v)/\W.cell? (a.add (i*4+2))=some (.int .i64 r.o)/\W.cell? (a.add (i*4+3))=some (.int .i64 r.p)/\r.l.size<=maxLen:=by
    intro i hi
    obtain⟨cs',h1,h2⟩:=hcell i (by omega)
    rw[ce]at h1
    obtain⟨_,hlen,hc⟩:=World.cells?_some h1
    obtain⟨y0,y1,y2,y3,k,-,-,t0,t1,t2,t3⟩:=Joins.trod_struct4 he h2
    obtain⟨o0,k0⟩:=Go.Deep.hone_of hone 0 f0 rfl
    obtain⟨o1,k1⟩:=Go.Deep.hone_of hone 1 f1 rfl
    obtain⟨o2,k2⟩:=Go.Deep.hone_of hone 2 f2 rfl
    obtain⟨o3,k3⟩:=Go.Deep.hone_of hone 3 f3 rfl
    match cs',hlen with
    | [v0,v1,v2,v3],_=>
     have g0:DataW.trod enc P W 0 (fun _=>true) true k f0.type [v0]=some y0:=by simpa [o0,k0]using t0
     have g1:DataW.trod enc P W 0 (fun _=>true) true k f1.type [v1]=some y1:=by simpa [o1,k1]using t1
     have g2:DataW.trod enc P W 0 (fun _=>true) true k f2.type [v2]=some y2:=by simpa [o2,k2]using t2
     have g3:DataW.trod enc P W 0 (fun _=>true) true k f3.type [v3]=some y3:=by simpa [o3,k3]using t3
     obtain⟨s,hs0,-,hs⟩:=DataW.trod_string i0 g0
     obtain⟨n1,hn1,-,-⟩:=DataW.trod_int i1 g1
     obtain⟨n2,hn2,-,-⟩:=DataW.trod_int i2 g2
     obtain⟨n3,hn3,-,-⟩:=DataW.trod_int i3 g3
     have e0:=hc 0 (by omega)
     have e1:=hc 1 (by omega)
     have e2:=hc 2 (by omega)
     have e3:=hc 3 (by omega)
     rw[Go.Deep.add_add]at e0 e1 e2 e3
     simp at hs0 hn1 hn2 hn3
     subst hs0 hn1 hn2 hn3
     exact⟨⟨s,n1,n2,n3⟩,by simpa using e0,by simpa using e1,by simpa using e2,by simpa using e3,hs⟩
   obtain⟨b,off,spot⟩:=a
   have hspot:spot=none:=by
    obtain⟨r,h1,-⟩:=each 0 (by omega)
    simpa [Addr.add]using World.cell?_spot h1
   subst hspot
   have ru:∀i,i<len->∃r:Rc,fP W b (off+i*4) r/\r.l.size<=maxLen:=fun i hi=>by
    obtain⟨r,h⟩:=each i hi
    simp only[add_plain]at h
    exact⟨r,⟨h.1,by rw[Nat.add_assoc];exact h.2.1,by rw[Nat.add_assoc];exact h.2.2.1,by rw[Nat.add_assoc];exact h.2.2.2.1⟩,h.2.2.2.2⟩
   obtain⟨q,hq⟩:∃q:Nat->Rc,∀i,i<len->fP W b (off+i*4) (q i)/\(q i).l.size<=maxLen:=by
    refine⟨fun i=>if h:i<len then Classical.choose (ru i h)else rcZ,fun i hi=> ?_⟩
    show fP W b (off+i*4) (if h:i<len then Classical.choose (ru i h)else rcZ)/\(if h:i<len then Classical.choose (ru i h)else rcZ).l.size<=maxLen
    rw[dif_pos hi]
    exact Classical.choose_spec (ru i hi)
   have hbb:b<W.heap.size:=(hq 0 (by omega)).1.lt
   refine⟨(List.range len).map q,Or.inr ⟨b,off,_,by simp;rfl,hbb,fun j hj=> ?_⟩,by simp;omega,fun r hr=> ?_⟩
   ·have hj':j<len:=by simpa using hj
    have e2:rAt ((List.range len).map q) j=q j:=by rw[qU hj];simp
    rw[e2]
    exact(hq j hj').1
   ·obtain⟨i,hi,rfl⟩:=List.mem_map.1 hr
    exact(hq i (List.mem_range.1 hi)).2
open Go.ChangeShapes Go.WideShapes Go.ChangeAt Go.RowKit
theorem FQ{H:Type}{enc:TypeId × Value->H}{P:Program}{w:World}{t:TypeId}{f0 f1 f2 f3 f4:Field}{fuel:Nat}{cs:List Value}{x:DataW H × List MemPlace}(ht:P.underlying t=some (.struct #[f0,f1,f2,f3,f4]))(h:DataW.trod enc P w 0 (fun _=>true) true fuel t cs=some x):
  ∃y0 y1 y2 y3 y4 n,DataW.trod enc P w 0 (fun _=>true) true n f0.type ((cs.drop f0.offset).take (P.cellsOf f0.type))=some y0/\DataW.trod enc P w 0 (fun _=>true) true n f1.type ((cs.drop f1.offset).take (P.cellsOf f1.type))=some y1/\
   DataW.trod enc P w 0 (fun _=>true) true n f2.type ((cs.drop f2.offset).take (P.cellsOf f2.type))=some y2/\DataW.trod enc P w 0 (fun _=>true) true n f3.type ((cs.drop f3.offset).take (P.cellsOf f3.type))=some y3/\DataW.trod enc P w 0 (fun _=>true) true n f4.type ((cs.drop f4.offset).take (P.cellsOf f4.type))=some y4:=by
 obtain⟨xs,n,_,rfl,hl,hlen,hf⟩:=DataW.trod_struct ht h
 match xs,hlen with
 | [y0,y1,y2,y3,y4],_=>exact⟨y0,y1,y2,y3,y4,n,by simpa using hf 0 f0 rfl,by simpa using hf 1 f1 rfl,by simpa using hf 2 f2 rfl,by simpa using hf 3 f3 rfl,by simpa using hf 4 f4 rfl⟩
theorem Ri{H:Type}{enc:TypeId × Value->H}{W:World}{n:Nat}{c0 c1 c2 c3 c4:Value}{y:DataW H × List MemPlace}(hf:DataW.trod enc Tryz.prog W 0 (fun _=>true) true n 178 [c0,c1,c2,c3,c4]=some y):
  ∃r:Hd,c0 = .int .i64 r.e/\c1 = .int .i64 r.p/\c2 = .int .i64 r.o/\c3 = .int .i64 r.n/\c4 = .int .i64 r.v:=by
 obtain⟨y0,y1,y2,y3,y4,n,h0,h1,h2,h3,h4⟩:=FQ Tryz.underlying178 hf
 have k1:Tryz.prog.cellsOf 2=1:=by kernel_rfl
 simp only[k1]at h0 h1 h2 h3 h4
 simp at h0 h1 h2 h3 h4
 obtain⟨a,ha,-⟩:=DataW.trod_int Tryz.underlying2 h0
 obtain⟨b,hb,-⟩:=DataW.trod_int Tryz.underlying2 h1
 obtain⟨c,hc,-⟩:=DataW.trod_int Tryz.underlying2 h2
 obtain⟨d,hd,-⟩:=DataW.trod_int Tryz.underlying2 h3
 obtain⟨e,he,-⟩:=DataW.trod_int Tryz.underlying2 h4
 exact⟨⟨a,b,c,d,e⟩,by simpa using ha,by simpa using hb,by simpa using hc,by simpa using hd,by simpa using he⟩
theorem Py{H:Type}{enc:TypeId × Value->H}{W:World}{v:Value}{fuel:Nat}{x:DataW H × List MemPlace}(hf:DataW.trod enc Tryz.prog W 0 (fun _=>true) true fuel 26 [v]=some x):∃l,Hds W v l/\l.length<=maxLen:=by
 rcases Go.Deep.open_slice Tryz.underlying26 hf with⟨hcs,hx⟩ |⟨a,len,cap,m,n,D,Pl,hcs,hb,hl,hm,hmm,hx,hcell⟩
 ·have e1:v = .slice none 0 0:=by simpa using hcs
  subst e1
  exact⟨[],Hds.nil _ _ _,by simp⟩
 ·have e1:v = .slice (some a) len cap:=by simpa using hcs
  subst e1
  rw[if_pos rfl]at hmm
  subst hmm
  by_cases h0:len=0
  ·subst h0
   exact⟨[],Hds.nil _ _ _,by simp⟩
  ·have each:∀i,i<len->∃r:Hd,W.cell? (a.add (i*5))=some (.int .i64 r.e)/\W.cell? (a.add (i*5+1))=some (.int .i64 r.p)/\W.cell? (a.add (i*5+2))=some (.int .i64 r.o)/\W.cell? (a.add (i*5+3))=some (.int .i64 r.n)/\W.cell? (a.add (i*5+4))=some (.int .i64 r.v):=by
    intro i hi
    obtain⟨cs',h1,h2⟩:=hcell i (by omega)
    have ce:Tryz.prog.cellsOf 178=5:=by kernel_rfl
    rw[ce]at h1
    obtain⟨_,hlen,hc⟩:=World.cells?_some h1
    match cs',hlen with
    | [v0,v1,v2,v3,v4],_=>
     obtain⟨r,rfl,rfl,rfl,rfl,rfl⟩:=Ri h2
     have e0:=hc 0 (by omega)
     have e1:=hc 1 (by omega)
     have e2:=hc 2 (by omega)
     have e3:=hc 3 (by omega)
     have e4:=hc 4 (by omega)
     rw[Go.Deep.add_add]at e0 e1 e2 e3 e4
     exact⟨r,by simpa using e0,by simpa using e1,by simpa using e2,by simpa using e3,by simpa using e4⟩
   obtain⟨b,off,spot⟩:=a
   have hspot:spot=none:=by
    obtain⟨r,h1,-⟩:=each 0 (by omega)
    simpa [Addr.add]using World.cell?_spot h1
   subst hspot
   have ru:∀i,i<len->∃r:Hd,HdS W b (off+i*5) r:=fun i hi=>by
    obtain⟨r,h⟩:=each i hi
    simp only[add_plain]at h
    exact⟨r,⟨h.1,by rw[Nat.add_assoc];exact h.2.1,by rw[Nat.add_assoc];exact h.2.2.1,by rw[Nat.add_assoc];exact h.2.2.2.1,by rw[Nat.add_assoc];exact h.2.2.2.2⟩⟩
   obtain⟨q,hq⟩:∃q:Nat->Hd,∀i,i<len->HdS W b (off+i*5) (q i):=by
    refine⟨fun i=>if h:i<len then Classical.choose (ru i h)else hdZ,fun i hi=> ?_⟩
    show HdS W b (off+i*5) (if h:i<len then Classical.choose (ru i h)else hdZ)
    rw[dif_pos hi]
    exact Classical.choose_spec (ru i hi)
   have hbb:b<W.heap.size:=(hq 0 (by omega)).lt
   refine⟨(List.range len).map q,Or.inr ⟨b,off,_,by simp;rfl,hbb,fun j hj=> ?_⟩,by simp;omega⟩
   have hj':j<len:=by simpa using hj
   have e2:hAt ((List.range len).map q) j=q j:=by rw[Bo hj];simp
   rw[e2]
   exact hq j hj'
open Go.ChangeShapes Go.WideShapes Go.ChangeAt Go.RowKit
theorem xW{H:Type}{enc:TypeId × Value->H}{P:Program}{W:World}{t:TypeId}{v:Value}{x:DataW H × List MemPlace}{fuel:Nat}(ht:P.underlying t=some (.int .i64))
  (h:DataW.trod enc P W 0 (fun _=>true) true fuel t [v]=some x):∃n:Int,v = .int .i64 n/\ -9223372036854775808<=n/\n<=9223372036854775807:=by
 obtain⟨n,hn,_,hw⟩:=DataW.trod_int ht h
 exact⟨n,by simpa using hn,bounds_i64 hw⟩
end U
end Go.Proofs.YtmnfokgllcdiiaaGreat
namespace Go.Proofs.YtmnfokgllcdiiaaGreat
open Go.RowKit
namespace U
def o7(d:Nat):ByteArray:=⟨#[UInt8.ofNat (48+d)]⟩
theorem Uc{d:Nat}(h:d<10):bt (o7 d) 0=((48+d:Nat):Int):=by
 rcases(by omega:d=0∨d=1∨d=2∨d=3∨d=4∨d=5∨d=6∨d=7∨d=8∨d=9)with rfl | rfl | rfl | rfl | rfl | rfl | rfl | rfl | rfl | rfl<;>rfl
def mtL:Nat->Nat->ByteArray->ByteArray
 | 0,_,out=>out
 | f+1,k,out=>if k=0 then out else mtL f (k/10) (o7 (k%10)++out)
theorem uK(f:Nat)(out:ByteArray):mtL f 0 out=out:=by cases f<;>rfl
theorem Qd:∀(f g k:Nat)(out:ByteArray),k<=f->k<=g->mtL f k out=mtL g k out
 | 0,g,k,out,h,_=>by
  have e:k=0:=by omega
  subst e
  rw[uK,uK]
 | f+1,g,k,out,h1,h2=>by
  by_cases e:k=0
  ·subst e;rw[uK,uK]
  ·obtain⟨g',rfl⟩:∃g',g=g'+1:=⟨g - 1,by omega⟩
   rw[mtL,mtL,if_neg e,if_neg e]
   exact Qd f g' (k/10) _ (by omega) (by omega)
theorem RN{k:Nat}{out:ByteArray}(h:¬k=0):mtL k k out=mtL (k/10) (k/10) (o7 (k%10)++out):=by
 obtain⟨f,hf⟩:∃f,k=f+1:=⟨k - 1,by omega⟩
 have e:mtL (f+1) k out=mtL f (k/10) (o7 (k%10)++out):=by rw[mtL,if_neg h]
 rw[←hf]at e
 rw[e]
 exact Qd _ _ _ _ (by omega) (Nat.le_refl _)
def mkT(k:Nat):ByteArray:=⟨#[109]⟩++mtL k k ⟨#[]⟩
theorem QT(w:World)(d:Nat)(h:d<10):(convert 243 9 (.slice (some ⟨w.heap.size,0,none⟩) 1 1)).run Tryz.prog (w.alloc (.cells #[.int .u8 (48+(d:Int))] 5)) = .ok (.string (o7 d)) (w.alloc (.cells #[.int .u8 (48+(d:Int))] 5)):=by
 refine vS (P:=Tryz.prog) _ 243 9 5 w.heap.size 0 1 (o7 d) Tryz.underlying243 Tryz.underlying5 Tryz.underlying9 (fun j hj=> ?_)
 have hj1:j<1:=hj
 obtain rfl:j=0:=by omega
 rw[Uc h,show((48+d:Nat):Int)=48+(d:Int) by omega]
 unfold World.cell?
 rw[heap_alloc_new]
 rfl
theorem wY(k:Nat)(w:World)(h0:0<k)(hk:k<=4398046511104):Calls Tryz.prog 202 #[.int .i64 (k:Int)] w fun e w'=>e = .returned (.string (mkT k))/\Below w.heap.size w w':=by
 obtain⟨T,hT⟩:∃T,T=mtL k k ⟨#[]⟩:=⟨_,rfl⟩
 have HT:Hid (mtL k k ⟨#[]⟩=T):=hT.symm
 unfold mkT
 rw[←hT]
 have hn:¬((k:Int)<=0):=by omega
 clear hT
 go_enter Tryz.func202,Tryz.ntmps202
 go_wp2
 go_loopw [0,3] (fun a u wr=>∃(j:Nat)(out:ByteArray),out.size+j<=k/\a = .int .i64 (j:Int)/\u = .string out/\Hid (mtL j j out=T)/\Hid (Below w.heap.size w wr)) (fun a _ _=>(intOf a).toNat)
 case atStart=>exact⟨k,⟨#[]⟩,by show 0+k<=k;omega,rfl,rfl,HT,Below.refl _ _⟩
 case round=>
  obtain⟨j,out,hj,rfl,rfl,HM,hB⟩:=hrel
  by_cases hj0:j=0
  ·subst hj0
   have e:Hid (out=T):=(by rw[←HM.out];rfl:out=T)
   have hso:¬ 9223372036854775807<(⟨#[109]⟩:ByteArray).size+out.size:=by show ¬ 9223372036854775807<1+out.size;omega
   have Z8:¬ 9223372036854775807<1+out.size:=by omega
   go_wp2
   go_ret
   exact⟨by rw[e.out];rfl,hB.out⟩
  ·have hjp:((j:Int)>0):=by omega
   have Ea:Hid (mtL (j/10) (j/10) (o7 (j%10)++out)=T):=(by rw[←RN hj0];exact HM.out:mtL (j/10) (j/10) (o7 (j%10)++out)=T)
   have hr:(j:Int).tmod 10=((j%10:Nat):Int):=by rw[Int.tmod_eq_emod_of_nonneg (by omega)];rfl
   have hq:(j:Int).tdiv 10=((j/10:Nat):Int):=by rw[Int.tdiv_eq_ediv_of_nonneg (by omega)];rfl
   have hd:=fun w=>QT w (j%10) (by omega)
   have hd10:j%10<10:=by omega
   have hq10:j/10<j:=by omega
   generalize j%10=d at *
   generalize j/10=q at *
   have hsd:(o7 d).size=1:=rfl
   have hso:¬ 9223372036854775807<(o7 d).size+out.size:=by rw[hsd];omega
   have hsz:(o7 d++out).size+q<=k:=by rw[ByteArray.size_append,hsd];omega
   have HZ:Hid ((o7 d++out).size+q<=k):=hsz
   clear hsd hsz
   go_wp2
   go_roundw
   case rel=>exact⟨q,_,HZ.out,rfl,rfl,Ea,hB.out.alloc hB.out.size _⟩
   case measure=>simp[intOf];omega
theorem Dv{w w':World}{N:Nat}(h:Below N w w')(hN:w.heap.size<=N)(row:Option Nat):w.grownBy w' row:=⟨h.os,h.tape,h.output,h.size,fun i hi _=>h.block i (Nat.lt_of_lt_of_le hi hN)⟩
def IK(k:Nat):Rc:=⟨mkT k,((k+1:Nat):Int),((k+2:Nat):Int),((k+3:Nat):Int)⟩
def mkR(k n:Nat):Rcl:=(List.range n).map fun j=>IK (k+j*4)
theorem iJ(k n:Nat):(mkR k n).length=n:=by simp[mkR]
theorem Wj(k n j:Nat)(h:j<n):rAt (mkR k n) j=IK (k+j*4):=by
 rw[qU (by rw[iJ];exact h)]
 simp[mkR]
def mkd(l:Rcl)(k0:Nat)(k:Nat):Rcl:=mkR k0 k++l.drop k
theorem UA(l:Rcl)(k0:Nat){k:Nat}(h:k<=l.length):(mkd l k0 k).length=l.length:=by unfold mkd;rw[List.length_append,iJ,List.length_drop];omega
theorem RJ(l:Rcl)(k0:Nat):mkd l k0 0=l:=by unfold mkd;simp[mkR]
theorem Uz(l:Rcl)(k0:Nat):mkd l k0 l.length=mkR k0 l.length:=by unfold mkd;simp
theorem UC(l:Rcl)(k0:Nat){k:Nat}(h:k<l.length):(mkd l k0 k).set k (IK (k0+k*4))=mkd l k0 (k+1):=by
 have h1:mkR k0 (k+1)=mkR k0 k++[IK (k0+k*4)]:=by unfold mkR;rw[List.range_succ,List.map_append];rfl
 unfold mkd
 rw[h1,List.set_append_right _ _ (by rw[iJ];exact Nat.le_refl _),iJ,Nat.sub_self,List.append_assoc]
 congr 1
 rw[List.drop_eq_getElem_cons h]
 rfl
theorem rU(B:Nat)(v:Value)(l:Rcl)(k0:Nat)(w:World)(hown:w.ownsRow B 46 4 v l.length (flR l))(hx:l.length<=1048576)(hk0:0<k0/\k0<=1099511627776):
  Calls Tryz.prog 131 #[v,.int .i64 k0] w fun e w'=>e = .returned (.int .i64 ((k0+l.length*4:Nat):Int))/\w.grownBy w' v.ownBlock/\w'.ownsRow B 46 4 v l.length (flR (mkR k0 l.length)):=by
 by_cases h0:l.length=0
 ·have e1:l=[]:=List.eq_nil_of_length_eq_zero h0
  subst e1
  obtain⟨a,c,rfl⟩:∃a c,v = .slice a 0 c:=by
   rcases hown.2 with⟨rfl,hn⟩ |⟨g,cap,cur,rfl,_⟩
   ·exact⟨none,0,rfl⟩
   ·exact⟨_,_,rfl⟩
  simp only[List.length_nil]at *
  go_enter Tryz.func131,Tryz.ntmps131
  go_wp2
  refine wp_loop_rounds 1 ?_;rw[rounds_succ]
  go_wp2
  go_ret
  exact⟨rfl,World.grownBy.refl _ _,hown⟩
 ·rcases hown.2 with⟨_,h⟩ |⟨g,cap,cur,rfl,hB,hg,_⟩
  ·exact absurd h h0
  have hgs:g<w.heap.size:=(Array.getElem?_eq_some_iff.1 hg).1
  clear hg hB
  obtain⟨n,hn⟩:∃n,n=l.length:=⟨_,rfl⟩
  have HN:Hid (n=l.length):=hn
  rw[←hn]at hown hx h0 ⊢
  have HA:Hid (mkd l k0 n=mkR k0 n):=(by rw[hn];exact Uz l k0:mkd l k0 n=mkR k0 n)
  clear hn h0
  go_enter Tryz.func131,Tryz.ntmps131
  go_wp2
  go_loopw [1,5] (fun k i wr=>∃j:Nat,j<=n/\i = .int .i64 j/\k = .int .i64 ((k0+j*4:Nat):Int)/\Hid (w.grownBy wr (some g))/\Hid (wr.ownsRow B 46 4 (.slice (some ⟨g,0,none⟩) n cap) n (flR (mkd l k0 j)))) (fun _ i _=>n - (intOf i).toNat)
  case atStart=>exact⟨0,Nat.zero_le _,rfl,by simp,World.grownBy.refl _ _,by rw[RJ];exact hown⟩
  case round=>
   obtain⟨j,hj,rfl,rfl,hgr,ho⟩:=hrel
   by_cases hjn:j<n
   ·have hji:(j:Int)<(n:Int):=by omega
    have hM:=fun w=>wY (k0+j*4) w (by omega) (by omega)
    have hts:((((flR (mkd l k0 j)).set (j*4) (.string (mkT (k0+j*4)))).set (j*4+1) (.int .i64 ((k0+j*4+1:Nat):Int))).set (j*4+2) (.int .i64 ((k0+j*4+2:Nat):Int))).set (j*4+3) (.int .i64 ((k0+j*4+3:Nat):Int))=flR (mkd l k0 (j+1)):=by
     have:=HN.out
     rw[←UC l k0 (by omega),LD _ _ j (by rw[UA l k0 (by omega)];omega)]
     rfl
    have HQ:Hid (k0+(j+1)*4=k0+j*4+4):=(by omega:k0+(j+1)*4=k0+j*4+4)
    generalize mkT (k0+j*4)=t at *
    have BD:k0+j*4<=1099515822080:=by omega
    generalize k0+j*4=q at *
    have HT:Hid (((((flR (mkd l k0 j)).set (j*4) (.string t)).set (j*4+1) (.int .i64 ((q:Int)+1))).set (j*4+2) (.int .i64 ((q:Int)+1+1))).set (j*4+3) (.int .i64 ((q:Int)+1+1+1))=flR (mkd l k0 (j+1))):=hts
    have hgw:g<wr.heap.size:=Nat.lt_of_lt_of_le hgs hgr.out.size
    clear hts hown
    go_wp2_with fail
    refine(hM _).mono ?_
    rintro e w2 ⟨rfl,hb2⟩
    have ho2:=own_below ho.out hb2
    have f0:=ho2.frozenAt (j*4)
    have f1:=ho2.frozenAt (j*4+1)
    have f2:=ho2.frozenAt (j*4+2)
    have f3:=ho2.frozenAt (j*4+3)
    obtain⟨z0,g0⟩:=jI ho2 (j:=j*4) (by omega)
    obtain⟨z1,g1⟩:=jI ho2 (j:=j*4+1) (by omega)
    obtain⟨z2,g2⟩:=jI ho2 (j:=j*4+2) (by omega)
    obtain⟨z3,g3⟩:=jI ho2 (j:=j*4+3) (by omega)
    obtain⟨s1,r1⟩:=ho2.stored (j*4) (.string t)
    obtain⟨s2,r2⟩:=s1.stored (j*4+1) (.int .i64 ((q:Int)+1))
    obtain⟨s3,r3⟩:=s2.stored (j*4+2) (.int .i64 ((q:Int)+1+1))
    obtain⟨s4,r4⟩:=s3.stored (j*4+3) (.int .i64 ((q:Int)+1+1+1))
    have s5:=bM (bM (bM (bM (bM hgr.out (Dv hb2 (Nat.le_refl _) _)) r1) r2) r3) r4
    rw[HT.out]at s4
    have Tq:Hid (((((w2.setCell ⟨g,j*4,none⟩ (.string t)).setCell ⟨g,j*4+1,none⟩ (.int .i64 ((q:Int)+1))).setCell ⟨g,j*4+2,none⟩ (.int .i64 ((q:Int)+1+1))).setCell ⟨g,j*4+3,none⟩ (.int .i64 ((q:Int)+1+1+1))).ownsRow B 46 4 (.slice (some ⟨g,0,none⟩) n cap) n (flR (mkd l k0 (j+1)))):=s4
    have Tt:Hid (w.grownBy ((((w2.setCell ⟨g,j*4,none⟩ (.string t)).setCell ⟨g,j*4+1,none⟩ (.int .i64 ((q:Int)+1))).setCell ⟨g,j*4+2,none⟩ (.int .i64 ((q:Int)+1+1))).setCell ⟨g,j*4+3,none⟩ (.int .i64 ((q:Int)+1+1+1))) (some g)):=s5
    have hg2:g<w2.heap.size:=Nat.lt_of_lt_of_le hgw hb2.size
    clear ho2 s1 s2 s3 s4 s5 r1 r2 r3 r4 hb2 hM
    go_wp2
    go_roundw
    case rel=>exact⟨j+1,by omega,by go_num,by rw[HQ.out];congr 1,Tt,Tq⟩
    case measure=>simp[intOf];omega
   ·have hjn:j=n:=by omega
    subst hjn
    rw[HA.out]at ho
    go_wp2
    go_ret
    exact⟨rfl,hgr.out,ho.out⟩
theorem rJ(v:Value)(n k0:Nat)(w:World)(hv:Rcs w v (mkR k0 n))(hx:n<=1048576)(hk0:0<k0/\k0<=1099511627776):
  Calls Tryz.prog 203 #[v,.int .i64 k0] w fun e w'=>e = .returned (.int .i64 ((k0+n*4:Nat):Int))/\Below w.heap.size w w':=by
 obtain⟨a,c,rfl⟩:=hv.shape
 by_cases h0:n=0
 ·subst h0
  simp only[iJ]
  clear hv
  go_enter Tryz.func203,Tryz.ntmps203
  go_wp2
  refine wp_loop_rounds 1 ?_;rw[rounds_succ]
  go_wp2
  go_ret
  exact⟨rfl,Below.refl _ _⟩
 ·obtain⟨_,b,off,rfl,hb,hc⟩:=hv.at (by rw[iJ];omega)
  have HC:Hid (∀j,j<n->fP w b (off+j*4) (IK (k0+j*4))):=fun j hj=>by
   have h1:=hc j (by rw[iJ];exact hj)
   rw[Wj _ _ _ hj]at h1
   exact h1
  rw[iJ]
  clear hv hc h0
  go_enter Tryz.func203,Tryz.ntmps203
  go_wp2
  go_loopw [1,5] (fun k i wr=>∃j:Nat,j<=n/\i = .int .i64 j/\k = .int .i64 ((k0+j*4:Nat):Int)/\Hid (Below w.heap.size w wr)) (fun _ i _=>n - (intOf i).toNat)
  case atStart=>exact⟨0,Nat.zero_le _,rfl,by simp,Below.refl _ _⟩
  case round=>
   obtain⟨j,hj,rfl,rfl,hB⟩:=hrel
   by_cases hjn:j<n
   ·have hji:(j:Int)<(n:Int):=by omega
    have hr:=HC.out j hjn
    have hM:=fun w=>wY (k0+j*4) w (by omega) (by omega)
    have HR:Hid (∀w',Below w.heap.size w w'->w'.cell? ⟨b,off+j*4,none⟩=some (.string (mkT (k0+j*4)))/\w'.cell? ⟨b,off+j*4+1,none⟩=some (.int .i64 (((k0+j*4:Nat):Int)+1))/\w'.cell? ⟨b,off+j*4+2,none⟩=some (.int .i64 (((k0+j*4:Nat):Int)+1+1))/\w'.cell? ⟨b,off+j*4+3,none⟩=some (.int .i64 (((k0+j*4:Nat):Int)+1+1+1))):=fun w' h=>⟨(hr.below h hb).c0,(hr.below h hb).c1,(hr.below h hb).c2,(hr.below h hb).c3⟩
    have HQ:Hid (((k0+j*4:Nat):Int)+1+1+1+1=((k0+(j+1)*4:Nat):Int)):=(by omega:((k0+j*4:Nat):Int)+1+1+1+1=((k0+(j+1)*4:Nat):Int))
    have BD:k0+j*4<=1099515822080:=by omega
    generalize mkT (k0+j*4)=t at *
    generalize k0+j*4=q at *
    obtain⟨d0,-,-,-⟩:=HR.out _ hB.out
    have q0:=After.cell d0
    have hne:=After.ne wr
    have htt:(t.toList==t.toList)=true:=by simp
    have hbw:b<wr.heap.size:=Nat.lt_of_lt_of_le hb hB.out.size
    clear hr d0
    go_wp2_with fail
    refine ay (by kernel_rfl) (by kernel_rfl) ?_
    repeat(first | go_big_quiet_skip |(go_big_quiet_want;go_big_quiet_op;first | go_big_quiet_on | go_big_quiet_call (first |(go_at_call 202;refine(hM _).mono ?_;rintro e wq ⟨rfl,hbq⟩;exact⟨rfl,bP (ah (After.b _) hbq)⟩))))
    refine wpQuiet_nil ?_
    rintro _ ⟨n6,rfl⟩
    have iE:Hid (Below w.heap.size w n6.w):=ah hB.out n6.b
    generalize n6.w=w6 at *
    obtain⟨d0,d1,d2,d3⟩:=HR.out _ iE.out
    have hnn:=dA
    clear hne q0 n6 hM HR
    go_wp2
    go_roundw
    case rel=>exact⟨j+1,by omega,by go_num,by rw[←HQ.out],iE⟩
    case measure=>simp[intOf];omega
   ·have hjn:j=n:=by omega
    subst hjn
    go_wp2
    go_ret
    exact⟨rfl,hB.out⟩
theorem yJ(B:Nat)(v:Value)(l:Rcl)(k0:Nat)(w:World)(hown:w.ownsRow B 46 4 v l.length (flR l))(hx:l.length<=1048576)(hk0:0<k0/\k0<=1099511627776):
  Calls Tryz.prog 58 #[.agg #[v],.int .i64 k0] w fun e w'=>e = .returned (.int .i64 ((k0+l.length*4:Nat):Int))/\w.grownBy w' v.ownBlock/\w'.ownsRow B 46 4 v l.length (flR (mkR k0 l.length)):=by
 have hM:=fun o=>rU B v l k0 _ (hown.alloc o) hx hk0
 obtain⟨a,c',rfl⟩:∃a c,v = .slice a l.length c:=by
  rcases hown.2 with⟨rfl,hn⟩ |⟨g,cap,cur,rfl,_⟩
  ·exact⟨none,0,by rw[hn]⟩
  ·exact⟨_,_,rfl⟩
 generalize l.length=n at *
 clear hown
 go_enter Tryz.func58,Tryz.ntmps58
 go_wp2_with fail
 refine(hM _).mono ?_
 rintro e w1 ⟨rfl,hg,ho⟩
 have HH:Hid (w.grownBy w1 (Value.slice a n c').ownBlock/\w1.ownsRow B 46 4 (.slice a n c') n (flR (mkR k0 n))):=⟨bM (World.grownBy_alloc _ _ _) hg,ho⟩
 clear hM hg ho
 go_wp2
 go_ret
 exact⟨rfl,HH.out⟩
def One(w:World)(b:Nat)(x:Value):Prop:=b<w.heap.size/\w.cell? ⟨b,0,none⟩=some x
theorem One.below{w w':World}{b:Nat}{x:Value}(h:One w b x)(hb:Below w.heap.size w w'):One w' b x:=⟨Nat.lt_of_lt_of_le h.1 hb.size,(hb.cell (p:=⟨b,0,none⟩) h.1).trans h.2⟩
theorem One.grown{w w':World}{b:Nat}{x:Value}{row:Option Nat}(h:One w b x)(hg:w.grownBy w' row)(hne:some b≠row):One w' b x:=⟨Nat.lt_of_lt_of_le h.1 hg.size,hg.cell h.2 hne⟩
theorem One.new(w:World)(x:Value)(t:TypeId):One (w.alloc (.cells #[x] t)) w.heap.size x:=⟨by simp,Qi (heap_alloc_new w _)⟩
theorem yC(v:Value)(n k0:Nat)(w:World)(hv:Rcs w v (mkR k0 n))(hx:n<=1048576)(hk0:0<k0/\k0<=1099511627776):
  Calls Tryz.prog 132 #[.agg #[v],.int .i64 k0] w fun e w'=>e = .returned (.int .i64 ((k0+n*4:Nat):Int))/\Below w.heap.size w w':=by
 have hH:=fun o=>rJ v n k0 _ (hv.below (aj o)) hx hk0
 obtain⟨a,c',rfl⟩:=hv.shape
 rw[iJ]at *
 have hs:¬((k0+n*4:Nat):Int)<0:=by omega
 generalize ((k0+n*4:Nat):Int)=z at *
 clear hv
 go_enter Tryz.func132,Tryz.ntmps132
 go_wp2_with fail
 refine(hH _).mono ?_
 rintro e w1 ⟨rfl,hb1⟩
 clear hH
 go_wp2
 go_ret
 exact⟨rfl,ak hb1⟩
end U
end Go.Proofs.YtmnfokgllcdiiaaGreat
namespace Go.Proofs.YtmnfokgllcdiiaaGreat
open Go.RowKit Go.Maps
namespace U
def uO(r:Rc):DataW Unit:= .agg [.lit (.string r.l.data.toList),.lit (.int .i64 r.v),.lit (.int .i64 r.o),.lit (.int .i64 r.p)]
theorem Jg{r s:Rc}(h:uO r=uO s):r=s:=by
 obtain⟨⟨l⟩,v,o,p⟩:=r
 obtain⟨⟨l'⟩,v',o',p'⟩:=s
 unfold uO at h
 simp at h
 obtain⟨h1,rfl,rfl,rfl⟩:=h
 have:l=l':=by cases l;cases l';simp_all
 rw[this]
def Jh(v:Value):Option (DataW Unit × List MemPlace):=
 match v with
 | .agg cs=>(match cs.toList with
  | [.string l,.int .i64 a,.int .i64 b,.int .i64 c]=>some (uO ⟨l,a,b,c⟩,[])
  | _=>none)
 | _=>none
def Rc.val(r:Rc):Value:= .agg #[.string r.l,.int .i64 r.v,.int .i64 r.o,.int .i64 r.p]
theorem Me(r:Rc):Jh r.val=some (uO r,[]):=rfl
theorem Si{v:Value}{z:DataW Unit × List MemPlace}(h:Jh v=some z):∃r:Rc,v=r.val/\z=(uO r,[]):=by
 unfold Jh at h
 split at h
 ·rename_i cs
  split at h
  ·rename_i l a b c e
   cases h
   refine⟨⟨l,a,b,c⟩, ?_,rfl⟩
   show Value.agg cs=Value.agg #[.string l,.int .i64 a,.int .i64 b,.int .i64 c]
   congr 1
   exact Array.ext' e
  ·cases h
 ·cases h
theorem Tryz.Wh:Keyed Tryz.prog 2:=int_keyed Tryz.underlying2
theorem Tryz.Xg(w:World):(zeroValue 46).run Tryz.prog w = .ok rcZ.val w:=by kernel_rfl
theorem LW{x:Int}(h:0<=x/\x<256):keyOf Tryz.prog 2 (.int .i64 x)=some (.int .i64 x):=keyOf_int_mk Tryz.underlying2 (WalkArith.wf_i64 (by omega))
structure gI(w:World)(b n:Nat)(g:Int->Option Rc):Prop where
 ex:∃D:DataW Unit,w.ownsMap Tryz.prog 2 Jh b n D/\(∀x,Go.Maps.has D (.int .i64 x)=(g x).isSome)/\∀x r,g x=some r->∀z,D.atKey (.int .i64 x) z=uO r
theorem gI.lt{w:World}{b n:Nat}{g:Int->Option Rc}(h:gI w b n g):b<w.heap.size:=by
 obtain⟨D,h1,-,-⟩:=h.ex
 exact h1.lt
theorem gI.below{w w':World}{b n N:Nat}{g:Int->Option Rc}(h:gI w b n g)(hb:Below N w w')(hlt:b<N):gI w' b n g:=by
 obtain⟨D,⟨es,clock,e1,e2⟩,h2,h3⟩:=h.ex
 exact⟨D,⟨es,clock,(hb.block b hlt).trans e1,e2⟩,h2,h3⟩
theorem gI.made(w:World):gI (w.alloc (.map #[] 0)) w.heap.size 0 (fun _=>none):=
 ⟨.map [],World.ownsMap_made w Tryz.prog 2 Jh,fun _=>rfl,fun _ _ h=>by cases h⟩
def uZ(o:Option Rc):Value:=(o.getD rcZ).val
theorem gI.look{w:World}{b n:Nat}{g:Int->Option Rc}(h:gI w b n g){x:Int}(hx:0<=x/\x<256):
  (Instr.lookup 203 (.map (some b)) (.int .i64 x) true).run Tryz.prog w = .ok (.tuple #[uZ (g x),.bool (g x).isSome]) w:=by
 obtain⟨D,h1,h2,h3⟩:=h.ex
 obtain⟨v,ps,hrun,hv⟩:=h1.look_ok Tryz.Wh Tryz.underlying203 (Tryz.Xg w) (Me rcZ) (LW hx)
 rw[hrun,h2]
 obtain⟨r,rfl,hr⟩:=Si hv
 have hd:D.atKey (.int .i64 x) (uO rcZ)=uO r:=congrArg Prod.fst hr
 rcases hg:g x with _ | s
 ·have hn:Go.Maps.has D (.int .i64 x)=false:=by rw[h2,hg];rfl
  rw[atKey_of_not_has hn]at hd
  rw[←Jg hd]
  rfl
 ·rw[h3 x s hg]at hd
  rw[←Jg hd]
  rfl
theorem P6{x y:Int}(h:x≠y):(Lit.int .i64 x)≠(Lit.int .i64 y):=fun e=>h (by cases e;rfl)
theorem PW(x:Int):WideAt.IsKeyLit (Lit.int .i64 x):=trivial
theorem gI.store{w:World}{b n:Nat}{g:Int->Option Rc}(h:gI w b n g)(hn:n<maxLen){x:Int}(hx:0<=x/\x<256)(r:Rc):
  ∃w',(Instr.mapUpdate 203 (.map (some b)) (.int .i64 x) r.val).run Tryz.prog w = .ok () w'/\gI w' b (n+1) (fun y=>if y=x then some r else g y)/\w.grownBy w' (some b):=by
 obtain⟨D,h1,h2,h3⟩:=h.ex
 obtain⟨w',hrun,ho,hg⟩:=h1.update Tryz.Wh Tryz.underlying203 hn (LW hx) (Me r)
 refine⟨w',hrun,⟨_,ho,fun y=> ?_,fun y s hs z=> ?_⟩,hg⟩
 ·by_cases e:y=x
  ·subst e
   rw[if_pos rfl,has_put_same h1.isMap (PW _)]
   rfl
  ·rw[if_neg e,has_put_other (P6 e),h2]
 ·by_cases e:y=x
  ·subst e
   rw[if_pos rfl]at hs
   cases hs
   exact atKey_put_same h1.isMap (PW _) _ _
  ·rw[if_neg e]at hs
   rw[atKey_put_other (P6 e)]
   exact h3 y s hs z
def dh(l:Rcl):Nat->Int->Option Rc
 | 0=>fun _=>none
 | k+1=>fun y=>if y=(rAt l k).k then some (rAt l k)else dh l k y
def atK(l:Rcl)(key:Int):Nat->Nat->Int
 | 0,_=>-1
 | f+1,i=>if(rAt l i).k=key then(i:Int)else atK l key f (i+1)
def atI(l:Rcl)(key:Int):Int:=atK l key l.length 0
theorem Ll{l:Rcl}{key:Int}{f i:Nat}(h:(rAt l i).k=key):atK l key (f+1) i=i:=by rw[atK,if_pos h]
theorem Gx{l:Rcl}{key:Int}{f i:Nat}(h:¬(rAt l i).k=key):atK l key (f+1) i=atK l key f (i+1):=by rw[atK,if_neg h]
theorem Ef(l:Rcl)(key:Int):∀f i,(atK l key f i = -1/\∀j,i<=j->j<i+f->¬(rAt l j).k=key)∨∃j,i<=j/\j<i+f/\(rAt l j).k=key/\atK l key f i=j
 | 0,i=>Or.inl ⟨rfl,fun j h1 h2=>by omega⟩
 | f+1,i=>by
  by_cases h:(rAt l i).k=key
  ·exact Or.inr ⟨i,Nat.le_refl _,by omega,h,Ll h⟩
  ·rw[Gx h]
   rcases Ef l key f (i+1)with⟨h1,h2⟩ |⟨j,h1,h2,h3,h4⟩
   ·refine Or.inl ⟨h1,fun j h3 h4=> ?_⟩
    by_cases e:j=i
    ·subst e;exact h
    ·exact h2 j (by omega) (by omega)
   ·exact Or.inr ⟨j,by omega,by omega,h3,h4⟩
theorem oH(l:Rcl)(key:Int):(atI l key = -1/\∀j,j<l.length->¬(rAt l j).k=key)∨∃j,j<l.length/\(rAt l j).k=key/\atI l key=j:=by
 rcases Ef l key l.length 0 with⟨h1,h2⟩ |⟨j,-,h2,h3,h4⟩
 ·exact Or.inl ⟨h1,fun j hj=>h2 j (Nat.zero_le _) (by omega)⟩
 ·exact Or.inr ⟨j,by omega,h3,h4⟩
theorem BU{l:Rcl}{x:Int}:∀k,(∀j,j<k->¬(rAt l j).k=x)->dh l k x=none
 | 0,_=>rfl
 | k+1,h=>by
  show(if x=(rAt l k).k then some (rAt l k)else dh l k x)=none
  rw[if_neg (fun e=>h k (by omega) e.symm)]
  exact BU k (fun j hj=>h j (by omega))
theorem BX{l:Rcl}{x:Int}{j:Nat}(hx:(rAt l j).k=x):∀k,j<k->(∀i,i<k->(rAt l i).k=x->i=j)->dh l k x=some (rAt l j)
 | 0,h,_=>by omega
 | k+1,h,hu=>by
  show(if x=(rAt l k).k then some (rAt l k)else dh l k x)=some (rAt l j)
  by_cases e:x=(rAt l k).k
  ·rw[if_pos e,hu k (by omega) e.symm]
  ·rw[if_neg e]
   have hjk:j≠k:=fun e2=>e (by rw[←e2,hx])
   exact BX hx k (by omega) (fun i hi=>hu i (by omega))
theorem iZ.one{l:Rcl}(h:iZ l){i j:Nat}(hi:i<l.length)(hj:j<l.length)(e:(rAt l i).k=(rAt l j).k):i=j:=by
 rcases Nat.lt_trichotomy i j with h1 | h1 | h1
 ·have:=h.rise j hj i h1;omega
 ·exact h1
 ·have:=h.rise i hi j h1;omega
theorem Qa{l:Rcl}(h:iZ l)(x:Int):(atI l x = -1/\dh l l.length x=none)∨∃j,j<l.length/\atI l x=j/\dh l l.length x=some (rAt l j)/\(rAt l j).k=x:=by
 rcases oH l x with⟨h1,h2⟩ |⟨j,h1,h2,h3⟩
 ·exact Or.inl ⟨h1,BU _ h2⟩
 ·exact Or.inr ⟨j,h1,h3,BX h2 _ h1 (fun i hi e=>h.one hi h1 (by rw[e,h2])),h2⟩
end U
end Go.Proofs.YtmnfokgllcdiiaaGreat
namespace Go.Proofs.YtmnfokgllcdiiaaGreat
open Go.RowKit
namespace U
section
variable {P:Program} {ops:Array Oper} {Q:Exit->Act->World->Prop} {md:Region.Mode} {S:World->Prop}
theorem aF{i:Nat}{d:Option Tmp}{v:Value}{fuel:Nat}{listed:Array Bool}{a:Act}{w:World}(hd:(ops[i]?).map (·.dst)=some d)
  (hs:Region.noSelect ops=true) (hf:Region.free md ops listed i=true) (hr:(Region.ready md ops listed).contains i=true)
  (hQ:∀c a w,Q (.panic c) (a.put d v) w->Q (.panic c) a w) (hw:(ops[i]?).map (fun o=>Region.wanted o (yielded ops a.tmps))=some true)
  (hy:∀o,ops[i]? = some o->∀w,S w->(execOp a.eval o).run P w = .ok (.value v) w) (hS:S w)
  (h:wpAnyH P md ops Q S fuel (listed.setIfInBounds i true) (a.put d v) w):wpAnyH P md ops Q S (fuel+1) listed a w:=by
 rcases ho:ops[i]? with _ | o
 ·rw[ho]at hd;cases hd
 ·rw[ho]at hd hw
  cases hd
  exact wpAnyH_take ho hs hf hr hQ (Or.inl ⟨Option.some.inj hw,hy o ho⟩) hS h
end
end U
end Go.Proofs.YtmnfokgllcdiiaaGreat
namespace Go.Proofs.YtmnfokgllcdiiaaGreat
open Go.RowKit Go.Maps
namespace U
theorem MR(s:ByteArray)(w:World)(hs:s.size<=1048576):Calls Tryz.prog 83 #[.string s] w fun e w'=>e = .returned (.string s)/\Below w.heap.size w w':=by
 go_enter Tryz.func83,Tryz.ntmps83
 go_wp2_with fail
 refine(Tryz.stringslite_Clone s _ (by omega)).mono ?_
 rintro e w1 ⟨rfl,hb1⟩
 go_wp2
 go_ret
 exact⟨rfl,hb1⟩
theorem FM(l:ByteArray)(v o p:Int)(w:World)(hs:l.size<=1048576):
  Calls Tryz.prog 121 #[.agg #[.string l,.int .i64 v,.int .i64 o,.int .i64 p]] w fun e w'=>e = .returned (.agg #[.string l,.int .i64 v,.int .i64 o,.int .i64 p])/\Below w.heap.size w w':=by
 have hC:=fun w=>MR l w hs
 go_enter Tryz.func121,Tryz.ntmps121
 go_wp2_with fail
 refine(hC _).mono ?_
 rintro e w1 ⟨rfl,hb1⟩
 have hB:Below w.heap.size w w1:=ak (ak hb1)
 have k0:=blk4 ((hb1.block w.heap.size (by simp;omega)).trans (heap_alloc_old' _ _ _ (heap_alloc_new w _)))
 have k1:=blk4 ((hb1.block (w.heap.size+1) (by simp)).trans (aU w _ _))
 go_split_ands
 clear hb1 hC
 go_wp2
 refine bodyPost_ret (v:= .agg #[.string l,.int .i64 v,.int .i64 o,.int .i64 p]) (by simp[results,Tryz.results121,go_sem, *]) rfl ⟨rfl, ?_⟩
 exact((((hB.setCell (Nat.le_refl _) _).setCell (Nat.le_succ _) _).setCell (Nat.le_succ _) _).setCell (Nat.le_succ _) _).setCell (Nat.le_succ _) _
theorem DV(b off c n:Nat)(l:Rcl)(w:World)(hn:n<=12)(hb:b<w.heap.size)(hok:∀j,j<n->(rAt l j).c=0)(hc:∀j,j<n->fP w b (off+j*4) (rAt l j)):
  Calls Tryz.prog 117 #[.agg #[.slice (some ⟨b,off,none⟩) n c]] w fun e w'=>e = .returned (.map (some (w.heap.size+1)))/\Below w.heap.size w w'/\gI w' (w.heap.size+1) n (dh l n):=by
 have hmm:= @run_makeMap Tryz.prog
 go_enter Tryz.func117,Tryz.ntmps117
 go_wp2
 go_loopw [10] (fun i wr=>∃k:Nat,k<=n/\i = .int .i64 k/\Hid (Below w.heap.size w wr)/\Hid (gI wr (w.heap.size+1) k (dh l k))) (fun i _=>n - (intOf i).toNat)
 case atStart=>
  refine⟨0,Nat.zero_le _,rfl,aA _ _, ?_⟩
  have h:=gI.made (w.alloc (.cells #[.slice (some ⟨b,off,none⟩) n c] 36))
  rw[World.size_alloc]at h
  exact h
 case round=>
  obtain⟨k,hk,rfl,hB,hM⟩:=hrel
  by_cases hkn:k<n
  ·have hki:(k:Int)<(n:Int):=by omega
   have hr:=(hc k hkn).below hB.out hb
   have hc0:=hok k hkn
   have gV:=fun w=>pG (rAt l k).l (rAt l k).v (rAt l k).o (rAt l k).p w (Rc.wU hc0)
   have VR:=fun w=>FM (rAt l k).l (rAt l k).v (rAt l k).o (rAt l k).p w (by have:=Rc.nU hc0;omega)
   have e2:dY (rAt l k).l=(rAt l k).k:=rfl
   rw[e2]at gV
   have hkb:=(rAt l k).kbd
   have HG:Hid (dh l (k+1)=fun y=>if y=(rAt l k).k then some (rAt l k)else dh l k y):=rfl
   obtain⟨r,hre⟩:∃r,r=rAt l k:=⟨_,rfl⟩
   rw[←hre]at hr gV VR hkb HG
   obtain⟨d0,d1,d2,d3⟩:=hr
   obtain⟨x0,x1,x2,x3⟩:=r
   unfold dG at gV
   dsimp only at d0 d1 d2 d3 gV VR
   generalize hkz:Rc.k ⟨x0,x1,x2,x3⟩=kz at *
   have Yq:b<wr.heap.size:=Nat.lt_of_lt_of_le hb hB.out.size
   obtain⟨W,hW⟩:∃W,W=wr.alloc (.cells #[.string x0,.int .i64 x1,.int .i64 x2,.int .i64 x3] 46):=⟨_,rfl⟩
   have HW:Hid _:=hW.symm
   have Ec:Hid (Below w.heap.size w W):=(by rw[hW];exact hB.out.alloc hB.out.size _:Below w.heap.size w W)
   have wB:W.heap[wr.heap.size]? = some (.cells #[.string x0,.int .i64 x1,.int .i64 x2,.int .i64 x3] 46):=by rw[hW];exact heap_alloc_new wr _
   have XV:Hid (∀w',Below W.heap.size W w'->gI w' (w.heap.size+1) k (dh l k)):=fun w' h=>by
    have h1:gI W (w.heap.size+1) k (dh l k):=by rw[hW];exact hM.out.below (aj _) hM.out.lt
    exact h1.below h h1.lt
   have hlt:=(Array.getElem?_eq_some_iff.1 wB).1
   have Tv:Hid (∀w',Below W.heap.size W w'->w'.cell? ⟨wr.heap.size,0,none⟩=some (.string x0)/\w'.cell? ⟨wr.heap.size,1,none⟩=some (.int .i64 x1)/\w'.cell? ⟨wr.heap.size,2,none⟩=some (.int .i64 x2)/\w'.cell? ⟨wr.heap.size,3,none⟩=some (.int .i64 x3)):=fun w' h=>jT ((h.block wr.heap.size hlt).trans wB)
   obtain⟨g0,g1,g2,g3⟩:=jT wB
   have hbr:=Below.refl W.heap.size W
   have F7:Hid (k<maxLen):=(by unfold maxLen;omega:k<maxLen)
   clear hc hok hre hkz hc0 e2 hW wB
   go_wp2_with fail
   rw[HW.out]
   go_region_held3 (fun w'=>w'.cell? ⟨wr.heap.size,0,none⟩=some (.string x0)/\w'.cell? ⟨wr.heap.size,1,none⟩=some (.int .i64 x1)/\w'.cell? ⟨wr.heap.size,2,none⟩=some (.int .i64 x2)/\w'.cell? ⟨wr.heap.size,3,none⟩=some (.int .i64 x3))
    (first | exact⟨g0,g1,g2,g3⟩|exact Tv.out _ hbr | exact Tv.out _ hbr.drew | exact hlast)
    (first
     |(go_at_call 118;refine(gV _).mono ?_;rintro e w5 ⟨rfl,hb5⟩;have hbr:Below W.heap.size W w5:=(by first | exact ah hbr hb5 | exact ah hbr.drew hb5))
     |(go_at_call 121;refine(VR _).mono ?_;rintro e w6 ⟨rfl,hb6⟩;have hbr:Below W.heap.size W w6:=(by first | exact ah hbr hb6 | exact ah hbr.drew hb6);obtain⟨w7,hrun7,X4,nM⟩:=(XV.out _ hbr).store F7.out hkb ⟨x0,x1,x2,x3⟩;dsimp only[Rc.val]at hrun7;have hlast:w7.cell? ⟨wr.heap.size,0,none⟩=some (.string x0)/\w7.cell? ⟨wr.heap.size,1,none⟩=some (.int .i64 x1)/\w7.cell? ⟨wr.heap.size,2,none⟩=some (.int .i64 x2)/\w7.cell? ⟨wr.heap.size,3,none⟩=some (.int .i64 x3):=(by
       have hne:some wr.heap.size≠some (w.heap.size+1):=(by have:=hM.out.lt;simp;omega)
       have q:=Tv.out _ hbr
       exact⟨nM.cell q.1 hne,nM.cell q.2.1 hne,nM.cell q.2.2.1 hne,nM.cell q.2.2.2 hne⟩)))
   have OE:Hid (Below w.heap.size w w7):=(ah Ec.out hbr).grown nM (Nat.le_trans Ec.out.size hbr.size) (fun j hj=>by cases hj;omega)
   have YX:Hid (gI w7 (w.heap.size+1) (k+1) (dh l (k+1))):=(by rw[HG.out];exact X4:gI w7 (w.heap.size+1) (k+1) (dh l (k+1)))
   clear X4 nM hlast XV Tv hrun7
   go_wp2
   go_roundw
   case rel=>exact⟨k+1,by omega,by go_num,OE,YX⟩
   case measure=>simp[intOf];omega
  ·have hkn:k=n:=by omega
   subst hkn
   clear hc
   go_wp2
   go_ret
   exact⟨rfl,hB.out,hM.out⟩
theorem lD(v:Value)(l:Rcl)(w:World)(hv:Rcs w v l)(hok:iZ l):
  Calls Tryz.prog 117 #[.agg #[v]] w fun e w'=>e = .returned (.map (some (w.heap.size+1)))/\Below w.heap.size w w'/\gI w' (w.heap.size+1) l.length (dh l l.length):=by
 obtain⟨a,c,rfl⟩:=hv.shape
 by_cases h0:0<l.length
 ·obtain⟨_,b,off,rfl,hb,hc⟩:=hv.at h0
  exact DV b off c l.length l w hok.len hb hok.ok hc
 ·have e1:l=[]:=List.eq_nil_of_length_eq_zero (by omega)
  subst e1
  simp only[List.length_nil]at *
  clear hv h0 hok
  have hmm:= @run_makeMap Tryz.prog
  have h:=gI.made (w.alloc (.cells #[.slice a 0 c] 36))
  rw[World.size_alloc]at h
  have HM:Hid (gI ((w.alloc (.cells #[.slice a 0 c] 36)).alloc (.map #[] 0)) (w.heap.size+1) 0 (fun _=>none)):=h
  clear h
  go_enter Tryz.func117,Tryz.ntmps117
  go_wp2
  refine wp_loop_rounds 1 ?_;rw[rounds_succ]
  go_wp2
  go_ret
  exact⟨rfl,aA _ _,HM.out⟩
end U
end Go.Proofs.YtmnfokgllcdiiaaGreat
