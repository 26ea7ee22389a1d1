/- Joined: what the texts behind it need. -/
import Derived.Test.YtmnfokgllcdiiaaGreatYZz
import Derived.Test.YtmnfokgllcdiiaaGreatYBA
import Derived.Test.YtmnfokgllcdiiaaGreatYBC
import Derived.Test.YtmnfokgllcdiiaaGreatYBB
set_option maxRecDepth 100000
set_option maxHeartbeats 4000000
namespace Go.Proofs.YtmnfokgllcdiiaaGreat
open Go.RowKit
namespace U
abbrev Pst:=List Rcl
def dAt(p:Pst)(j:Nat):Rcl:=p.getD j []
theorem O6{p:Pst}{j:Nat}(h:j<p.length):dAt p j=p[j]:=by simp[dAt,List.getD_eq_getElem?_getD,List.getElem?_eq_getElem h]
structure St where
 ph:Int
 cu:Int
 d:Rcl
 n:Prl
 h:Hdl
 p:Pst
def eqP(l m:Prl):Bool:=decide (l=m)
theorem Lp{l m:Prl}(h:¬l.length=m.length):eqP l m=false:=decide_eq_false fun e=>h (by rw[e])
theorem O9{l m:Prl}{k:Nat}(h:¬pAt l k=pAt m k):eqP l m=false:=decide_eq_false fun e=>h (by rw[e])
theorem Lr{l m:Prl}(h:l.length=m.length)(ha:∀j,j<l.length->pAt l j=pAt m j):eqP l m=true:=decide_eq_true (by
 apply List.ext_getElem h
 intro j h1 h2
 rw[←eH h1,←eH h2]
 exact ha j h1)
theorem Ug{l m:Prl}:eqP l m=true↔l=m:=decide_eq_true_iff
def hdQ(a b:Hd):Bool:=(a.e==b.e)&&((a.p==b.p)&&((a.o==b.o)&&((a.n==b.n)&&(a.v==b.v))))
def Dss(w:World)(v:Value)(p:Pst):Prop:=
 (p=[]/\∃a c,v = .slice a 0 c)∨∃b off c,v = .slice (some ⟨b,off,none⟩) p.length c/\b<w.heap.size/\∀j,j<p.length->∃u,w.cell? ⟨b,off+j,none⟩=some u/\Rcs w u (dAt p j)
theorem Dss.below{w w':World}{v:Value}{p:Pst}(h:Dss w v p)(hb:Below w.heap.size w w'):Dss w' v p:=by
 rcases h with h |⟨b,off,c,rfl,hlt,hc⟩
 ·exact Or.inl h
 ·refine Or.inr ⟨b,off,c,rfl,Nat.lt_of_lt_of_le hlt hb.size,fun j hj=> ?_⟩
  obtain⟨u,h1,h2⟩:=hc j hj
  exact⟨u,(hb.cell (p:=⟨b,off+j,none⟩) hlt).trans h1,h2.below hb⟩
theorem Dss.shape{w:World}{v:Value}{p:Pst}(h:Dss w v p):∃a c,v = .slice a p.length c:=by
 rcases h with⟨rfl,a,c,rfl⟩ |⟨b,off,c,rfl,_⟩
 ·exact⟨a,c,rfl⟩
 ·exact⟨_,c,rfl⟩
theorem Dss.at{w:World}{a:Option Addr}{n c:Nat}{p:Pst}(h:Dss w (.slice a n c) p)(h0:0<p.length):n=p.length/\∃b off,a=some ⟨b,off,none⟩/\b<w.heap.size/\∀j,j<p.length->∃u,w.cell? ⟨b,off+j,none⟩=some u/\Rcs w u (dAt p j):=by
 rcases h with⟨rfl,_⟩ |⟨b,off,c',e,h1,h2⟩
 ·simp at h0
 ·cases e
  exact⟨rfl,b,off,rfl,h1,h2⟩
theorem Dss.nil(w:World)(a:Option Addr)(c:Nat):Dss w (.slice a 0 c) []:=Or.inl ⟨rfl,a,c,rfl⟩
structure Sv where
 d:Value
 n:Value
 h:Value
 p:Value
structure Sts(w:World)(v:Sv)(s:St):Prop where
 d:Rcs w v.d s.d
 n:Prs w v.n s.n
 h:Hds w v.h s.h
 p:Dss w v.p s.p
theorem Sts.below{w w':World}{v:Sv}{s:St}(h:Sts w v s)(hb:Below w.heap.size w w'):Sts w' v s:=⟨h.d.below hb,h.n.below hb,h.h.below hb,h.p.below hb⟩
def stV(s:St)(v:Sv):Value:= .agg #[.int .i64 s.ph,.int .i64 s.cu,v.d,v.n,v.h,v.p]
def srV(c:Int)(s:St)(v:Sv):Value:= .agg #[.int .i64 c,.int .i64 s.ph,.int .i64 s.cu,v.d,v.n,v.h,v.p]
def stC(s:St)(v:Sv)(t:TypeId):Obj:= .cells #[.int .i64 s.ph,.int .i64 s.cu,v.d,v.n,v.h,v.p] t
structure StC(w:World)(b:Nat)(s:St)(v:Sv):Prop where
 lt:b<w.heap.size
 c0:w.cell? ⟨b,0,none⟩=some (.int .i64 s.ph)
 c1:w.cell? ⟨b,1,none⟩=some (.int .i64 s.cu)
 c2:w.cell? ⟨b,2,none⟩=some v.d
 c3:w.cell? ⟨b,3,none⟩=some v.n
 c4:w.cell? ⟨b,4,none⟩=some v.h
 c5:w.cell? ⟨b,5,none⟩=some v.p
theorem StC.below{w w':World}{b N:Nat}{s:St}{v:Sv}(h:StC w b s v)(hb:Below N w w')(hlt:b<N):StC w' b s v:=
 ⟨Nat.lt_of_lt_of_le h.lt hb.size,(hb.cell (p:=⟨b,0,none⟩) hlt).trans h.c0,(hb.cell (p:=⟨b,1,none⟩) hlt).trans h.c1,(hb.cell (p:=⟨b,2,none⟩) hlt).trans h.c2,(hb.cell (p:=⟨b,3,none⟩) hlt).trans h.c3,(hb.cell (p:=⟨b,4,none⟩) hlt).trans h.c4,(hb.cell (p:=⟨b,5,none⟩) hlt).trans h.c5⟩
theorem StC.of{w:World}{b:Nat}{s:St}{v:Sv}{t:TypeId}(h:w.heap[b]? = some (stC s v t)):StC w b s v:=by
 refine⟨(Array.getElem?_eq_some_iff.1 h).1, ?_, ?_, ?_, ?_, ?_, ?_⟩<;>(unfold World.cell?;rw[h];rfl)
theorem StC.new(w:World)(s:St)(v:Sv)(t:TypeId):StC (w.alloc (stC s v t)) w.heap.size s v:=StC.of (heap_alloc_new w _)
def tot(p:Pst):Nat->Nat
 | 0=>0
 | k+1=>tot p k+(dAt p k).length
structure StB(s:St):Prop where
 d:s.d.length<=1048576
 dl:Lbs s.d
 n:s.n.length<=1048576
 h:s.h.length<=1048576
 p:s.p.length<=1048576
 pd:∀j,j<s.p.length->(dAt s.p j).length<=1048576/\Lbs (dAt s.p j)
 t:∀j,j<=s.p.length->tot s.p j<=1048576
structure StA(s:St):Prop where
 d:s.d.length<=maxLen
 dl:LbM s.d
 n:s.n.length<=maxLen
 h:s.h.length<=maxLen
 p:s.p.length<=maxLen
 pd:∀j,j<s.p.length->(dAt s.p j).length<=maxLen/\LbM (dAt s.p j)
structure Tch(a b:Nat)(w w':World):Prop where
 os:w'.os=w.os
 tape:w'.tape=w.tape
 output:w'.output=w.output
 size:w.heap.size<=w'.heap.size
 block:∀k,k<w.heap.size->(k<a∨b<=k)->w'.heap[k]? = w.heap[k]?
theorem Tch.refl(a b:Nat)(w:World):Tch a b w w:=⟨rfl,rfl,rfl,Nat.le_refl _,fun _ _ _=>rfl⟩
theorem Tch.trans{a b:Nat}{x y z:World}(h:Tch a b x y)(k:Tch a b y z):Tch a b x z:=
 ⟨k.os.trans h.os,k.tape.trans h.tape,k.output.trans h.output,Nat.le_trans h.size k.size,fun i hi hn=>(k.block i (Nat.lt_of_lt_of_le hi h.size) hn).trans (h.block i hi hn)⟩
theorem Tch.nS{a b:Nat}{w w':World}{row:Option Nat}(h:w.grownBy w' row)(hr:∀g,row=some g->a<=g/\g<b):Tch a b w w':=
 ⟨h.os,h.tape,h.output,h.size,fun k hk hn=>h.block k hk (fun e=>by have:=hr k e.symm;omega)⟩
theorem Tch.of_below{a b:Nat}{w w':World}(h:Below w.heap.size w w'):Tch a b w w':=⟨h.os,h.tape,h.output,h.size,fun k hk _=>h.block k hk⟩
theorem Tch.below{a b:Nat}{w w':World}(h:Tch a b w w')(ha:a<=w.heap.size):Below a w w':=⟨h.os,h.tape,h.output,h.size,fun k hk=>h.block k (by omega) (Or.inl hk)⟩
structure Rw where
 e:TypeId
 z:Nat
 v:Value
 n:Nat
 xs:List Value
def blks(R:List Rw):List Nat:=R.filterMap fun r=>r.v.ownBlock
theorem qy(R S:List Rw):blks (R++S)=blks R++blks S:=List.filterMap_append
theorem zA{R:List Rw}{g:Nat}(h:g∈blks R):∃r∈R,r.v.ownBlock=some g:=by simpa [blks]using h
theorem qP{R:List Rw}{r:Rw}{g:Nat}(h:r∈R)(hg:r.v.ownBlock=some g):g∈blks R:=by
 unfold blks
 rw[List.mem_filterMap]
 exact⟨r,h,hg⟩
structure Own(lo hi:Nat)(w:World)(R:List Rw):Prop where
 own:∀r∈R,w.ownsRow lo r.e r.z r.v r.n r.xs
 hi:∀g∈blks R,g<hi
 nd:(blks R).Nodup
theorem gY{w:World}{lo n z g:Nat}{e:TypeId}{v:Value}{xs:List Value}(h:w.ownsRow lo e z v n xs)(hg:v.ownBlock=some g):lo<=g/\g<w.heap.size:=by
 rcases h.2 with⟨rfl,_⟩ |⟨g',cap,cur,rfl,h1,h2,_⟩
 ·cases hg
 ·cases hg
  exact⟨h1,(Array.getElem?_eq_some_iff.1 h2).1⟩
theorem lN{w w':World}{lo n z:Nat}{e:TypeId}{v:Value}{xs:List Value}(h:w.ownsRow lo e z v n xs)(hb:∀g,v.ownBlock=some g->w'.heap[g]? = w.heap[g]?):w'.ownsRow lo e z v n xs:=by
 refine⟨h.1, ?_⟩
 rcases h.2 with h2 |⟨g,cap,cur,rfl,h3,h4,h5⟩
 ·exact Or.inl h2
 ·exact Or.inr ⟨g,cap,cur,rfl,h3,(hb g rfl).trans h4,h5⟩
theorem Own.lo{lo hi:Nat}{w:World}{R:List Rw}(h:Own lo hi w R):∀g∈blks R,lo<=g:=fun g hg=>by
 obtain⟨r,hr,e⟩:=zA hg
 exact(gY (h.own r hr) e).1
theorem Own.nil(lo hi:Nat)(w:World):Own lo hi w []:=⟨fun r hr=>by simp at hr,fun g hg=>by simp[blks]at hg,by simp[blks]⟩
theorem Own.single{lo hi:Nat}{w:World}{r:Rw}(h:w.ownsRow lo r.e r.z r.v r.n r.xs)(hh:w.heap.size<=hi):Own lo hi w [r]:=by
 refine⟨fun s hs=> ?_,fun g hg=> ?_, ?_⟩
 ·rw[List.mem_singleton]at hs
  subst hs
  exact h
 ·obtain⟨s,hs,e⟩:=zA hg
  rw[List.mem_singleton]at hs
  subst hs
  have:=(gY h e).2
  omega
 ·unfold blks
  cases hb:r.v.ownBlock<;>simp[hb]
theorem Own.wide{lo lo' hi hi':Nat}{w:World}{R:List Rw}(h:Own lo hi w R)(h1:lo'<=lo)(h2:hi<=hi'):Own lo' hi' w R:=
 ⟨fun r hr=>aS (h.own r hr) h1,fun g hg=>Nat.lt_of_lt_of_le (h.hi g hg) h2,h.nd⟩
theorem Own.app{lo mid hi:Nat}{w:World}{R S:List Rw}(h:Own lo mid w R)(k:Own mid hi w S)(h1:lo<=mid)(h2:mid<=hi):Own lo hi w (R++S):=by
 refine⟨fun r hr=> ?_,fun g hg=> ?_, ?_⟩
 ·rcases List.mem_append.1 hr with hr | hr
  ·exact h.own r hr
  ·exact aS (k.own r hr) h1
 ·rw[qy]at hg
  rcases List.mem_append.1 hg with hg | hg
  ·have:=h.hi g hg;omega
  ·exact k.hi g hg
 ·rw[qy,List.nodup_append]
  refine⟨h.nd,k.nd,fun a ha b hb e=> ?_⟩
  have:=h.hi a ha
  have:=k.lo b hb
  omega
theorem Own.right{lo hi:Nat}{w:World}{R S:List Rw}(h:Own lo hi w (R++S)):Own lo hi w S:=
 ⟨fun r hr=>h.own r (List.mem_append_right _ hr),fun g hg=>h.hi g (by rw[qy];exact List.mem_append_right _ hg),by
  have:=h.nd
  rw[qy,List.nodup_append]at this
  exact this.2.1⟩
theorem Own.blocks{lo hi:Nat}{w w':World}{R:List Rw}(h:Own lo hi w R)(hb:∀g∈blks R,w'.heap[g]? = w.heap[g]?):Own lo hi w' R:=
 ⟨fun r hr=>lN (h.own r hr) (fun g hg=>hb g (qP hr hg)),h.hi,h.nd⟩
theorem Own.lt{lo hi:Nat}{w:World}{R:List Rw}(h:Own lo hi w R):∀g∈blks R,g<w.heap.size:=fun g hg=>by
 obtain⟨r,hr,e⟩:=zA hg
 exact(gY (h.own r hr) e).2
theorem Own.below{lo hi:Nat}{w w':World}{R:List Rw}(h:Own lo hi w R)(hb:Below w.heap.size w w'):Own lo hi w' R:=
 h.blocks fun g hg=>hb.block g (h.lt g hg)
theorem Own.grown{lo hi:Nat}{w w':World}{R:List Rw}{row:Option Nat}(h:Own lo hi w R)(hg:w.grownBy w' row)(hr:∀g∈blks R,some g≠row):Own lo hi w' R:=
 h.blocks fun g hm=>hg.block g (h.lt g hm) (hr g hm)
theorem Own.tch{lo hi a b:Nat}{w w':World}{R:List Rw}(h:Own lo hi w R)(ht:Tch a b w w')(hb:b<=lo):Own lo hi w' R:=
 h.blocks fun g hm=>ht.block g (h.lt g hm) (Or.inr (by have:=h.lo g hm;omega))
theorem Own.set{lo hi:Nat}{w w':World}{A B:List Rw}{r r':Rw}(h:Own lo hi w (A++r::B))(hv:r'.v=r.v)(hg:w.grownBy w' r.v.ownBlock)(ho:w'.ownsRow lo r'.e r'.z r'.v r'.n r'.xs):Own lo hi w' (A++r'::B):=by
 have hbl:blks (A++r'::B)=blks (A++r::B):=by
  unfold blks
  rw[List.filterMap_append,List.filterMap_append,List.filterMap_cons,List.filterMap_cons,hv]
 have hn:=h.nd
 have key:∀s,(s∈A∨s∈B)->∀g,s.v.ownBlock=some g->some g≠r.v.ownBlock:=fun s hs g hsg e=>by
  rw[qy]at hn
  have e2:blks (r::B)=g::blks B:=by unfold blks;rw[List.filterMap_cons,←e]
  rw[e2]at hn
  rcases hs with hs | hs
  ·exact(List.nodup_append.1 hn).2.2 g (qP hs hsg) g (by simp) rfl
  ·have:=(List.nodup_append.1 hn).2.1
   rw[List.nodup_cons]at this
   exact this.1 (qP hs hsg)
 refine⟨fun s hs=> ?_,by rw[hbl];exact h.hi,by rw[hbl];exact h.nd⟩
 rcases List.mem_append.1 hs with hs | hs
 ·have ho:=h.own s (List.mem_append_left _ hs)
  exact lN ho fun g e=>hg.block g (gY ho e).2 (key s (Or.inl hs) g e)
 ·rcases List.mem_cons.1 hs with rfl | hs
  ·exact ho
  ·have ho:=h.own s (List.mem_append_right _ (List.mem_cons_of_mem _ hs))
   exact lN ho fun g e=>hg.block g (gY ho e).2 (key s (Or.inr hs) g e)
def xg:Value:= .slice none 0 0
def cO(v:Value)(l:Rcl):Rw:=⟨46,4,v,l.length,flR l⟩
def nRow(v:Value)(l:Prl):Rw:=⟨63,2,v,l.length,(fl l).map (Value.int .i64)⟩
def hRow(v:Value)(l:Hdl):Rw:=⟨136,5,v,l.length,flH l⟩
def fA(v:Value)(us:List Value):Rw:=⟨36,1,v,us.length,us⟩
def uAt(us:List Value)(j:Nat):Value:=us.getD j xg
def bJ(us:List Value)(p:Pst):Nat->List Rw
 | 0=>[]
 | k+1=>bJ us p k++[cO (uAt us k) (dAt p k)]
theorem EC(us:List Value)(p:Pst):∀k j,j<k->cO (uAt us j) (dAt p j)∈bJ us p k
 | k+1,j,h=>by
  show _∈bJ us p k++[cO (uAt us k) (dAt p k)]
  by_cases e:j=k
  ·subst e;simp
  ·exact List.mem_append_left _ (EC us p k j (by omega))
theorem U5{us:List Value}{u:Value}{j:Nat}(h:j<us.length):uAt (us++[u]) j=uAt us j:=by
 unfold uAt
 rw[List.getD_eq_getElem?_getD,List.getD_eq_getElem?_getD,List.getElem?_append_left h]
theorem Td(us:List Value)(u:Value):uAt (us++[u]) us.length=u:=by
 unfold uAt
 rw[List.getD_eq_getElem?_getD,List.getElem?_append_right (Nat.le_refl _)]
 simp
theorem I5{us us':List Value}{p p':Pst}:∀k,(∀j,j<k->uAt us j=uAt us' j/\dAt p j=dAt p' j)->bJ us p k=bJ us' p' k
 | 0,_=>rfl
 | k+1,h=>by
  show bJ us p k++[cO (uAt us k) (dAt p k)]=bJ us' p' k++[cO (uAt us' k) (dAt p' k)]
  rw[I5 k (fun j hj=>h j (by omega)),(h k (by omega)).1,(h k (by omega)).2]
def FY(v:Sv)(us:List Value)(s:St):List Rw:=[cO v.d s.d]++([nRow v.n s.n]++([hRow v.h s.h]++([fA v.p us]++bJ us s.p s.p.length)))
structure dD(lo hi:Nat)(w:World)(v:Sv)(us:List Value)(s:St):Prop where
 own:Own lo hi w (FY v us s)
 len:us.length=s.p.length
theorem UG{lo hi:Nat}{w:World}{v:Value}{us:List Value}{p:Pst}(h:Own lo hi w ([fA v us]++bJ us p p.length))(hl:us.length=p.length):Dss w v p:=by
 have h0:=h.own (fA v us) (by simp)
 have h1:w.ownsRow lo 36 1 v us.length us:=h0
 rcases h1.2 with⟨rfl,hn⟩ |⟨g,cap,cur,rfl,hB,hg,_⟩
 ·left
  exact⟨List.eq_nil_of_length_eq_zero (by omega),none,0,rfl⟩
 ·right
  refine⟨g,0,cap,by rw[hl],(Array.getElem?_eq_some_iff.1 hg).1,fun j hj=> ?_⟩
  have hr:=h.own _ (List.mem_append_right _ (EC us p p.length j hj))
  have hr:w.ownsRow lo 46 4 (uAt us j) (dAt p j).length (flR (dAt p j)):=hr
  refine⟨uAt us j, ?_,L8 hr⟩
  rw[Nat.zero_add]
  have:=h1.cellAt j (by omega)
  rw[this]
  unfold uAt
  rw[List.getD_eq_getElem?_getD,List.getElem?_eq_getElem (by omega)]
  rfl
theorem dD.sts{lo hi:Nat}{w:World}{v:Sv}{us:List Value}{s:St}(h:dD lo hi w v us s):Sts w v s:=by
 have h1:=h.own.own (cO v.d s.d) (by simp[FY])
 have h2:=h.own.own (nRow v.n s.n) (by simp[FY])
 have h3:=h.own.own (hRow v.h s.h) (by simp[FY])
 refine⟨L8 (B:=lo) (e:=46) h1,aP (B:=lo) (e:=63) h2,UH (B:=lo) (e:=136) h3,UG (lo:=lo) (hi:=hi) (us:=us) ?_ h.len⟩
 exact h.own.right.right.right
theorem dD.below{lo hi:Nat}{w w':World}{v:Sv}{us:List Value}{s:St}(h:dD lo hi w v us s)(hb:Below w.heap.size w w'):dD lo hi w' v us s:=⟨h.own.below hb,h.len⟩
theorem dD.tch{lo hi a b:Nat}{w w':World}{v:Sv}{us:List Value}{s:St}(h:dD lo hi w v us s)(ht:Tch a b w w')(hb:b<=lo):dD lo hi w' v us s:=⟨h.own.tch ht hb,h.len⟩
theorem dD.wide{lo lo' hi hi':Nat}{w:World}{v:Sv}{us:List Value}{s:St}(h:dD lo hi w v us s)(h1:lo'<=lo)(h2:hi<=hi'):dD lo' hi' w v us s:=⟨h.own.wide h1 h2,h.len⟩
theorem Qx(a:Option Addr)(n c:Nat)(z:Int)(w:World)(hn:n<=maxLen)(hz:0<=z/\z<=1048576):
  Calls Tryz.prog 43 #[.slice a n c,.int .i64 z] w fun e w'=>e = .returned (.int .i64 (if z - n<0 then -1 else z - n))/\Below w.heap.size w w':=by
 unfold maxLen at hn
 by_cases h:z - n<0
 ·rw[if_pos h]
  go_enter Tryz.func43,Tryz.ntmps43
  go_wp2
  go_ret
  exact⟨rfl,Below.refl _ _⟩
 ·rw[if_neg h]
  go_enter Tryz.func43,Tryz.ntmps43
  go_wp2
  go_ret
  exact⟨rfl,Below.refl _ _⟩
theorem Qw(a:Option Addr)(n c:Nat)(z:Int)(w:World)(hn:n<=maxLen)(hz:0<=z/\z<=1048576):
  Calls Tryz.prog 33 #[.slice a n c,.int .i64 z] w fun e w'=>e = .returned (.int .i64 (if z - n<0 then -1 else z - n))/\Below w.heap.size w w':=by
 unfold maxLen at hn
 by_cases h:z - n<0
 ·rw[if_pos h]
  go_enter Tryz.func33,Tryz.ntmps33
  go_wp2
  go_ret
  exact⟨rfl,Below.refl _ _⟩
 ·rw[if_neg h]
  go_enter Tryz.func33,Tryz.ntmps33
  go_wp2
  go_ret
  exact⟨rfl,Below.refl _ _⟩
def szD(p:Pst)(z:Int):Nat->Int
 | 0=>z - p.length
 | k+1=>if szD p z k<0 then -1 else szR (dAt p k) (szD p z k)
theorem MI{l:Rcl}{z:Int}(h:szR l z<0):szR l z = -1:=by
 unfold szR at h ⊢
 by_cases h1:szT l z l.length<0<;>simp[h1]at h ⊢
theorem WE{l:Rcl}{z:Int}(h0:0<=z):szR l z<=z:=by
 unfold szR
 split
 ·omega
 ·exact C9
theorem yj{p:Pst}{z:Int}{k:Nat}(h:szD p z k<0):∀d,szD p z (k+d)<0
 | 0=>h
 | d+1=>by
  have:=yj h d
  show(if szD p z (k+d)<0 then -1 else szR (dAt p (k+d)) (szD p z (k+d)))<0
  rw[if_pos this]
  omega
theorem xK{p:Pst}{z:Int}(hz:0<=z):∀k,szD p z k<=z
 | 0=>by show z - p.length<=z;omega
 | k+1=>by
  have:=xK (p:=p) hz k
  show(if szD p z k<0 then -1 else szR (dAt p k) (szD p z k))<=z
  split
  ·omega
  ·have:=WE (l:=dAt p k) (z:=szD p z k) (by omega)
   omega
def szP(p:Pst)(z:Int):Int:=if szD p z p.length<0 then -1 else szD p z p.length
theorem U0{l:Rcl}{z:Int}(hz:z<=1048576)(h:¬szR l z<0):szR l z<=z - l.length:=by
 have h1:=(CZ hz h).2.2.2
 have h2:=lS l z 0 l.length
 rw[Nat.zero_add]at h2
 have h3:szT l z 0=z - l.length:=rfl
 omega
theorem MH{p:Pst}{z:Int}(hz:z<=1048576)(h0:0<=z):∀k,¬szD p z k<0->szD p z k<=z - tot p k
 | 0,_=>by
  show z - p.length<=z - ((0:Nat):Int)
  omega
 | k+1,h=>by
  have e:szD p z (k+1)=if szD p z k<0 then -1 else szR (dAt p k) (szD p z k):=rfl
  by_cases h1:szD p z k<0
  ·rw[e,if_pos h1]at h;omega
  ·have h2:=MH hz h0 k h1
   rw[e,if_neg h1]at h ⊢
   have h3:=xK (p:=p) h0 k
   have h4:=U0 (by omega) h
   have e2:tot p (k+1)=tot p k+(dAt p k).length:=rfl
   rw[e2]
   omega
theorem WC{p:Pst}{z:Int}(hz:z<=1048576)(h0:0<=z)(h:¬szP p z<0):p.length<=1048576/\(∀j,j<p.length->(dAt p j).length<=1048576/\Lbs (dAt p j))/\∀j,j<=p.length->tot p j<=1048576:=by
 unfold szP at h
 by_cases h1:szD p z p.length<0
 ·rw[if_pos h1]at h;omega
 ·have hk:∀k,k<=p.length->¬szD p z k<0:=fun k hk hn=>by
   have:=yj hn (p.length - k)
   rw[show k+(p.length - k)=p.length by omega]at this
   exact h1 this
  refine⟨?_,fun j hj=> ?_,fun j hj=> ?_⟩
  ·have h2:=hk 0 (Nat.zero_le _)
   have e:szD p z 0=z - p.length:=rfl
   rw[e]at h2
   omega
  ·have h2:=hk (j+1) hj
   have h3:=hk j (by omega)
   have e:szD p z (j+1)=if szD p z j<0 then -1 else szR (dAt p j) (szD p z j):=rfl
   rw[e,if_neg h3]at h2
   have:=xK (p:=p) h0 j
   have:=CZ (l:=dAt p j) (z:=szD p z j) (by omega) h2
   exact⟨this.1,this.2.1⟩
  ·have:=MH hz h0 j (hk j hj)
   have:=hk j hj
   omega
theorem yM(b off c n:Nat)(p:Pst)(z:Int)(w:World)(HN:Hid (n=p.length))(hn:n<=1048576)(hz:0<=z/\z<=1048576)(hnz:¬z - n<0)(hb:b<w.heap.size)(hM:∀j,j<n->(dAt p j).length<=maxLen/\LbM (dAt p j))(hc:∀j,j<n->∃u,w.cell? ⟨b,off+j,none⟩=some u/\Rcs w u (dAt p j)):
  Calls Tryz.prog 44 #[.slice (some ⟨b,off,none⟩) n c,.int .i64 z] w fun e w'=>e = .returned (.int .i64 (szP p z))/\Below w.heap.size w w':=by
 have e0:szD p z 0=z - n:=by rw[HN.out];rfl
 have HZ:Hid (szP p z=if szD p z n<0 then -1 else szD p z n):=(by rw[HN.out];rfl:szP p z=if szD p z n<0 then -1 else szD p z n)
 have HM:Hid (∀k d,szD p z k<0->szD p z (k+d)<0):=fun k d h=>yj h d
 have HL:Hid (∀k,szD p z k<=z):=fun k=>xK hz.1 k
 generalize szP p z=q at *
 go_enter Tryz.func44,Tryz.ntmps44
 go_wp2
 go_loopw [1,5] (fun u i wr=>∃k:Nat,k<=n/\i = .int .i64 k/\u = .int .i64 (szD p z k)/\0<=szD p z k/\Hid (Below w.heap.size w wr)) (fun _ i _=>n - (intOf i).toNat)
 case atStart=>exact⟨0,Nat.zero_le _,rfl,by rw[e0],by omega,Below.refl _ _⟩
 case round=>
  obtain⟨k,hk,rfl,rfl,h0,hB⟩:=hrel
  by_cases hkn:k<n
  ·have hki:(k:Int)<(n:Int):=by omega
   obtain⟨u,hu,hr⟩:=hc k hkn
   have d0:=(hB.out.cell (p:=⟨b,off+k,none⟩) hb).trans hu
   have hbr:b<wr.heap.size:=Nat.lt_of_lt_of_le hb hB.out.size
   have hS:=rY u (dAt p k) (szD p z k) wr (hr.below hB.out) (hM k hkn).2 (hM k hkn).1 ⟨h0,by have:=HL.out k;omega⟩
   have HX:Hid (szD p z (k+1)=szR (dAt p k) (szD p z k)):=(by show(if szD p z k<0 then -1 else szR (dAt p k) (szD p z k))=_;rw[if_neg (by omega)]:szD p z (k+1)=szR (dAt p k) (szD p z k))
   have HQ:Hid (szR (dAt p k) (szD p z k)<0->q = -1):=(fun h=>by
    have:=HM.out (k+1) (n - (k+1)) (by rw[HX.out];exact h)
    rw[show k+1+(n - (k+1))=n by omega]at this
    rw[HZ.out,if_pos this]:szR (dAt p k) (szD p z k)<0->q = -1)
   have HNE:Hid (szR (dAt p k) (szD p z k)<0->szR (dAt p k) (szD p z k) = -1):=MI
   obtain⟨a,c',rfl⟩:=hr.shape
   generalize (dAt p k).length=m at *
   generalize szR (dAt p k) (szD p z k)=s1 at *
   have Gh:Hid (szD p z (k+1)=s1):=HX
   generalize szD p z k=s0 at *
   clear hc hM HX hr hu
   by_cases hlt:s1<0
   ·have gG:Hid (q = -1):=HQ.out hlt
    clear HQ
    go_wp2_with fail
    refine hS.mono ?_
    rintro e w1 ⟨rfl,hb1⟩
    have HB1:Hid (Below w.heap.size w w1):=ah hB.out hb1
    clear hS hb1
    go_wp2
    go_ret
    exact⟨aG gG.out.symm,HB1.out⟩
   ·clear HQ
    go_wp2_with fail
    refine hS.mono ?_
    rintro e w1 ⟨rfl,hb1⟩
    have HB1:Hid (Below w.heap.size w w1):=ah hB.out hb1
    clear hS hb1
    go_wp2
    go_roundw
    case rel=>exact⟨k+1,by omega,by go_num,by rw[Gh.out],by rw[Gh.out];omega,HB1⟩
    case measure=>simp[intOf];omega
  ·have hkn:k=n:=by omega
   subst hkn
   have gG:Hid (q=szD p z k):=(by rw[HZ.out,if_neg (by omega)]:q=szD p z k)
   generalize szD p z k=s0 at *
   clear hc
   go_wp2
   go_ret
   exact⟨aG gG.out.symm,hB.out⟩
theorem AQ(v:Value)(p:Pst)(z:Int)(w:World)(hv:Dss w v p)(hM:∀j,j<p.length->(dAt p j).length<=maxLen/\LbM (dAt p j))(hx:p.length<=maxLen)(hz:0<=z/\z<=1048576):
  Calls Tryz.prog 44 #[v,.int .i64 z] w fun e w'=>e = .returned (.int .i64 (szP p z))/\Below w.heap.size w w':=by
 obtain⟨a,c,rfl⟩:=hv.shape
 by_cases h:z - p.length<0
 ·have HQ:szP p z = -1:=by
   have h2:=yj (p:=p) (z:=z) (k:=0) h p.length
   rw[Nat.zero_add]at h2
   unfold szP
   rw[if_pos h2]
  rw[HQ]
  generalize p.length=n at *
  unfold maxLen at hx
  clear hv HQ hM
  go_enter Tryz.func44,Tryz.ntmps44
  go_wp2
  go_ret
  exact⟨rfl,Below.refl _ _⟩
 ·by_cases h0:0<p.length
  ·obtain⟨_,b,off,rfl,hb,hc⟩:=hv.at h0
   exact yM b off c p.length p z w rfl (by omega) hz h hb hM hc
  ·have e1:p=[]:=List.eq_nil_of_length_eq_zero (by omega)
   subst e1
   have e2:szP [] z=z:=by
    have e3:szD [] z 0=z:=by show z - 0=z;omega
    show(if szD [] z 0<0 then -1 else szD [] z 0)=z
    rw[e3,if_neg (by omega)]
   rw[e2]
   simp only[List.length_nil]
   have hzn:¬z<0:=by omega
   clear hv h0 hx h e2 hM
   go_enter Tryz.func44,Tryz.ntmps44
   go_wp2
   refine wp_loop_rounds 1 ?_;rw[rounds_succ]
   go_wp2
   go_ret
   exact⟨rfl,Below.refl _ _⟩
def szN(n:Nat)(z:Int):Int:=if z - n<0 then -1 else z - n
def szS(s:St)(z:Int):Int:=
 if szR s.d z<0 then -1 else if szN s.n.length (szR s.d z)<0 then -1 else if szN s.h.length (szN s.n.length (szR s.d z))<0 then -1 else szP s.p (szN s.h.length (szN s.n.length (szR s.d z)))
theorem CY{n:Nat}{z:Int}(hz:z<=1048576)(h:¬szN n z<0):n<=1048576/\0<=szN n z/\szN n z<=z:=by
 unfold szN at h ⊢
 by_cases h1:z - n<0
 ·rw[if_pos h1]at h;omega
 ·rw[if_neg h1];omega
theorem WB{p:Pst}{z:Int}(h0:0<=z):szP p z<=z:=by
 unfold szP
 split
 ·omega
 ·exact xK h0 _
theorem WG{s:St}{z:Int}(h0:0<=z)(hz:z<=1048576)(h:¬szS s z<0):StB s/\0<=szS s z/\szS s z<=z:=by
 unfold szS at h ⊢
 by_cases h1:szR s.d z<0
 ·rw[if_pos h1]at h;omega
 ·rw[if_neg h1]at h ⊢
  have k1:=CZ hz h1
  by_cases h2:szN s.n.length (szR s.d z)<0
  ·rw[if_pos h2]at h;omega
  ·rw[if_neg h2]at h ⊢
   have k2:=CY (by omega) h2
   by_cases h3:szN s.h.length (szN s.n.length (szR s.d z))<0
   ·rw[if_pos h3]at h;omega
   ·rw[if_neg h3]at h ⊢
    have k3:=CY (by omega) h3
    have k4:=WC (by omega) (by omega) h
    have k5:=WB (p:=s.p) (z:=szN s.h.length (szN s.n.length (szR s.d z))) (by omega)
    exact⟨⟨k1.1,k1.2.1,k2.1,k3.1,k4.1,k4.2.1,k4.2.2⟩,by omega,by omega⟩
theorem KP(s:St)(v:Sv)(z:Int)(w:World)(hv:Sts w v s)(hA:StA s)(hz:0<=z/\z<=1048576):
  Calls Tryz.prog 8 #[stV s v,.int .i64 z] w fun e w'=>e = .returned (.int .i64 (szS s z))/\Below w.heap.size w w':=by
 obtain⟨W,hW⟩:∃W,W=w.alloc (stC s v 29):=⟨_,rfl⟩
 have hBW:Below w.heap.size w W:=by rw[hW];exact aj _
 have HC:Hid (StC W w.heap.size s v):=(by rw[hW];exact StC.new w s v _:StC W w.heap.size s v)
 have eY:=hv.below hBW
 have hD:=rY v.d s.d z W eY.d hA.dl hA.d hz
 have HP:Hid (∀z w',0<=z/\z<=1048576->Below W.heap.size W w'->Calls Tryz.prog 44 #[v.p,.int .i64 z] w' fun e w''=>e = .returned (.int .i64 (szP s.p z))/\Below w'.heap.size w' w''):=fun z w' hz h=>AQ v.p s.p z w' (eY.p.below h) hA.pd hA.p hz
 have hok1:=fun h=>CZ (l:=s.d) (z:=z) hz.2 h
 have yP:Hid (∀z,szP s.p z<0->szP s.p z = -1):=fun z h=>by
  unfold szP at h ⊢
  by_cases h1:szD s.p z s.p.length<0<;>simp[h1]at h ⊢
 have Zj:=hA.n
 have oO:=hA.h
 obtain⟨a1,c1,e1⟩:=hv.d.shape
 obtain⟨a2,c2,e2⟩:=hv.n.shape
 obtain⟨a3,c3,e3⟩:=hv.h.shape
 obtain⟨a4,c4,e4⟩:=hv.p.shape
 obtain⟨ph,cu,d,n,h,p⟩:=s
 obtain⟨vd,vn,vh,vp⟩:=v
 dsimp only at *
 subst e1 e2 e3 e4
 unfold stV szS
 dsimp only
 have HW:Hid (w.alloc (.cells #[.int .i64 ph,.int .i64 cu,.slice a1 d.length c1,.slice a2 n.length c2,.slice a3 h.length c3,.slice a4 p.length c4] 29)=W):=hW.symm
 clear hW
 have HC2:Hid (∀w',Below W.heap.size W w'->StC w' w.heap.size ⟨ph,cu,d,n,h,p⟩ ⟨.slice a1 d.length c1,.slice a2 n.length c2,.slice a3 h.length c3,.slice a4 p.length c4⟩):=fun w' hb=>HC.out.below hb HC.out.lt
 have OL:Hid (∀k:Nat,∀z,szN k z<0->szN k z = -1):=fun k z h=>by
  unfold szN at h ⊢
  by_cases h1:z - k<0
  ·rw[if_pos h1]
  ·rw[if_neg h1]at h;omega
 have HD1:Hid (szR d z<0->szR d z = -1):=MI
 generalize szR d z=z1 at *
 clear hv eY hA HC
 by_cases h1:z1<0
 ·rw[if_pos h1]
  have e:=HD1.out h1
  subst e
  generalize d.length=dn at *
  generalize n.length=nn at *
  generalize h.length=hn at *
  generalize p.length=pn at *
  clear hok1 HP yP HC2
  go_enter Tryz.func8,Tryz.ntmps8
  go_wp2_with fail
  rw[HW.out]
  refine hD.mono ?_
  rintro e w1 ⟨rfl,hb1⟩
  have HB:Hid (Below w.heap.size w w1):=ah hBW hb1
  clear hD hb1
  go_wp2
  go_ret
  exact⟨rfl,HB.out⟩
 ·rw[if_neg h1]
  obtain⟨-,-,k1,-⟩:=hok1 h1
  clear hok1 HD1
  have hN:=fun w=>Qx a2 n.length c2 z1 w Zj ⟨by omega,by omega⟩
  have e5:(if z1 - (n.length:Int)<0 then -1 else z1 - (n.length:Int))=szN n.length z1:=rfl
  rw[e5]at hN
  have hok2:=fun h=>CY (n:=n.length) (z:=z1) (by omega) h
  have F9:=OL.out n.length z1
  generalize szN n.length z1=z2 at *
  clear e5
  by_cases h2:z2<0
  ·rw[if_pos h2]
   have e:=F9 h2
   subst e
   generalize d.length=dn at *
   generalize n.length=nn at *
   generalize h.length=hn at *
   generalize p.length=pn at *
   clear hok2 HP yP OL F9
   go_enter Tryz.func8,Tryz.ntmps8
   go_wp2_with fail
   rw[HW.out]
   refine hD.mono ?_
   rintro e w1 ⟨rfl,hb1⟩
   have HB:Hid (Below w.heap.size w w1):=ah hBW hb1
   have k3:=(HC2.out _ hb1).c3
   dsimp only at k3
   clear hD hb1
   go_wp2_with fail
   refine(hN _).mono ?_
   rintro e w2 ⟨rfl,hb2⟩
   have HB2:Hid (Below w.heap.size w w2):=ah HB.out hb2
   clear hN hb2
   go_wp2
   go_ret
   exact⟨rfl,HB2.out⟩
  ·rw[if_neg h2]
   obtain⟨-,k2,k3⟩:=hok2 h2
   clear hok2 F9
   have hH:=fun w=>Qw a3 h.length c3 z2 w oO ⟨by omega,by omega⟩
   have e5:(if z2 - (h.length:Int)<0 then -1 else z2 - (h.length:Int))=szN h.length z2:=rfl
   rw[e5]at hH
   have Rl:=fun h'=>CY (n:=h.length) (z:=z2) (by omega) h'
   have F9:=OL.out h.length z2
   generalize szN h.length z2=z3 at *
   clear e5
   by_cases h3:z3<0
   ·rw[if_pos h3]
    have e:=F9 h3
    subst e
    generalize d.length=dn at *
    generalize n.length=nn at *
    generalize h.length=hn at *
    generalize p.length=pn at *
    clear Rl HP yP OL F9
    go_enter Tryz.func8,Tryz.ntmps8
    go_wp2_with fail
    rw[HW.out]
    refine hD.mono ?_
    rintro e w1 ⟨rfl,hb1⟩
    have HB:Hid (Below W.heap.size W w1):=hb1
    have q3:=(HC2.out _ hb1).c3
    dsimp only at q3
    clear hD hb1
    go_wp2_with fail
    refine(hN _).mono ?_
    rintro e w2 ⟨rfl,hb2⟩
    have HB2:Hid (Below W.heap.size W w2):=ah HB.out hb2
    have q4:=(HC2.out _ HB2.out).c4
    dsimp only at q4
    clear hN hb2
    go_wp2_with fail
    refine(hH _).mono ?_
    rintro e w3 ⟨rfl,hb3⟩
    have HB3:Hid (Below w.heap.size w w3):=ah hBW (ah HB2.out hb3)
    clear hH hb3
    go_wp2
    go_ret
    exact⟨rfl,HB3.out⟩
   ·rw[if_neg h3]
    obtain⟨-,k4,k5⟩:=Rl h3
    clear Rl F9
    have Gg:=HP.out z3
    have QH:=yP.out z3
    generalize szP p z3=z4 at *
    generalize d.length=dn at *
    generalize n.length=nn at *
    generalize h.length=hn at *
    generalize p.length=pn at *
    clear HP yP OL
    by_cases h4:z4<0
    ·have e:=QH h4
     subst e
     clear QH
     go_enter Tryz.func8,Tryz.ntmps8
     go_wp2_with fail
     rw[HW.out]
     refine hD.mono ?_
     rintro e w1 ⟨rfl,hb1⟩
     have HB:Hid (Below W.heap.size W w1):=hb1
     have q3:=(HC2.out _ hb1).c3
     dsimp only at q3
     clear hD hb1
     go_wp2_with fail
     refine(hN _).mono ?_
     rintro e w2 ⟨rfl,hb2⟩
     have HB2:Hid (Below W.heap.size W w2):=ah HB.out hb2
     have q4:=(HC2.out _ HB2.out).c4
     dsimp only at q4
     clear hN hb2
     go_wp2_with fail
     refine(hH _).mono ?_
     rintro e w3 ⟨rfl,hb3⟩
     have HB3:Hid (Below W.heap.size W w3):=ah HB2.out hb3
     have q5:=(HC2.out _ HB3.out).c5
     dsimp only at q5
     have hP:=Gg w3 ⟨by omega,by omega⟩ HB3.out
     clear hH hb3 Gg
     go_wp2_with fail
     refine hP.mono ?_
     rintro e w4 ⟨rfl,hb4⟩
     have HB4:Hid (Below w.heap.size w w4):=ah hBW (ah HB3.out hb4)
     clear hP hb4
     go_wp2
     go_ret
     exact⟨rfl,HB4.out⟩
    ·clear QH
     go_enter Tryz.func8,Tryz.ntmps8
     go_wp2_with fail
     rw[HW.out]
     refine hD.mono ?_
     rintro e w1 ⟨rfl,hb1⟩
     have HB:Hid (Below W.heap.size W w1):=hb1
     have q3:=(HC2.out _ hb1).c3
     dsimp only at q3
     clear hD hb1
     go_wp2_with fail
     refine(hN _).mono ?_
     rintro e w2 ⟨rfl,hb2⟩
     have HB2:Hid (Below W.heap.size W w2):=ah HB.out hb2
     have q4:=(HC2.out _ HB2.out).c4
     dsimp only at q4
     clear hN hb2
     go_wp2_with fail
     refine(hH _).mono ?_
     rintro e w3 ⟨rfl,hb3⟩
     have HB3:Hid (Below W.heap.size W w3):=ah HB2.out hb3
     have q5:=(HC2.out _ HB3.out).c5
     dsimp only at q5
     have hP:=Gg w3 ⟨by omega,by omega⟩ HB3.out
     clear hH hb3 Gg
     go_wp2_with fail
     refine hP.mono ?_
     rintro e w4 ⟨rfl,hb4⟩
     have HB4:Hid (Below w.heap.size w w4):=ah hBW (ah HB3.out hb4)
     clear hP hb4
     go_wp2
     go_ret
     exact⟨rfl,HB4.out⟩
theorem Tryz.PN:(Tryz.prog.info? 36).map (fun i=>(i.zero,i.size,i.bytes))=some (some (.agg #[.slice none 0 0]),1,24):=by kernel_rfl
theorem Ew(n:Nat):(madeCells #[Value.slice none 0 0] n).toList=List.replicate n xg:=by
 apply List.ext_getElem?
 intro i
 by_cases hi:i<n
 ·have hm:(madeCells #[Value.slice none 0 0] n).toList[i]? = some (#[Value.slice none 0 0][i%1]!):=by
   simp only[madeCells,Array.toList_map,List.getElem?_map]
   rw[show(Array.range n).toList[i]? = some i by simp[hi]]
   rfl
  rw[hm,List.getElem?_replicate,if_pos hi,Nat.mod_one]
  rfl
 ·rw[List.getElem?_eq_none (by simp[madeCells];omega),List.getElem?_eq_none (by rw[List.length_replicate];omega)]
theorem Oj{w:World}{B g n cap:Nat}{e:TypeId}{xs:List Value}(h:w.ownsRow B e 1 (.slice (some ⟨g,0,none⟩) n cap) n xs){j:Nat}(hj:j<n):∃x,w.cell? ⟨g,j,none⟩=some x:=
 ⟨_,(h.cellAt j (by omega)).trans (List.getElem?_eq_getElem (by rw[h.1];omega))⟩
theorem UW{us:List Value}{n:Nat}(v:Value)(h:us.length<n):(us++List.replicate (n - us.length) xg).set us.length v=(us++[v])++List.replicate (n - (us.length+1)) xg:=by
 rw[List.set_append_right _ _ (Nat.le_refl _),Nat.sub_self]
 obtain⟨m,hm⟩:∃m,n - us.length=m+1:=⟨n - us.length - 1,by omega⟩
 rw[hm,show n - (us.length+1)=m by omega,List.replicate_succ,aaH,List.append_assoc]
 rfl
theorem Ol{us:List Value}{p:Pst}(v:Value):bJ (us++[v]) p (us.length+1)=bJ us p us.length++[cO v (dAt p us.length)]:=by
 show bJ (us++[v]) p us.length++[cO (uAt (us++[v]) us.length) (dAt p us.length)]=_
 rw[Td,I5 (us:=us++[v]) (us':=us) (p:=p) (p':=p) us.length (fun j hj=>⟨U5 hj,rfl⟩)]
theorem yN(b off c n:Nat)(p:Pst)(w:World)(HN:Hid (n=p.length))(hx:n<=1048576)(hb:b<w.heap.size)(hc:∀j,j<n->∃u,w.cell? ⟨b,off+j,none⟩=some u/\Rcs w u (dAt p j))(fE:∀j,j<n->(dAt p j).length<=1048576):
  Calls Tryz.prog 50 #[.slice (some ⟨b,off,none⟩) n c] w fun e w'=>∃us,e = .returned (.slice (some ⟨w.heap.size,0,none⟩) n n)/\us.length=n/\Below w.heap.size w w'/\Own w.heap.size w'.heap.size w' ([fA (.slice (some ⟨w.heap.size,0,none⟩) n n) us]++bJ us p n):=by
 obtain⟨i0,hi,hz0,hz1,hz2⟩:=info_parts Tryz.PN
 go_enter Tryz.func50,Tryz.ntmps50
 go_wp2_with (at_make;refine wpList_make_full _ rfl _ _ 39 rfl w.heap.size 36 i0 (.agg #[.slice none 0 0]) 1 Tryz.underlying39 hi hz0 hz1 _ _ _ _ n rfl rfl rfl rfl (by rw[hz2];omega) (by unfold maxLen;omega) (Nat.le_refl _) ?_)
 intro w1 hown1 hg1
 have cZ:w1.ownsRow w.heap.size 36 1 (.slice (some ⟨w.heap.size,0,none⟩) n n) n (List.replicate n xg):=by rw[←Ew];exact hown1
 have hB1:Below w.heap.size w w1:=(Below.refl _ _).grown hg1 (Nat.le_refl _) (fun k hk=>by cases hk)
 clear hown1 hg1
 go_wp2
 go_loopw [4] (fun i wr=>∃(k:Nat)(us:List Value),k<=n/\i = .int .i64 k/\Hid (us.length=k)/\Hid (Below w.heap.size w wr)/\w.heap.size<wr.heap.size/\Hid (wr.ownsRow w.heap.size 36 1 (.slice (some ⟨w.heap.size,0,none⟩) n n) n (us++List.replicate (n - k) xg))/\Hid (Own (w.heap.size+1) wr.heap.size wr (bJ us p k))) (fun i _=>n - (intOf i).toNat)
 case atStart=>exact⟨0,[],Nat.zero_le _,rfl,rfl,hB1,(cZ.lt _ rfl).2,cZ,Own.nil _ _ _⟩
 case round=>
  obtain⟨k,us,hk,rfl,HU,hB,hsz,ho,HR⟩:=hrel
  by_cases hkn:k<n
  ·have hki:(k:Int)<(n:Int):=by omega
   obtain⟨u,hu,hr⟩:=hc k hkn
   have d0:=(hB.out.cell (p:=⟨b,off+k,none⟩) hb).trans hu
   have hbr:b<wr.heap.size:=Nat.lt_of_lt_of_le hb hB.out.size
   have hT:=rZ u (dAt p k) wr (hr.below hB.out) (fE k hkn)
   obtain⟨ua,uc,rfl⟩:=hr.shape
   have HM:Hid (dAt p k=dAt p us.length):=(by rw[HU.out]:dAt p k=dAt p us.length)
   obtain⟨m,hm⟩:∃m,m=(dAt p k).length:=⟨_,rfl⟩
   have XF:Hid (m=(dAt p k).length):=hm
   rw[←hm]at hT d0
   clear hc fE cZ hB1 hr hu hm
   go_wp2_with fail
   refine hT.mono ?_
   rintro e w2 ⟨a2,c2,rfl,hb2,o2⟩
   have ho2:=own_below ho.out hb2
   have f0:=ho2.frozenAt k
   obtain⟨z0,g0⟩:=Oj ho2 (j:=k) (by omega)
   obtain⟨s1,r1⟩:=ho2.stored k (.slice a2 m c2)
   have Gh:Hid ((w2.setCell ⟨w.heap.size,k,none⟩ (.slice a2 m c2)).ownsRow w.heap.size 36 1 (.slice (some ⟨w.heap.size,0,none⟩) n n) n ((us++[.slice a2 m c2])++List.replicate (n - (k+1)) xg)):=(by
    have:=HU.out
    subst this
    rw[UW _ hkn]at s1
    exact s1:(w2.setCell ⟨w.heap.size,k,none⟩ (.slice a2 m c2)).ownsRow w.heap.size 36 1 (.slice (some ⟨w.heap.size,0,none⟩) n n) n ((us++[.slice a2 m c2])++List.replicate (n - (k+1)) xg))
   have hsz2:w.heap.size<w2.heap.size:=by have:=hb2.size;omega
   have HR1:Hid (Own (w.heap.size+1) w2.heap.size (w2.setCell ⟨w.heap.size,k,none⟩ (.slice a2 m c2)) (bJ (us++[.slice a2 m c2]) p (k+1))):=(by
    have e1:=HU.out
    subst e1
    rw[Ol]
    have A:=HR.out.below hb2
    have B:Own wr.heap.size w2.heap.size w2 [cO (.slice a2 m c2) (dAt p us.length)]:=Own.single (by
     show w2.ownsRow wr.heap.size 46 4 (.slice a2 m c2) (dAt p us.length).length (flR (dAt p us.length))
     rw[←XF.out]
     exact o2) (Nat.le_refl _)
    have C:=A.app B (by omega) hb2.size
    exact C.grown r1 (fun g hg e=>by
     have:=C.lo g hg
     have e3:some g=some w.heap.size:=e
     cases e3
     omega):Own (w.heap.size+1) w2.heap.size (w2.setCell ⟨w.heap.size,k,none⟩ (.slice a2 m c2)) (bJ (us++[.slice a2 m c2]) p (k+1)))
   have HB2:Hid (Below w.heap.size w (w2.setCell ⟨w.heap.size,k,none⟩ (.slice a2 m c2))):=(ah hB.out hb2).setCell (Nat.le_refl _) _
   have Y6:Hid ((us++[Value.slice a2 m c2]).length=k+1):=(by rw[List.length_append,HU.out];rfl:(us++[Value.slice a2 m c2]).length=k+1)
   clear ho2 s1 r1 hb2 hT o2 ho HR HU HM XF
   go_wp2
   go_roundw
   case rel=>exact⟨k+1,us++[.slice a2 m c2],by omega,by go_num,Y6,HB2,by simp;omega,Gh,(by show Own _ _ _ _;simpa using HR1.out)⟩
   case measure=>simp[intOf];omega
  ·have hkn:k=n:=by omega
   subst hkn
   have ho1:=ho.out
   rw[Nat.sub_self,List.replicate_zero,List.append_nil]at ho1
   have HO:Hid (Own w.heap.size wr.heap.size wr ([fA (.slice (some ⟨w.heap.size,0,none⟩) k k) us]++bJ us p k)):=(by
    have A:Own w.heap.size (w.heap.size+1) wr [fA (.slice (some ⟨w.heap.size,0,none⟩) k k) us]:=by
     refine⟨fun r hr=> ?_,fun g hg=> ?_, ?_⟩
     ·rw[List.mem_singleton]at hr
      subst hr
      show wr.ownsRow w.heap.size 36 1 (.slice (some ⟨w.heap.size,0,none⟩) k k) us.length us
      rw[HU.out]
      exact ho1
     ·have e:blks [fA (.slice (some ⟨w.heap.size,0,none⟩) k k) us]=[w.heap.size]:=rfl
      rw[e,List.mem_singleton]at hg
      omega
     ·have e:blks [fA (.slice (some ⟨w.heap.size,0,none⟩) k k) us]=[w.heap.size]:=rfl
      rw[e]
      simp
    exact A.app HR.out (by omega) (by omega):Own w.heap.size wr.heap.size wr ([fA (.slice (some ⟨w.heap.size,0,none⟩) k k) us]++bJ us p k))
   clear hc fE ho1 ho cZ hB1
   go_wp2
   go_ret
   exact⟨us,rfl,HU.out,hB.out,HO.out⟩
structure Tj(w:World)(p:Pst)(v:Value)(us:List Value)(w':World):Prop where
 len:us.length=p.length
 below:Below w.heap.size w w'
 own:Own w.heap.size w'.heap.size w' ([fA v us]++bJ us p p.length)
 sh:∃a c,v = .slice a p.length c
theorem AU(v:Value)(p:Pst)(w:World)(hv:Dss w v p)(hx:p.length<=1048576)(fE:∀j,j<p.length->(dAt p j).length<=1048576):
  Calls Tryz.prog 50 #[v] w fun e w'=>∃u us,e = .returned u/\Tj w p u us w':=by
 obtain⟨a,c,rfl⟩:=hv.shape
 by_cases h0:0<p.length
 ·obtain⟨_,b,off,rfl,hb,hc⟩:=hv.at h0
  refine(yN b off c p.length p w rfl hx hb hc fE).mono ?_
  rintro e w' ⟨us,rfl,h1,h2,h3⟩
  exact⟨_,us,rfl,h1,h2,h3,_,_,rfl⟩
 ·have e1:p=[]:=List.eq_nil_of_length_eq_zero (by omega)
  subst e1
  obtain⟨i0,hi,hz0,hz1,hz2⟩:=info_parts Tryz.PN
  simp only[List.length_nil]at *
  clear hv h0
  go_enter Tryz.func50,Tryz.ntmps50
  go_wp2_with (at_make;refine wpList_make_full _ rfl _ _ 39 rfl w.heap.size 36 i0 (.agg #[.slice none 0 0]) 1 Tryz.underlying39 hi hz0 hz1 _ _ _ _ 0 rfl rfl rfl rfl (by rw[hz2];omega) (by unfold maxLen;omega) (Nat.le_refl _) ?_)
  intro w1 hown1 hg1
  have hB1:Below w.heap.size w w1:=(Below.refl _ _).grown hg1 (Nat.le_refl _) (fun k hk=>by cases hk)
  have HO:Hid (w1.ownsRow w.heap.size 36 1 (.slice (some ⟨w.heap.size,0,none⟩) 0 0) 0 []):=(by rw[Ew]at hown1;exact hown1:w1.ownsRow w.heap.size 36 1 (.slice (some ⟨w.heap.size,0,none⟩) 0 0) 0 [])
  clear hown1 hg1
  go_wp2
  refine wp_loop_rounds 1 ?_;rw[rounds_succ]
  go_wp2
  go_ret
  exact⟨_,[],rfl,rfl,hB1,Own.single (r:=fA _ []) HO.out (Nat.le_refl _),_,_,rfl⟩
structure FT(w:World)(s:St)(v:Sv)(us:List Value)(w':World):Prop where
 below:Below w.heap.size w w'
 own:dD w.heap.size w'.heap.size w' v us s
theorem FT.sts{w:World}{s:St}{v:Sv}{us:List Value}{w':World}(h:FT w s v us w'):Sts w' v s:=h.own.sts
theorem Own.setCell{lo hi:Nat}{w:World}{R:List Rw}(h:Own lo hi w R)(a:Addr)(ha:a.block<lo)(x:Value):Own lo hi (w.setCell a x) R:=
 h.blocks fun g hg=>heap_setCell_other w a g x (by have:=h.lo g hg;omega)
theorem dD.setCell{lo hi:Nat}{w:World}{v:Sv}{us:List Value}{s:St}(h:dD lo hi w v us s)(a:Addr)(ha:a.block<lo)(x:Value):dD lo hi (w.setCell a x) v us s:=⟨h.own.setCell a ha x,h.len⟩
structure TsI(N:Nat)(s:St)(v:Sv)(x2 x3 x4 x5:Value)(w:World):Prop where
 a:w.heap[N]? = some (stC s v 29)
 z:w.heap[N+1]? = some (.cells #[.int .i64 0,.int .i64 0,.slice none 0 0,.slice none 0 0,.slice none 0 0,.slice none 0 0] 41)
 o:w.heap[N+1+1]? = some (.cells #[.int .i64 s.ph,.int .i64 s.cu,x2,x3,x4,x5] 41)
theorem TsI.lt{N:Nat}{s:St}{v:Sv}{x2 x3 x4 x5:Value}{w:World}(h:TsI N s v x2 x3 x4 x5 w):N+1+1<w.heap.size:=(Array.getElem?_eq_some_iff.1 h.o).1
theorem TsI.below{N:Nat}{s:St}{v:Sv}{x2 x3 x4 x5:Value}{w w':World}(h:TsI N s v x2 x3 x4 x5 w)(hb:Below w.heap.size w w'):TsI N s v x2 x3 x4 x5 w':=
 ⟨(hb.block N (by have:=h.lt;omega)).trans h.a,(hb.block (N+1) (by have:=h.lt;omega)).trans h.z,(hb.block (N+1+1) h.lt).trans h.o⟩
theorem bI{w:World}{b:Nat}{x0 x1 x2 x3 x4 x5:Value}{t:TypeId}(h:w.heap[b]? = some (.cells #[x0,x1,x2,x3,x4,x5] t)):(w.cell? ⟨b,0,none⟩=some x0/\w.cell? ⟨b,1,none⟩=some x1/\w.cell? ⟨b,2,none⟩=some x2/\w.cell? ⟨b,3,none⟩=some x3/\w.cell? ⟨b,4,none⟩=some x4/\w.cell? ⟨b,5,none⟩=some x5)/\w.frozen? ⟨b,0,none⟩=false/\w.frozen? ⟨b,1,none⟩=false/\w.frozen? ⟨b,2,none⟩=false/\w.frozen? ⟨b,3,none⟩=false/\w.frozen? ⟨b,4,none⟩=false/\w.frozen? ⟨b,5,none⟩=false:=by
 simp[World.cell?,World.frozen?,h]
theorem TsI.set2{N:Nat}{s:St}{v:Sv}{x2 x3 x4 x5:Value}{w:World}(h:TsI N s v x2 x3 x4 x5 w)(y:Value):TsI N s v y x3 x4 x5 (w.setCell ⟨N+1+1,2,none⟩ y):=
 ⟨(heap_setCell_other w ⟨N+1+1,2,none⟩ N y (by simp;omega)).trans h.a,(heap_setCell_other w ⟨N+1+1,2,none⟩ (N+1) y (by simp)).trans h.z,by simpa using heap_setCell_same w (N+1+1) 2 _ _ y h.o⟩
theorem TsI.SK{N:Nat}{s:St}{v:Sv}{x2 x3 x4 x5:Value}{w:World}(h:TsI N s v x2 x3 x4 x5 w)(y:Value):TsI N s v x2 y x4 x5 (w.setCell ⟨N+1+1,3,none⟩ y):=
 ⟨(heap_setCell_other w ⟨N+1+1,3,none⟩ N y (by simp;omega)).trans h.a,(heap_setCell_other w ⟨N+1+1,3,none⟩ (N+1) y (by simp)).trans h.z,by simpa using heap_setCell_same w (N+1+1) 3 _ _ y h.o⟩
theorem TsI.SL{N:Nat}{s:St}{v:Sv}{x2 x3 x4 x5:Value}{w:World}(h:TsI N s v x2 x3 x4 x5 w)(y:Value):TsI N s v x2 x3 y x5 (w.setCell ⟨N+1+1,4,none⟩ y):=
 ⟨(heap_setCell_other w ⟨N+1+1,4,none⟩ N y (by simp;omega)).trans h.a,(heap_setCell_other w ⟨N+1+1,4,none⟩ (N+1) y (by simp)).trans h.z,by simpa using heap_setCell_same w (N+1+1) 4 _ _ y h.o⟩
theorem TsI.SN{N:Nat}{s:St}{v:Sv}{x2 x3 x4 x5:Value}{w:World}(h:TsI N s v x2 x3 x4 x5 w)(y:Value):TsI N s v x2 x3 x4 y (w.setCell ⟨N+1+1,5,none⟩ y):=
 ⟨(heap_setCell_other w ⟨N+1+1,5,none⟩ N y (by simp;omega)).trans h.a,(heap_setCell_other w ⟨N+1+1,5,none⟩ (N+1) y (by simp)).trans h.z,by simpa using heap_setCell_same w (N+1+1) 5 _ _ y h.o⟩
theorem KT(s:St)(v:Sv)(w:World)(hv:Sts w v s)(hB:StB s):
  Calls Tryz.prog 11 #[stV s v] w fun e w'=>∃u us,e = .returned (stV s u)/\FT w s u us w':=by
 obtain⟨W,hW⟩:∃W,W=((w.alloc (stC s v 29)).alloc (.cells #[.int .i64 0,.int .i64 0,.slice none 0 0,.slice none 0 0,.slice none 0 0,.slice none 0 0] 41)).alloc (.cells #[.int .i64 s.ph,.int .i64 s.cu,.slice none 0 0,.slice none 0 0,.slice none 0 0,.slice none 0 0] 41):=⟨_,rfl⟩
 have hBW:Below w.heap.size w W:=by rw[hW];exact((aj _).alloc (aj _).size _).alloc ((aj _).alloc (aj _).size _).size _
 have I0:TsI w.heap.size s v (.slice none 0 0) (.slice none 0 0) (.slice none 0 0) (.slice none 0 0) W:=by
  rw[hW]
  have h1:=heap_alloc_new w (stC s v 29)
  have h2:=heap_alloc_new (w.alloc (stC s v 29)) (.cells #[.int .i64 0,.int .i64 0,.slice none 0 0,.slice none 0 0,.slice none 0 0,.slice none 0 0] 41)
  have h3:=heap_alloc_new ((w.alloc (stC s v 29)).alloc (.cells #[.int .i64 0,.int .i64 0,.slice none 0 0,.slice none 0 0,.slice none 0 0,.slice none 0 0] 41)) (.cells #[.int .i64 s.ph,.int .i64 s.cu,.slice none 0 0,.slice none 0 0,.slice none 0 0,.slice none 0 0] 41)
  simp only[World.size_alloc]at h2 h3
  exact⟨((aj _).block w.heap.size (by simp;omega)).trans (((aj _).block w.heap.size (by simp)).trans h1),((aj _).block (w.heap.size+1) (by simp)).trans h2,h3⟩
 have eY:=hv.below hBW
 have hT1:=rZ v.d s.d W eY.d hB.d
 have HT2:Hid (∀w',Below w.heap.size w w'->Calls Tryz.prog 49 #[v.n] w' fun e w''=>∃a c,e = .returned (.slice a s.n.length c)/\Below w'.heap.size w' w''/\w''.ownsRow w'.heap.size 63 2 (.slice a s.n.length c) s.n.length ((fl s.n).map (Value.int .i64))):=fun w' hb=>KR v.n s.n w' (hv.n.below hb) hB.n
 have HT3:Hid (∀w',Below w.heap.size w w'->Calls Tryz.prog 36 #[v.h] w' fun e w''=>∃a c,e = .returned (.slice a s.h.length c)/\Below w'.heap.size w' w''/\w''.ownsRow w'.heap.size 136 5 (.slice a s.h.length c) s.h.length (flH s.h)):=fun w' hb=>KQ v.h s.h w' (hv.h.below hb) hB.h
 have HT4:Hid (∀w',Below w.heap.size w w'->Calls Tryz.prog 50 #[v.p] w' fun e w''=>∃u us,e = .returned u/\Tj w' s.p u us w''):=fun w' hb=>AU v.p s.p w' (hv.p.below hb) hB.p (fun j hj=>(hB.pd j hj).1)
 obtain⟨a1,c1,e1⟩:=hv.d.shape
 obtain⟨a2,c2,e2⟩:=hv.n.shape
 obtain⟨a3,c3,e3⟩:=hv.h.shape
 obtain⟨a4,c4,e4⟩:=hv.p.shape
 have OJ:Hid (w.heap.size+1+1<W.heap.size):=I0.lt
 obtain⟨ph,cu,d,n,h,p⟩:=s
 obtain⟨vd,vn,vh,vp⟩:=v
 dsimp only at *
 subst e1 e2 e3 e4
 have HI0:Hid (TsI w.heap.size ⟨ph,cu,d,n,h,p⟩ ⟨.slice a1 d.length c1,.slice a2 n.length c2,.slice a3 h.length c3,.slice a4 p.length c4⟩ (.slice none 0 0) (.slice none 0 0) (.slice none 0 0) (.slice none 0 0) W):=I0
 unfold stV
 dsimp only
 have HW:Hid (((w.alloc (.cells #[.int .i64 ph,.int .i64 cu,.slice a1 d.length c1,.slice a2 n.length c2,.slice a3 h.length c3,.slice a4 p.length c4] 29)).alloc (.cells #[.int .i64 0,.int .i64 0,.slice none 0 0,.slice none 0 0,.slice none 0 0,.slice none 0 0] 41)).alloc (.cells #[.int .i64 ph,.int .i64 cu,.slice none 0 0,.slice none 0 0,.slice none 0 0,.slice none 0 0] 41)=W):=hW.symm
 have HB0:Hid (Below w.heap.size w W):=hBW
 clear hW hv eY hB I0 hBW
 go_enter Tryz.func11,Tryz.ntmps11
 go_wp2_with fail
 rw[HW.out]
 refine hT1.mono ?_
 rintro e w1 ⟨b1,d1,rfl,hb1,o1⟩
 have I1:=HI0.out.below hb1
 obtain⟨⟨-,-,-,j3,-,-⟩,-⟩:=bI (I1.set2 (.slice b1 d.length d1)).a
 obtain⟨⟨-,-,k2,-,-,-⟩,-,-,f2,-⟩:=bI I1.o
 obtain⟨W1,hW1⟩:∃W1,W1=w1.setCell ⟨w.heap.size+1+1,2,none⟩ (.slice b1 d.length d1):=⟨_,rfl⟩
 have HI1:Hid (TsI w.heap.size ⟨ph,cu,d,n,h,p⟩ ⟨.slice a1 d.length c1,.slice a2 n.length c2,.slice a3 h.length c3,.slice a4 p.length c4⟩ (.slice b1 d.length d1) (.slice none 0 0) (.slice none 0 0) (.slice none 0 0) W1):=(by rw[hW1];exact I1.set2 _:TsI w.heap.size ⟨ph,cu,d,n,h,p⟩ ⟨.slice a1 d.length c1,.slice a2 n.length c2,.slice a3 h.length c3,.slice a4 p.length c4⟩ (.slice b1 d.length d1) (.slice none 0 0) (.slice none 0 0) (.slice none 0 0) W1)
 have hsz1:W1.heap.size=w1.heap.size:=by rw[hW1];simp
 have jF:Hid (Own W.heap.size W1.heap.size W1 [cO (.slice b1 d.length d1) d]):=(by
  rw[hsz1,hW1]
  exact(Own.single (r:=cO (.slice b1 d.length d1) d) o1 (Nat.le_refl _)).setCell _ OJ.out _:Own W.heap.size W1.heap.size W1 [cO (.slice b1 d.length d1) d])
 have HB1:Hid (Below w.heap.size w W1):=(by rw[hW1];exact(ah HB0.out hb1).setCell (by show w.heap.size<=w.heap.size+1+1;omega) _:Below w.heap.size w W1)
 have HS2:Hid (W.heap.size<=W1.heap.size):=(by rw[hsz1];have:=hb1.size;omega:W.heap.size<=W1.heap.size)
 have HW1:Hid _:=hW1.symm
 clear hT1 HW
 have hC:=HT2.out _ HB1.out
 clear hW1 hsz1 I1 hb1 o1
 go_wp2_with fail
 rw[HW1.out]
 clear HW1 k2 f2 j3
 refine hC.mono ?_
 rintro e w2 ⟨b2,d2,rfl,hb2,o2⟩
 clear hC
 have I2:=HI1.out.below hb2
 obtain⟨⟨-,-,-,-,j4,-⟩,-⟩:=bI (I2.SK (.slice b2 n.length d2)).a
 obtain⟨⟨-,-,-,k3,-,-⟩,-,-,-,f3,-⟩:=bI I2.o
 obtain⟨W2,hW2⟩:∃W2,W2=w2.setCell ⟨w.heap.size+1+1,3,none⟩ (.slice b2 n.length d2):=⟨_,rfl⟩
 have HI2:Hid (TsI w.heap.size ⟨ph,cu,d,n,h,p⟩ ⟨.slice a1 d.length c1,.slice a2 n.length c2,.slice a3 h.length c3,.slice a4 p.length c4⟩ (.slice b1 d.length d1) (.slice b2 n.length d2) (.slice none 0 0) (.slice none 0 0) W2):=(by rw[hW2];exact I2.SK _:TsI w.heap.size ⟨ph,cu,d,n,h,p⟩ ⟨.slice a1 d.length c1,.slice a2 n.length c2,.slice a3 h.length c3,.slice a4 p.length c4⟩ (.slice b1 d.length d1) (.slice b2 n.length d2) (.slice none 0 0) (.slice none 0 0) W2)
 have hsz2:W2.heap.size=w2.heap.size:=by rw[hW2];simp
 have kZ:Hid (Own W.heap.size W2.heap.size W2 ([cO (.slice b1 d.length d1) d]++[nRow (.slice b2 n.length d2) n])):=(by
  rw[hsz2,hW2]
  exact((jF.out.below hb2).app (Own.single (r:=nRow (.slice b2 n.length d2) n) o2 (Nat.le_refl _)) (by have:=hb2.size;have:=HS2.out;omega) hb2.size).setCell _ OJ.out _:Own W.heap.size W2.heap.size W2 ([cO (.slice b1 d.length d1) d]++[nRow (.slice b2 n.length d2) n]))
 have HB2:Hid (Below w.heap.size w W2):=(by rw[hW2];exact(ah HB1.out hb2).setCell (by show w.heap.size<=w.heap.size+1+1;omega) _:Below w.heap.size w W2)
 have XP:Hid (W.heap.size<=W2.heap.size):=(by rw[hsz2];have:=hb2.size;have:=HS2.out;omega:W.heap.size<=W2.heap.size)
 have HW2:Hid _:=hW2.symm
 have hC:=HT3.out _ HB2.out
 clear hW2 hsz2 I2 hb2 o2
 go_wp2_with fail
 rw[HW2.out]
 clear HW2 k3 f3 j4
 refine hC.mono ?_
 rintro e w3 ⟨b3,d3,rfl,hb3,o3⟩
 clear hC
 have I3:=HI2.out.below hb3
 obtain⟨⟨-,-,-,-,-,j5⟩,-⟩:=bI (I3.SL (.slice b3 h.length d3)).a
 obtain⟨⟨-,-,-,-,k4,-⟩,-,-,-,-,f4,-⟩:=bI I3.o
 obtain⟨W3,hW3⟩:∃W3,W3=w3.setCell ⟨w.heap.size+1+1,4,none⟩ (.slice b3 h.length d3):=⟨_,rfl⟩
 have HI3:Hid (TsI w.heap.size ⟨ph,cu,d,n,h,p⟩ ⟨.slice a1 d.length c1,.slice a2 n.length c2,.slice a3 h.length c3,.slice a4 p.length c4⟩ (.slice b1 d.length d1) (.slice b2 n.length d2) (.slice b3 h.length d3) (.slice none 0 0) W3):=(by rw[hW3];exact I3.SL _:TsI w.heap.size ⟨ph,cu,d,n,h,p⟩ ⟨.slice a1 d.length c1,.slice a2 n.length c2,.slice a3 h.length c3,.slice a4 p.length c4⟩ (.slice b1 d.length d1) (.slice b2 n.length d2) (.slice b3 h.length d3) (.slice none 0 0) W3)
 have hsz3:W3.heap.size=w3.heap.size:=by rw[hW3];simp
 have qh:Hid (Own W.heap.size W3.heap.size W3 (([cO (.slice b1 d.length d1) d]++[nRow (.slice b2 n.length d2) n])++[hRow (.slice b3 h.length d3) h])):=(by
  rw[hsz3,hW3]
  exact((kZ.out.below hb3).app (Own.single (r:=hRow (.slice b3 h.length d3) h) o3 (Nat.le_refl _)) (by have:=hb3.size;have:=XP.out;omega) hb3.size).setCell _ OJ.out _:Own W.heap.size W3.heap.size W3 (([cO (.slice b1 d.length d1) d]++[nRow (.slice b2 n.length d2) n])++[hRow (.slice b3 h.length d3) h]))
 have HB3:Hid (Below w.heap.size w W3):=(by rw[hW3];exact(ah HB2.out hb3).setCell (by show w.heap.size<=w.heap.size+1+1;omega) _:Below w.heap.size w W3)
 have Tq:Hid (W.heap.size<=W3.heap.size):=(by rw[hsz3];have:=hb3.size;have:=XP.out;omega:W.heap.size<=W3.heap.size)
 have HW3:Hid _:=hW3.symm
 have hC:=HT4.out _ HB3.out
 clear hW3 hsz3 I3 hb3 o3
 go_wp2_with fail
 rw[HW3.out]
 clear HW3 k4 f4 j5
 refine hC.mono ?_
 rintro e w4 ⟨u4,us,rfl,o4⟩
 clear hC
 obtain⟨b4,d4,Zo⟩:=o4.sh
 subst Zo
 have hb4:=o4.below
 have I4:=HI3.out.below hb4
 obtain⟨⟨-,-,-,-,-,k5⟩,-,-,-,-,-,f5⟩:=bI I4.o
 obtain⟨W4,ni⟩:∃W4,W4=w4.setCell ⟨w.heap.size+1+1,5,none⟩ (.slice b4 p.length d4):=⟨_,rfl⟩
 have HI4:Hid (TsI w.heap.size ⟨ph,cu,d,n,h,p⟩ ⟨.slice a1 d.length c1,.slice a2 n.length c2,.slice a3 h.length c3,.slice a4 p.length c4⟩ (.slice b1 d.length d1) (.slice b2 n.length d2) (.slice b3 h.length d3) (.slice b4 p.length d4) W4):=(by rw[ni];exact I4.SN _:TsI w.heap.size ⟨ph,cu,d,n,h,p⟩ ⟨.slice a1 d.length c1,.slice a2 n.length c2,.slice a3 h.length c3,.slice a4 p.length c4⟩ (.slice b1 d.length d1) (.slice b2 n.length d2) (.slice b3 h.length d3) (.slice b4 p.length d4) W4)
 have Hz:W4.heap.size=w4.heap.size:=by rw[ni];simp
 have Le:Hid (Own W.heap.size W4.heap.size W4 ((([cO (.slice b1 d.length d1) d]++[nRow (.slice b2 n.length d2) n])++[hRow (.slice b3 h.length d3) h])++([fA (.slice b4 p.length d4) us]++bJ us p p.length))):=(by
  rw[Hz,ni]
  exact((qh.out.below hb4).app (o4.own) (by have:=hb4.size;have:=Tq.out;omega) hb4.size).setCell _ OJ.out _:Own W.heap.size W4.heap.size W4 ((([cO (.slice b1 d.length d1) d]++[nRow (.slice b2 n.length d2) n])++[hRow (.slice b3 h.length d3) h])++([fA (.slice b4 p.length d4) us]++bJ us p p.length)))
 have HB4:Hid (Below w.heap.size w W4):=(by rw[ni];exact(ah HB3.out hb4).setCell (by show w.heap.size<=w.heap.size+1+1;omega) _:Below w.heap.size w W4)
 have Tt:Hid (W.heap.size<=W4.heap.size):=(by rw[Hz];have:=hb4.size;have:=Tq.out;omega:W.heap.size<=W4.heap.size)
 have Eb:Hid _:=ni.symm
 have Z:=HI4.out
 obtain⟨⟨y0,y1,y2,y3,y4,y5⟩,-⟩:=bI Z.o
 obtain⟨⟨z0,z1,z2,z3,z4,z5⟩,g0,g1,g2,g3,g4,g5⟩:=bI Z.z
 have F8:Hid (us.length=p.length):=o4.len
 have hlt4:w.heap.size+1+1<W4.heap.size:=Z.lt
 rw[ni]at y0 y1 y2 y3 y4 y5 z0 z1 z2 z3 z4 z5 g0 g1 g2 g3 g4 g5 hlt4
 clear ni Hz I4 hb4 o4 Z
 go_wp2_with fail
 refine bodyPost_ret (v:= .agg #[.int .i64 ph,.int .i64 cu,.slice b1 d.length d1,.slice b2 n.length d2,.slice b3 h.length d3,.slice b4 p.length d4]) (by simp[results,Tryz.results11,go_sem,z0,z1,z2,z3,z4,z5]) rfl ⟨⟨.slice b1 d.length d1,.slice b2 n.length d2,.slice b3 h.length d3,.slice b4 p.length d4⟩,us,rfl, ?_, ?_⟩
 ·rw[Eb.out]
  exact(((((HB4.out.setCell (Nat.le_succ _) _).setCell (Nat.le_succ _) _).setCell (Nat.le_succ _) _).setCell (Nat.le_succ _) _).setCell (Nat.le_succ _) _).setCell (Nat.le_succ _) _
 ·rw[Eb.out]
  have hL1:w.heap.size+1<W.heap.size:=by have:=OJ.out;omega
  have A:dD W.heap.size W4.heap.size W4 ⟨.slice b1 d.length d1,.slice b2 n.length d2,.slice b3 h.length d3,.slice b4 p.length d4⟩ us ⟨ph,cu,d,n,h,p⟩:=⟨by
   have:=Le.out
   rw[List.append_assoc,List.append_assoc]at this
   exact this,F8.out⟩
  have B:=(((((A.setCell ⟨w.heap.size+1,0,none⟩ hL1 (.int .i64 ph)).setCell ⟨w.heap.size+1,1,none⟩ hL1 (.int .i64 cu)).setCell ⟨w.heap.size+1,2,none⟩ hL1 (.slice b1 d.length d1)).setCell ⟨w.heap.size+1,3,none⟩ hL1 (.slice b2 n.length d2)).setCell ⟨w.heap.size+1,4,none⟩ hL1 (.slice b3 h.length d3)).setCell ⟨w.heap.size+1,5,none⟩ hL1 (.slice b4 p.length d4)
  exact B.wide (by omega) (by simp)
end U
end Go.Proofs.YtmnfokgllcdiiaaGreat
