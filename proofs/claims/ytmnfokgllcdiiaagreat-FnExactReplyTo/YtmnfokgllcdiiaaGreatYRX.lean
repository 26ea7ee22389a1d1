/- Joined: what the texts behind it need. -/
import Derived.Test.YtmnfokgllcdiiaaGreatYR2
import Derived.RangeFuncNested
import Derived.RangeFuncBound
import Derived.RangeFuncCalls
import Derived.RangeFuncLeaves
import Derived.Shelf.Abstract
import Derived.Shelf.RegionOpen
import Derived.WalkKit
import Derived.OwnWalkIn
import Derived.TacticsInMore
import Derived.LoopNIn
import Derived.LoopIn
import Derived.Test.YtmnfokgllcdiiaaGreatYBC
import Derived.Test.YtmnfokgllcdiiaaGreatYBB
import Derived.Test.YtmnfokgllcdiiaaGreatYBA
import Derived.Test.YtmnfokgllcdiiaaGreatYBG
import Derived.Handy
import Derived.Test.YtmnfokgllcdiiaaGreatYR1
import Derived.ScopeJumps
import Derived.WalkMore
set_option maxRecDepth 100000
set_option maxHeartbeats 4000000
namespace Go.Proofs.YtmnfokgllcdiiaaGreat
open Go.RowKit Go.Shelf
namespace U
attribute [local go_sem] Oper.semAt_some
abbrev Fk:={f:Nat × Tr × Tr // f.1<=7/\f.2.1.Ok/\f.2.2.Ok}
def fk0:Fk:=⟨(0,.none,.none),by omega,trivial,trivial⟩
def fkV(f:Fk):Value:= .agg #[.int .i64 (f.1.1:Int),f.1.2.1.val,f.1.2.2.val]
def GH(p:List Fk)(i:Nat):Nat × Fk:=(p.length - 1 - i,p.getD (p.length - 1 - i) fk0)
def iC(p:List Fk)(m:Nat):List (Nat × Fk):=(List.range m).map (GH p)
theorem OV(p:List Fk)(m:Nat):iC p (m+1)=iC p m++[GH p m]:=by unfold iC;rw[List.range_succ,List.map_append];rfl
theorem QK(p:List Fk)(m:Nat):(iC p m).length=m:=by simp[iC]
structure KpB(n₀ Bs:Nat)(A B:World):Prop where
 b:Below n₀ A B
 s:∀o,A.heap[Bs]? = some o->B.heap[Bs]? = some o
theorem KpB.refl(n₀ Bs:Nat)(A:World):KpB n₀ Bs A A:=⟨Below.refl _ _,fun _ h=>h⟩
theorem KpB.trans{n₀ Bs:Nat}{A B C:World}(h:KpB n₀ Bs A B)(k:KpB n₀ Bs B C):KpB n₀ Bs A C:=⟨h.b.trans k.b,fun o ho=>k.s o (h.s o ho)⟩
theorem GK{w:World}{b:Nat}{v:Value}{t:TypeId}(h:w.heap[b]? = some (.cells #[v] t (0,0))):w.cell? ⟨b,0,none⟩=some v:=by unfold World.cell?;rw[h];rfl
theorem JY(n:Nat)(hn:1<=n)(l Bs n₀ b len cap:Nat)(av:Option Addr)(p:List Fk)(HL:Hid (len=p.length))(hlen:len<=1000)(hb:0<len->b<n₀)(hav:0<len->av=some ⟨b,0,none⟩)(J Jx:List (Nat × Fk)->World->Prop)
  (hY:∀pre x W,J pre W->pre.length<len->YieldAt Fence.wide (n - 1) Tryz.prog l #[.int .i64 (x.1:Int),fkV x.2] W fun e W'=>
   (e = .returned (.bool true)/\J (pre++[x]) W'/\KpB n₀ Bs W W')∨(e = .returned (.bool false)/\Jx (pre++[x]) W'))
  (W:World) (hBs:W.heap[Bs]? = some (.cells #[.slice av len cap] 344 (0,0)))
  (hc:∀j,j<len->W.cell? ⟨b,j*3,none⟩=some (.int .i64 ((p.getD j fk0).1.1:Int))/\W.cell? ⟨b,j*3+1,none⟩=some (p.getD j fk0).1.2.1.val/\W.cell? ⟨b,j*3+2,none⟩=some (p.getD j fk0).1.2.2.val) (h0:J [] W) :
  CallsIn Fence.wide n Tryz.prog 303 #[.func (.yield l) #[] #[],.pointer (some ⟨Bs,0,none⟩)] W fun e W'=>(∃v,e = .returned v)/\
   ((∃ys,ys=iC p len/\J ys W')∨(∃pre,(∃k,k<=len/\pre=iC p k)/\Jx pre W')):=by
 refine callsIn_of_wp Tryz.func303 rfl trivial ?_ rfl
 have hB0:=GK hBs
 simp only[Tryz.ntmps303,List.size_toArray,List.length_cons,List.length_nil,Nat.reduceAdd,Nat.reduceSub,Array.replicate_succ,Array.replicate_zero,List.push_toArray,List.append_toArray,List.nil_append,List.cons_append]
 gi_wp2
 gi_loopw [3] (fun i wr=>∃k:Nat,k<=len/\i = .int .i64 ((k:Int) - 1)/\J (iC p (len - k)) wr/\KpB n₀ Bs W wr)
  (fun i _=>((intOf i)+1).toNat)
 case atStart=>exact⟨len,Nat.le_refl _,by simp,by rw[Nat.sub_self];exact h0,KpB.refl _ _ _⟩
 case round=>
  obtain⟨k,hk,rfl,hJs,hnx⟩:=hrel
  have hBx:=GK (hnx.s _ hBs)
  rcases k with _ | m
  ·gi_wp2
   go_end0
   exact⟨⟨_,rfl⟩,.inl ⟨_,rfl,by simpa using hJs⟩⟩
  ·have hcx:=hc m (by omega)
   have hae:=hav (by omega)
   subst hae
   have d0:wr.cell? ⟨b,m*3,none⟩=some (.int .i64 ((p.getD m fk0).1.1:Int)):=(hnx.b.cell (p:=⟨b,m*3,none⟩) (hb (by omega))).trans hcx.1
   have d1:wr.cell? ⟨b,m*3+1,none⟩=some (p.getD m fk0).1.2.1.val:=(hnx.b.cell (p:=⟨b,m*3+1,none⟩) (hb (by omega))).trans hcx.2.1
   have d2:wr.cell? ⟨b,m*3+2,none⟩=some (p.getD m fk0).1.2.2.val:=(hnx.b.cell (p:=⟨b,m*3+2,none⟩) (hb (by omega))).trans hcx.2.2
   have hx:GH p (len - (m+1))=(m,p.getD m fk0):=by
    have e:=HL.out
    unfold GH
    rw[show p.length - 1 - (len - (m+1))=m by omega]
   have hs:iC p (len - m)=iC p (len - (m+1))++[(m,p.getD m fk0)]:=by
    rw[show len - m=(len - (m+1))+1 by omega,OV,hx]
   obtain⟨fn,tmps,assign,body,hy,hR⟩:=hY _ (m,p.getD m fk0) wr hJs (by rw[QK];omega)
   unfold fkV at hy
   dsimp only at hy
   have hml:(m:Int)<(len:Int):=by omega
   generalize (p.getD m fk0).1.1=fb at *
   generalize (p.getD m fk0).1.2.1.val=vl at *
   generalize (p.getD m fk0).1.2.2.val=vr at *
   have hi:((m+1:Nat):Int) - 1=(m:Int):=by omega
   rw[hi]
   gi_wp2
   refine hR.mono ?_
   rintro e W3 (⟨rfl,hJ3,hk3⟩ |⟨rfl,hJx3⟩)
   ·gi_wp2
    go_roundw
    case rel=>exact⟨m,by omega,by simp,by rw[hs];exact hJ3,hnx.trans hk3⟩
    case measure=>simp[intOf]
   ·gi_wp2
    refine bodyPost_ret (results_none rfl _ _ _) rfl ?_
    exact⟨⟨_,rfl⟩,.inr ⟨_,⟨len - m,by omega,hs.symm⟩,hJx3⟩⟩
theorem Dl(n:Nat)(hn:1<=n)(Bs n₀ b len cap:Nat)(av:Option Addr)(p:List Fk)(HL:Hid (len=p.length))(hlen:len<=1000)(hb:0<len->b<n₀)(hav:0<len->av=some ⟨b,0,none⟩)(w:World)(hw:n₀<=w.heap.size)(hBs:w.heap[Bs]? = some (.cells #[.slice av len cap] 344 (0,0)))
  (hc:∀j,j<len->w.cell? ⟨b,j*3,none⟩=some (.int .i64 ((p.getD j fk0).1.1:Int))/\w.cell? ⟨b,j*3+1,none⟩=some (p.getD j fk0).1.2.1.val/\w.cell? ⟨b,j*3+2,none⟩=some (p.getD j fk0).1.2.2.val) :
  SeqStopsK Fence.wide n Tryz.prog 303 #[.pointer (some ⟨Bs,0,none⟩)] (fun x:Nat × Fk=>#[.int .i64 (x.1:Int),fkV x.2]) (KpB n₀ Bs) (fun ys=>ys=iC p len) (fun pre=>∃k,k<=len/\pre=iC p k) len w:=
 fun l J Jx W hW _ _ hY h0=>JY n hn l Bs n₀ b len cap av p HL hlen hb hav J Jx hY W ((hW.block Bs (Array.getElem?_eq_some_iff.1 hBs).1).trans hBs)
  (fun j hj=>⟨(hW.cell (p:=⟨b,j*3,none⟩) (Nat.lt_of_lt_of_le (hb (by omega)) hw)).trans (hc j hj).1,(hW.cell (p:=⟨b,j*3+1,none⟩) (Nat.lt_of_lt_of_le (hb (by omega)) hw)).trans (hc j hj).2.1,(hW.cell (p:=⟨b,j*3+2,none⟩) (Nat.lt_of_lt_of_le (hb (by omega)) hw)).trans (hc j hj).2.2⟩) h0
def fko(key:Int)(f:Nat × Tr × Tr):Int × Int:=((f.1:Int),if aV key f.1=0 then f.2.2.sum else f.2.1.sum)
theorem QE(key:Int)(t:Tr):t.way key=((t.steps key).map (fko key)).reverse:=by
 induction t using Tr.ind with
 | none=>rfl
 | leaf k v=>rfl
 | fork b l r ih1 ih2=>
  rw[Tr.kV,List.map_cons,List.reverse_cons]
  show(if aV key b=0 then l.way key++[((b:Int),r.sum)]else r.way key++[((b:Int),l.sum)])=_
  by_cases h:aV key b=0
  ·rw[if_pos h,if_pos h,ih1];unfold fko;simp only[h,if_true]
  ·rw[if_neg h,if_neg h,ih2];unfold fko;simp only[h,if_false]
def tw(key:Int)(pre:List (Nat × Fk)):Prl:=pre.map fun x=>fko key x.2.1
theorem QJ(p:List Fk):(iC p p.length).map (·.2)=p.reverse:=by
 unfold iC
 apply List.ext_getElem
 ·simp
 ·intro i h1 h2
  simp only[List.length_map,List.length_range]at h1
  simp[GH]
  rw[List.getElem?_eq_getElem (by omega)]
  rfl
theorem WM(key:Int)(p:List Fk):tw key (iC p p.length)=((p.map (·.1)).map (fko key)).reverse:=by
 have h:=QJ p
 unfold tw
 rw[show(fun x:Nat × Fk=>fko key x.2.1)=(fun f:Fk=>fko key f.1)∘(·.2) from rfl,←List.map_map,h,List.map_reverse,List.map_map]
 rfl
theorem Tr.SX(key:Int)(t:Tr):t.Ok->∀f∈t.steps key,f.1<=7/\f.2.1.Ok/\f.2.2.Ok:=by
 induction t using Tr.ind with
 | none=>intro _ f hf;cases hf
 | leaf k v=>intro _ f hf;cases hf
 | fork b l r ih1 ih2=>
  intro h f hf
  rw[Tr.kV]at hf
  rcases List.mem_cons.1 hf with rfl | hf
  ·exact h
  ·split at hf
   ·exact ih1 h.2.1 f hf
   ·exact ih2 h.2.2 f hf
theorem SV(key:Int){t:Tr}(h:t.Ok):∃p:List Fk,p.map (·.1)=t.steps key:=by
 refine⟨(t.steps key).pmap (fun f hf=>⟨f,hf⟩) (Tr.SX key t h), ?_⟩
 rw[List.map_pmap]
 simp
theorem VE(q:List (Nat × Tr × Tr)):∀(j:Nat)(f:Nat × Tr × Tr),q[j]? = some f->(cl3 q)[j*3]? = some (.int .i64 (f.1:Int))/\(cl3 q)[j*3+1]? = some f.2.1.val/\(cl3 q)[j*3+2]? = some f.2.2.val:=by
 induction q with
 | nil=>intro j f h;simp at h
 | cons a t ih=>
  intro j f h
  have e:cl3 (a::t)=[.int .i64 (a.1:Int),a.2.1.val,a.2.2.val]++cl3 t:=rfl
  rw[e]
  rcases j with _ | j
  ·simp at h;subst h;exact⟨rfl,rfl,rfl⟩
  ·have h':t[j]? = some f:=by simpa using h
   have:=ih j f h'
   rw[List.getElem?_append_right (by simp;omega),List.getElem?_append_right (by simp;omega),List.getElem?_append_right (by simp;omega)]
   simp only[List.length_cons,List.length_nil]
   rw[show(j+1)*3 - (0+1+1+1)=j*3 by omega,show(j+1)*3+1 - (0+1+1+1)=j*3+1 by omega,show(j+1)*3+2 - (0+1+1+1)=j*3+2 by omega]
   exact this
theorem UF{w:World}{B:Nat}{e:TypeId}{av:Option Addr}{len cap:Nat}{p:List Fk}(h:w.ownsRow B e 3 (.slice av len cap) len (cl3 (p.map (·.1))))(hl:len=p.length):
  ∃b,(0<len->av=some ⟨b,0,none⟩/\b<w.heap.size)/\∀j,j<len->w.cell? ⟨b,j*3,none⟩=some (.int .i64 ((p.getD j fk0).1.1:Int))/\w.cell? ⟨b,j*3+1,none⟩=some (p.getD j fk0).1.2.1.val/\w.cell? ⟨b,j*3+2,none⟩=some (p.getD j fk0).1.2.2.val:=by
 have h0:=h
 rcases h.2 with⟨h1,hn⟩ |⟨g,cap',cur,h1,hB,hg,_⟩
 ·exact⟨0,fun h=>by omega,fun j hj=>by omega⟩
 ·cases h1
  refine⟨g,fun _=>⟨rfl,(Array.getElem?_eq_some_iff.1 hg).1⟩,fun j hj=> ?_⟩
  have hj':j<p.length:=by omega
  have hf:(p.map (·.1))[j]? = some (p.getD j fk0).1:=by
   rw[List.getElem?_map,List.getD_eq_getElem?_getD,List.getElem?_eq_getElem hj']
   rfl
  have:=VE _ j _ hf
  exact⟨(h0.cellAt (j*3) (by omega)).trans this.1,(h0.cellAt (j*3+1) (by omega)).trans this.2.1,(h0.cellAt (j*3+2) (by omega)).trans this.2.2⟩
end U
end Go.Proofs.YtmnfokgllcdiiaaGreat
namespace Go.Proofs.YtmnfokgllcdiiaaGreat
open Go.RowKit Go.Shelf
namespace U
theorem Oh{n l:Nat}{P:Program}{o:Oper}{a:Act}{w:World}{K:Act->World->Prop}{Q:Exit->Act->World->Prop}(hd:∀c,o.op≠ .defer c)
  (h:o.wp P a w K Q):o.wpIn (Fence.wide.inRound l) n P a w K Q:=by
 unfold Oper.wp at h
 unfold Oper.wpIn
 refine⟨fun _ _=>trivial, ?_⟩
 rw[show(Fence.wide.inRound l).round=some l from rfl,Oper.semAt_some l _ _ hd]
 generalize (execOp a.eval o).run P w=r at *
 cases r with
 | ok x w'=>
  cases x<;>simp only[Oper.upon,Oper.uponIn]at h ⊢<;>
   first
    | exact h
    | exact h.elim
    | exact⟨fun hh=>by simp[Fence.inRound,Fence.wide]at hh,CallsIn.inRound l (callsIn_wide.2 h)⟩
    | exact⟨fun hh=>by simp[Fence.inRound,Fence.wide]at hh,fun c cs _=>let ⟨v,w'',r,st⟩:=h c cs;⟨v,w'',r,stepsIn_wide.2 st⟩⟩
 | halt x w'=>
  cases x<;>simp only[Oper.upon,Oper.uponIn]at h ⊢<;>
   first
    | exact h
    | exact h.elim
    | skip
theorem qY{n l:Nat}{P:Program}{md:Region.Mode}{ops:Array Oper}{Q:Exit->Act->World->Prop}(hd:∀(i:Nat)(o:Oper),ops[i]? = some o->∀c,o.op≠ .defer c)(hQ:¬LetsOut Q):
  ∀(fuel:Nat)(listed:Array Bool)(a:Act)(w:World),wpAny P md ops Q fuel listed a w->wpAnyIn (Fence.wide.inRound l) n P md ops Q fuel listed a w
 | 0,_,_,_,h=>h
 | fuel+1,listed,a,w,h=>by
  refine⟨h.1,fun i hi=> ?_⟩
  have h2:=h.2 i hi
  unfold wpOp at h2
  unfold wpOpIn
  split
  ·rename_i ho
   simp only[ho]at h2
   exact qY hd hQ fuel _ a w h2
  ·rename_i o ho
   simp only[ho]at h2
   split
   ·rename_i hw
    simp only[hw,if_true]at h2
    rcases h2 with h2 | h2
    ·exact Oper.wpIn_mono (fun a w h=>qY hd hQ fuel _ a w h) (Oh (hd i o ho) h2)
    ·exact absurd h2.2 hQ
   ·rename_i hw
    simp only[hw]at h2
    exact⟨fun _ _=>trivial,qY hd hQ fuel _ _ w h2⟩
theorem xA{n l id:Nat}{P:Program}{ops:Array Oper}{Q:Exit->Act->World->Prop}{a:Act}{w:World}{S:World->Prop}(hm:P.follows .mixedOrders=true)(hd:∀(i:Nat)(o:Oper),ops[i]? = some o->∀c,o.op≠ .defer c)(hQ:¬LetsOut Q)
  (h:wpAnyH P .any ops Q S ops.size (Array.replicate ops.size false) a w.drew):(Code.region id ops true).wpIn (Fence.wide.inRound l) n P Q a w:=
 wpIn_region_any hm (qY hd hQ _ _ _ _ (wpAny_of_held _ _ _ _ h))
end U
end Go.Proofs.YtmnfokgllcdiiaaGreat
namespace Go.Proofs.YtmnfokgllcdiiaaGreat
namespace U
def fkB(p:Int × Int):Bool:=inB p.1 0 7&&aJ p.2
def ndL(key b o s:Int):List Int:=if aV key b.toNat=0 then [b,s,o]else [b,o,s]
end U
end Go.Proofs.YtmnfokgllcdiiaaGreat
namespace Go.Proofs.YtmnfokgllcdiiaaGreat
open Go.RowKit
namespace U
def lq(w:World)(p:Nat)(x:Bool)(k y:Int)(sv:Value):Prop:=w.heap[p]? = some (.cells #[.bool x,.int .i64 k,.int .i64 y,sv] 66)
theorem lq.cells{w:World}{p:Nat}{x:Bool}{k y:Int}{sv:Value}(h:lq w p x k y sv):w.cell? ⟨p,0,none⟩=some (.bool x)/\w.cell? ⟨p,1,none⟩=some (.int .i64 k)/\w.cell? ⟨p,2,none⟩=some (.int .i64 y)/\w.cell? ⟨p,3,none⟩=some sv:=by
 unfold lq at h
 refine⟨?_, ?_, ?_, ?_⟩
 ·unfold World.cell?;rw[h];rfl
 ·unfold World.cell?;rw[h];rfl
 ·unfold World.cell?;rw[h];rfl
 ·unfold World.cell?;rw[h];rfl
theorem lq.lt{w:World}{p:Nat}{x:Bool}{k y:Int}{sv:Value}(h:lq w p x k y sv):p<w.heap.size:=(Array.getElem?_eq_some_iff.1 h).1
theorem lq.below{w w':World}{p:Nat}{x:Bool}{k y:Int}{sv:Value}(h:lq w p x k y sv)(hb:Below w.heap.size w w'):lq w' p x k y sv:=(hb.block p h.lt).trans h
theorem J6(x y x' y':Int)(w:World):
  Calls Tryz.prog 306 #[.agg #[.int .i64 x,.int .i64 y],.agg #[.int .i64 x',.int .i64 y']] w fun e w'=>e = .returned (.bool (decide ((x,y)=(x',y'))))/\Below w.heap.size w w':=by
 by_cases h1:x=x'
 ·by_cases h2:y=y'
  ·subst h1 h2
   rw[decide_eq_true rfl]
   go_enter Tryz.func306,Tryz.ntmps306
   go_wp2
   go_ret
   exact⟨rfl,aA _ _⟩
  ·subst h1
   have e1:(y != y')=true:=by simpa using h2
   rw[decide_eq_false (fun h=>h2 (by cases h;rfl))]
   clear h2
   go_enter Tryz.func306,Tryz.ntmps306
   go_wp2
   go_ret
   exact⟨rfl,aA _ _⟩
 ·have e1:(x != x')=true:=by simpa using h1
  rw[decide_eq_false (fun h=>h1 (by cases h;rfl))]
  clear h1
  go_enter Tryz.func306,Tryz.ntmps306
  go_wp2
  go_ret
  exact⟨rfl,aA _ _⟩
theorem ER(b off c b' off' c' n:Nat)(l m:Prl)(w:World)(HL:Hid (l.length=n))(HM:Hid (m.length=n))(hn:n<=1099511627776)(hb:b<w.heap.size)(hb':b'<w.heap.size)
  (hc:∀j,j<n->w.cell? ⟨b,off+j*2,none⟩=some (.int .i64 (pAt l j).1)/\w.cell? ⟨b,off+j*2+1,none⟩=some (.int .i64 (pAt l j).2))
  (hc':∀j,j<n->w.cell? ⟨b',off'+j*2,none⟩=some (.int .i64 (pAt m j).1)/\w.cell? ⟨b',off'+j*2+1,none⟩=some (.int .i64 (pAt m j).2)) :
  Calls Tryz.prog 275 #[.slice (some ⟨b,off,none⟩) n c,.slice (some ⟨b',off',none⟩) n c'] w fun e w'=>e = .returned (.bool (decide (l=m)))/\Below w.heap.size w w':=by
 go_enter Tryz.func275,Tryz.ntmps275
 go_wp2
 go_loopw [5] (fun i wr=>∃k:Nat,k<=n/\i = .int .i64 k/\Hid (mM l m k)/\Below w.heap.size w wr) (fun i _=>n - (intOf i).toNat)
 case atStart=>exact⟨0,Nat.zero_le _,rfl,fun j hj=>by omega,Below.refl _ _⟩
 case round=>
  obtain⟨k,hk,rfl,hA,hB⟩:=hrel
  by_cases hkn:k<n
  ·have hki:(k:Int)<(n:Int):=by omega
   have c1:=After.cell ((hB.cell (p:=⟨b,off+k*2,none⟩) hb).trans (hc k hkn).1)
   have c2:=After.cell ((hB.cell (p:=⟨b,off+k*2+1,none⟩) hb).trans (hc k hkn).2)
   have c3:=After.cell ((hB.cell (p:=⟨b',off'+k*2,none⟩) hb').trans (hc' k hkn).1)
   have c4:=After.cell ((hB.cell (p:=⟨b',off'+k*2+1,none⟩) hb').trans (hc' k hkn).2)
   have hne:=After.ne wr
   have hE:=fun w=>J6 (pAt l k).1 (pAt l k).2 (pAt m k).1 (pAt m k).2 w
   have HL2:Hid (l.length=n):=HL
   generalize hx:(pAt l k).1=x at *
   generalize hy:(pAt l k).2=y at *
   generalize hx':(pAt m k).1=x' at *
   generalize hy':(pAt m k).2=y' at *
   have HP:Hid (pAt l k=(x,y)/\pAt m k=(x',y')):=⟨by rw[←hx,←hy],by rw[←hx',←hy']⟩
   obtain⟨d,hd⟩:∃d,d=decide ((x,y)=(x',y')):=⟨_,rfl⟩
   have HD:Hid (d=decide ((x,y)=(x',y'))):=hd
   rw[←hd]at hE
   have HB:Hid (Below w.heap.size w wr):=hB
   clear hx hy hx' hy' hc hc' hd hB
   go_wp2
   refine ay (by kernel_rfl) (by kernel_rfl) ?_
   repeat(first | go_big_quiet_skip |(go_big_quiet_want;go_big_quiet_op;first | go_big_quiet_on | go_big_quiet_call (first |(go_at_call 306;refine(hE _).mono ?_;rintro e wq ⟨rfl,hbq⟩;exact⟨rfl,bP (ah (After.b _) hbq)⟩))))
   refine wpQuiet_nil ?_
   rintro _ ⟨n2,rfl⟩
   have hB2:Below w.heap.size w n2.w:=ah HB.out n2.b
   cases d
   ·have e1:Hid (¬l=m):=fun e=>by
     have:=HD.out.symm
     rw[decide_eq_false_iff_not]at this
     exact this (by rw[←HP.out.1,←HP.out.2,e])
    go_wp2
    go_ret
    exact⟨aO (by symm;rw[decide_eq_false_iff_not];exact e1.out),hB2⟩
   ·go_wp2
    go_roundw
    case rel=>exact⟨k+1,by omega,by go_num,hA.out.succ (by rw[HP.out.1,HP.out.2];exact of_decide_eq_true HD.out.symm),hB2⟩
    case measure=>simp[intOf];omega
  ·clear hc hc'
   go_wp2
   go_ret
   refine⟨aO ?_,hB⟩
   symm
   rw[decide_eq_true_iff]
   have hkn:k=n:=by omega
   subst hkn
   have hxl:=HL.out
   exact mM.all (by rw[hxl];exact hA.out) (HL.out.trans HM.out.symm)
theorem GN(v u:Value)(l m:Prl)(w:World)(hv:Prs w v l)(hu:Prs w u m)(hx:l.length<=1099511627776)(hy:m.length<=1099511627776):
  Calls Tryz.prog 275 #[v,u] w fun e w'=>e = .returned (.bool (decide (l=m)))/\Below w.heap.size w w':=by
 obtain⟨a,c,rfl⟩:=hv.shape
 obtain⟨a',c',rfl⟩:=hu.shape
 by_cases hl:l.length=m.length
 ·by_cases h0:0<l.length
  ·obtain⟨_,b,off,rfl,hb,hc⟩:=hv.at h0
   obtain⟨_,b',off',rfl,hb',hc'⟩:=hu.at (by omega)
   rw[←hl]at hc' ⊢
   exact ER b off c b' off' c' l.length l m w rfl hl.symm hx hb hb' hc hc'
  ·have e1:l=[]:=List.eq_nil_of_length_eq_zero (by omega)
   have e2:m=[]:=List.eq_nil_of_length_eq_zero (by omega)
   subst e1 e2
   simp only[List.length_nil]
   clear hv hu hl h0 hx hy
   go_enter Tryz.func275,Tryz.ntmps275
   go_wp2
   refine wp_loop_rounds 1 ?_;rw[rounds_succ]
   go_wp2
   go_ret
   exact⟨rfl,Below.refl _ _⟩
 ·have hne:decide (l=m)=false:=by rw[decide_eq_false_iff_not];intro e;exact hl (by rw[e])
  rw[hne]
  obtain⟨n,hn⟩:∃n,n=l.length:=⟨_,rfl⟩
  obtain⟨k,hk⟩:∃n,n=m.length:=⟨_,rfl⟩
  rw[←hn,←hk]at hl ⊢
  have h1:((n:Int) !=(k:Int))=true:=by simp;omega
  clear hv hu hl hne hn hk
  go_enter Tryz.func275,Tryz.ntmps275
  go_wp2
  go_ret
  exact⟨rfl,Below.refl _ _⟩
theorem EU(x:Bool)(k y:Int)(v u:Value)(l:Prl)(w:World)(hv:Prs w v l)(hu:Prs w u l)(hx:l.length<=1099511627776):
  Calls Tryz.prog 225 #[.agg #[.bool x,.int .i64 k,.int .i64 y,v],.agg #[.bool x,.int .i64 k,.int .i64 y,u]] w fun e w'=>e = .returned (.bool true)/\Below w.heap.size w w':=by
 obtain⟨a,c',rfl⟩:=hv.shape
 obtain⟨a',d',rfl⟩:=hu.shape
 have hE:=fun w' h=>GN _ _ l l w' (hv.below h) (hu.below h) hx hx
 have hS:=fun w=>Bg k y k y w
 have hxx:(x != x)=false:=by simp
 rw[decide_eq_true rfl]at hE hS
 generalize l.length=n at *
 clear hv hu
 obtain⟨W,hW⟩:∃W,W=(w.alloc (.cells #[.bool x,.int .i64 k,.int .i64 y,.slice a n c'] 66)).alloc (.cells #[.bool x,.int .i64 k,.int .i64 y,.slice a' n d'] 66):=⟨_,rfl⟩
 have HW:Hid _:=hW.symm
 have hB:Below w.heap.size w W:=by rw[hW];exact aA _ _
 have H1:W.heap[w.heap.size]? = some (.cells #[.bool x,.int .i64 k,.int .i64 y,.slice a n c'] 66):=by
  rw[hW];exact((aj _).block w.heap.size (by simp)).trans (heap_alloc_new w _)
 have H2:W.heap[w.heap.size+1]? = some (.cells #[.bool x,.int .i64 k,.int .i64 y,.slice a' n d'] 66):=by
  have h:=heap_alloc_new (w.alloc (.cells #[.bool x,.int .i64 k,.int .i64 y,.slice a n c'] 66)) (.cells #[.bool x,.int .i64 k,.int .i64 y,.slice a' n d'] 66)
  rw[World.size_alloc]at h
  rw[hW]
  exact h
 have hsz:w.heap.size+1<W.heap.size:=(Array.getElem?_eq_some_iff.1 H2).1
 obtain⟨p0,p1,p2,p3⟩:=lq.cells H1
 obtain⟨q0,q1,q2,q3⟩:=lq.cells H2
 clear hW
 go_enter Tryz.func225,Tryz.ntmps225
 go_wp2_with fail
 rw[HW.out]
 refine(hS _).mono ?_
 rintro e w1 ⟨rfl,hb1⟩
 have hB1:=ah hB hb1
 obtain⟨r0,r1,r2,r3⟩:=lq.cells ((hb1.block w.heap.size (by omega)).trans H1)
 obtain⟨s0,s1,s2,s3⟩:=lq.cells ((hb1.block (w.heap.size+1) hsz).trans H2)
 clear hS H1 H2 p0 p1 p2 p3 q0 q1 q2 q3 hb1
 go_wp2_with fail
 refine(hE _ hB1).mono ?_
 rintro e w2 ⟨rfl,hb2⟩
 have hB2:=ah hB1 hb2
 clear hE r0 r1 r2 r3 s0 s1 s2 s3
 go_wp2
 go_ret
 exact⟨rfl,hB2⟩
structure SdB(w:World)(g:Nat)(o t:Bool)(v:Int)(sp:Value)(x:Bool)(k y:Int)(sv:Value):Prop where
 h:w.heap[g]? = some (.cells #[.bool o,.bool t,.int .i64 v,sp,.bool x,.int .i64 k,.int .i64 y,sv] 68)
theorem SdB.cells{w:World}{g:Nat}{o t:Bool}{v:Int}{sp:Value}{x:Bool}{k y:Int}{sv:Value}(h:SdB w g o t v sp x k y sv):(w.cell? ⟨g,0,none⟩=some (.bool o)/\w.cell? ⟨g,1,none⟩=some (.bool t)/\w.cell? ⟨g,2,none⟩=some (.int .i64 v)/\w.cell? ⟨g,3,none⟩=some sp)/\w.cell? ⟨g,4,none⟩=some (.bool x)/\w.cell? ⟨g,5,none⟩=some (.int .i64 k)/\w.cell? ⟨g,6,none⟩=some (.int .i64 y)/\w.cell? ⟨g,7,none⟩=some sv:=by
 refine⟨⟨?_, ?_, ?_, ?_⟩, ?_, ?_, ?_, ?_⟩<;>(unfold World.cell?;rw[h.h];rfl)
theorem SdB.below{w w':World}{g:Nat}{o t:Bool}{v:Int}{sp:Value}{x:Bool}{k y:Int}{sv:Value}(h:SdB w g o t v sp x k y sv)(hb:Below w.heap.size w w'):SdB w' g o t v sp x k y sv:=⟨(hb.block g (Array.getElem?_eq_some_iff.1 h.h).1).trans h.h⟩
def rpV(e:Int)(hl:Bool)(l:ByteArray)(v o p:Int)(so st:Bool)(sv:Int)(sp:Value)(sx:Bool)(sk sy:Int)(sf:Value):Value:= .agg #[.int .i64 e,.bool hl,.string l,.int .i64 v,.int .i64 o,.int .i64 p,.bool so,.bool st,.int .i64 sv,sp,.bool sx,.int .i64 sk,.int .i64 sy,sf]
structure RpB(w:World)(g:Nat)(e:Int)(hl:Bool)(l:ByteArray)(v o p:Int)(so st:Bool)(sv:Int)(sp:Value)(sx:Bool)(sk sy:Int)(sf:Value):Prop where
 h:w.heap[g]? = some (.cells #[.int .i64 e,.bool hl,.string l,.int .i64 v,.int .i64 o,.int .i64 p,.bool so,.bool st,.int .i64 sv,sp,.bool sx,.int .i64 sk,.int .i64 sy,sf] 70)
theorem RpB.below{w w':World}{g:Nat}{e:Int}{hl:Bool}{l:ByteArray}{v o p:Int}{so st:Bool}{sv:Int}{sp:Value}{sx:Bool}{sk sy:Int}{sf:Value}(h:RpB w g e hl l v o p so st sv sp sx sk sy sf)(hb:Below w.heap.size w w'):RpB w' g e hl l v o p so st sv sp sx sk sy sf:=⟨(hb.block g (Array.getElem?_eq_some_iff.1 h.h).1).trans h.h⟩
theorem RpB.lt{w:World}{g:Nat}{e:Int}{hl:Bool}{l:ByteArray}{v o p:Int}{so st:Bool}{sv:Int}{sp:Value}{sx:Bool}{sk sy:Int}{sf:Value}(h:RpB w g e hl l v o p so st sv sp sx sk sy sf):g<w.heap.size:=(Array.getElem?_eq_some_iff.1 h.h).1
theorem RpB.cells{w:World}{g:Nat}{e:Int}{hl:Bool}{l:ByteArray}{v o p:Int}{so st:Bool}{sv:Int}{sp:Value}{sx:Bool}{sk sy:Int}{sf:Value}(h:RpB w g e hl l v o p so st sv sp sx sk sy sf):w.cell? ⟨g,0,none⟩=some (.int .i64 e)/\w.cell? ⟨g,1,none⟩=some (.bool hl)/\w.cell? ⟨g,2,none⟩=some (.string l)/\w.cell? ⟨g,3,none⟩=some (.int .i64 v)/\w.cell? ⟨g,4,none⟩=some (.int .i64 o)/\w.cell? ⟨g,5,none⟩=some (.int .i64 p)/\w.cell? ⟨g,6,none⟩=some (.bool so)/\w.cell? ⟨g,7,none⟩=some (.bool st)/\w.cell? ⟨g,8,none⟩=some (.int .i64 sv)/\w.cell? ⟨g,9,none⟩=some (sp)/\w.cell? ⟨g,10,none⟩=some (.bool sx)/\w.cell? ⟨g,11,none⟩=some (.int .i64 sk)/\w.cell? ⟨g,12,none⟩=some (.int .i64 sy)/\w.cell? ⟨g,13,none⟩=some (sf):=by
 have hh:=h.h
 simp[World.cell?,hh]
theorem RpB.new(w:World)(e:Int)(hl:Bool)(l:ByteArray)(v o p:Int)(so st:Bool)(sv:Int)(sp:Value)(sx:Bool)(sk sy:Int)(sf:Value):RpB (w.alloc (.cells #[.int .i64 e,.bool hl,.string l,.int .i64 v,.int .i64 o,.int .i64 p,.bool so,.bool st,.int .i64 sv,sp,.bool sx,.int .i64 sk,.int .i64 sy,sf] 70)) w.heap.size e hl l v o p so st sv sp sx sk sy sf:=⟨heap_alloc_new w _⟩
structure Gm(w:World)(g:Nat)(k:Int)(l:ByteArray)(v o p s n:Int):Prop where
 c0:w.cell? ⟨g,0,none⟩=some (.int .i64 k)
 c1:w.cell? ⟨g,1,none⟩=some (.string l)
 c2:w.cell? ⟨g,2,none⟩=some (.int .i64 v)
 c3:w.cell? ⟨g,3,none⟩=some (.int .i64 o)
 c4:w.cell? ⟨g,4,none⟩=some (.int .i64 p)
 c5:w.cell? ⟨g,5,none⟩=some (.int .i64 s)
 c6:w.cell? ⟨g,6,none⟩=some (.int .i64 n)
theorem Gm.below{w w':World}{g:Nat}{k:Int}{l:ByteArray}{v o p s n:Int}(h:Gm w g k l v o p s n)(hb:Below w.heap.size w w'):Gm w' g k l v o p s n:=
 ⟨After.cell h.c0 ⟨w',hb⟩,After.cell h.c1 ⟨w',hb⟩,After.cell h.c2 ⟨w',hb⟩,After.cell h.c3 ⟨w',hb⟩,After.cell h.c4 ⟨w',hb⟩,After.cell h.c5 ⟨w',hb⟩,After.cell h.c6 ⟨w',hb⟩⟩
theorem Gm.new(w:World)(k:Int)(l:ByteArray)(v o p s n:Int)(t:TypeId):Gm (w.alloc (.cells #[.int .i64 k,.string l,.int .i64 v,.int .i64 o,.int .i64 p,.int .i64 s,.int .i64 n] t)) w.heap.size k l v o p s n:=by
 have hh:=heap_alloc_new w (.cells #[.int .i64 k,.string l,.int .i64 v,.int .i64 o,.int .i64 p,.int .i64 s,.int .i64 n] t)
 constructor<;>(unfold World.cell?;rw[hh];rfl)
theorem nZ{w:World}{g:Nat}{v0 v1 v2 v3 v4 v5 v6 v7:Value}{ty:TypeId}(h:w.heap[g]? = some (.cells #[v0,v1,v2,v3,v4,v5,v6,v7] ty)):(w.cell? ⟨g,0,none⟩=some v0/\w.cell? ⟨g,1,none⟩=some v1/\w.cell? ⟨g,2,none⟩=some v2/\w.cell? ⟨g,3,none⟩=some v3/\w.cell? ⟨g,4,none⟩=some v4/\w.cell? ⟨g,5,none⟩=some v5/\w.cell? ⟨g,6,none⟩=some v6/\w.cell? ⟨g,7,none⟩=some v7)/\
  (w.frozen? ⟨g,0,none⟩=false/\w.frozen? ⟨g,1,none⟩=false/\w.frozen? ⟨g,2,none⟩=false/\w.frozen? ⟨g,3,none⟩=false/\w.frozen? ⟨g,4,none⟩=false/\w.frozen? ⟨g,5,none⟩=false/\w.frozen? ⟨g,6,none⟩=false/\w.frozen? ⟨g,7,none⟩=false):=by
 refine⟨⟨?_, ?_, ?_, ?_, ?_, ?_, ?_, ?_⟩, ?_, ?_, ?_, ?_, ?_, ?_, ?_, ?_⟩<;>(first |(unfold World.cell?;rw[h];rfl) |(unfold World.frozen?;rw[h];rfl))
theorem J8(o t:Bool)(v:Int)(sp sp':Value)(ps:List Int)(x:Bool)(k y:Int)(sv sv':Value)(f:Prl)(w:World)(hp:Ints .i64 w sp ps)(hp':Ints .i64 w sp' ps)(hv:Prs w sv f)(hv':Prs w sv' f)(hx:ps.length<=1099511627776)(hy:f.length<=1099511627776):
  Calls Tryz.prog 170 #[.agg #[.bool o,.bool t,.int .i64 v,sp,.bool x,.int .i64 k,.int .i64 y,sv],.agg #[.bool o,.bool t,.int .i64 v,sp',.bool x,.int .i64 k,.int .i64 y,sv']] w fun e w'=>e = .returned (.bool true)/\Below w.heap.size w w':=by
 have hE:=fun w' h=>GV sp sp' ps ps w' (hp.below (w':=w') h) (hp'.below h) hx hx
 rw[decide_eq_true rfl]at hE
 have hT:=fun w' h=>EU x k y sv sv' f w' (hv.below (w':=w') h) (hv'.below h) hy
 obtain⟨a,c,rfl⟩:=hp.shape
 obtain⟨a1,c1,rfl⟩:=hp'.shape
 obtain⟨a2,c2,rfl⟩:=hv.shape
 obtain⟨a3,c3,rfl⟩:=hv'.shape
 generalize ps.length=pn at *
 generalize f.length=fn at *
 clear hp hp' hv hv'
 obtain⟨W,hW⟩:∃W,W=(w.alloc (.cells #[.bool o,.bool t,.int .i64 v,.slice a pn c,.bool x,.int .i64 k,.int .i64 y,.slice a2 fn c2] 68)).alloc (.cells #[.bool o,.bool t,.int .i64 v,.slice a1 pn c1,.bool x,.int .i64 k,.int .i64 y,.slice a3 fn c3] 68):=⟨_,rfl⟩
 have HW:Hid _:=hW.symm
 have hB:Below w.heap.size w W:=by rw[hW];exact aA _ _
 have H0:W.heap[w.heap.size]? = some (.cells #[.bool o,.bool t,.int .i64 v,.slice a pn c,.bool x,.int .i64 k,.int .i64 y,.slice a2 fn c2] 68):=by
  rw[hW];exact((aj _).block w.heap.size (by simp)).trans (heap_alloc_new w _)
 have H1:W.heap[w.heap.size+1]? = some (.cells #[.bool o,.bool t,.int .i64 v,.slice a1 pn c1,.bool x,.int .i64 k,.int .i64 y,.slice a3 fn c3] 68):=by
  have h:=heap_alloc_new (w.alloc (.cells #[.bool o,.bool t,.int .i64 v,.slice a pn c,.bool x,.int .i64 k,.int .i64 y,.slice a2 fn c2] 68)) (.cells #[.bool o,.bool t,.int .i64 v,.slice a1 pn c1,.bool x,.int .i64 k,.int .i64 y,.slice a3 fn c3] 68)
  rw[World.size_alloc]at h
  rw[hW];exact h
 obtain⟨⟨d0,d1,d2,d3,d4,d5,d6,d7⟩,-⟩:=nZ H0
 obtain⟨⟨e0,e1,e2,e3,e4,e5,e6,e7⟩,-⟩:=nZ H1
 have hne:(v != v)=false:=by simp
 have hno:∀b:Bool,(b != b)=false:=by intro b;cases b<;>rfl
 have Yx:=hno o
 have Z7:=hno t
 clear hW hno
 go_enter Tryz.func170,Tryz.ntmps170
 go_wp2_with fail
 rw[HW.out]
 refine(hE _ hB).mono ?_
 rintro e w1 ⟨rfl,n1,hw1⟩
 have hb1:Below W.heap.size W w1:=by rw[hw1];exact below_drewN (Below.refl _ _) n1
 have hB1:=ah hB hb1
 obtain⟨⟨d0,d1,d2,d3,d4,d5,d6,d7⟩,-⟩:=nZ ((hb1.block _ (Array.getElem?_eq_some_iff.1 H0).1).trans H0)
 obtain⟨⟨e0,e1,e2,e3,e4,e5,e6,e7⟩,-⟩:=nZ ((hb1.block _ (Array.getElem?_eq_some_iff.1 H1).1).trans H1)
 clear hE hw1 hb1 H0 H1
 go_wp2_with fail
 refine(hT _ hB1).mono ?_
 rintro e w2 ⟨rfl,hb2⟩
 have hB2:=ah hB1 hb2
 clear hT hb2
 go_wp2
 go_ret
 exact⟨rfl,hB2⟩
structure StK(w W w2:World)(u1 u3:Value)(pn fn:Nat)(xs ys:List Value)(X:World):Prop where
 b:Below w.heap.size w X
 o1:X.ownsRow W.heap.size 2 1 u1 pn xs
 o3:X.ownsRow w2.heap.size 291 2 u3 fn ys
theorem StK.set{w W w2:World}{u1 u3:Value}{pn fn:Nat}{xs ys:List Value}{X:World}(h:StK w W w2 u1 u3 pn fn xs ys X)(g i:Nat)(v:Value)(hg:w.heap.size<=g/\g<W.heap.size/\g<w2.heap.size):StK w W w2 u1 u3 pn fn xs ys (X.setCell ⟨g,i,none⟩ v):=
 ⟨h.b.setCell (by exact hg.1) v,ownsRow_setCell_below h.o1 (by exact hg.2.1) v,ownsRow_setCell_below h.o3 (by exact hg.2.2) v⟩
theorem fourteen{w:World}{g:Nat}{v0 v1 v2 v3 v4 v5 v6 v7 v8 v9 v10 v11 v12 v13:Value}{ty:TypeId}(h:w.heap[g]? = some (.cells #[v0,v1,v2,v3,v4,v5,v6,v7,v8,v9,v10,v11,v12,v13] ty)):(w.cell? ⟨g,0,none⟩=some v0/\w.cell? ⟨g,1,none⟩=some v1/\w.cell? ⟨g,2,none⟩=some v2/\w.cell? ⟨g,3,none⟩=some v3/\w.cell? ⟨g,4,none⟩=some v4/\w.cell? ⟨g,5,none⟩=some v5/\w.cell? ⟨g,6,none⟩=some v6/\w.cell? ⟨g,7,none⟩=some v7/\w.cell? ⟨g,8,none⟩=some v8/\w.cell? ⟨g,9,none⟩=some v9/\w.cell? ⟨g,10,none⟩=some v10/\w.cell? ⟨g,11,none⟩=some v11/\w.cell? ⟨g,12,none⟩=some v12/\w.cell? ⟨g,13,none⟩=some v13)/\
  (w.frozen? ⟨g,0,none⟩=false/\w.frozen? ⟨g,1,none⟩=false/\w.frozen? ⟨g,2,none⟩=false/\w.frozen? ⟨g,3,none⟩=false/\w.frozen? ⟨g,4,none⟩=false/\w.frozen? ⟨g,5,none⟩=false/\w.frozen? ⟨g,6,none⟩=false/\w.frozen? ⟨g,7,none⟩=false/\w.frozen? ⟨g,8,none⟩=false/\w.frozen? ⟨g,9,none⟩=false/\w.frozen? ⟨g,10,none⟩=false/\w.frozen? ⟨g,11,none⟩=false/\w.frozen? ⟨g,12,none⟩=false/\w.frozen? ⟨g,13,none⟩=false):=by
 refine⟨⟨?_, ?_, ?_, ?_, ?_, ?_, ?_, ?_, ?_, ?_, ?_, ?_, ?_, ?_⟩, ?_, ?_, ?_, ?_, ?_, ?_, ?_, ?_, ?_, ?_, ?_, ?_, ?_, ?_⟩<;>(first |(unfold World.cell?;rw[h];rfl) |(unfold World.frozen?;rw[h];rfl))
structure jX(w:World)(g:Nat)(f:Nat->Value):Prop where
 c:∀j,j<8->w.cell? ⟨g,j,none⟩=some (f j)
 z:∀j,j<8->w.frozen? ⟨g,j,none⟩=false
def Yl(f:Nat->Value):Array Value:=#[f 0,f 1,f 2,f 3,f 4,f 5,f 6,f 7]
theorem lt8{j:Nat}(h:j<8):j=0∨j=1∨j=2∨j=3∨j=4∨j=5∨j=6∨j=7:=by omega
theorem jX.of{w:World}{g:Nat}{f:Nat->Value}{t:TypeId}(h:w.heap[g]? = some (.cells (Yl f) t)):jX w g f:=by
 constructor
 ·intro j hj
  rcases lt8 hj with rfl | rfl | rfl | rfl | rfl | rfl | rfl | rfl<;>(unfold World.cell?;rw[h];rfl)
 ·intro j hj
  rcases lt8 hj with rfl | rfl | rfl | rfl | rfl | rfl | rfl | rfl<;>(unfold World.frozen?;rw[h];rfl)
theorem jX.below{w w':World}{g B:Nat}{f:Nat->Value}(h:jX w g f)(hb:Below B w w')(hg:g<B):jX w' g f:=
 ⟨fun j hj=>(hb.cell (p:=⟨g,j,none⟩) hg).trans (h.c j hj),fun j hj=>(hb.frozen (p:=⟨g,j,none⟩) hg).trans (h.z j hj)⟩
theorem jX.set{w:World}{g k:Nat}{f:Nat->Value}(h:jX w g f)(hk:k<8)(x:Value):jX (w.setCell ⟨g,k,none⟩ x) g (fun j=>if j=k then x else f j):=by
 refine⟨fun j hj=> ?_,fun j hj=>(World.frozen?_setCell _ _ _ _).trans (h.z j hj)⟩
 by_cases e:j=k
 ·subst e
  rw[if_pos rfl]
  exact World.cell?_setCell_same _ _ _ (h.c j hj)
 ·rw[if_neg e]
  exact(World.cell?_setCell_other _ _ _ _ (by simp)).trans (h.c j hj)
theorem jX.other{w:World}{g k b:Nat}{f:Nat->Value}(h:jX w g f)(hb:b≠g)(x:Value):jX (w.setCell ⟨b,k,none⟩ x) g f:=
 ⟨fun j hj=>(World.cell?_setCell_other _ _ _ _ (by simp)).trans (h.c j hj),fun j hj=>(World.frozen?_setCell _ _ _ _).trans (h.z j hj)⟩
theorem jX.cells{w:World}{g:Nat}{f:Nat->Value}(h:jX w g f):w.cell? ⟨g,0,none⟩=some (f 0)/\w.cell? ⟨g,1,none⟩=some (f 1)/\w.cell? ⟨g,2,none⟩=some (f 2)/\w.cell? ⟨g,3,none⟩=some (f 3)/\w.cell? ⟨g,4,none⟩=some (f 4)/\w.cell? ⟨g,5,none⟩=some (f 5)/\w.cell? ⟨g,6,none⟩=some (f 6)/\w.cell? ⟨g,7,none⟩=some (f 7):=
 ⟨h.c 0 (by omega),h.c 1 (by omega),h.c 2 (by omega),h.c 3 (by omega),h.c 4 (by omega),h.c 5 (by omega),h.c 6 (by omega),h.c 7 (by omega)⟩
theorem jX.VO{w:World}{g:Nat}{f:Nat->Value}(h:jX w g f):w.frozen? ⟨g,0,none⟩=false/\w.frozen? ⟨g,1,none⟩=false/\w.frozen? ⟨g,2,none⟩=false/\w.frozen? ⟨g,3,none⟩=false/\w.frozen? ⟨g,4,none⟩=false/\w.frozen? ⟨g,5,none⟩=false/\w.frozen? ⟨g,6,none⟩=false/\w.frozen? ⟨g,7,none⟩=false:=
 ⟨h.z 0 (by omega),h.z 1 (by omega),h.z 2 (by omega),h.z 3 (by omega),h.z 4 (by omega),h.z 5 (by omega),h.z 6 (by omega),h.z 7 (by omega)⟩
theorem jX.congr{w:World}{g:Nat}{f f':Nat->Value}(h:jX w g f)(e:∀j,j<8->f j=f' j):jX w g f':=⟨fun j hj=>by rw[←e j hj];exact h.c j hj,h.z⟩
end U
end Go.Proofs.YtmnfokgllcdiiaaGreat
namespace Go.Proofs.YtmnfokgllcdiiaaGreat
open Go.RowKit Go.Shelf
namespace U
attribute [local go_sem] Oper.semAt_some
structure KpX(X:Nat)(A B:World):Prop where
 z:A.heap.size<=B.heap.size
 s:∀k o,k≠X->o.isCells=true->A.heap[k]? = some o->B.heap[k]? = some o
theorem KpX.refl(X:Nat)(A:World):KpX X A A:=⟨Nat.le_refl _,fun _ _ _ _ h=>h⟩
theorem KpX.trans{X:Nat}{A B C:World}(h:KpX X A B)(k:KpX X B C):KpX X A C:=⟨Nat.le_trans h.z k.z,fun i o h1 h2 h3=>k.s i o h1 h2 (h.s i o h1 h2 h3)⟩
theorem KpX.put{X:Nat}(W:World)(l:Nat)(o o':Obj)(h:W.heap[l]? = some o)(hn:o.isCells=false):KpX X W (W.putObj l o'):=
 ⟨by rw[World.putObj_size];exact Nat.le_refl _,fun k q _ hq hk=>by
  have hne:k≠l:=fun e=>by subst e;rw[h]at hk;cases hk;rw[hn]at hq;cases hq
  rw[World.putObj_heap_other hne];exact hk⟩
theorem KpX.of_below{X:Nat}{A B:World}(h:Below A.heap.size A B):KpX X A B:=⟨h.size,fun k _ _ _ hk=>(h.block k (Array.getElem?_eq_some_iff.1 hk).1).trans hk⟩
theorem KpX.cell{X:Nat}{A B:World}(h:KpX X A B){b o:Nat}{v:Value}(hne:b≠X)(hc:A.cell? ⟨b,o,none⟩=some v):B.cell? ⟨b,o,none⟩=some v:=by
 unfold World.cell? at hc ⊢
 rcases hh:A.heap[b]? with _ | ob
 ·simp[hh]at hc
 ·rcases ob with⟨cs,t,fz⟩ | _ | _ | _ | _ | _ | _ | _<;>simp[hh]at hc
  have:=h.s b _ hne rfl hh
  simp[this]
  exact hc
theorem KpX.set{X:Nat}{A B:World}(h:KpX X A B)(o:Nat)(v:Value):KpX X A (B.setCell ⟨X,o,none⟩ v):=
 ⟨by rw[World.size_setCell];exact h.z,fun k q h1 h2 h3=>(heap_setCell_other _ _ _ _ h1).trans (h.s k q h1 h2 h3)⟩
end U
end Go.Proofs.YtmnfokgllcdiiaaGreat
namespace Go.Proofs.YtmnfokgllcdiiaaGreat
open Go.RowKit
namespace U
end U
end Go.Proofs.YtmnfokgllcdiiaaGreat
namespace Go.Proofs.YtmnfokgllcdiiaaGreat
open Go.RowKit Go.Shelf
namespace U
attribute [local go_sem] Oper.semAt_some
theorem En{w w':World}{row:Option Nat}{b:Nat}{o:Obj}(hg:w.grownBy w' row)(h:w.heap[b]? = some o)(hne:some b≠row):w'.heap[b]? = some o:=(hg.block b (Array.getElem?_eq_some_iff.1 h).1 (fun e=>hne e)).trans h
end U
end Go.Proofs.YtmnfokgllcdiiaaGreat
namespace Go.Proofs.YtmnfokgllcdiiaaGreat
open Go.RowKit
namespace U
end U
end Go.Proofs.YtmnfokgllcdiiaaGreat
namespace Go.Proofs.YtmnfokgllcdiiaaGreat
open Go.RowKit Go.Shelf
namespace U
attribute [local go_sem] Oper.semAt_some
structure KpT(N:Nat)(A B:World):Prop where
 b:Below N A B
 s:∀(k:Nat)(cs:Array Value),A.heap[k]? = some (Obj.cells cs 291)->B.heap[k]? = some (Obj.cells cs 291)
theorem KpT.refl(N:Nat)(A:World):KpT N A A:=⟨Below.refl _ _,fun _ _ h=>h⟩
theorem KpT.trans{N:Nat}{A B C:World}(h:KpT N A B)(k:KpT N B C):KpT N A C:=⟨h.b.trans k.b,fun i o h1=>k.s i o (h.s i o h1)⟩
theorem KpT.of_below{N:Nat}{A B:World}(hN:N<=A.heap.size)(h:Below A.heap.size A B):KpT N A B:=⟨h.mono hN,fun k _ hk=>(h.block k (Array.getElem?_eq_some_iff.1 hk).1).trans hk⟩
theorem KpT.cell{N:Nat}{A B:World}(h:KpT N A B){b o:Nat}{v:Value}(hlt:b<N)(hc:A.cell? ⟨b,o,none⟩=some v):B.cell? ⟨b,o,none⟩=some v:=(h.b.cell (p:=⟨b,o,none⟩) hlt).trans hc
end U
end Go.Proofs.YtmnfokgllcdiiaaGreat
namespace Go.Proofs.YtmnfokgllcdiiaaGreat
open Go.RowKit
namespace U
end U
end Go.Proofs.YtmnfokgllcdiiaaGreat
namespace Go.Proofs.YtmnfokgllcdiiaaGreat
open Go.RowKit Go.Shelf
namespace U
attribute [local go_sem] Oper.semAt_some
abbrev Fp:={p:Int × Int // fkB p=true}
def pzs(key:Int)(lf:List Int)(pre:List (Int × Fp)):List (List Int) × List Int:=
 pre.foldl (fun st x=>(st.1++[bg 5 (ndL key x.2.1.1 x.2.1.2 (bf st.2))],bg 5 (ndL key x.2.1.1 x.2.1.2 (bf st.2)))) ([lf],lf)
structure fQ(W:World)(B:Nat)(us:List Value)(ps:List (List Int)):Prop where
 n:us.length=ps.length
 r:∀(j:Nat)(u:Value)(ys:List Int),us[j]? = some u->ps[j]? = some ys->W.ownsRow B 5 1 u ys.length (ys.map (Value.int .u8))
theorem fQ.below{W W':World}{B:Nat}{us:List Value}{ps:List (List Int)}(h:fQ W B us ps)(hb:Below W.heap.size W W'):fQ W' B us ps:=⟨h.n,fun j u ys h1 h2=>own_below (h.r j u ys h1 h2) hb⟩
theorem fQ.mono{W:World}{B B':Nat}{us:List Value}{ps:List (List Int)}(h:fQ W B' us ps)(hB:B<=B'):fQ W B us ps:=⟨h.n,fun j u ys h1 h2=>aS (h.r j u ys h1 h2) hB⟩
theorem RU{w:World}{B n size:Nat}{e:TypeId}{v:Value}{xs:List Value}{g:Nat}(h:w.ownsRow B e size v n xs)(hg:v.ownBlock=some g):∃cur,w.heap[g]? = some (.cells cur e):=by
 rcases h.2 with⟨rfl,_⟩ |⟨g',cap,cur,rfl,_,h4,_⟩
 ·simp[Value.ownBlock]at hg
 ·have:g'=g:=by simpa [Value.ownBlock]using hg
  subst this
  exact⟨cur,h4⟩
theorem xk{w w':World}{B n size:Nat}{e:TypeId}{v:Value}{xs:List Value}{row:Option Nat}(h:w.ownsRow B e size v n xs)(hg:w.grownBy w' row)(hr:∀(b:Nat)(cur:Array Value),row=some b->w.heap[b]?≠some (.cells cur e)):w'.ownsRow B e size v n xs:=by
 refine Ey h hg ?_
 rcases hk:v.ownBlock with _ | g
 ·exact Or.inl rfl
 ·right
  intro e'
  obtain⟨cur,hc⟩:=RU h hk
  exact hr g cur e'.symm hc
theorem fQ.aside{W W':World}{B:Nat}{us:List Value}{ps:List (List Int)}{row:Option Nat}(h:fQ W B us ps)(hg:W.grownBy W' row)(hr:∀(b:Nat)(cur:Array Value),row=some b->W.heap[b]?≠some (.cells cur 5)):fQ W' B us ps:=⟨h.n,fun j u ys h1 h2=>xk (h.r j u ys h1 h2) hg hr⟩
theorem rV{W:World}{row:Option Nat}{B:Nat}(hr:∀r,row=some r->B<=r/\∃o:Obj,W.heap[r]? = some o/\o.isCells=false){e:TypeId}:∀(b:Nat)(cur:Array Value),row=some b->W.heap[b]?≠some (.cells cur e):=by
 intro b cur hb h
 obtain⟨-,o,ho,hn⟩:=hr b hb
 rw[h]at ho
 cases ho
 simp[Obj.isCells]at hn
theorem fQ.snoc{W:World}{B:Nat}{us:List Value}{ps:List (List Int)}{u:Value}{ys:List Int}(h:fQ W B us ps)(hu:W.ownsRow B 5 1 u ys.length (ys.map (Value.int .u8))):fQ W B (us++[u]) (ps++[ys]):=by
 refine⟨by simp[h.n],fun j v zs h1 h2=> ?_⟩
 by_cases hj:j<us.length
 ·rw[List.getElem?_append_left hj]at h1
  rw[List.getElem?_append_left (by rw[←h.n];exact hj)]at h2
  exact h.r j v zs h1 h2
 ·have hl:=(List.getElem?_eq_some_iff.1 h1).1
  have ej:j=us.length:=by simp at hl;omega
  subst ej
  rw[List.getElem?_append_right (Nat.le_refl _)]at h1
  rw[h.n,List.getElem?_append_right (Nat.le_refl _)]at h2
  simp at h1 h2
  subst h1 h2
  exact hu
theorem fQ.one{W:World}{B:Nat}{u:Value}{ys:List Int}(hu:W.ownsRow B 5 1 u ys.length (ys.map (Value.int .u8))):fQ W B [u] [ys]:=by
 have h:=fQ.snoc (W:=W) (B:=B) (us:=[]) (ps:=[]) ⟨rfl,fun j u ys h=>by simp at h⟩ hu
 exact h
structure PI(B M N:Nat)(w:World)(key:Int)(lf:List Int)(pre:List (Int × Fp))(W:World):Prop where
 x:∃a c g cp us,W.heap[B]? = some (.cells #[.slice a (pzs key lf pre).2.length c] 243)/\W.heap[B+1+1]? = some (.cells #[.slice (some ⟨g,0,none⟩) (pre.length+1) cp] 393)/\W.ownsRow (B+1) 243 1 (.slice (some ⟨g,0,none⟩) (pre.length+1) cp) (pre.length+1) us/\W.ownsRow M 5 1 (.slice a (pzs key lf pre).2.length c) (pzs key lf pre).2.length ((pzs key lf pre).2.map (Value.int .u8))/\fQ W M us (pzs key lf pre).1
 b:Below B w W
 z:N<=W.heap.size
theorem PI.own{B M N:Nat}{w:World}{key:Int}{lf:List Int}(hN:B+1+1<N)(hw:w.heap.size=B):OwnFrom N (PI B M N w key lf):=by
 rintro pre X Y row ⟨⟨a,c,g,cp,us,h1,h2,h3,h4,h5⟩,hb,hz⟩ hg hr
 have hne:∀(b:Nat)(cs:Array Value)(t:TypeId),X.heap[b]? = some (.cells cs t)->some b≠row:=fun b cs t h e=>rV hr b cs e.symm h
 exact⟨⟨a,c,g,cp,us,En hg h1 (hne _ _ _ h1),En hg h2 (hne _ _ _ h2),xk h3 hg (rV hr),xk h4 hg (rV hr),h5.aside hg (rV hr)⟩,hb.grown hg (by rw[←hw];exact hb.size) (fun k hk=>by have:=(hr k hk).1;omega),Nat.le_trans hz hg.size⟩
end U
end Go.Proofs.YtmnfokgllcdiiaaGreat
namespace Go.Proofs.YtmnfokgllcdiiaaGreat
open Go.RowKit Go.Shelf
namespace U
attribute [local go_sem] Oper.semAt_some
end U
end Go.Proofs.YtmnfokgllcdiiaaGreat
namespace Go.Proofs.YtmnfokgllcdiiaaGreat
open Go.RowKit Go.Shelf
namespace U
theorem fQ.at{W:World}{B A:Nat}{us:List Value}{ps:List (List Int)}{g c n:Nat}(h:fQ W B us ps)(ho:W.ownsRow A 243 1 (.slice (some ⟨g,0,none⟩) n c) n us){j:Nat}{ys:List Int}(hj:ps[j]? = some ys):
  ∃a d,W.cell? ⟨g,j,none⟩=some (.slice a ys.length d)/\W.ownsRow B 5 1 (.slice a ys.length d) ys.length (ys.map (Value.int .u8)):=by
 have hlt:j<us.length:=by rw[h.n];exact(List.getElem?_eq_some_iff.1 hj).1
 have hu:us[j]? = some us[j]:=List.getElem?_eq_getElem hlt
 have hr:=h.r j us[j] ys hu hj
 obtain⟨a,d,e⟩:=aQ hr
 have hc:=ho.cells (g:=g) rfl j us[j] hu
 have hadd:(⟨g,0,none⟩:Addr).add j=⟨g,j,none⟩:=by unfold Addr.add;split<;>simp_all
 rw[hadd]at hc
 rw[e]at hc hr
 exact⟨a,d,hc,hr⟩
end U
end Go.Proofs.YtmnfokgllcdiiaaGreat
namespace Go.Proofs.YtmnfokgllcdiiaaGreat
open Go.RowKit
namespace U
def oC(old:Bool)(p:Int):Bool:=if old=true then ny p else kL p
def pW(old:Bool)(o n:Int):Int:=if old=true then o else n
theorem GX(e:Int)(hl:Bool)(l:ByteArray)(v o p:Int)(so st:Bool)(sv:Int)(sp sp':Value)(ps:List Int)(sx:Bool)(sk sy:Int)(sf Wy:Value)(f:Prl)(w:World)(hp:Ints .i64 w sp ps)(hp':Ints .i64 w sp' ps)(hv:Prs w sf f)(hv':Prs w Wy f)(hx:ps.length<=1099511627776)(hy:f.length<=1099511627776):
  Calls Tryz.prog 78 #[rpV e hl l v o p so st sv sp sx sk sy sf,rpV e hl l v o p so st sv sp' sx sk sy Wy] w fun x w'=>x = .returned (.bool true)/\Below w.heap.size w w':=by
 have hR:=fun w=>vw l v o p w
 have hS:=fun w' (h:Below w.heap.size w w')=>J8 so st sv sp sp' ps sx sk sy sf Wy f w' (hp.below h) (hp'.below h) (hv.below h) (hv'.below h) hx hy
 obtain⟨a,c,rfl⟩:=hp.shape
 obtain⟨a1,c1,rfl⟩:=hp'.shape
 obtain⟨a2,c2,rfl⟩:=hv.shape
 obtain⟨a3,c3,rfl⟩:=hv'.shape
 unfold dG at hR
 unfold rpV
 generalize ps.length=pn at *
 generalize f.length=fn at *
 clear hp hp' hv hv'
 obtain⟨W,hW⟩:∃W,W=(w.alloc (.cells #[.int .i64 e,.bool hl,.string l,.int .i64 v,.int .i64 o,.int .i64 p,.bool so,.bool st,.int .i64 sv,.slice a pn c,.bool sx,.int .i64 sk,.int .i64 sy,.slice a2 fn c2] 70)).alloc (.cells #[.int .i64 e,.bool hl,.string l,.int .i64 v,.int .i64 o,.int .i64 p,.bool so,.bool st,.int .i64 sv,.slice a1 pn c1,.bool sx,.int .i64 sk,.int .i64 sy,.slice a3 fn c3] 70):=⟨_,rfl⟩
 have HW:Hid _:=hW.symm
 have hB:Below w.heap.size w W:=by rw[hW];exact aA _ _
 have H0:W.heap[w.heap.size]? = some (.cells #[.int .i64 e,.bool hl,.string l,.int .i64 v,.int .i64 o,.int .i64 p,.bool so,.bool st,.int .i64 sv,.slice a pn c,.bool sx,.int .i64 sk,.int .i64 sy,.slice a2 fn c2] 70):=by
  rw[hW];exact((aj _).block w.heap.size (by simp)).trans (heap_alloc_new w _)
 have H1:W.heap[w.heap.size+1]? = some (.cells #[.int .i64 e,.bool hl,.string l,.int .i64 v,.int .i64 o,.int .i64 p,.bool so,.bool st,.int .i64 sv,.slice a1 pn c1,.bool sx,.int .i64 sk,.int .i64 sy,.slice a3 fn c3] 70):=by
  have h:=heap_alloc_new (w.alloc (.cells #[.int .i64 e,.bool hl,.string l,.int .i64 v,.int .i64 o,.int .i64 p,.bool so,.bool st,.int .i64 sv,.slice a pn c,.bool sx,.int .i64 sk,.int .i64 sy,.slice a2 fn c2] 70)) (.cells #[.int .i64 e,.bool hl,.string l,.int .i64 v,.int .i64 o,.int .i64 p,.bool so,.bool st,.int .i64 sv,.slice a1 pn c1,.bool sx,.int .i64 sk,.int .i64 sy,.slice a3 fn c3] 70)
  rw[World.size_alloc]at h
  rw[hW];exact h
 have hl0:=(Array.getElem?_eq_some_iff.1 H0).1
 have hl1:=(Array.getElem?_eq_some_iff.1 H1).1
 obtain⟨⟨d0,d1,d2,d3,d4,d5,d6,d7,d8,d9,d10,d11,d12,d13⟩,-⟩:=fourteen H0
 obtain⟨⟨q0,q1,q2,q3,q4,q5,q6,q7,q8,q9,q10,q11,q12,q13⟩,-⟩:=fourteen H1
 have hne:(e != e)=false:=by simp
 have Yx:(hl != hl)=false:=by cases hl<;>rfl
 clear hW
 go_enter Tryz.func78,Tryz.ntmps78
 go_wp2_with fail
 rw[HW.out]
 refine(hR _).mono ?_
 rintro x w1 ⟨rfl,hb1⟩
 have hB1:=ah hB hb1
 obtain⟨⟨d0,d1,d2,d3,d4,d5,d6,d7,d8,d9,d10,d11,d12,d13⟩,-⟩:=fourteen ((hb1.block _ hl0).trans H0)
 obtain⟨⟨q0,q1,q2,q3,q4,q5,q6,q7,q8,q9,q10,q11,q12,q13⟩,-⟩:=fourteen ((hb1.block _ hl1).trans H1)
 clear hR hb1 H0 H1
 go_wp2_with fail
 refine(hS _ hB1).mono ?_
 rintro x w2 ⟨rfl,hb2⟩
 have hB2:=ah hB1 hb2
 clear hS hb2
 go_wp2
 go_ret
 exact⟨rfl,hB2⟩
theorem FC(B:Nat)(v:Value)(l:Prl)(k0:Nat)(w:World)(hown:w.ownsRow B 291 2 v l.length ((fl l).map (Value.int .i64)))(hx:l.length<=1099511627776)(hk0:k0<=1099511627776):
  Calls Tryz.prog 276 #[v,.int .i64 k0] w fun e w'=>e = .returned (.int .i64 ((k0+l.length*2:Nat):Int))/\w.grownBy w' v.ownBlock/\w'.ownsRow B 291 2 v l.length ((fl (mkP k0 l.length)).map (Value.int .i64)):=by
 by_cases h0:l.length=0
 ·have e1:l=[]:=List.eq_nil_of_length_eq_zero h0
  subst e1
  obtain⟨a,c,rfl⟩:∃a c,v = .slice a 0 c:=by
   rcases hown.2 with⟨rfl,hn⟩ |⟨g,cap,cur,rfl,_⟩
   ·exact⟨none,0,rfl⟩
   ·exact⟨_,_,rfl⟩
  simp only[List.length_nil]at *
  go_enter Tryz.func276,Tryz.ntmps276
  go_wp2
  refine wp_loop_rounds 1 ?_;rw[rounds_succ]
  go_wp2
  go_ret
  exact⟨rfl,World.grownBy.refl _ _,hown⟩
 ·rcases hown.2 with⟨_,h⟩ |⟨g,cap,cur,rfl,hB,hg,_⟩
  ·exact absurd h h0
  have hgs:g<w.heap.size:=(Array.getElem?_eq_some_iff.1 hg).1
  have hfl:=mX l
  have hml:fl (mkP k0 l.length)=marks k0 (fl l).length:=by rw[Pm,hfl]
  rw[hml]
  clear hg hB hml
  obtain⟨n,hn⟩:∃n,n=l.length:=⟨_,rfl⟩
  have HN:Hid ((fl l).length=n*2):=by show _=_;rw[hn];exact hfl
  rw[←hn]at hown hx h0 ⊢
  generalize fl l=xs at *
  clear hn h0 hfl
  go_enter Tryz.func276,Tryz.ntmps276
  go_wp2
  go_loopw [1,5] (fun k i wr=>∃j:Nat,j<=n/\i = .int .i64 j/\k = .int .i64 ((k0+j*2:Nat):Int)/\w.grownBy wr (some g)/\wr.ownsRow B 291 2 (.slice (some ⟨g,0,none⟩) n cap) n ((half xs k0 (j*2)).map (Value.int .i64))) (fun _ i _=>n - (intOf i).toNat)
  case atStart=>exact⟨0,Nat.zero_le _,rfl,by simp,World.grownBy.refl _ _,by rw[Nat.zero_mul,wC];exact hown⟩
  case round=>
   obtain⟨j,hj,rfl,rfl,hgr,ho⟩:=hrel
   by_cases hjn:j<n
   ·have hji:(j:Int)<(n:Int):=by omega
    have f0:=ho.frozenAt (j*2)
    have f1:=ho.frozenAt (j*2+1)
    obtain⟨x,c0⟩:=l7 ho (j:=j*2) (by omega)
    obtain⟨y,c1⟩:=l7 ho (j:=j*2+1) (by omega)
    obtain⟨s1,s2⟩:=ho.stored (j*2) (.int .i64 ((k0+j*2:Nat):Int))
    obtain⟨s3,s4⟩:=s1.stored (j*2+1) (.int .i64 ((k0+(j*2+1):Nat):Int))
    have s5:=bM (bM hgr s2) s4
    rw[←List.map_set,qI xs k0 (j*2) (by have:=HN.out;omega),←List.map_set,qI xs k0 (j*2+1) (by have:=HN.out;omega)]at s3
    have e5:(((k0+j*2:Nat):Int)+1)=((k0+(j*2+1):Nat):Int):=by omega
    have H3:Hid (((wr.setCell ⟨g,j*2,none⟩ (.int .i64 ((k0+j*2:Nat):Int))).setCell ⟨g,j*2+1,none⟩ (.int .i64 ((k0+(j*2+1):Nat):Int))).ownsRow B 291 2 (.slice (some ⟨g,0,none⟩) n cap) n ((half xs k0 (j*2+1+1)).map (Value.int .i64))/\w.grownBy ((wr.setCell ⟨g,j*2,none⟩ (.int .i64 ((k0+j*2:Nat):Int))).setCell ⟨g,j*2+1,none⟩ (.int .i64 ((k0+(j*2+1):Nat):Int))) (some g)):=⟨s3,s5⟩
    rw[←e5]at H3
    clear ho hown hgr s1 s2 s3 s4 s5 e5
    go_wp2
    go_roundw
    case rel=>
     exact⟨j+1,by omega,by go_num,by go_num,by simpa using H3.out.2,by rw[show(j+1)*2=j*2+1+1 by omega];simpa using H3.out.1⟩
    case measure=>simp[intOf];omega
   ·have hjn:j=n:=by omega
    subst hjn
    rw[←HN.out,zI]at ho
    go_wp2
    go_ret
    exact⟨rfl,hgr,ho⟩
theorem EZ(v:Value)(n k0:Nat)(w:World)(hv:Prs w v (mkP k0 n))(hx:n<=1099511627776)(hk0:k0<=1099511627776):
  Calls Tryz.prog 277 #[v,.int .i64 k0] w fun e w'=>e = .returned (.int .i64 ((k0+n*2:Nat):Int))/\w'=w:=by
 obtain⟨a,c,rfl⟩:=hv.shape
 by_cases h0:n=0
 ·subst h0
  simp only[gX]
  clear hv
  go_enter Tryz.func277,Tryz.ntmps277
  go_wp2
  refine wp_loop_rounds 1 ?_;rw[rounds_succ]
  go_wp2
  go_ret
  exact⟨rfl,rfl⟩
 ·obtain⟨_,b,off,rfl,hb,hc⟩:=hv.at (by rw[gX];omega)
  have hcm:∀j,j<n->w.cell? ⟨b,off+j*2,none⟩=some (.int .i64 ((k0+j*2:Nat):Int))/\w.cell? ⟨b,off+j*2+1,none⟩=some (.int .i64 (((k0+j*2:Nat):Int)+1)):=fun j hj=>by
   have h1:=hc j (by rw[gX];exact hj)
   rw[IJ _ _ _ hj]at h1
   refine⟨h1.1,h1.2.trans ?_⟩
   congr 2
  rw[gX]
  clear hv hc h0
  go_enter Tryz.func277,Tryz.ntmps277
  go_wp2
  go_loop [1,5] (fun k i=>∃j:Nat,j<=n/\i = .int .i64 j/\k = .int .i64 ((k0+j*2:Nat):Int)) (fun _ i=>n - (intOf i).toNat)
  case atStart=>exact⟨0,Nat.zero_le _,rfl,by simp⟩
  case round=>
   obtain⟨j,hj,rfl,rfl⟩:=hrel
   by_cases hjn:j<n
   ·have hji:(j:Int)<(n:Int):=by omega
    obtain⟨c0,c1⟩:=hcm j hjn
    have HQ:Hid (((k0+j*2:Nat):Int)+1+1=((k0+(j+1)*2:Nat):Int)):=by show _=_;omega
    have hq:(k0+j*2:Nat)<=4398046511104:=by omega
    generalize k0+j*2=q at *
    clear hcm
    go_wp2
    go_round
    case rel=>exact⟨j+1,by omega,by go_num,by rw[←HQ.out]⟩
    case measure=>simp[intOf];omega
   ·have hjn:j=n:=by omega
    subst hjn
    clear hcm
    go_wp2
    go_ret
    exact⟨rfl,rfl⟩
theorem FK(B:Nat)(x:Bool)(k y:Int)(v:Value)(l:Prl)(k0:Nat)(w:World)(hown:w.ownsRow B 291 2 v l.length ((fl l).map (Value.int .i64)))(hx:l.length<=1099511627776)(hk0:k0<=1099511627776):
  Calls Tryz.prog 227 #[.agg #[.bool x,.int .i64 k,.int .i64 y,v],.int .i64 k0] w fun e w'=>e = .returned (.int .i64 ((k0+l.length*2:Nat):Int))/\w.grownBy w' v.ownBlock/\w'.ownsRow B 291 2 v l.length ((fl (mkP k0 l.length)).map (Value.int .i64)):=by
 have hM:=fun o=>FC B v l k0 _ (hown.alloc o) hx hk0
 obtain⟨a,c',rfl⟩:=bW hown
 generalize l.length=n at *
 clear hown
 go_enter Tryz.func227,Tryz.ntmps227
 go_wp2_with fail
 refine(hM _).mono ?_
 rintro e w1 ⟨rfl,hg,ho⟩
 have HH:Hid (w.grownBy w1 (Value.slice a n c').ownBlock/\w1.ownsRow B 291 2 (.slice a n c') n ((fl (mkP k0 n)).map (Value.int .i64))):=⟨bM (World.grownBy_alloc _ _ _) hg,ho⟩
 clear hM hg ho
 go_wp2
 go_ret
 exact⟨rfl,HH.out⟩
theorem Fe(x:Bool)(k y:Int)(v:Value)(n k0:Nat)(w:World)(hv:Prs w v (mkP k0 n))(hx:n<=1099511627776)(hk0:k0<=1099511627776):
  Calls Tryz.prog 229 #[.agg #[.bool x,.int .i64 k,.int .i64 y,v],.int .i64 k0] w fun e w'=>e = .returned (.int .i64 ((k0+n*2:Nat):Int))/\Below w.heap.size w w':=by
 have hH:=fun o=>EZ v n k0 _ (hv.below (aj o)) hx hk0
 obtain⟨a,c',rfl⟩:=hv.shape
 rw[gX]at *
 have hs:¬((k0+n*2:Nat):Int)<0:=by omega
 generalize ((k0+n*2:Nat):Int)=z at *
 clear hv
 go_enter Tryz.func229,Tryz.ntmps229
 go_wp2_with fail
 refine(hH _).mono ?_
 rintro e w1 ⟨rfl,rfl⟩
 clear hH
 go_wp2
 go_ret
 exact⟨rfl,aj _⟩
end U
end Go.Proofs.YtmnfokgllcdiiaaGreat
