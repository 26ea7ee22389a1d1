/- A state in a box of one's own, its rows beside it; an epoch closed, as mathematics. -/
import Derived.Test.YtmmcgjacojgeaaaGreatGZz
import Derived.Test.YtmmcgjacojgeaaaGreatGBJ
import Derived.Test.YtmmcgjacojgeaaaGreatGBD
import Derived.Test.YtmmcgjacojgeaaaGreatGSt7
namespace Go.Proofs.YtmmcgjacojgeaaaGreat
open Go.RowKit Go.Maps
namespace U
structure Bxd(lo:Nat)(w:World)(bx:Nat)(ph cu:Int)(v:Sv)(us:List Value)(s:St):Prop where
 own:Own lo w.heap.size w (dJ bx [.int .i64 ph,.int .i64 cu,v.d,v.n,v.h,v.p]::eY v us s)
 len:us.length=s.p.length
theorem zX{lo hi bx:Nat}{w:World}{xs:List Value}{R:List Rw}(h:Own lo hi w (dJ bx xs::R)):w.ownsRow lo 41 6 (.slice (some ⟨bx,0,none⟩) 1 1) 1 xs:=h.own _ (List.Mem.head _)
theorem Bxd.below{lo bx:Nat}{w w':World}{ph cu:Int}{v:Sv}{us:List Value}{s:St}(h:Bxd lo w bx ph cu v us s)(hb:Below w.heap.size w w'):Bxd lo w' bx ph cu v us s:=⟨(h.own.below hb).wide (Nat.le_refl _) hb.size,h.len⟩
theorem Bxd.st{lo bx:Nat}{w:World}{ph cu:Int}{v:Sv}{us:List Value}{s:St}(h:Bxd lo w bx ph cu v us s):aG lo w.heap.size w v us s:=⟨Own.right (R:=[dJ bx [.int .i64 ph,.int .i64 cu,v.d,v.n,v.h,v.p]]) h.own,h.len⟩
theorem Bxd.lt{lo bx:Nat}{w:World}{ph cu:Int}{v:Sv}{us:List Value}{s:St}(h:Bxd lo w bx ph cu v us s):lo<=bx/\bx<w.heap.size:=fU (zX h.own) rfl
theorem Bxd.cells{lo bx:Nat}{w:World}{ph cu:Int}{v:Sv}{us:List Value}{s:St}(h:Bxd lo w bx ph cu v us s):(w.cell? ⟨bx,0,none⟩=some (.int .i64 ph)/\w.cell? ⟨bx,1,none⟩=some (.int .i64 cu)/\w.cell? ⟨bx,2,none⟩=some v.d/\w.cell? ⟨bx,3,none⟩=some v.n/\w.cell? ⟨bx,4,none⟩=some v.h/\w.cell? ⟨bx,5,none⟩=some v.p)/\w.frozen? ⟨bx,0,none⟩=false/\w.frozen? ⟨bx,1,none⟩=false/\w.frozen? ⟨bx,2,none⟩=false/\w.frozen? ⟨bx,3,none⟩=false/\w.frozen? ⟨bx,4,none⟩=false/\w.frozen? ⟨bx,5,none⟩=false:=by
 have hob:=zX h.own
 have e0:=hob.cellAt 0 (by omega)
 have e1:=hob.cellAt 1 (by omega)
 have e2:=hob.cellAt 2 (by omega)
 have e3:=hob.cellAt 3 (by omega)
 have e4:=hob.cellAt 4 (by omega)
 have e5:=hob.cellAt 5 (by omega)
 simp only[aiG,aiH]at e0 e1 e2 e3 e4 e5
 exact⟨⟨e0,e1,e2,e3,e4,e5⟩,hob.frozenAt 0,hob.frozenAt 1,hob.frozenAt 2,hob.frozenAt 3,hob.frozenAt 4,hob.frozenAt 5⟩
theorem Yh(w:World)(x0 x1 x2 x3 x4 x5:Value):(w.alloc (.cells #[x0,x1,x2,x3,x4,x5] 41)).ownsRow w.heap.size 41 6 (.slice (some ⟨w.heap.size,0,none⟩) 1 1) 1 [x0,x1,x2,x3,x4,x5]:=
 ⟨rfl,Or.inr ⟨w.heap.size,1,#[x0,x1,x2,x3,x4,x5],rfl,Nat.le_refl _,heap_alloc_new w _,Nat.le_refl _,by unfold maxLen;omega,rfl,rfl⟩⟩
theorem Bxd.new{lo hi:Nat}{w:World}{v:Sv}{us:List Value}{s:St}(h:aG lo hi w v us s)(h1:lo<=w.heap.size)(h2:hi<=w.heap.size)(ph cu:Int):Bxd lo (w.alloc (.cells #[.int .i64 ph,.int .i64 cu,v.d,v.n,v.h,v.p] 41)) w.heap.size ph cu v us s:=by
 have A:=(h.own.below (aj (.cells #[.int .i64 ph,.int .i64 cu,v.d,v.n,v.h,v.p] 41))).wide (Nat.le_refl _) h2
 have B:Own w.heap.size (w.alloc (.cells #[.int .i64 ph,.int .i64 cu,v.d,v.n,v.h,v.p] 41)).heap.size (w.alloc (.cells #[.int .i64 ph,.int .i64 cu,v.d,v.n,v.h,v.p] 41)) [dJ w.heap.size [.int .i64 ph,.int .i64 cu,v.d,v.n,v.h,v.p]]:=Own.single (Yh w _ _ _ _ _ _) (Nat.le_refl _)
 exact⟨(A.app B h1 (by simp)).perm (List.perm_append_singleton _ _),h.len⟩
theorem V5(l:Hdl)(x:Hd):flH (l++[x])=flH l++[.int .i64 x.e,.int .i64 x.p,.int .i64 x.o,.int .i64 x.n,.int .i64 x.v]:=by unfold flH;simp
theorem Bxd.heads{lo bx g c:Nat}{w w':World}{ph cu:Int}{v:Sv}{us:List Value}{s:St}(h:Bxd lo w bx ph cu v us s)(x:Hd)(hlo:lo<=w.heap.size)(ho:w'.ownsRow lo 114 5 (.slice (some ⟨g,0,none⟩) (s.h.length+1) c) (s.h.length+1) (flH s.h++[.int .i64 x.e,.int .i64 x.p,.int .i64 x.o,.int .i64 x.n,.int .i64 x.v]))(hg:w.grownBy w' v.h.ownBlock)(hbk:v.h.ownBlock=some g∨g=w.heap.size):
  (w'.cell? ⟨bx,4,none⟩=some v.h/\w'.frozen? ⟨bx,4,none⟩=false)/\Bxd lo (w'.setCell ⟨bx,4,none⟩ (.slice (some ⟨g,0,none⟩) (s.h.length+1) c)) bx ph cu ⟨v.d,v.n,.slice (some ⟨g,0,none⟩) (s.h.length+1) c,v.p⟩ us ⟨s.ph,s.cu,s.d,s.n,s.h++[x],s.p⟩:=by
 have O6:Own lo w'.heap.size w' ([dJ bx [.int .i64 ph,.int .i64 cu,v.d,v.n,v.h,v.p],aI v.d s.d,nRow v.n s.n]++hRow (.slice (some ⟨g,0,none⟩) (s.h.length+1) c) (s.h++[x])::(aV v.p us::aJ us s.p s.p.length)):=by
  refine Own.grow (A:=[dJ bx [.int .i64 ph,.int .i64 cu,v.d,v.n,v.h,v.p],aI v.d s.d,nRow v.n s.n]) (B:=aV v.p us::aJ us s.p s.p.length) (r:=hRow v.h s.h) (g:=g) h.own hg ?_ rfl (hbk.imp Eq.symm id) (Nat.le_refl _) hlo
  show w'.ownsRow lo 114 5 (.slice (some ⟨g,0,none⟩) (s.h.length+1) c) (s.h++[x]).length (flH (s.h++[x]))
  rw[V5,List.length_append]
  exact ho
 have hob:=zX (R:=aI v.d s.d::nRow v.n s.n::hRow (.slice (some ⟨g,0,none⟩) (s.h.length+1) c) (s.h++[x])::aV v.p us::aJ us s.p s.p.length) O6
 have e4:=hob.cellAt 4 (by omega)
 simp only[aiG,aiH]at e4
 obtain⟨s6,t6⟩:=hob.stored 4 (.slice (some ⟨g,0,none⟩) (s.h.length+1) c)
 refine⟨⟨e4,hob.frozenAt 4⟩,⟨?_,h.len⟩⟩
 have A8:=Own.set (A:=[]) (r:=dJ bx [.int .i64 ph,.int .i64 cu,v.d,v.n,v.h,v.p]) (r':=dJ bx [.int .i64 ph,.int .i64 cu,v.d,v.n,.slice (some ⟨g,0,none⟩) (s.h.length+1) c,v.p]) (B:=aI v.d s.d::nRow v.n s.n::hRow (.slice (some ⟨g,0,none⟩) (s.h.length+1) c) (s.h++[x])::aV v.p us::aJ us s.p s.p.length) O6 rfl t6 s6
 exact A8.wide (Nat.le_refl _) (by simp)
theorem Fg{p:Pst}{d:Rcl}{j:Nat}(h:j<p.length):dAt (p++[d]) j=dAt p j:=by
 unfold dAt
 rw[List.getD_eq_getElem?_getD,List.getD_eq_getElem?_getD,List.getElem?_append_left h]
theorem CO(p:Pst)(d:Rcl):dAt (p++[d]) p.length=d:=by
 unfold dAt
 rw[List.getD_eq_getElem?_getD,List.getElem?_append_right (Nat.le_refl _)]
 simp
theorem Vb{us:List Value}{p:Pst}(u:Value)(d:Rcl)(h:us.length=p.length):aJ (us++[u]) (p++[d]) (p.length+1)=aJ us p p.length++[aI u d]:=by
 show aJ (us++[u]) (p++[d]) p.length++[aI (uAt (us++[u]) p.length) (dAt (p++[d]) p.length)]=_
 rw[CO,←h,MO,wU (us:=us++[u]) (us':=us) (p:=p++[d]) (p':=p) us.length (fun j hj=>⟨P6 hj,Fg (by omega)⟩)]
theorem Bxd.past{lo bx g c N:Nat}{w0 w1 w w':World}{ph cu:Int}{v:Sv}{us:List Value}{s:St}(h:Bxd lo w0 bx ph cu v us s)(hb:Below w0.heap.size w0 w1)(hN:w0.heap.size<=N)(hN':N<=w1.heap.size)(u:Value)(d:Rcl)(hd:w1.ownsRow N 46 4 u d.length (flR d))(hb2:Below w1.heap.size w1 w)(hlo:lo<=w0.heap.size)(ho:w'.ownsRow lo 36 1 (.slice (some ⟨g,0,none⟩) (s.p.length+1) c) (s.p.length+1) (us++[u]))(hg:w.grownBy w' v.p.ownBlock)(hbk:v.p.ownBlock=some g∨g=w.heap.size):
  (w'.cell? ⟨bx,5,none⟩=some v.p/\w'.frozen? ⟨bx,5,none⟩=false)/\Bxd lo (w'.setCell ⟨bx,5,none⟩ (.slice (some ⟨g,0,none⟩) (s.p.length+1) c)) bx ph cu ⟨v.d,v.n,v.h,.slice (some ⟨g,0,none⟩) (s.p.length+1) c⟩ (us++[u]) ⟨s.ph,s.cu,s.d,s.n,s.h,s.p++[d]⟩:=by
 have hz2:=hb2.size
 have A5:=(h.own.below hb).wide (hi':=N) (Nat.le_refl _) hN
 have X5:Own N w1.heap.size w1 [aI u d]:=Own.single hd (Nat.le_refl _)
 have A6:=(A5.app X5 (by omega) hN').below hb2
 have A7:Own lo w1.heap.size w ([dJ bx [.int .i64 ph,.int .i64 cu,v.d,v.n,v.h,v.p],aI v.d s.d,nRow v.n s.n,hRow v.h s.h]++aV v.p us::(aJ us s.p s.p.length++[aI u d])):=A6
 have O6:Own lo w'.heap.size w' ([dJ bx [.int .i64 ph,.int .i64 cu,v.d,v.n,v.h,v.p],aI v.d s.d,nRow v.n s.n,hRow v.h s.h]++aV (.slice (some ⟨g,0,none⟩) (s.p.length+1) c) (us++[u])::(aJ us s.p s.p.length++[aI u d])):=by
  refine Own.grow (A:=[dJ bx [.int .i64 ph,.int .i64 cu,v.d,v.n,v.h,v.p],aI v.d s.d,nRow v.n s.n,hRow v.h s.h]) (B:=aJ us s.p s.p.length++[aI u d]) (r:=aV v.p us) (g:=g) A7 hg ?_ rfl (hbk.imp Eq.symm id) hz2 (by omega)
  show w'.ownsRow lo 36 1 (.slice (some ⟨g,0,none⟩) (s.p.length+1) c) (us++[u]).length (us++[u])
  rw[List.length_append,h.len]
  exact ho
 have hob:=zX (R:=aI v.d s.d::nRow v.n s.n::hRow v.h s.h::aV (.slice (some ⟨g,0,none⟩) (s.p.length+1) c) (us++[u])::(aJ us s.p s.p.length++[aI u d])) O6
 have e5:=hob.cellAt 5 (by omega)
 simp only[aiG,aiH]at e5
 obtain⟨s6,t6⟩:=hob.stored 5 (.slice (some ⟨g,0,none⟩) (s.p.length+1) c)
 refine⟨⟨e5,hob.frozenAt 5⟩,⟨?_,by rw[List.length_append,List.length_append,h.len];rfl⟩⟩
 have A8:=Own.set (A:=[]) (r:=dJ bx [.int .i64 ph,.int .i64 cu,v.d,v.n,v.h,v.p]) (r':=dJ bx [.int .i64 ph,.int .i64 cu,v.d,v.n,v.h,.slice (some ⟨g,0,none⟩) (s.p.length+1) c]) (B:=aI v.d s.d::nRow v.n s.n::hRow v.h s.h::aV (.slice (some ⟨g,0,none⟩) (s.p.length+1) c) (us++[u])::(aJ us s.p s.p.length++[aI u d])) O6 rfl t6 s6
 have A9:=A8.wide (hi':=(w'.setCell ⟨bx,5,none⟩ (.slice (some ⟨g,0,none⟩) (s.p.length+1) c)).heap.size) (Nat.le_refl _) (by simp)
 have e9:=Vb (us:=us) (p:=s.p) u d h.len
 unfold eY
 show Own lo _ _ (dJ bx _::aI v.d s.d::nRow v.n s.n::hRow v.h s.h::aV _ (us++[u])::aJ (us++[u]) (s.p++[d]) (s.p++[d]).length)
 rw[List.length_append,show [d].length=1 from rfl,e9]
 exact A9
theorem Zm(h:Hdl):aX (smL h)=true:=by
 unfold smL
 rcases h.length with _ | k
 ·exact(bG 0).2 (by omega)
 ·exact(bG _).2 (nK _)
def clH(R:Rt)(s:St):Hd:=Iw R s.d ((s.h.length:Int)+1) s.ph (smL s.h)
def clT(R:Rt)(s:St):St:=⟨s.ph,s.cu,s.d,s.n,s.h++[clH R s],s.p++[s.d]⟩
def clF(R:Rt)(s:St):Int:=if stF R s=0 then(if s.h.length=10 then 11 else 0)else stF R s
theorem Yl{R:Rt}{s:St}(h:¬stF R s=0):clF R s=stF R s:=if_neg h
theorem Jc{R:Rt}{s:St}(h:stF R s=0)(h1:s.h.length=10):clF R s=11:=by unfold clF;rw[if_pos h,if_pos h1]
theorem Tj{R:Rt}{s:St}(h:stF R s=0)(h1:¬s.h.length=10):clF R s=0:=by unfold clF;rw[if_pos h,if_neg h1]
theorem uF{R:Rt}{s:St}(h:stF R s=0):s.h.length<=10:=(lX (lZ (fP h).his).1).1
theorem aag{R:Rt}{s:St}(h:stF R s=0)(h1:¬s.h.length=10):hdN ((s.h.length:Int)+1) s.ph (smL s.h)=true:=by
 have h2:=uF h
 unfold hdN
 rw[fZ (by omega) (by omega),(fP h).ph,Zm]
 rfl
theorem F8(p:Pst)(d:Rcl):∀j,j<=p.length->tot (p++[d]) j=tot p j
 | 0,_=>rfl
 | k+1,hk=>by
  show tot (p++[d]) k+(dAt (p++[d]) k).length=tot p k+(dAt p k).length
  rw[F8 p d k (by omega),Fg (by omega)]
theorem Ym{R:Rt}{s:St}(h:stF R s=0)(hB:StB s):StB (clT R s):=by
 have h2:=uF h
 have hd:=(cO (fP h).d).len
 obtain⟨hc,hp⟩:=lZ (fP h).his
 have hl:(s.p++[s.d]).length=s.p.length+1:=by rw[List.length_append];rfl
 refine⟨hB.d,hB.dl,hB.n, ?_, ?_,fun j hj=> ?_,fun j hj=> ?_⟩
 ·show(s.h++[clH R s]).length<=1048576
  rw[List.length_append]
  show s.h.length+1<=_
  omega
 ·show(s.p++[s.d]).length<=1048576
  omega
 ·show(dAt (s.p++[s.d]) j).length<=1048576/\Lbs (dAt (s.p++[s.d]) j)
  have hj':j<(s.p++[s.d]).length:=hj
  by_cases e:j=s.p.length
  ·subst e
   rw[CO]
   exact⟨hB.d,hB.dl⟩
  ·rw[Fg (by omega)]
   exact hB.pd j (by omega)
 ·show tot (s.p++[s.d]) j<=1048576
  have hj':j<=(s.p++[s.d]).length:=hj
  have hk:=Vy (p:=s.p) (fun j hj=>(cO (Uh (fP h).his j hj)).len)
  by_cases e:j=s.p.length+1
  ·subst e
   show tot (s.p++[s.d]) s.p.length+(dAt (s.p++[s.d]) s.p.length).length<=_
   rw[CO,F8 _ _ _ (Nat.le_refl _)]
   have:=hk s.p.length (Nat.le_refl _)
   omega
  ·rw[F8 _ _ _ (by omega)]
   exact hB.t j (by omega)
end U
end Go.Proofs.YtmmcgjacojgeaaaGreat
