/- Marks in heads and in rows of directories, and how they are looked at anew. -/
import Derived.Test.YtmnfokgllcdiiaaGreatYBD
import Derived.Test.YtmnfokgllcdiiaaGreatYBC
import Derived.Test.YtmnfokgllcdiiaaGreatYBB
set_option maxRecDepth 100000
set_option maxHeartbeats 4000000
namespace Go.Proofs.YtmnfokgllcdiiaaGreat
open Go.RowKit
namespace U
def II(k:Nat):Hd:=⟨((k:Nat):Int),((k+1:Nat):Int),((k+2:Nat):Int),((k+3:Nat):Int),((k+4:Nat):Int)⟩
def mkH(k n:Nat):Hdl:=(List.range n).map fun j=>II (k+j*5)
theorem jV(k n:Nat):(mkH k n).length=n:=by simp[mkH]
theorem Wi(k n j:Nat)(h:j<n):hAt (mkH k n) j=II (k+j*5):=by
 rw[Bo (by rw[jV];exact h)]
 simp[mkH]
def mhd(l:Hdl)(k0:Nat)(k:Nat):Hdl:=mkH k0 k++l.drop k
theorem Ux(l:Hdl)(k0:Nat){k:Nat}(h:k<=l.length):(mhd l k0 k).length=l.length:=by unfold mhd;rw[List.length_append,jV,List.length_drop];omega
theorem RI(l:Hdl)(k0:Nat):mhd l k0 0=l:=by unfold mhd;simp[mkH]
theorem Uw(l:Hdl)(k0:Nat):mhd l k0 l.length=mkH k0 l.length:=by unfold mhd;simp
theorem Uy(l:Hdl)(k0:Nat){k:Nat}(h:k<l.length):(mhd l k0 k).set k (II (k0+k*5))=mhd l k0 (k+1):=by
 have h1:mkH k0 (k+1)=mkH k0 k++[II (k0+k*5)]:=by unfold mkH;rw[List.range_succ,List.map_append];rfl
 unfold mhd
 rw[h1,List.set_append_right _ _ (by rw[jV];exact Nat.le_refl _),jV,Nat.sub_self,List.append_assoc]
 congr 1
 rw[List.drop_eq_getElem_cons h]
 rfl
theorem FD(B:Nat)(v:Value)(l:Hdl)(k0:Nat)(w:World)(hown:w.ownsRow B 136 5 v l.length (flH l))(hx:l.length<=1048576)(hk0:0<k0/\k0<=1099511627776):
  Calls Tryz.prog 60 #[v,.int .i64 k0] w fun e w'=>e = .returned (.int .i64 ((k0+l.length*5:Nat):Int))/\w.grownBy w' v.ownBlock/\w'.ownsRow B 136 5 v l.length (flH (mkH k0 l.length)):=by
 by_cases h0:l.length=0
 ·have e1:l=[]:=List.eq_nil_of_length_eq_zero h0
  subst e1
  obtain⟨a,c,rfl⟩:=aQ hown
  simp only[List.length_nil]at *
  go_enter Tryz.func60,Tryz.ntmps60
  go_wp2
  refine wp_loop_rounds 1 ?_;rw[rounds_succ]
  go_wp2
  go_ret
  exact⟨rfl,World.grownBy.refl _ _,hown⟩
 ·rcases hown.2 with⟨_,h⟩ |⟨g,cap,cur,rfl,hB,hg,_⟩
  ·exact absurd h h0
  have hgs:g<w.heap.size:=(Array.getElem?_eq_some_iff.1 hg).1
  clear hg hB
  obtain⟨n,hn⟩:∃n,n=l.length:=⟨_,rfl⟩
  have HN:Hid (n=l.length):=hn
  rw[←hn]at hown hx h0 ⊢
  have HA:Hid (mhd l k0 n=mkH k0 n):=(by rw[hn];exact Uw l k0:mhd l k0 n=mkH k0 n)
  clear hn h0
  go_enter Tryz.func60,Tryz.ntmps60
  go_wp2
  go_loopw [1,5] (fun k i wr=>∃j:Nat,j<=n/\i = .int .i64 j/\k = .int .i64 ((k0+j*5:Nat):Int)/\Hid (w.grownBy wr (some g))/\Hid (wr.ownsRow B 136 5 (.slice (some ⟨g,0,none⟩) n cap) n (flH (mhd l k0 j)))) (fun _ i _=>n - (intOf i).toNat)
  case atStart=>exact⟨0,Nat.zero_le _,rfl,by simp,World.grownBy.refl _ _,by rw[RI];exact hown⟩
  case round=>
   obtain⟨j,hj,rfl,rfl,hgr,ho⟩:=hrel
   by_cases hjn:j<n
   ·have hji:(j:Int)<(n:Int):=by omega
    have hts:(((((flH (mhd l k0 j)).set (j*5) (.int .i64 ((k0+j*5:Nat):Int))).set (j*5+1) (.int .i64 ((k0+j*5+1:Nat):Int))).set (j*5+2) (.int .i64 ((k0+j*5+2:Nat):Int))).set (j*5+3) (.int .i64 ((k0+j*5+3:Nat):Int))).set (j*5+4) (.int .i64 ((k0+j*5+4:Nat):Int))=flH (mhd l k0 (j+1)):=by
     have:=HN.out
     rw[←Uy l k0 (by omega),LC _ _ j (by rw[Ux l k0 (by omega)];omega)]
     rfl
    have HQ:Hid (k0+(j+1)*5=k0+j*5+5):=(by omega:k0+(j+1)*5=k0+j*5+5)
    have BD:k0+j*5<=1099516870656:=by omega
    generalize k0+j*5=q at *
    have HT:Hid ((((((flH (mhd l k0 j)).set (j*5) (.int .i64 (q:Int))).set (j*5+1) (.int .i64 ((q:Int)+1))).set (j*5+2) (.int .i64 ((q:Int)+1+1))).set (j*5+3) (.int .i64 ((q:Int)+1+1+1))).set (j*5+4) (.int .i64 ((q:Int)+1+1+1+1))=flH (mhd l k0 (j+1))):=hts
    have hgw:g<wr.heap.size:=Nat.lt_of_lt_of_le hgs hgr.out.size
    have ho2:=ho.out
    have f0:=ho2.frozenAt (j*5)
    have f1:=ho2.frozenAt (j*5+1)
    have f2:=ho2.frozenAt (j*5+2)
    have f3:=ho2.frozenAt (j*5+3)
    have f4:=ho2.frozenAt (j*5+4)
    obtain⟨z0,g0⟩:=iI ho2 (j:=j*5) (by omega)
    obtain⟨z1,g1⟩:=iI ho2 (j:=j*5+1) (by omega)
    obtain⟨z2,g2⟩:=iI ho2 (j:=j*5+2) (by omega)
    obtain⟨z3,g3⟩:=iI ho2 (j:=j*5+3) (by omega)
    obtain⟨z4,g4⟩:=iI ho2 (j:=j*5+4) (by omega)
    obtain⟨s1,r1⟩:=ho2.stored (j*5) (.int .i64 (q:Int))
    obtain⟨s2,r2⟩:=s1.stored (j*5+1) (.int .i64 ((q:Int)+1))
    obtain⟨s3,r3⟩:=s2.stored (j*5+2) (.int .i64 ((q:Int)+1+1))
    obtain⟨s4,r4⟩:=s3.stored (j*5+3) (.int .i64 ((q:Int)+1+1+1))
    obtain⟨s5,r5⟩:=s4.stored (j*5+4) (.int .i64 ((q:Int)+1+1+1+1))
    have s6:=bM (bM (bM (bM (bM hgr.out r1) r2) r3) r4) r5
    rw[HT.out]at s5
    have Tt:Hid ((((((wr.setCell ⟨g,j*5,none⟩ (.int .i64 (q:Int))).setCell ⟨g,j*5+1,none⟩ (.int .i64 ((q:Int)+1))).setCell ⟨g,j*5+2,none⟩ (.int .i64 ((q:Int)+1+1))).setCell ⟨g,j*5+3,none⟩ (.int .i64 ((q:Int)+1+1+1))).setCell ⟨g,j*5+4,none⟩ (.int .i64 ((q:Int)+1+1+1+1))).ownsRow B 136 5 (.slice (some ⟨g,0,none⟩) n cap) n (flH (mhd l k0 (j+1)))):=s5
    have Y4:Hid (w.grownBy (((((wr.setCell ⟨g,j*5,none⟩ (.int .i64 (q:Int))).setCell ⟨g,j*5+1,none⟩ (.int .i64 ((q:Int)+1))).setCell ⟨g,j*5+2,none⟩ (.int .i64 ((q:Int)+1+1))).setCell ⟨g,j*5+3,none⟩ (.int .i64 ((q:Int)+1+1+1))).setCell ⟨g,j*5+4,none⟩ (.int .i64 ((q:Int)+1+1+1+1))) (some g)):=s6
    clear ho2 s1 s2 s3 s4 s5 s6 r1 r2 r3 r4 r5 hts hown ho hgr
    go_wp2
    go_roundw
    case rel=>exact⟨j+1,by omega,by go_num,by rw[HQ.out];congr 1,Y4,Tt⟩
    case measure=>simp[intOf];omega
   ·have hjn:j=n:=by omega
    subst hjn
    rw[HA.out]at ho
    go_wp2
    go_ret
    exact⟨rfl,hgr.out,ho.out⟩
theorem E5(v:Value)(n k0:Nat)(w:World)(hv:Hds w v (mkH k0 n))(hx:n<=1048576)(hk0:0<k0/\k0<=1099511627776):
  Calls Tryz.prog 134 #[v,.int .i64 k0] w fun e w'=>e = .returned (.int .i64 ((k0+n*5:Nat):Int))/\w'=w:=by
 have hnn:=dA
 obtain⟨a,c,rfl⟩:=hv.shape
 by_cases h0:n=0
 ·subst h0
  simp only[jV]
  clear hv
  go_enter Tryz.func134,Tryz.ntmps134
  go_wp2
  refine wp_loop_rounds 1 ?_;rw[rounds_succ]
  go_wp2
  go_ret
  exact⟨rfl,rfl⟩
 ·obtain⟨-,b,off,rfl,hb,hc⟩:=hv.at (by rw[jV];omega)
  have hcm:∀j,j<n->HdS w b (off+j*5) (II (k0+j*5)):=fun j hj=>by
   have h1:=hc j (by rw[jV];exact hj)
   rw[Wi _ _ _ hj]at h1
   exact h1
  rw[jV]
  clear hv hc h0
  go_enter Tryz.func134,Tryz.ntmps134
  go_wp2
  go_loop [1,5] (fun k i=>∃j:Nat,j<=n/\i = .int .i64 j/\k = .int .i64 ((k0+j*5:Nat):Int)) (fun _ i=>n - (intOf i).toNat)
  case atStart=>exact⟨0,Nat.zero_le _,rfl,by simp⟩
  case round=>
   obtain⟨j,hj,rfl,rfl⟩:=hrel
   by_cases hjn:j<n
   ·have hji:(j:Int)<(n:Int):=by omega
    have hr:=hcm j hjn
    have d0:w.cell? ⟨b,off+j*5,none⟩=some (.int .i64 ((k0+j*5:Nat):Int)):=hr.c0
    have d1:w.cell? ⟨b,off+j*5+1,none⟩=some (.int .i64 (((k0+j*5:Nat):Int)+1)):=hr.c1
    have d2:w.cell? ⟨b,off+j*5+2,none⟩=some (.int .i64 (((k0+j*5:Nat):Int)+1+1)):=hr.c2
    have d3:w.cell? ⟨b,off+j*5+3,none⟩=some (.int .i64 (((k0+j*5:Nat):Int)+1+1+1)):=hr.c3
    have d4:w.cell? ⟨b,off+j*5+4,none⟩=some (.int .i64 (((k0+j*5:Nat):Int)+1+1+1+1)):=hr.c4
    have HQ:Hid (((k0+j*5:Nat):Int)+1+1+1+1+1=((k0+(j+1)*5:Nat):Int)):=by show _=_;omega
    have hq:(k0+j*5:Nat)<=4398046511104:=by omega
    generalize k0+j*5=q at *
    clear hcm hr
    go_wp2
    go_round
    case rel=>exact⟨j+1,by omega,by go_num,by rw[←HQ.out]⟩
    case measure=>simp[intOf];omega
   ·have hjn:j=n:=by omega
    subst hjn
    clear hcm
    go_wp2
    go_ret
    exact⟨rfl,rfl⟩
def je(us:List Value)(f:Nat->Rcl):Nat->List Rw
 | 0=>[]
 | k+1=>je us f k++[cO (uAt us k) (f k)]
theorem DW(us:List Value)(p:Pst):∀k,bJ us p k=je us (dAt p) k
 | 0=>rfl
 | k+1=>by show bJ us p k++_=je us (dAt p) k++_;rw[DW us p k]
theorem Aw{us:List Value}{f f':Nat->Rcl}:∀k,(∀i,i<k->f i=f' i)->je us f k=je us f' k
 | 0,_=>rfl
 | k+1,h=>by
  show je us f k++[cO (uAt us k) (f k)]=je us f' k++[cO (uAt us k) (f' k)]
  rw[Aw k (fun i hi=>h i (by omega)),h k (by omega)]
theorem yZ(us:List Value)(f:Nat->Rcl)(j:Nat):∀n,j<n->∃A B,∀f':Nat->Rcl,(∀i,i≠j->f' i=f i)->je us f' n=A++cO (uAt us j) (f' j)::B
 | n+1,h=>by
  by_cases e:j=n
  ·subst e
   refine⟨je us f j,[],fun f' hf=> ?_⟩
   show je us f' j++[cO (uAt us j) (f' j)]=_
   rw[Aw j (fun i hi=>hf i (by omega))]
  ·obtain⟨A,B,hAB⟩:=yZ us f j n (by omega)
   refine⟨A,B++[cO (uAt us n) (f n)],fun f' hf=> ?_⟩
   show je us f' n++[cO (uAt us n) (f' n)]=_
   rw[hAB f' hf,hf n (by omega)]
   simp
def kAt(p:Pst)(k0:Nat):Nat->Nat
 | 0=>k0
 | j+1=>kAt p k0 j+(dAt p j).length*4
theorem DT(p:Pst)(k0:Nat):∀j,kAt p k0 j=k0+tot p j*4
 | 0=>by show k0=k0+0*4;omega
 | j+1=>by
  show kAt p k0 j+(dAt p j).length*4=k0+(tot p j+(dAt p j).length)*4
  rw[DT p k0 j]
  omega
def mkD(p:Pst)(k0:Nat):Pst:=(List.range p.length).map fun j=>mkR (kAt p k0 j) (dAt p j).length
theorem lY(p:Pst)(k0:Nat):(mkD p k0).length=p.length:=by simp[mkD]
theorem Qc(p:Pst)(k0:Nat){j:Nat}(h:j<p.length):dAt (mkD p k0) j=mkR (kAt p k0 j) (dAt p j).length:=by
 rw[O6 (by rw[lY];exact h)]
 simp[mkD]
def fJ(p:Pst)(k0 j:Nat)(i:Nat):Rcl:=if i<j then mkR (kAt p k0 i) (dAt p i).length else dAt p i
theorem Uh(p:Pst)(k0:Nat):fJ p k0 0=dAt p:=by funext i;unfold fJ;rw[if_neg (by omega)]
theorem Xi(p:Pst)(k0 j:Nat):fJ p k0 j j=dAt p j:=by unfold fJ;rw[if_neg (by omega)]
theorem VG(p:Pst)(k0 j:Nat):fJ p k0 (j+1) j=mkR (kAt p k0 j) (dAt p j).length:=by unfold fJ;rw[if_pos (by omega)]
theorem QV(p:Pst)(k0 j:Nat):∀i,i≠j->fJ p k0 (j+1) i=fJ p k0 j i:=fun i hi=>by
 unfold fJ
 by_cases h:i<j
 ·rw[if_pos h,if_pos (by omega)]
 ·rw[if_neg h,if_neg (by omega)]
theorem wX(lo hi:Nat)(AA:List Rw)(v:Value)(us:List Value)(p:Pst)(k0:Nat)(w:World)(ho:Own lo hi w ((AA++[fA v us])++bJ us p p.length))(hl:us.length=p.length)(hx:p.length<=1048576)(fE:∀j,j<p.length->(dAt p j).length<=1048576)(ht:∀j,j<=p.length->tot p j<=1048576)(hk0:0<k0/\k0<=16777216):
  Calls Tryz.prog 61 #[v,.int .i64 k0] w fun e w'=>e = .returned (.int .i64 ((kAt p k0 p.length:Nat):Int))/\Tch lo hi w w'/\Own lo hi w' ((AA++[fA v us])++bJ us (mkD p k0) p.length):=by
 have hrow:w.ownsRow lo 36 1 v us.length us:=ho.own (fA v us) (by simp)
 by_cases h0:p.length=0
 ·have e1:p=[]:=List.eq_nil_of_length_eq_zero h0
  subst e1
  obtain⟨a,c,rfl⟩:=aQ hrow
  rw[hl]
  have HO:Hid (Own lo hi w ((AA++[fA (.slice a us.length c) us])++bJ us (mkD [] k0) 0)):=ho
  rw[hl]at HO
  have e2:kAt [] k0 0=k0:=rfl
  simp only[List.length_nil]at *
  rw[e2]
  clear ho hrow fE ht
  go_enter Tryz.func61,Tryz.ntmps61
  go_wp2
  refine wp_loop_rounds 1 ?_;rw[rounds_succ]
  go_wp2
  go_ret
  exact⟨rfl,Tch.refl _ _ _,HO.out⟩
 ·rcases hrow.2 with⟨_,h⟩ |⟨g,cap,cur,rfl,hB,hg,_⟩
  ·omega
  have hgs:g<w.heap.size:=(Array.getElem?_eq_some_iff.1 hg).1
  clear hg hB hrow
  obtain⟨n,hn⟩:∃n,n=p.length:=⟨_,rfl⟩
  have HN:Hid (n=p.length):=hn
  rw[←hn]at ho hl hx h0 fE ht ⊢
  rw[hl]at ho ⊢
  have HL:Hid (us.length=n):=hl
  have HE:Hid (je us (fJ p k0 n) n=bJ us (mkD p k0) n):=(by
   rw[DW]
   exact Aw n (fun i hi=>by
    unfold fJ
    rw[if_pos hi,Qc p k0 (by omega)]):je us (fJ p k0 n) n=bJ us (mkD p k0) n)
  rw[←HE.out]
  rw[DW,←Uh p k0]at ho
  have HK:Hid (∀j,j<=n->0<kAt p k0 j/\kAt p k0 j<=1099511627776):=fun j hj=>by
   rw[DT]
   have:=ht j hj
   omega
  have OM:Hid (Own lo hi w ((AA++[fA (.slice (some ⟨g,0,none⟩) n cap) us])++je us (fJ p k0 0) n)):=ho
  generalize Yb:fA (.slice (some ⟨g,0,none⟩) n cap) us=ob at *
  have Y0:Hid (fA (.slice (some ⟨g,0,none⟩) n cap) us=ob):=Yb
  clear hn h0 hl ht ho Yb HE
  go_enter Tryz.func61,Tryz.ntmps61
  go_wp2
  go_loopw [1,5] (fun k i wr=>∃j:Nat,j<=n/\i = .int .i64 j/\k = .int .i64 ((kAt p k0 j:Nat):Int)/\Hid (Tch lo hi w wr)/\Hid (Own lo hi wr ((AA++[ob])++je us (fJ p k0 j) n))) (fun _ i _=>n - (intOf i).toNat)
  case atStart=>exact⟨0,Nat.zero_le _,rfl,rfl,Tch.refl _ _ _,OM⟩
  case round=>
   obtain⟨j,hj,rfl,rfl,HT,HO⟩:=hrel
   by_cases hjn:j<n
   ·have hji:(j:Int)<(n:Int):=by omega
    obtain⟨A,B,hAB⟩:=yZ us (fJ p k0 j) j n hjn
    have hrows:=HO.out
    have e0:=hAB (fJ p k0 j) (fun i _=>rfl)
    rw[Xi]at e0
    have e1:=hAB (fJ p k0 (j+1)) (QV p k0 j)
    rw[VG]at e1
    rw[e0,←List.append_assoc]at hrows
    have hr:wr.ownsRow lo 46 4 (uAt us j) (dAt p j).length (flR (dAt p j)):=hrows.own (cO (uAt us j) (dAt p j)) (by simp)
    have hro:=HO.out.own ob (by simp)
    rw[←Y0.out]at hro
    have hro:wr.ownsRow lo 36 1 (.slice (some ⟨g,0,none⟩) n cap) us.length us:=hro
    rw[HL.out]at hro
    have d0:wr.cell? ⟨g,j,none⟩=some (uAt us j):=by
     have:=hro.cellAt j (by omega)
     rw[this]
     unfold uAt
     rw[List.getD_eq_getElem?_getD,List.getElem?_eq_getElem (by rw[HL.out];exact hjn)]
     rfl
    have hM:=rU lo (uAt us j) (dAt p j) (kAt p k0 j) wr hr (fE j hjn) (HK.out j (by omega))
    have Va:Hid (∀g,(uAt us j).ownBlock=some g->lo<=g/\g<hi):=fun g hg=>⟨(gY hr hg).1,hrows.hi g (qP (r:=cO (uAt us j) (dAt p j)) (by simp) hg)⟩
    have HW2:Hid (∀w2,wr.grownBy w2 (uAt us j).ownBlock->w2.ownsRow lo 46 4 (uAt us j) (dAt p j).length (flR (mkR (kAt p k0 j) (dAt p j).length))->Own lo hi w2 ((AA++[ob])++je us (fJ p k0 (j+1)) n)):=fun w2 hg2 ho2=>by
     rw[e1,←List.append_assoc]
     refine hrows.set (r':=cO (uAt us j) (mkR (kAt p k0 j) (dAt p j).length)) rfl hg2 ?_
     show w2.ownsRow lo 46 4 (uAt us j) (mkR (kAt p k0 j) (dAt p j).length).length (flR (mkR (kAt p k0 j) (dAt p j).length))
     rw[iJ]
     exact ho2
    obtain⟨ua,uc,Ye⟩:=aQ hr
    have F7:Hid (kAt p k0 (j+1)=kAt p k0 j+(dAt p j).length*4):=rfl
    have hgw:g<wr.heap.size:=Nat.lt_of_lt_of_le hgs HT.out.size
    rw[Ye]at d0 hM Va HW2
    have hkb:=HK.out j (by omega)
    obtain⟨q,hq⟩:∃q,q=kAt p k0 j:=⟨_,rfl⟩
    rw[←hq]at hM hkb HW2 F7 ⊢
    have hmb:=fE j hjn
    generalize (dAt p j).length=m at *
    clear hAB hrows e0 e1 hr hro Ye fE HO hq HK
    go_wp2_with fail
    refine hM.mono ?_
    rintro e w2 ⟨rfl,hg2,ho2⟩
    have HT2:Hid (Tch lo hi w w2):=HT.out.trans (Tch.nS hg2 Va.out)
    have kZ:Hid (Own lo hi w2 ((AA++[ob])++je us (fJ p k0 (j+1)) n)):=HW2.out w2 hg2 ho2
    clear hM hg2 ho2 HW2 Va HT
    go_wp2
    go_roundw
    case rel=>exact⟨j+1,by omega,by go_num,by rw[F7.out];congr 1,HT2,kZ⟩
    case measure=>simp[intOf];omega
   ·have hjn:j=n:=by omega
    subst hjn
    go_wp2
    go_ret
    exact⟨rfl,HT.out,HO.out⟩
theorem wG(v:Value)(p:Pst)(k0:Nat)(w:World)(hv:Dss w v (mkD p k0))(hx:p.length<=1048576)(fE:∀j,j<p.length->(dAt p j).length<=1048576)(ht:∀j,j<=p.length->tot p j<=1048576)(hk0:0<k0/\k0<=16777216):
  Calls Tryz.prog 135 #[v,.int .i64 k0] w fun e w'=>e = .returned (.int .i64 ((kAt p k0 p.length:Nat):Int))/\Below w.heap.size w w':=by
 obtain⟨a,c,rfl⟩:=hv.shape
 rw[lY]at hv ⊢
 by_cases h0:p.length=0
 ·have e1:p=[]:=List.eq_nil_of_length_eq_zero h0
  subst e1
  have e2:kAt [] k0 0=k0:=rfl
  simp only[List.length_nil]at *
  rw[e2]
  clear hv fE ht
  go_enter Tryz.func135,Tryz.ntmps135
  go_wp2
  refine wp_loop_rounds 1 ?_;rw[rounds_succ]
  go_wp2
  go_ret
  exact⟨rfl,Below.refl _ _⟩
 ·obtain⟨-,b,off,rfl,hb,hc⟩:=hv.at (by rw[lY];omega)
  have HC:Hid (∀j,j<p.length->∃u,w.cell? ⟨b,off+j,none⟩=some u/\Rcs w u (mkR (kAt p k0 j) (dAt p j).length)):=fun j hj=>by
   have:=hc j (by rw[lY];exact hj)
   rw[Qc p k0 hj]at this
   exact this
  have HK:Hid (∀j,j<=p.length->0<kAt p k0 j/\kAt p k0 j<=1099511627776):=fun j hj=>by
   rw[DT]
   have:=ht j hj
   omega
  obtain⟨n,hn⟩:∃n,n=p.length:=⟨_,rfl⟩
  rw[←hn]at HC HK hx fE ⊢
  clear hv hc hn h0 ht
  go_enter Tryz.func135,Tryz.ntmps135
  go_wp2
  go_loopw [1,5] (fun k i wr=>∃j:Nat,j<=n/\i = .int .i64 j/\k = .int .i64 ((kAt p k0 j:Nat):Int)/\Hid (Below w.heap.size w wr)) (fun _ i _=>n - (intOf i).toNat)
  case atStart=>exact⟨0,Nat.zero_le _,rfl,rfl,Below.refl _ _⟩
  case round=>
   obtain⟨j,hj,rfl,rfl,hB⟩:=hrel
   by_cases hjn:j<n
   ·have hji:(j:Int)<(n:Int):=by omega
    obtain⟨u,hu,hr⟩:=HC.out j hjn
    have d0:=(hB.out.cell (p:=⟨b,off+j,none⟩) hb).trans hu
    have hM:=rJ u (dAt p j).length (kAt p k0 j) wr (hr.below hB.out) (fE j hjn) (HK.out j (by omega))
    obtain⟨ua,uc,rfl⟩:=hr.shape
    rw[iJ]at d0 hM
    have F7:Hid (kAt p k0 (j+1)=kAt p k0 j+(dAt p j).length*4):=rfl
    have hkb:=HK.out j (by omega)
    have hmb:=fE j hjn
    have hbr:b<wr.heap.size:=Nat.lt_of_lt_of_le hb hB.out.size
    obtain⟨q,hq⟩:∃q,q=kAt p k0 j:=⟨_,rfl⟩
    rw[←hq]at hM hkb F7 ⊢
    generalize (dAt p j).length=m at *
    have hs:¬((q+m*4:Nat):Int)<0:=by omega
    clear hr hu fE hq HK HC
    go_wp2_with fail
    refine hM.mono ?_
    rintro e w2 ⟨rfl,hb2⟩
    have HB2:Hid (Below w.heap.size w w2):=ah hB.out hb2
    clear hM hb2
    go_wp2
    go_roundw
    case rel=>exact⟨j+1,by omega,by go_num,by rw[F7.out];congr 1,HB2⟩
    case measure=>simp[intOf];omega
   ·have hjn:j=n:=by omega
    subst hjn
    go_wp2
    go_ret
    exact⟨rfl,hB.out⟩
end U
end Go.Proofs.YtmnfokgllcdiiaaGreat
