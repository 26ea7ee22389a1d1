/- A state turned by the model. -/
import Derived.Test.YtmmcgjacojgeaaaGreatKZz
import Derived.Deep.Cut
import Derived.Test.YtmmcgjacojgeaaaGreatKCp6
import Derived.Test.YtmmcgjacojgeaaaGreatKBE
import Derived.Test.YtmmcgjacojgeaaaGreatKSt4
set_option maxRecDepth 100000
set_option maxHeartbeats 4000000
namespace Go.Proofs.YtmmcgjacojgeaaaGreat
open Go.RowKit
namespace U
theorem Bc(c:Int)(w:World):Calls Tryz.prog 25 #[.int .i64 c] w fun e w'=>jr w c stZ e w':=by
 go_enter Tryz.func25,Tryz.ntmps25
 go_wp2
 refine bodyPost_ret (v:= .agg #[.int .i64 c,.int .i64 0,.int .i64 0,.slice none 0 0,.slice none 0 0,.slice none 0 0,.slice none 0 0]) (by simp[results,Tryz.results25,go_sem]) rfl ⟨svZ,[],rfl,aj _,Dp _ _ _⟩
theorem SN{lo m1 m2 hi:Nat}{w:World}{HP:List Rw}{r1 r2:Rw}(h:Own lo m1 w HP)(h1:Own m1 m2 w [r1])(h2:Own m2 hi w [r2])(e1:lo<=m1)(e2:m1<=m2)(e3:m2<=hi):Own lo hi w ([r1]++([r2]++HP)):=by
 have A:=(h.app h1 e1 e2).app h2 (by omega) e3
 rw[List.append_assoc]at A
 have B:=A.perm (List.perm_append_comm (l₁:=HP) (l₂:=[r1]++[r2]))
 rw[List.append_assoc]at B
 exact B
theorem EF(lo hi g gd od:Nat)(s:St)(v:Sv)(dP:List Value)(nD jO:Int)(d':Rcl)(da:Option Addr)(dn dc:Nat)(w:World)(hso:aT lo hi w v dP s)(hB:StB s)(hs:StC w g s v)(hgd:gd<w.heap.size)(hD:w.cell? ⟨gd,od,none⟩=some (.slice da dn dc))(hdn:dn=d'.length)(hrd:Rcs w (.slice da dn dc) d')(hdc:da=none->dc=0)(hok:bM d')(jW:cuB nD jO=true):
  Calls Tryz.prog 58 #[.pointer (some ⟨g,0,none⟩),.int .i64 nD,.int .i64 jO,.pointer (some ⟨gd,od,none⟩)] w fun e w'=>jr w 0 ⟨nD,jO,d',newL d' jO,s.h,s.p⟩ e w':=by
 have qw:=hso.sts
 obtain⟨W,hW⟩:∃W,W=w.alloc ach:=⟨_,rfl⟩
 have hBW:Below w.heap.size w W:=by rw[hW];exact aj _
 have HRW:Hid (W.heap[w.heap.size]? = some ach):=(by rw[hW];exact heap_alloc_new w _:W.heap[w.heap.size]? = some ach)
 have oG:w.heap.size<W.heap.size:=(Array.getElem?_eq_some_iff.1 HRW.out).1
 have hC:=Ju lo hi s v dP W (hso.below hBW) hB
 have hsW:=hs.below hBW hs.lt
 have XB:Hid (∀w',Below w.heap.size w w'->Calls Tryz.prog 113 #[.agg #[.slice da dn dc]] w' fun e w''=>∃b d,e = .returned (.agg #[.slice b dn d])/\Below w'.heap.size w' w''/\w''.ownsRow w'.heap.size 46 4 (.slice b dn d) dn (flR d')):=fun w' hb=>tC da dn dc d' w' hdn (hrd.below hb) hdc (by have:=hok.len;omega)
 have yI:Hid (∀w',Below w.heap.size w w'->Calls Tryz.prog 106 #[.int .i64 nD,.int .i64 jO,.pointer (some ⟨gd,od,none⟩)] w' fun e w''=>∃a c,e = .returned (.slice a (newL d' jO).length c)/\Below w'.heap.size w' w''/\w''.ownsRow w'.heap.size 110 2 (.slice a (newL d' jO).length c) (newL d' jO).length ((fl (newL d' jO)).map (Value.int .i64))):=fun w' hb=>Bd nD jO gd od _ d' w' (Nat.lt_of_lt_of_le hgd hb.size) ((hb.cell (p:=⟨gd,od,none⟩) hgd).trans hD) (hrd.below hb) hok jW
 have Ko:Hid (∀w',Below w.heap.size w w'->w'.cell? ⟨gd,od,none⟩=some (.slice da dn dc)):=fun w' hb=>(hb.cell (p:=⟨gd,od,none⟩) hgd).trans hD
 obtain⟨a1,c1,e1⟩:=qw.d.shape
 obtain⟨a2,c2,e2⟩:=qw.n.shape
 obtain⟨a3,c3,e3⟩:=qw.h.shape
 obtain⟨a4,c4,e4⟩:=qw.p.shape
 obtain⟨Au,k0,k1,k2,k3,k4,k5⟩:=hsW
 unfold stV at hC
 rw[e1,e2,e3,e4]at hC
 rw[e1]at k2
 rw[e2]at k3
 rw[e3]at k4
 rw[e4]at k5
 generalize newL d' jO=nl at *
 have Zq:Hid (dn=d'.length):=hdn
 have HW:Hid (w.alloc ach=W):=hW.symm
 have bH:Hid (Below w.heap.size w W):=hBW
 rw[hW]at k0 k1 k2 k3 k4 k5
 have hgw:g<w.heap.size:=hs.lt
 clear hW hso hB hs hgd hD hrd hdc hok jW qw hdn hBW
 go_enter Tryz.func58,Tryz.ntmps58
 go_wp2_with fail
 rw[HW.out]
 refine hC.mono ?_
 rintro e w1 ⟨u,us,rfl,h1⟩
 clear hC HW k0 k1 k2 k3 k4 k5
 have HA1:Hid (o8 W s u us w1):=h1
 have HB1:Hid (Below w.heap.size w w1):=ah bH.out h1.below
 obtain⟨b1,d1,f1⟩:=h1.sts.d.shape
 obtain⟨b2,d2,f2⟩:=h1.sts.n.shape
 obtain⟨b3,d3,f3⟩:=h1.sts.h.shape
 obtain⟨b4,d4,f4⟩:=h1.sts.p.shape
 have hr1:=(h1.below.block w.heap.size oG).trans HRW.out
 have hl1:w.heap.size<w1.heap.size:=(Array.getElem?_eq_some_iff.1 hr1).1
 obtain⟨W3,hW3⟩:∃W3,W3=w1.alloc (.cells #[.int .i64 nD,.int .i64 jO,.slice b1 s.d.length d1,.slice b2 s.n.length d2,.slice b3 s.h.length d3,.slice b4 s.p.length d4] 41):=⟨_,rfl⟩
 have hb3:Below w1.heap.size w1 W3:=by rw[hW3];exact aj _
 have Kw:Hid (W3.heap[w1.heap.size]? = some (.cells #[.int .i64 nD,.int .i64 jO,.slice b1 s.d.length d1,.slice b2 s.n.length d2,.slice b3 s.h.length d3,.slice b4 s.p.length d4] 41)):=(by rw[hW3];exact heap_alloc_new w1 _:W3.heap[w1.heap.size]? = some (.cells #[.int .i64 nD,.int .i64 jO,.slice b1 s.d.length d1,.slice b2 s.n.length d2,.slice b3 s.h.length d3,.slice b4 s.p.length d4] 41))
 have HR3:Hid (W3.heap[w.heap.size]? = some ach):=(hb3.block _ hl1).trans hr1
 have HB3:Hid (Below w.heap.size w W3):=ah HB1.out hb3
 have Xx:Hid (∀g,g<w1.heap.size->W3.heap[g]? = w1.heap[g]?):=fun g hg=>hb3.block g hg
 have hx3:w1.heap.size<W3.heap.size:=(Array.getElem?_eq_some_iff.1 Kw.out).1
 have HW3:Hid _:=hW3.symm
 have kd:=Ko.out W3 HB3.out
 have hC:=XB.out W3 HB3.out
 have TJ:Hid (Own W.heap.size w1.heap.size w1 ([hRow u.h s.h]++([aQ u.p us]++aI us s.p s.p.length))):=(h1.own.own.right.right:Own W.heap.size w1.heap.size w1 ([hRow u.h s.h]++([aQ u.p us]++aI us s.p s.p.length)))
 have ZJ:Hid (us.length=s.p.length):=h1.own.len
 have Zy:Hid (W.heap.size<=w1.heap.size):=h1.below.size
 rw[f3,f4]at TJ
 rw[f1,f2,f3,f4]
 clear f1 f2 f3 f4 e1 e2 e3 e4 h1 hr1 hW3 hb3 Ko XB HA1
 go_upto_region 4 with fail
 rw[HW3.out]
 clear HW3
 generalize hbx:w1.heap.size=bx at *
 go_wp2_with fail
 refine hC.mono ?_
 rintro e w4 ⟨z1,z2,rfl,hb4,o4⟩
 clear hC kd
 have hx4:w4.heap[bx]? = some (.cells #[.int .i64 nD,.int .i64 jO,.slice b1 s.d.length d1,.slice b2 s.n.length d2,.slice b3 s.h.length d3,.slice b4 s.p.length d4] 41):=(hb4.block bx hx3).trans Kw.out
 obtain⟨⟨-,-,y2,-,-,-⟩,-,-,v2,-⟩:=ay hx4
 obtain⟨W4,iE⟩:∃W4,W4=w4.setCell ⟨bx,2,none⟩ (.slice z1 dn z2):=⟨_,rfl⟩
 have yP:Hid (W4.heap[bx]? = some (.cells #[.int .i64 nD,.int .i64 jO,.slice z1 dn z2,.slice b2 s.n.length d2,.slice b3 s.h.length d3,.slice b4 s.p.length d4] 41)):=(by rw[iE];simpa using heap_setCell_same w4 bx 2 _ _ (.slice z1 dn z2) hx4:W4.heap[bx]? = some (.cells #[.int .i64 nD,.int .i64 jO,.slice z1 dn z2,.slice b2 s.n.length d2,.slice b3 s.h.length d3,.slice b4 s.p.length d4] 41))
 have Az:W4.heap.size=w4.heap.size:=by rw[iE];simp
 have VI:Hid (∀g,g<W3.heap.size->g≠bx->W4.heap[g]? = W3.heap[g]?):=(fun g hg hn=>by rw[iE];exact(heap_setCell_other w4 ⟨bx,2,none⟩ g _ hn).trans (hb4.block g hg):∀g,g<W3.heap.size->g≠bx->W4.heap[g]? = W3.heap[g]?)
 have HR1:Hid (Own W3.heap.size W4.heap.size W4 [aK (.slice z1 dn z2) d']):=(by
  have A:Own W3.heap.size w4.heap.size w4 [aK (.slice z1 dn z2) d']:=Own.single (r:=aK (.slice z1 dn z2) d') (by rw[Zq.out]at o4 ⊢;exact o4) (Nat.le_refl _)
  rw[Az,iE]
  exact A.blocks fun g hg=>heap_setCell_other w4 ⟨bx,2,none⟩ g _ (by have:=A.lo g hg;show g≠bx;omega):Own W3.heap.size W4.heap.size W4 [aK (.slice z1 dn z2) d'])
 have hS4:W3.heap.size<=W4.heap.size:=by rw[Az];exact hb4.size
 have HB4:Hid (Below w.heap.size w W4):=(by rw[iE];exact(ah HB3.out hb4).setCell (by show w.heap.size<=bx;omega) _:Below w.heap.size w W4)
 have yO:Hid (w4.setCell ⟨bx,2,none⟩ (.slice z1 dn z2)=W4):=iE.symm
 have hC:=yI.out W4 HB4.out
 clear iE hx4 o4 hb4 yI Az
 go_wp2_with fail
 rw[yO.out]
 clear yO
 refine hC.mono ?_
 rintro e w5 ⟨z3,z4,rfl,hb5,o5⟩
 clear hC y2 v2
 have hx5:w5.heap[bx]? = some (.cells #[.int .i64 nD,.int .i64 jO,.slice z1 dn z2,.slice b2 s.n.length d2,.slice b3 s.h.length d3,.slice b4 s.p.length d4] 41):=(hb5.block bx (by omega)).trans yP.out
 obtain⟨⟨-,-,-,y3,-,-⟩,-,-,-,v3,-⟩:=ay hx5
 obtain⟨W5,uD⟩:∃W5,W5=w5.setCell ⟨bx,3,none⟩ (.slice z3 nl.length z4):=⟨_,rfl⟩
 have X3:W5.heap[bx]? = some (.cells #[.int .i64 nD,.int .i64 jO,.slice z1 dn z2,.slice z3 nl.length z4,.slice b3 s.h.length d3,.slice b4 s.p.length d4] 41):=by rw[uD];simpa using heap_setCell_same w5 bx 3 _ _ (.slice z3 nl.length z4) hx5
 have WJ:W5.heap.size=w5.heap.size:=by rw[uD];simp
 have TM:Hid (∀g,g<W4.heap.size->g≠bx->W5.heap[g]? = W4.heap[g]?):=(fun g hg hn=>by rw[uD];exact(heap_setCell_other w5 ⟨bx,3,none⟩ g _ hn).trans (hb5.block g hg):∀g,g<W4.heap.size->g≠bx->W5.heap[g]? = W4.heap[g]?)
 have HR2:Hid (Own W4.heap.size W5.heap.size W5 [nRow (.slice z3 nl.length z4) nl]):=(by
  have A:Own W4.heap.size w5.heap.size w5 [nRow (.slice z3 nl.length z4) nl]:=Own.single (r:=nRow (.slice z3 nl.length z4) nl) o5 (Nat.le_refl _)
  rw[WJ,uD]
  exact A.blocks fun g hg=>heap_setCell_other w5 ⟨bx,3,none⟩ g _ (by have:=A.lo g hg;show g≠bx;omega):Own W4.heap.size W5.heap.size W5 [nRow (.slice z3 nl.length z4) nl])
 have hS5:W4.heap.size<=W5.heap.size:=by rw[WJ];exact hb5.size
 have uy:Hid (Below w.heap.size w W5):=(by rw[uD];exact(ah HB4.out hb5).setCell (by show w.heap.size<=bx;omega) _:Below w.heap.size w W5)
 have Yf:W5.heap[w.heap.size]? = some ach:=(TM.out _ (by omega) (by omega)).trans ((VI.out _ (by omega) (by omega)).trans HR3.out)
 have HT:Hid (aT W.heap.size W5.heap.size W5 ⟨.slice z1 dn z2,.slice z3 nl.length z4,.slice b3 s.h.length d3,.slice b4 s.p.length d4⟩ us ⟨nD,jO,d',nl,s.h,s.p⟩):=(by
  refine⟨SN (m1:=W3.heap.size) (m2:=W4.heap.size) ((TJ.out.blocks fun g hg=> ?_).wide (Nat.le_refl _) (by omega)) (HR1.out.blocks fun g hg=>TM.out g (HR1.out.lt g hg) (by have:=HR1.out.lo g hg;omega)) HR2.out (by have:=Zy.out;omega) hS4 hS5,ZJ.out⟩
  have h1:=TJ.out.lt g hg
  rw[hbx]at h1
  exact(TM.out g (by omega) (by omega)).trans ((VI.out g (by omega) (by omega)).trans (Xx.out g h1)):aT W.heap.size W5.heap.size W5 ⟨.slice z1 dn z2,.slice z3 nl.length z4,.slice b3 s.h.length d3,.slice b4 s.p.length d4⟩ us ⟨nD,jO,d',nl,s.h,s.p⟩)
 have Oz:Hid (w5.setCell ⟨bx,3,none⟩ (.slice z3 nl.length z4)=W5):=uD.symm
 obtain⟨⟨q0,q1,q2,q3,q4,q5,q6⟩,g0,g1,g2,g3,g4,g5,g6⟩:=aO Yf
 obtain⟨⟨x0,x1,x2,x3,x4,x5⟩,-⟩:=ay X3
 have hn1:¬w.heap.size=bx:=by omega
 have hn2:¬bx=w.heap.size:=by omega
 clear uD hx5 o5 hb5 WJ Xx VI TM HR1 HR2 TJ yP Kw HR3 X3 Yf
 go_upto_region 6 with fail
 rw[Oz.out]
 clear Oz y3 v3
 go_wp2
 refine bodyPost_ret (v:= .agg #[.int .i64 0,.int .i64 nD,.int .i64 jO,.slice z1 dn z2,.slice z3 nl.length z4,.slice b3 s.h.length d3,.slice b4 s.p.length d4]) (by simp[results,Tryz.results58,go_sem,q0,q1,q2,q3,q4,q5,q6]) rfl ⟨⟨.slice z1 dn z2,.slice z3 nl.length z4,.slice b3 s.h.length d3,.slice b4 s.p.length d4⟩,us,rfl, ?_, ?_⟩
 ·exact((((((uy.out.setCell (Nat.le_refl _) _).setCell (Nat.le_refl _) _).setCell (Nat.le_refl _) _).setCell (Nat.le_refl _) _).setCell (Nat.le_refl _) _).setCell (Nat.le_refl _) _).setCell (Nat.le_refl _) _
 ·have B:=((((((HT.out.setCell ⟨w.heap.size,0,none⟩ oG (.int .i64 0)).setCell ⟨w.heap.size,1,none⟩ oG (.int .i64 nD)).setCell ⟨w.heap.size,2,none⟩ oG (.int .i64 jO)).setCell ⟨w.heap.size,3,none⟩ oG (.slice z1 dn z2)).setCell ⟨w.heap.size,4,none⟩ oG (.slice z3 nl.length z4)).setCell ⟨w.heap.size,5,none⟩ oG (.slice b3 s.h.length d3)).setCell ⟨w.heap.size,6,none⟩ oG (.slice b4 s.p.length d4)
  exact B.wide bH.out.size (by simp)
end U
end Go.Proofs.YtmmcgjacojgeaaaGreat
