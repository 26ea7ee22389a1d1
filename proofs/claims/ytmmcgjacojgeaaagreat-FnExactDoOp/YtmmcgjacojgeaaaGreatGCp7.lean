/- A state turned by the model. -/
import Derived.Test.YtmmcgjacojgeaaaGreatGZz
import Derived.Deep.Cut
import Derived.Test.YtmmcgjacojgeaaaGreatGCp6
import Derived.Test.YtmmcgjacojgeaaaGreatGBE
import Derived.Test.YtmmcgjacojgeaaaGreatGSt4
set_option maxRecDepth 100000
set_option maxHeartbeats 4000000
namespace Go.Proofs.YtmmcgjacojgeaaaGreat
open Go.RowKit
namespace U
theorem iT(c:Int)(w:World):Calls Tryz.prog 25 #[.int .i64 c] w fun e w'=>aQ w c stZ e w':=by
 go_enter Tryz.func25,Tryz.ntmps25
 go_wp2
 refine bodyPost_ret (v:= .agg #[.int .i64 c,.int .i64 0,.int .i64 0,.slice none 0 0,.slice none 0 0,.slice none 0 0,.slice none 0 0]) (by simp[results,Tryz.results25,go_sem]) rfl ⟨svZ,[],rfl,aj _,kW _ _ _⟩
theorem WY{lo m1 m2 hi:Nat}{w:World}{HP:List Rw}{r1 r2:Rw}(h:Own lo m1 w HP)(h1:Own m1 m2 w [r1])(h2:Own m2 hi w [r2])(e1:lo<=m1)(e2:m1<=m2)(e3:m2<=hi):Own lo hi w ([r1]++([r2]++HP)):=by
 have A:=(h.app h1 e1 e2).app h2 (by omega) e3
 rw[List.append_assoc]at A
 have B:=A.perm (List.perm_append_comm (l₁:=HP) (l₂:=[r1]++[r2]))
 rw[List.append_assoc]at B
 exact B
theorem gQ(lo hi g gd od:Nat)(s:St)(v:Sv)(aT:List Value)(o8 lC:Int)(d':Rcl)(da:Option Addr)(dn dc:Nat)(w:World)(hso:aG lo hi w v aT s)(hB:StB s)(hs:StC w g s v)(hgd:gd<w.heap.size)(hD:w.cell? ⟨gd,od,none⟩=some (.slice da dn dc))(hdn:dn=d'.length)(hrd:Rcs w (.slice da dn dc) d')(hdc:da=none->dc=0)(hok:bY d')(ig:cuB o8 lC=true):
  Calls Tryz.prog 58 #[.pointer (some ⟨g,0,none⟩),.int .i64 o8,.int .i64 lC,.pointer (some ⟨gd,od,none⟩)] w fun e w'=>aQ w 0 ⟨o8,lC,d',newL d' lC,s.h,s.p⟩ e w':=by
 have sQ:=hso.sts
 obtain⟨W,hW⟩:∃W,W=w.alloc aiJ:=⟨_,rfl⟩
 have hBW:Below w.heap.size w W:=by rw[hW];exact aj _
 have HRW:Hid (W.heap[w.heap.size]? = some aiJ):=(by rw[hW];exact heap_alloc_new w _:W.heap[w.heap.size]? = some aiJ)
 have dG:w.heap.size<W.heap.size:=(Array.getElem?_eq_some_iff.1 HRW.out).1
 have hC:=BH lo hi s v aT W (hso.below hBW) hB
 have hsW:=hs.below hBW hs.lt
 have HL9:Hid (∀w',Below w.heap.size w w'->Calls Tryz.prog 113 #[.agg #[.slice da dn dc]] w' fun e w''=>∃b d,e = .returned (.agg #[.slice b dn d])/\Below w'.heap.size w' w''/\w''.ownsRow w'.heap.size 46 4 (.slice b dn d) dn (flR d')):=fun w' hb=>rC da dn dc d' w' hdn (hrd.below hb) hdc (by have:=hok.len;omega)
 have Bh:Hid (∀w',Below w.heap.size w w'->Calls Tryz.prog 106 #[.int .i64 o8,.int .i64 lC,.pointer (some ⟨gd,od,none⟩)] w' fun e w''=>∃a c,e = .returned (.slice a (newL d' lC).length c)/\Below w'.heap.size w' w''/\w''.ownsRow w'.heap.size 110 2 (.slice a (newL d' lC).length c) (newL d' lC).length ((fl (newL d' lC)).map (Value.int .i64))):=fun w' hb=>Em o8 lC gd od _ d' w' (Nat.lt_of_lt_of_le hgd hb.size) ((hb.cell (p:=⟨gd,od,none⟩) hgd).trans hD) (hrd.below hb) hok ig
 have Oy:Hid (∀w',Below w.heap.size w w'->w'.cell? ⟨gd,od,none⟩=some (.slice da dn dc)):=fun w' hb=>(hb.cell (p:=⟨gd,od,none⟩) hgd).trans hD
 obtain⟨a1,c1,e1⟩:=sQ.d.shape
 obtain⟨a2,c2,e2⟩:=sQ.n.shape
 obtain⟨a3,c3,e3⟩:=sQ.h.shape
 obtain⟨a4,c4,e4⟩:=sQ.p.shape
 obtain⟨DZ,k0,k1,k2,k3,k4,k5⟩:=hsW
 unfold stV at hC
 rw[e1,e2,e3,e4]at hC
 rw[e1]at k2
 rw[e2]at k3
 rw[e3]at k4
 rw[e4]at k5
 generalize newL d' lC=nl at *
 have HDN:Hid (dn=d'.length):=hdn
 have HW:Hid (w.alloc aiJ=W):=hW.symm
 have aC:Hid (Below w.heap.size w W):=hBW
 rw[hW]at k0 k1 k2 k3 k4 k5
 have hgw:g<w.heap.size:=hs.lt
 clear hW hso hB hs hgd hD hrd hdc hok ig sQ hdn hBW
 go_enter Tryz.func58,Tryz.ntmps58
 go_wp2_with fail
 rw[HW.out]
 refine hC.mono ?_
 rintro e w1 ⟨u,us,rfl,h1⟩
 clear hC HW k0 k1 k2 k3 k4 k5
 have HA1:Hid (gW W s u us w1):=h1
 have HB1:Hid (Below w.heap.size w w1):=ah aC.out h1.below
 obtain⟨b1,d1,f1⟩:=h1.sts.d.shape
 obtain⟨b2,d2,f2⟩:=h1.sts.n.shape
 obtain⟨b3,d3,f3⟩:=h1.sts.h.shape
 obtain⟨b4,d4,f4⟩:=h1.sts.p.shape
 have hr1:=(h1.below.block w.heap.size dG).trans HRW.out
 have hl1:w.heap.size<w1.heap.size:=(Array.getElem?_eq_some_iff.1 hr1).1
 obtain⟨W3,hW3⟩:∃W3,W3=w1.alloc (.cells #[.int .i64 o8,.int .i64 lC,.slice b1 s.d.length d1,.slice b2 s.n.length d2,.slice b3 s.h.length d3,.slice b4 s.p.length d4] 41):=⟨_,rfl⟩
 have hb3:Below w1.heap.size w1 W3:=by rw[hW3];exact aj _
 have mG:Hid (W3.heap[w1.heap.size]? = some (.cells #[.int .i64 o8,.int .i64 lC,.slice b1 s.d.length d1,.slice b2 s.n.length d2,.slice b3 s.h.length d3,.slice b4 s.p.length d4] 41)):=(by rw[hW3];exact heap_alloc_new w1 _:W3.heap[w1.heap.size]? = some (.cells #[.int .i64 o8,.int .i64 lC,.slice b1 s.d.length d1,.slice b2 s.n.length d2,.slice b3 s.h.length d3,.slice b4 s.p.length d4] 41))
 have HR3:Hid (W3.heap[w.heap.size]? = some aiJ):=(hb3.block _ hl1).trans hr1
 have HB3:Hid (Below w.heap.size w W3):=ah HB1.out hb3
 have HK3:Hid (∀g,g<w1.heap.size->W3.heap[g]? = w1.heap[g]?):=fun g hg=>hb3.block g hg
 have hx3:w1.heap.size<W3.heap.size:=(Array.getElem?_eq_some_iff.1 mG.out).1
 have HW3:Hid _:=hW3.symm
 have kd:=Oy.out W3 HB3.out
 have hC:=HL9.out W3 HB3.out
 have XA:Hid (Own W.heap.size w1.heap.size w1 ([hRow u.h s.h]++([aV u.p us]++aJ us s.p s.p.length))):=(h1.own.own.right.right:Own W.heap.size w1.heap.size w1 ([hRow u.h s.h]++([aV u.p us]++aJ us s.p s.p.length)))
 have HUL:Hid (us.length=s.p.length):=h1.own.len
 have HLL:Hid (W.heap.size<=w1.heap.size):=h1.below.size
 rw[f3,f4]at XA
 rw[f1,f2,f3,f4]
 clear f1 f2 f3 f4 e1 e2 e3 e4 h1 hr1 hW3 hb3 Oy HL9 HA1
 go_upto_region 4 with fail
 rw[HW3.out]
 clear HW3
 generalize hbx:w1.heap.size=bx at *
 go_wp2_with fail
 refine hC.mono ?_
 rintro e w4 ⟨z1,z2,rfl,hb4,o4⟩
 clear hC kd
 have hx4:w4.heap[bx]? = some (.cells #[.int .i64 o8,.int .i64 lC,.slice b1 s.d.length d1,.slice b2 s.n.length d2,.slice b3 s.h.length d3,.slice b4 s.p.length d4] 41):=(hb4.block bx hx3).trans mG.out
 obtain⟨⟨-,-,y2,-,-,-⟩,-,-,v2,-⟩:=aB hx4
 obtain⟨W4,dO⟩:∃W4,W4=w4.setCell ⟨bx,2,none⟩ (.slice z1 dn z2):=⟨_,rfl⟩
 have vG:Hid (W4.heap[bx]? = some (.cells #[.int .i64 o8,.int .i64 lC,.slice z1 dn z2,.slice b2 s.n.length d2,.slice b3 s.h.length d3,.slice b4 s.p.length d4] 41)):=(by rw[dO];simpa using heap_setCell_same w4 bx 2 _ _ (.slice z1 dn z2) hx4:W4.heap[bx]? = some (.cells #[.int .i64 o8,.int .i64 lC,.slice z1 dn z2,.slice b2 s.n.length d2,.slice b3 s.h.length d3,.slice b4 s.p.length d4] 41))
 have D6:W4.heap.size=w4.heap.size:=by rw[dO];simp
 have ZI:Hid (∀g,g<W3.heap.size->g≠bx->W4.heap[g]? = W3.heap[g]?):=(fun g hg hn=>by rw[dO];exact(heap_setCell_other w4 ⟨bx,2,none⟩ g _ hn).trans (hb4.block g hg):∀g,g<W3.heap.size->g≠bx->W4.heap[g]? = W3.heap[g]?)
 have HR1:Hid (Own W3.heap.size W4.heap.size W4 [aI (.slice z1 dn z2) d']):=(by
  have A:Own W3.heap.size w4.heap.size w4 [aI (.slice z1 dn z2) d']:=Own.single (r:=aI (.slice z1 dn z2) d') (by rw[HDN.out]at o4 ⊢;exact o4) (Nat.le_refl _)
  rw[D6,dO]
  exact A.blocks fun g hg=>heap_setCell_other w4 ⟨bx,2,none⟩ g _ (by have:=A.lo g hg;show g≠bx;omega):Own W3.heap.size W4.heap.size W4 [aI (.slice z1 dn z2) d'])
 have hS4:W3.heap.size<=W4.heap.size:=by rw[D6];exact hb4.size
 have HB4:Hid (Below w.heap.size w W4):=(by rw[dO];exact(ah HB3.out hb4).setCell (by show w.heap.size<=bx;omega) _:Below w.heap.size w W4)
 have nR:Hid (w4.setCell ⟨bx,2,none⟩ (.slice z1 dn z2)=W4):=dO.symm
 have hC:=Bh.out W4 HB4.out
 clear dO hx4 o4 hb4 Bh D6
 go_wp2_with fail
 rw[nR.out]
 clear nR
 refine hC.mono ?_
 rintro e w5 ⟨z3,z4,rfl,hb5,o5⟩
 clear hC y2 v2
 have hx5:w5.heap[bx]? = some (.cells #[.int .i64 o8,.int .i64 lC,.slice z1 dn z2,.slice b2 s.n.length d2,.slice b3 s.h.length d3,.slice b4 s.p.length d4] 41):=(hb5.block bx (by omega)).trans vG.out
 obtain⟨⟨-,-,-,y3,-,-⟩,-,-,-,v3,-⟩:=aB hx5
 obtain⟨W5,xB⟩:∃W5,W5=w5.setCell ⟨bx,3,none⟩ (.slice z3 nl.length z4):=⟨_,rfl⟩
 have HX5:W5.heap[bx]? = some (.cells #[.int .i64 o8,.int .i64 lC,.slice z1 dn z2,.slice z3 nl.length z4,.slice b3 s.h.length d3,.slice b4 s.p.length d4] 41):=by rw[xB];simpa using heap_setCell_same w5 bx 3 _ _ (.slice z3 nl.length z4) hx5
 have hz5:W5.heap.size=w5.heap.size:=by rw[xB];simp
 have XC:Hid (∀g,g<W4.heap.size->g≠bx->W5.heap[g]? = W4.heap[g]?):=(fun g hg hn=>by rw[xB];exact(heap_setCell_other w5 ⟨bx,3,none⟩ g _ hn).trans (hb5.block g hg):∀g,g<W4.heap.size->g≠bx->W5.heap[g]? = W4.heap[g]?)
 have HR2:Hid (Own W4.heap.size W5.heap.size W5 [nRow (.slice z3 nl.length z4) nl]):=(by
  have A:Own W4.heap.size w5.heap.size w5 [nRow (.slice z3 nl.length z4) nl]:=Own.single (r:=nRow (.slice z3 nl.length z4) nl) o5 (Nat.le_refl _)
  rw[hz5,xB]
  exact A.blocks fun g hg=>heap_setCell_other w5 ⟨bx,3,none⟩ g _ (by have:=A.lo g hg;show g≠bx;omega):Own W4.heap.size W5.heap.size W5 [nRow (.slice z3 nl.length z4) nl])
 have hS5:W4.heap.size<=W5.heap.size:=by rw[hz5];exact hb5.size
 have xu:Hid (Below w.heap.size w W5):=(by rw[xB];exact(ah HB4.out hb5).setCell (by show w.heap.size<=bx;omega) _:Below w.heap.size w W5)
 have hR5:W5.heap[w.heap.size]? = some aiJ:=(XC.out _ (by omega) (by omega)).trans ((ZI.out _ (by omega) (by omega)).trans HR3.out)
 have HT:Hid (aG W.heap.size W5.heap.size W5 ⟨.slice z1 dn z2,.slice z3 nl.length z4,.slice b3 s.h.length d3,.slice b4 s.p.length d4⟩ us ⟨o8,lC,d',nl,s.h,s.p⟩):=(by
  refine⟨WY (m1:=W3.heap.size) (m2:=W4.heap.size) ((XA.out.blocks fun g hg=> ?_).wide (Nat.le_refl _) (by omega)) (HR1.out.blocks fun g hg=>XC.out g (HR1.out.lt g hg) (by have:=HR1.out.lo g hg;omega)) HR2.out (by have:=HLL.out;omega) hS4 hS5,HUL.out⟩
  have h1:=XA.out.lt g hg
  rw[hbx]at h1
  exact(XC.out g (by omega) (by omega)).trans ((ZI.out g (by omega) (by omega)).trans (HK3.out g h1)):aG W.heap.size W5.heap.size W5 ⟨.slice z1 dn z2,.slice z3 nl.length z4,.slice b3 s.h.length d3,.slice b4 s.p.length d4⟩ us ⟨o8,lC,d',nl,s.h,s.p⟩)
 have SV:Hid (w5.setCell ⟨bx,3,none⟩ (.slice z3 nl.length z4)=W5):=xB.symm
 obtain⟨⟨q0,q1,q2,q3,q4,q5,q6⟩,g0,g1,g2,g3,g4,g5,g6⟩:=aA hR5
 obtain⟨⟨x0,x1,x2,x3,x4,x5⟩,-⟩:=aB HX5
 have hn1:¬w.heap.size=bx:=by omega
 have hn2:¬bx=w.heap.size:=by omega
 clear xB hx5 o5 hb5 hz5 HK3 ZI XC HR1 HR2 XA vG mG HR3 HX5 hR5
 go_upto_region 6 with fail
 rw[SV.out]
 clear SV y3 v3
 go_wp2
 refine bodyPost_ret (v:= .agg #[.int .i64 0,.int .i64 o8,.int .i64 lC,.slice z1 dn z2,.slice z3 nl.length z4,.slice b3 s.h.length d3,.slice b4 s.p.length d4]) (by simp[results,Tryz.results58,go_sem,q0,q1,q2,q3,q4,q5,q6]) rfl ⟨⟨.slice z1 dn z2,.slice z3 nl.length z4,.slice b3 s.h.length d3,.slice b4 s.p.length d4⟩,us,rfl, ?_, ?_⟩
 ·exact((((((xu.out.setCell (Nat.le_refl _) _).setCell (Nat.le_refl _) _).setCell (Nat.le_refl _) _).setCell (Nat.le_refl _) _).setCell (Nat.le_refl _) _).setCell (Nat.le_refl _) _).setCell (Nat.le_refl _) _
 ·have B:=((((((HT.out.setCell ⟨w.heap.size,0,none⟩ dG (.int .i64 0)).setCell ⟨w.heap.size,1,none⟩ dG (.int .i64 o8)).setCell ⟨w.heap.size,2,none⟩ dG (.int .i64 lC)).setCell ⟨w.heap.size,3,none⟩ dG (.slice z1 dn z2)).setCell ⟨w.heap.size,4,none⟩ dG (.slice z3 nl.length z4)).setCell ⟨w.heap.size,5,none⟩ dG (.slice b3 s.h.length d3)).setCell ⟨w.heap.size,6,none⟩ dG (.slice b4 s.p.length d4)
  exact B.wide aC.out.size (by simp)
end U
end Go.Proofs.YtmmcgjacojgeaaaGreat
