/- Some keys copied, by the program. -/
import Derived.Test.YtmmcgjacojgeaaaGreatGZz
import Derived.Deep.Cut
import Derived.Test.YtmmcgjacojgeaaaGreatGBE
import Derived.Test.YtmmcgjacojgeaaaGreatGSt7
import Derived.Test.YtmmcgjacojgeaaaGreatGIm6M
set_option maxRecDepth 100000
set_option maxHeartbeats 2000000
namespace Go.Proofs.YtmmcgjacojgeaaaGreat
open Go.RowKit
namespace U
theorem Az(R:Rt)(hR:bK R)(s:St)(v:Sv)(n:Int)(w:World)(hv:Sts w v s)(hB:StB s)(h:cpF R s n=0)(hp:s.ph=2)(hd:aF s.d=0)(ig:0<=s.cu/\s.cu<=255)(hn:1<=n/\n<=256)(hc:256<=s.cu+n):
  Calls Tryz.prog 100 #[stV s v,.int .i64 n] w fun e w'=>aQ w 0 ⟨3,256,s.d,newL s.d (256),s.h,s.p⟩ e w':=by
 obtain⟨W,hW⟩:∃W,W=(w.alloc (stC s v 41)).alloc aiJ:=⟨_,rfl⟩
 have hBW:Below w.heap.size w W:=by rw[hW];exact(aj _).alloc (aj _).size _
 have hH2:W.heap[w.heap.size+1]? = some aiJ:=by
  have:=heap_alloc_new (w.alloc (stC s v 41)) aiJ
  rw[World.size_alloc]at this
  rw[hW]
  exact this
 have hC0:StC W w.heap.size s v:=by rw[hW];exact(StC.new w s v _).below (aj _) (by simp)
 have hF:=qE R hR s v n W (hv.below hBW) hB
 rw[h]at hF
 have HO:Hid (∀w',Below w.heap.size w w'->Calls Tryz.prog 33 #[stV s v] w' fun e w''=>∃u us,e = .returned (stV s u)/\gW w' s u us w''):=fun w' hb=>jr s v w' (hv.below hb) hB
 have HC:Hid (∀w',Below W.heap.size W w'->StC w' w.heap.size s v):=fun w' hb=>hC0.below hb hC0.lt
 have HR:Hid (∀w',Below W.heap.size W w'->w'.heap[w.heap.size+1]? = some aiJ):=fun w' hb=>(hb.block (w.heap.size+1) (Array.getElem?_eq_some_iff.1 hH2).1).trans hH2
 have HN:Hid (∀u w',Rcs w' u s.d->Calls Tryz.prog 34 #[.agg #[u],.int .i64 (256)] w' fun e w''=>∃a c,e = .returned (.slice a (newL s.d (256)).length c)/\Below w'.heap.size w' w''/\w''.ownsRow w'.heap.size 110 2 (.slice a (newL s.d (256)).length c) (newL s.d (256)).length ((fl (newL s.d (256))).map (Value.int .i64))):=fun u w' hr=>jo u s.d (256) w' hr hd (by omega)
 have lG:Hid ((⟨3,256,s.d,newL s.d (256),s.h,s.p⟩:St)=⟨3,256,s.d,newL s.d (256),s.h,s.p⟩):=rfl
 generalize newL s.d (256)=nl at *
 have hwr:IntKind.i64.wrap (s.cu+n)=s.cu+n:=by rw[IntKind.wrap_i64];omega
 have hmn:min (s.cu+n) 256=256:=by omega
 obtain⟨a1,c1,e1⟩:=hv.d.shape
 obtain⟨a2,c2,e2⟩:=hv.n.shape
 obtain⟨a3,c3,e3⟩:=hv.h.shape
 obtain⟨a4,c4,e4⟩:=hv.p.shape
 unfold stC at hW
 unfold stV at hF ⊢
 rw[e1,e2,e3,e4]at hW hF ⊢
 have HW:Hid _:=hW.symm
 rw[hp]at hW hF HW
 have aC:Hid (Below w.heap.size w W):=hBW
 have dM:Hid (w.heap.size+1<W.heap.size):=(Array.getElem?_eq_some_iff.1 hH2).1
 rw[hp]
 clear hv hB hW hR hC0 h hH2 hBW hd lG
 go_enter Tryz.func100,Tryz.ntmps100
 go_wp2_with fail
 rw[HW.out]
 refine hF.mono ?_
 rintro e w1 ⟨rfl,hb1⟩
 clear hF HW
 have HB1:Hid (Below w.heap.size w w1):=ah aC.out hb1
 have iM:=HR.out w1 hb1
 obtain⟨hlt1,k0,k1,k2,k3,k4,k5⟩:=HC.out w1 hb1
 rw[hp]at k0
 rw[e1]at k2
 rw[e2]at k3
 rw[e3]at k4
 rw[e4]at k5
 have hO:=HO.out w1 HB1.out
 unfold stV at hO
 rw[hp,e1,e2,e3,e4]at hO
 have dU:Hid (w.heap.size+1<w1.heap.size):=(Array.getElem?_eq_some_iff.1 iM).1
 have iM:Hid (w1.heap[w.heap.size+1]? = some aiJ):=iM
 have rW:Hid (W.heap.size<=w1.heap.size):=hb1.size
 have Bg:Hid (∀w',Below w1.heap.size w1 w'->w'.cell? ⟨w.heap.size,1,none⟩=some (.int .i64 s.cu)):=fun w' hb=>(hb.cell (p:=⟨w.heap.size,1,none⟩) hlt1).trans k1
 clear HO HC HR hb1 aC dM
 go_wp2_with fail
 refine hO.mono ?_
 rintro e w2 ⟨u,us,rfl,h2⟩
 clear hO k0 k1 k2 k3 k4 k5 hlt1
 have k1':=Bg.out w2 h2.below
 have hw2:w.heap.size<w2.heap.size:=Nat.lt_of_lt_of_le (Nat.lt_of_succ_lt dU.out) h2.below.size
 have hr2:=(h2.below.block (w.heap.size+1) dU.out).trans iM.out
 have HA2:Hid (gW w1 s u us w2):=h2
 obtain⟨b1,d1,f1⟩:=h2.sts.d.shape
 obtain⟨b2,d2,f2⟩:=h2.sts.n.shape
 obtain⟨b3,d3,f3⟩:=h2.sts.h.shape
 obtain⟨b4,d4,f4⟩:=h2.sts.p.shape
 have Jw:Rcs w2 u.d s.d:=h2.sts.d
 rw[f1]at Jw
 have HU:Hid (u=⟨.slice b1 s.d.length d1,.slice b2 s.n.length d2,.slice b3 s.h.length d3,.slice b4 s.p.length d4⟩):=(by cases u;simp only at f1 f2 f3 f4;rw[f1,f2,f3,f4]:u=⟨.slice b1 s.d.length d1,.slice b2 s.n.length d2,.slice b3 s.h.length d3,.slice b4 s.p.length d4⟩)
 rw[f1,f2,f3,f4]
 clear f1 f2 f3 f4 e1 e2 e3 e4 iM h2 Bg
 have k1:(w2.alloc (.cells #[.int .i64 2,.int .i64 s.cu,.slice b1 s.d.length d1,.slice b2 s.n.length d2,.slice b3 s.h.length d3,.slice b4 s.p.length d4] 41)).cell? ⟨w.heap.size,1,none⟩=some (.int .i64 s.cu):=((aj _).cell (p:=⟨w.heap.size,1,none⟩) hw2).trans k1'
 clear k1' hw2
 have VG:Hid (w1.heap.size<=w2.heap.size):=HA2.out.below.size
 have hl2:w.heap.size+1<w2.heap.size:=(Array.getElem?_eq_some_iff.1 hr2).1
 obtain⟨W3,hW3⟩:∃W3,W3=w2.alloc (.cells #[.int .i64 3,.int .i64 256,.slice b1 s.d.length d1,.slice b2 s.n.length d2,.slice b3 s.h.length d3,.slice b4 s.p.length d4] 41):=⟨_,rfl⟩
 have hr3:W3.heap[w.heap.size+1]? = some aiJ:=by rw[hW3];exact((aj _).block _ hl2).trans hr2
 have hx3:W3.heap[w2.heap.size]? = some (.cells #[.int .i64 3,.int .i64 256,.slice b1 s.d.length d1,.slice b2 s.n.length d2,.slice b3 s.h.length d3,.slice b4 s.p.length d4] 41):=by rw[hW3];exact heap_alloc_new w2 _
 have HB3:Hid (Below w.heap.size w W3):=(by rw[hW3];exact(ah HB1.out HA2.out.below).alloc (ah HB1.out HA2.out.below).size _:Below w.heap.size w W3)
 have fB:Hid (aG w1.heap.size w2.heap.size W3 u us s):=(by rw[hW3];exact HA2.out.own.below (aj _):aG w1.heap.size w2.heap.size W3 u us s)
 have mG:Hid (W3.heap[w2.heap.size]? = some (.cells #[.int .i64 3,.int .i64 256,.slice b1 s.d.length d1,.slice b2 s.n.length d2,.slice b3 s.h.length d3,.slice b4 s.p.length d4] 41)):=hx3
 have HR3:Hid (W3.heap[w.heap.size+1]? = some aiJ):=hr3
 have HW3:Hid _:=hW3.symm
 have hE:=HN.out (.slice b1 s.d.length d1) W3 (by rw[hW3];exact Jw.below (aj _))
 have hU:=HU.out
 subst hU
 have hlx:w2.heap.size<W3.heap.size:=(Array.getElem?_eq_some_iff.1 hx3).1
 have hlr:w.heap.size+1<W3.heap.size:=(Array.getElem?_eq_some_iff.1 hr3).1
 clear hr2 hW3 hr3 hx3 HA2 HU HN Jw
 go_wp2_with fail
 rw[HW3.out]
 clear HW3
 generalize hbx:w2.heap.size=bx at *
 refine hE.mono ?_
 rintro e w4 ⟨z1,z2,rfl,hb4,o4⟩
 clear hE k1
 have hx4:=(hb4.block bx hlx).trans mG.out
 have hr4:=(hb4.block (w.heap.size+1) hlr).trans HR3.out
 have hB4:Below w.heap.size w w4:=ah HB3.out hb4
 obtain⟨⟨-,-,-,v3,-,-⟩,-,-,-,u3,-⟩:=aB hx4
 obtain⟨W4,dO⟩:∃W4,W4=w4.setCell ⟨bx,3,none⟩ (.slice z1 nl.length z2):=⟨_,rfl⟩
 have nR:Hid (w4.setCell ⟨bx,3,none⟩ (.slice z1 nl.length z2)=W4):=dO.symm
 have hx5:W4.heap[bx]? = some (.cells #[.int .i64 3,.int .i64 256,.slice b1 s.d.length d1,.slice z1 nl.length z2,.slice b3 s.h.length d3,.slice b4 s.p.length d4] 41):=by rw[dO];simpa using heap_setCell_same w4 bx 3 _ _ (.slice z1 nl.length z2) hx4
 have yV:W4.heap[w.heap.size+1]? = some aiJ:=by rw[dO];exact(heap_setCell_other w4 ⟨bx,3,none⟩ _ _ (by show w.heap.size+1≠bx;omega)).trans hr4
 have HB4:Hid (Below w.heap.size w W4):=(by rw[dO];exact hB4.setCell (by show w.heap.size<=bx;omega) _:Below w.heap.size w W4)
 have hs4:w4.heap.size=W4.heap.size:=by rw[dO];simp
 have HT:Hid (aG w1.heap.size W4.heap.size W4 ⟨.slice b1 s.d.length d1,.slice z1 nl.length z2,.slice b3 s.h.length d3,.slice b4 s.p.length d4⟩ us ⟨3,256,s.d,nl,s.h,s.p⟩):=(by
  have hs3:=hb4.size
  have ad3:=VG.out
  have hs1:=HB1.out.size
  have O1:=(fB.out.own.below hb4).blocks (w':=W4) fun g hg=>by
   rw[dO]
   exact heap_setCell_other w4 ⟨bx,3,none⟩ g _ (by have:=fB.out.own.hi g hg;show g≠bx;omega)
  have O2:Own W3.heap.size W4.heap.size W4 [nRow (.slice z1 nl.length z2) nl]:=by
   have A:Own W3.heap.size w4.heap.size w4 [nRow (.slice z1 nl.length z2) nl]:=Own.single (r:=nRow (.slice z1 nl.length z2) nl) o4 (Nat.le_refl _)
   rw[←hs4,dO]
   exact A.blocks fun g hg=>heap_setCell_other w4 ⟨bx,3,none⟩ g _ (by have:=A.lo g hg;show g≠bx;omega)
  refine⟨Own.swap (A:=[aI (.slice b1 s.d.length d1) s.d]) (B:=[hRow (.slice b3 s.h.length d3) s.h]++([aV (.slice b4 s.p.length d4) us]++aJ us s.p s.p.length)) (r:=nRow (.slice b2 s.n.length d2) s.n) (r':=nRow (.slice z1 nl.length z2) nl) (O1.wide (Nat.le_refl _) (Nat.le_of_lt hlx)) O2 (by omega) (by omega),fB.out.len⟩:aG w1.heap.size W4.heap.size W4 ⟨.slice b1 s.d.length d1,.slice z1 nl.length z2,.slice b3 s.h.length d3,.slice b4 s.p.length d4⟩ us ⟨3,256,s.d,nl,s.h,s.p⟩)
 obtain⟨⟨q0,q1,q2,q3,q4,q5,q6⟩,g0,g1,g2,g3,g4,g5,g6⟩:=aA yV
 obtain⟨⟨x0,x1,x2,x3,x4,x5⟩,-⟩:=aB hx5
 have hn1:¬w.heap.size+1=bx:=by omega
 have hn2:¬bx=w.heap.size+1:=by omega
 clear dO hx4 hr4 hx5 yV o4 hb4 hB4 mG HR3 fB HB3 hs4
 go_upto_region 9 with fail
 rw[nR.out]
 clear nR v3 u3
 go_wp2
 refine bodyPost_ret (v:= .agg #[.int .i64 0,.int .i64 3,.int .i64 256,.slice b1 s.d.length d1,.slice z1 nl.length z2,.slice b3 s.h.length d3,.slice b4 s.p.length d4]) (by simp[results,Tryz.results100,go_sem,q0,q1,q2,q3,q4,q5,q6]) rfl ⟨⟨.slice b1 s.d.length d1,.slice z1 nl.length z2,.slice b3 s.h.length d3,.slice b4 s.p.length d4⟩,us,rfl, ?_, ?_⟩
 ·exact((((((HB4.out.setCell (Nat.le_succ _) _).setCell (Nat.le_succ _) _).setCell (Nat.le_succ _) _).setCell (Nat.le_succ _) _).setCell (Nat.le_succ _) _).setCell (Nat.le_succ _) _).setCell (Nat.le_succ _) _
 ·have B:=((((((HT.out.setCell ⟨w.heap.size+1,0,none⟩ dU.out (.int .i64 0)).setCell ⟨w.heap.size+1,1,none⟩ dU.out (.int .i64 3)).setCell ⟨w.heap.size+1,2,none⟩ dU.out (.int .i64 256)).setCell ⟨w.heap.size+1,3,none⟩ dU.out (.slice b1 s.d.length d1)).setCell ⟨w.heap.size+1,4,none⟩ dU.out (.slice z1 nl.length z2)).setCell ⟨w.heap.size+1,5,none⟩ dU.out (.slice b3 s.h.length d3)).setCell ⟨w.heap.size+1,6,none⟩ dU.out (.slice b4 s.p.length d4)
  exact B.wide HB1.out.size (by simp)
theorem AB(R:Rt)(hR:bK R)(s:St)(v:Sv)(n:Int)(w:World)(hv:Sts w v s)(hB:StB s)(h:cpF R s n=0)(hp:s.ph=2)(hd:aF s.d=0)(ig:0<=s.cu/\s.cu<=255)(hn:1<=n/\n<=256)(hc:¬ 256<=s.cu+n):
  Calls Tryz.prog 100 #[stV s v,.int .i64 n] w fun e w'=>aQ w 0 ⟨2,(s.cu+n),s.d,newL s.d ((s.cu+n)),s.h,s.p⟩ e w':=by
 obtain⟨W,hW⟩:∃W,W=(w.alloc (stC s v 41)).alloc aiJ:=⟨_,rfl⟩
 have hBW:Below w.heap.size w W:=by rw[hW];exact(aj _).alloc (aj _).size _
 have hH2:W.heap[w.heap.size+1]? = some aiJ:=by
  have:=heap_alloc_new (w.alloc (stC s v 41)) aiJ
  rw[World.size_alloc]at this
  rw[hW]
  exact this
 have hC0:StC W w.heap.size s v:=by rw[hW];exact(StC.new w s v _).below (aj _) (by simp)
 have hF:=qE R hR s v n W (hv.below hBW) hB
 rw[h]at hF
 have HO:Hid (∀w',Below w.heap.size w w'->Calls Tryz.prog 33 #[stV s v] w' fun e w''=>∃u us,e = .returned (stV s u)/\gW w' s u us w''):=fun w' hb=>jr s v w' (hv.below hb) hB
 have HC:Hid (∀w',Below W.heap.size W w'->StC w' w.heap.size s v):=fun w' hb=>hC0.below hb hC0.lt
 have HR:Hid (∀w',Below W.heap.size W w'->w'.heap[w.heap.size+1]? = some aiJ):=fun w' hb=>(hb.block (w.heap.size+1) (Array.getElem?_eq_some_iff.1 hH2).1).trans hH2
 have HN:Hid (∀u w',Rcs w' u s.d->Calls Tryz.prog 34 #[.agg #[u],.int .i64 ((s.cu+n))] w' fun e w''=>∃a c,e = .returned (.slice a (newL s.d ((s.cu+n))).length c)/\Below w'.heap.size w' w''/\w''.ownsRow w'.heap.size 110 2 (.slice a (newL s.d ((s.cu+n))).length c) (newL s.d ((s.cu+n))).length ((fl (newL s.d ((s.cu+n)))).map (Value.int .i64))):=fun u w' hr=>jo u s.d ((s.cu+n)) w' hr hd (by omega)
 have lG:Hid ((⟨2,(s.cu+n),s.d,newL s.d ((s.cu+n)),s.h,s.p⟩:St)=⟨2,(s.cu+n),s.d,newL s.d ((s.cu+n)),s.h,s.p⟩):=rfl
 generalize newL s.d ((s.cu+n))=nl at *
 have hwr:IntKind.i64.wrap (s.cu+n)=s.cu+n:=by rw[IntKind.wrap_i64];omega
 have hmn:min (s.cu+n) 256=(s.cu+n):=by omega
 obtain⟨a1,c1,e1⟩:=hv.d.shape
 obtain⟨a2,c2,e2⟩:=hv.n.shape
 obtain⟨a3,c3,e3⟩:=hv.h.shape
 obtain⟨a4,c4,e4⟩:=hv.p.shape
 unfold stC at hW
 unfold stV at hF ⊢
 rw[e1,e2,e3,e4]at hW hF ⊢
 have HW:Hid _:=hW.symm
 rw[hp]at hW hF HW
 have aC:Hid (Below w.heap.size w W):=hBW
 have dM:Hid (w.heap.size+1<W.heap.size):=(Array.getElem?_eq_some_iff.1 hH2).1
 rw[hp]
 clear hv hB hW hR hC0 h hH2 hBW hd lG
 have hne:¬s.cu+n=256:=by omega
 go_enter Tryz.func100,Tryz.ntmps100
 go_wp2_with fail
 rw[HW.out]
 refine hF.mono ?_
 rintro e w1 ⟨rfl,hb1⟩
 clear hF HW
 have HB1:Hid (Below w.heap.size w w1):=ah aC.out hb1
 have iM:=HR.out w1 hb1
 obtain⟨hlt1,k0,k1,k2,k3,k4,k5⟩:=HC.out w1 hb1
 rw[hp]at k0
 rw[e1]at k2
 rw[e2]at k3
 rw[e3]at k4
 rw[e4]at k5
 have hO:=HO.out w1 HB1.out
 unfold stV at hO
 rw[hp,e1,e2,e3,e4]at hO
 have dU:Hid (w.heap.size+1<w1.heap.size):=(Array.getElem?_eq_some_iff.1 iM).1
 have iM:Hid (w1.heap[w.heap.size+1]? = some aiJ):=iM
 have rW:Hid (W.heap.size<=w1.heap.size):=hb1.size
 have Bg:Hid (∀w',Below w1.heap.size w1 w'->w'.cell? ⟨w.heap.size,1,none⟩=some (.int .i64 s.cu)):=fun w' hb=>(hb.cell (p:=⟨w.heap.size,1,none⟩) hlt1).trans k1
 clear HO HC HR hb1 aC dM
 go_wp2_with fail
 refine hO.mono ?_
 rintro e w2 ⟨u,us,rfl,h2⟩
 clear hO k0 k1 k2 k3 k4 k5 hlt1
 have k1':=Bg.out w2 h2.below
 have hw2:w.heap.size<w2.heap.size:=Nat.lt_of_lt_of_le (Nat.lt_of_succ_lt dU.out) h2.below.size
 have hr2:=(h2.below.block (w.heap.size+1) dU.out).trans iM.out
 have HA2:Hid (gW w1 s u us w2):=h2
 obtain⟨b1,d1,f1⟩:=h2.sts.d.shape
 obtain⟨b2,d2,f2⟩:=h2.sts.n.shape
 obtain⟨b3,d3,f3⟩:=h2.sts.h.shape
 obtain⟨b4,d4,f4⟩:=h2.sts.p.shape
 have Jw:Rcs w2 u.d s.d:=h2.sts.d
 rw[f1]at Jw
 have HU:Hid (u=⟨.slice b1 s.d.length d1,.slice b2 s.n.length d2,.slice b3 s.h.length d3,.slice b4 s.p.length d4⟩):=(by cases u;simp only at f1 f2 f3 f4;rw[f1,f2,f3,f4]:u=⟨.slice b1 s.d.length d1,.slice b2 s.n.length d2,.slice b3 s.h.length d3,.slice b4 s.p.length d4⟩)
 rw[f1,f2,f3,f4]
 clear f1 f2 f3 f4 e1 e2 e3 e4 iM h2 Bg
 have k1:(w2.alloc (.cells #[.int .i64 2,.int .i64 s.cu,.slice b1 s.d.length d1,.slice b2 s.n.length d2,.slice b3 s.h.length d3,.slice b4 s.p.length d4] 41)).cell? ⟨w.heap.size,1,none⟩=some (.int .i64 s.cu):=((aj _).cell (p:=⟨w.heap.size,1,none⟩) hw2).trans k1'
 clear k1' hw2
 have VG:Hid (w1.heap.size<=w2.heap.size):=HA2.out.below.size
 have hl2:w.heap.size+1<w2.heap.size:=(Array.getElem?_eq_some_iff.1 hr2).1
 obtain⟨W3,hW3⟩:∃W3,W3=w2.alloc (.cells #[.int .i64 2,.int .i64 (s.cu+n),.slice b1 s.d.length d1,.slice b2 s.n.length d2,.slice b3 s.h.length d3,.slice b4 s.p.length d4] 41):=⟨_,rfl⟩
 have hr3:W3.heap[w.heap.size+1]? = some aiJ:=by rw[hW3];exact((aj _).block _ hl2).trans hr2
 have hx3:W3.heap[w2.heap.size]? = some (.cells #[.int .i64 2,.int .i64 (s.cu+n),.slice b1 s.d.length d1,.slice b2 s.n.length d2,.slice b3 s.h.length d3,.slice b4 s.p.length d4] 41):=by rw[hW3];exact heap_alloc_new w2 _
 have HB3:Hid (Below w.heap.size w W3):=(by rw[hW3];exact(ah HB1.out HA2.out.below).alloc (ah HB1.out HA2.out.below).size _:Below w.heap.size w W3)
 have fB:Hid (aG w1.heap.size w2.heap.size W3 u us s):=(by rw[hW3];exact HA2.out.own.below (aj _):aG w1.heap.size w2.heap.size W3 u us s)
 have mG:Hid (W3.heap[w2.heap.size]? = some (.cells #[.int .i64 2,.int .i64 (s.cu+n),.slice b1 s.d.length d1,.slice b2 s.n.length d2,.slice b3 s.h.length d3,.slice b4 s.p.length d4] 41)):=hx3
 have HR3:Hid (W3.heap[w.heap.size+1]? = some aiJ):=hr3
 have HW3:Hid _:=hW3.symm
 have hE:=HN.out (.slice b1 s.d.length d1) W3 (by rw[hW3];exact Jw.below (aj _))
 have hU:=HU.out
 subst hU
 have hlx:w2.heap.size<W3.heap.size:=(Array.getElem?_eq_some_iff.1 hx3).1
 have hlr:w.heap.size+1<W3.heap.size:=(Array.getElem?_eq_some_iff.1 hr3).1
 clear hr2 hW3 hr3 hx3 HA2 HU HN Jw
 go_wp2_with fail
 rw[HW3.out]
 clear HW3
 generalize hbx:w2.heap.size=bx at *
 refine hE.mono ?_
 rintro e w4 ⟨z1,z2,rfl,hb4,o4⟩
 clear hE k1
 have hx4:=(hb4.block bx hlx).trans mG.out
 have hr4:=(hb4.block (w.heap.size+1) hlr).trans HR3.out
 have hB4:Below w.heap.size w w4:=ah HB3.out hb4
 obtain⟨⟨-,-,-,v3,-,-⟩,-,-,-,u3,-⟩:=aB hx4
 obtain⟨W4,dO⟩:∃W4,W4=w4.setCell ⟨bx,3,none⟩ (.slice z1 nl.length z2):=⟨_,rfl⟩
 have nR:Hid (w4.setCell ⟨bx,3,none⟩ (.slice z1 nl.length z2)=W4):=dO.symm
 have hx5:W4.heap[bx]? = some (.cells #[.int .i64 2,.int .i64 (s.cu+n),.slice b1 s.d.length d1,.slice z1 nl.length z2,.slice b3 s.h.length d3,.slice b4 s.p.length d4] 41):=by rw[dO];simpa using heap_setCell_same w4 bx 3 _ _ (.slice z1 nl.length z2) hx4
 have yV:W4.heap[w.heap.size+1]? = some aiJ:=by rw[dO];exact(heap_setCell_other w4 ⟨bx,3,none⟩ _ _ (by show w.heap.size+1≠bx;omega)).trans hr4
 have HB4:Hid (Below w.heap.size w W4):=(by rw[dO];exact hB4.setCell (by show w.heap.size<=bx;omega) _:Below w.heap.size w W4)
 have hs4:w4.heap.size=W4.heap.size:=by rw[dO];simp
 have HT:Hid (aG w1.heap.size W4.heap.size W4 ⟨.slice b1 s.d.length d1,.slice z1 nl.length z2,.slice b3 s.h.length d3,.slice b4 s.p.length d4⟩ us ⟨2,(s.cu+n),s.d,nl,s.h,s.p⟩):=(by
  have hs3:=hb4.size
  have ad3:=VG.out
  have hs1:=HB1.out.size
  have O1:=(fB.out.own.below hb4).blocks (w':=W4) fun g hg=>by
   rw[dO]
   exact heap_setCell_other w4 ⟨bx,3,none⟩ g _ (by have:=fB.out.own.hi g hg;show g≠bx;omega)
  have O2:Own W3.heap.size W4.heap.size W4 [nRow (.slice z1 nl.length z2) nl]:=by
   have A:Own W3.heap.size w4.heap.size w4 [nRow (.slice z1 nl.length z2) nl]:=Own.single (r:=nRow (.slice z1 nl.length z2) nl) o4 (Nat.le_refl _)
   rw[←hs4,dO]
   exact A.blocks fun g hg=>heap_setCell_other w4 ⟨bx,3,none⟩ g _ (by have:=A.lo g hg;show g≠bx;omega)
  refine⟨Own.swap (A:=[aI (.slice b1 s.d.length d1) s.d]) (B:=[hRow (.slice b3 s.h.length d3) s.h]++([aV (.slice b4 s.p.length d4) us]++aJ us s.p s.p.length)) (r:=nRow (.slice b2 s.n.length d2) s.n) (r':=nRow (.slice z1 nl.length z2) nl) (O1.wide (Nat.le_refl _) (Nat.le_of_lt hlx)) O2 (by omega) (by omega),fB.out.len⟩:aG w1.heap.size W4.heap.size W4 ⟨.slice b1 s.d.length d1,.slice z1 nl.length z2,.slice b3 s.h.length d3,.slice b4 s.p.length d4⟩ us ⟨2,(s.cu+n),s.d,nl,s.h,s.p⟩)
 obtain⟨⟨q0,q1,q2,q3,q4,q5,q6⟩,g0,g1,g2,g3,g4,g5,g6⟩:=aA yV
 obtain⟨⟨x0,x1,x2,x3,x4,x5⟩,-⟩:=aB hx5
 have hn1:¬w.heap.size+1=bx:=by omega
 have hn2:¬bx=w.heap.size+1:=by omega
 clear dO hx4 hr4 hx5 yV o4 hb4 hB4 mG HR3 fB HB3 hs4
 go_upto_region 9 with fail
 rw[nR.out]
 clear nR v3 u3
 go_wp2
 refine bodyPost_ret (v:= .agg #[.int .i64 0,.int .i64 2,.int .i64 (s.cu+n),.slice b1 s.d.length d1,.slice z1 nl.length z2,.slice b3 s.h.length d3,.slice b4 s.p.length d4]) (by simp[results,Tryz.results100,go_sem,q0,q1,q2,q3,q4,q5,q6]) rfl ⟨⟨.slice b1 s.d.length d1,.slice z1 nl.length z2,.slice b3 s.h.length d3,.slice b4 s.p.length d4⟩,us,rfl, ?_, ?_⟩
 ·exact((((((HB4.out.setCell (Nat.le_succ _) _).setCell (Nat.le_succ _) _).setCell (Nat.le_succ _) _).setCell (Nat.le_succ _) _).setCell (Nat.le_succ _) _).setCell (Nat.le_succ _) _).setCell (Nat.le_succ _) _
 ·have B:=((((((HT.out.setCell ⟨w.heap.size+1,0,none⟩ dU.out (.int .i64 0)).setCell ⟨w.heap.size+1,1,none⟩ dU.out (.int .i64 2)).setCell ⟨w.heap.size+1,2,none⟩ dU.out (.int .i64 (s.cu+n))).setCell ⟨w.heap.size+1,3,none⟩ dU.out (.slice b1 s.d.length d1)).setCell ⟨w.heap.size+1,4,none⟩ dU.out (.slice z1 nl.length z2)).setCell ⟨w.heap.size+1,5,none⟩ dU.out (.slice b3 s.h.length d3)).setCell ⟨w.heap.size+1,6,none⟩ dU.out (.slice b4 s.p.length d4)
  exact B.wide HB1.out.size (by simp)
theorem CY(R:Rt)(hR:bK R)(s:St)(v:Sv)(n:Int)(w:World)(hv:Sts w v s)(hB:StB s)(h:¬cpF R s n=0):
  Calls Tryz.prog 100 #[stV s v,.int .i64 n] w fun e w'=>aQ w (cpF R s n) stZ e w':=by
 obtain⟨W,hW⟩:∃W,W=(w.alloc (stC s v 41)).alloc aiJ:=⟨_,rfl⟩
 have hBW:Below w.heap.size w W:=by rw[hW];exact(aj _).alloc (aj _).size _
 have hH2:W.heap[w.heap.size+1]? = some aiJ:=by
  have:=heap_alloc_new (w.alloc (stC s v 41)) aiJ
  rw[World.size_alloc]at this
  rw[hW]
  exact this
 have hC0:StC W w.heap.size s v:=by rw[hW];exact(StC.new w s v _).below (aj _) (by simp)
 have hF:=qE R hR s v n W (hv.below hBW) hB
 have HR:Hid (∀w',Below W.heap.size W w'->w'.heap[w.heap.size+1]? = some aiJ):=fun w' hb=>(hb.block (w.heap.size+1) (Array.getElem?_eq_some_iff.1 hH2).1).trans hH2
 obtain⟨a1,c1,e1⟩:=hv.d.shape
 obtain⟨a2,c2,e2⟩:=hv.n.shape
 obtain⟨a3,c3,e3⟩:=hv.h.shape
 obtain⟨a4,c4,e4⟩:=hv.p.shape
 unfold stC at hW
 unfold stV at hF ⊢
 rw[e1,e2,e3,e4]at hW hF ⊢
 have HW:Hid _:=hW.symm
 have aC:Hid (Below w.heap.size w W):=hBW
 have hnz:(cpF R s n != 0)=true:=by simpa using h
 generalize cpF R s n=f at *
 clear hv hB hW hR hC0 h hH2 hBW
 go_enter Tryz.func100,Tryz.ntmps100
 go_wp2_with fail
 rw[HW.out]
 refine hF.mono ?_
 rintro e w1 ⟨rfl,hb1⟩
 clear hF HW
 have HB1:Hid (Below w.heap.size w w1):=ah aC.out hb1
 obtain⟨⟨q0,q1,q2,q3,q4,q5,q6⟩,g0,g1,g2,g3,g4,g5,g6⟩:=aA (HR.out w1 hb1)
 clear HR hb1 aC
 go_wp2
 refine bodyPost_ret (v:= .agg #[.int .i64 f,.int .i64 0,.int .i64 0,.slice none 0 0,.slice none 0 0,.slice none 0 0,.slice none 0 0]) (by simp[results,Tryz.results100,go_sem,q0,q1,q2,q3,q4,q5,q6]) rfl ⟨svZ,[],rfl, ?_,kW _ _ _⟩
 exact((((((HB1.out.setCell (Nat.le_succ _) _).setCell (Nat.le_succ _) _).setCell (Nat.le_succ _) _).setCell (Nat.le_succ _) _).setCell (Nat.le_succ _) _).setCell (Nat.le_succ _) _).setCell (Nat.le_succ _) _
theorem CX(R:Rt)(hR:bK R)(s:St)(v:Sv)(n:Int)(w:World)(hv:Sts w v s)(hB:StB s):
  Calls Tryz.prog 100 #[stV s v,.int .i64 n] w fun e w'=>aQ w (cpF R s n) (if cpF R s n=0 then csT s n else stZ) e w':=by
 by_cases h:cpF R s n=0
 ·rw[if_pos h,h]
  obtain⟨h0,hp,hn⟩:=VR h
  unfold csT csP csN
  by_cases hc:256<=s.cu+n
  ·rw[if_pos hc,if_pos hc]
   exact Az R hR s v n w hv hB h hp (fP h0).d (vY h0 hp) (eF hn) hc
  ·rw[if_neg hc,if_neg hc]
   exact AB R hR s v n w hv hB h hp (fP h0).d (vY h0 hp) (eF hn) hc
 ·rw[if_neg h]
  exact CY R hR s v n w hv hB h
end U
end Go.Proofs.YtmmcgjacojgeaaaGreat
