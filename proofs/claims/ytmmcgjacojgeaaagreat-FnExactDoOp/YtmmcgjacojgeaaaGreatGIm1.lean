/- The move started and cut over, by the program. -/
import Derived.Test.YtmmcgjacojgeaaaGreatGZz
import Derived.Deep.Cut
import Derived.Test.YtmmcgjacojgeaaaGreatGBE
import Derived.Test.YtmmcgjacojgeaaaGreatGSt7
set_option maxRecDepth 100000
set_option maxHeartbeats 2000000
namespace Go.Proofs.YtmmcgjacojgeaaaGreat
open Go.RowKit
namespace U
theorem Dj(R:Rt)(hR:bK R)(s:St)(v:Sv)(w:World)(hv:Sts w v s)(hB:StB s)(h:phF R s (s.ph==1||s.ph==5)=0):
  Calls Tryz.prog 99 #[stV s v] w fun e w'=>aQ w 0 ⟨2,s.cu,s.d,s.n,s.h,s.p⟩ e w':=by
 obtain⟨W,hW⟩:∃W,W=((w.alloc (stC s v 41)).alloc aiJ).alloc (.cells #[.int .i64 1,.int .i64 5] 2):=⟨_,rfl⟩
 have hBW:Below w.heap.size w W:=by rw[hW];exact((aj _).alloc (aj _).size _).alloc ((aj _).alloc (aj _).size _).size _
 have hH3:W.heap[w.heap.size+1+1]? = some (.cells #[.int .i64 1,.int .i64 5] 2):=by
  have:=heap_alloc_new ((w.alloc (stC s v 41)).alloc aiJ) (.cells #[.int .i64 1,.int .i64 5] 2)
  simp only[World.size_alloc]at this
  rw[hW]
  exact this
 have hH2:W.heap[w.heap.size+1]? = some aiJ:=by
  have:=heap_alloc_new (w.alloc (stC s v 41)) aiJ
  rw[World.size_alloc]at this
  rw[hW]
  exact((aj _).block (w.heap.size+1) (by simp)).trans this
 have hC0:StC W w.heap.size s v:=by rw[hW];exact((StC.new w s v _).below (aj _) (by simp)).below (aj _) (by simp;omega)
 have hF:=Eu R hR s v (w.heap.size+1+1) 1 5 W (hv.below hBW) hB (Array.getElem?_eq_some_iff.1 hH3).1 (dA hH3).1 (dA hH3).2.1
 rw[h]at hF
 have HO:Hid (∀w',Below w.heap.size w w'->Calls Tryz.prog 33 #[stV s v] w' fun e w''=>∃u us,e = .returned (stV s u)/\gW w' s u us w''):=fun w' hb=>jr s v w' (hv.below hb) hB
 have HC:Hid (∀w',Below W.heap.size W w'->StC w' w.heap.size s v):=fun w' hb=>hC0.below hb hC0.lt
 have HR:Hid (∀w',Below W.heap.size W w'->w'.heap[w.heap.size+1]? = some aiJ):=fun w' hb=>(hb.block (w.heap.size+1) (Array.getElem?_eq_some_iff.1 hH2).1).trans hH2
 obtain⟨a1,c1,e1⟩:=hv.d.shape
 obtain⟨a2,c2,e2⟩:=hv.n.shape
 obtain⟨a3,c3,e3⟩:=hv.h.shape
 obtain⟨a4,c4,e4⟩:=hv.p.shape
 unfold stC at hW
 unfold stV at hF ⊢
 rw[e1,e2,e3,e4]at hW hF ⊢
 have HW:Hid _:=hW.symm
 have aC:Hid (Below w.heap.size w W):=hBW
 have dM:Hid (w.heap.size+1+1<W.heap.size):=(Array.getElem?_eq_some_iff.1 hH3).1
 clear hv hB hW hR hC0 h hH2 hH3 hBW
 go_enter Tryz.func99,Tryz.ntmps99
 go_wp2_with fail
 rw[HW.out]
 refine hF.mono ?_
 rintro e w1 ⟨rfl,hb1⟩
 clear hF HW
 have HB1:Hid (Below w.heap.size w w1):=ah aC.out hb1
 have iM:=HR.out w1 hb1
 obtain⟨hlt1,k0,k1,k2,k3,k4,k5⟩:=HC.out w1 hb1
 rw[e1]at k2
 rw[e2]at k3
 rw[e3]at k4
 rw[e4]at k5
 have hO:=HO.out w1 HB1.out
 unfold stV at hO
 rw[e1,e2,e3,e4]at hO
 have dU:Hid (w.heap.size+1<w1.heap.size):=(Array.getElem?_eq_some_iff.1 iM).1
 have iM:Hid (w1.heap[w.heap.size+1]? = some aiJ):=iM
 have rW:Hid (W.heap.size<=w1.heap.size):=hb1.size
 clear HO HC HR hb1 aC dM
 go_wp2_with fail
 refine hO.mono ?_
 rintro e w2 ⟨u,us,rfl,h2⟩
 clear hO k0 k1 k2 k3 k4 k5 hlt1
 have hr2:=(h2.below.block (w.heap.size+1) dU.out).trans iM.out
 have HA2:Hid (gW w1 s u us w2):=h2
 obtain⟨b1,d1,f1⟩:=h2.sts.d.shape
 obtain⟨b2,d2,f2⟩:=h2.sts.n.shape
 obtain⟨b3,d3,f3⟩:=h2.sts.h.shape
 obtain⟨b4,d4,f4⟩:=h2.sts.p.shape
 have HU:Hid (u=⟨.slice b1 s.d.length d1,.slice b2 s.n.length d2,.slice b3 s.h.length d3,.slice b4 s.p.length d4⟩):=(by cases u;simp only at f1 f2 f3 f4;rw[f1,f2,f3,f4]:u=⟨.slice b1 s.d.length d1,.slice b2 s.n.length d2,.slice b3 s.h.length d3,.slice b4 s.p.length d4⟩)
 rw[f1,f2,f3,f4]
 clear f1 f2 f3 f4 e1 e2 e3 e4 iM h2
 have hl2:w.heap.size+1<w2.heap.size:=(Array.getElem?_eq_some_iff.1 hr2).1
 obtain⟨W3,hW3⟩:∃W3,W3=w2.alloc (.cells #[.int .i64 2,.int .i64 s.cu,.slice b1 s.d.length d1,.slice b2 s.n.length d2,.slice b3 s.h.length d3,.slice b4 s.p.length d4] 41):=⟨_,rfl⟩
 have hr3:W3.heap[w.heap.size+1]? = some aiJ:=by rw[hW3];exact((aj _).block _ hl2).trans hr2
 have hx3:W3.heap[w2.heap.size]? = some (.cells #[.int .i64 2,.int .i64 s.cu,.slice b1 s.d.length d1,.slice b2 s.n.length d2,.slice b3 s.h.length d3,.slice b4 s.p.length d4] 41):=by rw[hW3];exact heap_alloc_new w2 _
 have HB3:Hid (Below w.heap.size w W3):=(by rw[hW3];exact(ah HB1.out HA2.out.below).alloc (ah HB1.out HA2.out.below).size _:Below w.heap.size w W3)
 have fB:Hid (aG w1.heap.size W3.heap.size W3 u us s):=(by rw[hW3];exact(HA2.out.own.below (aj _)).wide (Nat.le_refl _) (aj _).size:aG w1.heap.size W3.heap.size W3 u us s)
 have HW3:Hid _:=hW3.symm
 obtain⟨⟨q0,q1,q2,q3,q4,q5,q6⟩,g0,g1,g2,g3,g4,g5,g6⟩:=aA hr3
 obtain⟨⟨y0,y1,y2,y3,y4,y5⟩,-⟩:=aB hx3
 have hn1:¬w.heap.size+1=w2.heap.size:=by omega
 have hn2:¬w2.heap.size=w.heap.size+1:=by omega
 clear hr2 hW3 hr3 hx3 HA2
 go_upto_region 6 with fail
 rw[HW3.out]
 clear HW3 hl2
 generalize w2.heap.size=bx at *
 clear w2
 go_wp2
 have hU:=HU.out
 subst hU
 refine bodyPost_ret (v:= .agg #[.int .i64 0,.int .i64 2,.int .i64 s.cu,.slice b1 s.d.length d1,.slice b2 s.n.length d2,.slice b3 s.h.length d3,.slice b4 s.p.length d4]) (by simp[results,Tryz.results99,go_sem,q0,q1,q2,q3,q4,q5,q6]) rfl ⟨⟨.slice b1 s.d.length d1,.slice b2 s.n.length d2,.slice b3 s.h.length d3,.slice b4 s.p.length d4⟩,us,rfl, ?_, ?_⟩
 ·exact((((((HB3.out.setCell (Nat.le_succ _) _).setCell (Nat.le_succ _) _).setCell (Nat.le_succ _) _).setCell (Nat.le_succ _) _).setCell (Nat.le_succ _) _).setCell (Nat.le_succ _) _).setCell (Nat.le_succ _) _
 ·have B:=(((((((fB.out.ph 2 s.cu).setCell ⟨w.heap.size+1,0,none⟩ dU.out (.int .i64 0)).setCell ⟨w.heap.size+1,1,none⟩ dU.out (.int .i64 2)).setCell ⟨w.heap.size+1,2,none⟩ dU.out (.int .i64 s.cu)).setCell ⟨w.heap.size+1,3,none⟩ dU.out (.slice b1 s.d.length d1)).setCell ⟨w.heap.size+1,4,none⟩ dU.out (.slice b2 s.n.length d2)).setCell ⟨w.heap.size+1,5,none⟩ dU.out (.slice b3 s.h.length d3)).setCell ⟨w.heap.size+1,6,none⟩ dU.out (.slice b4 s.p.length d4)
  exact B.wide HB1.out.size (by simp)
theorem AP(R:Rt)(hR:bK R)(s:St)(v:Sv)(w:World)(hv:Sts w v s)(hB:StB s)(h:¬phF R s (s.ph==1||s.ph==5)=0):
  Calls Tryz.prog 99 #[stV s v] w fun e w'=>aQ w (phF R s (s.ph==1||s.ph==5)) stZ e w':=by
 obtain⟨W,hW⟩:∃W,W=((w.alloc (stC s v 41)).alloc aiJ).alloc (.cells #[.int .i64 1,.int .i64 5] 2):=⟨_,rfl⟩
 have hBW:Below w.heap.size w W:=by rw[hW];exact((aj _).alloc (aj _).size _).alloc ((aj _).alloc (aj _).size _).size _
 have hH3:W.heap[w.heap.size+1+1]? = some (.cells #[.int .i64 1,.int .i64 5] 2):=by
  have:=heap_alloc_new ((w.alloc (stC s v 41)).alloc aiJ) (.cells #[.int .i64 1,.int .i64 5] 2)
  simp only[World.size_alloc]at this
  rw[hW]
  exact this
 have hH2:W.heap[w.heap.size+1]? = some aiJ:=by
  have:=heap_alloc_new (w.alloc (stC s v 41)) aiJ
  rw[World.size_alloc]at this
  rw[hW]
  exact((aj _).block (w.heap.size+1) (by simp)).trans this
 have hC0:StC W w.heap.size s v:=by rw[hW];exact((StC.new w s v _).below (aj _) (by simp)).below (aj _) (by simp;omega)
 have hF:=Eu R hR s v (w.heap.size+1+1) 1 5 W (hv.below hBW) hB (Array.getElem?_eq_some_iff.1 hH3).1 (dA hH3).1 (dA hH3).2.1
 have HR:Hid (∀w',Below W.heap.size W w'->w'.heap[w.heap.size+1]? = some aiJ):=fun w' hb=>(hb.block (w.heap.size+1) (Array.getElem?_eq_some_iff.1 hH2).1).trans hH2
 obtain⟨a1,c1,e1⟩:=hv.d.shape
 obtain⟨a2,c2,e2⟩:=hv.n.shape
 obtain⟨a3,c3,e3⟩:=hv.h.shape
 obtain⟨a4,c4,e4⟩:=hv.p.shape
 unfold stC at hW
 unfold stV at hF ⊢
 rw[e1,e2,e3,e4]at hW hF ⊢
 have HW:Hid _:=hW.symm
 have aC:Hid (Below w.heap.size w W):=hBW
 have hnz:(phF R s (s.ph==1||s.ph==5) != 0)=true:=by simpa using h
 generalize phF R s (s.ph==1||s.ph==5)=f at *
 clear hv hB hW hR hC0 h hH2 hH3 hBW
 go_enter Tryz.func99,Tryz.ntmps99
 go_wp2_with fail
 rw[HW.out]
 refine hF.mono ?_
 rintro e w1 ⟨rfl,hb1⟩
 clear hF HW
 have HB1:Hid (Below w.heap.size w w1):=ah aC.out hb1
 obtain⟨⟨q0,q1,q2,q3,q4,q5,q6⟩,g0,g1,g2,g3,g4,g5,g6⟩:=aA (HR.out w1 hb1)
 clear HR hb1 aC
 go_wp2
 refine bodyPost_ret (v:= .agg #[.int .i64 f,.int .i64 0,.int .i64 0,.slice none 0 0,.slice none 0 0,.slice none 0 0,.slice none 0 0]) (by simp[results,Tryz.results99,go_sem,q0,q1,q2,q3,q4,q5,q6]) rfl ⟨svZ,[],rfl, ?_,kW _ _ _⟩
 exact((((((HB1.out.setCell (Nat.le_succ _) _).setCell (Nat.le_succ _) _).setCell (Nat.le_succ _) _).setCell (Nat.le_succ _) _).setCell (Nat.le_succ _) _).setCell (Nat.le_succ _) _).setCell (Nat.le_succ _) _
theorem AO(R:Rt)(hR:bK R)(s:St)(v:Sv)(w:World)(hv:Sts w v s)(hB:StB s):
  Calls Tryz.prog 99 #[stV s v] w fun e w'=>aQ w (phF R s (s.ph==1||s.ph==5)) (if phF R s (s.ph==1||s.ph==5)=0 then⟨2,s.cu,s.d,s.n,s.h,s.p⟩else stZ) e w':=by
 by_cases h:phF R s (s.ph==1||s.ph==5)=0
 ·rw[if_pos h,h]
  exact Dj R hR s v w hv hB h
 ·rw[if_neg h]
  exact AP R hR s v w hv hB h
theorem FH(R:Rt)(hR:bK R)(s:St)(v:Sv)(w:World)(hv:Sts w v s)(hB:StB s)(h:phF R s (s.ph==3)=0):
  Calls Tryz.prog 102 #[stV s v] w fun e w'=>aQ w 0 ⟨4,s.cu,s.d,s.n,s.h,s.p⟩ e w':=by
 obtain⟨W,hW⟩:∃W,W=((w.alloc (stC s v 41)).alloc aiJ).alloc (.cells #[.int .i64 3] 2):=⟨_,rfl⟩
 have hBW:Below w.heap.size w W:=by rw[hW];exact((aj _).alloc (aj _).size _).alloc ((aj _).alloc (aj _).size _).size _
 have hH3:W.heap[w.heap.size+1+1]? = some (.cells #[.int .i64 3] 2):=by
  have:=heap_alloc_new ((w.alloc (stC s v 41)).alloc aiJ) (.cells #[.int .i64 3] 2)
  simp only[World.size_alloc]at this
  rw[hW]
  exact this
 have hH2:W.heap[w.heap.size+1]? = some aiJ:=by
  have:=heap_alloc_new (w.alloc (stC s v 41)) aiJ
  rw[World.size_alloc]at this
  rw[hW]
  exact((aj _).block (w.heap.size+1) (by simp)).trans this
 have hC0:StC W w.heap.size s v:=by rw[hW];exact((StC.new w s v _).below (aj _) (by simp)).below (aj _) (by simp;omega)
 have hF:=phase1 R hR s v (w.heap.size+1+1) 3 W (hv.below hBW) hB (Array.getElem?_eq_some_iff.1 hH3).1 (nJ hH3)
 rw[h]at hF
 have HO:Hid (∀w',Below w.heap.size w w'->Calls Tryz.prog 33 #[stV s v] w' fun e w''=>∃u us,e = .returned (stV s u)/\gW w' s u us w''):=fun w' hb=>jr s v w' (hv.below hb) hB
 have HC:Hid (∀w',Below W.heap.size W w'->StC w' w.heap.size s v):=fun w' hb=>hC0.below hb hC0.lt
 have HR:Hid (∀w',Below W.heap.size W w'->w'.heap[w.heap.size+1]? = some aiJ):=fun w' hb=>(hb.block (w.heap.size+1) (Array.getElem?_eq_some_iff.1 hH2).1).trans hH2
 obtain⟨a1,c1,e1⟩:=hv.d.shape
 obtain⟨a2,c2,e2⟩:=hv.n.shape
 obtain⟨a3,c3,e3⟩:=hv.h.shape
 obtain⟨a4,c4,e4⟩:=hv.p.shape
 unfold stC at hW
 unfold stV at hF ⊢
 rw[e1,e2,e3,e4]at hW hF ⊢
 have HW:Hid _:=hW.symm
 have aC:Hid (Below w.heap.size w W):=hBW
 have dM:Hid (w.heap.size+1+1<W.heap.size):=(Array.getElem?_eq_some_iff.1 hH3).1
 clear hv hB hW hR hC0 h hH2 hH3 hBW
 go_enter Tryz.func102,Tryz.ntmps102
 go_wp2_with fail
 rw[HW.out]
 refine hF.mono ?_
 rintro e w1 ⟨rfl,hb1⟩
 clear hF HW
 have HB1:Hid (Below w.heap.size w w1):=ah aC.out hb1
 have iM:=HR.out w1 hb1
 obtain⟨hlt1,k0,k1,k2,k3,k4,k5⟩:=HC.out w1 hb1
 rw[e1]at k2
 rw[e2]at k3
 rw[e3]at k4
 rw[e4]at k5
 have hO:=HO.out w1 HB1.out
 unfold stV at hO
 rw[e1,e2,e3,e4]at hO
 have dU:Hid (w.heap.size+1<w1.heap.size):=(Array.getElem?_eq_some_iff.1 iM).1
 have iM:Hid (w1.heap[w.heap.size+1]? = some aiJ):=iM
 have rW:Hid (W.heap.size<=w1.heap.size):=hb1.size
 clear HO HC HR hb1 aC dM
 go_wp2_with fail
 refine hO.mono ?_
 rintro e w2 ⟨u,us,rfl,h2⟩
 clear hO k0 k1 k2 k3 k4 k5 hlt1
 have hr2:=(h2.below.block (w.heap.size+1) dU.out).trans iM.out
 have HA2:Hid (gW w1 s u us w2):=h2
 obtain⟨b1,d1,f1⟩:=h2.sts.d.shape
 obtain⟨b2,d2,f2⟩:=h2.sts.n.shape
 obtain⟨b3,d3,f3⟩:=h2.sts.h.shape
 obtain⟨b4,d4,f4⟩:=h2.sts.p.shape
 have HU:Hid (u=⟨.slice b1 s.d.length d1,.slice b2 s.n.length d2,.slice b3 s.h.length d3,.slice b4 s.p.length d4⟩):=(by cases u;simp only at f1 f2 f3 f4;rw[f1,f2,f3,f4]:u=⟨.slice b1 s.d.length d1,.slice b2 s.n.length d2,.slice b3 s.h.length d3,.slice b4 s.p.length d4⟩)
 rw[f1,f2,f3,f4]
 clear f1 f2 f3 f4 e1 e2 e3 e4 iM h2
 have hl2:w.heap.size+1<w2.heap.size:=(Array.getElem?_eq_some_iff.1 hr2).1
 obtain⟨W3,hW3⟩:∃W3,W3=w2.alloc (.cells #[.int .i64 4,.int .i64 s.cu,.slice b1 s.d.length d1,.slice b2 s.n.length d2,.slice b3 s.h.length d3,.slice b4 s.p.length d4] 41):=⟨_,rfl⟩
 have hr3:W3.heap[w.heap.size+1]? = some aiJ:=by rw[hW3];exact((aj _).block _ hl2).trans hr2
 have hx3:W3.heap[w2.heap.size]? = some (.cells #[.int .i64 4,.int .i64 s.cu,.slice b1 s.d.length d1,.slice b2 s.n.length d2,.slice b3 s.h.length d3,.slice b4 s.p.length d4] 41):=by rw[hW3];exact heap_alloc_new w2 _
 have HB3:Hid (Below w.heap.size w W3):=(by rw[hW3];exact(ah HB1.out HA2.out.below).alloc (ah HB1.out HA2.out.below).size _:Below w.heap.size w W3)
 have fB:Hid (aG w1.heap.size W3.heap.size W3 u us s):=(by rw[hW3];exact(HA2.out.own.below (aj _)).wide (Nat.le_refl _) (aj _).size:aG w1.heap.size W3.heap.size W3 u us s)
 have HW3:Hid _:=hW3.symm
 obtain⟨⟨q0,q1,q2,q3,q4,q5,q6⟩,g0,g1,g2,g3,g4,g5,g6⟩:=aA hr3
 obtain⟨⟨y0,y1,y2,y3,y4,y5⟩,-⟩:=aB hx3
 have hn1:¬w.heap.size+1=w2.heap.size:=by omega
 have hn2:¬w2.heap.size=w.heap.size+1:=by omega
 clear hr2 hW3 hr3 hx3 HA2
 go_upto_region 6 with fail
 rw[HW3.out]
 clear HW3 hl2
 generalize w2.heap.size=bx at *
 clear w2
 go_wp2
 have hU:=HU.out
 subst hU
 refine bodyPost_ret (v:= .agg #[.int .i64 0,.int .i64 4,.int .i64 s.cu,.slice b1 s.d.length d1,.slice b2 s.n.length d2,.slice b3 s.h.length d3,.slice b4 s.p.length d4]) (by simp[results,Tryz.results102,go_sem,q0,q1,q2,q3,q4,q5,q6]) rfl ⟨⟨.slice b1 s.d.length d1,.slice b2 s.n.length d2,.slice b3 s.h.length d3,.slice b4 s.p.length d4⟩,us,rfl, ?_, ?_⟩
 ·exact((((((HB3.out.setCell (Nat.le_succ _) _).setCell (Nat.le_succ _) _).setCell (Nat.le_succ _) _).setCell (Nat.le_succ _) _).setCell (Nat.le_succ _) _).setCell (Nat.le_succ _) _).setCell (Nat.le_succ _) _
 ·have B:=(((((((fB.out.ph 4 s.cu).setCell ⟨w.heap.size+1,0,none⟩ dU.out (.int .i64 0)).setCell ⟨w.heap.size+1,1,none⟩ dU.out (.int .i64 4)).setCell ⟨w.heap.size+1,2,none⟩ dU.out (.int .i64 s.cu)).setCell ⟨w.heap.size+1,3,none⟩ dU.out (.slice b1 s.d.length d1)).setCell ⟨w.heap.size+1,4,none⟩ dU.out (.slice b2 s.n.length d2)).setCell ⟨w.heap.size+1,5,none⟩ dU.out (.slice b3 s.h.length d3)).setCell ⟨w.heap.size+1,6,none⟩ dU.out (.slice b4 s.p.length d4)
  exact B.wide HB1.out.size (by simp)
theorem D8(R:Rt)(hR:bK R)(s:St)(v:Sv)(w:World)(hv:Sts w v s)(hB:StB s)(h:¬phF R s (s.ph==3)=0):
  Calls Tryz.prog 102 #[stV s v] w fun e w'=>aQ w (phF R s (s.ph==3)) stZ e w':=by
 obtain⟨W,hW⟩:∃W,W=((w.alloc (stC s v 41)).alloc aiJ).alloc (.cells #[.int .i64 3] 2):=⟨_,rfl⟩
 have hBW:Below w.heap.size w W:=by rw[hW];exact((aj _).alloc (aj _).size _).alloc ((aj _).alloc (aj _).size _).size _
 have hH3:W.heap[w.heap.size+1+1]? = some (.cells #[.int .i64 3] 2):=by
  have:=heap_alloc_new ((w.alloc (stC s v 41)).alloc aiJ) (.cells #[.int .i64 3] 2)
  simp only[World.size_alloc]at this
  rw[hW]
  exact this
 have hH2:W.heap[w.heap.size+1]? = some aiJ:=by
  have:=heap_alloc_new (w.alloc (stC s v 41)) aiJ
  rw[World.size_alloc]at this
  rw[hW]
  exact((aj _).block (w.heap.size+1) (by simp)).trans this
 have hC0:StC W w.heap.size s v:=by rw[hW];exact((StC.new w s v _).below (aj _) (by simp)).below (aj _) (by simp;omega)
 have hF:=phase1 R hR s v (w.heap.size+1+1) 3 W (hv.below hBW) hB (Array.getElem?_eq_some_iff.1 hH3).1 (nJ hH3)
 have HR:Hid (∀w',Below W.heap.size W w'->w'.heap[w.heap.size+1]? = some aiJ):=fun w' hb=>(hb.block (w.heap.size+1) (Array.getElem?_eq_some_iff.1 hH2).1).trans hH2
 obtain⟨a1,c1,e1⟩:=hv.d.shape
 obtain⟨a2,c2,e2⟩:=hv.n.shape
 obtain⟨a3,c3,e3⟩:=hv.h.shape
 obtain⟨a4,c4,e4⟩:=hv.p.shape
 unfold stC at hW
 unfold stV at hF ⊢
 rw[e1,e2,e3,e4]at hW hF ⊢
 have HW:Hid _:=hW.symm
 have aC:Hid (Below w.heap.size w W):=hBW
 have hnz:(phF R s (s.ph==3) != 0)=true:=by simpa using h
 generalize phF R s (s.ph==3)=f at *
 clear hv hB hW hR hC0 h hH2 hH3 hBW
 go_enter Tryz.func102,Tryz.ntmps102
 go_wp2_with fail
 rw[HW.out]
 refine hF.mono ?_
 rintro e w1 ⟨rfl,hb1⟩
 clear hF HW
 have HB1:Hid (Below w.heap.size w w1):=ah aC.out hb1
 obtain⟨⟨q0,q1,q2,q3,q4,q5,q6⟩,g0,g1,g2,g3,g4,g5,g6⟩:=aA (HR.out w1 hb1)
 clear HR hb1 aC
 go_wp2
 refine bodyPost_ret (v:= .agg #[.int .i64 f,.int .i64 0,.int .i64 0,.slice none 0 0,.slice none 0 0,.slice none 0 0,.slice none 0 0]) (by simp[results,Tryz.results102,go_sem,q0,q1,q2,q3,q4,q5,q6]) rfl ⟨svZ,[],rfl, ?_,kW _ _ _⟩
 exact((((((HB1.out.setCell (Nat.le_succ _) _).setCell (Nat.le_succ _) _).setCell (Nat.le_succ _) _).setCell (Nat.le_succ _) _).setCell (Nat.le_succ _) _).setCell (Nat.le_succ _) _).setCell (Nat.le_succ _) _
theorem D7(R:Rt)(hR:bK R)(s:St)(v:Sv)(w:World)(hv:Sts w v s)(hB:StB s):
  Calls Tryz.prog 102 #[stV s v] w fun e w'=>aQ w (phF R s (s.ph==3)) (if phF R s (s.ph==3)=0 then⟨4,s.cu,s.d,s.n,s.h,s.p⟩else stZ) e w':=by
 by_cases h:phF R s (s.ph==3)=0
 ·rw[if_pos h,h]
  exact FH R hR s v w hv hB h
 ·rw[if_neg h]
  exact D8 R hR s v w hv hB h
end U
end Go.Proofs.YtmmcgjacojgeaaaGreat
