/- An epoch closed, by the program. -/
import Derived.Test.YtmmcgjacojgeaaaGreatGZz
import Derived.Deep.Cut
import Derived.Test.YtmmcgjacojgeaaaGreatGBE
import Derived.Test.YtmmcgjacojgeaaaGreatGClM
import Derived.Test.YtmmcgjacojgeaaaGreatGBC
set_option maxRecDepth 100000
set_option maxHeartbeats 4000000
namespace Go.Proofs.YtmmcgjacojgeaaaGreat
open Go.RowKit Go.Maps
namespace U
theorem aan(c e p o n v:Int)(w:World):(Instr.field 172 (.agg #[.int .i64 c,.int .i64 e,.int .i64 p,.int .i64 o,.int .i64 n,.int .i64 v]) 1).run Tryz.prog w = .ok (.agg #[.int .i64 e,.int .i64 p,.int .i64 o,.int .i64 n,.int .i64 v]) w:=by kernel_rfl
theorem rQ{w w1:World}{lo b:Nat}{u:Sv}{us:List Value}{t:St}(h:aG lo w1.heap.size w1 u us t)(hB:Below w.heap.size w w1)(hb:w.heap.size<=b)(hlo:b<lo)(x0 x1 x2 x3 x4 x5 x6:Value):
  Below w.heap.size w (((((((w1.setCell ⟨b,0,none⟩ x0).setCell ⟨b,1,none⟩ x1).setCell ⟨b,2,none⟩ x2).setCell ⟨b,3,none⟩ x3).setCell ⟨b,4,none⟩ x4).setCell ⟨b,5,none⟩ x5).setCell ⟨b,6,none⟩ x6)/\aG w.heap.size (((((((w1.setCell ⟨b,0,none⟩ x0).setCell ⟨b,1,none⟩ x1).setCell ⟨b,2,none⟩ x2).setCell ⟨b,3,none⟩ x3).setCell ⟨b,4,none⟩ x4).setCell ⟨b,5,none⟩ x5).setCell ⟨b,6,none⟩ x6).heap.size (((((((w1.setCell ⟨b,0,none⟩ x0).setCell ⟨b,1,none⟩ x1).setCell ⟨b,2,none⟩ x2).setCell ⟨b,3,none⟩ x3).setCell ⟨b,4,none⟩ x4).setCell ⟨b,5,none⟩ x5).setCell ⟨b,6,none⟩ x6) u us t:=by
 refine⟨((((((hB.setCell hb _).setCell hb _).setCell hb _).setCell hb _).setCell hb _).setCell hb _).setCell hb _, ?_⟩
 have B:=((((((h.setCell ⟨b,0,none⟩ hlo x0).setCell ⟨b,1,none⟩ hlo x1).setCell ⟨b,2,none⟩ hlo x2).setCell ⟨b,3,none⟩ hlo x3).setCell ⟨b,4,none⟩ hlo x4).setCell ⟨b,5,none⟩ hlo x5).setCell ⟨b,6,none⟩ hlo x6
 exact B.wide (by omega) (by simp)
theorem y7(R:Rt)(hR:bK R)(s:St)(v:Sv)(w:World)(hv:Sts w v s)(hB:StB s)(h:¬stF R s=0):
  Calls Tryz.prog 103 #[stV s v] w fun e w'=>aQ w (stF R s) stZ e w':=by
 obtain⟨W,hW⟩:∃W,W=(w.alloc (stC s v 41)).alloc aiJ:=⟨_,rfl⟩
 have hBW:Below w.heap.size w W:=by rw[hW];exact(aj _).alloc (aj _).size _
 have hH2:W.heap[w.heap.size+1]? = some aiJ:=by
  have:=heap_alloc_new (w.alloc (stC s v 41)) aiJ
  rw[World.size_alloc]at this
  rw[hW]
  exact this
 have hC0:StC W w.heap.size s v:=by rw[hW];exact(StC.new w s v _).below (aj _) (by simp)
 have hF:=dH R hR s v W (hv.below hBW) hB
 obtain⟨a1,c1,e1⟩:=hv.d.shape
 obtain⟨a2,c2,e2⟩:=hv.n.shape
 obtain⟨a3,c3,e3⟩:=hv.h.shape
 obtain⟨a4,c4,e4⟩:=hv.p.shape
 unfold stC at hW
 unfold stV at hF ⊢
 rw[e1,e2,e3,e4]at hW hF ⊢
 have HW:Hid _:=hW.symm
 have aC:Hid (Below w.heap.size w W):=hBW
 have HR:Hid (∀w',Below W.heap.size W w'->w'.heap[w.heap.size+1]? = some aiJ):=fun w' hb=>(hb.block (w.heap.size+1) (Array.getElem?_eq_some_iff.1 hH2).1).trans hH2
 have hnz:(stF R s != 0)=true:=by simpa using h
 generalize stF R s=f at *
 clear hv hB hW hR hC0 h hH2 hBW
 go_enter Tryz.func103,Tryz.ntmps103
 go_wp2_with fail
 rw[HW.out]
 refine hF.mono ?_
 rintro e w1 ⟨rfl,hb1⟩
 clear hF HW
 have HB1:Hid (Below w.heap.size w w1):=ah aC.out hb1
 obtain⟨⟨q0,q1,q2,q3,q4,q5,q6⟩,g0,g1,g2,g3,g4,g5,g6⟩:=aA (HR.out w1 hb1)
 clear HR hb1 aC
 go_wp2
 refine bodyPost_ret (v:= .agg #[.int .i64 f,.int .i64 0,.int .i64 0,.slice none 0 0,.slice none 0 0,.slice none 0 0,.slice none 0 0]) (by simp[results,Tryz.results103,go_sem,q0,q1,q2,q3,q4,q5,q6]) rfl ⟨svZ,[],rfl, ?_,kW _ _ _⟩
 exact((((((HB1.out.setCell (Nat.le_succ _) _).setCell (Nat.le_succ _) _).setCell (Nat.le_succ _) _).setCell (Nat.le_succ _) _).setCell (Nat.le_succ _) _).setCell (Nat.le_succ _) _).setCell (Nat.le_succ _) _
theorem xK(R:Rt)(hR:bK R)(s:St)(v:Sv)(w:World)(hv:Sts w v s)(hB:StB s)(h:stF R s=0)(h1:s.h.length=10):
  Calls Tryz.prog 103 #[stV s v] w fun e w'=>aQ w 11 stZ e w':=by
 obtain⟨W,hW⟩:∃W,W=(w.alloc (stC s v 41)).alloc aiJ:=⟨_,rfl⟩
 have hBW:Below w.heap.size w W:=by rw[hW];exact(aj _).alloc (aj _).size _
 have hH2:W.heap[w.heap.size+1]? = some aiJ:=by
  have:=heap_alloc_new (w.alloc (stC s v 41)) aiJ
  rw[World.size_alloc]at this
  rw[hW]
  exact this
 have hC0:StC W w.heap.size s v:=by rw[hW];exact(StC.new w s v _).below (aj _) (by simp)
 have hF:=dH R hR s v W (hv.below hBW) hB
 rw[h]at hF
 have HC:Hid (∀w',Below W.heap.size W w'->StC w' w.heap.size s v):=fun w' hb=>hC0.below hb hC0.lt
 obtain⟨a1,c1,e1⟩:=hv.d.shape
 obtain⟨a2,c2,e2⟩:=hv.n.shape
 obtain⟨a3,c3,e3⟩:=hv.h.shape
 obtain⟨a4,c4,e4⟩:=hv.p.shape
 unfold stC at hW
 unfold stV at hF ⊢
 rw[e1,e2,e3,e4]at hW hF ⊢
 have HW:Hid _:=hW.symm
 have aC:Hid (Below w.heap.size w W):=hBW
 have HR:Hid (∀w',Below W.heap.size W w'->w'.heap[w.heap.size+1]? = some aiJ):=fun w' hb=>(hb.block (w.heap.size+1) (Array.getElem?_eq_some_iff.1 hH2).1).trans hH2
 rw[h1]at hF e3 HW
 rw[h1]
 clear hv hB hW hR hC0 h hH2 hBW
 go_enter Tryz.func103,Tryz.ntmps103
 go_wp2_with fail
 rw[HW.out]
 refine hF.mono ?_
 rintro e w1 ⟨rfl,hb1⟩
 clear hF HW
 have HB1:Hid (Below w.heap.size w w1):=ah aC.out hb1
 obtain⟨-,-,-,-,-,k4,-⟩:=HC.out w1 hb1
 rw[e3]at k4
 obtain⟨⟨q0,q1,q2,q3,q4,q5,q6⟩,g0,g1,g2,g3,g4,g5,g6⟩:=aA (HR.out w1 hb1)
 clear HR hb1 aC HC
 go_wp2
 refine bodyPost_ret (v:= .agg #[.int .i64 11,.int .i64 0,.int .i64 0,.slice none 0 0,.slice none 0 0,.slice none 0 0,.slice none 0 0]) (by simp[results,Tryz.results103,go_sem,q0,q1,q2,q3,q4,q5,q6]) rfl ⟨svZ,[],rfl, ?_,kW _ _ _⟩
 exact((((((HB1.out.setCell (Nat.le_succ _) _).setCell (Nat.le_succ _) _).setCell (Nat.le_succ _) _).setCell (Nat.le_succ _) _).setCell (Nat.le_succ _) _).setCell (Nat.le_succ _) _).setCell (Nat.le_succ _) _
theorem Aw(R:Rt)(hR:bK R)(s:St)(v:Sv)(w:World)(hv:Sts w v s)(hB:StB s)(h:stF R s=0)(h1:¬s.h.length=10):
  Calls Tryz.prog 103 #[stV s v] w fun e w'=>aQ w 0 (clT R s) e w':=by
 obtain⟨W,hW⟩:∃W,W=(w.alloc (stC s v 41)).alloc aiJ:=⟨_,rfl⟩
 have hBW:Below w.heap.size w W:=by rw[hW];exact(aj _).alloc (aj _).size _
 have hH2:W.heap[w.heap.size+1]? = some aiJ:=by
  have:=heap_alloc_new (w.alloc (stC s v 41)) aiJ
  rw[World.size_alloc]at this
  rw[hW]
  exact this
 have hC0:StC W w.heap.size s v:=by rw[hW];exact(StC.new w s v _).below (aj _) (by simp)
 have hF:=dH R hR s v W (hv.below hBW) hB
 rw[h]at hF
 have hok:=fP h
 have hlen:=uF h
 have Ua:=hR (dh s.d) (sF (cO hok.d))
 have HO:Hid (∀w',Below w.heap.size w w'->Calls Tryz.prog 33 #[stV s v] w' fun e w''=>∃u us,e = .returned (stV s u)/\gW w' s u us w''):=fun w' hb=>jr s v w' (hv.below hb) hB
 have HC:Hid (∀w',Below W.heap.size W w'->StC w' w.heap.size s v):=fun w' hb=>hC0.below hb hC0.lt
 have ZF:Hid (∀w',Below w.heap.size w w'->Calls Tryz.prog 67 #[v.h] w' fun e w''=>e = .returned (.tuple #[.int .i64 (phL s.h),.int .i64 (smL s.h)])/\Below w'.heap.size w' w''):=fun w' hb=>sD v.h s.h w' (hv.h.below hb) (lX (lZ hok.his).1).2 hB.h
 have Bf:Hid (∀w',Below w.heap.size w w'->Calls Tryz.prog 115 #[.agg #[v.d],.int .i64 ((s.h.length:Int)+1),.int .i64 s.ph,.int .i64 (smL s.h)] w' fun x w''=>x = .returned (hrV 0 (clH R s).e (clH R s).p (clH R s).o (clH R s).n (clH R s).v)/\Below w'.heap.size w' w''):=fun w' hb=>vK v.d s.d _ _ _ _ _ w' (hv.d.below hb) hB.dl (by have:=hB.d;omega) hok.d (aag h h1) Ua
 have mV:Hid (∀w',Below w.heap.size w w'->Calls Tryz.prog 77 #[.agg #[v.d]] w' fun e w''=>∃a c,e = .returned (.agg #[.slice a s.d.length c])/\Below w'.heap.size w' w''/\w''.ownsRow w'.heap.size 46 4 (.slice a s.d.length c) s.d.length (flR s.d)):=fun w' hb=>ng v.d s.d w' (hv.d.below hb) hB.dl hB.d
 have HT:Hid (∀(u:Sv)(us:List Value)(w':World),Below w.heap.size w w'->aG w.heap.size w'.heap.size w' u us (clT R s)->aQ w 0 (clT R s) (.returned (srV 0 (clT R s) u)) w'):=fun u us w' hb ho=>⟨u,us,rfl,hb,ho⟩
 obtain⟨a1,c1,e1⟩:=hv.d.shape
 obtain⟨a2,c2,e2⟩:=hv.n.shape
 obtain⟨a3,c3,e3⟩:=hv.h.shape
 obtain⟨a4,c4,e4⟩:=hv.p.shape
 unfold stC at hW
 unfold stV at hF ⊢
 rw[e1,e2,e3,e4]at hW hF ⊢
 have HW:Hid _:=hW.symm
 have aC:Hid (Below w.heap.size w W):=hBW
 have HR:Hid (∀w',Below W.heap.size W w'->w'.heap[w.heap.size+1]? = some aiJ):=fun w' hb=>(hb.block (w.heap.size+1) (Array.getElem?_eq_some_iff.1 hH2).1).trans hH2
 have QF:¬((s.h.length:Nat):Int)=10:=by omega
 have hwr:IntKind.i64.wrap (((s.h.length:Nat):Int)+1)=((s.h.length:Nat):Int)+1:=by rw[IntKind.wrap_i64];omega
 obtain⟨x,hx⟩:∃x,x=clH R s:=⟨_,rfl⟩
 have SY:Hid (x=clH R s):=hx
 rw[←hx]at Bf
 unfold hrV at Bf
 have hpl:=hB.p
 have dM:Hid (w.heap.size+1<W.heap.size):=(Array.getElem?_eq_some_iff.1 hH2).1
 obtain⟨-,k0,k1,k2,k3,k4,k5⟩:=hC0
 have q2:=After.cell k2
 have adZ:=After.ne W
 rw[e1]at q2
 have hp0:Hid (s.h.length<=10):=hlen
 rw[e1]at Bf mV
 rw[e3]at ZF
 clear hv hB hW hR h hH2 hBW hok Ua hx k0 k1 k2 k3 k4 k5 hlen h1
 go_enter Tryz.func103,Tryz.ntmps103
 go_wp2_with fail
 rw[HW.out]
 refine hF.mono ?_
 rintro e w1 ⟨rfl,hb1⟩
 clear hF HW
 have HB1:Hid (Below w.heap.size w w1):=ah aC.out hb1
 obtain⟨-,k0,k1,k2,k3,k4,k5⟩:=HC.out w1 hb1
 rw[e1]at k2
 rw[e2]at k3
 rw[e3]at k4
 rw[e4]at k5
 have hO:=HO.out w1 HB1.out
 unfold stV at hO
 rw[e1,e2,e3,e4]at hO
 have HW1:Hid (Below W.heap.size W w1):=hb1
 clear HO hb1
 go_wp2_with fail
 refine hO.mono ?_
 rintro e w2 ⟨u,us,rfl,h2⟩
 clear hO k0 k1 k2 k3 k4 k5
 have HA2:Hid (gW w1 s u us w2):=h2
 obtain⟨b1,d1,f1⟩:=h2.sts.d.shape
 obtain⟨b2,d2,f2⟩:=h2.sts.n.shape
 obtain⟨b3,d3,f3⟩:=h2.sts.h.shape
 obtain⟨b4,d4,f4⟩:=h2.sts.p.shape
 have hU:u=⟨.slice b1 s.d.length d1,.slice b2 s.n.length d2,.slice b3 s.h.length d3,.slice b4 s.p.length d4⟩:=(by cases u;simp only at f1 f2 f3 f4;rw[f1,f2,f3,f4])
 rw[f1,f2,f3,f4]
 subst hU
 clear f1 f2 f3 f4 h2
 obtain⟨W3,hW3⟩:∃W3,W3=w2.alloc (.cells #[.int .i64 s.ph,.int .i64 s.cu,.slice b1 s.d.length d1,.slice b2 s.n.length d2,.slice b3 s.h.length d3,.slice b4 s.p.length d4] 41):=⟨_,rfl⟩
 have mG:Bxd w1.heap.size W3 w2.heap.size s.ph s.cu ⟨.slice b1 s.d.length d1,.slice b2 s.n.length d2,.slice b3 s.h.length d3,.slice b4 s.p.length d4⟩ us s:=by rw[hW3];exact Bxd.new HA2.out.own HA2.out.below.size (Nat.le_refl _) s.ph s.cu
 have HW3:Hid _:=hW3.symm
 have hb3:Below W.heap.size W W3:=by rw[hW3];exact ah (ah HW1.out HA2.out.below) (aj _)
 have bf:Hid (w.heap.size+1<w1.heap.size):=Nat.lt_of_lt_of_le dM.out HW1.out.size
 have E5:Hid (W.heap.size<=w1.heap.size):=HW1.out.size
 have qW:Hid (w1.heap.size<=w2.heap.size):=HA2.out.below.size
 obtain⟨-,k0,k1,k2,k3,k4,k5⟩:=HC.out W3 hb3
 rw[e3]at k4
 have uq:=ZF.out W3 (ah aC.out hb3)
 clear hW3 HA2 HW1
 go_upto_region 7 with fail
 rw[HW3.out]
 clear HW3
 generalize w2.heap.size=bx at *
 clear w2
 go_wp2_with fail
 refine uq.mono ?_
 rintro e w4 ⟨rfl,hb4⟩
 clear uq k0 k1 k2 k3 k4 k5
 have Qx:=ah hb3 hb4
 have vG:=mG.below hb4
 obtain⟨-,k0,k1,k2,k3,k4,k5⟩:=HC.out w4 Qx
 rw[e1]at k2
 rw[e3]at k4
 have uy:=Bf.out w4 (ah aC.out Qx)
 clear mG hb3 hb4
 go_wp2_with fail
 refine uy.mono ?_
 rintro e w5 ⟨rfl,hb5⟩
 have hfr:=fun w=>aan 0 x.e x.p x.o x.n x.v w
 obtain⟨W6,XQ⟩:∃W6,W6=w5.alloc (.cells #[.int .i64 x.e,.int .i64 x.p,.int .i64 x.o,.int .i64 x.n,.int .i64 x.v] 114):=⟨_,rfl⟩
 have HW6:Hid _:=XQ.symm
 have sO:Below w5.heap.size w5 W6:=by rw[XQ];exact aj _
 have hc6:W6.heap[w5.heap.size]? = some (.cells #[.int .i64 x.e,.int .i64 x.p,.int .i64 x.o,.int .i64 x.n,.int .i64 x.v] 114):=by rw[XQ];exact heap_alloc_new w5 _
 have IQ:=(vG.below hb5).below sO
 have Qy:=ah (ah Qx hb5) sO
 obtain⟨p0,p1,p2,p3,p4⟩:=pW hc6
 obtain⟨y0,y1,y2,y3,y4,y5⟩:=IQ.cells.1
 dsimp only at y0 y1 y2 y3 y4 y5
 clear XQ uy k0 k1 k2 k3 k4 k5 vG Qx hb5 sO hc6
 go_upto_region 9 with fail
 rw[HW6.out]
 clear HW6 hfr
 obtain⟨lo,hlo⟩:∃lo,lo=w1.heap.size:=⟨_,rfl⟩
 rw[←hlo]at IQ bf E5 qW
 clear hlo
 generalize w5.heap.size=bh at *
 obtain⟨i0,hi,hz0,hz1,hz2⟩:=info_parts Tryz.vN
 have ZN:Hid (W6.ownsRow lo 114 5 (.slice b3 s.h.length d3) s.h.length (flH s.h)):=IQ.own.own (hRow (.slice b3 s.h.length d3) s.h) (by simp[eY])
 have Oz:Hid (lo<=W6.heap.size):=Nat.le_trans IQ.lt.1 (Nat.le_of_lt IQ.lt.2)
 have hlen:=hp0.out
 go_wp2_with (at_builtin;refine wpList_append_lies _ rfl _ _ 38 rfl lo 114 i0 (.agg #[.int .i64 0,.int .i64 0,.int .i64 0,.int .i64 0,.int .i64 0]) 5 40 Tryz.underlying38 hi hz0 hz1 hz2 rfl (by decide) (.slice b3 s.h.length d3) s.h.length (flH s.h) rfl (ZN.out.alloc _) ⟨W6.heap.size,0,none⟩ 1 1 [.int .i64 x.e,.int .i64 x.p,.int .i64 x.o,.int .i64 x.n,.int .i64 x.v] rfl rfl (World.news_of_block (heap_alloc_new _ _)) (by intro u hu;simp only[List.mem_cons,List.not_mem_nil,or_false]at hu;rcases hu with rfl | rfl | rfl | rfl | rfl<;>rfl) (by omega) (by unfold maxLen;omega) (by omega) (by have:=Oz.out;simp;omega) (W6.heap.size+1) (by simp) ?_)
 intro g7 c7 w7 o7 gr7 bk7 lt7
 obtain⟨⟨e7,f7⟩,ZX⟩:=Bxd.heads (IQ.below (aj (.cells #[.int .i64 x.e,.int .i64 x.p,.int .i64 x.o,.int .i64 x.n,.int .i64 x.v] 114))) x (by have:=Oz.out;simp;omega) o7 gr7 (by simpa using bk7)
 have Wn:Below W.heap.size W (w7.setCell ⟨bx,4,none⟩ (.slice (some ⟨g7,0,none⟩) (s.h.length+1) c7)):=((Qy.alloc Qy.size _).grown gr7 (by have:=Qy.size;simp;omega) (fun k hk=>by have:=(ZN.out.lt k hk).1;have:=E5.out;omega)).setCell (by have:=E5.out;have:=qW.out;show W.heap.size<=bx;omega) _
 obtain⟨V0,hV0⟩:∃V0,V0=w7.setCell ⟨bx,4,none⟩ (.slice (some ⟨g7,0,none⟩) (s.h.length+1) c7):=⟨_,rfl⟩
 have XH:Hid _:=hV0.symm
 rw[←hV0]at ZX Wn
 clear hV0 o7 gr7 bk7 lt7 ZN IQ Qy y0 y1 y2 y3 y4 y5 p0 p1 p2 p3 p4 hi hz0 hz1 hz2 i0
 go_upto_region 10 with fail
 rw[XH.out]
 clear XH e7 f7
 have hcur:Below W.heap.size W V0:=Wn
 have HX0:Bxd lo V0 bx s.ph s.cu ⟨.slice b1 s.d.length d1,.slice b2 s.n.length d2,.slice (some ⟨g7,0,none⟩) (s.h.length+1) c7,.slice b4 s.p.length d4⟩ us ⟨s.ph,s.cu,s.d,s.n,s.h++[x],s.p⟩:=ZX
 clear Wn ZX HC ZF Bf
 obtain⟨iN,hiN,qH,qI,qJ⟩:=info_parts Tryz.vM
 have bJ:Hid (w.heap.size<=w.heap.size+1):=Nat.le_succ _
 have xw:Hid (W.heap.size<=bx):=Nat.le_trans E5.out qW.out
 have tV:Hid (¬w.heap.size+1=bx/\¬bx=w.heap.size+1):=(by have:=xw.out;have:=dM.out;omega:¬w.heap.size+1=bx/\¬bx=w.heap.size+1)
 have kZ:Hid (lo<=V0.drew.heap.size):=Nat.le_trans HX0.lt.1 (Nat.le_of_lt HX0.lt.2)
 have Bd:Hid (Below w.heap.size w V0.drew):=ah aC.out hcur.drew
 have HS:Hid (∀w',Below V0.drew.heap.size V0.drew w'->w'.ownsRow lo 36 1 (.slice b4 s.p.length d4) s.p.length us):=fun w' hb=>by
  have h9:=(HX0.below (Below.refl _ _).drew).below hb
  have h8:=h9.own.own (aV (.slice b4 s.p.length d4) us) (by simp[eY])
  have h8:w'.ownsRow lo 36 1 (.slice b4 s.p.length d4) us.length us:=h8
  have e9:us.length=s.p.length:=HX0.len
  rw[e9]at h8
  exact h8
 have kR:Hid (∀y,(Value.slice b4 s.p.length d4).ownBlock=some y->W.heap.size<=y):=fun y hy=>Nat.le_trans E5.out ((HS.out _ (Below.refl _ _)).lt y hy).1
 have Ci:Hid (lo<=V0.drew.heap.size):=kZ.out
 have HT:Hid (∀(u:Sv)(us:List Value)(w':World),Below w.heap.size w w'->aG w.heap.size w'.heap.size w' u us ⟨s.ph,s.cu,s.d,s.n,s.h++[x],s.p++[s.d]⟩->aQ w 0 (clT R s) (.returned (.agg #[.int .i64 0,.int .i64 s.ph,.int .i64 s.cu,u.d,u.n,u.h,u.p])) w'):=fun u us w' hb ho=>by
  rw[SY.out]at ho
  exact HT.out u us w' hb ho
 clear SY E5 qW hlen hp0 Oz QF hwr
 refine wp_region_held_drew (S:=fun w'=>∃n:After W,w'=n.w) (by kernel_rfl) (ay hcur.drew) (fun hHeld=> ?_)
 have hcur:=hcur.drew
 have HX0:=HX0.below (Below.refl _ _).drew
 have hbx:=Below.refl V0.drew.heap.size V0.drew
 generalize V0.drew=V1 at *
 refine aK (i:=0) (d:=(some 44)) (v:= ?ahB) (by rfl) (by kernel_rfl) (by kernel_rfl) (by kernel_rfl) (fun _ _ _ h=>h) (by rfl) ?abT hHeld ?aeY
 case abT=>
  intro o ho
  simp only[aiF,aiG,aiI]at ho
  subst ho
  rintro _ ⟨nw,rfl⟩
  first |(go_simp;done) |(go_simp;with_reducible rfl)
 try simp only[Act.put,aiC,aiD,aiE]
 refine aK (i:=2) (d:=(some 46)) (v:= ?ahC) (by rfl) (by kernel_rfl) (by kernel_rfl) (by kernel_rfl) (fun _ _ _ h=>h) (by rfl) ?abU hHeld ?aeZ
 case abU=>
  intro o ho
  simp only[aiF,aiH,aiG,aiI]at ho
  subst ho
  rintro _ ⟨nw,rfl⟩
  first |(go_simp;done) |(go_simp;with_reducible rfl)
 try simp only[Act.put,aiC,aiD,aiE]
 refine aK (i:=3) (d:=(some 47)) (v:= ?ahD) (by rfl) (by kernel_rfl) (by kernel_rfl) (by kernel_rfl) (fun _ _ _ h=>h) (by rfl) ?abV hHeld ?ae0
 case abV=>
  intro o ho
  simp only[aiF,aiH,aiG,aiI]at ho
  subst ho
  rintro _ ⟨nw,rfl⟩
  first |(go_simp;done) |(go_simp;with_reducible rfl)
 try simp only[Act.put,aiC,aiD,aiE]
 refine wpAnyH_ready (rs:=[1,4]) (by kernel_rfl) (by simp) ?_
 refine AllReadyH.cons rfl (fun K hK=> ?_) (AllReadyH.cons rfl (fun K hK=> ?_) AllReadyH.nil)
 ·have f1:=(HX0.below hbx).cells.1.2.2.2.2.2
  go_simp
  refine hK.out _ _ (ay hcur) (fun hHeld=> ?_)
  clear hK K
  try simp only[Act.put,aiC,aiD,aiE]
  clear f1
  refine wpAnyH_ready (rs:=[4]) (by kernel_rfl) (by simp) ?_
  refine AllReadyH.cons rfl (fun K hK=> ?_) AllReadyH.nil
  go_simp
  refine(mV.out _ (ah Bd.out hbx)).mono ?_
  rintro e w5 ⟨zz,kk,rfl,hb5,o5⟩
  have HV5:Hid (V1.heap.size<=w5.heap.size/\w5.ownsRow V1.heap.size 46 4 (.slice zz s.d.length kk) s.d.length (flR s.d)):=⟨hb5.size,o5⟩
  have oq:Below V1.heap.size V1 w5:=hb5
  have hbx:Below V1.heap.size V1 w5:=ah hbx hb5
  have hcur:=ah hcur hb5
  clear hb5 o5
  refine hK.out _ _ (ay hcur) (fun hHeld=> ?_)
  clear hK K
  try simp only[Act.put,aiC,aiD,aiE]
  refine wpAnyH_ready (rs:=[5]) (by kernel_rfl) (by simp) ?_
  refine AllReadyH.cons rfl (fun K hK=> ?_) AllReadyH.nil
  go_simp
  have hbx:=hbx.alloc hbx.size (.cells #[.slice zz s.d.length kk] 36)
  have hcur:=hcur.alloc hcur.size (.cells #[.slice zz s.d.length kk] 36)
  refine hK.out _ _ (ay hcur) (fun hHeld=> ?_)
  clear hK K
  try simp only[Act.put,aiC,aiD,aiE]
  refine wpAnyH_ready (rs:=[6]) (by kernel_rfl) (by simp) ?_
  refine AllReadyH.cons rfl (fun K hK=> ?_) AllReadyH.nil
  refine step_append_lies _ (by rfl) _ _ _ (by rfl) lo 36 iN _ 1 24 Tryz.underlying39 hiN qH qI qJ rfl (by omega) (.slice b4 s.p.length d4) s.p.length (us) (by rfl) (HS.out _ hbx) ⟨w5.heap.size,0,none⟩ 1 1 [.slice zz s.d.length kk] (by rfl) (by rfl) (World.news_of_block (heap_alloc_new _ _)) (by intro u hu;rw[List.mem_singleton]at hu;subst hu;rfl) (by omega) (by unfold maxLen;omega) (by omega) (Nat.le_trans kZ.out hbx.size) _ rfl ?_
  intro gN cN wN oN iY lH GV
  have hcur:=hcur.grown iY hcur.size (fun x hx=>kR.out x hx)
  refine hK.out _ _ (ay hcur) (fun hHeld=> ?_)
  clear hK K
  try simp only[Act.put,aiC]
  refine aK (i:=7) (d:=(some 51)) (v:= ?ahE) (by rfl) (by kernel_rfl) (by kernel_rfl) (by kernel_rfl) (fun _ _ _ h=>h) (by rfl) ?abW hHeld ?ae1
  case abW=>
   intro o ho
   simp only[aiF,aiH,aiG,aiI]at ho
   subst ho
   rintro _ ⟨nw,rfl⟩
   first |(go_simp;done) |(go_simp;with_reducible rfl)
  try simp only[Act.put]
  obtain⟨⟨eN,fN⟩,iO⟩:=Bxd.past HX0 oq (Nat.le_refl _) HV5.out.1 (.slice zz s.d.length kk) s.d HV5.out.2 (aj (.cells #[.slice zz s.d.length kk] 36)) Ci.out oN iY lH
  clear HV5
  refine wpAnyH_ready (rs:=[8]) (by kernel_rfl) (by simp) ?_
  refine AllReadyH.cons rfl (fun K hK=> ?_) AllReadyH.nil
  have hcur:=hcur.setCell (p:=⟨bx,5,none⟩) xw.out (.slice (some ⟨gN,0,none⟩) (s.p.length+1) cN)
  go_simp
  refine hK.out _ _ (ay hcur) (fun hHeld=> ?_)
  clear hK K
  skip
  refine wpAnyH_done (by kernel_rfl) ?_ _
  have hst:=iO.st
  have hcc:=iO.cells.1
  obtain⟨y0,y1,y2,y3,y4,y5⟩:=hcc
  dsimp only at y0 y1 y2 y3 y4 y5
  obtain⟨⟨q0,q1,q2,q3,q4,q5,q6⟩,g0,g1,g2,g3,g4,g5,g6⟩:=aA (HR.out _ hcur)
  have HP:Hid (∀x0 x1 x2 x3 x4 x5 x6:Value,_):=(rQ (w:=w) (b:=w.heap.size+1) hst (ah aC.out hcur) bJ.out bf.out)
  have hn1:¬w.heap.size+1=bx:=tV.out.1
  have hn2:¬bx=w.heap.size+1:=tV.out.2
  clear iO hst hcur hbx HX0 hHeld HR aC HS kR eN fN oN iY lH mV
  go_wp2
  refine bodyPost_ret (v:= .agg #[.int .i64 0,.int .i64 s.ph,.int .i64 s.cu,.slice b1 s.d.length d1,.slice b2 s.n.length d2,.slice (some ⟨g7,0,none⟩) (s.h.length+1) c7,.slice (some ⟨gN,0,none⟩) (s.p.length+1) cN]) (by simp[results,Tryz.results103,go_sem,q0,q1,q2,q3,q4,q5,q6]) rfl ?_
  refine HT.out _ _ _ (HP.out _ _ _ _ _ _ _).1 (HP.out _ _ _ _ _ _ _).2
 ·go_simp
  refine(mV.out _ (ah Bd.out hbx)).mono ?_
  rintro e w5 ⟨zz,kk,rfl,hb5,o5⟩
  have HV5:Hid (V1.heap.size<=w5.heap.size/\w5.ownsRow V1.heap.size 46 4 (.slice zz s.d.length kk) s.d.length (flR s.d)):=⟨hb5.size,o5⟩
  have oq:Below V1.heap.size V1 w5:=hb5
  have hbx:Below V1.heap.size V1 w5:=ah hbx hb5
  have hcur:=ah hcur hb5
  clear hb5 o5
  refine hK.out _ _ (ay hcur) (fun hHeld=> ?_)
  clear hK K
  try simp only[Act.put,aiC,aiD,aiE]
  refine wpAnyH_ready (rs:=[1,5]) (by kernel_rfl) (by simp) ?_
  refine AllReadyH.cons rfl (fun K hK=> ?_) (AllReadyH.cons rfl (fun K hK=> ?_) AllReadyH.nil)
  ·have f1:=(HX0.below hbx).cells.1.2.2.2.2.2
   go_simp
   refine hK.out _ _ (ay hcur) (fun hHeld=> ?_)
   clear hK K
   try simp only[Act.put,aiC,aiD,aiE]
   clear f1
   refine wpAnyH_ready (rs:=[5]) (by kernel_rfl) (by simp) ?_
   refine AllReadyH.cons rfl (fun K hK=> ?_) AllReadyH.nil
   go_simp
   have hbx:=hbx.alloc hbx.size (.cells #[.slice zz s.d.length kk] 36)
   have hcur:=hcur.alloc hcur.size (.cells #[.slice zz s.d.length kk] 36)
   refine hK.out _ _ (ay hcur) (fun hHeld=> ?_)
   clear hK K
   try simp only[Act.put,aiC,aiD,aiE]
   refine wpAnyH_ready (rs:=[6]) (by kernel_rfl) (by simp) ?_
   refine AllReadyH.cons rfl (fun K hK=> ?_) AllReadyH.nil
   refine step_append_lies _ (by rfl) _ _ _ (by rfl) lo 36 iN _ 1 24 Tryz.underlying39 hiN qH qI qJ rfl (by omega) (.slice b4 s.p.length d4) s.p.length (us) (by rfl) (HS.out _ hbx) ⟨w5.heap.size,0,none⟩ 1 1 [.slice zz s.d.length kk] (by rfl) (by rfl) (World.news_of_block (heap_alloc_new _ _)) (by intro u hu;rw[List.mem_singleton]at hu;subst hu;rfl) (by omega) (by unfold maxLen;omega) (by omega) (Nat.le_trans kZ.out hbx.size) _ rfl ?_
   intro gN cN wN oN iY lH GV
   have hcur:=hcur.grown iY hcur.size (fun x hx=>kR.out x hx)
   refine hK.out _ _ (ay hcur) (fun hHeld=> ?_)
   clear hK K
   try simp only[Act.put,aiC]
   refine aK (i:=7) (d:=(some 51)) (v:= ?ahF) (by rfl) (by kernel_rfl) (by kernel_rfl) (by kernel_rfl) (fun _ _ _ h=>h) (by rfl) ?abX hHeld ?ae2
   case abX=>
    intro o ho
    simp only[aiF,aiH,aiG,aiI]at ho
    subst ho
    rintro _ ⟨nw,rfl⟩
    first |(go_simp;done) |(go_simp;with_reducible rfl)
   try simp only[Act.put]
   obtain⟨⟨eN,fN⟩,iO⟩:=Bxd.past HX0 oq (Nat.le_refl _) HV5.out.1 (.slice zz s.d.length kk) s.d HV5.out.2 (aj (.cells #[.slice zz s.d.length kk] 36)) Ci.out oN iY lH
   clear HV5
   refine wpAnyH_ready (rs:=[8]) (by kernel_rfl) (by simp) ?_
   refine AllReadyH.cons rfl (fun K hK=> ?_) AllReadyH.nil
   have hcur:=hcur.setCell (p:=⟨bx,5,none⟩) xw.out (.slice (some ⟨gN,0,none⟩) (s.p.length+1) cN)
   go_simp
   refine hK.out _ _ (ay hcur) (fun hHeld=> ?_)
   clear hK K
   skip
   refine wpAnyH_done (by kernel_rfl) ?_ _
   have hst:=iO.st
   have hcc:=iO.cells.1
   obtain⟨y0,y1,y2,y3,y4,y5⟩:=hcc
   dsimp only at y0 y1 y2 y3 y4 y5
   obtain⟨⟨q0,q1,q2,q3,q4,q5,q6⟩,g0,g1,g2,g3,g4,g5,g6⟩:=aA (HR.out _ hcur)
   have HP:Hid (∀x0 x1 x2 x3 x4 x5 x6:Value,_):=(rQ (w:=w) (b:=w.heap.size+1) hst (ah aC.out hcur) bJ.out bf.out)
   have hn1:¬w.heap.size+1=bx:=tV.out.1
   have hn2:¬bx=w.heap.size+1:=tV.out.2
   clear iO hst hcur hbx HX0 hHeld HR aC HS kR eN fN oN iY lH mV
   go_wp2
   refine bodyPost_ret (v:= .agg #[.int .i64 0,.int .i64 s.ph,.int .i64 s.cu,.slice b1 s.d.length d1,.slice b2 s.n.length d2,.slice (some ⟨g7,0,none⟩) (s.h.length+1) c7,.slice (some ⟨gN,0,none⟩) (s.p.length+1) cN]) (by simp[results,Tryz.results103,go_sem,q0,q1,q2,q3,q4,q5,q6]) rfl ?_
   refine HT.out _ _ _ (HP.out _ _ _ _ _ _ _).1 (HP.out _ _ _ _ _ _ _).2
  ·go_simp
   have hbx:=hbx.alloc hbx.size (.cells #[.slice zz s.d.length kk] 36)
   have hcur:=hcur.alloc hcur.size (.cells #[.slice zz s.d.length kk] 36)
   refine hK.out _ _ (ay hcur) (fun hHeld=> ?_)
   clear hK K
   try simp only[Act.put,aiC,aiD,aiE]
   refine wpAnyH_ready (rs:=[1]) (by kernel_rfl) (by simp) ?_
   refine AllReadyH.cons rfl (fun K hK=> ?_) AllReadyH.nil
   have f1:=(HX0.below hbx).cells.1.2.2.2.2.2
   go_simp
   refine hK.out _ _ (ay hcur) (fun hHeld=> ?_)
   clear hK K
   try simp only[Act.put,aiC,aiD,aiE]
   clear f1
   refine wpAnyH_ready (rs:=[6]) (by kernel_rfl) (by simp) ?_
   refine AllReadyH.cons rfl (fun K hK=> ?_) AllReadyH.nil
   refine step_append_lies _ (by rfl) _ _ _ (by rfl) lo 36 iN _ 1 24 Tryz.underlying39 hiN qH qI qJ rfl (by omega) (.slice b4 s.p.length d4) s.p.length (us) (by rfl) (HS.out _ hbx) ⟨w5.heap.size,0,none⟩ 1 1 [.slice zz s.d.length kk] (by rfl) (by rfl) (World.news_of_block (heap_alloc_new _ _)) (by intro u hu;rw[List.mem_singleton]at hu;subst hu;rfl) (by omega) (by unfold maxLen;omega) (by omega) (Nat.le_trans kZ.out hbx.size) _ rfl ?_
   intro gN cN wN oN iY lH GV
   have hcur:=hcur.grown iY hcur.size (fun x hx=>kR.out x hx)
   refine hK.out _ _ (ay hcur) (fun hHeld=> ?_)
   clear hK K
   try simp only[Act.put,aiC]
   refine aK (i:=7) (d:=(some 51)) (v:= ?ahG) (by rfl) (by kernel_rfl) (by kernel_rfl) (by kernel_rfl) (fun _ _ _ h=>h) (by rfl) ?abY hHeld ?ae3
   case abY=>
    intro o ho
    simp only[aiF,aiH,aiG,aiI]at ho
    subst ho
    rintro _ ⟨nw,rfl⟩
    first |(go_simp;done) |(go_simp;with_reducible rfl)
   try simp only[Act.put]
   obtain⟨⟨eN,fN⟩,iO⟩:=Bxd.past HX0 oq (Nat.le_refl _) HV5.out.1 (.slice zz s.d.length kk) s.d HV5.out.2 (aj (.cells #[.slice zz s.d.length kk] 36)) Ci.out oN iY lH
   clear HV5
   refine wpAnyH_ready (rs:=[8]) (by kernel_rfl) (by simp) ?_
   refine AllReadyH.cons rfl (fun K hK=> ?_) AllReadyH.nil
   have hcur:=hcur.setCell (p:=⟨bx,5,none⟩) xw.out (.slice (some ⟨gN,0,none⟩) (s.p.length+1) cN)
   go_simp
   refine hK.out _ _ (ay hcur) (fun hHeld=> ?_)
   clear hK K
   skip
   refine wpAnyH_done (by kernel_rfl) ?_ _
   have hst:=iO.st
   have hcc:=iO.cells.1
   obtain⟨y0,y1,y2,y3,y4,y5⟩:=hcc
   dsimp only at y0 y1 y2 y3 y4 y5
   obtain⟨⟨q0,q1,q2,q3,q4,q5,q6⟩,g0,g1,g2,g3,g4,g5,g6⟩:=aA (HR.out _ hcur)
   have HP:Hid (∀x0 x1 x2 x3 x4 x5 x6:Value,_):=(rQ (w:=w) (b:=w.heap.size+1) hst (ah aC.out hcur) bJ.out bf.out)
   have hn1:¬w.heap.size+1=bx:=tV.out.1
   have hn2:¬bx=w.heap.size+1:=tV.out.2
   clear iO hst hcur hbx HX0 hHeld HR aC HS kR eN fN oN iY lH mV
   go_wp2
   refine bodyPost_ret (v:= .agg #[.int .i64 0,.int .i64 s.ph,.int .i64 s.cu,.slice b1 s.d.length d1,.slice b2 s.n.length d2,.slice (some ⟨g7,0,none⟩) (s.h.length+1) c7,.slice (some ⟨gN,0,none⟩) (s.p.length+1) cN]) (by simp[results,Tryz.results103,go_sem,q0,q1,q2,q3,q4,q5,q6]) rfl ?_
   refine HT.out _ _ _ (HP.out _ _ _ _ _ _ _).1 (HP.out _ _ _ _ _ _ _).2
theorem yZ(R:Rt)(hR:bK R)(s:St)(v:Sv)(w:World)(hv:Sts w v s)(hB:StB s):
  Calls Tryz.prog 103 #[stV s v] w fun e w'=>aQ w (clF R s) (if clF R s=0 then clT R s else stZ) e w':=by
 by_cases h:stF R s=0
 ·by_cases h1:s.h.length=10
  ·rw[Jc h h1,if_neg (by decide)]
   exact xK R hR s v w hv hB h h1
  ·rw[Tj h h1,if_pos rfl]
   exact Aw R hR s v w hv hB h h1
 ·rw[Yl h,if_neg h]
  exact y7 R hR s v w hv hB h
end U
end Go.Proofs.YtmmcgjacojgeaaaGreat
