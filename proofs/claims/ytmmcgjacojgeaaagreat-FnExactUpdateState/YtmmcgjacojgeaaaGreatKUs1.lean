/- A state that is updated, by the program. -/
import Derived.Test.YtmmcgjacojgeaaaGreatKZz
import Derived.Deep.Cut
import Derived.Test.YtmmcgjacojgeaaaGreatKBE
import Derived.Test.YtmmcgjacojgeaaaGreatKSt7
import Derived.Test.YtmmcgjacojgeaaaGreatKIm6M
import Derived.Test.YtmmcgjacojgeaaaGreatKUs2
import Derived.Test.YtmmcgjacojgeaaaGreatKBI
set_option maxRecDepth 100000
set_option maxHeartbeats 4000000
namespace Go.Proofs.YtmmcgjacojgeaaaGreat
open Go.RowKit
namespace U
theorem zf{l:Rcl}:∀f i,(∀j,i<=j->j<i+f->(rAt l j).c=0/\gZ l j<(rAt l j).k)->dh l f i=0
 | 0,_,_=>rfl
 | f+1,i,h=>by
  have h0:=h i (Nat.le_refl _) (by omega)
  rw[ug h0.1 (by omega)]
  exact zf f (i+1) fun j h1 h2=>h j (by omega) (by omega)
theorem UF{l:Rcl}(h:bM l):aB l=0:=by
 rw[qM (by have:=h.len;omega)]
 exact zf _ _ fun j _ h2=>⟨h.ok j (by omega),h.up j (by omega)⟩
theorem uN(R:Rt)(hR:iZ R)(s:St)(v:Sv)(r0:ByteArray)(r1 r2 r3 x:Int)(w:World)(hv:Sts w v s)(hB:StB s)(h:¬stF R s=0):
  Calls Tryz.prog 10 #[stV s v,.agg #[.string r0,.int .i64 r1,.int .i64 r2,.int .i64 r3],.int .i64 x] w fun e w'=>jr w (stF R s) stZ e w':=by
 obtain⟨W,hW⟩:∃W,W=((w.alloc (stC s v 41)).alloc (.cells #[.string r0,.int .i64 r1,.int .i64 r2,.int .i64 r3] 46)).alloc ach:=⟨_,rfl⟩
 have hBW:Below w.heap.size w W:=by rw[hW];exact(aN _ _).alloc (aN (w:=w) _ _).size _
 have hH2:W.heap[w.heap.size+1+1]? = some ach:=by
  have:=heap_alloc_new ((w.alloc (stC s v 41)).alloc (.cells #[.string r0,.int .i64 r1,.int .i64 r2,.int .i64 r3] 46)) ach
  rw[World.size_alloc,World.size_alloc]at this
  rw[hW]
  exact this
 have hRb:W.heap[w.heap.size+1]? = some (.cells #[.string r0,.int .i64 r1,.int .i64 r2,.int .i64 r3] 46):=by
  have h1:=heap_alloc_new (w.alloc (stC s v 41)) (.cells #[.string r0,.int .i64 r1,.int .i64 r2,.int .i64 r3] 46)
  rw[World.size_alloc]at h1
  rw[hW]
  exact((aj _).block (w.heap.size+1) (by simp)).trans h1
 have hC0:StC W w.heap.size s v:=by rw[hW];exact((StC.new w s v _).below (aj _) (by simp)).below (aj _) (by simp;omega)
 have l9:=(Array.getElem?_eq_some_iff.1 hH2).1
 have hF:=jZ R hR s v W (hv.below hBW) hB
 have HC:Hid (∀w',Below W.heap.size W w'->StC w' w.heap.size s v):=fun w' hb=>hC0.below hb hC0.lt
 have HR:Hid (∀w',Below W.heap.size W w'->w'.heap[w.heap.size+1+1]? = some ach):=fun w' hb=>(hb.block _ l9).trans hH2
 have HQ:Hid (∀w',Below W.heap.size W w'->w'.heap[w.heap.size+1]? = some (.cells #[.string r0,.int .i64 r1,.int .i64 r2,.int .i64 r3] 46)):=fun w' hb=>(hb.block _ (by omega)).trans hRb
 have hq:=jJ h
 generalize stF R s=c at *
 obtain⟨a1,c1,e1⟩:=hv.d.shape
 obtain⟨a2,c2,e2⟩:=hv.n.shape
 obtain⟨a3,c3,e3⟩:=hv.h.shape
 obtain⟨a4,c4,e4⟩:=hv.p.shape
 unfold stC at hW
 unfold stV at hF ⊢
 rw[e1,e2,e3,e4]at hW hF ⊢
 have HW:Hid (_=W):=hW.symm
 have bH:Hid (Below w.heap.size w W):=hBW
 have K2:Hid (w.heap.size<=w.heap.size+1+1):=by show w.heap.size<=w.heap.size+1+1;omega
 clear hv hB hW hR hC0 h hH2 hBW hRb HC HQ l9
 go_enter Tryz.func10,Tryz.ntmps10
 go_wp2_with fail
 rw[HW.out]
 refine hF.mono ?_
 rintro e w1 ⟨rfl,hb1⟩
 clear hF HW
 have HB1:Hid (Below w.heap.size w w1):=ah bH.out hb1
 obtain⟨⟨q0,q1,q2,q3,q4,q5,q6⟩,g0,g1,g2,g3,g4,g5,g6⟩:=aO (HR.out w1 hb1)
 clear HR hb1
 go_wp2
 refine bodyPost_ret (v:= .agg #[.int .i64 c,.int .i64 0,.int .i64 0,.slice none 0 0,.slice none 0 0,.slice none 0 0,.slice none 0 0]) (by simp[results,Tryz.results10,go_sem,q0,q1,q2,q3,q4,q5,q6]) rfl ⟨svZ,[],rfl, ?_,Dp _ _ _⟩
 exact(((((((HB1.out.setCell K2.out _).setCell K2.out _).setCell K2.out _).setCell K2.out _).setCell K2.out _).setCell K2.out _).setCell K2.out _)
theorem wI(R:Rt)(hR:iZ R)(s:St)(v:Sv)(r0:ByteArray)(r1 r2 r3 x:Int)(w:World)(hv:Sts w v s)(hB:StB s)(hrs:r0.size<=1048576)(h:stF R s=0)(hu:¬u9C s.d ⟨r0,r1,r2,r3⟩ x=0):
  Calls Tryz.prog 10 #[stV s v,.agg #[.string r0,.int .i64 r1,.int .i64 r2,.int .i64 r3],.int .i64 x] w fun e w'=>jr w (u9C s.d ⟨r0,r1,r2,r3⟩ x) stZ e w':=by
 obtain⟨W,hW⟩:∃W,W=((w.alloc (stC s v 41)).alloc (.cells #[.string r0,.int .i64 r1,.int .i64 r2,.int .i64 r3] 46)).alloc ach:=⟨_,rfl⟩
 have hBW:Below w.heap.size w W:=by rw[hW];exact(aN _ _).alloc (aN (w:=w) _ _).size _
 have hH2:W.heap[w.heap.size+1+1]? = some ach:=by
  have:=heap_alloc_new ((w.alloc (stC s v 41)).alloc (.cells #[.string r0,.int .i64 r1,.int .i64 r2,.int .i64 r3] 46)) ach
  rw[World.size_alloc,World.size_alloc]at this
  rw[hW]
  exact this
 have hRb:W.heap[w.heap.size+1]? = some (.cells #[.string r0,.int .i64 r1,.int .i64 r2,.int .i64 r3] 46):=by
  have h1:=heap_alloc_new (w.alloc (stC s v 41)) (.cells #[.string r0,.int .i64 r1,.int .i64 r2,.int .i64 r3] 46)
  rw[World.size_alloc]at h1
  rw[hW]
  exact((aj _).block (w.heap.size+1) (by simp)).trans h1
 have hC0:StC W w.heap.size s v:=by rw[hW];exact((StC.new w s v _).below (aj _) (by simp)).below (aj _) (by simp;omega)
 have l9:=(Array.getElem?_eq_some_iff.1 hH2).1
 have hF:=jZ R hR s v W (hv.below hBW) hB
 have HC:Hid (∀w',Below W.heap.size W w'->StC w' w.heap.size s v):=fun w' hb=>hC0.below hb hC0.lt
 have HR:Hid (∀w',Below W.heap.size W w'->w'.heap[w.heap.size+1+1]? = some ach):=fun w' hb=>(hb.block _ l9).trans hH2
 have HQ:Hid (∀w',Below W.heap.size W w'->w'.heap[w.heap.size+1]? = some (.cells #[.string r0,.int .i64 r1,.int .i64 r2,.int .i64 r3] 46)):=fun w' hb=>(hb.block _ (by omega)).trans hRb
 have HU:Hid (∀w',Below w.heap.size w w'->Calls Tryz.prog 32 #[.agg #[v.d],.agg #[.string r0,.int .i64 r1,.int .i64 r2,.int .i64 r3],.int .i64 x] w' fun e w''=>lN w' (u9C s.d ⟨r0,r1,r2,r3⟩ x) (u9L s.d ⟨r0,r1,r2,r3⟩ x) e w''):=fun w' hb=>by
  have hq:=mF v.d s.d r0 r1 r2 r3 x w' (hv.d.below hb) (dR (mV h).d).lbs (by have:=(dR (mV h).d).len;omega) hrs
  rw[(BZ (mV h).d).1,(BZ (mV h).d).2]at hq
  exact hq
 rw[h]at hF
 have h00:((0:Int) != 0)=false:=by decide
 have hq:=jJ hu
 generalize u9C s.d ⟨r0,r1,r2,r3⟩ x=cc at *
 generalize u9L s.d ⟨r0,r1,r2,r3⟩ x=dn at *
 obtain⟨a1,c1,e1⟩:=hv.d.shape
 obtain⟨a2,c2,e2⟩:=hv.n.shape
 obtain⟨a3,c3,e3⟩:=hv.h.shape
 obtain⟨a4,c4,e4⟩:=hv.p.shape
 unfold stC at hW
 unfold stV at hF ⊢
 rw[e1,e2,e3,e4]at hW hF ⊢
 have HW:Hid (_=W):=hW.symm
 have bH:Hid (Below w.heap.size w W):=hBW
 have K2:Hid (w.heap.size<=w.heap.size+1+1):=by show w.heap.size<=w.heap.size+1+1;omega
 rw[e1]at HU
 clear hv hB hW hR hC0 h hH2 hBW hRb l9 hu
 go_enter Tryz.func10,Tryz.ntmps10
 go_wp2_with fail
 rw[HW.out]
 refine hF.mono ?_
 rintro e w1 ⟨rfl,hb1⟩
 clear hF HW
 have HB1:Hid (Below w.heap.size w w1):=ah bH.out hb1
 obtain⟨hlt1,k0,k1,k2,k3,k4,k5⟩:=HC.out w1 hb1
 rw[e1]at k2
 obtain⟨y0,y1,y2,y3⟩:=blk4 (HQ.out w1 hb1)
 have hU:=HU.out w1 HB1.out
 clear HU
 go_wp2_with fail
 refine hU.mono ?_
 rintro e w2 ⟨a,c,rfl,hb2,-⟩
 have CP:=ah hb1 hb2
 have hB2:=ah HB1.out hb2
 obtain⟨W2,hW2⟩:∃W2,W2=w2.alloc (.cells #[.int .i64 cc,.slice a dn.length c] 76):=⟨_,rfl⟩
 have HW2:Hid (w2.alloc (.cells #[.int .i64 cc,.slice a dn.length c] 76)=W2):=hW2.symm
 have sU:Below w2.heap.size w2 W2:=by rw[hW2];exact aj _
 obtain⟨⟨q0,q1,q2,q3,q4,q5,q6⟩,g0,g1,g2,g3,g4,g5,g6⟩:=aO (HR.out W2 (ah CP sU))
 obtain⟨z0,z1,-,-⟩:=aG (by rw[hW2];exact heap_alloc_new w2 _:W2.heap[w2.heap.size]? = some (.cells #[.int .i64 cc,.slice a dn.length c] 76 (0,0)))
 have HB3:Hid (Below w.heap.size w W2):=ah hB2 sU
 have hn1:¬w.heap.size+1+1=w2.heap.size:=by have:=(Array.getElem?_eq_some_iff.1 (HR.out w2 CP)).1;omega
 have hn2:¬w2.heap.size=w.heap.size+1+1:=by omega
 clear hU HR HC HQ hb1 hb2 CP hB2 sU hW2 k0 k1 k2 k3 k4 k5 y0 y1 y2 y3
 go_upto_region 5 with fail
 rw[HW2.out]
 clear HW2
 go_wp2
 refine bodyPost_ret (v:= .agg #[.int .i64 cc,.int .i64 0,.int .i64 0,.slice none 0 0,.slice none 0 0,.slice none 0 0,.slice none 0 0]) (by simp[results,Tryz.results10,go_sem,q0,q1,q2,q3,q4,q5,q6]) rfl ⟨svZ,[],rfl, ?_,Dp _ _ _⟩
 exact(((((((HB3.out.setCell K2.out _).setCell K2.out _).setCell K2.out _).setCell K2.out _).setCell K2.out _).setCell K2.out _).setCell K2.out _)
theorem wJ(R:Rt)(hR:iZ R)(s:St)(v:Sv)(r0:ByteArray)(r1 r2 r3 x:Int)(w:World)(hv:Sts w v s)(hB:StB s)(hrs:r0.size<=1048576)(h:stF R s=0)(hu:u9C s.d ⟨r0,r1,r2,r3⟩ x=0):
  Calls Tryz.prog 10 #[stV s v,.agg #[.string r0,.int .i64 r1,.int .i64 r2,.int .i64 r3],.int .i64 x] w fun e w'=>jr w 0 (usT s ⟨r0,r1,r2,r3⟩ x) e w':=by
 obtain⟨W,hW⟩:∃W,W=((w.alloc (stC s v 41)).alloc (.cells #[.string r0,.int .i64 r1,.int .i64 r2,.int .i64 r3] 46)).alloc ach:=⟨_,rfl⟩
 have hBW:Below w.heap.size w W:=by rw[hW];exact(aN _ _).alloc (aN (w:=w) _ _).size _
 have hH2:W.heap[w.heap.size+1+1]? = some ach:=by
  have:=heap_alloc_new ((w.alloc (stC s v 41)).alloc (.cells #[.string r0,.int .i64 r1,.int .i64 r2,.int .i64 r3] 46)) ach
  rw[World.size_alloc,World.size_alloc]at this
  rw[hW]
  exact this
 have hRb:W.heap[w.heap.size+1]? = some (.cells #[.string r0,.int .i64 r1,.int .i64 r2,.int .i64 r3] 46):=by
  have h1:=heap_alloc_new (w.alloc (stC s v 41)) (.cells #[.string r0,.int .i64 r1,.int .i64 r2,.int .i64 r3] 46)
  rw[World.size_alloc]at h1
  rw[hW]
  exact((aj _).block (w.heap.size+1) (by simp)).trans h1
 have hC0:StC W w.heap.size s v:=by rw[hW];exact((StC.new w s v _).below (aj _) (by simp)).below (aj _) (by simp;omega)
 have l9:=(Array.getElem?_eq_some_iff.1 hH2).1
 have hF:=jZ R hR s v W (hv.below hBW) hB
 have HC:Hid (∀w',Below W.heap.size W w'->StC w' w.heap.size s v):=fun w' hb=>hC0.below hb hC0.lt
 have HR:Hid (∀w',Below W.heap.size W w'->w'.heap[w.heap.size+1+1]? = some ach):=fun w' hb=>(hb.block _ l9).trans hH2
 have HQ:Hid (∀w',Below W.heap.size W w'->w'.heap[w.heap.size+1]? = some (.cells #[.string r0,.int .i64 r1,.int .i64 r2,.int .i64 r3] 46)):=fun w' hb=>(hb.block _ (by omega)).trans hRb
 have HU:Hid (∀w',Below w.heap.size w w'->Calls Tryz.prog 32 #[.agg #[v.d],.agg #[.string r0,.int .i64 r1,.int .i64 r2,.int .i64 r3],.int .i64 x] w' fun e w''=>lN w' (u9C s.d ⟨r0,r1,r2,r3⟩ x) (u9L s.d ⟨r0,r1,r2,r3⟩ x) e w''):=fun w' hb=>by
  have hq:=mF v.d s.d r0 r1 r2 r3 x w' (hv.d.below hb) (dR (mV h).d).lbs (by have:=(dR (mV h).d).len;omega) hrs
  rw[(BZ (mV h).d).1,(BZ (mV h).d).2]at hq
  exact hq
 rw[h]at hF
 rw[hu]at HU
 have h00:((0:Int) != 0)=false:=by decide
 have HO:Hid (∀w',Below w.heap.size w w'->Calls Tryz.prog 33 #[stV s v] w' fun e w''=>∃u us,e = .returned (stV s u)/\o8 w' s u us w''):=fun w' hb=>Ie s v w' (hv.below hb) hB
 have Gm:=Ol (dR (mV h).d) hu
 have jW:0<=s.cu/\s.cu<=256:=vH (mV h).cu
 have HN:Hid (∀w' a c,Rcs w' (.slice a (u9L s.d ⟨r0,r1,r2,r3⟩ x).length c) (u9L s.d ⟨r0,r1,r2,r3⟩ x)->Calls Tryz.prog 34 #[.agg #[.slice a (u9L s.d ⟨r0,r1,r2,r3⟩ x).length c],.int .i64 s.cu] w' fun e w''=>∃z k,e = .returned (.slice z (newL (u9L s.d ⟨r0,r1,r2,r3⟩ x) s.cu).length k)/\Below w'.heap.size w' w''/\w''.ownsRow w'.heap.size 110 2 (.slice z (newL (u9L s.d ⟨r0,r1,r2,r3⟩ x) s.cu).length k) (newL (u9L s.d ⟨r0,r1,r2,r3⟩ x) s.cu).length ((fl (newL (u9L s.d ⟨r0,r1,r2,r3⟩ x) s.cu)).map (Value.int .i64))):=fun w' a c hr=>kF _ _ s.cu w' hr (UF Gm) jW
 have et:usT s ⟨r0,r1,r2,r3⟩ x=⟨s.ph,s.cu,u9L s.d ⟨r0,r1,r2,r3⟩ x,newL (u9L s.d ⟨r0,r1,r2,r3⟩ x) s.cu,s.h,s.p⟩:=rfl
 rw[et]
 generalize newL (u9L s.d ⟨r0,r1,r2,r3⟩ x) s.cu=nl at *
 generalize u9L s.d ⟨r0,r1,r2,r3⟩ x=dn at *
 generalize hT:(⟨s.ph,s.cu,dn,nl,s.h,s.p⟩:St)=t at *
 obtain⟨a1,c1,e1⟩:=hv.d.shape
 obtain⟨a2,c2,e2⟩:=hv.n.shape
 obtain⟨a3,c3,e3⟩:=hv.h.shape
 obtain⟨a4,c4,e4⟩:=hv.p.shape
 unfold stC at hW
 unfold stV at hF ⊢
 rw[e1,e2,e3,e4]at hW hF ⊢
 have HW:Hid (_=W):=hW.symm
 have bH:Hid (Below w.heap.size w W):=hBW
 have K2:Hid (w.heap.size<=w.heap.size+1+1):=by show w.heap.size<=w.heap.size+1+1;omega
 rw[e1]at HU
 have TR:Hid ((⟨s.ph,s.cu,dn,nl,s.h,s.p⟩:St)=t):=hT
 clear hv hB hW hR hC0 h hH2 hBW hRb l9 hu hT et Gm jW
 go_enter Tryz.func10,Tryz.ntmps10
 go_wp2_with fail
 rw[HW.out]
 refine hF.mono ?_
 rintro e w1 ⟨rfl,hb1⟩
 clear hF HW
 have HB1:Hid (Below w.heap.size w w1):=ah bH.out hb1
 obtain⟨hlt1,k0,k1,k2,k3,k4,k5⟩:=HC.out w1 hb1
 rw[e1]at k2
 obtain⟨y0,y1,y2,y3⟩:=blk4 (HQ.out w1 hb1)
 have hU:=HU.out w1 HB1.out
 clear HU
 go_wp2_with fail
 refine hU.mono ?_
 rintro e w2 ⟨a,c,rfl,hb2,bG⟩
 have CP:=ah hb1 hb2
 have hB2:=ah HB1.out hb2
 obtain⟨W2,hW2⟩:∃W2,W2=w2.alloc (.cells #[.int .i64 0,.slice a dn.length c] 76):=⟨_,rfl⟩
 have HW2:Hid (w2.alloc (.cells #[.int .i64 0,.slice a dn.length c] 76)=W2):=hW2.symm
 have sU:Below w2.heap.size w2 W2:=by rw[hW2];exact aj _
 have hX2:W2.heap[w2.heap.size]? = some (.cells #[.int .i64 0,.slice a dn.length c] 76):=by rw[hW2];exact heap_alloc_new w2 _
 have hbW2:=ah CP sU
 have HB3:Hid (Below w.heap.size w W2):=ah hB2 sU
 have HL2:Hid (w.heap.size+1+1<w1.heap.size):=(Array.getElem?_eq_some_iff.1 (HR.out w1 hb1)).1
 have HS2:Hid (w1.heap.size<=w2.heap.size):=hb2.size
 have HR2:Hid (W2.heap[w.heap.size+1+1]? = some ach):=HR.out W2 hbW2
 have HD2:Hid (Own w1.heap.size w2.heap.size W2 [aK (.slice a dn.length c) dn]):=(Own.single (r:=aK (.slice a dn.length c) dn) bG (Nat.le_refl _)).below sU
 have XV:Hid (Rcs W2 (.slice a dn.length c) dn):=(pO bG).below sU
 have VX:Hid (∀w',Below W2.heap.size W2 w'->w'.heap[w2.heap.size]? = some (.cells #[.int .i64 0,.slice a dn.length c] 76)):=fun w' hb=>(hb.block _ (Array.getElem?_eq_some_iff.1 hX2).1).trans hX2
 obtain⟨hlt2,k0',k1',k2',Gy,Ue,Yp⟩:=HC.out W2 hbW2
 rw[e1]at k2'
 rw[e2]at Gy
 rw[e3]at Ue
 rw[e4]at Yp
 obtain⟨z0,z1,-,-⟩:=aG (VX.out W2 (Below.refl _ _))
 have hO:=HO.out W2 HB3.out
 unfold stV at hO
 rw[e1,e2,e3,e4]at hO
 have HZ2:Hid (w2.heap.size<W2.heap.size):=(Array.getElem?_eq_some_iff.1 hX2).1
 clear hU HR HC HQ HO hb1 hb2 CP hB2 sU hW2 k0 k1 k2 k3 k4 k5 y0 y1 y2 y3 hX2 hbW2 bG e1 e2 e3 e4 hlt1 hlt2
 go_upto_region 5 with fail
 rw[HW2.out]
 clear HW2
 go_wp2_with fail
 refine hO.mono ?_
 rintro e w3 ⟨u,us,rfl,h3⟩
 clear hO k0' k1' k2' Gy Ue Yp z0 z1
 have hr3:=(h3.below.block (w.heap.size+1+1) (by have:=HL2.out;have:=HS2.out;have:=HZ2.out;omega)).trans HR2.out
 obtain⟨z0,z1,-,-⟩:=aG (VX.out w3 h3.below)
 obtain⟨b1,d1,f1⟩:=h3.sts.d.shape
 obtain⟨b2,d2,f2⟩:=h3.sts.n.shape
 obtain⟨b3,d3,f3⟩:=h3.sts.h.shape
 obtain⟨b4,d4,f4⟩:=h3.sts.p.shape
 have Oq:Hid (o8 W2 s u us w3):=h3
 have XU:Hid (u=⟨.slice b1 s.d.length d1,.slice b2 s.n.length d2,.slice b3 s.h.length d3,.slice b4 s.p.length d4⟩):=(by cases u;simp only at f1 f2 f3 f4;rw[f1,f2,f3,f4]:u=_)
 rw[f1,f2,f3,f4]
 clear f1 f2 f3 f4 h3
 obtain⟨W3,hW3⟩:∃W3,W3=w3.alloc (.cells #[.int .i64 s.ph,.int .i64 s.cu,.slice a dn.length c,.slice b2 s.n.length d2,.slice b3 s.h.length d3,.slice b4 s.p.length d4] 41):=⟨_,rfl⟩
 have HW3:Hid _:=hW3.symm
 have MH:Below w3.heap.size w3 W3:=by rw[hW3];exact aj _
 have hx3:W3.heap[w3.heap.size]? = some (.cells #[.int .i64 s.ph,.int .i64 s.cu,.slice a dn.length c,.slice b2 s.n.length d2,.slice b3 s.h.length d3,.slice b4 s.p.length d4] 41):=by rw[hW3];exact heap_alloc_new w3 _
 have hbx:=(Array.getElem?_eq_some_iff.1 hx3).1
 have MF:=ah Oq.out.below MH
 have HB4:Hid (Below w.heap.size w W3):=ah HB3.out MF
 have iY:Hid (aT W2.heap.size w3.heap.size W3 u us s):=⟨Oq.out.own.own.below MH,Oq.out.own.len⟩
 have HD3:Hid (Own w1.heap.size w2.heap.size W3 [aK (.slice a dn.length c) dn]):=HD2.out.below MF
 have HR3:Hid (W3.heap[w.heap.size+1+1]? = some ach):=(MH.block _ (Array.getElem?_eq_some_iff.1 hr3).1).trans hr3
 have hE:=HN.out W3 a c (XV.out.below MF)
 have yN:Hid (W2.heap.size<=w3.heap.size):=Oq.out.below.size
 have z1':(w3.alloc (.cells #[.int .i64 s.ph,.int .i64 s.cu,.slice b1 s.d.length d1,.slice b2 s.n.length d2,.slice b3 s.h.length d3,.slice b4 s.p.length d4] 41)).cell? ⟨w2.heap.size,1,none⟩=some (.slice a dn.length c):=((aj _).cell (p:=⟨w2.heap.size,1,none⟩) (by have:=yN.out;have:=HZ2.out;show w2.heap.size<w3.heap.size;omega)).trans z1
 clear hr3 hW3 MH MF Oq HN XV VX HD2 HR2 z0
 go_wp2_with fail
 rw[HW3.out]
 clear HW3 z1 z1'
 refine hE.mono ?_
 rintro e w4 ⟨z,k,rfl,hb4,o4⟩
 clear hE
 have hx4:=(hb4.block w3.heap.size hbx).trans hx3
 have hr4:=(hb4.block (w.heap.size+1+1) (Array.getElem?_eq_some_iff.1 HR3.out).1).trans HR3.out
 obtain⟨⟨-,-,-,v3,-,-⟩,-,-,-,u3,-⟩:=ay hx4
 obtain⟨W4,iE⟩:∃W4,W4=w4.setCell ⟨w3.heap.size,3,none⟩ (.slice z nl.length k):=⟨_,rfl⟩
 have yO:Hid (w4.setCell ⟨w3.heap.size,3,none⟩ (.slice z nl.length k)=W4):=iE.symm
 have hx5:W4.heap[w3.heap.size]? = some (.cells #[.int .i64 s.ph,.int .i64 s.cu,.slice a dn.length c,.slice z nl.length k,.slice b3 s.h.length d3,.slice b4 s.p.length d4] 41):=by rw[iE];simpa using heap_setCell_same w4 w3.heap.size 3 _ _ (.slice z nl.length k) hx4
 have hsW:w3.heap.size+1<=W3.heap.size:=hbx
 have hl2:=HL2.out
 have hs2:=HS2.out
 have hz2:=HZ2.out
 have hs3:=yN.out
 have hs4:=hb4.size
 have hoth:∀g,g≠w3.heap.size->W4.heap[g]? = w4.heap[g]?:=fun g hg=>by rw[iE];exact heap_setCell_other w4 ⟨w3.heap.size,3,none⟩ g _ hg
 have Az:w4.heap.size=W4.heap.size:=by rw[iE];simp
 have Yn:=(hoth (w.heap.size+1+1) (by omega)).trans hr4
 have uy:Hid (Below w.heap.size w W4):=(by rw[iE];exact(ah HB4.out hb4).setCell (by have:=HB1.out.size;show w.heap.size<=w3.heap.size;omega) _:Below w.heap.size w W4)
 have ZY:=XU.out
 subst ZY
 have HT:Hid (aT w1.heap.size W4.heap.size W4 ⟨.slice a dn.length c,.slice z nl.length k,.slice b3 s.h.length d3,.slice b4 s.p.length d4⟩ us ⟨s.ph,s.cu,dn,nl,s.h,s.p⟩):=(by
  have A1:Own w1.heap.size W2.heap.size W4 [aK (.slice a dn.length c) dn]:=((HD3.out.below hb4).blocks fun g hg=>hoth g (by have:=HD3.out.hi g hg;omega)).wide (Nat.le_refl _) (by omega)
  have A2:Own W2.heap.size w3.heap.size W4 (kZ ⟨.slice b1 s.d.length d1,.slice b2 s.n.length d2,.slice b3 s.h.length d3,.slice b4 s.p.length d4⟩ us s):=(iY.out.own.below hb4).blocks fun g hg=>hoth g (by have:=iY.out.own.hi g hg;omega)
  have A3:=A1.app (Own.right (R:=[aK (.slice b1 s.d.length d1) s.d]) A2) (by omega) (by omega)
  have A4:Own W3.heap.size W4.heap.size W4 [nRow (.slice z nl.length k) nl]:=by
   have B:Own W3.heap.size w4.heap.size w4 [nRow (.slice z nl.length k) nl]:=Own.single (r:=nRow (.slice z nl.length k) nl) o4 (Nat.le_refl _)
   rw[←Az]
   exact B.blocks fun g hg=>hoth g (by have:=B.lo g hg;omega)
  exact⟨Own.swap (A:=[aK (.slice a dn.length c) dn]) (B:=[hRow (.slice b3 s.h.length d3) s.h]++([aQ (.slice b4 s.p.length d4) us]++aI us s.p s.p.length)) (r:=nRow (.slice b2 s.n.length d2) s.n) (r':=nRow (.slice z nl.length k) nl) (A3.wide (Nat.le_refl _) (Nat.le_of_lt hbx)) A4 (by omega) (by omega),iY.out.len⟩:aT w1.heap.size W4.heap.size W4 ⟨.slice a dn.length c,.slice z nl.length k,.slice b3 s.h.length d3,.slice b4 s.p.length d4⟩ us ⟨s.ph,s.cu,dn,nl,s.h,s.p⟩)
 obtain⟨⟨q0,q1,q2,q3,q4,q5,q6⟩,g0,g1,g2,g3,g4,g5,g6⟩:=aO Yn
 obtain⟨⟨x0,x1,x2,x3,x4,x5⟩,-⟩:=ay hx5
 have hn1:¬w.heap.size+1+1=w3.heap.size:=by omega
 have hn2:¬w3.heap.size=w.heap.size+1+1:=by omega
 clear iE hx4 hr4 hx5 Yn o4 hb4 hoth Az HR3 iY HB4 HD3 XU hx3 hbx hsW hl2 hs2 hz2 hs3 hs4 HS2 HZ2 yN
 go_upto_region 10 with fail
 rw[yO.out]
 clear yO v3 u3
 have HP:Hid (∀x0 x1 x2 x3 x4 x5 x6:Value,_):=(xC (w:=w) (b:=w.heap.size+1+1) HT.out uy.out K2.out HL2.out)
 go_wp2
 rw[←TR.out]
 refine bodyPost_ret (v:= .agg #[.int .i64 0,.int .i64 s.ph,.int .i64 s.cu,.slice a dn.length c,.slice z nl.length k,.slice b3 s.h.length d3,.slice b4 s.p.length d4]) (by simp[results,Tryz.results10,go_sem,q0,q1,q2,q3,q4,q5,q6]) rfl ⟨⟨.slice a dn.length c,.slice z nl.length k,.slice b3 s.h.length d3,.slice b4 s.p.length d4⟩,us,rfl, ?_, ?_⟩
 ·exact(HP.out _ _ _ _ _ _ _).1
 ·exact(HP.out _ _ _ _ _ _ _).2
theorem uM(R:Rt)(hR:iZ R)(s:St)(v:Sv)(r0:ByteArray)(r1 r2 r3 x:Int)(w:World)(hv:Sts w v s)(hB:StB s)(hrs:r0.size<=1048576):
  Calls Tryz.prog 10 #[stV s v,.agg #[.string r0,.int .i64 r1,.int .i64 r2,.int .i64 r3],.int .i64 x] w fun e w'=>jr w (usF R s ⟨r0,r1,r2,r3⟩ x) (if usF R s ⟨r0,r1,r2,r3⟩ x=0 then usT s ⟨r0,r1,r2,r3⟩ x else stZ) e w':=by
 by_cases h:stF R s=0
 ·have e:usF R s ⟨r0,r1,r2,r3⟩ x=u9C s.d ⟨r0,r1,r2,r3⟩ x:=by unfold usF;rw[if_pos h]
  rw[e]
  by_cases hu:u9C s.d ⟨r0,r1,r2,r3⟩ x=0
  ·rw[if_pos hu,hu]
   exact wJ R hR s v r0 r1 r2 r3 x w hv hB hrs h hu
  ·rw[if_neg hu]
   exact wI R hR s v r0 r1 r2 r3 x w hv hB hrs h hu
 ·have e:usF R s ⟨r0,r1,r2,r3⟩ x=stF R s:=by unfold usF;rw[if_neg h]
  rw[e,if_neg h]
  exact uN R hR s v r0 r1 r2 r3 x w hv hB h
end U
end Go.Proofs.YtmmcgjacojgeaaaGreat
