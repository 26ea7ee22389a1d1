/- The move started and cut over, by the model. -/
import Derived.Test.YtmmcgjacojgeaaaGreatGZz
import Derived.Test.YtmmcgjacojgeaaaGreatGIm2h
set_option maxRecDepth 100000
set_option maxHeartbeats 2000000
namespace Go.Proofs.YtmmcgjacojgeaaaGreat
open Go.RowKit
namespace U
theorem Uy(lo hi g:Nat)(s:St)(v:Sv)(aT:List Value)(w:World)(hso:aG lo hi w v aT s)(hB:StB s)(hs:StC w g s v)(hd:aF s.d=0)(h:s.ph=1):
  Calls Tryz.prog 93 #[.pointer (some ⟨g,0,none⟩)] w fun e w'=>aQ w 0 (⟨2,0,s.d,newL s.d 0,s.h,s.p⟩:St) e w':=by
 obtain⟨W,hW⟩:∃W,W=w.alloc aiJ:=⟨_,rfl⟩
 have hBW:Below w.heap.size w W:=by rw[hW];exact aj _
 have cZ:W.heap[w.heap.size]? = some aiJ:=by rw[hW];exact heap_alloc_new w _
 have dG:w.heap.size<W.heap.size:=(Array.getElem?_eq_some_iff.1 cZ).1
 have hsW:=hs.below hBW hs.lt
 obtain⟨a1,c1,e1⟩:=hso.sts.d.shape
 have hC:=gQ lo hi g g 2 s v aT 2 0 s.d a1 s.d.length c1 W (hso.below hBW) hB hsW hsW.lt (by have:=hsW.c2;rw[e1]at this;exact this) rfl (by rw[←e1];exact hso.sts.d.below hBW) (kL (hso.own.own (aI v.d s.d) (by simp[eY])) e1) (cO hd) (by decide)
 have HW:Hid (w.alloc aiJ=W):=hW.symm
 have k0:=hsW.c0
 have hgw:g<w.heap.size:=hs.lt
 rw[hW]at k0
 rw[h]at k0
 have aC:Hid (Below w.heap.size w W):=hBW
 have bf:Hid (w.heap.size<W.heap.size):=dG
 have bJ:Hid (w.heap.size<=w.heap.size):=Nat.le_refl _
 have HRW:Hid (W.heap[w.heap.size]? = some aiJ):=cZ
 have lG:Hid ((⟨2,0,s.d,newL s.d 0,s.h,s.p⟩:St)=(⟨2,0,s.d,newL s.d 0,s.h,s.p⟩:St)):=rfl
 generalize (⟨2,0,s.d,newL s.d 0,s.h,s.p⟩:St)=t at hC lG ⊢
 clear hso hB hs hsW hd h e1 hW hBW cZ dG
 go_enter Tryz.func93,Tryz.ntmps93
 go_wp2_with fail
 rw[HW.out]
 refine hC.mono ?_
 rintro e w1 ⟨u,us,rfl,hb1,h1⟩
 have HB1:Hid (Below w.heap.size w w1):=ah aC.out hb1
 obtain⟨⟨q0,q1,q2,q3,q4,q5,q6⟩,g0,g1,g2,g3,g4,g5,g6⟩:=aA ((hb1.block w.heap.size bf.out).trans HRW.out)
 clear hC HW k0 hb1 HRW aC lG
 obtain⟨b1,d1,f1⟩:=h1.sts.d.shape
 obtain⟨b2,d2,f2⟩:=h1.sts.n.shape
 obtain⟨b3,d3,f3⟩:=h1.sts.h.shape
 obtain⟨b4,d4,f4⟩:=h1.sts.p.shape
 obtain⟨td,tn,th,tp⟩:=u
 dsimp only at f1 f2 f3 f4
 subst f1 f2 f3 f4
 unfold srV
 dsimp only
 have HP:Hid (∀x0 x1 x2 x3 x4 x5 x6:Value,_):=(bZ (w:=w) (b:=w.heap.size) h1 HB1.out bJ.out bf.out)
 clear h1
 go_wp2
 refine bodyPost_ret (v:= .agg #[.int .i64 0,.int .i64 t.ph,.int .i64 t.cu,.slice b1 t.d.length d1,.slice b2 t.n.length d2,.slice b3 t.h.length d3,.slice b4 t.p.length d4]) (by simp[results,Tryz.results93,go_sem,q0,q1,q2,q3,q4,q5,q6]) rfl ⟨⟨.slice b1 t.d.length d1,.slice b2 t.n.length d2,.slice b3 t.h.length d3,.slice b4 t.p.length d4⟩,us,rfl, ?_, ?_⟩
 ·exact(HP.out _ _ _ _ _ _ _).1
 ·exact(HP.out _ _ _ _ _ _ _).2
theorem Uz(lo hi g:Nat)(s:St)(v:Sv)(aT:List Value)(w:World)(hso:aG lo hi w v aT s)(hB:StB s)(hs:StC w g s v)(hd:aF s.d=0)(h:s.ph=5):
  Calls Tryz.prog 93 #[.pointer (some ⟨g,0,none⟩)] w fun e w'=>aQ w 0 (⟨2,0,s.d,newL s.d 0,s.h,s.p⟩:St) e w':=by
 obtain⟨W,hW⟩:∃W,W=w.alloc aiJ:=⟨_,rfl⟩
 have hBW:Below w.heap.size w W:=by rw[hW];exact aj _
 have cZ:W.heap[w.heap.size]? = some aiJ:=by rw[hW];exact heap_alloc_new w _
 have dG:w.heap.size<W.heap.size:=(Array.getElem?_eq_some_iff.1 cZ).1
 have hsW:=hs.below hBW hs.lt
 obtain⟨a1,c1,e1⟩:=hso.sts.d.shape
 have hC:=gQ lo hi g g 2 s v aT 2 0 s.d a1 s.d.length c1 W (hso.below hBW) hB hsW hsW.lt (by have:=hsW.c2;rw[e1]at this;exact this) rfl (by rw[←e1];exact hso.sts.d.below hBW) (kL (hso.own.own (aI v.d s.d) (by simp[eY])) e1) (cO hd) (by decide)
 have HW:Hid (w.alloc aiJ=W):=hW.symm
 have k0:=hsW.c0
 have hgw:g<w.heap.size:=hs.lt
 rw[hW]at k0
 rw[h]at k0
 have aC:Hid (Below w.heap.size w W):=hBW
 have bf:Hid (w.heap.size<W.heap.size):=dG
 have bJ:Hid (w.heap.size<=w.heap.size):=Nat.le_refl _
 have HRW:Hid (W.heap[w.heap.size]? = some aiJ):=cZ
 have lG:Hid ((⟨2,0,s.d,newL s.d 0,s.h,s.p⟩:St)=(⟨2,0,s.d,newL s.d 0,s.h,s.p⟩:St)):=rfl
 generalize (⟨2,0,s.d,newL s.d 0,s.h,s.p⟩:St)=t at hC lG ⊢
 clear hso hB hs hsW hd h e1 hW hBW cZ dG
 go_enter Tryz.func93,Tryz.ntmps93
 go_wp2_with fail
 rw[HW.out]
 refine hC.mono ?_
 rintro e w1 ⟨u,us,rfl,hb1,h1⟩
 have HB1:Hid (Below w.heap.size w w1):=ah aC.out hb1
 obtain⟨⟨q0,q1,q2,q3,q4,q5,q6⟩,g0,g1,g2,g3,g4,g5,g6⟩:=aA ((hb1.block w.heap.size bf.out).trans HRW.out)
 clear hC HW k0 hb1 HRW aC lG
 obtain⟨b1,d1,f1⟩:=h1.sts.d.shape
 obtain⟨b2,d2,f2⟩:=h1.sts.n.shape
 obtain⟨b3,d3,f3⟩:=h1.sts.h.shape
 obtain⟨b4,d4,f4⟩:=h1.sts.p.shape
 obtain⟨td,tn,th,tp⟩:=u
 dsimp only at f1 f2 f3 f4
 subst f1 f2 f3 f4
 unfold srV
 dsimp only
 have HP:Hid (∀x0 x1 x2 x3 x4 x5 x6:Value,_):=(bZ (w:=w) (b:=w.heap.size) h1 HB1.out bJ.out bf.out)
 clear h1
 go_wp2
 refine bodyPost_ret (v:= .agg #[.int .i64 0,.int .i64 t.ph,.int .i64 t.cu,.slice b1 t.d.length d1,.slice b2 t.n.length d2,.slice b3 t.h.length d3,.slice b4 t.p.length d4]) (by simp[results,Tryz.results93,go_sem,q0,q1,q2,q3,q4,q5,q6]) rfl ⟨⟨.slice b1 t.d.length d1,.slice b2 t.n.length d2,.slice b3 t.h.length d3,.slice b4 t.p.length d4⟩,us,rfl, ?_, ?_⟩
 ·exact(HP.out _ _ _ _ _ _ _).1
 ·exact(HP.out _ _ _ _ _ _ _).2
theorem QW(g:Nat)(s:St)(v:Sv)(w:World)(hs:StC w g s v)(h1:¬s.ph=1)(h5:¬s.ph=5):
  Calls Tryz.prog 93 #[.pointer (some ⟨g,0,none⟩)] w fun e w'=>aQ w 10 stZ e w':=by
 obtain⟨W,hW⟩:∃W,W=w.alloc aiJ:=⟨_,rfl⟩
 have hBW:Below w.heap.size w W:=by rw[hW];exact aj _
 have cZ:W.heap[w.heap.size]? = some aiJ:=by rw[hW];exact heap_alloc_new w _
 have dG:w.heap.size<W.heap.size:=(Array.getElem?_eq_some_iff.1 cZ).1
 have hsW:=hs.below hBW hs.lt
 have hC:=iT 10 W
 have HW:Hid (w.alloc aiJ=W):=hW.symm
 have k0:=hsW.c0
 have hgw:g<w.heap.size:=hs.lt
 rw[hW]at k0
 have n1:(s.ph != 1)=true:=by simpa using h1
 have n5:(s.ph != 5)=true:=by simpa using h5
 have aC:Hid (Below w.heap.size w W):=hBW
 have bf:Hid (w.heap.size<W.heap.size):=dG
 have bJ:Hid (w.heap.size<=w.heap.size):=Nat.le_refl _
 have HRW:Hid (W.heap[w.heap.size]? = some aiJ):=cZ
 generalize s.ph=ph at *
 generalize stZ=t at *
 clear hs hsW hW hBW cZ dG h1 h5
 go_enter Tryz.func93,Tryz.ntmps93
 go_wp2_with fail
 rw[HW.out]
 refine hC.mono ?_
 rintro e w1 ⟨u,us,rfl,hb1,h1⟩
 have HB1:Hid (Below w.heap.size w w1):=ah aC.out hb1
 obtain⟨⟨q0,q1,q2,q3,q4,q5,q6⟩,g0,g1,g2,g3,g4,g5,g6⟩:=aA ((hb1.block w.heap.size bf.out).trans HRW.out)
 clear hC HW k0 hb1 HRW aC
 obtain⟨b1,d1,f1⟩:=h1.sts.d.shape
 obtain⟨b2,d2,f2⟩:=h1.sts.n.shape
 obtain⟨b3,d3,f3⟩:=h1.sts.h.shape
 obtain⟨b4,d4,f4⟩:=h1.sts.p.shape
 obtain⟨td,tn,th,tp⟩:=u
 dsimp only at f1 f2 f3 f4
 subst f1 f2 f3 f4
 unfold srV
 dsimp only
 have HP:Hid (∀x0 x1 x2 x3 x4 x5 x6:Value,_):=(bZ (w:=w) (b:=w.heap.size) h1 HB1.out bJ.out bf.out)
 clear h1
 go_wp2
 refine bodyPost_ret (v:= .agg #[.int .i64 10,.int .i64 t.ph,.int .i64 t.cu,.slice b1 t.d.length d1,.slice b2 t.n.length d2,.slice b3 t.h.length d3,.slice b4 t.p.length d4]) (by simp[results,Tryz.results93,go_sem,q0,q1,q2,q3,q4,q5,q6]) rfl ⟨⟨.slice b1 t.d.length d1,.slice b2 t.n.length d2,.slice b3 t.h.length d3,.slice b4 t.p.length d4⟩,us,rfl, ?_, ?_⟩
 ·exact(HP.out _ _ _ _ _ _ _).1
 ·exact(HP.out _ _ _ _ _ _ _).2
theorem UA(lo hi g:Nat)(s:St)(v:Sv)(aT:List Value)(w:World)(hso:aG lo hi w v aT s)(hB:StB s)(hs:StC w g s v)(hd:aF s.d=0)(h:s.ph=3):
  Calls Tryz.prog 96 #[.pointer (some ⟨g,0,none⟩)] w fun e w'=>aQ w 0 (⟨4,256,s.d,newL s.d 256,s.h,s.p⟩:St) e w':=by
 obtain⟨W,hW⟩:∃W,W=w.alloc aiJ:=⟨_,rfl⟩
 have hBW:Below w.heap.size w W:=by rw[hW];exact aj _
 have cZ:W.heap[w.heap.size]? = some aiJ:=by rw[hW];exact heap_alloc_new w _
 have dG:w.heap.size<W.heap.size:=(Array.getElem?_eq_some_iff.1 cZ).1
 have hsW:=hs.below hBW hs.lt
 obtain⟨a1,c1,e1⟩:=hso.sts.d.shape
 have hC:=gQ lo hi g g 2 s v aT 4 256 s.d a1 s.d.length c1 W (hso.below hBW) hB hsW hsW.lt (by have:=hsW.c2;rw[e1]at this;exact this) rfl (by rw[←e1];exact hso.sts.d.below hBW) (kL (hso.own.own (aI v.d s.d) (by simp[eY])) e1) (cO hd) (by decide)
 have HW:Hid (w.alloc aiJ=W):=hW.symm
 have k0:=hsW.c0
 have hgw:g<w.heap.size:=hs.lt
 rw[hW]at k0
 rw[h]at k0
 have aC:Hid (Below w.heap.size w W):=hBW
 have bf:Hid (w.heap.size<W.heap.size):=dG
 have bJ:Hid (w.heap.size<=w.heap.size):=Nat.le_refl _
 have HRW:Hid (W.heap[w.heap.size]? = some aiJ):=cZ
 have lG:Hid ((⟨4,256,s.d,newL s.d 256,s.h,s.p⟩:St)=(⟨4,256,s.d,newL s.d 256,s.h,s.p⟩:St)):=rfl
 generalize (⟨4,256,s.d,newL s.d 256,s.h,s.p⟩:St)=t at hC lG ⊢
 clear hso hB hs hsW hd h e1 hW hBW cZ dG
 go_enter Tryz.func96,Tryz.ntmps96
 go_wp2_with fail
 rw[HW.out]
 refine hC.mono ?_
 rintro e w1 ⟨u,us,rfl,hb1,h1⟩
 have HB1:Hid (Below w.heap.size w w1):=ah aC.out hb1
 obtain⟨⟨q0,q1,q2,q3,q4,q5,q6⟩,g0,g1,g2,g3,g4,g5,g6⟩:=aA ((hb1.block w.heap.size bf.out).trans HRW.out)
 clear hC HW k0 hb1 HRW aC lG
 obtain⟨b1,d1,f1⟩:=h1.sts.d.shape
 obtain⟨b2,d2,f2⟩:=h1.sts.n.shape
 obtain⟨b3,d3,f3⟩:=h1.sts.h.shape
 obtain⟨b4,d4,f4⟩:=h1.sts.p.shape
 obtain⟨td,tn,th,tp⟩:=u
 dsimp only at f1 f2 f3 f4
 subst f1 f2 f3 f4
 unfold srV
 dsimp only
 have HP:Hid (∀x0 x1 x2 x3 x4 x5 x6:Value,_):=(bZ (w:=w) (b:=w.heap.size) h1 HB1.out bJ.out bf.out)
 clear h1
 go_wp2
 refine bodyPost_ret (v:= .agg #[.int .i64 0,.int .i64 t.ph,.int .i64 t.cu,.slice b1 t.d.length d1,.slice b2 t.n.length d2,.slice b3 t.h.length d3,.slice b4 t.p.length d4]) (by simp[results,Tryz.results96,go_sem,q0,q1,q2,q3,q4,q5,q6]) rfl ⟨⟨.slice b1 t.d.length d1,.slice b2 t.n.length d2,.slice b3 t.h.length d3,.slice b4 t.p.length d4⟩,us,rfl, ?_, ?_⟩
 ·exact(HP.out _ _ _ _ _ _ _).1
 ·exact(HP.out _ _ _ _ _ _ _).2
theorem QX(g:Nat)(s:St)(v:Sv)(w:World)(hs:StC w g s v)(h3:¬s.ph=3):
  Calls Tryz.prog 96 #[.pointer (some ⟨g,0,none⟩)] w fun e w'=>aQ w 10 stZ e w':=by
 obtain⟨W,hW⟩:∃W,W=w.alloc aiJ:=⟨_,rfl⟩
 have hBW:Below w.heap.size w W:=by rw[hW];exact aj _
 have cZ:W.heap[w.heap.size]? = some aiJ:=by rw[hW];exact heap_alloc_new w _
 have dG:w.heap.size<W.heap.size:=(Array.getElem?_eq_some_iff.1 cZ).1
 have hsW:=hs.below hBW hs.lt
 have hC:=iT 10 W
 have HW:Hid (w.alloc aiJ=W):=hW.symm
 have k0:=hsW.c0
 have hgw:g<w.heap.size:=hs.lt
 rw[hW]at k0
 have n3:(s.ph != 3)=true:=by simpa using h3
 have aC:Hid (Below w.heap.size w W):=hBW
 have bf:Hid (w.heap.size<W.heap.size):=dG
 have bJ:Hid (w.heap.size<=w.heap.size):=Nat.le_refl _
 have HRW:Hid (W.heap[w.heap.size]? = some aiJ):=cZ
 generalize s.ph=ph at *
 generalize stZ=t at *
 clear hs hsW hW hBW cZ dG h3
 go_enter Tryz.func96,Tryz.ntmps96
 go_wp2_with fail
 rw[HW.out]
 refine hC.mono ?_
 rintro e w1 ⟨u,us,rfl,hb1,h1⟩
 have HB1:Hid (Below w.heap.size w w1):=ah aC.out hb1
 obtain⟨⟨q0,q1,q2,q3,q4,q5,q6⟩,g0,g1,g2,g3,g4,g5,g6⟩:=aA ((hb1.block w.heap.size bf.out).trans HRW.out)
 clear hC HW k0 hb1 HRW aC
 obtain⟨b1,d1,f1⟩:=h1.sts.d.shape
 obtain⟨b2,d2,f2⟩:=h1.sts.n.shape
 obtain⟨b3,d3,f3⟩:=h1.sts.h.shape
 obtain⟨b4,d4,f4⟩:=h1.sts.p.shape
 obtain⟨td,tn,th,tp⟩:=u
 dsimp only at f1 f2 f3 f4
 subst f1 f2 f3 f4
 unfold srV
 dsimp only
 have HP:Hid (∀x0 x1 x2 x3 x4 x5 x6:Value,_):=(bZ (w:=w) (b:=w.heap.size) h1 HB1.out bJ.out bf.out)
 clear h1
 go_wp2
 refine bodyPost_ret (v:= .agg #[.int .i64 10,.int .i64 t.ph,.int .i64 t.cu,.slice b1 t.d.length d1,.slice b2 t.n.length d2,.slice b3 t.h.length d3,.slice b4 t.p.length d4]) (by simp[results,Tryz.results96,go_sem,q0,q1,q2,q3,q4,q5,q6]) rfl ⟨⟨.slice b1 t.d.length d1,.slice b2 t.n.length d2,.slice b3 t.h.length d3,.slice b4 t.p.length d4⟩,us,rfl, ?_, ?_⟩
 ·exact(HP.out _ _ _ _ _ _ _).1
 ·exact(HP.out _ _ _ _ _ _ _).2
end U
end Go.Proofs.YtmmcgjacojgeaaaGreat
