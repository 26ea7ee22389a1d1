/- An operation done with a state, by the model. -/
import Derived.Test.YtmmcgjacojgeaaaGreatGZz
import Derived.Deep.Cut
import Derived.Test.YtmmcgjacojgeaaaGreatGDn2a
import Derived.Test.YtmmcgjacojgeaaaGreatGCp7
import Derived.Test.YtmmcgjacojgeaaaGreatGBK
import Derived.Test.YtmmcgjacojgeaaaGreatGSt6
set_option maxRecDepth 100000
set_option maxHeartbeats 4000000
namespace Go.Proofs.YtmmcgjacojgeaaaGreat
open Go.RowKit
namespace U
theorem YL(R:Rt)(lo hi g p:Nat)(s:St)(v:Sv)(aT:List Value)(l:ByteArray)(a o q x n:Int)(w:World)(hso:aG lo hi w v aT s)(hB:StB s)(hs:StC w g s v)(ho:dL w p 1 l a o q x n)(hp:p<w.heap.size)(hl:l.size<=1048576)(h:stF R s=0):
  Calls Tryz.prog 45 #[.pointer (some ⟨g,0,none⟩),.pointer (some ⟨p,0,none⟩)] w fun e w'=>aQ w (usF R s ⟨l,a,o,q⟩ x) (if usF R s ⟨l,a,o,q⟩ x=0 then usT s ⟨l,a,o,q⟩ x else stZ) e w':=by
 obtain⟨W,hW⟩:∃W,W=w.alloc aiJ:=⟨_,rfl⟩
 have hBW:Below w.heap.size w W:=by rw[hW];exact aj _
 have hH:W.heap[w.heap.size]? = some aiJ:=by rw[hW];exact heap_alloc_new w _
 have bU:=(Array.getElem?_eq_some_iff.1 hH).1
 have HU:Hid (∀w',Below w.heap.size w w'->Calls Tryz.prog 26 #[.pointer (some ⟨g,0,none⟩),.pointer (some ⟨p,1,none⟩),.int .i64 x] w' fun e w''=>aQ w' (usF R s ⟨l,a,o,q⟩ x) (if usF R s ⟨l,a,o,q⟩ x=0 then usT s ⟨l,a,o,q⟩ x else stZ) e w''):=fun w' hb=>Ih R lo hi g p 1 s v aT ⟨l,a,o,q⟩ x w' (hso.below hb) hB (hs.below hb hs.lt) h (Nat.lt_of_lt_of_le hp hb.size) (ho.below hb).rc hl
 have HQ:Hid (∀w',Below w.heap.size w w'->w'.cell? ⟨p,5,none⟩=some (.int .i64 x)):=fun w' hb=>(ho.below hb).c5
 obtain⟨k0,k1,k2,k3,k4,k5,k6⟩:=ho.below hBW
 rw[hW]at k0 k1 k2 k3 k4 k5 k6
 generalize hT:(if usF R s ⟨l,a,o,q⟩ x=0 then(usT s ⟨l,a,o,q⟩ x:St)else stZ)=t at HU ⊢
 generalize usF R s ⟨l,a,o,q⟩ x=c at HU ⊢
 have HW:Hid (w.alloc aiJ=W):=hW.symm
 have HB0:Hid (Below w.heap.size w W):=hBW
 have bf:Hid (w.heap.size<W.heap.size):=bU
 have HR0:Hid (W.heap[w.heap.size]? = some aiJ):=hH
 have bJ:Hid (w.heap.size<=w.heap.size):=Nat.le_refl _
 clear hT hso hB hs ho h hBW hH bU hW hp hl
 go_enter Tryz.func45,Tryz.ntmps45
 go_wp2_with fail
 rw[HW.out]
 have G:ZB W.drew w.heap.size:=(⟨HR0.out⟩:ZB W w.heap.size).drew
 have hS:=HB0.out.drew
 clear HW HR0 bf bJ k0 k1 k2 k3 k4 k5 k6 HB0
 refine wp_region_held_drew (S:=fun w'=>Below w.heap.size w w') (by kernel_rfl) hS (fun hHeld=> ?_)
 generalize W.drew=V at *
 have hk:=HQ.out
 refine aK (i:=0) (d:=some 11) (v:= ?vd1) (by rfl) (by kernel_rfl) (by kernel_rfl) (by kernel_rfl) (fun _ _ _ h=>h) (by rfl) ?aed hHeld ?agp
 case aed=>
  intro o ho
  simp only[aiF,aiG,aiI]at ho
  subst ho
  intro w' hSw
  first |(go_simp;done) |(go_simp;with_reducible rfl)
 try simp only[Act.put,aiC,aiD,aiE]
 refine aK (i:=1) (d:=some 12) (v:= ?vd2) (by rfl) (by kernel_rfl) (by kernel_rfl) (by kernel_rfl) (fun _ _ _ h=>h) (by rfl) ?aee hHeld ?agq
 case aee=>
  intro o ho
  simp only[aiF,aiH,aiG,aiI]at ho
  subst ho
  intro w' hSw
  first |(go_simp;done) |(go_simp;with_reducible rfl)
 try simp only[Act.put,aiC,aiD,aiE]
 refine aK (i:=2) (d:=some 13) (v:= ?vd3) (by rfl) (by kernel_rfl) (by kernel_rfl) (by kernel_rfl) (fun _ _ _ h=>h) (by rfl) ?aef hHeld ?agr
 case aef=>
  intro o ho
  simp only[aiF,aiH,aiG,aiI]at ho
  subst ho
  intro w' hSw
  first |(go_simp;done) |(go_simp;with_reducible rfl)
 try simp only[Act.put,aiC,aiD,aiE]
 refine aK (i:=3) (d:=some 14) (v:= ?vd4) (by rfl) (by kernel_rfl) (by kernel_rfl) (by kernel_rfl) (fun _ _ _ h=>h) (by rfl) ?aeg hHeld ?ags
 case aeg=>
  intro o ho
  simp only[aiF,aiH,aiG,aiI]at ho
  subst ho
  intro w' hSw
  first |(go_simp;done) |(go_simp;with_reducible rfl)
 try simp only[Act.put,aiC,aiD,aiE]
 refine aK (i:=4) (d:=some 15) (v:= ?vd5) (by rfl) (by kernel_rfl) (by kernel_rfl) (by kernel_rfl) (fun _ _ _ h=>h) (by rfl) ?aeh hHeld ?agt
 case aeh=>
  intro o ho
  simp only[aiF,aiH,aiG,aiI]at ho
  subst ho
  intro w' hSw
  first |(go_simp;done) |(go_simp;with_reducible rfl)
 try simp only[Act.put,aiC,aiD,aiE]
 refine aK (i:=5) (d:=some 16) (v:= ?vd6) (by rfl) (by kernel_rfl) (by kernel_rfl) (by kernel_rfl) (fun _ _ _ h=>h) (by rfl) ?aei hHeld ?agu
 case aei=>
  intro o ho
  simp only[aiF,aiH,aiG,aiI]at ho
  subst ho
  intro w' hSw
  first |(go_simp;done) |(go_simp;with_reducible rfl)
 try simp only[Act.put,aiC,aiD,aiE]
 refine aK (i:=6) (d:=some 17) (v:= ?vd7) (by rfl) (by kernel_rfl) (by kernel_rfl) (by kernel_rfl) (fun _ _ _ h=>h) (by rfl) ?aej hHeld ?agv
 case aej=>
  intro o ho
  simp only[aiF,aiH,aiG,aiI]at ho
  subst ho
  intro w' hSw
  first |(go_simp;done) |(go_simp;with_reducible rfl)
 try simp only[Act.put,aiC,aiD,aiE]
 refine aK (i:=7) (d:=some 18) (v:= ?vd8) (by rfl) (by kernel_rfl) (by kernel_rfl) (by kernel_rfl) (fun _ _ _ h=>h) (by rfl) ?aek hHeld ?agw
 case aek=>
  intro o ho
  simp only[aiF,aiH,aiG,aiI]at ho
  subst ho
  intro w' hSw
  first |(go_simp;done) |(go_simp;with_reducible rfl)
 try simp only[Act.put,aiC,aiD,aiE]
 refine wpAnyH_ready (rs:=[8]) (by kernel_rfl) (by simp) ?_
 refine AllReadyH.cons rfl (fun K hK=> ?_) AllReadyH.nil
 ·go_simp
  refine(HU.out _ hHeld).mono ?_
  rintro e wq ⟨u,us,rfl,hbq,h1⟩
  have bf:Hid (w.heap.size<V.heap.size):=G.lt
  have hq:=ah hHeld hbq
  have G:=G.below hbq
  obtain⟨b1,d1,f1⟩:=h1.sts.d.shape
  obtain⟨b2,d2,f2⟩:=h1.sts.n.shape
  obtain⟨b3,d3,f3⟩:=h1.sts.h.shape
  obtain⟨b4,d4,f4⟩:=h1.sts.p.shape
  obtain⟨td,tn,th,tp⟩:=u
  dsimp only at f1 f2 f3 f4
  subst f1 f2 f3 f4
  unfold srV
  dsimp only
  refine hK.out _ _ ?_ (fun hHeld=> ?_)
  ·exact hq
  clear hK K
  try simp only[Act.put,aiC,aiD,aiE]
  obtain⟨⟨q0,q1,q2,q3,q4,q5,q6⟩,g0,g1,g2,g3,g4,g5,g6⟩:=aA G.c
  have HP:Hid (∀x0 x1 x2 x3 x4 x5 x6:Value,_):=(bZ (w:=w) (b:=w.heap.size) h1 hq (Nat.le_refl _) bf.out)
  clear h1
  refine wpAnyH_ready (rs:=[9]) (by kernel_rfl) (by simp) ?_
  refine AllReadyH.cons rfl (fun K hK=> ?_) AllReadyH.nil
  go_simp
  refine hK.out _ _ ?_ (fun hHeld=> ?_)
  ·exact eu hHeld (Nat.le_refl _) _ _ _ _ _ _ _
  clear hK K
  try simp only[Act.put,aiC,aiD,aiE]
  refine wpAnyH_done (by kernel_rfl) ?_ _
  go_wp2
  refine bodyPost_ret (v:= .agg #[.int .i64 c,.int .i64 t.ph,.int .i64 t.cu,.slice b1 t.d.length d1,.slice b2 t.n.length d2,.slice b3 t.h.length d3,.slice b4 t.p.length d4]) (by simp[results,Tryz.results45,go_sem,q0,q1,q2,q3,q4,q5,q6]) rfl ⟨⟨.slice b1 t.d.length d1,.slice b2 t.n.length d2,.slice b3 t.h.length d3,.slice b4 t.p.length d4⟩,us,rfl, ?_, ?_⟩
  ·exact(HP.out _ _ _ _ _ _ _).1
  ·exact(HP.out _ _ _ _ _ _ _).2
theorem YM(R:Rt)(lo hi g p:Nat)(s:St)(v:Sv)(aT:List Value)(l:ByteArray)(a o q x n:Int)(w:World)(hso:aG lo hi w v aT s)(hB:StB s)(hs:StC w g s v)(ho:dL w p 2 l a o q x n)(h:stF R s=0):
  Calls Tryz.prog 45 #[.pointer (some ⟨g,0,none⟩),.pointer (some ⟨p,0,none⟩)] w fun e w'=>aQ w (phF R s (s.ph==1||s.ph==5)) (if phF R s (s.ph==1||s.ph==5)=0 then⟨2,s.cu,s.d,s.n,s.h,s.p⟩else stZ) e w':=by
 obtain⟨W,hW⟩:∃W,W=w.alloc aiJ:=⟨_,rfl⟩
 have hBW:Below w.heap.size w W:=by rw[hW];exact aj _
 have hH:W.heap[w.heap.size]? = some aiJ:=by rw[hW];exact heap_alloc_new w _
 have bU:=(Array.getElem?_eq_some_iff.1 hH).1
 have hU:=Nz R lo hi g s v aT W (hso.below hBW) hB (hs.below hBW hs.lt) h
 obtain⟨k0,k1,k2,k3,k4,k5,k6⟩:=ho.below hBW
 rw[hW]at k0 k1 k2 k3 k4 k5 k6
 generalize hT:(if phF R s (s.ph==1||s.ph==5)=0 then(⟨2,s.cu,s.d,s.n,s.h,s.p⟩:St)else stZ)=t at hU ⊢
 generalize phF R s (s.ph==1||s.ph==5)=c at hU ⊢
 have HW:Hid (w.alloc aiJ=W):=hW.symm
 have HB0:Hid (Below w.heap.size w W):=hBW
 have bf:Hid (w.heap.size<W.heap.size):=bU
 have HR0:Hid (W.heap[w.heap.size]? = some aiJ):=hH
 have bJ:Hid (w.heap.size<=w.heap.size):=Nat.le_refl _
 clear hT hso hB hs ho h hBW hH bU hW
 go_enter Tryz.func45,Tryz.ntmps45
 go_wp2_with fail
 rw[HW.out]
 refine hU.mono ?_
 clear hU HW k0 k1 k2 k3 k4 k5 k6
 rintro e w1 ⟨u,us,rfl,hb1,h1⟩
 have HB1:Hid (Below w.heap.size w w1):=ah HB0.out hb1
 obtain⟨⟨q0,q1,q2,q3,q4,q5,q6⟩,g0,g1,g2,g3,g4,g5,g6⟩:=aA ((hb1.block _ bf.out).trans HR0.out)
 clear hb1 HR0 HB0
 obtain⟨b1,d1,f1⟩:=h1.sts.d.shape
 obtain⟨b2,d2,f2⟩:=h1.sts.n.shape
 obtain⟨b3,d3,f3⟩:=h1.sts.h.shape
 obtain⟨b4,d4,f4⟩:=h1.sts.p.shape
 obtain⟨td,tn,th,tp⟩:=u
 dsimp only at f1 f2 f3 f4
 subst f1 f2 f3 f4
 unfold srV
 dsimp only
 have HP:Hid (∀x0 x1 x2 x3 x4 x5 x6:Value,_):=(bZ (w:=w) (b:=w.heap.size) h1 HB1.out bJ.out bf.out)
 clear h1
 go_wp2
 refine bodyPost_ret (v:= .agg #[.int .i64 c,.int .i64 t.ph,.int .i64 t.cu,.slice b1 t.d.length d1,.slice b2 t.n.length d2,.slice b3 t.h.length d3,.slice b4 t.p.length d4]) (by simp[results,Tryz.results45,go_sem,q0,q1,q2,q3,q4,q5,q6]) rfl ⟨⟨.slice b1 t.d.length d1,.slice b2 t.n.length d2,.slice b3 t.h.length d3,.slice b4 t.p.length d4⟩,us,rfl, ?_, ?_⟩
 ·exact(HP.out _ _ _ _ _ _ _).1
 ·exact(HP.out _ _ _ _ _ _ _).2
theorem YN(R:Rt)(lo hi g p:Nat)(s:St)(v:Sv)(aT:List Value)(l:ByteArray)(a o q x n:Int)(w:World)(hso:aG lo hi w v aT s)(hB:StB s)(hs:StC w g s v)(ho:dL w p 3 l a o q x n)(h:stF R s=0):
  Calls Tryz.prog 45 #[.pointer (some ⟨g,0,none⟩),.pointer (some ⟨p,0,none⟩)] w fun e w'=>aQ w (cpF R s n) (if cpF R s n=0 then csT s n else stZ) e w':=by
 obtain⟨W,hW⟩:∃W,W=w.alloc aiJ:=⟨_,rfl⟩
 have hBW:Below w.heap.size w W:=by rw[hW];exact aj _
 have hH:W.heap[w.heap.size]? = some aiJ:=by rw[hW];exact heap_alloc_new w _
 have bU:=(Array.getElem?_eq_some_iff.1 hH).1
 have hU:=ND R lo hi g s v aT n W (hso.below hBW) hB (hs.below hBW hs.lt) h
 obtain⟨k0,k1,k2,k3,k4,k5,k6⟩:=ho.below hBW
 rw[hW]at k0 k1 k2 k3 k4 k5 k6
 generalize hT:(if cpF R s n=0 then(csT s n:St)else stZ)=t at hU ⊢
 generalize cpF R s n=c at hU ⊢
 have HW:Hid (w.alloc aiJ=W):=hW.symm
 have HB0:Hid (Below w.heap.size w W):=hBW
 have bf:Hid (w.heap.size<W.heap.size):=bU
 have HR0:Hid (W.heap[w.heap.size]? = some aiJ):=hH
 have bJ:Hid (w.heap.size<=w.heap.size):=Nat.le_refl _
 clear hT hso hB hs ho h hBW hH bU hW
 go_enter Tryz.func45,Tryz.ntmps45
 go_wp2_with fail
 rw[HW.out]
 refine hU.mono ?_
 clear hU HW k0 k1 k2 k3 k4 k5 k6
 rintro e w1 ⟨u,us,rfl,hb1,h1⟩
 have HB1:Hid (Below w.heap.size w w1):=ah HB0.out hb1
 obtain⟨⟨q0,q1,q2,q3,q4,q5,q6⟩,g0,g1,g2,g3,g4,g5,g6⟩:=aA ((hb1.block _ bf.out).trans HR0.out)
 clear hb1 HR0 HB0
 obtain⟨b1,d1,f1⟩:=h1.sts.d.shape
 obtain⟨b2,d2,f2⟩:=h1.sts.n.shape
 obtain⟨b3,d3,f3⟩:=h1.sts.h.shape
 obtain⟨b4,d4,f4⟩:=h1.sts.p.shape
 obtain⟨td,tn,th,tp⟩:=u
 dsimp only at f1 f2 f3 f4
 subst f1 f2 f3 f4
 unfold srV
 dsimp only
 have HP:Hid (∀x0 x1 x2 x3 x4 x5 x6:Value,_):=(bZ (w:=w) (b:=w.heap.size) h1 HB1.out bJ.out bf.out)
 clear h1
 go_wp2
 refine bodyPost_ret (v:= .agg #[.int .i64 c,.int .i64 t.ph,.int .i64 t.cu,.slice b1 t.d.length d1,.slice b2 t.n.length d2,.slice b3 t.h.length d3,.slice b4 t.p.length d4]) (by simp[results,Tryz.results45,go_sem,q0,q1,q2,q3,q4,q5,q6]) rfl ⟨⟨.slice b1 t.d.length d1,.slice b2 t.n.length d2,.slice b3 t.h.length d3,.slice b4 t.p.length d4⟩,us,rfl, ?_, ?_⟩
 ·exact(HP.out _ _ _ _ _ _ _).1
 ·exact(HP.out _ _ _ _ _ _ _).2
theorem YO(R:Rt)(lo hi g p:Nat)(s:St)(v:Sv)(aT:List Value)(l:ByteArray)(a o q x n:Int)(w:World)(hso:aG lo hi w v aT s)(hB:StB s)(hs:StC w g s v)(ho:dL w p 4 l a o q x n)(h:stF R s=0):
  Calls Tryz.prog 45 #[.pointer (some ⟨g,0,none⟩),.pointer (some ⟨p,0,none⟩)] w fun e w'=>aQ w (phF R s (s.ph==2||s.ph==3)) (if phF R s (s.ph==2||s.ph==3)=0 then⟨5,0,s.d,[],s.h,s.p⟩else stZ) e w':=by
 obtain⟨W,hW⟩:∃W,W=w.alloc aiJ:=⟨_,rfl⟩
 have hBW:Below w.heap.size w W:=by rw[hW];exact aj _
 have hH:W.heap[w.heap.size]? = some aiJ:=by rw[hW];exact heap_alloc_new w _
 have bU:=(Array.getElem?_eq_some_iff.1 hH).1
 have hU:=Nu R lo hi g s v aT W (hso.below hBW) hB (hs.below hBW hs.lt) h
 obtain⟨k0,k1,k2,k3,k4,k5,k6⟩:=ho.below hBW
 rw[hW]at k0 k1 k2 k3 k4 k5 k6
 generalize hT:(if phF R s (s.ph==2||s.ph==3)=0 then(⟨5,0,s.d,[],s.h,s.p⟩:St)else stZ)=t at hU ⊢
 generalize phF R s (s.ph==2||s.ph==3)=c at hU ⊢
 have HW:Hid (w.alloc aiJ=W):=hW.symm
 have HB0:Hid (Below w.heap.size w W):=hBW
 have bf:Hid (w.heap.size<W.heap.size):=bU
 have HR0:Hid (W.heap[w.heap.size]? = some aiJ):=hH
 have bJ:Hid (w.heap.size<=w.heap.size):=Nat.le_refl _
 clear hT hso hB hs ho h hBW hH bU hW
 go_enter Tryz.func45,Tryz.ntmps45
 go_wp2_with fail
 rw[HW.out]
 refine hU.mono ?_
 clear hU HW k0 k1 k2 k3 k4 k5 k6
 rintro e w1 ⟨u,us,rfl,hb1,h1⟩
 have HB1:Hid (Below w.heap.size w w1):=ah HB0.out hb1
 obtain⟨⟨q0,q1,q2,q3,q4,q5,q6⟩,g0,g1,g2,g3,g4,g5,g6⟩:=aA ((hb1.block _ bf.out).trans HR0.out)
 clear hb1 HR0 HB0
 obtain⟨b1,d1,f1⟩:=h1.sts.d.shape
 obtain⟨b2,d2,f2⟩:=h1.sts.n.shape
 obtain⟨b3,d3,f3⟩:=h1.sts.h.shape
 obtain⟨b4,d4,f4⟩:=h1.sts.p.shape
 obtain⟨td,tn,th,tp⟩:=u
 dsimp only at f1 f2 f3 f4
 subst f1 f2 f3 f4
 unfold srV
 dsimp only
 have HP:Hid (∀x0 x1 x2 x3 x4 x5 x6:Value,_):=(bZ (w:=w) (b:=w.heap.size) h1 HB1.out bJ.out bf.out)
 clear h1
 go_wp2
 refine bodyPost_ret (v:= .agg #[.int .i64 c,.int .i64 t.ph,.int .i64 t.cu,.slice b1 t.d.length d1,.slice b2 t.n.length d2,.slice b3 t.h.length d3,.slice b4 t.p.length d4]) (by simp[results,Tryz.results45,go_sem,q0,q1,q2,q3,q4,q5,q6]) rfl ⟨⟨.slice b1 t.d.length d1,.slice b2 t.n.length d2,.slice b3 t.h.length d3,.slice b4 t.p.length d4⟩,us,rfl, ?_, ?_⟩
 ·exact(HP.out _ _ _ _ _ _ _).1
 ·exact(HP.out _ _ _ _ _ _ _).2
theorem YP(R:Rt)(lo hi g p:Nat)(s:St)(v:Sv)(aT:List Value)(l:ByteArray)(a o q x n:Int)(w:World)(hso:aG lo hi w v aT s)(hB:StB s)(hs:StC w g s v)(ho:dL w p 5 l a o q x n)(h:stF R s=0):
  Calls Tryz.prog 45 #[.pointer (some ⟨g,0,none⟩),.pointer (some ⟨p,0,none⟩)] w fun e w'=>aQ w (phF R s (s.ph==3)) (if phF R s (s.ph==3)=0 then⟨4,s.cu,s.d,s.n,s.h,s.p⟩else stZ) e w':=by
 obtain⟨W,hW⟩:∃W,W=w.alloc aiJ:=⟨_,rfl⟩
 have hBW:Below w.heap.size w W:=by rw[hW];exact aj _
 have hH:W.heap[w.heap.size]? = some aiJ:=by rw[hW];exact heap_alloc_new w _
 have bU:=(Array.getElem?_eq_some_iff.1 hH).1
 have hU:=NC R lo hi g s v aT W (hso.below hBW) hB (hs.below hBW hs.lt) h
 obtain⟨k0,k1,k2,k3,k4,k5,k6⟩:=ho.below hBW
 rw[hW]at k0 k1 k2 k3 k4 k5 k6
 generalize hT:(if phF R s (s.ph==3)=0 then(⟨4,s.cu,s.d,s.n,s.h,s.p⟩:St)else stZ)=t at hU ⊢
 generalize phF R s (s.ph==3)=c at hU ⊢
 have HW:Hid (w.alloc aiJ=W):=hW.symm
 have HB0:Hid (Below w.heap.size w W):=hBW
 have bf:Hid (w.heap.size<W.heap.size):=bU
 have HR0:Hid (W.heap[w.heap.size]? = some aiJ):=hH
 have bJ:Hid (w.heap.size<=w.heap.size):=Nat.le_refl _
 clear hT hso hB hs ho h hBW hH bU hW
 go_enter Tryz.func45,Tryz.ntmps45
 go_wp2_with fail
 rw[HW.out]
 refine hU.mono ?_
 clear hU HW k0 k1 k2 k3 k4 k5 k6
 rintro e w1 ⟨u,us,rfl,hb1,h1⟩
 have HB1:Hid (Below w.heap.size w w1):=ah HB0.out hb1
 obtain⟨⟨q0,q1,q2,q3,q4,q5,q6⟩,g0,g1,g2,g3,g4,g5,g6⟩:=aA ((hb1.block _ bf.out).trans HR0.out)
 clear hb1 HR0 HB0
 obtain⟨b1,d1,f1⟩:=h1.sts.d.shape
 obtain⟨b2,d2,f2⟩:=h1.sts.n.shape
 obtain⟨b3,d3,f3⟩:=h1.sts.h.shape
 obtain⟨b4,d4,f4⟩:=h1.sts.p.shape
 obtain⟨td,tn,th,tp⟩:=u
 dsimp only at f1 f2 f3 f4
 subst f1 f2 f3 f4
 unfold srV
 dsimp only
 have HP:Hid (∀x0 x1 x2 x3 x4 x5 x6:Value,_):=(bZ (w:=w) (b:=w.heap.size) h1 HB1.out bJ.out bf.out)
 clear h1
 go_wp2
 refine bodyPost_ret (v:= .agg #[.int .i64 c,.int .i64 t.ph,.int .i64 t.cu,.slice b1 t.d.length d1,.slice b2 t.n.length d2,.slice b3 t.h.length d3,.slice b4 t.p.length d4]) (by simp[results,Tryz.results45,go_sem,q0,q1,q2,q3,q4,q5,q6]) rfl ⟨⟨.slice b1 t.d.length d1,.slice b2 t.n.length d2,.slice b3 t.h.length d3,.slice b4 t.p.length d4⟩,us,rfl, ?_, ?_⟩
 ·exact(HP.out _ _ _ _ _ _ _).1
 ·exact(HP.out _ _ _ _ _ _ _).2
theorem YQ(R:Rt)(hR:bK R)(lo hi g p:Nat)(s:St)(v:Sv)(aT:List Value)(l:ByteArray)(a o q x n:Int)(w:World)(hso:aG lo hi w v aT s)(hB:StB s)(hs:StC w g s v)(ho:dL w p 6 l a o q x n)(h:stF R s=0):
  Calls Tryz.prog 45 #[.pointer (some ⟨g,0,none⟩),.pointer (some ⟨p,0,none⟩)] w fun e w'=>aQ w (clF R s) (if clF R s=0 then clT R s else stZ) e w':=by
 obtain⟨W,hW⟩:∃W,W=w.alloc aiJ:=⟨_,rfl⟩
 have hBW:Below w.heap.size w W:=by rw[hW];exact aj _
 have hH:W.heap[w.heap.size]? = some aiJ:=by rw[hW];exact heap_alloc_new w _
 have bU:=(Array.getElem?_eq_some_iff.1 hH).1
 have hU:=JZ R hR lo hi g s v aT W (hso.below hBW) hB (hs.below hBW hs.lt) h
 obtain⟨k0,k1,k2,k3,k4,k5,k6⟩:=ho.below hBW
 rw[hW]at k0 k1 k2 k3 k4 k5 k6
 generalize hT:(if clF R s=0 then(clT R s:St)else stZ)=t at hU ⊢
 generalize clF R s=c at hU ⊢
 have HW:Hid (w.alloc aiJ=W):=hW.symm
 have HB0:Hid (Below w.heap.size w W):=hBW
 have bf:Hid (w.heap.size<W.heap.size):=bU
 have HR0:Hid (W.heap[w.heap.size]? = some aiJ):=hH
 have bJ:Hid (w.heap.size<=w.heap.size):=Nat.le_refl _
 clear hT hso hB hs ho h hBW hH bU hW hR
 go_enter Tryz.func45,Tryz.ntmps45
 go_wp2_with fail
 rw[HW.out]
 refine hU.mono ?_
 clear hU HW k0 k1 k2 k3 k4 k5 k6
 rintro e w1 ⟨u,us,rfl,hb1,h1⟩
 have HB1:Hid (Below w.heap.size w w1):=ah HB0.out hb1
 obtain⟨⟨q0,q1,q2,q3,q4,q5,q6⟩,g0,g1,g2,g3,g4,g5,g6⟩:=aA ((hb1.block _ bf.out).trans HR0.out)
 clear hb1 HR0 HB0
 obtain⟨b1,d1,f1⟩:=h1.sts.d.shape
 obtain⟨b2,d2,f2⟩:=h1.sts.n.shape
 obtain⟨b3,d3,f3⟩:=h1.sts.h.shape
 obtain⟨b4,d4,f4⟩:=h1.sts.p.shape
 obtain⟨td,tn,th,tp⟩:=u
 dsimp only at f1 f2 f3 f4
 subst f1 f2 f3 f4
 unfold srV
 dsimp only
 have HP:Hid (∀x0 x1 x2 x3 x4 x5 x6:Value,_):=(bZ (w:=w) (b:=w.heap.size) h1 HB1.out bJ.out bf.out)
 clear h1
 go_wp2
 refine bodyPost_ret (v:= .agg #[.int .i64 c,.int .i64 t.ph,.int .i64 t.cu,.slice b1 t.d.length d1,.slice b2 t.n.length d2,.slice b3 t.h.length d3,.slice b4 t.p.length d4]) (by simp[results,Tryz.results45,go_sem,q0,q1,q2,q3,q4,q5,q6]) rfl ⟨⟨.slice b1 t.d.length d1,.slice b2 t.n.length d2,.slice b3 t.h.length d3,.slice b4 t.p.length d4⟩,us,rfl, ?_, ?_⟩
 ·exact(HP.out _ _ _ _ _ _ _).1
 ·exact(HP.out _ _ _ _ _ _ _).2
theorem UC(R:Rt)(hR:bK R)(lo hi g p:Nat)(s:St)(v:Sv)(aT:List Value)(k:Int)(l:ByteArray)(a o q x n:Int)(w:World)(hso:aG lo hi w v aT s)(hB:StB s)(hs:StC w g s v)(ho:dL w p k l a o q x n)(hp:p<w.heap.size)(hl:l.size<=1048576)(h:stF R s=0)(hk:dF k l a o q x n=0):
  Calls Tryz.prog 45 #[.pointer (some ⟨g,0,none⟩),.pointer (some ⟨p,0,none⟩)] w fun e w'=>aQ w (dnC R s k ⟨l,a,o,q⟩ x n) (if dnC R s k ⟨l,a,o,q⟩ x n=0 then dnT R s k ⟨l,a,o,q⟩ x n else stZ) e w':=by
 rcases aa7 hk with⟨rfl,-⟩ |⟨rfl,-⟩ |⟨rfl | rfl | rfl | rfl,-⟩
 ·exact YL R lo hi g p s v aT l a o q x n w hso hB hs ho hp hl h
 ·exact YN R lo hi g p s v aT l a o q x n w hso hB hs ho h
 ·exact YM R lo hi g p s v aT l a o q x n w hso hB hs ho h
 ·exact YO R lo hi g p s v aT l a o q x n w hso hB hs ho h
 ·exact YP R lo hi g p s v aT l a o q x n w hso hB hs ho h
 ·exact YQ R hR lo hi g p s v aT l a o q x n w hso hB hs ho h
theorem Mc(R:Rt)(hR:bK R)(lo hi:Nat)(s:St)(v:Sv)(aT:List Value)(k:Int)(l:ByteArray)(a o q x n:Int)(w:World)(hso:aG lo hi w v aT s)(hB:StB s)(_hl:l.size<=1048576)(h:¬stF R s=0):
  Calls Tryz.prog 17 #[stV s v,opV k l a o q x n] w fun e w'=>aQ w (stF R s) stZ e w':=by
 have hv:=hso.sts
 obtain⟨W,hW⟩:∃W,W=((w.alloc (stC s v 41)).alloc (.cells #[.int .i64 k,.string l,.int .i64 a,.int .i64 o,.int .i64 q,.int .i64 x,.int .i64 n] 58)).alloc aiJ:=⟨_,rfl⟩
 have hBW:Below w.heap.size w W:=by rw[hW];exact(aH _ _).alloc (aH (w:=w) _ _).size _
 have hH:W.heap[w.heap.size+1+1]? = some aiJ:=by
  have:=heap_alloc_new ((w.alloc (stC s v 41)).alloc (.cells #[.int .i64 k,.string l,.int .i64 a,.int .i64 o,.int .i64 q,.int .i64 x,.int .i64 n] 58)) aiJ
  rw[World.size_alloc,World.size_alloc]at this
  rw[hW]
  exact this
 have hO:dL W (w.heap.size+1) k l a o q x n:=by
  have h1:=dL.new (w.alloc (stC s v 41)) k l a o q x n 58
  rw[World.size_alloc]at h1
  rw[hW]
  exact h1.below (aj _)
 have hC0:StC W w.heap.size s v:=by rw[hW];exact((StC.new w s v _).below (aj _) (by simp)).below (aj _) (by simp;omega)
 have bU:=(Array.getElem?_eq_some_iff.1 hH).1
 have hF:=sV R hR w.heap.size s v W hC0 (hv.below hBW) hB
 have yM:=fun c w=>iT c w
 have hq:=jw h
 generalize stF R s=c at *
 generalize hT:stZ=t at *
 obtain⟨a1,c1,e1⟩:=hv.d.shape
 obtain⟨a2,c2,e2⟩:=hv.n.shape
 obtain⟨a3,c3,e3⟩:=hv.h.shape
 obtain⟨a4,c4,e4⟩:=hv.p.shape
 unfold stC at hW
 unfold stV
 rw[e1,e2,e3,e4]at hW ⊢
 unfold opV
 have HW:Hid (_=W):=hW.symm
 have aC:Hid (Below w.heap.size w W):=hBW
 have dM:Hid (w.heap.size+1+1<W.heap.size):=bU
 have HRW:Hid (W.heap[w.heap.size+1+1]? = some aiJ):=hH
 have bJ:Hid (w.heap.size<=w.heap.size+1+1):=by show w.heap.size<=w.heap.size+1+1;omega
 clear hso hv hB hR hC0 hBW hH bU hW e1 e2 e3 e4 h hT hO _hl
 go_enter Tryz.func17,Tryz.ntmps17
 go_wp2_with fail
 rw[HW.out]
 refine hF.mono ?_
 rintro e w0 ⟨rfl,hb0⟩
 have hC:=yM c w0
 have HB0:Hid (Below w.heap.size w w0):=ah aC.out hb0
 have bf:Hid (w.heap.size+1+1<w0.heap.size):=Nat.lt_of_lt_of_le dM.out hb0.size
 have HR0:Hid (w0.heap[w.heap.size+1+1]? = some aiJ):=(hb0.block _ dM.out).trans HRW.out
 clear hF HW hb0 HRW aC dM yM
 go_wp2_with fail
 refine hC.mono ?_
 clear hC
 rintro e w1 ⟨u,us,rfl,hb1,h1⟩
 have HB1:Hid (Below w.heap.size w w1):=ah HB0.out hb1
 obtain⟨⟨q0,q1,q2,q3,q4,q5,q6⟩,g0,g1,g2,g3,g4,g5,g6⟩:=aA ((hb1.block _ bf.out).trans HR0.out)
 clear hb1 HR0 HB0
 obtain⟨b1,d1,f1⟩:=h1.sts.d.shape
 obtain⟨b2,d2,f2⟩:=h1.sts.n.shape
 obtain⟨b3,d3,f3⟩:=h1.sts.h.shape
 obtain⟨b4,d4,f4⟩:=h1.sts.p.shape
 obtain⟨td,tn,th,tp⟩:=u
 dsimp only at f1 f2 f3 f4
 subst f1 f2 f3 f4
 unfold srV
 dsimp only
 have HP:Hid (∀x0 x1 x2 x3 x4 x5 x6:Value,_):=(bZ (w:=w) (b:=w.heap.size+1+1) h1 HB1.out bJ.out bf.out)
 clear h1
 go_wp2
 refine bodyPost_ret (v:= .agg #[.int .i64 c,.int .i64 t.ph,.int .i64 t.cu,.slice b1 t.d.length d1,.slice b2 t.n.length d2,.slice b3 t.h.length d3,.slice b4 t.p.length d4]) (by simp[results,Tryz.results17,go_sem,q0,q1,q2,q3,q4,q5,q6]) rfl ⟨⟨.slice b1 t.d.length d1,.slice b2 t.n.length d2,.slice b3 t.h.length d3,.slice b4 t.p.length d4⟩,us,rfl, ?_, ?_⟩
 ·exact(HP.out _ _ _ _ _ _ _).1
 ·exact(HP.out _ _ _ _ _ _ _).2
theorem Oe(R:Rt)(hR:bK R)(lo hi:Nat)(s:St)(v:Sv)(aT:List Value)(k:Int)(l:ByteArray)(a o q x n:Int)(w:World)(hso:aG lo hi w v aT s)(hB:StB s)(hl:l.size<=1048576)(h:stF R s=0)(hk:¬dF k l a o q x n=0):
  Calls Tryz.prog 17 #[stV s v,opV k l a o q x n] w fun e w'=>aQ w (dF k l a o q x n) stZ e w':=by
 have hv:=hso.sts
 obtain⟨W,hW⟩:∃W,W=((w.alloc (stC s v 41)).alloc (.cells #[.int .i64 k,.string l,.int .i64 a,.int .i64 o,.int .i64 q,.int .i64 x,.int .i64 n] 58)).alloc aiJ:=⟨_,rfl⟩
 have hBW:Below w.heap.size w W:=by rw[hW];exact(aH _ _).alloc (aH (w:=w) _ _).size _
 have hH:W.heap[w.heap.size+1+1]? = some aiJ:=by
  have:=heap_alloc_new ((w.alloc (stC s v 41)).alloc (.cells #[.int .i64 k,.string l,.int .i64 a,.int .i64 o,.int .i64 q,.int .i64 x,.int .i64 n] 58)) aiJ
  rw[World.size_alloc,World.size_alloc]at this
  rw[hW]
  exact this
 have hO:dL W (w.heap.size+1) k l a o q x n:=by
  have h1:=dL.new (w.alloc (stC s v 41)) k l a o q x n 58
  rw[World.size_alloc]at h1
  rw[hW]
  exact h1.below (aj _)
 have hC0:StC W w.heap.size s v:=by rw[hW];exact((StC.new w s v _).below (aj _) (by simp)).below (aj _) (by simp;omega)
 have bU:=(Array.getElem?_eq_some_iff.1 hH).1
 have hF:=sV R hR w.heap.size s v W hC0 (hv.below hBW) hB
 have HK:Hid (∀w',Below W.heap.size W w'->Calls Tryz.prog 44 #[.pointer (some ⟨w.heap.size+1,0,none⟩)] w' fun e w''=>e = .returned (.int .i64 (dF k l a o q x n))/\Below w'.heap.size w' w''):=fun w' hb=>zq (w.heap.size+1) k l a o q x n w' (hO.below hb) hl
 have yM:=fun c w=>iT c w
 have hq:=jw hk
 generalize dF k l a o q x n=c at *
 generalize hT:stZ=t at *
 rw[h]at hF
 obtain⟨a1,c1,e1⟩:=hv.d.shape
 obtain⟨a2,c2,e2⟩:=hv.n.shape
 obtain⟨a3,c3,e3⟩:=hv.h.shape
 obtain⟨a4,c4,e4⟩:=hv.p.shape
 unfold stC at hW
 unfold stV
 rw[e1,e2,e3,e4]at hW ⊢
 unfold opV
 have HW:Hid (_=W):=hW.symm
 have aC:Hid (Below w.heap.size w W):=hBW
 have dM:Hid (w.heap.size+1+1<W.heap.size):=bU
 have HRW:Hid (W.heap[w.heap.size+1+1]? = some aiJ):=hH
 have bJ:Hid (w.heap.size<=w.heap.size+1+1):=by show w.heap.size<=w.heap.size+1+1;omega
 clear hso hv hB hR hC0 hBW hH bU hW e1 e2 e3 e4 h hT hO hl hk
 go_enter Tryz.func17,Tryz.ntmps17
 go_wp2_with fail
 rw[HW.out]
 refine hF.mono ?_
 rintro e w0 ⟨rfl,hb0⟩
 have hK:=HK.out w0 hb0
 clear hF HW HK
 go_wp2_with fail
 refine hK.mono ?_
 rintro e w2 ⟨rfl,hb2⟩
 have hb0:=ah hb0 hb2
 clear hb2 hK
 have HB0:Hid (Below w.heap.size w w2):=ah aC.out hb0
 have bf:Hid (w.heap.size+1+1<w2.heap.size):=Nat.lt_of_lt_of_le dM.out hb0.size
 have HR0:Hid (w2.heap[w.heap.size+1+1]? = some aiJ):=(hb0.block _ dM.out).trans HRW.out
 have hC:=yM c w2
 clear hb0 HRW aC dM yM
 go_wp2_with fail
 refine hC.mono ?_
 clear hC
 rintro e w1 ⟨u,us,rfl,hb1,h1⟩
 have HB1:Hid (Below w.heap.size w w1):=ah HB0.out hb1
 obtain⟨⟨q0,q1,q2,q3,q4,q5,q6⟩,g0,g1,g2,g3,g4,g5,g6⟩:=aA ((hb1.block _ bf.out).trans HR0.out)
 clear hb1 HR0 HB0
 obtain⟨b1,d1,f1⟩:=h1.sts.d.shape
 obtain⟨b2,d2,f2⟩:=h1.sts.n.shape
 obtain⟨b3,d3,f3⟩:=h1.sts.h.shape
 obtain⟨b4,d4,f4⟩:=h1.sts.p.shape
 obtain⟨td,tn,th,tp⟩:=u
 dsimp only at f1 f2 f3 f4
 subst f1 f2 f3 f4
 unfold srV
 dsimp only
 have HP:Hid (∀x0 x1 x2 x3 x4 x5 x6:Value,_):=(bZ (w:=w) (b:=w.heap.size+1+1) h1 HB1.out bJ.out bf.out)
 clear h1
 go_wp2
 refine bodyPost_ret (v:= .agg #[.int .i64 c,.int .i64 t.ph,.int .i64 t.cu,.slice b1 t.d.length d1,.slice b2 t.n.length d2,.slice b3 t.h.length d3,.slice b4 t.p.length d4]) (by simp[results,Tryz.results17,go_sem,q0,q1,q2,q3,q4,q5,q6]) rfl ⟨⟨.slice b1 t.d.length d1,.slice b2 t.n.length d2,.slice b3 t.h.length d3,.slice b4 t.p.length d4⟩,us,rfl, ?_, ?_⟩
 ·exact(HP.out _ _ _ _ _ _ _).1
 ·exact(HP.out _ _ _ _ _ _ _).2
theorem Md(R:Rt)(hR:bK R)(lo hi:Nat)(s:St)(v:Sv)(aT:List Value)(k:Int)(l:ByteArray)(a o q x n:Int)(w:World)(hso:aG lo hi w v aT s)(hB:StB s)(hl:l.size<=1048576)(h:stF R s=0)(hk:dF k l a o q x n=0):
  Calls Tryz.prog 17 #[stV s v,opV k l a o q x n] w fun e w'=>aQ w (dnC R s k ⟨l,a,o,q⟩ x n) (if dnC R s k ⟨l,a,o,q⟩ x n=0 then dnT R s k ⟨l,a,o,q⟩ x n else stZ) e w':=by
 have hv:=hso.sts
 obtain⟨W,hW⟩:∃W,W=((w.alloc (stC s v 41)).alloc (.cells #[.int .i64 k,.string l,.int .i64 a,.int .i64 o,.int .i64 q,.int .i64 x,.int .i64 n] 58)).alloc aiJ:=⟨_,rfl⟩
 have hBW:Below w.heap.size w W:=by rw[hW];exact(aH _ _).alloc (aH (w:=w) _ _).size _
 have hH:W.heap[w.heap.size+1+1]? = some aiJ:=by
  have:=heap_alloc_new ((w.alloc (stC s v 41)).alloc (.cells #[.int .i64 k,.string l,.int .i64 a,.int .i64 o,.int .i64 q,.int .i64 x,.int .i64 n] 58)) aiJ
  rw[World.size_alloc,World.size_alloc]at this
  rw[hW]
  exact this
 have hO:dL W (w.heap.size+1) k l a o q x n:=by
  have h1:=dL.new (w.alloc (stC s v 41)) k l a o q x n 58
  rw[World.size_alloc]at h1
  rw[hW]
  exact h1.below (aj _)
 have hC0:StC W w.heap.size s v:=by rw[hW];exact((StC.new w s v _).below (aj _) (by simp)).below (aj _) (by simp;omega)
 have bU:=(Array.getElem?_eq_some_iff.1 hH).1
 have hF:=sV R hR w.heap.size s v W hC0 (hv.below hBW) hB
 have HK:Hid (∀w',Below W.heap.size W w'->Calls Tryz.prog 44 #[.pointer (some ⟨w.heap.size+1,0,none⟩)] w' fun e w''=>e = .returned (.int .i64 (dF k l a o q x n))/\Below w'.heap.size w' w''):=fun w' hb=>zq (w.heap.size+1) k l a o q x n w' (hO.below hb) hl
 have HD:Hid (∀w',Below W.heap.size W w'->Calls Tryz.prog 45 #[.pointer (some ⟨w.heap.size,0,none⟩),.pointer (some ⟨w.heap.size+1,0,none⟩)] w' fun e w''=>aQ w' (dnC R s k ⟨l,a,o,q⟩ x n) (if dnC R s k ⟨l,a,o,q⟩ x n=0 then dnT R s k ⟨l,a,o,q⟩ x n else stZ) e w''):=fun w' hb=>UC R hR lo hi w.heap.size (w.heap.size+1) s v aT k l a o q x n w' (hso.below (ah hBW hb)) hB (hC0.below hb hC0.lt) (hO.below hb) (by have:=hb.size;omega) hl h hk
 rw[hk]at HK
 generalize hT:(if dnC R s k ⟨l,a,o,q⟩ x n=0 then dnT R s k ⟨l,a,o,q⟩ x n else stZ)=t at HD ⊢
 generalize dnC R s k ⟨l,a,o,q⟩ x n=c at HD ⊢
 rw[h]at hF
 obtain⟨a1,c1,e1⟩:=hv.d.shape
 obtain⟨a2,c2,e2⟩:=hv.n.shape
 obtain⟨a3,c3,e3⟩:=hv.h.shape
 obtain⟨a4,c4,e4⟩:=hv.p.shape
 unfold stC at hW
 unfold stV
 rw[e1,e2,e3,e4]at hW ⊢
 unfold opV
 have HW:Hid (_=W):=hW.symm
 have aC:Hid (Below w.heap.size w W):=hBW
 have dM:Hid (w.heap.size+1+1<W.heap.size):=bU
 have HRW:Hid (W.heap[w.heap.size+1+1]? = some aiJ):=hH
 have bJ:Hid (w.heap.size<=w.heap.size+1+1):=by show w.heap.size<=w.heap.size+1+1;omega
 clear hso hv hB hR hC0 hBW hH bU hW e1 e2 e3 e4 h hT hO hl hk
 go_enter Tryz.func17,Tryz.ntmps17
 go_wp2_with fail
 rw[HW.out]
 refine hF.mono ?_
 rintro e w0 ⟨rfl,hb0⟩
 have hK:=HK.out w0 hb0
 clear hF HW HK
 go_wp2_with fail
 refine hK.mono ?_
 rintro e w2 ⟨rfl,hb2⟩
 have hb0:=ah hb0 hb2
 clear hb2 hK
 have HB0:Hid (Below w.heap.size w w2):=ah aC.out hb0
 have bf:Hid (w.heap.size+1+1<w2.heap.size):=Nat.lt_of_lt_of_le dM.out hb0.size
 have HR0:Hid (w2.heap[w.heap.size+1+1]? = some aiJ):=(hb0.block _ dM.out).trans HRW.out
 have hC:=HD.out w2 hb0
 clear hb0 HRW aC dM HD
 go_wp2_with fail
 refine hC.mono ?_
 clear hC
 rintro e w1 ⟨u,us,rfl,hb1,h1⟩
 have HB1:Hid (Below w.heap.size w w1):=ah HB0.out hb1
 obtain⟨⟨q0,q1,q2,q3,q4,q5,q6⟩,g0,g1,g2,g3,g4,g5,g6⟩:=aA ((hb1.block _ bf.out).trans HR0.out)
 clear hb1 HR0 HB0
 obtain⟨b1,d1,f1⟩:=h1.sts.d.shape
 obtain⟨b2,d2,f2⟩:=h1.sts.n.shape
 obtain⟨b3,d3,f3⟩:=h1.sts.h.shape
 obtain⟨b4,d4,f4⟩:=h1.sts.p.shape
 obtain⟨td,tn,th,tp⟩:=u
 dsimp only at f1 f2 f3 f4
 subst f1 f2 f3 f4
 unfold srV
 dsimp only
 have HP:Hid (∀x0 x1 x2 x3 x4 x5 x6:Value,_):=(bZ (w:=w) (b:=w.heap.size+1+1) h1 HB1.out bJ.out bf.out)
 clear h1
 go_wp2
 refine bodyPost_ret (v:= .agg #[.int .i64 c,.int .i64 t.ph,.int .i64 t.cu,.slice b1 t.d.length d1,.slice b2 t.n.length d2,.slice b3 t.h.length d3,.slice b4 t.p.length d4]) (by simp[results,Tryz.results17,go_sem,q0,q1,q2,q3,q4,q5,q6]) rfl ⟨⟨.slice b1 t.d.length d1,.slice b2 t.n.length d2,.slice b3 t.h.length d3,.slice b4 t.p.length d4⟩,us,rfl, ?_, ?_⟩
 ·exact(HP.out _ _ _ _ _ _ _).1
 ·exact(HP.out _ _ _ _ _ _ _).2
theorem L9(R:Rt)(hR:bK R)(lo hi:Nat)(s:St)(v:Sv)(aT:List Value)(k:Int)(l:ByteArray)(a o q x n:Int)(w:World)(hso:aG lo hi w v aT s)(hB:StB s)(hl:l.size<=1048576):
  Calls Tryz.prog 17 #[stV s v,opV k l a o q x n] w fun e w'=>aQ w (doC R s k ⟨l,a,o,q⟩ x n) (if doC R s k ⟨l,a,o,q⟩ x n=0 then dnT R s k ⟨l,a,o,q⟩ x n else stZ) e w':=by
 unfold doC
 by_cases h:stF R s=0
 ·rw[if_pos h]
  by_cases hk:dF k l a o q x n=0
  ·rw[if_pos hk]
   exact Md R hR lo hi s v aT k l a o q x n w hso hB hl h hk
  ·rw[if_neg hk,if_neg hk]
   exact Oe R hR lo hi s v aT k l a o q x n w hso hB hl h hk
 ·rw[if_neg h,if_neg h]
  exact Mc R hR lo hi s v aT k l a o q x n w hso hB hl h
end U
end Go.Proofs.YtmmcgjacojgeaaaGreat
