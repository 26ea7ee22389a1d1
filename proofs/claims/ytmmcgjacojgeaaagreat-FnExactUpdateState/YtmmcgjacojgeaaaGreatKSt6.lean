/- The fault of a state, by the model; both, at one state. -/
import Derived.Test.YtmmcgjacojgeaaaGreatKSt5
import Derived.Test.YtmmcgjacojgeaaaGreatKSt3
set_option maxRecDepth 100000
set_option maxHeartbeats 4000000
namespace Go.Proofs.YtmmcgjacojgeaaaGreat
open Go.RowKit
namespace U
theorem Jw(g:Nat)(s:St)(v:Sv)(w:World)(hs:StC w g s v)(hv:Sts w v s)(hB:StB s)(h1:inB s.ph 1 5=false):
  Calls Tryz.prog 24 #[.pointer (some ⟨g,0,none⟩)] w fun e w'=>e = .returned (.int .i64 (3))/\Below w.heap.size w w':=by
 have hnn:=cZ
 have HST:Hid (∀w',Below w.heap.size w w'->StC w' g s v):=fun w' hb=>hs.below hb hs.lt
 have hI:=fun w=>bg s.ph 1 5 w
 have hD:=fun w' hb=>iQ g 2 v.d s.d w' (HST.out w' hb).lt (HST.out w' hb).c2 (hv.d.below (w':=w') hb) hB.dl (by have:=hB.d;omega)
 rw[h1]at hI
 have rW:Hid (∀w',Below w.heap.size w w'->w'.cell? ⟨g,0,none⟩=some (.int .i64 s.ph)):=fun w' hb=>(HST.out w' hb).c0
 have hbr:Below w.heap.size w w:=Below.refl _ _
 obtain⟨ph,cu,d,n,h,p⟩:=s
 dsimp only at *
 have g0:=rW.out _ hbr
 clear hs hv hB HST
 go_enter Tryz.func24,Tryz.ntmps24
 go_wp2_with fail
 refine(hI _).mono ?_
 rintro e w0 ⟨rfl,hw0⟩
 have hbr:Below w.heap.size w w0:=by rw[hw0];exact Below.refl _ _
 clear hw0 hI g0
 clear hD h1
 go_wp2
 go_ret
 exact⟨rfl,hbr⟩
theorem GK(g:Nat)(s:St)(v:Sv)(w:World)(hs:StC w g s v)(hv:Sts w v s)(hB:StB s)(h1:inB s.ph 1 5=true)(h2:¬aB s.d=0):
  Calls Tryz.prog 24 #[.pointer (some ⟨g,0,none⟩)] w fun e w'=>e = .returned (.int .i64 (aB s.d))/\Below w.heap.size w w':=by
 have hnn:=cZ
 have HST:Hid (∀w',Below w.heap.size w w'->StC w' g s v):=fun w' hb=>hs.below hb hs.lt
 have hI:=fun w=>bg s.ph 1 5 w
 have hD:=fun w' hb=>iQ g 2 v.d s.d w' (HST.out w' hb).lt (HST.out w' hb).c2 (hv.d.below (w':=w') hb) hB.dl (by have:=hB.d;omega)
 rw[h1]at hI
 have hnz:(aB s.d != 0)=true:=by simpa using h2
 generalize aB s.d=fd at *
 have rW:Hid (∀w',Below w.heap.size w w'->w'.cell? ⟨g,0,none⟩=some (.int .i64 s.ph)):=fun w' hb=>(HST.out w' hb).c0
 have hbr:Below w.heap.size w w:=Below.refl _ _
 obtain⟨ph,cu,d,n,h,p⟩:=s
 dsimp only at *
 have g0:=rW.out _ hbr
 clear hs hv hB HST
 go_enter Tryz.func24,Tryz.ntmps24
 go_wp2_with fail
 refine(hI _).mono ?_
 rintro e w0 ⟨rfl,hw0⟩
 have hbr:Below w.heap.size w w0:=by rw[hw0];exact Below.refl _ _
 clear hw0 hI g0
 clear h1 h2
 have qQ:=hD _ hbr
 clear hD
 go_wp2_with fail
 refine qQ.mono ?_
 rintro e w1 ⟨rfl,hbX⟩
 have hbr:Below w.heap.size w w1:=ah hbr hbX
 clear qQ hbX
 go_wp2
 go_ret
 exact⟨rfl,hbr⟩
theorem ED(g:Nat)(s:St)(v:Sv)(w:World)(hs:StC w g s v)(hv:Sts w v s)(hB:StB s)(h1:inB s.ph 1 5=true)(h2:aB s.d=0)(h3:stN s=false):
  Calls Tryz.prog 24 #[.pointer (some ⟨g,0,none⟩)] w fun e w'=>e = .returned (.int .i64 (1))/\Below w.heap.size w w':=by
 have hnn:=cZ
 have HST:Hid (∀w',Below w.heap.size w w'->StC w' g s v):=fun w' hb=>hs.below hb hs.lt
 have hI:=fun w=>bg s.ph 1 5 w
 have hD:=fun w' hb=>iQ g 2 v.d s.d w' (HST.out w' hb).lt (HST.out w' hb).c2 (hv.d.below (w':=w') hb) hB.dl (by have:=hB.d;omega)
 have lW:=fun w' hb=>nX g s v w' (HST.out w' hb) (hv.below (w':=w') hb) hB h1 h2
 rw[h1]at hI
 rw[h2]at hD
 rw[h3]at lW
 have rW:Hid (∀w',Below w.heap.size w w'->w'.cell? ⟨g,0,none⟩=some (.int .i64 s.ph)):=fun w' hb=>(HST.out w' hb).c0
 have hbr:Below w.heap.size w w:=Below.refl _ _
 obtain⟨ph,cu,d,n,h,p⟩:=s
 dsimp only at *
 have g0:=rW.out _ hbr
 clear hs hv hB HST
 go_enter Tryz.func24,Tryz.ntmps24
 go_wp2_with fail
 refine(hI _).mono ?_
 rintro e w0 ⟨rfl,hw0⟩
 have hbr:Below w.heap.size w w0:=by rw[hw0];exact Below.refl _ _
 clear hw0 hI g0
 clear h1 h2 h3
 have qQ:=hD _ hbr
 clear hD
 go_wp2_with fail
 refine qQ.mono ?_
 rintro e w1 ⟨rfl,hbX⟩
 have hbr:Below w.heap.size w w1:=ah hbr hbX
 clear qQ hbX
 have qm:=lW _ hbr
 clear lW
 go_wp2_with fail
 refine qm.mono ?_
 rintro e w2 ⟨rfl,hbX⟩
 have hbr:Below w.heap.size w w2:=ah hbr hbX
 clear qm hbX
 go_wp2
 go_ret
 exact⟨rfl,hbr⟩
theorem GN(R:Rt)(hR:iZ R)(g:Nat)(s:St)(v:Sv)(w:World)(hs:StC w g s v)(hv:Sts w v s)(hB:StB s)(h1:inB s.ph 1 5=true)(h2:aB s.d=0)(h3:stN s=true)(h5:¬eY R s.h s.p=0):
  Calls Tryz.prog 24 #[.pointer (some ⟨g,0,none⟩)] w fun e w'=>e = .returned (.int .i64 (eY R s.h s.p))/\Below w.heap.size w w':=by
 have hnn:=cZ
 have HST:Hid (∀w',Below w.heap.size w w'->StC w' g s v):=fun w' hb=>hs.below hb hs.lt
 have hI:=fun w=>bg s.ph 1 5 w
 have hD:=fun w' hb=>iQ g 2 v.d s.d w' (HST.out w' hb).lt (HST.out w' hb).c2 (hv.d.below (w':=w') hb) hB.dl (by have:=hB.d;omega)
 have lW:=fun w' hb=>nX g s v w' (HST.out w' hb) (hv.below (w':=w') hb) hB h1 h2
 have hH:=fun w' hb=>rQ R hR g v.h v.p s.h s.p w' (HST.out w' hb).lt (HST.out w' hb).c4 (HST.out w' hb).c5 (hv.h.below (w':=w') hb) (hv.p.below hb) hB.h hB.p hB.pd
 rw[h1]at hI
 rw[h2]at hD
 rw[h3]at lW
 have hnz:(eY R s.h s.p != 0)=true:=by simpa using h5
 generalize eY R s.h s.p=fh at *
 have rW:Hid (∀w',Below w.heap.size w w'->w'.cell? ⟨g,0,none⟩=some (.int .i64 s.ph)):=fun w' hb=>(HST.out w' hb).c0
 have hbr:Below w.heap.size w w:=Below.refl _ _
 obtain⟨ph,cu,d,n,h,p⟩:=s
 dsimp only at *
 have g0:=rW.out _ hbr
 clear hs hv hB HST
 go_enter Tryz.func24,Tryz.ntmps24
 go_wp2_with fail
 refine(hI _).mono ?_
 rintro e w0 ⟨rfl,hw0⟩
 have hbr:Below w.heap.size w w0:=by rw[hw0];exact Below.refl _ _
 clear hw0 hI g0
 clear hR h1 h2 h3 h5
 have qQ:=hD _ hbr
 clear hD
 go_wp2_with fail
 refine qQ.mono ?_
 rintro e w1 ⟨rfl,hbX⟩
 have hbr:Below w.heap.size w w1:=ah hbr hbX
 clear qQ hbX
 have qm:=lW _ hbr
 clear lW
 go_wp2_with fail
 refine qm.mono ?_
 rintro e w2 ⟨rfl,hbX⟩
 have hbr:Below w.heap.size w w2:=ah hbr hbX
 clear qm hbX
 have DU:=hH _ hbr
 clear hH
 go_wp2_with fail
 refine DU.mono ?_
 rintro e w3 ⟨rfl,hbX⟩
 have hbr:Below w.heap.size w w3:=ah hbr hbX
 clear DU hbX
 go_wp2
 go_ret
 exact⟨rfl,hbr⟩
theorem GL(R:Rt)(hR:iZ R)(g:Nat)(s:St)(v:Sv)(w:World)(hs:StC w g s v)(hv:Sts w v s)(hB:StB s)(h1:inB s.ph 1 5=true)(h2:aB s.d=0)(h3:stN s=true)(h5:eY R s.h s.p=0)(h6:gu (phL s.h) s.ph=false):
  Calls Tryz.prog 24 #[.pointer (some ⟨g,0,none⟩)] w fun e w'=>e = .returned (.int .i64 (10))/\Below w.heap.size w w':=by
 have hnn:=cZ
 have HST:Hid (∀w',Below w.heap.size w w'->StC w' g s v):=fun w' hb=>hs.below hb hs.lt
 have hI:=fun w=>bg s.ph 1 5 w
 have hD:=fun w' hb=>iQ g 2 v.d s.d w' (HST.out w' hb).lt (HST.out w' hb).c2 (hv.d.below (w':=w') hb) hB.dl (by have:=hB.d;omega)
 have lW:=fun w' hb=>nX g s v w' (HST.out w' hb) (hv.below (w':=w') hb) hB h1 h2
 have hH:=fun w' hb=>rQ R hR g v.h v.p s.h s.p w' (HST.out w' hb).lt (HST.out w' hb).c4 (HST.out w' hb).c5 (hv.h.below (w':=w') hb) (hv.p.below hb) hB.h hB.p hB.pd
 obtain⟨hch,-⟩:=xQ h5
 have vT:=fun w' hb=>yQ g v.h s.h w' (HST.out w' hb).c4 (hv.h.below (w':=w') hb) (pI hch).2 hB.h
 have oH:=fun w=>oO (phL s.h) s.ph w
 rw[h1]at hI
 rw[h2]at hD
 rw[h3]at lW
 rw[h5]at hH
 rw[h6]at oH
 have rW:Hid (∀w',Below w.heap.size w w'->w'.cell? ⟨g,0,none⟩=some (.int .i64 s.ph)):=fun w' hb=>(HST.out w' hb).c0
 have hbr:Below w.heap.size w w:=Below.refl _ _
 obtain⟨ph,cu,d,n,h,p⟩:=s
 dsimp only at *
 have g0:=rW.out _ hbr
 clear hs hv hB HST
 go_enter Tryz.func24,Tryz.ntmps24
 go_wp2_with fail
 refine(hI _).mono ?_
 rintro e w0 ⟨rfl,hw0⟩
 have hbr:Below w.heap.size w w0:=by rw[hw0];exact Below.refl _ _
 clear hw0 hI g0
 clear hR h1 h2 h3 h5 h6 hch
 have qQ:=hD _ hbr
 clear hD
 go_wp2_with fail
 refine qQ.mono ?_
 rintro e w1 ⟨rfl,hbX⟩
 have hbr:Below w.heap.size w w1:=ah hbr hbX
 clear qQ hbX
 have qm:=lW _ hbr
 clear lW
 go_wp2_with fail
 refine qm.mono ?_
 rintro e w2 ⟨rfl,hbX⟩
 have hbr:Below w.heap.size w w2:=ah hbr hbX
 clear qm hbX
 have DU:=hH _ hbr
 clear hH
 go_wp2_with fail
 refine DU.mono ?_
 rintro e w3 ⟨rfl,hbX⟩
 have hbr:Below w.heap.size w w3:=ah hbr hbX
 clear DU hbX
 have FT:=vT _ hbr
 clear vT
 go_wp2_with fail
 refine FT.mono ?_
 rintro e w4 ⟨rfl,hbX⟩
 have hbr:Below w.heap.size w w4:=ah hbr hbX
 clear FT hbX
 have g0:=rW.out _ hbr
 go_wp2_with fail
 refine(oH _).mono ?_
 rintro e w7 ⟨rfl,hw7⟩
 have hbr:Below w.heap.size w w7:=by rw[hw7];exact hbr
 clear oH hw7 g0
 go_wp2
 go_ret
 exact⟨rfl,hbr⟩
theorem Jv(R:Rt)(hR:iZ R)(g:Nat)(s:St)(v:Sv)(w:World)(hs:StC w g s v)(hv:Sts w v s)(hB:StB s)(h1:inB s.ph 1 5=true)(h2:aB s.d=0)(h3:stN s=true)(h5:eY R s.h s.p=0)(h6:gu (phL s.h) s.ph=true):
  Calls Tryz.prog 24 #[.pointer (some ⟨g,0,none⟩)] w fun e w'=>e = .returned (.int .i64 (0))/\Below w.heap.size w w':=by
 have hnn:=cZ
 have HST:Hid (∀w',Below w.heap.size w w'->StC w' g s v):=fun w' hb=>hs.below hb hs.lt
 have hI:=fun w=>bg s.ph 1 5 w
 have hD:=fun w' hb=>iQ g 2 v.d s.d w' (HST.out w' hb).lt (HST.out w' hb).c2 (hv.d.below (w':=w') hb) hB.dl (by have:=hB.d;omega)
 have lW:=fun w' hb=>nX g s v w' (HST.out w' hb) (hv.below (w':=w') hb) hB h1 h2
 have hH:=fun w' hb=>rQ R hR g v.h v.p s.h s.p w' (HST.out w' hb).lt (HST.out w' hb).c4 (HST.out w' hb).c5 (hv.h.below (w':=w') hb) (hv.p.below hb) hB.h hB.p hB.pd
 obtain⟨hch,-⟩:=xQ h5
 have vT:=fun w' hb=>yQ g v.h s.h w' (HST.out w' hb).c4 (hv.h.below (w':=w') hb) (pI hch).2 hB.h
 have oH:=fun w=>oO (phL s.h) s.ph w
 rw[h1]at hI
 rw[h2]at hD
 rw[h3]at lW
 rw[h5]at hH
 rw[h6]at oH
 have rW:Hid (∀w',Below w.heap.size w w'->w'.cell? ⟨g,0,none⟩=some (.int .i64 s.ph)):=fun w' hb=>(HST.out w' hb).c0
 have hbr:Below w.heap.size w w:=Below.refl _ _
 obtain⟨ph,cu,d,n,h,p⟩:=s
 dsimp only at *
 have g0:=rW.out _ hbr
 clear hs hv hB HST
 go_enter Tryz.func24,Tryz.ntmps24
 go_wp2_with fail
 refine(hI _).mono ?_
 rintro e w0 ⟨rfl,hw0⟩
 have hbr:Below w.heap.size w w0:=by rw[hw0];exact Below.refl _ _
 clear hw0 hI g0
 clear hR h1 h2 h3 h5 h6 hch
 have qQ:=hD _ hbr
 clear hD
 go_wp2_with fail
 refine qQ.mono ?_
 rintro e w1 ⟨rfl,hbX⟩
 have hbr:Below w.heap.size w w1:=ah hbr hbX
 clear qQ hbX
 have qm:=lW _ hbr
 clear lW
 go_wp2_with fail
 refine qm.mono ?_
 rintro e w2 ⟨rfl,hbX⟩
 have hbr:Below w.heap.size w w2:=ah hbr hbX
 clear qm hbX
 have DU:=hH _ hbr
 clear hH
 go_wp2_with fail
 refine DU.mono ?_
 rintro e w3 ⟨rfl,hbX⟩
 have hbr:Below w.heap.size w w3:=ah hbr hbX
 clear DU hbX
 have FT:=vT _ hbr
 clear vT
 go_wp2_with fail
 refine FT.mono ?_
 rintro e w4 ⟨rfl,hbX⟩
 have hbr:Below w.heap.size w w4:=ah hbr hbX
 clear FT hbX
 have g0:=rW.out _ hbr
 go_wp2_with fail
 refine(oH _).mono ?_
 rintro e w7 ⟨rfl,hw7⟩
 have hbr:Below w.heap.size w w7:=by rw[hw7];exact hbr
 clear oH hw7 g0
 go_wp2
 go_ret
 exact⟨rfl,hbr⟩
theorem wM(R:Rt)(hR:iZ R)(g:Nat)(s:St)(v:Sv)(w:World)(hs:StC w g s v)(hv:Sts w v s)(hB:StB s):
  Calls Tryz.prog 24 #[.pointer (some ⟨g,0,none⟩)] w fun e w'=>e = .returned (.int .i64 (stF R s))/\Below w.heap.size w w':=by
 rcases Bool.eq_false_or_eq_true (inB s.ph 1 5)with h1 | h1
 ·by_cases h2:aB s.d=0
  ·rcases Bool.eq_false_or_eq_true (stN s)with h3 | h3
   ·by_cases h5:eY R s.h s.p=0
    ·rcases Bool.eq_false_or_eq_true (gu (phL s.h) s.ph)with h6 | h6
     ·rw[IY h1 h2 h3 h5 h6]
      exact Jv R hR g s v w hs hv hB h1 h2 h3 h5 h6
     ·rw[Dl h1 h2 h3 h5 h6]
      exact GL R hR g s v w hs hv hB h1 h2 h3 h5 h6
    ·rw[Dn h1 h2 h3 h5]
     exact GN R hR g s v w hs hv hB h1 h2 h3 h5
   ·rw[uo h1 h2 h3]
    exact ED g s v w hs hv hB h1 h2 h3
  ·rw[Dk h1 h2]
   exact GK g s v w hs hv hB h1 h2
 ·rw[IZ h1]
  exact Jw g s v w hs hv hB h1
end U
end Go.Proofs.YtmmcgjacojgeaaaGreat
