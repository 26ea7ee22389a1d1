/- The fault of a state, by the model; both, at one state. -/
import Derived.Test.YtmmcgjacojgeaaaGreatGSt5
import Derived.Test.YtmmcgjacojgeaaaGreatGSt3
set_option maxRecDepth 100000
set_option maxHeartbeats 4000000
namespace Go.Proofs.YtmmcgjacojgeaaaGreat
open Go.RowKit
namespace U
theorem Ny(g:Nat)(s:St)(v:Sv)(w:World)(hs:StC w g s v)(hv:Sts w v s)(hB:StB s)(h1:inB s.ph 1 5=false):
  Calls Tryz.prog 24 #[.pointer (some ⟨g,0,none⟩)] w fun e w'=>e = .returned (.int .i64 (3))/\Below w.heap.size w w':=by
 have hnn:=dP
 have HST:Hid (∀w',Below w.heap.size w w'->StC w' g s v):=fun w' hb=>hs.below hb hs.lt
 have hI:=fun w=>aY s.ph 1 5 w
 have hD:=fun w' hb=>jI g 2 v.d s.d w' (HST.out w' hb).lt (HST.out w' hb).c2 (hv.d.below (w':=w') hb) hB.dl (by have:=hB.d;omega)
 rw[h1]at hI
 have vC:Hid (∀w',Below w.heap.size w w'->w'.cell? ⟨g,0,none⟩=some (.int .i64 s.ph)):=fun w' hb=>(HST.out w' hb).c0
 have hbr:Below w.heap.size w w:=Below.refl _ _
 obtain⟨ph,cu,d,n,h,p⟩:=s
 dsimp only at *
 have g0:=vC.out _ hbr
 clear hs hv hB HST
 go_enter Tryz.func24,Tryz.ntmps24
 go_wp2_with fail
 refine(hI _).mono ?_
 rintro e w0 ⟨rfl,hw0⟩
 have hbr:Below w.heap.size w w0:=by rw[hw0];exact Below.refl _ _
 clear hw0 hI g0
 clear hD h1
 go_wp2
 go_ret
 exact⟨rfl,hbr⟩
theorem J3(g:Nat)(s:St)(v:Sv)(w:World)(hs:StC w g s v)(hv:Sts w v s)(hB:StB s)(h1:inB s.ph 1 5=true)(h2:¬aF s.d=0):
  Calls Tryz.prog 24 #[.pointer (some ⟨g,0,none⟩)] w fun e w'=>e = .returned (.int .i64 (aF s.d))/\Below w.heap.size w w':=by
 have hnn:=dP
 have HST:Hid (∀w',Below w.heap.size w w'->StC w' g s v):=fun w' hb=>hs.below hb hs.lt
 have hI:=fun w=>aY s.ph 1 5 w
 have hD:=fun w' hb=>jI g 2 v.d s.d w' (HST.out w' hb).lt (HST.out w' hb).c2 (hv.d.below (w':=w') hb) hB.dl (by have:=hB.d;omega)
 rw[h1]at hI
 have hnz:(aF s.d != 0)=true:=by simpa using h2
 generalize aF s.d=fd at *
 have vC:Hid (∀w',Below w.heap.size w w'->w'.cell? ⟨g,0,none⟩=some (.int .i64 s.ph)):=fun w' hb=>(HST.out w' hb).c0
 have hbr:Below w.heap.size w w:=Below.refl _ _
 obtain⟨ph,cu,d,n,h,p⟩:=s
 dsimp only at *
 have g0:=vC.out _ hbr
 clear hs hv hB HST
 go_enter Tryz.func24,Tryz.ntmps24
 go_wp2_with fail
 refine(hI _).mono ?_
 rintro e w0 ⟨rfl,hw0⟩
 have hbr:Below w.heap.size w w0:=by rw[hw0];exact Below.refl _ _
 clear hw0 hI g0
 clear h1 h2
 have uw:=hD _ hbr
 clear hD
 go_wp2_with fail
 refine uw.mono ?_
 rintro e w1 ⟨rfl,hbX⟩
 have hbr:Below w.heap.size w w1:=ah hbr hbX
 clear uw hbX
 go_wp2
 go_ret
 exact⟨rfl,hbr⟩
theorem Ig(g:Nat)(s:St)(v:Sv)(w:World)(hs:StC w g s v)(hv:Sts w v s)(hB:StB s)(h1:inB s.ph 1 5=true)(h2:aF s.d=0)(h3:stN s=false):
  Calls Tryz.prog 24 #[.pointer (some ⟨g,0,none⟩)] w fun e w'=>e = .returned (.int .i64 (1))/\Below w.heap.size w w':=by
 have hnn:=dP
 have HST:Hid (∀w',Below w.heap.size w w'->StC w' g s v):=fun w' hb=>hs.below hb hs.lt
 have hI:=fun w=>aY s.ph 1 5 w
 have hD:=fun w' hb=>jI g 2 v.d s.d w' (HST.out w' hb).lt (HST.out w' hb).c2 (hv.d.below (w':=w') hb) hB.dl (by have:=hB.d;omega)
 have nX:=fun w' hb=>pY g s v w' (HST.out w' hb) (hv.below (w':=w') hb) hB h1 h2
 rw[h1]at hI
 rw[h2]at hD
 rw[h3]at nX
 have vC:Hid (∀w',Below w.heap.size w w'->w'.cell? ⟨g,0,none⟩=some (.int .i64 s.ph)):=fun w' hb=>(HST.out w' hb).c0
 have hbr:Below w.heap.size w w:=Below.refl _ _
 obtain⟨ph,cu,d,n,h,p⟩:=s
 dsimp only at *
 have g0:=vC.out _ hbr
 clear hs hv hB HST
 go_enter Tryz.func24,Tryz.ntmps24
 go_wp2_with fail
 refine(hI _).mono ?_
 rintro e w0 ⟨rfl,hw0⟩
 have hbr:Below w.heap.size w w0:=by rw[hw0];exact Below.refl _ _
 clear hw0 hI g0
 clear h1 h2 h3
 have uw:=hD _ hbr
 clear hD
 go_wp2_with fail
 refine uw.mono ?_
 rintro e w1 ⟨rfl,hbX⟩
 have hbr:Below w.heap.size w w1:=ah hbr hbX
 clear uw hbX
 have sK:=nX _ hbr
 clear nX
 go_wp2_with fail
 refine sK.mono ?_
 rintro e w2 ⟨rfl,hbX⟩
 have hbr:Below w.heap.size w w2:=ah hbr hbX
 clear sK hbX
 go_wp2
 go_ret
 exact⟨rfl,hbr⟩
theorem J5(R:Rt)(hR:bK R)(g:Nat)(s:St)(v:Sv)(w:World)(hs:StC w g s v)(hv:Sts w v s)(hB:StB s)(h1:inB s.ph 1 5=true)(h2:aF s.d=0)(h3:stN s=true)(h5:¬gq R s.h s.p=0):
  Calls Tryz.prog 24 #[.pointer (some ⟨g,0,none⟩)] w fun e w'=>e = .returned (.int .i64 (gq R s.h s.p))/\Below w.heap.size w w':=by
 have hnn:=dP
 have HST:Hid (∀w',Below w.heap.size w w'->StC w' g s v):=fun w' hb=>hs.below hb hs.lt
 have hI:=fun w=>aY s.ph 1 5 w
 have hD:=fun w' hb=>jI g 2 v.d s.d w' (HST.out w' hb).lt (HST.out w' hb).c2 (hv.d.below (w':=w') hb) hB.dl (by have:=hB.d;omega)
 have nX:=fun w' hb=>pY g s v w' (HST.out w' hb) (hv.below (w':=w') hb) hB h1 h2
 have hH:=fun w' hb=>uZ R hR g v.h v.p s.h s.p w' (HST.out w' hb).lt (HST.out w' hb).c4 (HST.out w' hb).c5 (hv.h.below (w':=w') hb) (hv.p.below hb) hB.h hB.p hB.pd
 rw[h1]at hI
 rw[h2]at hD
 rw[h3]at nX
 have hnz:(gq R s.h s.p != 0)=true:=by simpa using h5
 generalize gq R s.h s.p=fh at *
 have vC:Hid (∀w',Below w.heap.size w w'->w'.cell? ⟨g,0,none⟩=some (.int .i64 s.ph)):=fun w' hb=>(HST.out w' hb).c0
 have hbr:Below w.heap.size w w:=Below.refl _ _
 obtain⟨ph,cu,d,n,h,p⟩:=s
 dsimp only at *
 have g0:=vC.out _ hbr
 clear hs hv hB HST
 go_enter Tryz.func24,Tryz.ntmps24
 go_wp2_with fail
 refine(hI _).mono ?_
 rintro e w0 ⟨rfl,hw0⟩
 have hbr:Below w.heap.size w w0:=by rw[hw0];exact Below.refl _ _
 clear hw0 hI g0
 clear hR h1 h2 h3 h5
 have uw:=hD _ hbr
 clear hD
 go_wp2_with fail
 refine uw.mono ?_
 rintro e w1 ⟨rfl,hbX⟩
 have hbr:Below w.heap.size w w1:=ah hbr hbX
 clear uw hbX
 have sK:=nX _ hbr
 clear nX
 go_wp2_with fail
 refine sK.mono ?_
 rintro e w2 ⟨rfl,hbX⟩
 have hbr:Below w.heap.size w w2:=ah hbr hbX
 clear sK hbX
 have GH:=hH _ hbr
 clear hH
 go_wp2_with fail
 refine GH.mono ?_
 rintro e w3 ⟨rfl,hbX⟩
 have hbr:Below w.heap.size w w3:=ah hbr hbX
 clear GH hbX
 go_wp2
 go_ret
 exact⟨rfl,hbr⟩
theorem J4(R:Rt)(hR:bK R)(g:Nat)(s:St)(v:Sv)(w:World)(hs:StC w g s v)(hv:Sts w v s)(hB:StB s)(h1:inB s.ph 1 5=true)(h2:aF s.d=0)(h3:stN s=true)(h5:gq R s.h s.p=0)(h6:iP (phL s.h) s.ph=false):
  Calls Tryz.prog 24 #[.pointer (some ⟨g,0,none⟩)] w fun e w'=>e = .returned (.int .i64 (10))/\Below w.heap.size w w':=by
 have hnn:=dP
 have HST:Hid (∀w',Below w.heap.size w w'->StC w' g s v):=fun w' hb=>hs.below hb hs.lt
 have hI:=fun w=>aY s.ph 1 5 w
 have hD:=fun w' hb=>jI g 2 v.d s.d w' (HST.out w' hb).lt (HST.out w' hb).c2 (hv.d.below (w':=w') hb) hB.dl (by have:=hB.d;omega)
 have nX:=fun w' hb=>pY g s v w' (HST.out w' hb) (hv.below (w':=w') hb) hB h1 h2
 have hH:=fun w' hb=>uZ R hR g v.h v.p s.h s.p w' (HST.out w' hb).lt (HST.out w' hb).c4 (HST.out w' hb).c5 (hv.h.below (w':=w') hb) (hv.p.below hb) hB.h hB.p hB.pd
 obtain⟨hch,-⟩:=lZ h5
 have uq:=fun w' hb=>uY g v.h s.h w' (HST.out w' hb).c4 (hv.h.below (w':=w') hb) (lX hch).2 hB.h
 have qx:=fun w=>qK (phL s.h) s.ph w
 rw[h1]at hI
 rw[h2]at hD
 rw[h3]at nX
 rw[h5]at hH
 rw[h6]at qx
 have vC:Hid (∀w',Below w.heap.size w w'->w'.cell? ⟨g,0,none⟩=some (.int .i64 s.ph)):=fun w' hb=>(HST.out w' hb).c0
 have hbr:Below w.heap.size w w:=Below.refl _ _
 obtain⟨ph,cu,d,n,h,p⟩:=s
 dsimp only at *
 have g0:=vC.out _ hbr
 clear hs hv hB HST
 go_enter Tryz.func24,Tryz.ntmps24
 go_wp2_with fail
 refine(hI _).mono ?_
 rintro e w0 ⟨rfl,hw0⟩
 have hbr:Below w.heap.size w w0:=by rw[hw0];exact Below.refl _ _
 clear hw0 hI g0
 clear hR h1 h2 h3 h5 h6 hch
 have uw:=hD _ hbr
 clear hD
 go_wp2_with fail
 refine uw.mono ?_
 rintro e w1 ⟨rfl,hbX⟩
 have hbr:Below w.heap.size w w1:=ah hbr hbX
 clear uw hbX
 have sK:=nX _ hbr
 clear nX
 go_wp2_with fail
 refine sK.mono ?_
 rintro e w2 ⟨rfl,hbX⟩
 have hbr:Below w.heap.size w w2:=ah hbr hbX
 clear sK hbX
 have GH:=hH _ hbr
 clear hH
 go_wp2_with fail
 refine GH.mono ?_
 rintro e w3 ⟨rfl,hbX⟩
 have hbr:Below w.heap.size w w3:=ah hbr hbX
 clear GH hbX
 have Jp:=uq _ hbr
 clear uq
 go_wp2_with fail
 refine Jp.mono ?_
 rintro e w4 ⟨rfl,hbX⟩
 have hbr:Below w.heap.size w w4:=ah hbr hbX
 clear Jp hbX
 have g0:=vC.out _ hbr
 go_wp2_with fail
 refine(qx _).mono ?_
 rintro e w7 ⟨rfl,hw7⟩
 have hbr:Below w.heap.size w w7:=by rw[hw7];exact hbr
 clear qx hw7 g0
 go_wp2
 go_ret
 exact⟨rfl,hbr⟩
theorem Nw(R:Rt)(hR:bK R)(g:Nat)(s:St)(v:Sv)(w:World)(hs:StC w g s v)(hv:Sts w v s)(hB:StB s)(h1:inB s.ph 1 5=true)(h2:aF s.d=0)(h3:stN s=true)(h5:gq R s.h s.p=0)(h6:iP (phL s.h) s.ph=true):
  Calls Tryz.prog 24 #[.pointer (some ⟨g,0,none⟩)] w fun e w'=>e = .returned (.int .i64 (0))/\Below w.heap.size w w':=by
 have hnn:=dP
 have HST:Hid (∀w',Below w.heap.size w w'->StC w' g s v):=fun w' hb=>hs.below hb hs.lt
 have hI:=fun w=>aY s.ph 1 5 w
 have hD:=fun w' hb=>jI g 2 v.d s.d w' (HST.out w' hb).lt (HST.out w' hb).c2 (hv.d.below (w':=w') hb) hB.dl (by have:=hB.d;omega)
 have nX:=fun w' hb=>pY g s v w' (HST.out w' hb) (hv.below (w':=w') hb) hB h1 h2
 have hH:=fun w' hb=>uZ R hR g v.h v.p s.h s.p w' (HST.out w' hb).lt (HST.out w' hb).c4 (HST.out w' hb).c5 (hv.h.below (w':=w') hb) (hv.p.below hb) hB.h hB.p hB.pd
 obtain⟨hch,-⟩:=lZ h5
 have uq:=fun w' hb=>uY g v.h s.h w' (HST.out w' hb).c4 (hv.h.below (w':=w') hb) (lX hch).2 hB.h
 have qx:=fun w=>qK (phL s.h) s.ph w
 rw[h1]at hI
 rw[h2]at hD
 rw[h3]at nX
 rw[h5]at hH
 rw[h6]at qx
 have vC:Hid (∀w',Below w.heap.size w w'->w'.cell? ⟨g,0,none⟩=some (.int .i64 s.ph)):=fun w' hb=>(HST.out w' hb).c0
 have hbr:Below w.heap.size w w:=Below.refl _ _
 obtain⟨ph,cu,d,n,h,p⟩:=s
 dsimp only at *
 have g0:=vC.out _ hbr
 clear hs hv hB HST
 go_enter Tryz.func24,Tryz.ntmps24
 go_wp2_with fail
 refine(hI _).mono ?_
 rintro e w0 ⟨rfl,hw0⟩
 have hbr:Below w.heap.size w w0:=by rw[hw0];exact Below.refl _ _
 clear hw0 hI g0
 clear hR h1 h2 h3 h5 h6 hch
 have uw:=hD _ hbr
 clear hD
 go_wp2_with fail
 refine uw.mono ?_
 rintro e w1 ⟨rfl,hbX⟩
 have hbr:Below w.heap.size w w1:=ah hbr hbX
 clear uw hbX
 have sK:=nX _ hbr
 clear nX
 go_wp2_with fail
 refine sK.mono ?_
 rintro e w2 ⟨rfl,hbX⟩
 have hbr:Below w.heap.size w w2:=ah hbr hbX
 clear sK hbX
 have GH:=hH _ hbr
 clear hH
 go_wp2_with fail
 refine GH.mono ?_
 rintro e w3 ⟨rfl,hbX⟩
 have hbr:Below w.heap.size w w3:=ah hbr hbX
 clear GH hbX
 have Jp:=uq _ hbr
 clear uq
 go_wp2_with fail
 refine Jp.mono ?_
 rintro e w4 ⟨rfl,hbX⟩
 have hbr:Below w.heap.size w w4:=ah hbr hbX
 clear Jp hbX
 have g0:=vC.out _ hbr
 go_wp2_with fail
 refine(qx _).mono ?_
 rintro e w7 ⟨rfl,hw7⟩
 have hbr:Below w.heap.size w w7:=by rw[hw7];exact hbr
 clear qx hw7 g0
 go_wp2
 go_ret
 exact⟨rfl,hbr⟩
theorem sV(R:Rt)(hR:bK R)(g:Nat)(s:St)(v:Sv)(w:World)(hs:StC w g s v)(hv:Sts w v s)(hB:StB s):
  Calls Tryz.prog 24 #[.pointer (some ⟨g,0,none⟩)] w fun e w'=>e = .returned (.int .i64 (stF R s))/\Below w.heap.size w w':=by
 rcases Bool.eq_false_or_eq_true (inB s.ph 1 5)with h1 | h1
 ·by_cases h2:aF s.d=0
  ·rcases Bool.eq_false_or_eq_true (stN s)with h3 | h3
   ·by_cases h5:gq R s.h s.p=0
    ·rcases Bool.eq_false_or_eq_true (iP (phL s.h) s.ph)with h6 | h6
     ·rw[Me h1 h2 h3 h5 h6]
      exact Nw R hR g s v w hs hv hB h1 h2 h3 h5 h6
     ·rw[FZ h1 h2 h3 h5 h6]
      exact J4 R hR g s v w hs hv hB h1 h2 h3 h5 h6
    ·rw[F5 h1 h2 h3 h5]
     exact J5 R hR g s v w hs hv hB h1 h2 h3 h5
   ·rw[wZ h1 h2 h3]
    exact Ig g s v w hs hv hB h1 h2 h3
  ·rw[FY h1 h2]
   exact J3 g s v w hs hv hB h1 h2
 ·rw[MB h1]
  exact Ny g s v w hs hv hB h1
end U
end Go.Proofs.YtmmcgjacojgeaaaGreat
