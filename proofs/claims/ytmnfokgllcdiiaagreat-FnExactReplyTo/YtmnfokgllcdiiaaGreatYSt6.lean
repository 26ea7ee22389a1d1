/- The fault of a state, by the model; both, at one state. -/
import Derived.Test.YtmnfokgllcdiiaaGreatYSt5
import Derived.Test.YtmnfokgllcdiiaaGreatYSt3
set_option maxRecDepth 100000
set_option maxHeartbeats 4000000
namespace Go.Proofs.YtmnfokgllcdiiaaGreat
open Go.RowKit
namespace U
theorem Ky(g:Nat)(s:St)(v:Sv)(w:World)(hs:StC w g s v)(hv:Sts w v s)(hB:StB s)(h1:inB s.ph 1 5=false):
  Calls Tryz.prog 45 #[.pointer (some ⟨g,0,none⟩)] w fun e w'=>e = .returned (.int .i64 (3))/\Below w.heap.size w w':=by
 have hnn:=dA
 have HST:Hid (∀w',Below w.heap.size w w'->StC w' g s v):=fun w' hb=>hs.below hb hs.lt
 have hI:=fun w=>bY s.ph 1 5 w
 have hD:=fun w' hb=>ji g 2 v.d s.d w' (HST.out w' hb).lt (HST.out w' hb).c2 (hv.d.below (w':=w') hb) hB.dl (by have:=hB.d;omega)
 rw[h1]at hI
 have sH:Hid (∀w',Below w.heap.size w w'->w'.cell? ⟨g,0,none⟩=some (.int .i64 s.ph)):=fun w' hb=>(HST.out w' hb).c0
 have hbr:Below w.heap.size w w:=Below.refl _ _
 obtain⟨ph,cu,d,n,h,p⟩:=s
 dsimp only at *
 have g0:=sH.out _ hbr
 clear hs hv hB HST
 go_enter Tryz.func45,Tryz.ntmps45
 go_wp2_with fail
 refine(hI _).mono ?_
 rintro e w0 ⟨rfl,hw0⟩
 have hbr:Below w.heap.size w w0:=by rw[hw0];exact Below.refl _ _
 clear hw0 hI g0
 clear hD h1
 go_wp2
 go_ret
 exact⟨rfl,hbr⟩
theorem Ic(g:Nat)(s:St)(v:Sv)(w:World)(hs:StC w g s v)(hv:Sts w v s)(hB:StB s)(h1:inB s.ph 1 5=true)(h2:¬aI s.d=0):
  Calls Tryz.prog 45 #[.pointer (some ⟨g,0,none⟩)] w fun e w'=>e = .returned (.int .i64 (aI s.d))/\Below w.heap.size w w':=by
 have hnn:=dA
 have HST:Hid (∀w',Below w.heap.size w w'->StC w' g s v):=fun w' hb=>hs.below hb hs.lt
 have hI:=fun w=>bY s.ph 1 5 w
 have hD:=fun w' hb=>ji g 2 v.d s.d w' (HST.out w' hb).lt (HST.out w' hb).c2 (hv.d.below (w':=w') hb) hB.dl (by have:=hB.d;omega)
 rw[h1]at hI
 have hnz:(aI s.d != 0)=true:=by simpa using h2
 generalize aI s.d=fd at *
 have sH:Hid (∀w',Below w.heap.size w w'->w'.cell? ⟨g,0,none⟩=some (.int .i64 s.ph)):=fun w' hb=>(HST.out w' hb).c0
 have hbr:Below w.heap.size w w:=Below.refl _ _
 obtain⟨ph,cu,d,n,h,p⟩:=s
 dsimp only at *
 have g0:=sH.out _ hbr
 clear hs hv hB HST
 go_enter Tryz.func45,Tryz.ntmps45
 go_wp2_with fail
 refine(hI _).mono ?_
 rintro e w0 ⟨rfl,hw0⟩
 have hbr:Below w.heap.size w w0:=by rw[hw0];exact Below.refl _ _
 clear hw0 hI g0
 clear h1 h2
 have rE:=hD _ hbr
 clear hD
 go_wp2_with fail
 refine rE.mono ?_
 rintro e w1 ⟨rfl,hbX⟩
 have hbr:Below w.heap.size w w1:=ah hbr hbX
 clear rE hbX
 go_wp2
 go_ret
 exact⟨rfl,hbr⟩
theorem Fj(g:Nat)(s:St)(v:Sv)(w:World)(hs:StC w g s v)(hv:Sts w v s)(hB:StB s)(h1:inB s.ph 1 5=true)(h2:aI s.d=0)(h3:stN s=false):
  Calls Tryz.prog 45 #[.pointer (some ⟨g,0,none⟩)] w fun e w'=>e = .returned (.int .i64 (1))/\Below w.heap.size w w':=by
 have hnn:=dA
 have HST:Hid (∀w',Below w.heap.size w w'->StC w' g s v):=fun w' hb=>hs.below hb hs.lt
 have hI:=fun w=>bY s.ph 1 5 w
 have hD:=fun w' hb=>ji g 2 v.d s.d w' (HST.out w' hb).lt (HST.out w' hb).c2 (hv.d.below (w':=w') hb) hB.dl (by have:=hB.d;omega)
 have mZ:=fun w' hb=>oq g s v w' (HST.out w' hb) (hv.below (w':=w') hb) hB h1 h2
 rw[h1]at hI
 rw[h2]at hD
 rw[h3]at mZ
 have sH:Hid (∀w',Below w.heap.size w w'->w'.cell? ⟨g,0,none⟩=some (.int .i64 s.ph)):=fun w' hb=>(HST.out w' hb).c0
 have hbr:Below w.heap.size w w:=Below.refl _ _
 obtain⟨ph,cu,d,n,h,p⟩:=s
 dsimp only at *
 have g0:=sH.out _ hbr
 clear hs hv hB HST
 go_enter Tryz.func45,Tryz.ntmps45
 go_wp2_with fail
 refine(hI _).mono ?_
 rintro e w0 ⟨rfl,hw0⟩
 have hbr:Below w.heap.size w w0:=by rw[hw0];exact Below.refl _ _
 clear hw0 hI g0
 clear h1 h2 h3
 have rE:=hD _ hbr
 clear hD
 go_wp2_with fail
 refine rE.mono ?_
 rintro e w1 ⟨rfl,hbX⟩
 have hbr:Below w.heap.size w w1:=ah hbr hbX
 clear rE hbX
 have qE:=mZ _ hbr
 clear mZ
 go_wp2_with fail
 refine qE.mono ?_
 rintro e w2 ⟨rfl,hbX⟩
 have hbr:Below w.heap.size w w2:=ah hbr hbX
 clear qE hbX
 go_wp2
 go_ret
 exact⟨rfl,hbr⟩
theorem Ig(R:Rt)(hR:gJ R)(g:Nat)(s:St)(v:Sv)(w:World)(hs:StC w g s v)(hv:Sts w v s)(hB:StB s)(h1:inB s.ph 1 5=true)(h2:aI s.d=0)(h3:stN s=true)(h5:¬eX R s.h s.p=0):
  Calls Tryz.prog 45 #[.pointer (some ⟨g,0,none⟩)] w fun e w'=>e = .returned (.int .i64 (eX R s.h s.p))/\Below w.heap.size w w':=by
 have hnn:=dA
 have HST:Hid (∀w',Below w.heap.size w w'->StC w' g s v):=fun w' hb=>hs.below hb hs.lt
 have hI:=fun w=>bY s.ph 1 5 w
 have hD:=fun w' hb=>ji g 2 v.d s.d w' (HST.out w' hb).lt (HST.out w' hb).c2 (hv.d.below (w':=w') hb) hB.dl (by have:=hB.d;omega)
 have mZ:=fun w' hb=>oq g s v w' (HST.out w' hb) (hv.below (w':=w') hb) hB h1 h2
 have hH:=fun w' hb=>sD R hR g v.h v.p s.h s.p w' (HST.out w' hb).lt (HST.out w' hb).c4 (HST.out w' hb).c5 (hv.h.below (w':=w') hb) (hv.p.below hb) hB.h hB.p hB.pd
 rw[h1]at hI
 rw[h2]at hD
 rw[h3]at mZ
 have hnz:(eX R s.h s.p != 0)=true:=by simpa using h5
 generalize eX R s.h s.p=fh at *
 have sH:Hid (∀w',Below w.heap.size w w'->w'.cell? ⟨g,0,none⟩=some (.int .i64 s.ph)):=fun w' hb=>(HST.out w' hb).c0
 have hbr:Below w.heap.size w w:=Below.refl _ _
 obtain⟨ph,cu,d,n,h,p⟩:=s
 dsimp only at *
 have g0:=sH.out _ hbr
 clear hs hv hB HST
 go_enter Tryz.func45,Tryz.ntmps45
 go_wp2_with fail
 refine(hI _).mono ?_
 rintro e w0 ⟨rfl,hw0⟩
 have hbr:Below w.heap.size w w0:=by rw[hw0];exact Below.refl _ _
 clear hw0 hI g0
 clear hR h1 h2 h3 h5
 have rE:=hD _ hbr
 clear hD
 go_wp2_with fail
 refine rE.mono ?_
 rintro e w1 ⟨rfl,hbX⟩
 have hbr:Below w.heap.size w w1:=ah hbr hbX
 clear rE hbX
 have qE:=mZ _ hbr
 clear mZ
 go_wp2_with fail
 refine qE.mono ?_
 rintro e w2 ⟨rfl,hbX⟩
 have hbr:Below w.heap.size w w2:=ah hbr hbX
 clear qE hbX
 have Eo:=hH _ hbr
 clear hH
 go_wp2_with fail
 refine Eo.mono ?_
 rintro e w3 ⟨rfl,hbX⟩
 have hbr:Below w.heap.size w w3:=ah hbr hbX
 clear Eo hbX
 go_wp2
 go_ret
 exact⟨rfl,hbr⟩
theorem Ie(R:Rt)(hR:gJ R)(g:Nat)(s:St)(v:Sv)(w:World)(hs:StC w g s v)(hv:Sts w v s)(hB:StB s)(h1:inB s.ph 1 5=true)(h2:aI s.d=0)(h3:stN s=true)(h5:eX R s.h s.p=0)(h6:iD (phL s.h) s.ph=false):
  Calls Tryz.prog 45 #[.pointer (some ⟨g,0,none⟩)] w fun e w'=>e = .returned (.int .i64 (10))/\Below w.heap.size w w':=by
 have hnn:=dA
 have HST:Hid (∀w',Below w.heap.size w w'->StC w' g s v):=fun w' hb=>hs.below hb hs.lt
 have hI:=fun w=>bY s.ph 1 5 w
 have hD:=fun w' hb=>ji g 2 v.d s.d w' (HST.out w' hb).lt (HST.out w' hb).c2 (hv.d.below (w':=w') hb) hB.dl (by have:=hB.d;omega)
 have mZ:=fun w' hb=>oq g s v w' (HST.out w' hb) (hv.below (w':=w') hb) hB h1 h2
 have hH:=fun w' hb=>sD R hR g v.h v.p s.h s.p w' (HST.out w' hb).lt (HST.out w' hb).c4 (HST.out w' hb).c5 (hv.h.below (w':=w') hb) (hv.p.below hb) hB.h hB.p hB.pd
 obtain⟨hch,-⟩:=sU h5
 have wu:=fun w' hb=>yT g v.h s.h w' (HST.out w' hb).c4 (hv.h.below (w':=w') hb) (pY hch).2 hB.h
 have oM:=fun w=>o9 (phL s.h) s.ph w
 rw[h1]at hI
 rw[h2]at hD
 rw[h3]at mZ
 rw[h5]at hH
 rw[h6]at oM
 have sH:Hid (∀w',Below w.heap.size w w'->w'.cell? ⟨g,0,none⟩=some (.int .i64 s.ph)):=fun w' hb=>(HST.out w' hb).c0
 have hbr:Below w.heap.size w w:=Below.refl _ _
 obtain⟨ph,cu,d,n,h,p⟩:=s
 dsimp only at *
 have g0:=sH.out _ hbr
 clear hs hv hB HST
 go_enter Tryz.func45,Tryz.ntmps45
 go_wp2_with fail
 refine(hI _).mono ?_
 rintro e w0 ⟨rfl,hw0⟩
 have hbr:Below w.heap.size w w0:=by rw[hw0];exact Below.refl _ _
 clear hw0 hI g0
 clear hR h1 h2 h3 h5 h6 hch
 have rE:=hD _ hbr
 clear hD
 go_wp2_with fail
 refine rE.mono ?_
 rintro e w1 ⟨rfl,hbX⟩
 have hbr:Below w.heap.size w w1:=ah hbr hbX
 clear rE hbX
 have qE:=mZ _ hbr
 clear mZ
 go_wp2_with fail
 refine qE.mono ?_
 rintro e w2 ⟨rfl,hbX⟩
 have hbr:Below w.heap.size w w2:=ah hbr hbX
 clear qE hbX
 have Eo:=hH _ hbr
 clear hH
 go_wp2_with fail
 refine Eo.mono ?_
 rintro e w3 ⟨rfl,hbX⟩
 have hbr:Below w.heap.size w w3:=ah hbr hbX
 clear Eo hbX
 have G8:=wu _ hbr
 clear wu
 go_wp2_with fail
 refine G8.mono ?_
 rintro e w4 ⟨rfl,hbX⟩
 have hbr:Below w.heap.size w w4:=ah hbr hbX
 clear G8 hbX
 have g0:=sH.out _ hbr
 go_wp2_with fail
 refine(oM _).mono ?_
 rintro e w7 ⟨rfl,hw7⟩
 have hbr:Below w.heap.size w w7:=by rw[hw7];exact hbr
 clear oM hw7 g0
 go_wp2
 go_ret
 exact⟨rfl,hbr⟩
theorem Kw(R:Rt)(hR:gJ R)(g:Nat)(s:St)(v:Sv)(w:World)(hs:StC w g s v)(hv:Sts w v s)(hB:StB s)(h1:inB s.ph 1 5=true)(h2:aI s.d=0)(h3:stN s=true)(h5:eX R s.h s.p=0)(h6:iD (phL s.h) s.ph=true):
  Calls Tryz.prog 45 #[.pointer (some ⟨g,0,none⟩)] w fun e w'=>e = .returned (.int .i64 (0))/\Below w.heap.size w w':=by
 have hnn:=dA
 have HST:Hid (∀w',Below w.heap.size w w'->StC w' g s v):=fun w' hb=>hs.below hb hs.lt
 have hI:=fun w=>bY s.ph 1 5 w
 have hD:=fun w' hb=>ji g 2 v.d s.d w' (HST.out w' hb).lt (HST.out w' hb).c2 (hv.d.below (w':=w') hb) hB.dl (by have:=hB.d;omega)
 have mZ:=fun w' hb=>oq g s v w' (HST.out w' hb) (hv.below (w':=w') hb) hB h1 h2
 have hH:=fun w' hb=>sD R hR g v.h v.p s.h s.p w' (HST.out w' hb).lt (HST.out w' hb).c4 (HST.out w' hb).c5 (hv.h.below (w':=w') hb) (hv.p.below hb) hB.h hB.p hB.pd
 obtain⟨hch,-⟩:=sU h5
 have wu:=fun w' hb=>yT g v.h s.h w' (HST.out w' hb).c4 (hv.h.below (w':=w') hb) (pY hch).2 hB.h
 have oM:=fun w=>o9 (phL s.h) s.ph w
 rw[h1]at hI
 rw[h2]at hD
 rw[h3]at mZ
 rw[h5]at hH
 rw[h6]at oM
 have sH:Hid (∀w',Below w.heap.size w w'->w'.cell? ⟨g,0,none⟩=some (.int .i64 s.ph)):=fun w' hb=>(HST.out w' hb).c0
 have hbr:Below w.heap.size w w:=Below.refl _ _
 obtain⟨ph,cu,d,n,h,p⟩:=s
 dsimp only at *
 have g0:=sH.out _ hbr
 clear hs hv hB HST
 go_enter Tryz.func45,Tryz.ntmps45
 go_wp2_with fail
 refine(hI _).mono ?_
 rintro e w0 ⟨rfl,hw0⟩
 have hbr:Below w.heap.size w w0:=by rw[hw0];exact Below.refl _ _
 clear hw0 hI g0
 clear hR h1 h2 h3 h5 h6 hch
 have rE:=hD _ hbr
 clear hD
 go_wp2_with fail
 refine rE.mono ?_
 rintro e w1 ⟨rfl,hbX⟩
 have hbr:Below w.heap.size w w1:=ah hbr hbX
 clear rE hbX
 have qE:=mZ _ hbr
 clear mZ
 go_wp2_with fail
 refine qE.mono ?_
 rintro e w2 ⟨rfl,hbX⟩
 have hbr:Below w.heap.size w w2:=ah hbr hbX
 clear qE hbX
 have Eo:=hH _ hbr
 clear hH
 go_wp2_with fail
 refine Eo.mono ?_
 rintro e w3 ⟨rfl,hbX⟩
 have hbr:Below w.heap.size w w3:=ah hbr hbX
 clear Eo hbX
 have G8:=wu _ hbr
 clear wu
 go_wp2_with fail
 refine G8.mono ?_
 rintro e w4 ⟨rfl,hbX⟩
 have hbr:Below w.heap.size w w4:=ah hbr hbX
 clear G8 hbX
 have g0:=sH.out _ hbr
 go_wp2_with fail
 refine(oM _).mono ?_
 rintro e w7 ⟨rfl,hw7⟩
 have hbr:Below w.heap.size w w7:=by rw[hw7];exact hbr
 clear oM hw7 g0
 go_wp2
 go_ret
 exact⟨rfl,hbr⟩
theorem Ib(R:Rt)(hR:gJ R)(g:Nat)(s:St)(v:Sv)(w:World)(hs:StC w g s v)(hv:Sts w v s)(hB:StB s):
  Calls Tryz.prog 45 #[.pointer (some ⟨g,0,none⟩)] w fun e w'=>e = .returned (.int .i64 (stF R s))/\Below w.heap.size w w':=by
 rcases Bool.eq_false_or_eq_true (inB s.ph 1 5)with h1 | h1
 ·by_cases h2:aI s.d=0
  ·rcases Bool.eq_false_or_eq_true (stN s)with h3 | h3
   ·by_cases h5:eX R s.h s.p=0
    ·rcases Bool.eq_false_or_eq_true (iD (phL s.h) s.ph)with h6 | h6
     ·rw[JG h1 h2 h3 h5 h6]
      exact Kw R hR g s v w hs hv hB h1 h2 h3 h5 h6
     ·rw[DZ h1 h2 h3 h5 h6]
      exact Ie R hR g s v w hs hv hB h1 h2 h3 h5 h6
    ·rw[D5 h1 h2 h3 h5]
     exact Ig R hR g s v w hs hv hB h1 h2 h3 h5
   ·rw[uS h1 h2 h3]
    exact Fj g s v w hs hv hB h1 h2 h3
  ·rw[DY h1 h2]
   exact Ic g s v w hs hv hB h1 h2
 ·rw[JH h1]
  exact Ky g s v w hs hv hB h1
end U
end Go.Proofs.YtmnfokgllcdiiaaGreat
