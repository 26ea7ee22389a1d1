/- The fault of a state, by the program. -/
import Derived.Test.YtmnfokgllcdiiaaGreatYBF
set_option maxRecDepth 100000
set_option maxHeartbeats 4000000
namespace Go.Proofs.YtmnfokgllcdiiaaGreat
open Go.RowKit
namespace U
theorem iR(ph cu:Int)(w:World):Calls Tryz.prog 110 #[.int .i64 ph,.int .i64 cu] w fun e w'=>e = .returned (.bool (cuB ph cu))/\Below w.heap.size w w':=by
 refine(DR ph cu w).mono ?_
 rintro e w' ⟨rfl,rfl⟩
 exact⟨rfl,Below.refl _ _⟩
theorem rO(a b:Int)(w:World):Calls Tryz.prog 114 #[.int .i64 a,.int .i64 b] w fun e w'=>e = .returned (.bool (mfB a b))/\Below w.heap.size w w':=by
 refine(pK a b w).mono ?_
 rintro e w' ⟨rfl,rfl⟩
 exact⟨rfl,Below.refl _ _⟩
theorem Qb{a b:Int}(h:inB a 1 5=true)(h1:inB b 1 5=true):mfB a b=iD a b:=by unfold mfB;rw[h,h1];rfl
structure vN(W:World)(v:Value)(l:Rcl)(cu:Int)(m:Prl):Prop where
 c:∀w',Below W.heap.size W w'->Calls Tryz.prog 54 #[.agg #[v],.int .i64 cu] w' fun e w''=>∃a c,e = .returned (.slice a m.length c)/\Below w'.heap.size w' w''/\w''.ownsRow w'.heap.size 63 2 (.slice a m.length c) m.length ((fl m).map (Value.int .i64))
theorem yG(s:St)(v:Sv)(w:World)(hv:Sts w v s)(hB:StB s)(h1:inB s.ph 1 5=false):
  Calls Tryz.prog 51 #[stV s v] w fun e w'=>e = .returned (.int .i64 (3))/\Below w.heap.size w w':=by
 obtain⟨W,hW⟩:∃W,W=w.alloc (stC s v 41):=⟨_,rfl⟩
 have hBW:Below w.heap.size w W:=by rw[hW];exact aj _
 have hC0:StC W w.heap.size s v:=by rw[hW];exact StC.new w s v _
 have eY:=hv.below hBW
 have hPh:=fun w=>fK s.ph w
 have hD:=fun w' hb=>aY v.d s.d w' (eY.d.below (w':=w') hb) hB.dl (by have:=hB.d;omega)
 have kJ:=fun w=>iR s.ph s.cu w
 rw[h1]at hPh
 obtain⟨a1,c1,e1⟩:=hv.d.shape
 obtain⟨a2,c2,e2⟩:=hv.n.shape
 obtain⟨a3,c3,e3⟩:=hv.h.shape
 obtain⟨a4,c4,e4⟩:=hv.p.shape
 have bC:Hid (∀w',Below W.heap.size W w'->StC w' w.heap.size s v):=fun w' hb=>hC0.below hb hC0.lt
 obtain⟨ph,cu,d,n,h,p⟩:=s
 obtain⟨vd,vn,vh,vp⟩:=v
 dsimp only at *
 subst e1 e2 e3 e4
 have aZ:Hid (∀w',Below W.heap.size W w'->w'.cell? ⟨w.heap.size,0,none⟩=some (.int .i64 ph)/\w'.cell? ⟨w.heap.size,1,none⟩=some (.int .i64 cu)/\w'.cell? ⟨w.heap.size,2,none⟩=some (.slice a1 d.length c1)/\w'.cell? ⟨w.heap.size,3,none⟩=some (.slice a2 n.length c2)/\w'.cell? ⟨w.heap.size,4,none⟩=some (.slice a3 h.length c3)/\w'.cell? ⟨w.heap.size,5,none⟩=some (.slice a4 p.length c4)):=fun w' hb=>⟨(bC.out _ hb).c0,(bC.out _ hb).c1,(bC.out _ hb).c2,(bC.out _ hb).c3,(bC.out _ hb).c4,(bC.out _ hb).c5⟩
 unfold stV
 dsimp only
 have HW:Hid (w.alloc (.cells #[.int .i64 ph,.int .i64 cu,.slice a1 d.length c1,.slice a2 n.length c2,.slice a3 h.length c3,.slice a4 p.length c4] 41)=W):=hW.symm
 have hltW:w.heap.size<W.heap.size:=hC0.lt
 have fB:Hid (∀w',Below W.heap.size W w'->Below w.heap.size w w'):=fun w' hb=>ah hBW hb
 generalize d.length=dn at *
 generalize n.length=nn at *
 generalize h.length=hn at *
 generalize p.length=pn at *
 have oD:Hid (∀w',Below W.heap.size W w'->w'.cell? ⟨w.heap.size,0,none⟩=some (.int .i64 ph)/\w'.cell? ⟨w.heap.size,1,none⟩=some (.int .i64 cu)/\w'.cell? ⟨w.heap.size,2,none⟩=some (.slice a1 dn c1)/\w'.cell? ⟨w.heap.size,3,none⟩=some (.slice a2 nn c2)):=fun w' hb=>by
  obtain⟨k0,k1,k2,k3,-,-⟩:=aZ.out w' hb
  exact⟨k0,k1,k2,k3⟩
 clear hD kJ oD
 clear hW hC0 bC hv eY hBW hB
 go_enter Tryz.func51,Tryz.ntmps51
 go_wp2_with fail
 rw[HW.out]
 refine(hPh _).mono ?_
 rintro e w0 ⟨rfl,hw0⟩
 have hbr:Below W.heap.size W w0:=by rw[hw0];exact Below.refl _ _
 clear hw0 hPh HW
 obtain⟨g0,g1,g2,g3,g4,g5⟩:=aZ.out _ hbr
 go_wp2
 go_ret
 exact⟨rfl,fB.out _ hbr⟩
theorem wL(s:St)(v:Sv)(w:World)(hv:Sts w v s)(hB:StB s)(h1:inB s.ph 1 5=true)(h2:¬aI s.d=0):
  Calls Tryz.prog 51 #[stV s v] w fun e w'=>e = .returned (.int .i64 (aI s.d))/\Below w.heap.size w w':=by
 obtain⟨W,hW⟩:∃W,W=w.alloc (stC s v 41):=⟨_,rfl⟩
 have hBW:Below w.heap.size w W:=by rw[hW];exact aj _
 have hC0:StC W w.heap.size s v:=by rw[hW];exact StC.new w s v _
 have eY:=hv.below hBW
 have hPh:=fun w=>fK s.ph w
 have hD:=fun w' hb=>aY v.d s.d w' (eY.d.below (w':=w') hb) hB.dl (by have:=hB.d;omega)
 have kJ:=fun w=>iR s.ph s.cu w
 rw[h1]at hPh
 have hnz:(aI s.d != 0)=true:=by simpa using h2
 obtain⟨a1,c1,e1⟩:=hv.d.shape
 obtain⟨a2,c2,e2⟩:=hv.n.shape
 obtain⟨a3,c3,e3⟩:=hv.h.shape
 obtain⟨a4,c4,e4⟩:=hv.p.shape
 have bC:Hid (∀w',Below W.heap.size W w'->StC w' w.heap.size s v):=fun w' hb=>hC0.below hb hC0.lt
 obtain⟨ph,cu,d,n,h,p⟩:=s
 obtain⟨vd,vn,vh,vp⟩:=v
 dsimp only at *
 subst e1 e2 e3 e4
 have aZ:Hid (∀w',Below W.heap.size W w'->w'.cell? ⟨w.heap.size,0,none⟩=some (.int .i64 ph)/\w'.cell? ⟨w.heap.size,1,none⟩=some (.int .i64 cu)/\w'.cell? ⟨w.heap.size,2,none⟩=some (.slice a1 d.length c1)/\w'.cell? ⟨w.heap.size,3,none⟩=some (.slice a2 n.length c2)/\w'.cell? ⟨w.heap.size,4,none⟩=some (.slice a3 h.length c3)/\w'.cell? ⟨w.heap.size,5,none⟩=some (.slice a4 p.length c4)):=fun w' hb=>⟨(bC.out _ hb).c0,(bC.out _ hb).c1,(bC.out _ hb).c2,(bC.out _ hb).c3,(bC.out _ hb).c4,(bC.out _ hb).c5⟩
 unfold stV
 dsimp only
 have HW:Hid (w.alloc (.cells #[.int .i64 ph,.int .i64 cu,.slice a1 d.length c1,.slice a2 n.length c2,.slice a3 h.length c3,.slice a4 p.length c4] 41)=W):=hW.symm
 have hltW:w.heap.size<W.heap.size:=hC0.lt
 have fB:Hid (∀w',Below W.heap.size W w'->Below w.heap.size w w'):=fun w' hb=>ah hBW hb
 generalize d.length=dn at *
 generalize n.length=nn at *
 generalize h.length=hn at *
 generalize p.length=pn at *
 have oD:Hid (∀w',Below W.heap.size W w'->w'.cell? ⟨w.heap.size,0,none⟩=some (.int .i64 ph)/\w'.cell? ⟨w.heap.size,1,none⟩=some (.int .i64 cu)/\w'.cell? ⟨w.heap.size,2,none⟩=some (.slice a1 dn c1)/\w'.cell? ⟨w.heap.size,3,none⟩=some (.slice a2 nn c2)):=fun w' hb=>by
  obtain⟨k0,k1,k2,k3,-,-⟩:=aZ.out w' hb
  exact⟨k0,k1,k2,k3⟩
 clear kJ oD h1
 generalize aI d=fd at *
 clear hW hC0 bC hv eY hBW hB
 go_enter Tryz.func51,Tryz.ntmps51
 go_wp2_with fail
 rw[HW.out]
 refine(hPh _).mono ?_
 rintro e w0 ⟨rfl,hw0⟩
 have hbr:Below W.heap.size W w0:=by rw[hw0];exact Below.refl _ _
 clear hw0 hPh HW
 obtain⟨g0,g1,g2,g3,g4,g5⟩:=aZ.out _ hbr
 have hD1:=hD _ hbr
 clear hD
 go_wp2_with fail
 refine hD1.mono ?_
 rintro e w1 ⟨rfl,hb1⟩
 have hbr:Below W.heap.size W w1:=ah hbr hb1
 clear hD1 hb1
 obtain⟨g0,g1,g2,g3,g4,g5⟩:=aZ.out _ hbr
 go_wp2
 go_ret
 exact⟨rfl,fB.out _ hbr⟩
theorem yE(s:St)(v:Sv)(w:World)(hv:Sts w v s)(hB:StB s)(h1:inB s.ph 1 5=true)(h2:aI s.d=0)(h3:cuB s.ph s.cu=false):
  Calls Tryz.prog 51 #[stV s v] w fun e w'=>e = .returned (.int .i64 (1))/\Below w.heap.size w w':=by
 obtain⟨W,hW⟩:∃W,W=w.alloc (stC s v 41):=⟨_,rfl⟩
 have hBW:Below w.heap.size w W:=by rw[hW];exact aj _
 have hC0:StC W w.heap.size s v:=by rw[hW];exact StC.new w s v _
 have eY:=hv.below hBW
 have hPh:=fun w=>fK s.ph w
 have hD:=fun w' hb=>aY v.d s.d w' (eY.d.below (w':=w') hb) hB.dl (by have:=hB.d;omega)
 have kJ:=fun w=>iR s.ph s.cu w
 rw[h1]at hPh
 rw[h2]at hD
 rw[h3]at kJ
 obtain⟨a1,c1,e1⟩:=hv.d.shape
 obtain⟨a2,c2,e2⟩:=hv.n.shape
 obtain⟨a3,c3,e3⟩:=hv.h.shape
 obtain⟨a4,c4,e4⟩:=hv.p.shape
 have bC:Hid (∀w',Below W.heap.size W w'->StC w' w.heap.size s v):=fun w' hb=>hC0.below hb hC0.lt
 obtain⟨ph,cu,d,n,h,p⟩:=s
 obtain⟨vd,vn,vh,vp⟩:=v
 dsimp only at *
 subst e1 e2 e3 e4
 have aZ:Hid (∀w',Below W.heap.size W w'->w'.cell? ⟨w.heap.size,0,none⟩=some (.int .i64 ph)/\w'.cell? ⟨w.heap.size,1,none⟩=some (.int .i64 cu)/\w'.cell? ⟨w.heap.size,2,none⟩=some (.slice a1 d.length c1)/\w'.cell? ⟨w.heap.size,3,none⟩=some (.slice a2 n.length c2)/\w'.cell? ⟨w.heap.size,4,none⟩=some (.slice a3 h.length c3)/\w'.cell? ⟨w.heap.size,5,none⟩=some (.slice a4 p.length c4)):=fun w' hb=>⟨(bC.out _ hb).c0,(bC.out _ hb).c1,(bC.out _ hb).c2,(bC.out _ hb).c3,(bC.out _ hb).c4,(bC.out _ hb).c5⟩
 unfold stV
 dsimp only
 have HW:Hid (w.alloc (.cells #[.int .i64 ph,.int .i64 cu,.slice a1 d.length c1,.slice a2 n.length c2,.slice a3 h.length c3,.slice a4 p.length c4] 41)=W):=hW.symm
 have hltW:w.heap.size<W.heap.size:=hC0.lt
 have fB:Hid (∀w',Below W.heap.size W w'->Below w.heap.size w w'):=fun w' hb=>ah hBW hb
 generalize d.length=dn at *
 generalize n.length=nn at *
 generalize h.length=hn at *
 generalize p.length=pn at *
 have oD:Hid (∀w',Below W.heap.size W w'->w'.cell? ⟨w.heap.size,0,none⟩=some (.int .i64 ph)/\w'.cell? ⟨w.heap.size,1,none⟩=some (.int .i64 cu)/\w'.cell? ⟨w.heap.size,2,none⟩=some (.slice a1 dn c1)/\w'.cell? ⟨w.heap.size,3,none⟩=some (.slice a2 nn c2)):=fun w' hb=>by
  obtain⟨k0,k1,k2,k3,-,-⟩:=aZ.out w' hb
  exact⟨k0,k1,k2,k3⟩
 clear oD h1 h2 h3
 clear hW hC0 bC hv eY hBW hB
 go_enter Tryz.func51,Tryz.ntmps51
 go_wp2_with fail
 rw[HW.out]
 refine(hPh _).mono ?_
 rintro e w0 ⟨rfl,hw0⟩
 have hbr:Below W.heap.size W w0:=by rw[hw0];exact Below.refl _ _
 clear hw0 hPh HW
 obtain⟨g0,g1,g2,g3,g4,g5⟩:=aZ.out _ hbr
 have hD1:=hD _ hbr
 clear hD
 go_wp2_with fail
 refine hD1.mono ?_
 rintro e w1 ⟨rfl,hb1⟩
 have hbr:Below W.heap.size W w1:=ah hbr hb1
 clear hD1 hb1
 obtain⟨g0,g1,g2,g3,g4,g5⟩:=aZ.out _ hbr
 have q0:=After.cell g0
 have q1:=After.cell g1
 have hne:=After.ne w1
 clear g0 g1 g2 g3 g4 g5
 go_wp2_with fail
 refine ay (by kernel_rfl) (by kernel_rfl) ?_
 repeat(first | go_big_quiet_skip |(go_big_quiet_want;go_big_quiet_op;first | go_big_quiet_on | go_big_quiet_call (first |(go_at_call 110;refine(kJ _).mono ?_;rintro e wq ⟨rfl,hbq⟩;exact⟨rfl,bP (ah (After.b _) hbq)⟩))))
 refine wpQuiet_nil ?_
 rintro _ ⟨n6,rfl⟩
 have hbr:Below W.heap.size W n6.w:=ah hbr n6.b
 generalize n6.w=w6 at *
 clear hne q0 q1 n6 kJ
 go_wp2
 go_ret
 exact⟨rfl,fB.out _ hbr⟩
theorem wP(s:St)(v:Sv)(w:World)(hv:Sts w v s)(hB:StB s)(h1:inB s.ph 1 5=true)(h2:aI s.d=0)(h3:cuB s.ph s.cu=true)(h4:eqP s.n (newL s.d s.cu)=false):
  Calls Tryz.prog 51 #[stV s v] w fun e w'=>e = .returned (.int .i64 (1))/\Below w.heap.size w w':=by
 obtain⟨W,hW⟩:∃W,W=w.alloc (stC s v 41):=⟨_,rfl⟩
 have hBW:Below w.heap.size w W:=by rw[hW];exact aj _
 have hC0:StC W w.heap.size s v:=by rw[hW];exact StC.new w s v _
 have eY:=hv.below hBW
 have hPh:=fun w=>fK s.ph w
 have hD:=fun w' hb=>aY v.d s.d w' (eY.d.below (w':=w') hb) hB.dl (by have:=hB.d;omega)
 have kJ:=fun w=>iR s.ph s.cu w
 have hbd:=Bd h3
 have Gf:vN W v.d s.d s.cu (newL s.d s.cu):=⟨fun w' hb=>nI v.d s.d s.cu w' (eY.d.below hb) h2 hbd⟩
 have hlm:(newL s.d s.cu).length<=1048576:=by have:=qQ s.d s.cu;have:=(dP h2).len;omega
 have hE:=fun u w' hb hu=>uP v.n u s.n (newL s.d s.cu) w' (eY.n.below (w':=w') hb) hu hB.n hlm
 rw[h1]at hPh
 rw[h2]at hD
 rw[h3]at kJ
 rw[h4]at hE
 obtain⟨a1,c1,e1⟩:=hv.d.shape
 obtain⟨a2,c2,e2⟩:=hv.n.shape
 obtain⟨a3,c3,e3⟩:=hv.h.shape
 obtain⟨a4,c4,e4⟩:=hv.p.shape
 have bC:Hid (∀w',Below W.heap.size W w'->StC w' w.heap.size s v):=fun w' hb=>hC0.below hb hC0.lt
 obtain⟨ph,cu,d,n,h,p⟩:=s
 obtain⟨vd,vn,vh,vp⟩:=v
 dsimp only at *
 subst e1 e2 e3 e4
 have aZ:Hid (∀w',Below W.heap.size W w'->w'.cell? ⟨w.heap.size,0,none⟩=some (.int .i64 ph)/\w'.cell? ⟨w.heap.size,1,none⟩=some (.int .i64 cu)/\w'.cell? ⟨w.heap.size,2,none⟩=some (.slice a1 d.length c1)/\w'.cell? ⟨w.heap.size,3,none⟩=some (.slice a2 n.length c2)/\w'.cell? ⟨w.heap.size,4,none⟩=some (.slice a3 h.length c3)/\w'.cell? ⟨w.heap.size,5,none⟩=some (.slice a4 p.length c4)):=fun w' hb=>⟨(bC.out _ hb).c0,(bC.out _ hb).c1,(bC.out _ hb).c2,(bC.out _ hb).c3,(bC.out _ hb).c4,(bC.out _ hb).c5⟩
 unfold stV
 dsimp only
 have HW:Hid (w.alloc (.cells #[.int .i64 ph,.int .i64 cu,.slice a1 d.length c1,.slice a2 n.length c2,.slice a3 h.length c3,.slice a4 p.length c4] 41)=W):=hW.symm
 have hltW:w.heap.size<W.heap.size:=hC0.lt
 have fB:Hid (∀w',Below W.heap.size W w'->Below w.heap.size w w'):=fun w' hb=>ah hBW hb
 generalize d.length=dn at *
 generalize n.length=nn at *
 generalize h.length=hn at *
 generalize p.length=pn at *
 have oD:Hid (∀w',Below W.heap.size W w'->w'.cell? ⟨w.heap.size,0,none⟩=some (.int .i64 ph)/\w'.cell? ⟨w.heap.size,1,none⟩=some (.int .i64 cu)/\w'.cell? ⟨w.heap.size,2,none⟩=some (.slice a1 dn c1)/\w'.cell? ⟨w.heap.size,3,none⟩=some (.slice a2 nn c2)):=fun w' hb=>by
  obtain⟨k0,k1,k2,k3,-,-⟩:=aZ.out w' hb
  exact⟨k0,k1,k2,k3⟩
 clear h1 h2 h3 h4 hbd hlm
 clear hW hC0 bC hv eY hBW hB
 go_enter Tryz.func51,Tryz.ntmps51
 go_wp2_with fail
 rw[HW.out]
 refine(hPh _).mono ?_
 rintro e w0 ⟨rfl,hw0⟩
 have hbr:Below W.heap.size W w0:=by rw[hw0];exact Below.refl _ _
 clear hw0 hPh HW
 obtain⟨g0,g1,g2,g3,g4,g5⟩:=aZ.out _ hbr
 have hD1:=hD _ hbr
 clear hD
 go_wp2_with fail
 refine hD1.mono ?_
 rintro e w1 ⟨rfl,hb1⟩
 have hbr:Below W.heap.size W w1:=ah hbr hb1
 clear hD1 hb1
 obtain⟨g0,g1,g2,g3,g4,g5⟩:=aZ.out _ hbr
 clear g4 g5
 go_wp2_with fail
 go_region_held3 (fun w'=>w'.cell? ⟨w.heap.size,0,none⟩=some (.int .i64 ph)/\w'.cell? ⟨w.heap.size,1,none⟩=some (.int .i64 cu)/\w'.cell? ⟨w.heap.size,2,none⟩=some (.slice a1 dn c1)/\w'.cell? ⟨w.heap.size,3,none⟩=some (.slice a2 nn c2))
  (first | with_reducible exact⟨g0,g1,g2,g3⟩|with_reducible exact oD.out _ hbr | with_reducible exact oD.out _ hbr.drew)
  (first
   |(go_at_call 110;refine(kJ _).mono ?_;rintro e w2 ⟨rfl,hb2⟩;have hbr:Below W.heap.size W w2:=(by first | exact ah hbr hb2 | exact ah hbr.drew hb2);clear hb2)
   |(go_at_call 54;refine(vN.c (by assumption) _ (by first | exact hbr | exact hbr.drew)).mono ?_;rintro e w3 ⟨a7,c7,rfl,hb3,o3⟩;have hp3:=aP o3;have hbr:Below W.heap.size W w3:=(by first | exact ah hbr hb3 | exact ah hbr.drew hb3);clear hb3 o3)
   |(go_at_call 111;refine(hE _ _ hbr hp3).mono ?_;rintro e w4 ⟨rfl,hb4⟩;have hbr:Below W.heap.size W w4:=ah hbr hb4;clear hb4))
 clear kJ Gf hE g0 g1 g2 g3 hp3
 go_wp2
 go_ret
 exact⟨rfl,fB.out _ hbr⟩
theorem wO(R:Rt)(hR:gJ R)(s:St)(v:Sv)(w:World)(hv:Sts w v s)(hB:StB s)(h1:inB s.ph 1 5=true)(h2:aI s.d=0)(h3:cuB s.ph s.cu=true)(h4:eqP s.n (newL s.d s.cu)=true)(h5:¬eX R s.h s.p=0):
  Calls Tryz.prog 51 #[stV s v] w fun e w'=>e = .returned (.int .i64 (eX R s.h s.p))/\Below w.heap.size w w':=by
 obtain⟨W,hW⟩:∃W,W=w.alloc (stC s v 41):=⟨_,rfl⟩
 have hBW:Below w.heap.size w W:=by rw[hW];exact aj _
 have hC0:StC W w.heap.size s v:=by rw[hW];exact StC.new w s v _
 have eY:=hv.below hBW
 have hPh:=fun w=>fK s.ph w
 have hD:=fun w' hb=>aY v.d s.d w' (eY.d.below (w':=w') hb) hB.dl (by have:=hB.d;omega)
 have kJ:=fun w=>iR s.ph s.cu w
 have hbd:=Bd h3
 have Gf:vN W v.d s.d s.cu (newL s.d s.cu):=⟨fun w' hb=>nI v.d s.d s.cu w' (eY.d.below hb) h2 hbd⟩
 have hlm:(newL s.d s.cu).length<=1048576:=by have:=qQ s.d s.cu;have:=(dP h2).len;omega
 have hE:=fun u w' hb hu=>uP v.n u s.n (newL s.d s.cu) w' (eY.n.below (w':=w') hb) hu hB.n hlm
 have hH:=fun w' hb=>nC R hR v.h v.p s.h s.p w' (eY.h.below (w':=w') hb) (eY.p.below hb) hB.h hB.p hB.pd
 rw[h1]at hPh
 rw[h2]at hD
 rw[h3]at kJ
 rw[h4]at hE
 have hnz:(eX R s.h s.p != 0)=true:=by simpa using h5
 obtain⟨a1,c1,e1⟩:=hv.d.shape
 obtain⟨a2,c2,e2⟩:=hv.n.shape
 obtain⟨a3,c3,e3⟩:=hv.h.shape
 obtain⟨a4,c4,e4⟩:=hv.p.shape
 have bC:Hid (∀w',Below W.heap.size W w'->StC w' w.heap.size s v):=fun w' hb=>hC0.below hb hC0.lt
 obtain⟨ph,cu,d,n,h,p⟩:=s
 obtain⟨vd,vn,vh,vp⟩:=v
 dsimp only at *
 subst e1 e2 e3 e4
 have aZ:Hid (∀w',Below W.heap.size W w'->w'.cell? ⟨w.heap.size,0,none⟩=some (.int .i64 ph)/\w'.cell? ⟨w.heap.size,1,none⟩=some (.int .i64 cu)/\w'.cell? ⟨w.heap.size,2,none⟩=some (.slice a1 d.length c1)/\w'.cell? ⟨w.heap.size,3,none⟩=some (.slice a2 n.length c2)/\w'.cell? ⟨w.heap.size,4,none⟩=some (.slice a3 h.length c3)/\w'.cell? ⟨w.heap.size,5,none⟩=some (.slice a4 p.length c4)):=fun w' hb=>⟨(bC.out _ hb).c0,(bC.out _ hb).c1,(bC.out _ hb).c2,(bC.out _ hb).c3,(bC.out _ hb).c4,(bC.out _ hb).c5⟩
 unfold stV
 dsimp only
 have HW:Hid (w.alloc (.cells #[.int .i64 ph,.int .i64 cu,.slice a1 d.length c1,.slice a2 n.length c2,.slice a3 h.length c3,.slice a4 p.length c4] 41)=W):=hW.symm
 have hltW:w.heap.size<W.heap.size:=hC0.lt
 have fB:Hid (∀w',Below W.heap.size W w'->Below w.heap.size w w'):=fun w' hb=>ah hBW hb
 generalize d.length=dn at *
 generalize n.length=nn at *
 generalize h.length=hn at *
 generalize p.length=pn at *
 have oD:Hid (∀w',Below W.heap.size W w'->w'.cell? ⟨w.heap.size,0,none⟩=some (.int .i64 ph)/\w'.cell? ⟨w.heap.size,1,none⟩=some (.int .i64 cu)/\w'.cell? ⟨w.heap.size,2,none⟩=some (.slice a1 dn c1)/\w'.cell? ⟨w.heap.size,3,none⟩=some (.slice a2 nn c2)):=fun w' hb=>by
  obtain⟨k0,k1,k2,k3,-,-⟩:=aZ.out w' hb
  exact⟨k0,k1,k2,k3⟩
 clear hR h1 h2 h3 h4 hbd hlm
 generalize eX R h p=fh at *
 clear hW hC0 bC hv eY hBW hB
 go_enter Tryz.func51,Tryz.ntmps51
 go_wp2_with fail
 rw[HW.out]
 refine(hPh _).mono ?_
 rintro e w0 ⟨rfl,hw0⟩
 have hbr:Below W.heap.size W w0:=by rw[hw0];exact Below.refl _ _
 clear hw0 hPh HW
 obtain⟨g0,g1,g2,g3,g4,g5⟩:=aZ.out _ hbr
 have hD1:=hD _ hbr
 clear hD
 go_wp2_with fail
 refine hD1.mono ?_
 rintro e w1 ⟨rfl,hb1⟩
 have hbr:Below W.heap.size W w1:=ah hbr hb1
 clear hD1 hb1
 obtain⟨g0,g1,g2,g3,g4,g5⟩:=aZ.out _ hbr
 clear g4 g5
 go_wp2_with fail
 go_region_held3 (fun w'=>w'.cell? ⟨w.heap.size,0,none⟩=some (.int .i64 ph)/\w'.cell? ⟨w.heap.size,1,none⟩=some (.int .i64 cu)/\w'.cell? ⟨w.heap.size,2,none⟩=some (.slice a1 dn c1)/\w'.cell? ⟨w.heap.size,3,none⟩=some (.slice a2 nn c2))
  (first | with_reducible exact⟨g0,g1,g2,g3⟩|with_reducible exact oD.out _ hbr | with_reducible exact oD.out _ hbr.drew)
  (first
   |(go_at_call 110;refine(kJ _).mono ?_;rintro e w2 ⟨rfl,hb2⟩;have hbr:Below W.heap.size W w2:=(by first | exact ah hbr hb2 | exact ah hbr.drew hb2);clear hb2)
   |(go_at_call 54;refine(vN.c (by assumption) _ (by first | exact hbr | exact hbr.drew)).mono ?_;rintro e w3 ⟨a7,c7,rfl,hb3,o3⟩;have hp3:=aP o3;have hbr:Below W.heap.size W w3:=(by first | exact ah hbr hb3 | exact ah hbr.drew hb3);clear hb3 o3)
   |(go_at_call 111;refine(hE _ _ hbr hp3).mono ?_;rintro e w4 ⟨rfl,hb4⟩;have hbr:Below W.heap.size W w4:=ah hbr hb4;clear hb4))
 clear kJ Gf hE g0 g1 g2 g3 hp3
 obtain⟨g0,g1,g2,g3,g4,g5⟩:=aZ.out _ hbr
 have hH1:=hH _ hbr
 clear hH
 go_wp2_with fail
 refine hH1.mono ?_
 rintro e w5 ⟨rfl,hb5⟩
 have hbr:Below W.heap.size W w5:=ah hbr hb5
 clear hH1 hb5 g0 g1 g2 g3 g4 g5
 obtain⟨g0,g1,g2,g3,g4,g5⟩:=aZ.out _ hbr
 go_wp2
 go_ret
 exact⟨rfl,fB.out _ hbr⟩
theorem wM(R:Rt)(hR:gJ R)(s:St)(v:Sv)(w:World)(hv:Sts w v s)(hB:StB s)(h1:inB s.ph 1 5=true)(h2:aI s.d=0)(h3:cuB s.ph s.cu=true)(h4:eqP s.n (newL s.d s.cu)=true)(h5:eX R s.h s.p=0)(h6:iD (phL s.h) s.ph=false):
  Calls Tryz.prog 51 #[stV s v] w fun e w'=>e = .returned (.int .i64 (10))/\Below w.heap.size w w':=by
 obtain⟨W,hW⟩:∃W,W=w.alloc (stC s v 41):=⟨_,rfl⟩
 have hBW:Below w.heap.size w W:=by rw[hW];exact aj _
 have hC0:StC W w.heap.size s v:=by rw[hW];exact StC.new w s v _
 have eY:=hv.below hBW
 have hPh:=fun w=>fK s.ph w
 have hD:=fun w' hb=>aY v.d s.d w' (eY.d.below (w':=w') hb) hB.dl (by have:=hB.d;omega)
 have kJ:=fun w=>iR s.ph s.cu w
 have hbd:=Bd h3
 have Gf:vN W v.d s.d s.cu (newL s.d s.cu):=⟨fun w' hb=>nI v.d s.d s.cu w' (eY.d.below hb) h2 hbd⟩
 have hlm:(newL s.d s.cu).length<=1048576:=by have:=qQ s.d s.cu;have:=(dP h2).len;omega
 have hE:=fun u w' hb hu=>uP v.n u s.n (newL s.d s.cu) w' (eY.n.below (w':=w') hb) hu hB.n hlm
 have hH:=fun w' hb=>nC R hR v.h v.p s.h s.p w' (eY.h.below (w':=w') hb) (eY.p.below hb) hB.h hB.p hB.pd
 obtain⟨hch,-⟩:=sU h5
 have wu:=fun w' hb=>vP v.h s.h w' (eY.h.below (w':=w') hb) (pY hch).2 hB.h
 have oM:=fun w=>rO (phL s.h) s.ph w
 rw[Qb (Ql hch) h1]at oM
 rw[h1]at hPh
 rw[h2]at hD
 rw[h3]at kJ
 rw[h4]at hE
 rw[h5]at hH
 rw[h6]at oM
 obtain⟨a1,c1,e1⟩:=hv.d.shape
 obtain⟨a2,c2,e2⟩:=hv.n.shape
 obtain⟨a3,c3,e3⟩:=hv.h.shape
 obtain⟨a4,c4,e4⟩:=hv.p.shape
 have bC:Hid (∀w',Below W.heap.size W w'->StC w' w.heap.size s v):=fun w' hb=>hC0.below hb hC0.lt
 obtain⟨ph,cu,d,n,h,p⟩:=s
 obtain⟨vd,vn,vh,vp⟩:=v
 dsimp only at *
 subst e1 e2 e3 e4
 have aZ:Hid (∀w',Below W.heap.size W w'->w'.cell? ⟨w.heap.size,0,none⟩=some (.int .i64 ph)/\w'.cell? ⟨w.heap.size,1,none⟩=some (.int .i64 cu)/\w'.cell? ⟨w.heap.size,2,none⟩=some (.slice a1 d.length c1)/\w'.cell? ⟨w.heap.size,3,none⟩=some (.slice a2 n.length c2)/\w'.cell? ⟨w.heap.size,4,none⟩=some (.slice a3 h.length c3)/\w'.cell? ⟨w.heap.size,5,none⟩=some (.slice a4 p.length c4)):=fun w' hb=>⟨(bC.out _ hb).c0,(bC.out _ hb).c1,(bC.out _ hb).c2,(bC.out _ hb).c3,(bC.out _ hb).c4,(bC.out _ hb).c5⟩
 unfold stV
 dsimp only
 have HW:Hid (w.alloc (.cells #[.int .i64 ph,.int .i64 cu,.slice a1 d.length c1,.slice a2 n.length c2,.slice a3 h.length c3,.slice a4 p.length c4] 41)=W):=hW.symm
 have hltW:w.heap.size<W.heap.size:=hC0.lt
 have fB:Hid (∀w',Below W.heap.size W w'->Below w.heap.size w w'):=fun w' hb=>ah hBW hb
 generalize d.length=dn at *
 generalize n.length=nn at *
 generalize h.length=hn at *
 generalize p.length=pn at *
 have oD:Hid (∀w',Below W.heap.size W w'->w'.cell? ⟨w.heap.size,0,none⟩=some (.int .i64 ph)/\w'.cell? ⟨w.heap.size,1,none⟩=some (.int .i64 cu)/\w'.cell? ⟨w.heap.size,2,none⟩=some (.slice a1 dn c1)/\w'.cell? ⟨w.heap.size,3,none⟩=some (.slice a2 nn c2)):=fun w' hb=>by
  obtain⟨k0,k1,k2,k3,-,-⟩:=aZ.out w' hb
  exact⟨k0,k1,k2,k3⟩
 clear hR h1 h2 h3 h4 h5 h6 hch hbd hlm
 clear hW hC0 bC hv eY hBW hB
 go_enter Tryz.func51,Tryz.ntmps51
 go_wp2_with fail
 rw[HW.out]
 refine(hPh _).mono ?_
 rintro e w0 ⟨rfl,hw0⟩
 have hbr:Below W.heap.size W w0:=by rw[hw0];exact Below.refl _ _
 clear hw0 hPh HW
 obtain⟨g0,g1,g2,g3,g4,g5⟩:=aZ.out _ hbr
 have hD1:=hD _ hbr
 clear hD
 go_wp2_with fail
 refine hD1.mono ?_
 rintro e w1 ⟨rfl,hb1⟩
 have hbr:Below W.heap.size W w1:=ah hbr hb1
 clear hD1 hb1
 obtain⟨g0,g1,g2,g3,g4,g5⟩:=aZ.out _ hbr
 clear g4 g5
 go_wp2_with fail
 go_region_held3 (fun w'=>w'.cell? ⟨w.heap.size,0,none⟩=some (.int .i64 ph)/\w'.cell? ⟨w.heap.size,1,none⟩=some (.int .i64 cu)/\w'.cell? ⟨w.heap.size,2,none⟩=some (.slice a1 dn c1)/\w'.cell? ⟨w.heap.size,3,none⟩=some (.slice a2 nn c2))
  (first | with_reducible exact⟨g0,g1,g2,g3⟩|with_reducible exact oD.out _ hbr | with_reducible exact oD.out _ hbr.drew)
  (first
   |(go_at_call 110;refine(kJ _).mono ?_;rintro e w2 ⟨rfl,hb2⟩;have hbr:Below W.heap.size W w2:=(by first | exact ah hbr hb2 | exact ah hbr.drew hb2);clear hb2)
   |(go_at_call 54;refine(vN.c (by assumption) _ (by first | exact hbr | exact hbr.drew)).mono ?_;rintro e w3 ⟨a7,c7,rfl,hb3,o3⟩;have hp3:=aP o3;have hbr:Below W.heap.size W w3:=(by first | exact ah hbr hb3 | exact ah hbr.drew hb3);clear hb3 o3)
   |(go_at_call 111;refine(hE _ _ hbr hp3).mono ?_;rintro e w4 ⟨rfl,hb4⟩;have hbr:Below W.heap.size W w4:=ah hbr hb4;clear hb4))
 clear kJ Gf hE g0 g1 g2 g3 hp3
 obtain⟨g0,g1,g2,g3,g4,g5⟩:=aZ.out _ hbr
 have hH1:=hH _ hbr
 clear hH
 go_wp2_with fail
 refine hH1.mono ?_
 rintro e w5 ⟨rfl,hb5⟩
 have hbr:Below W.heap.size W w5:=ah hbr hb5
 clear hH1 hb5 g0 g1 g2 g3 g4 g5
 obtain⟨g0,g1,g2,g3,g4,g5⟩:=aZ.out _ hbr
 have G7:=wu _ hbr
 clear wu
 go_wp2_with fail
 refine G7.mono ?_
 rintro e w6 ⟨rfl,hb6⟩
 have hbr:Below W.heap.size W w6:=ah hbr hb6
 clear G7 hb6 g0 g1 g2 g3 g4 g5
 obtain⟨g0,g1,g2,g3,g4,g5⟩:=aZ.out _ hbr
 go_wp2_with fail
 refine(oM _).mono ?_
 rintro e w7 ⟨rfl,hb7⟩
 have hbr:Below W.heap.size W w7:=ah hbr hb7
 clear oM hb7 g0 g1 g2 g3 g4 g5
 go_wp2
 go_ret
 exact⟨rfl,fB.out _ hbr⟩
theorem yF(R:Rt)(hR:gJ R)(s:St)(v:Sv)(w:World)(hv:Sts w v s)(hB:StB s)(h1:inB s.ph 1 5=true)(h2:aI s.d=0)(h3:cuB s.ph s.cu=true)(h4:eqP s.n (newL s.d s.cu)=true)(h5:eX R s.h s.p=0)(h6:iD (phL s.h) s.ph=true):
  Calls Tryz.prog 51 #[stV s v] w fun e w'=>e = .returned (.int .i64 (0))/\Below w.heap.size w w':=by
 obtain⟨W,hW⟩:∃W,W=w.alloc (stC s v 41):=⟨_,rfl⟩
 have hBW:Below w.heap.size w W:=by rw[hW];exact aj _
 have hC0:StC W w.heap.size s v:=by rw[hW];exact StC.new w s v _
 have eY:=hv.below hBW
 have hPh:=fun w=>fK s.ph w
 have hD:=fun w' hb=>aY v.d s.d w' (eY.d.below (w':=w') hb) hB.dl (by have:=hB.d;omega)
 have kJ:=fun w=>iR s.ph s.cu w
 have hbd:=Bd h3
 have Gf:vN W v.d s.d s.cu (newL s.d s.cu):=⟨fun w' hb=>nI v.d s.d s.cu w' (eY.d.below hb) h2 hbd⟩
 have hlm:(newL s.d s.cu).length<=1048576:=by have:=qQ s.d s.cu;have:=(dP h2).len;omega
 have hE:=fun u w' hb hu=>uP v.n u s.n (newL s.d s.cu) w' (eY.n.below (w':=w') hb) hu hB.n hlm
 have hH:=fun w' hb=>nC R hR v.h v.p s.h s.p w' (eY.h.below (w':=w') hb) (eY.p.below hb) hB.h hB.p hB.pd
 obtain⟨hch,-⟩:=sU h5
 have wu:=fun w' hb=>vP v.h s.h w' (eY.h.below (w':=w') hb) (pY hch).2 hB.h
 have oM:=fun w=>rO (phL s.h) s.ph w
 rw[Qb (Ql hch) h1]at oM
 rw[h1]at hPh
 rw[h2]at hD
 rw[h3]at kJ
 rw[h4]at hE
 rw[h5]at hH
 rw[h6]at oM
 obtain⟨a1,c1,e1⟩:=hv.d.shape
 obtain⟨a2,c2,e2⟩:=hv.n.shape
 obtain⟨a3,c3,e3⟩:=hv.h.shape
 obtain⟨a4,c4,e4⟩:=hv.p.shape
 have bC:Hid (∀w',Below W.heap.size W w'->StC w' w.heap.size s v):=fun w' hb=>hC0.below hb hC0.lt
 obtain⟨ph,cu,d,n,h,p⟩:=s
 obtain⟨vd,vn,vh,vp⟩:=v
 dsimp only at *
 subst e1 e2 e3 e4
 have aZ:Hid (∀w',Below W.heap.size W w'->w'.cell? ⟨w.heap.size,0,none⟩=some (.int .i64 ph)/\w'.cell? ⟨w.heap.size,1,none⟩=some (.int .i64 cu)/\w'.cell? ⟨w.heap.size,2,none⟩=some (.slice a1 d.length c1)/\w'.cell? ⟨w.heap.size,3,none⟩=some (.slice a2 n.length c2)/\w'.cell? ⟨w.heap.size,4,none⟩=some (.slice a3 h.length c3)/\w'.cell? ⟨w.heap.size,5,none⟩=some (.slice a4 p.length c4)):=fun w' hb=>⟨(bC.out _ hb).c0,(bC.out _ hb).c1,(bC.out _ hb).c2,(bC.out _ hb).c3,(bC.out _ hb).c4,(bC.out _ hb).c5⟩
 unfold stV
 dsimp only
 have HW:Hid (w.alloc (.cells #[.int .i64 ph,.int .i64 cu,.slice a1 d.length c1,.slice a2 n.length c2,.slice a3 h.length c3,.slice a4 p.length c4] 41)=W):=hW.symm
 have hltW:w.heap.size<W.heap.size:=hC0.lt
 have fB:Hid (∀w',Below W.heap.size W w'->Below w.heap.size w w'):=fun w' hb=>ah hBW hb
 generalize d.length=dn at *
 generalize n.length=nn at *
 generalize h.length=hn at *
 generalize p.length=pn at *
 have oD:Hid (∀w',Below W.heap.size W w'->w'.cell? ⟨w.heap.size,0,none⟩=some (.int .i64 ph)/\w'.cell? ⟨w.heap.size,1,none⟩=some (.int .i64 cu)/\w'.cell? ⟨w.heap.size,2,none⟩=some (.slice a1 dn c1)/\w'.cell? ⟨w.heap.size,3,none⟩=some (.slice a2 nn c2)):=fun w' hb=>by
  obtain⟨k0,k1,k2,k3,-,-⟩:=aZ.out w' hb
  exact⟨k0,k1,k2,k3⟩
 clear hR h1 h2 h3 h4 h5 h6 hch hbd hlm
 clear hW hC0 bC hv eY hBW hB
 go_enter Tryz.func51,Tryz.ntmps51
 go_wp2_with fail
 rw[HW.out]
 refine(hPh _).mono ?_
 rintro e w0 ⟨rfl,hw0⟩
 have hbr:Below W.heap.size W w0:=by rw[hw0];exact Below.refl _ _
 clear hw0 hPh HW
 obtain⟨g0,g1,g2,g3,g4,g5⟩:=aZ.out _ hbr
 have hD1:=hD _ hbr
 clear hD
 go_wp2_with fail
 refine hD1.mono ?_
 rintro e w1 ⟨rfl,hb1⟩
 have hbr:Below W.heap.size W w1:=ah hbr hb1
 clear hD1 hb1
 obtain⟨g0,g1,g2,g3,g4,g5⟩:=aZ.out _ hbr
 clear g4 g5
 go_wp2_with fail
 go_region_held3 (fun w'=>w'.cell? ⟨w.heap.size,0,none⟩=some (.int .i64 ph)/\w'.cell? ⟨w.heap.size,1,none⟩=some (.int .i64 cu)/\w'.cell? ⟨w.heap.size,2,none⟩=some (.slice a1 dn c1)/\w'.cell? ⟨w.heap.size,3,none⟩=some (.slice a2 nn c2))
  (first | with_reducible exact⟨g0,g1,g2,g3⟩|with_reducible exact oD.out _ hbr | with_reducible exact oD.out _ hbr.drew)
  (first
   |(go_at_call 110;refine(kJ _).mono ?_;rintro e w2 ⟨rfl,hb2⟩;have hbr:Below W.heap.size W w2:=(by first | exact ah hbr hb2 | exact ah hbr.drew hb2);clear hb2)
   |(go_at_call 54;refine(vN.c (by assumption) _ (by first | exact hbr | exact hbr.drew)).mono ?_;rintro e w3 ⟨a7,c7,rfl,hb3,o3⟩;have hp3:=aP o3;have hbr:Below W.heap.size W w3:=(by first | exact ah hbr hb3 | exact ah hbr.drew hb3);clear hb3 o3)
   |(go_at_call 111;refine(hE _ _ hbr hp3).mono ?_;rintro e w4 ⟨rfl,hb4⟩;have hbr:Below W.heap.size W w4:=ah hbr hb4;clear hb4))
 clear kJ Gf hE g0 g1 g2 g3 hp3
 obtain⟨g0,g1,g2,g3,g4,g5⟩:=aZ.out _ hbr
 have hH1:=hH _ hbr
 clear hH
 go_wp2_with fail
 refine hH1.mono ?_
 rintro e w5 ⟨rfl,hb5⟩
 have hbr:Below W.heap.size W w5:=ah hbr hb5
 clear hH1 hb5 g0 g1 g2 g3 g4 g5
 obtain⟨g0,g1,g2,g3,g4,g5⟩:=aZ.out _ hbr
 have G7:=wu _ hbr
 clear wu
 go_wp2_with fail
 refine G7.mono ?_
 rintro e w6 ⟨rfl,hb6⟩
 have hbr:Below W.heap.size W w6:=ah hbr hb6
 clear G7 hb6 g0 g1 g2 g3 g4 g5
 obtain⟨g0,g1,g2,g3,g4,g5⟩:=aZ.out _ hbr
 go_wp2_with fail
 refine(oM _).mono ?_
 rintro e w7 ⟨rfl,hb7⟩
 have hbr:Below W.heap.size W w7:=ah hbr hb7
 clear oM hb7 g0 g1 g2 g3 g4 g5
 go_wp2
 go_ret
 exact⟨rfl,fB.out _ hbr⟩
theorem wK(R:Rt)(hR:gJ R)(s:St)(v:Sv)(w:World)(hv:Sts w v s)(hB:StB s):
  Calls Tryz.prog 51 #[stV s v] w fun e w'=>e = .returned (.int .i64 (stF R s))/\Below w.heap.size w w':=by
 rcases Bool.eq_false_or_eq_true (inB s.ph 1 5)with h1 | h1
 ·by_cases h2:aI s.d=0
  ·rcases Bool.eq_false_or_eq_true (cuB s.ph s.cu)with h3 | h3
   ·rcases Bool.eq_false_or_eq_true (eqP s.n (newL s.d s.cu))with h4 | h4
    ·have hn:stN s=true:=by unfold stN;rw[h3,h4];rfl
     by_cases h5:eX R s.h s.p=0
     ·rcases Bool.eq_false_or_eq_true (iD (phL s.h) s.ph)with h6 | h6
      ·rw[JG h1 h2 hn h5 h6]
       exact yF R hR s v w hv hB h1 h2 h3 h4 h5 h6
      ·rw[DZ h1 h2 hn h5 h6]
       exact wM R hR s v w hv hB h1 h2 h3 h4 h5 h6
     ·rw[D5 h1 h2 hn h5]
      exact wO R hR s v w hv hB h1 h2 h3 h4 h5
    ·rw[uS h1 h2 (by unfold stN;rw[h3,h4];rfl)]
     exact wP s v w hv hB h1 h2 h3 h4
   ·rw[uS h1 h2 (by unfold stN;rw[h3];rfl)]
    exact yE s v w hv hB h1 h2 h3
  ·rw[DY h1 h2]
   exact wL s v w hv hB h1 h2
 ·rw[JH h1]
  exact yG s v w hv hB h1
end U
end Go.Proofs.YtmnfokgllcdiiaaGreat
