/- An epoch closed, by the model. -/
import Derived.Test.YtmmcgjacojgeaaaGreatGZz
import Derived.Deep.Cut
import Derived.Test.YtmmcgjacojgeaaaGreatGCl1
import Derived.Test.YtmmcgjacojgeaaaGreatGIm2h
import Derived.Test.YtmmcgjacojgeaaaGreatGSt5
set_option maxRecDepth 100000
set_option maxHeartbeats 4000000
namespace Go.Proofs.YtmmcgjacojgeaaaGreat
open Go.RowKit Go.Maps
namespace U
theorem Ie(g:Nat)(s:St)(v:Sv)(w:World)(hv:Hds w v.h s.h)(hs:StC w g s v)(h10:s.h.length=10):
  Calls Tryz.prog 97 #[.pointer (some ⟨g,0,none⟩)] w fun e w'=>aQ w 11 stZ e w':=by
 obtain⟨W,hW⟩:∃W,W=w.alloc aiJ:=⟨_,rfl⟩
 have hBW:Below w.heap.size w W:=by rw[hW];exact aj _
 have cZ:W.heap[w.heap.size]? = some aiJ:=by rw[hW];exact heap_alloc_new w _
 have dG:w.heap.size<W.heap.size:=(Array.getElem?_eq_some_iff.1 cZ).1
 have hsW:=hs.below hBW hs.lt
 have hC:=iT 11 W
 have HW:Hid (w.alloc aiJ=W):=hW.symm
 obtain⟨a3,c3,e3⟩:=hv.shape
 rw[h10]at e3
 have k4:=hsW.c4
 rw[e3,hW]at k4
 have hgw:g<w.heap.size:=hs.lt
 have aC:Hid (Below w.heap.size w W):=hBW
 have bf:Hid (w.heap.size<W.heap.size):=dG
 have bJ:Hid (w.heap.size<=w.heap.size):=Nat.le_refl _
 have HRW:Hid (W.heap[w.heap.size]? = some aiJ):=cZ
 generalize stZ=t at *
 clear hs hsW hW hBW cZ dG hv h10 e3
 go_enter Tryz.func97,Tryz.ntmps97
 go_wp2_with fail
 rw[HW.out]
 refine hC.mono ?_
 rintro e w1 ⟨u,us,rfl,hb1,h1⟩
 have HB1:Hid (Below w.heap.size w w1):=ah aC.out hb1
 obtain⟨⟨q0,q1,q2,q3,q4,q5,q6⟩,g0,g1,g2,g3,g4,g5,g6⟩:=aA ((hb1.block w.heap.size bf.out).trans HRW.out)
 clear hC HW k4 hb1 HRW aC
 obtain⟨b1,d1,f1⟩:=h1.sts.d.shape
 obtain⟨b2,d2,f2⟩:=h1.sts.n.shape
 obtain⟨b3,d3,f3⟩:=h1.sts.h.shape
 obtain⟨b4,d4,f4⟩:=h1.sts.p.shape
 obtain⟨td,tn,th,tp⟩:=u
 dsimp only at f1 f2 f3 f4
 subst f1 f2 f3 f4
 unfold srV
 dsimp only
 have HP:Hid (∀x0 x1 x2 x3 x4 x5 x6:Value,_):=(bZ (w:=w) (b:=w.heap.size) h1 HB1.out bJ.out bf.out)
 clear h1
 go_wp2
 refine bodyPost_ret (v:= .agg #[.int .i64 11,.int .i64 t.ph,.int .i64 t.cu,.slice b1 t.d.length d1,.slice b2 t.n.length d2,.slice b3 t.h.length d3,.slice b4 t.p.length d4]) (by simp[results,Tryz.results97,go_sem,q0,q1,q2,q3,q4,q5,q6]) rfl ⟨⟨.slice b1 t.d.length d1,.slice b2 t.n.length d2,.slice b3 t.h.length d3,.slice b4 t.p.length d4⟩,us,rfl, ?_, ?_⟩
 ·exact(HP.out _ _ _ _ _ _ _).1
 ·exact(HP.out _ _ _ _ _ _ _).2
theorem Nv(R:Rt)(hR:bK R)(lo0 hi0 g:Nat)(s:St)(v:Sv)(aT:List Value)(w:World)(hso:aG lo0 hi0 w v aT s)(hB:StB s)(hs:StC w g s v)(h:stF R s=0)(h1:¬s.h.length=10):
  Calls Tryz.prog 97 #[.pointer (some ⟨g,0,none⟩)] w fun e w'=>aQ w 0 (clT R s) e w':=by
 obtain⟨W,hW⟩:∃W,W=w.alloc aiJ:=⟨_,rfl⟩
 have hBW:Below w.heap.size w W:=by rw[hW];exact aj _
 have cZ:W.heap[w.heap.size]? = some aiJ:=by rw[hW];exact heap_alloc_new w _
 have dG:w.heap.size<W.heap.size:=(Array.getElem?_eq_some_iff.1 cZ).1
 have hsW:=hs.below hBW hs.lt
 have hv:=hso.sts
 have hok:=fP h
 have hlen:=uF h
 have Ua:=hR (dh s.d) (sF (cO hok.d))
 have hC:=BH lo0 hi0 s v aT W (hso.below hBW) hB
 have HC:Hid (∀w',Below W.heap.size W w'->StC w' g s v):=fun w' hb=>hsW.below hb hsW.lt
 have HLA:Hid (∀w',Below W.heap.size W w'->Calls Tryz.prog 55 #[.pointer (some ⟨g,0,none⟩)] w' fun e w''=>e = .returned (.tuple #[.int .i64 (phL s.h),.int .i64 (smL s.h)])/\Below w'.heap.size w' w''):=fun w' hb=>uY g v.h s.h w' (HC.out w' hb).c4 (hv.h.below (ah hBW hb)) (lX (lZ hok.his).1).2 hB.h
 have Bf:Hid (∀w',Below W.heap.size W w'->Calls Tryz.prog 108 #[.pointer (some ⟨g,2,none⟩),.int .i64 ((s.h.length:Int)+1),.int .i64 s.ph,.int .i64 (smL s.h)] w' fun x w''=>x = .returned (hdV (clH R s).e (clH R s).p (clH R s).o (clH R s).n (clH R s).v)/\Below w'.heap.size w' w''):=fun w' hb=>BG g 2 v.d s.d _ _ _ _ _ w' (HC.out w' hb).lt (HC.out w' hb).c2 (hv.d.below (ah hBW hb)) (cO hok.d) Ua
 have HT:Hid (∀(u:Sv)(us:List Value)(w':World),Below w.heap.size w w'->aG w.heap.size w'.heap.size w' u us (clT R s)->aQ w 0 (clT R s) (.returned (srV 0 (clT R s) u)) w'):=fun u us w' hb ho=>⟨u,us,rfl,hb,ho⟩
 have hnil:=hso.own.own (aI v.d s.d) (by simp[eY])
 obtain⟨a1,c1,e1⟩:=hv.d.shape
 obtain⟨a2,c2,e2⟩:=hv.n.shape
 obtain⟨a3,c3,e3⟩:=hv.h.shape
 obtain⟨a4,c4,e4⟩:=hv.p.shape
 have mV:Hid (∀w',Below w.heap.size w w'->Calls Tryz.prog 113 #[.agg #[.slice a1 s.d.length c1]] w' fun e w''=>∃a c,e = .returned (.agg #[.slice a s.d.length c])/\Below w'.heap.size w' w''/\w''.ownsRow w'.heap.size 46 4 (.slice a s.d.length c) s.d.length (flR s.d)):=fun w' hb=>rC a1 s.d.length c1 s.d w' rfl (by rw[←e1];exact hv.d.below hb) (kL hnil e1) hB.d
 have QF:¬ 10<=((s.h.length:Nat):Int):=by omega
 have hwr:IntKind.i64.wrap (((s.h.length:Nat):Int)+1)=((s.h.length:Nat):Int)+1:=by rw[IntKind.wrap_i64];omega
 obtain⟨x,hx⟩:∃x,x=clH R s:=⟨_,rfl⟩
 have SY:Hid (x=clH R s):=hx
 rw[←hx]at Bf
 unfold hdV at Bf
 have hpl:=hB.p
 obtain⟨hgl,k0,k1,k2,k3,k4,k5⟩:=hsW
 have t0:=After.cell k0
 have t2:=After.cell k2
 have t4:=After.cell k4
 have adZ:=After.ne W
 rw[e1]at t2 k2
 rw[e2]at k3
 rw[e3]at t4 k4
 rw[e4]at k5
 unfold stV at hC
 rw[e1,e2,e3,e4]at hC
 have HW:Hid (w.alloc aiJ=W):=hW.symm
 rw[hW]at k0 k1 k2 k3 k4 k5
 have hgw:g<w.heap.size:=hs.lt
 have aC:Hid (Below w.heap.size w W):=hBW
 have dM:Hid (w.heap.size<W.heap.size):=dG
 have HR:Hid (∀w',Below W.heap.size W w'->w'.heap[w.heap.size]? = some aiJ):=fun w' hb=>(hb.block _ dG).trans cZ
 have hp0:Hid (s.h.length<=10):=hlen
 clear hv hso hB hs hW hR h cZ dG hBW hok Ua hx hlen h1 hnil e1 e2 e3 e4
 go_enter Tryz.func97,Tryz.ntmps97
 go_wp2_with fail
 rw[HW.out]
 refine hC.mono ?_
 rintro e w2 ⟨u,us,rfl,h2⟩
 clear hC k0 k1 k2 k3 k4 k5 HW
 have HA2:Hid (gW W s u us w2):=h2
 obtain⟨b1,d1,f1⟩:=h2.sts.d.shape
 obtain⟨b2,d2,f2⟩:=h2.sts.n.shape
 obtain⟨b3,d3,f3⟩:=h2.sts.h.shape
 obtain⟨b4,d4,f4⟩:=h2.sts.p.shape
 have hU:u=⟨.slice b1 s.d.length d1,.slice b2 s.n.length d2,.slice b3 s.h.length d3,.slice b4 s.p.length d4⟩:=(by cases u;simp only at f1 f2 f3 f4;rw[f1,f2,f3,f4])
 rw[f1,f2,f3,f4]
 subst hU
 clear f1 f2 f3 f4 h2
 obtain⟨W3,hW3⟩:∃W3,W3=w2.alloc (.cells #[.int .i64 s.ph,.int .i64 s.cu,.slice b1 s.d.length d1,.slice b2 s.n.length d2,.slice b3 s.h.length d3,.slice b4 s.p.length d4] 41):=⟨_,rfl⟩
 have mG:Bxd W.heap.size W3 w2.heap.size s.ph s.cu ⟨.slice b1 s.d.length d1,.slice b2 s.n.length d2,.slice b3 s.h.length d3,.slice b4 s.p.length d4⟩ us s:=by rw[hW3];exact Bxd.new HA2.out.own HA2.out.below.size (Nat.le_refl _) s.ph s.cu
 have HW3:Hid _:=hW3.symm
 have hb3:Below W.heap.size W W3:=by rw[hW3];exact ah HA2.out.below (aj _)
 have qW:Hid (W.heap.size<=w2.heap.size):=HA2.out.below.size
 have hLA:=HLA.out W3 hb3
 clear hW3 HA2
 go_upto_region 4 with fail
 rw[HW3.out]
 clear HW3
 generalize w2.heap.size=bx at *
 clear w2
 go_wp2_with fail
 refine hLA.mono ?_
 rintro e w4 ⟨rfl,hb4⟩
 clear hLA
 have hcur:Below W.heap.size W w4:=ah hb3 hb4
 have HX0:=mG.below hb4
 clear mG hb3 hb4 HLA HC
 have bf:Hid (w.heap.size<W.heap.size):=dM.out
 have bJ:Hid (w.heap.size<=w.heap.size):=Nat.le_refl _
 have xw:Hid (W.heap.size<=bx):=qW.out
 have tV:Hid (¬w.heap.size=bx/\¬bx=w.heap.size):=(by have:=xw.out;have:=dM.out;omega:¬w.heap.size=bx/\¬bx=w.heap.size)
 obtain⟨lo,hlo⟩:∃lo,lo=W.heap.size:=⟨_,rfl⟩
 have ZW:Hid (W.heap.size<=lo):=Nat.le_of_eq hlo.symm
 rw[←hlo]at HX0 bf
 clear hlo
 have HT:Hid (∀(u:Sv)(us:List Value)(w':World),Below w.heap.size w w'->aG w.heap.size w'.heap.size w' u us ⟨s.ph,s.cu,s.d,s.n,s.h++[x],s.p++[s.d]⟩->aQ w 0 (clT R s) (.returned (.agg #[.int .i64 0,.int .i64 s.ph,.int .i64 s.cu,u.d,u.n,u.h,u.p])) w'):=fun u us w' hb ho=>by
  rw[SY.out]at ho
  exact HT.out u us w' hb ho
 clear SY qW QF
 have hlen:=hp0.out
 go_upto_region 5 with fail
 obtain⟨iN,hiN,qH,qI,qJ⟩:=info_parts Tryz.vN
 have kZ:Hid (lo<=w4.drew.heap.size):=Nat.le_trans HX0.lt.1 (Nat.le_of_lt HX0.lt.2)
 have Bd:Hid (Below W.heap.size W w4.drew):=hcur.drew
 have HS:Hid (∀w',Below w4.drew.heap.size w4.drew w'->w'.ownsRow lo 114 5 (.slice b3 s.h.length d3) s.h.length (flH s.h)):=fun w' hb=>by
  have h9:=(HX0.below (Below.refl _ _).drew).below hb
  exact h9.own.own (hRow (.slice b3 s.h.length d3) s.h) (by simp[eY])
 have kR:Hid (∀y,(Value.slice b3 s.h.length d3).ownBlock=some y->W.heap.size<=y):=fun y hy=>Nat.le_trans ZW.out ((HS.out _ (Below.refl _ _)).lt y hy).1
 have uy:=Bf
 clear Bf
 obtain⟨V0,hV0⟩:∃V0,V0=w4:=⟨_,rfl⟩
 rw[←hV0]at HX0 hcur kZ Bd HS ⊢
 clear hV0
 refine Code.wp_mono (Q:=fun e a' w'=>e=Exit.normal/\∃(hh g7 c7:Nat),a' = {tmps:=#[.pointer (some ⟨g,0,none⟩),undef,.pointer (some ⟨w.heap.size,0,none⟩),.pointer (some ⟨bx,0,none⟩),.int .i64 (phL s.h),.int .i64 (smL s.h),.pointer (some ⟨g,0,none⟩),.pointer (some ⟨g,0,none⟩),.pointer (some ⟨g,4,none⟩),.slice a3 s.h.length c3,.int .i64 ((s.h.length:Nat):Int),.bool false,undef,.pointer (some ⟨g,0,none⟩),.pointer (some ⟨g,0,none⟩),.agg #[.int .i64 s.ph,.int .i64 s.cu,.slice a1 s.d.length c1,.slice a2 s.n.length c2,.slice a3 s.h.length c3,.slice a4 s.p.length c4],.agg #[.int .i64 s.ph,.int .i64 s.cu,.slice b1 s.d.length d1,.slice b2 s.n.length d2,.slice b3 s.h.length d3,.slice b4 s.p.length d4],.tuple #[.int .i64 (phL s.h),.int .i64 (smL s.h)],.pointer (some ⟨g,0,none⟩),.tuple #[.int .i64 (phL s.h),.int .i64 (smL s.h)],.int .i64 (phL s.h),.int .i64 (smL s.h),.pointer (some ⟨bx,4,none⟩),.slice b3 s.h.length d3,.pointer (some ⟨g,0,none⟩),.pointer (some ⟨g,0,none⟩),.pointer (some ⟨g,2,none⟩),.pointer (some ⟨g,0,none⟩),.pointer (some ⟨g,0,none⟩),.pointer (some ⟨g,4,none⟩),.slice a3 s.h.length c3,.int .i64 ((s.h.length:Nat):Int),.int .i64 (((s.h.length:Nat):Int)+1),.pointer (some ⟨g,0,none⟩),.pointer (some ⟨g,0,none⟩),.pointer (some ⟨g,0,none⟩),.int .i64 s.ph,.int .i64 (smL s.h),.agg #[.int .i64 x.e,.int .i64 x.p,.int .i64 x.o,.int .i64 x.n,.int .i64 x.v],.slice (some ⟨hh,0,none⟩) 1 1,.slice (some ⟨g7,0,none⟩) (s.h.length+1) c7,.pointer (some ⟨bx,4,none⟩),undef,undef,undef,undef,undef,undef,undef,undef,undef,undef,undef,undef],defers:=[]}/\Below W.heap.size W w'/\Bxd lo w' bx s.ph s.cu ⟨.slice b1 s.d.length d1,.slice b2 s.n.length d2,.slice (some ⟨g7,0,none⟩) (s.h.length+1) c7,.slice b4 s.p.length d4⟩ us ⟨s.ph,s.cu,s.d,s.n,s.h++[x],s.p⟩) ?tail5 ?aeM
 case aeM=>
  refine wp_region_held_drew (S:=fun w'=>∃n:After W,w'=n.w) (by kernel_rfl) (ay hcur.drew) (fun hHeld=> ?_)
  have hcur:=hcur.drew
  have HX0:=HX0.below (Below.refl _ _).drew
  have hbx:=Below.refl V0.drew.heap.size V0.drew
  generalize V0.drew=V1 at *
  refine aK (i:=0) (d:=(some 22)) (v:= ?ahH) (by rfl) (by kernel_rfl) (by kernel_rfl) (by kernel_rfl) (fun _ _ _ h=>(by cases h.1)) (by rfl) ?abZ hHeld ?ae4
  case abZ=>
   intro o ho
   simp only[aiF,aiG,aiI]at ho
   subst ho
   rintro _ ⟨nw,rfl⟩
   first |(go_simp;done) |(go_simp;with_reducible rfl)
  try simp only[Act.put,aiC,aiD,aiE]
  refine aK (i:=2) (d:=(some 24)) (v:= ?ahI) (by rfl) (by kernel_rfl) (by kernel_rfl) (by kernel_rfl) (fun _ _ _ h=>(by cases h.1)) (by rfl) ?ab1 hHeld ?ae5
  case ab1=>
   intro o ho
   simp only[aiF,aiH,aiG,aiI]at ho
   subst ho
   rintro _ ⟨nw,rfl⟩
   first |(go_simp;done) |(go_simp;with_reducible rfl)
  try simp only[Act.put,aiC,aiD,aiE]
  refine aK (i:=3) (d:=(some 25)) (v:= ?ahJ) (by rfl) (by kernel_rfl) (by kernel_rfl) (by kernel_rfl) (fun _ _ _ h=>(by cases h.1)) (by rfl) ?ab2 hHeld ?ae6
  case ab2=>
   intro o ho
   simp only[aiF,aiH,aiG,aiI]at ho
   subst ho
   rintro _ ⟨nw,rfl⟩
   first |(go_simp;done) |(go_simp;with_reducible rfl)
  try simp only[Act.put,aiC,aiD,aiE]
  refine aK (i:=4) (d:=(some 26)) (v:= ?ahK) (by rfl) (by kernel_rfl) (by kernel_rfl) (by kernel_rfl) (fun _ _ _ h=>(by cases h.1)) (by rfl) ?ab3 hHeld ?ae7
  case ab3=>
   intro o ho
   simp only[aiF,aiH,aiG,aiI]at ho
   subst ho
   rintro _ ⟨nw,rfl⟩
   first |(go_simp;done) |(go_simp;with_reducible rfl)
  try simp only[Act.put,aiC,aiD,aiE]
  refine aK (i:=5) (d:=(some 27)) (v:= ?ahL) (by rfl) (by kernel_rfl) (by kernel_rfl) (by kernel_rfl) (fun _ _ _ h=>(by cases h.1)) (by rfl) ?ab4 hHeld ?ae8
  case ab4=>
   intro o ho
   simp only[aiF,aiH,aiG,aiI]at ho
   subst ho
   rintro _ ⟨nw,rfl⟩
   first |(go_simp;done) |(go_simp;with_reducible rfl)
  try simp only[Act.put,aiC,aiD,aiE]
  refine aK (i:=6) (d:=(some 28)) (v:= ?ahM) (by rfl) (by kernel_rfl) (by kernel_rfl) (by kernel_rfl) (fun _ _ _ h=>(by cases h.1)) (by rfl) ?ab5 hHeld ?ae9
  case ab5=>
   intro o ho
   simp only[aiF,aiH,aiG,aiI]at ho
   subst ho
   rintro _ ⟨nw,rfl⟩
   first |(go_simp;done) |(go_simp;with_reducible rfl)
  try simp only[Act.put,aiC,aiD,aiE]
  refine aK (i:=7) (d:=(some 29)) (v:= ?ahN) (by rfl) (by kernel_rfl) (by kernel_rfl) (by kernel_rfl) (fun _ _ _ h=>(by cases h.1)) (by rfl) ?ab6 hHeld ?afa
  case ab6=>
   intro o ho
   simp only[aiF,aiH,aiG,aiI]at ho
   subst ho
   rintro _ ⟨nw,rfl⟩
   first |(go_simp;done) |(go_simp;with_reducible rfl)
  try simp only[Act.put,aiC,aiD,aiE]
  refine aK (i:=8) (d:=(some 30)) (v:= ?ahO) (by rfl) (by kernel_rfl) (by kernel_rfl) (by kernel_rfl) (fun _ _ _ h=>(by cases h.1)) (by rfl) ?ab7 hHeld ?afb
  case ab7=>
   intro o ho
   simp only[aiF,aiH,aiG,aiI]at ho
   subst ho
   rintro _ ⟨nw,rfl⟩
   first |(go_simp;done) |(go_simp;with_reducible rfl)
  try simp only[Act.put,aiC,aiD,aiE]
  refine aK (i:=9) (d:=(some 31)) (v:= ?ahP) (by rfl) (by kernel_rfl) (by kernel_rfl) (by kernel_rfl) (fun _ _ _ h=>(by cases h.1)) (by rfl) ?ab8 hHeld ?afc
  case ab8=>
   intro o ho
   simp only[aiF,aiH,aiG,aiI]at ho
   subst ho
   rintro _ ⟨nw,rfl⟩
   first |(go_simp;done) |(go_simp;with_reducible rfl)
  try simp only[Act.put,aiC,aiD,aiE]
  refine aK (i:=10) (d:=(some 32)) (v:= ?ag7) (by rfl) (by kernel_rfl) (by kernel_rfl) (by kernel_rfl) (fun _ _ _ h=>(by cases h.1)) (by rfl) ?aaC hHeld ?aeN
  case aaC=>
   intro o ho
   simp only[aiF,aiH,aiG,aiI]at ho
   subst ho
   rintro _ ⟨nw,rfl⟩
   first |(go_simp;done) |(go_simp;with_reducible rfl)
  try simp only[Act.put,aiC,aiD,aiE]
  refine aK (i:=11) (d:=(some 33)) (v:= ?ag8) (by rfl) (by kernel_rfl) (by kernel_rfl) (by kernel_rfl) (fun _ _ _ h=>(by cases h.1)) (by rfl) ?aaD hHeld ?aeO
  case aaD=>
   intro o ho
   simp only[aiF,aiH,aiG,aiI]at ho
   subst ho
   rintro _ ⟨nw,rfl⟩
   first |(go_simp;done) |(go_simp;with_reducible rfl)
  try simp only[Act.put,aiC,aiD,aiE]
  refine aK (i:=12) (d:=(some 34)) (v:= ?ag9) (by rfl) (by kernel_rfl) (by kernel_rfl) (by kernel_rfl) (fun _ _ _ h=>(by cases h.1)) (by rfl) ?aaE hHeld ?aeP
  case aaE=>
   intro o ho
   simp only[aiF,aiH,aiG,aiI]at ho
   subst ho
   rintro _ ⟨nw,rfl⟩
   first |(go_simp;done) |(go_simp;with_reducible rfl)
  try simp only[Act.put,aiC,aiD,aiE]
  refine aK (i:=13) (d:=(some 35)) (v:= ?aha) (by rfl) (by kernel_rfl) (by kernel_rfl) (by kernel_rfl) (fun _ _ _ h=>(by cases h.1)) (by rfl) ?aaF hHeld ?aeQ
  case aaF=>
   intro o ho
   simp only[aiF,aiH,aiG,aiI]at ho
   subst ho
   rintro _ ⟨nw,rfl⟩
   first |(go_simp;done) |(go_simp;with_reducible rfl)
  try simp only[Act.put,aiC,aiD,aiE]
  refine aK (i:=14) (d:=(some 36)) (v:= ?ahb) (by rfl) (by kernel_rfl) (by kernel_rfl) (by kernel_rfl) (fun _ _ _ h=>(by cases h.1)) (by rfl) ?aaG hHeld ?aeR
  case aaG=>
   intro o ho
   simp only[aiF,aiH,aiG,aiI]at ho
   subst ho
   rintro _ ⟨nw,rfl⟩
   first |(go_simp;done) |(go_simp;with_reducible rfl)
  try simp only[Act.put,aiC,aiD,aiE]
  refine aK (i:=15) (d:=(some 37)) (v:= ?ahc) (by rfl) (by kernel_rfl) (by kernel_rfl) (by kernel_rfl) (fun _ _ _ h=>(by cases h.1)) (by rfl) ?aaH hHeld ?aeS
  case aaH=>
   intro o ho
   simp only[aiF,aiH,aiG,aiI]at ho
   subst ho
   rintro _ ⟨nw,rfl⟩
   first |(go_simp;done) |(go_simp;with_reducible rfl)
  try simp only[Act.put,aiC,aiD,aiE]
  refine wpAnyH_ready (rs:=[1,16]) (by kernel_rfl) (by simp) ?_
  refine AllReadyH.cons rfl (fun K hK=> ?_) (AllReadyH.cons rfl (fun K hK=> ?_) AllReadyH.nil)
  ·have f1:=(HX0.below hbx).cells.1.2.2.2.2.1
   go_simp
   refine hK.out _ _ (ay hcur) (fun hHeld=> ?_)
   clear hK K
   try simp only[Act.put,aiC,aiD,aiE]
   clear f1
   refine wpAnyH_ready (rs:=[16]) (by kernel_rfl) (by simp) ?_
   refine AllReadyH.cons rfl (fun K hK=> ?_) AllReadyH.nil
   go_simp
   refine(uy.out _ (ah Bd.out hbx)).mono ?_
   rintro e w5 ⟨rfl,hb5⟩
   have hbx:Below V1.heap.size V1 w5:=ah hbx hb5
   have hcur:=ah hcur hb5
   clear hb5
   refine hK.out _ _ (ay hcur) (fun hHeld=> ?_)
   clear hK K
   try simp only[Act.put,aiC,aiD,aiE]
   refine wpAnyH_ready (rs:=[17]) (by kernel_rfl) (by simp) ?_
   refine AllReadyH.cons rfl (fun K hK=> ?_) AllReadyH.nil
   go_simp
   have hbx:=hbx.alloc hbx.size (.cells #[.int .i64 x.e,.int .i64 x.p,.int .i64 x.o,.int .i64 x.n,.int .i64 x.v] 114)
   have hcur:=hcur.alloc hcur.size (.cells #[.int .i64 x.e,.int .i64 x.p,.int .i64 x.o,.int .i64 x.n,.int .i64 x.v] 114)
   refine hK.out _ _ (ay hcur) (fun hHeld=> ?_)
   clear hK K
   try simp only[Act.put,aiC,aiD,aiE]
   refine wpAnyH_ready (rs:=[18]) (by kernel_rfl) (by simp) ?_
   refine AllReadyH.cons rfl (fun K hK=> ?_) AllReadyH.nil
   refine step_append_lies _ (by rfl) _ _ _ (by rfl) lo 114 iN _ 5 40 Tryz.underlying38 hiN qH qI qJ rfl (by omega) (.slice b3 s.h.length d3) s.h.length (flH s.h) (by rfl) (HS.out _ hbx) ⟨_,0,none⟩ 1 1 [.int .i64 x.e,.int .i64 x.p,.int .i64 x.o,.int .i64 x.n,.int .i64 x.v] (by rfl) (by rfl) (World.news_of_block (heap_alloc_new _ _)) (by intro u hu;simp only[List.mem_cons,List.not_mem_nil,or_false]at hu;rcases hu with rfl | rfl | rfl | rfl | rfl<;>rfl) (by omega) (by unfold maxLen;omega) (by omega) (Nat.le_trans kZ.out hbx.size) _ rfl ?_
   intro gN cN wN oN iY lH GV
   have hcur:=hcur.grown iY hcur.size (fun x hx=>kR.out x hx)
   refine hK.out _ _ (ay hcur) (fun hHeld=> ?_)
   clear hK K
   try simp only[Act.put,aiC]
   refine aK (i:=19) (d:=(some 41)) (v:= ?ahd) (by rfl) (by kernel_rfl) (by kernel_rfl) (by kernel_rfl) (fun _ _ _ h=>(by cases h.1)) (by rfl) ?aaI hHeld ?aeT
   case aaI=>
    intro o ho
    simp only[aiF,aiH,aiG,aiI]at ho
    subst ho
    rintro _ ⟨nw,rfl⟩
    first |(go_simp;done) |(go_simp;with_reducible rfl)
   try simp only[Act.put]
   obtain⟨⟨eN,fN⟩,iO⟩:=Bxd.heads (HX0.below hbx) x (Nat.le_trans kZ.out hbx.size) oN iY lH
   refine wpAnyH_ready (rs:=[20]) (by kernel_rfl) (by simp) ?_
   refine AllReadyH.cons rfl (fun K hK=> ?_) AllReadyH.nil
   have hcur:=hcur.setCell (p:=⟨bx,4,none⟩) xw.out (.slice (some ⟨gN,0,none⟩) (s.h.length+1) cN)
   go_simp
   refine hK.out _ _ (ay hcur) (fun hHeld=> ?_)
   clear hK K
   skip
   refine wpAnyH_done (by kernel_rfl) ?_ _
   exact⟨rfl,_,_,_,rfl,hcur,iO⟩
  ·go_simp
   refine(uy.out _ (ah Bd.out hbx)).mono ?_
   rintro e w5 ⟨rfl,hb5⟩
   have hbx:Below V1.heap.size V1 w5:=ah hbx hb5
   have hcur:=ah hcur hb5
   clear hb5
   refine hK.out _ _ (ay hcur) (fun hHeld=> ?_)
   clear hK K
   try simp only[Act.put,aiC,aiD,aiE]
   refine wpAnyH_ready (rs:=[1,17]) (by kernel_rfl) (by simp) ?_
   refine AllReadyH.cons rfl (fun K hK=> ?_) (AllReadyH.cons rfl (fun K hK=> ?_) AllReadyH.nil)
   ·have f1:=(HX0.below hbx).cells.1.2.2.2.2.1
    go_simp
    refine hK.out _ _ (ay hcur) (fun hHeld=> ?_)
    clear hK K
    try simp only[Act.put,aiC,aiD,aiE]
    clear f1
    refine wpAnyH_ready (rs:=[17]) (by kernel_rfl) (by simp) ?_
    refine AllReadyH.cons rfl (fun K hK=> ?_) AllReadyH.nil
    go_simp
    have hbx:=hbx.alloc hbx.size (.cells #[.int .i64 x.e,.int .i64 x.p,.int .i64 x.o,.int .i64 x.n,.int .i64 x.v] 114)
    have hcur:=hcur.alloc hcur.size (.cells #[.int .i64 x.e,.int .i64 x.p,.int .i64 x.o,.int .i64 x.n,.int .i64 x.v] 114)
    refine hK.out _ _ (ay hcur) (fun hHeld=> ?_)
    clear hK K
    try simp only[Act.put,aiC,aiD,aiE]
    refine wpAnyH_ready (rs:=[18]) (by kernel_rfl) (by simp) ?_
    refine AllReadyH.cons rfl (fun K hK=> ?_) AllReadyH.nil
    refine step_append_lies _ (by rfl) _ _ _ (by rfl) lo 114 iN _ 5 40 Tryz.underlying38 hiN qH qI qJ rfl (by omega) (.slice b3 s.h.length d3) s.h.length (flH s.h) (by rfl) (HS.out _ hbx) ⟨_,0,none⟩ 1 1 [.int .i64 x.e,.int .i64 x.p,.int .i64 x.o,.int .i64 x.n,.int .i64 x.v] (by rfl) (by rfl) (World.news_of_block (heap_alloc_new _ _)) (by intro u hu;simp only[List.mem_cons,List.not_mem_nil,or_false]at hu;rcases hu with rfl | rfl | rfl | rfl | rfl<;>rfl) (by omega) (by unfold maxLen;omega) (by omega) (Nat.le_trans kZ.out hbx.size) _ rfl ?_
    intro gN cN wN oN iY lH GV
    have hcur:=hcur.grown iY hcur.size (fun x hx=>kR.out x hx)
    refine hK.out _ _ (ay hcur) (fun hHeld=> ?_)
    clear hK K
    try simp only[Act.put,aiC]
    refine aK (i:=19) (d:=(some 41)) (v:= ?ahe) (by rfl) (by kernel_rfl) (by kernel_rfl) (by kernel_rfl) (fun _ _ _ h=>(by cases h.1)) (by rfl) ?aaJ hHeld ?aeU
    case aaJ=>
     intro o ho
     simp only[aiF,aiH,aiG,aiI]at ho
     subst ho
     rintro _ ⟨nw,rfl⟩
     first |(go_simp;done) |(go_simp;with_reducible rfl)
    try simp only[Act.put]
    obtain⟨⟨eN,fN⟩,iO⟩:=Bxd.heads (HX0.below hbx) x (Nat.le_trans kZ.out hbx.size) oN iY lH
    refine wpAnyH_ready (rs:=[20]) (by kernel_rfl) (by simp) ?_
    refine AllReadyH.cons rfl (fun K hK=> ?_) AllReadyH.nil
    have hcur:=hcur.setCell (p:=⟨bx,4,none⟩) xw.out (.slice (some ⟨gN,0,none⟩) (s.h.length+1) cN)
    go_simp
    refine hK.out _ _ (ay hcur) (fun hHeld=> ?_)
    clear hK K
    skip
    refine wpAnyH_done (by kernel_rfl) ?_ _
    exact⟨rfl,_,_,_,rfl,hcur,iO⟩
   ·go_simp
    have hbx:=hbx.alloc hbx.size (.cells #[.int .i64 x.e,.int .i64 x.p,.int .i64 x.o,.int .i64 x.n,.int .i64 x.v] 114)
    have hcur:=hcur.alloc hcur.size (.cells #[.int .i64 x.e,.int .i64 x.p,.int .i64 x.o,.int .i64 x.n,.int .i64 x.v] 114)
    refine hK.out _ _ (ay hcur) (fun hHeld=> ?_)
    clear hK K
    try simp only[Act.put,aiC,aiD,aiE]
    refine wpAnyH_ready (rs:=[1]) (by kernel_rfl) (by simp) ?_
    refine AllReadyH.cons rfl (fun K hK=> ?_) AllReadyH.nil
    have f1:=(HX0.below hbx).cells.1.2.2.2.2.1
    go_simp
    refine hK.out _ _ (ay hcur) (fun hHeld=> ?_)
    clear hK K
    try simp only[Act.put,aiC,aiD,aiE]
    clear f1
    refine wpAnyH_ready (rs:=[18]) (by kernel_rfl) (by simp) ?_
    refine AllReadyH.cons rfl (fun K hK=> ?_) AllReadyH.nil
    refine step_append_lies _ (by rfl) _ _ _ (by rfl) lo 114 iN _ 5 40 Tryz.underlying38 hiN qH qI qJ rfl (by omega) (.slice b3 s.h.length d3) s.h.length (flH s.h) (by rfl) (HS.out _ hbx) ⟨_,0,none⟩ 1 1 [.int .i64 x.e,.int .i64 x.p,.int .i64 x.o,.int .i64 x.n,.int .i64 x.v] (by rfl) (by rfl) (World.news_of_block (heap_alloc_new _ _)) (by intro u hu;simp only[List.mem_cons,List.not_mem_nil,or_false]at hu;rcases hu with rfl | rfl | rfl | rfl | rfl<;>rfl) (by omega) (by unfold maxLen;omega) (by omega) (Nat.le_trans kZ.out hbx.size) _ rfl ?_
    intro gN cN wN oN iY lH GV
    have hcur:=hcur.grown iY hcur.size (fun x hx=>kR.out x hx)
    refine hK.out _ _ (ay hcur) (fun hHeld=> ?_)
    clear hK K
    try simp only[Act.put,aiC]
    refine aK (i:=19) (d:=(some 41)) (v:= ?ahf) (by rfl) (by kernel_rfl) (by kernel_rfl) (by kernel_rfl) (fun _ _ _ h=>(by cases h.1)) (by rfl) ?aaK hHeld ?aeV
    case aaK=>
     intro o ho
     simp only[aiF,aiH,aiG,aiI]at ho
     subst ho
     rintro _ ⟨nw,rfl⟩
     first |(go_simp;done) |(go_simp;with_reducible rfl)
    try simp only[Act.put]
    obtain⟨⟨eN,fN⟩,iO⟩:=Bxd.heads (HX0.below hbx) x (Nat.le_trans kZ.out hbx.size) oN iY lH
    refine wpAnyH_ready (rs:=[20]) (by kernel_rfl) (by simp) ?_
    refine AllReadyH.cons rfl (fun K hK=> ?_) AllReadyH.nil
    have hcur:=hcur.setCell (p:=⟨bx,4,none⟩) xw.out (.slice (some ⟨gN,0,none⟩) (s.h.length+1) cN)
    go_simp
    refine hK.out _ _ (ay hcur) (fun hHeld=> ?_)
    clear hK K
    skip
    refine wpAnyH_done (by kernel_rfl) ?_ _
    exact⟨rfl,_,_,_,rfl,hcur,iO⟩
 clear HS kR kZ Bd uy hiN qH qI qJ iN HX0 hcur
 rintro _ _ V0 ⟨rfl,hh,g7,c7,rfl,hcur,HX0⟩
 dsimp only
 go_upto_region 6 with fail
 obtain⟨iN,hiN,qH,qI,qJ⟩:=info_parts Tryz.vM
 have kZ:Hid (lo<=V0.drew.heap.size):=Nat.le_trans HX0.lt.1 (Nat.le_of_lt HX0.lt.2)
 have Ci:Hid (lo<=V0.drew.heap.size):=kZ.out
 have Bd:Hid (Below w.heap.size w V0.drew):=ah aC.out hcur.drew
 have HS:Hid (∀w',Below V0.drew.heap.size V0.drew w'->w'.ownsRow lo 36 1 (.slice b4 s.p.length d4) s.p.length us):=fun w' hb=>by
  have h9:=(HX0.below (Below.refl _ _).drew).below hb
  have h8:=h9.own.own (aV (.slice b4 s.p.length d4) us) (by simp[eY])
  have h8:w'.ownsRow lo 36 1 (.slice b4 s.p.length d4) us.length us:=h8
  have e9:us.length=s.p.length:=HX0.len
  rw[e9]at h8
  exact h8
 have kR:Hid (∀y,(Value.slice b4 s.p.length d4).ownBlock=some y->W.heap.size<=y):=fun y hy=>Nat.le_trans ZW.out ((HS.out _ (Below.refl _ _)).lt y hy).1
 refine wp_region_held_drew (S:=fun w'=>∃n:After W,w'=n.w) (by kernel_rfl) (ay hcur.drew) (fun hHeld=> ?_)
 have hcur:=hcur.drew
 have HX0:=HX0.below (Below.refl _ _).drew
 have hbx:=Below.refl V0.drew.heap.size V0.drew
 generalize V0.drew=V1 at *
 refine aK (i:=0) (d:=(some 42)) (v:= ?agO) (by rfl) (by kernel_rfl) (by kernel_rfl) (by kernel_rfl) (fun _ _ _ h=>h) (by rfl) ?YA hHeld ?adr
 case YA=>
  intro o ho
  simp only[aiF,aiG,aiI]at ho
  subst ho
  rintro _ ⟨nw,rfl⟩
  first |(go_simp;done) |(go_simp;with_reducible rfl)
 try simp only[Act.put,aiC,aiD,aiE]
 refine aK (i:=2) (d:=(some 44)) (v:= ?agP) (by rfl) (by kernel_rfl) (by kernel_rfl) (by kernel_rfl) (fun _ _ _ h=>h) (by rfl) ?YB hHeld ?ads
 case YB=>
  intro o ho
  simp only[aiF,aiH,aiG,aiI]at ho
  subst ho
  rintro _ ⟨nw,rfl⟩
  first |(go_simp;done) |(go_simp;with_reducible rfl)
 try simp only[Act.put,aiC,aiD,aiE]
 refine aK (i:=3) (d:=(some 45)) (v:= ?agQ) (by rfl) (by kernel_rfl) (by kernel_rfl) (by kernel_rfl) (fun _ _ _ h=>h) (by rfl) ?YC hHeld ?adt
 case YC=>
  intro o ho
  simp only[aiF,aiH,aiG,aiI]at ho
  subst ho
  rintro _ ⟨nw,rfl⟩
  first |(go_simp;done) |(go_simp;with_reducible rfl)
 try simp only[Act.put,aiC,aiD,aiE]
 refine aK (i:=4) (d:=(some 46)) (v:= ?agR) (by rfl) (by kernel_rfl) (by kernel_rfl) (by kernel_rfl) (fun _ _ _ h=>h) (by rfl) ?YD hHeld ?adu
 case YD=>
  intro o ho
  simp only[aiF,aiH,aiG,aiI]at ho
  subst ho
  rintro _ ⟨nw,rfl⟩
  first |(go_simp;done) |(go_simp;with_reducible rfl)
 try simp only[Act.put,aiC,aiD,aiE]
 refine aK (i:=5) (d:=(some 47)) (v:= ?agS) (by rfl) (by kernel_rfl) (by kernel_rfl) (by kernel_rfl) (fun _ _ _ h=>h) (by rfl) ?YE hHeld ?adv
 case YE=>
  intro o ho
  simp only[aiF,aiH,aiG,aiI]at ho
  subst ho
  rintro _ ⟨nw,rfl⟩
  first |(go_simp;done) |(go_simp;with_reducible rfl)
 try simp only[Act.put,aiC,aiD,aiE]
 refine wpAnyH_ready (rs:=[1,6]) (by kernel_rfl) (by simp) ?_
 refine AllReadyH.cons rfl (fun K hK=> ?_) (AllReadyH.cons rfl (fun K hK=> ?_) AllReadyH.nil)
 ·have f1:=(HX0.below hbx).cells.1.2.2.2.2.2
  go_simp
  refine hK.out _ _ (ay hcur) (fun hHeld=> ?_)
  clear hK K
  try simp only[Act.put,aiC,aiD,aiE]
  clear f1
  refine wpAnyH_ready (rs:=[6]) (by kernel_rfl) (by simp) ?_
  refine AllReadyH.cons rfl (fun K hK=> ?_) AllReadyH.nil
  go_simp
  refine(mV.out _ (ah Bd.out hbx)).mono ?_
  rintro e w5 ⟨zz,kk,rfl,hb5,o5⟩
  have HV5:Hid (V1.heap.size<=w5.heap.size/\w5.ownsRow V1.heap.size 46 4 (.slice zz s.d.length kk) s.d.length (flR s.d)):=⟨hb5.size,o5⟩
  have oq:Below V1.heap.size V1 w5:=hb5
  have hbx:Below V1.heap.size V1 w5:=ah hbx hb5
  have hcur:=ah hcur hb5
  clear hb5 o5
  refine hK.out _ _ (ay hcur) (fun hHeld=> ?_)
  clear hK K
  try simp only[Act.put,aiC,aiD,aiE]
  refine wpAnyH_ready (rs:=[7]) (by kernel_rfl) (by simp) ?_
  refine AllReadyH.cons rfl (fun K hK=> ?_) AllReadyH.nil
  go_simp
  have hbx:=hbx.alloc hbx.size (.cells #[.slice zz s.d.length kk] 36)
  have hcur:=hcur.alloc hcur.size (.cells #[.slice zz s.d.length kk] 36)
  refine hK.out _ _ (ay hcur) (fun hHeld=> ?_)
  clear hK K
  try simp only[Act.put,aiC,aiD,aiE]
  refine wpAnyH_ready (rs:=[8]) (by kernel_rfl) (by simp) ?_
  refine AllReadyH.cons rfl (fun K hK=> ?_) AllReadyH.nil
  refine step_append_lies _ (by rfl) _ _ _ (by rfl) lo 36 iN _ 1 24 Tryz.underlying39 hiN qH qI qJ rfl (by omega) (.slice b4 s.p.length d4) s.p.length (us) (by rfl) (HS.out _ hbx) ⟨w5.heap.size,0,none⟩ 1 1 [.slice zz s.d.length kk] (by rfl) (by rfl) (World.news_of_block (heap_alloc_new _ _)) (by intro u hu;rw[List.mem_singleton]at hu;subst hu;rfl) (by omega) (by unfold maxLen;omega) (by omega) (Nat.le_trans kZ.out hbx.size) _ rfl ?_
  intro gN cN wN oN iY lH GV
  have hcur:=hcur.grown iY hcur.size (fun x hx=>kR.out x hx)
  refine hK.out _ _ (ay hcur) (fun hHeld=> ?_)
  clear hK K
  try simp only[Act.put,aiC]
  refine aK (i:=9) (d:=(some 51)) (v:= ?agT) (by rfl) (by kernel_rfl) (by kernel_rfl) (by kernel_rfl) (fun _ _ _ h=>h) (by rfl) ?YF hHeld ?adw
  case YF=>
   intro o ho
   simp only[aiF,aiH,aiG,aiI]at ho
   subst ho
   rintro _ ⟨nw,rfl⟩
   first |(go_simp;done) |(go_simp;with_reducible rfl)
  try simp only[Act.put]
  obtain⟨⟨eN,fN⟩,iO⟩:=Bxd.past HX0 oq (Nat.le_refl _) HV5.out.1 (.slice zz s.d.length kk) s.d HV5.out.2 (aj (.cells #[.slice zz s.d.length kk] 36)) Ci.out oN iY lH
  clear HV5
  refine wpAnyH_ready (rs:=[10]) (by kernel_rfl) (by simp) ?_
  refine AllReadyH.cons rfl (fun K hK=> ?_) AllReadyH.nil
  have hcur:=hcur.setCell (p:=⟨bx,5,none⟩) xw.out (.slice (some ⟨gN,0,none⟩) (s.p.length+1) cN)
  go_simp
  refine hK.out _ _ (ay hcur) (fun hHeld=> ?_)
  clear hK K
  skip
  refine wpAnyH_done (by kernel_rfl) ?_ _
  have hst:=iO.st
  have hcc:=iO.cells.1
  obtain⟨y0,y1,y2,y3,y4,y5⟩:=hcc
  dsimp only at y0 y1 y2 y3 y4 y5
  obtain⟨⟨q0,q1,q2,q3,q4,q5,q6⟩,g0,g1,g2,g3,g4,g5,g6⟩:=aA (HR.out _ hcur)
  have HP:Hid (∀x0 x1 x2 x3 x4 x5 x6:Value,_):=(rQ (w:=w) (b:=w.heap.size) hst (ah aC.out hcur) bJ.out bf.out)
  have hn1:¬w.heap.size=bx:=tV.out.1
  have hn2:¬bx=w.heap.size:=tV.out.2
  clear iO hst hcur hbx HX0 hHeld HR aC HS kR eN fN oN iY lH mV
  go_wp2
  refine bodyPost_ret (v:= .agg #[.int .i64 0,.int .i64 s.ph,.int .i64 s.cu,.slice b1 s.d.length d1,.slice b2 s.n.length d2,.slice (some ⟨g7,0,none⟩) (s.h.length+1) c7,.slice (some ⟨gN,0,none⟩) (s.p.length+1) cN]) (by simp[results,Tryz.results97,go_sem,q0,q1,q2,q3,q4,q5,q6]) rfl ?_
  refine HT.out _ _ _ (HP.out _ _ _ _ _ _ _).1 (HP.out _ _ _ _ _ _ _).2
 ·go_simp
  refine(mV.out _ (ah Bd.out hbx)).mono ?_
  rintro e w5 ⟨zz,kk,rfl,hb5,o5⟩
  have HV5:Hid (V1.heap.size<=w5.heap.size/\w5.ownsRow V1.heap.size 46 4 (.slice zz s.d.length kk) s.d.length (flR s.d)):=⟨hb5.size,o5⟩
  have oq:Below V1.heap.size V1 w5:=hb5
  have hbx:Below V1.heap.size V1 w5:=ah hbx hb5
  have hcur:=ah hcur hb5
  clear hb5 o5
  refine hK.out _ _ (ay hcur) (fun hHeld=> ?_)
  clear hK K
  try simp only[Act.put,aiC,aiD,aiE]
  refine wpAnyH_ready (rs:=[1,7]) (by kernel_rfl) (by simp) ?_
  refine AllReadyH.cons rfl (fun K hK=> ?_) (AllReadyH.cons rfl (fun K hK=> ?_) AllReadyH.nil)
  ·have f1:=(HX0.below hbx).cells.1.2.2.2.2.2
   go_simp
   refine hK.out _ _ (ay hcur) (fun hHeld=> ?_)
   clear hK K
   try simp only[Act.put,aiC,aiD,aiE]
   clear f1
   refine wpAnyH_ready (rs:=[7]) (by kernel_rfl) (by simp) ?_
   refine AllReadyH.cons rfl (fun K hK=> ?_) AllReadyH.nil
   go_simp
   have hbx:=hbx.alloc hbx.size (.cells #[.slice zz s.d.length kk] 36)
   have hcur:=hcur.alloc hcur.size (.cells #[.slice zz s.d.length kk] 36)
   refine hK.out _ _ (ay hcur) (fun hHeld=> ?_)
   clear hK K
   try simp only[Act.put,aiC,aiD,aiE]
   refine wpAnyH_ready (rs:=[8]) (by kernel_rfl) (by simp) ?_
   refine AllReadyH.cons rfl (fun K hK=> ?_) AllReadyH.nil
   refine step_append_lies _ (by rfl) _ _ _ (by rfl) lo 36 iN _ 1 24 Tryz.underlying39 hiN qH qI qJ rfl (by omega) (.slice b4 s.p.length d4) s.p.length (us) (by rfl) (HS.out _ hbx) ⟨w5.heap.size,0,none⟩ 1 1 [.slice zz s.d.length kk] (by rfl) (by rfl) (World.news_of_block (heap_alloc_new _ _)) (by intro u hu;rw[List.mem_singleton]at hu;subst hu;rfl) (by omega) (by unfold maxLen;omega) (by omega) (Nat.le_trans kZ.out hbx.size) _ rfl ?_
   intro gN cN wN oN iY lH GV
   have hcur:=hcur.grown iY hcur.size (fun x hx=>kR.out x hx)
   refine hK.out _ _ (ay hcur) (fun hHeld=> ?_)
   clear hK K
   try simp only[Act.put,aiC]
   refine aK (i:=9) (d:=(some 51)) (v:= ?agU) (by rfl) (by kernel_rfl) (by kernel_rfl) (by kernel_rfl) (fun _ _ _ h=>h) (by rfl) ?YG hHeld ?adx
   case YG=>
    intro o ho
    simp only[aiF,aiH,aiG,aiI]at ho
    subst ho
    rintro _ ⟨nw,rfl⟩
    first |(go_simp;done) |(go_simp;with_reducible rfl)
   try simp only[Act.put]
   obtain⟨⟨eN,fN⟩,iO⟩:=Bxd.past HX0 oq (Nat.le_refl _) HV5.out.1 (.slice zz s.d.length kk) s.d HV5.out.2 (aj (.cells #[.slice zz s.d.length kk] 36)) Ci.out oN iY lH
   clear HV5
   refine wpAnyH_ready (rs:=[10]) (by kernel_rfl) (by simp) ?_
   refine AllReadyH.cons rfl (fun K hK=> ?_) AllReadyH.nil
   have hcur:=hcur.setCell (p:=⟨bx,5,none⟩) xw.out (.slice (some ⟨gN,0,none⟩) (s.p.length+1) cN)
   go_simp
   refine hK.out _ _ (ay hcur) (fun hHeld=> ?_)
   clear hK K
   skip
   refine wpAnyH_done (by kernel_rfl) ?_ _
   have hst:=iO.st
   have hcc:=iO.cells.1
   obtain⟨y0,y1,y2,y3,y4,y5⟩:=hcc
   dsimp only at y0 y1 y2 y3 y4 y5
   obtain⟨⟨q0,q1,q2,q3,q4,q5,q6⟩,g0,g1,g2,g3,g4,g5,g6⟩:=aA (HR.out _ hcur)
   have HP:Hid (∀x0 x1 x2 x3 x4 x5 x6:Value,_):=(rQ (w:=w) (b:=w.heap.size) hst (ah aC.out hcur) bJ.out bf.out)
   have hn1:¬w.heap.size=bx:=tV.out.1
   have hn2:¬bx=w.heap.size:=tV.out.2
   clear iO hst hcur hbx HX0 hHeld HR aC HS kR eN fN oN iY lH mV
   go_wp2
   refine bodyPost_ret (v:= .agg #[.int .i64 0,.int .i64 s.ph,.int .i64 s.cu,.slice b1 s.d.length d1,.slice b2 s.n.length d2,.slice (some ⟨g7,0,none⟩) (s.h.length+1) c7,.slice (some ⟨gN,0,none⟩) (s.p.length+1) cN]) (by simp[results,Tryz.results97,go_sem,q0,q1,q2,q3,q4,q5,q6]) rfl ?_
   refine HT.out _ _ _ (HP.out _ _ _ _ _ _ _).1 (HP.out _ _ _ _ _ _ _).2
  ·go_simp
   have hbx:=hbx.alloc hbx.size (.cells #[.slice zz s.d.length kk] 36)
   have hcur:=hcur.alloc hcur.size (.cells #[.slice zz s.d.length kk] 36)
   refine hK.out _ _ (ay hcur) (fun hHeld=> ?_)
   clear hK K
   try simp only[Act.put,aiC,aiD,aiE]
   refine wpAnyH_ready (rs:=[1]) (by kernel_rfl) (by simp) ?_
   refine AllReadyH.cons rfl (fun K hK=> ?_) AllReadyH.nil
   have f1:=(HX0.below hbx).cells.1.2.2.2.2.2
   go_simp
   refine hK.out _ _ (ay hcur) (fun hHeld=> ?_)
   clear hK K
   try simp only[Act.put,aiC,aiD,aiE]
   clear f1
   refine wpAnyH_ready (rs:=[8]) (by kernel_rfl) (by simp) ?_
   refine AllReadyH.cons rfl (fun K hK=> ?_) AllReadyH.nil
   refine step_append_lies _ (by rfl) _ _ _ (by rfl) lo 36 iN _ 1 24 Tryz.underlying39 hiN qH qI qJ rfl (by omega) (.slice b4 s.p.length d4) s.p.length (us) (by rfl) (HS.out _ hbx) ⟨w5.heap.size,0,none⟩ 1 1 [.slice zz s.d.length kk] (by rfl) (by rfl) (World.news_of_block (heap_alloc_new _ _)) (by intro u hu;rw[List.mem_singleton]at hu;subst hu;rfl) (by omega) (by unfold maxLen;omega) (by omega) (Nat.le_trans kZ.out hbx.size) _ rfl ?_
   intro gN cN wN oN iY lH GV
   have hcur:=hcur.grown iY hcur.size (fun x hx=>kR.out x hx)
   refine hK.out _ _ (ay hcur) (fun hHeld=> ?_)
   clear hK K
   try simp only[Act.put,aiC]
   refine aK (i:=9) (d:=(some 51)) (v:= ?agV) (by rfl) (by kernel_rfl) (by kernel_rfl) (by kernel_rfl) (fun _ _ _ h=>h) (by rfl) ?YH hHeld ?ady
   case YH=>
    intro o ho
    simp only[aiF,aiH,aiG,aiI]at ho
    subst ho
    rintro _ ⟨nw,rfl⟩
    first |(go_simp;done) |(go_simp;with_reducible rfl)
   try simp only[Act.put]
   obtain⟨⟨eN,fN⟩,iO⟩:=Bxd.past HX0 oq (Nat.le_refl _) HV5.out.1 (.slice zz s.d.length kk) s.d HV5.out.2 (aj (.cells #[.slice zz s.d.length kk] 36)) Ci.out oN iY lH
   clear HV5
   refine wpAnyH_ready (rs:=[10]) (by kernel_rfl) (by simp) ?_
   refine AllReadyH.cons rfl (fun K hK=> ?_) AllReadyH.nil
   have hcur:=hcur.setCell (p:=⟨bx,5,none⟩) xw.out (.slice (some ⟨gN,0,none⟩) (s.p.length+1) cN)
   go_simp
   refine hK.out _ _ (ay hcur) (fun hHeld=> ?_)
   clear hK K
   skip
   refine wpAnyH_done (by kernel_rfl) ?_ _
   have hst:=iO.st
   have hcc:=iO.cells.1
   obtain⟨y0,y1,y2,y3,y4,y5⟩:=hcc
   dsimp only at y0 y1 y2 y3 y4 y5
   obtain⟨⟨q0,q1,q2,q3,q4,q5,q6⟩,g0,g1,g2,g3,g4,g5,g6⟩:=aA (HR.out _ hcur)
   have HP:Hid (∀x0 x1 x2 x3 x4 x5 x6:Value,_):=(rQ (w:=w) (b:=w.heap.size) hst (ah aC.out hcur) bJ.out bf.out)
   have hn1:¬w.heap.size=bx:=tV.out.1
   have hn2:¬bx=w.heap.size:=tV.out.2
   clear iO hst hcur hbx HX0 hHeld HR aC HS kR eN fN oN iY lH mV
   go_wp2
   refine bodyPost_ret (v:= .agg #[.int .i64 0,.int .i64 s.ph,.int .i64 s.cu,.slice b1 s.d.length d1,.slice b2 s.n.length d2,.slice (some ⟨g7,0,none⟩) (s.h.length+1) c7,.slice (some ⟨gN,0,none⟩) (s.p.length+1) cN]) (by simp[results,Tryz.results97,go_sem,q0,q1,q2,q3,q4,q5,q6]) rfl ?_
   refine HT.out _ _ _ (HP.out _ _ _ _ _ _ _).1 (HP.out _ _ _ _ _ _ _).2
end U
end Go.Proofs.YtmmcgjacojgeaaaGreat
