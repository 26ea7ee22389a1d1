/- An operation done with a state, by the program. -/
import Derived.Test.YtmmcgjacojgeaaaGreatGZz
import Derived.Deep.Cut
import Derived.Test.YtmmcgjacojgeaaaGreatGDnM
import Derived.Test.YtmmcgjacojgeaaaGreatGUs1
import Derived.Test.YtmmcgjacojgeaaaGreatGIm1
import Derived.Test.YtmmcgjacojgeaaaGreatGIm5
import Derived.Test.YtmmcgjacojgeaaaGreatGIm7
import Derived.Test.YtmmcgjacojgeaaaGreatGCl1
import Derived.Test.YtmmcgjacojgeaaaGreatGBK
set_option maxRecDepth 100000
set_option maxHeartbeats 8000000
namespace Go.Proofs.YtmmcgjacojgeaaaGreat
open Go.RowKit
namespace U
theorem abr(x:Value)(w:World):(Instr.typeAssert (.iface 153 x) 95 155 true).run Tryz.prog w = .ok (.tuple #[.agg #[],.bool false]) w:=by kernel_rfl
theorem abt(x:Value)(w:World):(Instr.typeAssert (.iface 153 x) 95 160 true).run Tryz.prog w = .ok (.tuple #[.agg #[],.bool false]) w:=by kernel_rfl
theorem abu(x:Value)(w:World):(Instr.typeAssert (.iface 153 x) 95 161 true).run Tryz.prog w = .ok (.tuple #[.agg #[],.bool false]) w:=by kernel_rfl
theorem abw(x:Value)(w:World):(Instr.typeAssert (.iface 155 x) 95 155 true).run Tryz.prog w = .ok (.tuple #[x,.bool true]) w:=by kernel_rfl
theorem abx(x:Value)(w:World):(Instr.typeAssert (.iface 155 x) 95 160 true).run Tryz.prog w = .ok (.tuple #[.agg #[],.bool false]) w:=by kernel_rfl
theorem aby(x:Value)(w:World):(Instr.typeAssert (.iface 155 x) 95 161 true).run Tryz.prog w = .ok (.tuple #[.agg #[],.bool false]) w:=by kernel_rfl
theorem abz(x:Value)(w:World):(Instr.typeAssert (.iface 158 x) 95 155 true).run Tryz.prog w = .ok (.tuple #[.agg #[],.bool false]) w:=by kernel_rfl
theorem abA(x:Value)(w:World):(Instr.typeAssert (.iface 158 x) 95 160 true).run Tryz.prog w = .ok (.tuple #[.agg #[],.bool false]) w:=by kernel_rfl
theorem abB(x:Value)(w:World):(Instr.typeAssert (.iface 158 x) 95 161 true).run Tryz.prog w = .ok (.tuple #[.agg #[],.bool false]) w:=by kernel_rfl
theorem abC(x:Value)(w:World):(Instr.typeAssert (.iface 160 x) 95 155 true).run Tryz.prog w = .ok (.tuple #[.agg #[],.bool false]) w:=by kernel_rfl
theorem abD(x:Value)(w:World):(Instr.typeAssert (.iface 160 x) 95 160 true).run Tryz.prog w = .ok (.tuple #[x,.bool true]) w:=by kernel_rfl
theorem abE(x:Value)(w:World):(Instr.typeAssert (.iface 160 x) 95 161 true).run Tryz.prog w = .ok (.tuple #[.agg #[],.bool false]) w:=by kernel_rfl
theorem abG(x:Value)(w:World):(Instr.typeAssert (.iface 161 x) 95 155 true).run Tryz.prog w = .ok (.tuple #[.agg #[],.bool false]) w:=by kernel_rfl
theorem abH(x:Value)(w:World):(Instr.typeAssert (.iface 161 x) 95 160 true).run Tryz.prog w = .ok (.tuple #[.agg #[],.bool false]) w:=by kernel_rfl
theorem abI(x:Value)(w:World):(Instr.typeAssert (.iface 161 x) 95 161 true).run Tryz.prog w = .ok (.tuple #[x,.bool true]) w:=by kernel_rfl
theorem abJ(x:Value)(w:World):(Instr.typeAssert (.iface 162 x) 95 155 true).run Tryz.prog w = .ok (.tuple #[.agg #[],.bool false]) w:=by kernel_rfl
theorem abK(x:Value)(w:World):(Instr.typeAssert (.iface 162 x) 95 160 true).run Tryz.prog w = .ok (.tuple #[.agg #[],.bool false]) w:=by kernel_rfl
theorem abL(x:Value)(w:World):(Instr.typeAssert (.iface 162 x) 95 161 true).run Tryz.prog w = .ok (.tuple #[.agg #[],.bool false]) w:=by kernel_rfl
theorem adF(R:Rt)(hR:bK R)(s:St)(v:Sv)(l:ByteArray)(a o p x:Int)(hl:l.size<=1048576)(w:World)(hv:Sts w v s)(hB:StB s):
  Calls Tryz.prog 48 #[stV s v,on1 l a o p x] w fun e w'=>aQ w (usF R s ⟨l,a,o,p⟩ x) (if usF R s ⟨l,a,o,p⟩ x=0 then usT s ⟨l,a,o,p⟩ x else stZ) e w':=by
 obtain⟨W,hW⟩:∃W,W=(w.alloc (stC s v 41)).alloc aiJ:=⟨_,rfl⟩
 have hBW:Below w.heap.size w W:=by rw[hW];exact aH _ _
 have hH:W.heap[w.heap.size+1]? = some aiJ:=by
  have:=heap_alloc_new (w.alloc (stC s v 41)) aiJ
  rw[World.size_alloc]at this
  rw[hW]
  exact this
 have hC0:StC W w.heap.size s v:=by rw[hW];exact(StC.new w s v _).below (aj _) (by simp)
 have bU:=(Array.getElem?_eq_some_iff.1 hH).1
 have HU:Hid (∀w',Below w.heap.size w w'->Calls Tryz.prog 10 #[stV s v,.agg #[.string l,.int .i64 a,.int .i64 o,.int .i64 p],.int .i64 x] w' fun e w''=>aQ w' (usF R s ⟨l,a,o,p⟩ x) (if usF R s ⟨l,a,o,p⟩ x=0 then usT s ⟨l,a,o,p⟩ x else stZ) e w''):=fun w' hb=>xO R hR s v l a o p x w' (hv.below hb) hB hl
 have HC:Hid (∀w',Below W.heap.size W w'->StC w' w.heap.size s v):=fun w' hb=>hC0.below hb hC0.lt
 generalize hT:(if usF R s ⟨l,a,o,p⟩ x=0 then(usT s ⟨l,a,o,p⟩ x:St)else stZ)=t at HU ⊢
 generalize usF R s ⟨l,a,o,p⟩ x=c at HU ⊢
 clear hT
 obtain⟨a1,c1,e1⟩:=hv.d.shape
 obtain⟨a2,c2,e2⟩:=hv.n.shape
 obtain⟨a3,c3,e3⟩:=hv.h.shape
 obtain⟨a4,c4,e4⟩:=hv.p.shape
 unfold stC at hW
 unfold stV at HU ⊢
 rw[e1,e2,e3,e4]at hW HU ⊢
 have HW:Hid _:=hW.symm
 have aC:Hid (Below w.heap.size w W):=hBW
 have dM:Hid (w.heap.size+1<W.heap.size):=bU
 have HRW:Hid (W.heap[w.heap.size+1]? = some aiJ):=hH
 have bJ:Hid (w.heap.size<=w.heap.size+1):=Nat.le_succ _
 obtain⟨-,k0,k1,k2,k3,k4,k5⟩:=HC.out W (Below.refl _ _)
 rw[e1]at k2
 rw[e2]at k3
 rw[e3]at k4
 rw[e4]at k5
 have A1:=fun w=>yh (.agg #[.string l,.int .i64 a,.int .i64 o,.int .i64 p,.int .i64 x]) w
 have A3:=fun w=>MX (.agg #[.string l,.int .i64 a,.int .i64 o,.int .i64 p,.int .i64 x]) w
 have A2:=fun w=>abr (.agg #[.string l,.int .i64 a,.int .i64 o,.int .i64 p,.int .i64 x]) w
 have A4:=fun w=>abt (.agg #[.string l,.int .i64 a,.int .i64 o,.int .i64 p,.int .i64 x]) w
 have A5:=fun w=>abu (.agg #[.string l,.int .i64 a,.int .i64 o,.int .i64 p,.int .i64 x]) w
 clear hv hB hR hC0 hBW hH bU hW e1 e2 e3 e4
 unfold on1
 go_enter Tryz.func48,Tryz.ntmps48
 go_wp2_with fail
 rw[HW.out]
 obtain⟨V,hV⟩:∃V,V=W.alloc (.cells #[.string l,.int .i64 a,.int .i64 o,.int .i64 p,.int .i64 x] 153):=⟨_,rfl⟩
 have HV:Hid _:=hV.symm
 have hbv:Below W.heap.size W V:=by rw[hV];exact aj _
 have HB0:Hid (Below w.heap.size w V):=ah aC.out hbv
 have bf:Hid (w.heap.size+1<V.heap.size):=Nat.lt_of_lt_of_le dM.out hbv.size
 have HR0:Hid (V.heap[w.heap.size+1]? = some aiJ):=(hbv.block _ dM.out).trans HRW.out
 clear hbv hV
 go_wp2_with fail
 rw[HV.out]
 refine(HU.out _ HB0.out).mono ?_
 clear HU HC aC dM HRW HW k0 k1 k2 k3 k4 k5 A1 A2 A3 A4 A5 HV
 rintro e w1 ⟨u,us,rfl,hb1,h1⟩
 have HB1:Hid (Below w.heap.size w w1):=ah HB0.out hb1
 obtain⟨⟨q0,q1,q2,q3,q4,q5,q6⟩,g0,g1,g2,g3,g4,g5,g6⟩:=aA ((hb1.block _ bf.out).trans HR0.out)
 clear hb1 HR0 HB0
 obtain⟨b1,d1,f1⟩:=h1.sts.d.shape
 obtain⟨b2,d2,f2⟩:=h1.sts.n.shape
 obtain⟨b3,d3,f3⟩:=h1.sts.h.shape
 obtain⟨b4,d4,f4⟩:=h1.sts.p.shape
 obtain⟨td,tn,th,tp⟩:=u
 dsimp only at f1 f2 f3 f4
 subst f1 f2 f3 f4
 unfold srV
 dsimp only
 have HP:Hid (∀x0 x1 x2 x3 x4 x5 x6:Value,_):=(bZ (w:=w) (b:=w.heap.size+1) h1 HB1.out bJ.out bf.out)
 clear h1
 go_wp2
 refine bodyPost_ret (v:= .agg #[.int .i64 c,.int .i64 t.ph,.int .i64 t.cu,.slice b1 t.d.length d1,.slice b2 t.n.length d2,.slice b3 t.h.length d3,.slice b4 t.p.length d4]) (by simp[results,Tryz.results48,go_sem,q0,q1,q2,q3,q4,q5,q6]) rfl ⟨⟨.slice b1 t.d.length d1,.slice b2 t.n.length d2,.slice b3 t.h.length d3,.slice b4 t.p.length d4⟩,us,rfl, ?_, ?_⟩
 ·exact(HP.out _ _ _ _ _ _ _).1
 ·exact(HP.out _ _ _ _ _ _ _).2
theorem adG(R:Rt)(hR:bK R)(s:St)(v:Sv)(w:World)(hv:Sts w v s)(hB:StB s):
  Calls Tryz.prog 48 #[stV s v,on2] w fun e w'=>aQ w (phF R s (s.ph==1||s.ph==5)) (if phF R s (s.ph==1||s.ph==5)=0 then⟨2,s.cu,s.d,s.n,s.h,s.p⟩else stZ) e w':=by
 obtain⟨W,hW⟩:∃W,W=(w.alloc (stC s v 41)).alloc aiJ:=⟨_,rfl⟩
 have hBW:Below w.heap.size w W:=by rw[hW];exact aH _ _
 have hH:W.heap[w.heap.size+1]? = some aiJ:=by
  have:=heap_alloc_new (w.alloc (stC s v 41)) aiJ
  rw[World.size_alloc]at this
  rw[hW]
  exact this
 have hC0:StC W w.heap.size s v:=by rw[hW];exact(StC.new w s v _).below (aj _) (by simp)
 have bU:=(Array.getElem?_eq_some_iff.1 hH).1
 have HU:Hid (∀w',Below w.heap.size w w'->Calls Tryz.prog 99 #[stV s v] w' fun e w''=>aQ w' (phF R s (s.ph==1||s.ph==5)) (if phF R s (s.ph==1||s.ph==5)=0 then⟨2,s.cu,s.d,s.n,s.h,s.p⟩else stZ) e w''):=fun w' hb=>AO R hR s v w' (hv.below hb) hB
 have HC:Hid (∀w',Below W.heap.size W w'->StC w' w.heap.size s v):=fun w' hb=>hC0.below hb hC0.lt
 generalize hT:(if phF R s (s.ph==1||s.ph==5)=0 then(⟨2,s.cu,s.d,s.n,s.h,s.p⟩:St)else stZ)=t at HU ⊢
 generalize phF R s (s.ph==1||s.ph==5)=c at HU ⊢
 clear hT
 obtain⟨a1,c1,e1⟩:=hv.d.shape
 obtain⟨a2,c2,e2⟩:=hv.n.shape
 obtain⟨a3,c3,e3⟩:=hv.h.shape
 obtain⟨a4,c4,e4⟩:=hv.p.shape
 unfold stC at hW
 unfold stV at HU ⊢
 rw[e1,e2,e3,e4]at hW HU ⊢
 have HW:Hid _:=hW.symm
 have aC:Hid (Below w.heap.size w W):=hBW
 have dM:Hid (w.heap.size+1<W.heap.size):=bU
 have HRW:Hid (W.heap[w.heap.size+1]? = some aiJ):=hH
 have bJ:Hid (w.heap.size<=w.heap.size+1):=Nat.le_succ _
 obtain⟨-,k0,k1,k2,k3,k4,k5⟩:=HC.out W (Below.refl _ _)
 rw[e1]at k2
 rw[e2]at k3
 rw[e3]at k4
 rw[e4]at k5
 have A1:=fun w=>yj (.agg #[]) w
 have A3:=fun w=>Bv (.agg #[]) w
 have A2:=fun w=>abw (.agg #[]) w
 have A4:=fun w=>abx (.agg #[]) w
 have A5:=fun w=>aby (.agg #[]) w
 clear hv hB hR hC0 hBW hH bU hW e1 e2 e3 e4
 unfold on2
 go_enter Tryz.func48,Tryz.ntmps48
 go_wp2_with fail
 rw[HW.out]
 obtain⟨V,hV⟩:∃V,V=W.alloc (.cells #[] 155):=⟨_,rfl⟩
 have HV:Hid (W.alloc (.cells #[] 155)=V):=hV.symm
 have hbv:Below W.heap.size W V:=by rw[hV];exact aj _
 have HB0:Hid (Below w.heap.size w V):=ah aC.out hbv
 have bf:Hid (w.heap.size+1<V.heap.size):=Nat.lt_of_lt_of_le dM.out hbv.size
 have HR0:Hid (V.heap[w.heap.size+1]? = some aiJ):=(hbv.block _ dM.out).trans HRW.out
 clear hbv hV
 go_wp2_with fail
 rw[HV.out]
 refine(HU.out _ HB0.out).mono ?_
 clear HU HC aC dM HRW HW k0 k1 k2 k3 k4 k5 A1 A2 A3 A4 A5 HV
 rintro e w1 ⟨u,us,rfl,hb1,h1⟩
 have HB1:Hid (Below w.heap.size w w1):=ah HB0.out hb1
 obtain⟨⟨q0,q1,q2,q3,q4,q5,q6⟩,g0,g1,g2,g3,g4,g5,g6⟩:=aA ((hb1.block _ bf.out).trans HR0.out)
 clear hb1 HR0 HB0
 obtain⟨b1,d1,f1⟩:=h1.sts.d.shape
 obtain⟨b2,d2,f2⟩:=h1.sts.n.shape
 obtain⟨b3,d3,f3⟩:=h1.sts.h.shape
 obtain⟨b4,d4,f4⟩:=h1.sts.p.shape
 obtain⟨td,tn,th,tp⟩:=u
 dsimp only at f1 f2 f3 f4
 subst f1 f2 f3 f4
 unfold srV
 dsimp only
 have HP:Hid (∀x0 x1 x2 x3 x4 x5 x6:Value,_):=(bZ (w:=w) (b:=w.heap.size+1) h1 HB1.out bJ.out bf.out)
 clear h1
 go_wp2
 refine bodyPost_ret (v:= .agg #[.int .i64 c,.int .i64 t.ph,.int .i64 t.cu,.slice b1 t.d.length d1,.slice b2 t.n.length d2,.slice b3 t.h.length d3,.slice b4 t.p.length d4]) (by simp[results,Tryz.results48,go_sem,q0,q1,q2,q3,q4,q5,q6]) rfl ⟨⟨.slice b1 t.d.length d1,.slice b2 t.n.length d2,.slice b3 t.h.length d3,.slice b4 t.p.length d4⟩,us,rfl, ?_, ?_⟩
 ·exact(HP.out _ _ _ _ _ _ _).1
 ·exact(HP.out _ _ _ _ _ _ _).2
theorem adH(R:Rt)(hR:bK R)(s:St)(v:Sv)(n:Int)(w:World)(hv:Sts w v s)(hB:StB s):
  Calls Tryz.prog 48 #[stV s v,on3 n] w fun e w'=>aQ w (cpF R s n) (if cpF R s n=0 then csT s n else stZ) e w':=by
 obtain⟨W,hW⟩:∃W,W=(w.alloc (stC s v 41)).alloc aiJ:=⟨_,rfl⟩
 have hBW:Below w.heap.size w W:=by rw[hW];exact aH _ _
 have hH:W.heap[w.heap.size+1]? = some aiJ:=by
  have:=heap_alloc_new (w.alloc (stC s v 41)) aiJ
  rw[World.size_alloc]at this
  rw[hW]
  exact this
 have hC0:StC W w.heap.size s v:=by rw[hW];exact(StC.new w s v _).below (aj _) (by simp)
 have bU:=(Array.getElem?_eq_some_iff.1 hH).1
 have HU:Hid (∀w',Below w.heap.size w w'->Calls Tryz.prog 100 #[stV s v,.int .i64 n] w' fun e w''=>aQ w' (cpF R s n) (if cpF R s n=0 then csT s n else stZ) e w''):=fun w' hb=>CX R hR s v n w' (hv.below hb) hB
 have HC:Hid (∀w',Below W.heap.size W w'->StC w' w.heap.size s v):=fun w' hb=>hC0.below hb hC0.lt
 generalize hT:(if cpF R s n=0 then(csT s n:St)else stZ)=t at HU ⊢
 generalize cpF R s n=c at HU ⊢
 clear hT
 obtain⟨a1,c1,e1⟩:=hv.d.shape
 obtain⟨a2,c2,e2⟩:=hv.n.shape
 obtain⟨a3,c3,e3⟩:=hv.h.shape
 obtain⟨a4,c4,e4⟩:=hv.p.shape
 unfold stC at hW
 unfold stV at HU ⊢
 rw[e1,e2,e3,e4]at hW HU ⊢
 have HW:Hid _:=hW.symm
 have aC:Hid (Below w.heap.size w W):=hBW
 have dM:Hid (w.heap.size+1<W.heap.size):=bU
 have HRW:Hid (W.heap[w.heap.size+1]? = some aiJ):=hH
 have bJ:Hid (w.heap.size<=w.heap.size+1):=Nat.le_succ _
 obtain⟨-,k0,k1,k2,k3,k4,k5⟩:=HC.out W (Below.refl _ _)
 rw[e1]at k2
 rw[e2]at k3
 rw[e3]at k4
 rw[e4]at k5
 have A1:=fun w=>yt (.agg #[.int .i64 n]) w
 have A3:=fun w=>Bz (.agg #[.int .i64 n]) w
 have A2:=fun w=>abz (.agg #[.int .i64 n]) w
 have A4:=fun w=>abA (.agg #[.int .i64 n]) w
 have A5:=fun w=>abB (.agg #[.int .i64 n]) w
 clear hv hB hR hC0 hBW hH bU hW e1 e2 e3 e4
 unfold on3
 go_enter Tryz.func48,Tryz.ntmps48
 go_wp2_with fail
 rw[HW.out]
 obtain⟨V,hV⟩:∃V,V=W.alloc (.cells #[.int .i64 n] 158):=⟨_,rfl⟩
 have HV:Hid (W.alloc (.cells #[.int .i64 n] 158)=V):=hV.symm
 have hbv:Below W.heap.size W V:=by rw[hV];exact aj _
 have HB0:Hid (Below w.heap.size w V):=ah aC.out hbv
 have bf:Hid (w.heap.size+1<V.heap.size):=Nat.lt_of_lt_of_le dM.out hbv.size
 have HR0:Hid (V.heap[w.heap.size+1]? = some aiJ):=(hbv.block _ dM.out).trans HRW.out
 clear hbv hV
 go_wp2_with fail
 rw[HV.out]
 refine(HU.out _ HB0.out).mono ?_
 clear HU HC aC dM HRW HW k0 k1 k2 k3 k4 k5 A1 A2 A3 A4 A5 HV
 rintro e w1 ⟨u,us,rfl,hb1,h1⟩
 have HB1:Hid (Below w.heap.size w w1):=ah HB0.out hb1
 obtain⟨⟨q0,q1,q2,q3,q4,q5,q6⟩,g0,g1,g2,g3,g4,g5,g6⟩:=aA ((hb1.block _ bf.out).trans HR0.out)
 clear hb1 HR0 HB0
 obtain⟨b1,d1,f1⟩:=h1.sts.d.shape
 obtain⟨b2,d2,f2⟩:=h1.sts.n.shape
 obtain⟨b3,d3,f3⟩:=h1.sts.h.shape
 obtain⟨b4,d4,f4⟩:=h1.sts.p.shape
 obtain⟨td,tn,th,tp⟩:=u
 dsimp only at f1 f2 f3 f4
 subst f1 f2 f3 f4
 unfold srV
 dsimp only
 have HP:Hid (∀x0 x1 x2 x3 x4 x5 x6:Value,_):=(bZ (w:=w) (b:=w.heap.size+1) h1 HB1.out bJ.out bf.out)
 clear h1
 go_wp2
 refine bodyPost_ret (v:= .agg #[.int .i64 c,.int .i64 t.ph,.int .i64 t.cu,.slice b1 t.d.length d1,.slice b2 t.n.length d2,.slice b3 t.h.length d3,.slice b4 t.p.length d4]) (by simp[results,Tryz.results48,go_sem,q0,q1,q2,q3,q4,q5,q6]) rfl ⟨⟨.slice b1 t.d.length d1,.slice b2 t.n.length d2,.slice b3 t.h.length d3,.slice b4 t.p.length d4⟩,us,rfl, ?_, ?_⟩
 ·exact(HP.out _ _ _ _ _ _ _).1
 ·exact(HP.out _ _ _ _ _ _ _).2
theorem adI(R:Rt)(hR:bK R)(s:St)(v:Sv)(w:World)(hv:Sts w v s)(hB:StB s):
  Calls Tryz.prog 48 #[stV s v,on4] w fun e w'=>aQ w (phF R s (s.ph==2||s.ph==3)) (if phF R s (s.ph==2||s.ph==3)=0 then⟨5,0,s.d,[],s.h,s.p⟩else stZ) e w':=by
 obtain⟨W,hW⟩:∃W,W=(w.alloc (stC s v 41)).alloc aiJ:=⟨_,rfl⟩
 have hBW:Below w.heap.size w W:=by rw[hW];exact aH _ _
 have hH:W.heap[w.heap.size+1]? = some aiJ:=by
  have:=heap_alloc_new (w.alloc (stC s v 41)) aiJ
  rw[World.size_alloc]at this
  rw[hW]
  exact this
 have hC0:StC W w.heap.size s v:=by rw[hW];exact(StC.new w s v _).below (aj _) (by simp)
 have bU:=(Array.getElem?_eq_some_iff.1 hH).1
 have HU:Hid (∀w',Below w.heap.size w w'->Calls Tryz.prog 101 #[stV s v] w' fun e w''=>aQ w' (phF R s (s.ph==2||s.ph==3)) (if phF R s (s.ph==2||s.ph==3)=0 then⟨5,0,s.d,[],s.h,s.p⟩else stZ) e w''):=fun w' hb=>Df R hR s v w' (hv.below hb) hB
 have HC:Hid (∀w',Below W.heap.size W w'->StC w' w.heap.size s v):=fun w' hb=>hC0.below hb hC0.lt
 generalize hT:(if phF R s (s.ph==2||s.ph==3)=0 then(⟨5,0,s.d,[],s.h,s.p⟩:St)else stZ)=t at HU ⊢
 generalize phF R s (s.ph==2||s.ph==3)=c at HU ⊢
 clear hT
 obtain⟨a1,c1,e1⟩:=hv.d.shape
 obtain⟨a2,c2,e2⟩:=hv.n.shape
 obtain⟨a3,c3,e3⟩:=hv.h.shape
 obtain⟨a4,c4,e4⟩:=hv.p.shape
 unfold stC at hW
 unfold stV at HU ⊢
 rw[e1,e2,e3,e4]at hW HU ⊢
 have HW:Hid _:=hW.symm
 have aC:Hid (Below w.heap.size w W):=hBW
 have dM:Hid (w.heap.size+1<W.heap.size):=bU
 have HRW:Hid (W.heap[w.heap.size+1]? = some aiJ):=hH
 have bJ:Hid (w.heap.size<=w.heap.size+1):=Nat.le_succ _
 obtain⟨-,k0,k1,k2,k3,k4,k5⟩:=HC.out W (Below.refl _ _)
 rw[e1]at k2
 rw[e2]at k3
 rw[e3]at k4
 rw[e4]at k5
 have A1:=fun w=>yu (.agg #[]) w
 have A3:=fun w=>BA (.agg #[]) w
 have A2:=fun w=>abC (.agg #[]) w
 have A4:=fun w=>abD (.agg #[]) w
 have A5:=fun w=>abE (.agg #[]) w
 clear hv hB hR hC0 hBW hH bU hW e1 e2 e3 e4
 unfold on4
 go_enter Tryz.func48,Tryz.ntmps48
 go_wp2_with fail
 rw[HW.out]
 obtain⟨V,hV⟩:∃V,V=W.alloc (.cells #[] 160):=⟨_,rfl⟩
 have HV:Hid (W.alloc (.cells #[] 160)=V):=hV.symm
 have hbv:Below W.heap.size W V:=by rw[hV];exact aj _
 have HB0:Hid (Below w.heap.size w V):=ah aC.out hbv
 have bf:Hid (w.heap.size+1<V.heap.size):=Nat.lt_of_lt_of_le dM.out hbv.size
 have HR0:Hid (V.heap[w.heap.size+1]? = some aiJ):=(hbv.block _ dM.out).trans HRW.out
 clear hbv hV
 go_wp2_with fail
 rw[HV.out]
 refine(HU.out _ HB0.out).mono ?_
 clear HU HC aC dM HRW HW k0 k1 k2 k3 k4 k5 A1 A2 A3 A4 A5 HV
 rintro e w1 ⟨u,us,rfl,hb1,h1⟩
 have HB1:Hid (Below w.heap.size w w1):=ah HB0.out hb1
 obtain⟨⟨q0,q1,q2,q3,q4,q5,q6⟩,g0,g1,g2,g3,g4,g5,g6⟩:=aA ((hb1.block _ bf.out).trans HR0.out)
 clear hb1 HR0 HB0
 obtain⟨b1,d1,f1⟩:=h1.sts.d.shape
 obtain⟨b2,d2,f2⟩:=h1.sts.n.shape
 obtain⟨b3,d3,f3⟩:=h1.sts.h.shape
 obtain⟨b4,d4,f4⟩:=h1.sts.p.shape
 obtain⟨td,tn,th,tp⟩:=u
 dsimp only at f1 f2 f3 f4
 subst f1 f2 f3 f4
 unfold srV
 dsimp only
 have HP:Hid (∀x0 x1 x2 x3 x4 x5 x6:Value,_):=(bZ (w:=w) (b:=w.heap.size+1) h1 HB1.out bJ.out bf.out)
 clear h1
 go_wp2
 refine bodyPost_ret (v:= .agg #[.int .i64 c,.int .i64 t.ph,.int .i64 t.cu,.slice b1 t.d.length d1,.slice b2 t.n.length d2,.slice b3 t.h.length d3,.slice b4 t.p.length d4]) (by simp[results,Tryz.results48,go_sem,q0,q1,q2,q3,q4,q5,q6]) rfl ⟨⟨.slice b1 t.d.length d1,.slice b2 t.n.length d2,.slice b3 t.h.length d3,.slice b4 t.p.length d4⟩,us,rfl, ?_, ?_⟩
 ·exact(HP.out _ _ _ _ _ _ _).1
 ·exact(HP.out _ _ _ _ _ _ _).2
theorem adJ(R:Rt)(hR:bK R)(s:St)(v:Sv)(w:World)(hv:Sts w v s)(hB:StB s):
  Calls Tryz.prog 48 #[stV s v,on5] w fun e w'=>aQ w (phF R s (s.ph==3)) (if phF R s (s.ph==3)=0 then⟨4,s.cu,s.d,s.n,s.h,s.p⟩else stZ) e w':=by
 obtain⟨W,hW⟩:∃W,W=(w.alloc (stC s v 41)).alloc aiJ:=⟨_,rfl⟩
 have hBW:Below w.heap.size w W:=by rw[hW];exact aH _ _
 have hH:W.heap[w.heap.size+1]? = some aiJ:=by
  have:=heap_alloc_new (w.alloc (stC s v 41)) aiJ
  rw[World.size_alloc]at this
  rw[hW]
  exact this
 have hC0:StC W w.heap.size s v:=by rw[hW];exact(StC.new w s v _).below (aj _) (by simp)
 have bU:=(Array.getElem?_eq_some_iff.1 hH).1
 have HU:Hid (∀w',Below w.heap.size w w'->Calls Tryz.prog 102 #[stV s v] w' fun e w''=>aQ w' (phF R s (s.ph==3)) (if phF R s (s.ph==3)=0 then⟨4,s.cu,s.d,s.n,s.h,s.p⟩else stZ) e w''):=fun w' hb=>D7 R hR s v w' (hv.below hb) hB
 have HC:Hid (∀w',Below W.heap.size W w'->StC w' w.heap.size s v):=fun w' hb=>hC0.below hb hC0.lt
 generalize hT:(if phF R s (s.ph==3)=0 then(⟨4,s.cu,s.d,s.n,s.h,s.p⟩:St)else stZ)=t at HU ⊢
 generalize phF R s (s.ph==3)=c at HU ⊢
 clear hT
 obtain⟨a1,c1,e1⟩:=hv.d.shape
 obtain⟨a2,c2,e2⟩:=hv.n.shape
 obtain⟨a3,c3,e3⟩:=hv.h.shape
 obtain⟨a4,c4,e4⟩:=hv.p.shape
 unfold stC at hW
 unfold stV at HU ⊢
 rw[e1,e2,e3,e4]at hW HU ⊢
 have HW:Hid _:=hW.symm
 have aC:Hid (Below w.heap.size w W):=hBW
 have dM:Hid (w.heap.size+1<W.heap.size):=bU
 have HRW:Hid (W.heap[w.heap.size+1]? = some aiJ):=hH
 have bJ:Hid (w.heap.size<=w.heap.size+1):=Nat.le_succ _
 obtain⟨-,k0,k1,k2,k3,k4,k5⟩:=HC.out W (Below.refl _ _)
 rw[e1]at k2
 rw[e2]at k3
 rw[e3]at k4
 rw[e4]at k5
 have A1:=fun w=>yw (.agg #[]) w
 have A3:=fun w=>BD (.agg #[]) w
 have A2:=fun w=>abG (.agg #[]) w
 have A4:=fun w=>abH (.agg #[]) w
 have A5:=fun w=>abI (.agg #[]) w
 clear hv hB hR hC0 hBW hH bU hW e1 e2 e3 e4
 unfold on5
 go_enter Tryz.func48,Tryz.ntmps48
 go_wp2_with fail
 rw[HW.out]
 obtain⟨V,hV⟩:∃V,V=W.alloc (.cells #[] 161):=⟨_,rfl⟩
 have HV:Hid (W.alloc (.cells #[] 161)=V):=hV.symm
 have hbv:Below W.heap.size W V:=by rw[hV];exact aj _
 have HB0:Hid (Below w.heap.size w V):=ah aC.out hbv
 have bf:Hid (w.heap.size+1<V.heap.size):=Nat.lt_of_lt_of_le dM.out hbv.size
 have HR0:Hid (V.heap[w.heap.size+1]? = some aiJ):=(hbv.block _ dM.out).trans HRW.out
 clear hbv hV
 go_wp2_with fail
 rw[HV.out]
 refine(HU.out _ HB0.out).mono ?_
 clear HU HC aC dM HRW HW k0 k1 k2 k3 k4 k5 A1 A2 A3 A4 A5 HV
 rintro e w1 ⟨u,us,rfl,hb1,h1⟩
 have HB1:Hid (Below w.heap.size w w1):=ah HB0.out hb1
 obtain⟨⟨q0,q1,q2,q3,q4,q5,q6⟩,g0,g1,g2,g3,g4,g5,g6⟩:=aA ((hb1.block _ bf.out).trans HR0.out)
 clear hb1 HR0 HB0
 obtain⟨b1,d1,f1⟩:=h1.sts.d.shape
 obtain⟨b2,d2,f2⟩:=h1.sts.n.shape
 obtain⟨b3,d3,f3⟩:=h1.sts.h.shape
 obtain⟨b4,d4,f4⟩:=h1.sts.p.shape
 obtain⟨td,tn,th,tp⟩:=u
 dsimp only at f1 f2 f3 f4
 subst f1 f2 f3 f4
 unfold srV
 dsimp only
 have HP:Hid (∀x0 x1 x2 x3 x4 x5 x6:Value,_):=(bZ (w:=w) (b:=w.heap.size+1) h1 HB1.out bJ.out bf.out)
 clear h1
 go_wp2
 refine bodyPost_ret (v:= .agg #[.int .i64 c,.int .i64 t.ph,.int .i64 t.cu,.slice b1 t.d.length d1,.slice b2 t.n.length d2,.slice b3 t.h.length d3,.slice b4 t.p.length d4]) (by simp[results,Tryz.results48,go_sem,q0,q1,q2,q3,q4,q5,q6]) rfl ⟨⟨.slice b1 t.d.length d1,.slice b2 t.n.length d2,.slice b3 t.h.length d3,.slice b4 t.p.length d4⟩,us,rfl, ?_, ?_⟩
 ·exact(HP.out _ _ _ _ _ _ _).1
 ·exact(HP.out _ _ _ _ _ _ _).2
theorem adK(R:Rt)(hR:bK R)(s:St)(v:Sv)(w:World)(hv:Sts w v s)(hB:StB s):
  Calls Tryz.prog 48 #[stV s v,on6] w fun e w'=>aQ w (clF R s) (if clF R s=0 then clT R s else stZ) e w':=by
 obtain⟨W,hW⟩:∃W,W=(w.alloc (stC s v 41)).alloc aiJ:=⟨_,rfl⟩
 have hBW:Below w.heap.size w W:=by rw[hW];exact aH _ _
 have hH:W.heap[w.heap.size+1]? = some aiJ:=by
  have:=heap_alloc_new (w.alloc (stC s v 41)) aiJ
  rw[World.size_alloc]at this
  rw[hW]
  exact this
 have hC0:StC W w.heap.size s v:=by rw[hW];exact(StC.new w s v _).below (aj _) (by simp)
 have bU:=(Array.getElem?_eq_some_iff.1 hH).1
 have HU:Hid (∀w',Below w.heap.size w w'->Calls Tryz.prog 103 #[stV s v] w' fun e w''=>aQ w' (clF R s) (if clF R s=0 then clT R s else stZ) e w''):=fun w' hb=>yZ R hR s v w' (hv.below hb) hB
 have HC:Hid (∀w',Below W.heap.size W w'->StC w' w.heap.size s v):=fun w' hb=>hC0.below hb hC0.lt
 generalize hT:(if clF R s=0 then(clT R s:St)else stZ)=t at HU ⊢
 generalize clF R s=c at HU ⊢
 clear hT
 obtain⟨a1,c1,e1⟩:=hv.d.shape
 obtain⟨a2,c2,e2⟩:=hv.n.shape
 obtain⟨a3,c3,e3⟩:=hv.h.shape
 obtain⟨a4,c4,e4⟩:=hv.p.shape
 unfold stC at hW
 unfold stV at HU ⊢
 rw[e1,e2,e3,e4]at hW HU ⊢
 have HW:Hid _:=hW.symm
 have aC:Hid (Below w.heap.size w W):=hBW
 have dM:Hid (w.heap.size+1<W.heap.size):=bU
 have HRW:Hid (W.heap[w.heap.size+1]? = some aiJ):=hH
 have bJ:Hid (w.heap.size<=w.heap.size+1):=Nat.le_succ _
 obtain⟨-,k0,k1,k2,k3,k4,k5⟩:=HC.out W (Below.refl _ _)
 rw[e1]at k2
 rw[e2]at k3
 rw[e3]at k4
 rw[e4]at k5
 have A1:=fun w=>yx (.agg #[]) w
 have A3:=fun w=>BF (.agg #[]) w
 have A2:=fun w=>abJ (.agg #[]) w
 have A4:=fun w=>abK (.agg #[]) w
 have A5:=fun w=>abL (.agg #[]) w
 clear hv hB hR hC0 hBW hH bU hW e1 e2 e3 e4
 unfold on6
 go_enter Tryz.func48,Tryz.ntmps48
 go_wp2_with fail
 rw[HW.out]
 have HB0:Hid (Below w.heap.size w W):=aC.out
 have bf:=dM
 have HR0:=HRW
 go_wp2_with fail
 skip
 refine(HU.out _ aC.out).mono ?_
 clear HU HC aC dM HRW HW k0 k1 k2 k3 k4 k5 A1 A2 A3 A4 A5
 rintro e w1 ⟨u,us,rfl,hb1,h1⟩
 have HB1:Hid (Below w.heap.size w w1):=ah HB0.out hb1
 obtain⟨⟨q0,q1,q2,q3,q4,q5,q6⟩,g0,g1,g2,g3,g4,g5,g6⟩:=aA ((hb1.block _ bf.out).trans HR0.out)
 clear hb1 HR0 HB0
 obtain⟨b1,d1,f1⟩:=h1.sts.d.shape
 obtain⟨b2,d2,f2⟩:=h1.sts.n.shape
 obtain⟨b3,d3,f3⟩:=h1.sts.h.shape
 obtain⟨b4,d4,f4⟩:=h1.sts.p.shape
 obtain⟨td,tn,th,tp⟩:=u
 dsimp only at f1 f2 f3 f4
 subst f1 f2 f3 f4
 unfold srV
 dsimp only
 have HP:Hid (∀x0 x1 x2 x3 x4 x5 x6:Value,_):=(bZ (w:=w) (b:=w.heap.size+1) h1 HB1.out bJ.out bf.out)
 clear h1
 go_wp2
 refine bodyPost_ret (v:= .agg #[.int .i64 c,.int .i64 t.ph,.int .i64 t.cu,.slice b1 t.d.length d1,.slice b2 t.n.length d2,.slice b3 t.h.length d3,.slice b4 t.p.length d4]) (by simp[results,Tryz.results48,go_sem,q0,q1,q2,q3,q4,q5,q6]) rfl ⟨⟨.slice b1 t.d.length d1,.slice b2 t.n.length d2,.slice b3 t.h.length d3,.slice b4 t.p.length d4⟩,us,rfl, ?_, ?_⟩
 ·exact(HP.out _ _ _ _ _ _ _).1
 ·exact(HP.out _ _ _ _ _ _ _).2
theorem aai(R:Rt)(hR:bK R)(s:St)(v:Sv)(k:Int)(l:ByteArray)(a o p x n:Int)(hB:StB s)(hl:l.size<=1048576)(hk:dF k l a o p x n=0):
  ∃y,(∀w,Calls Tryz.prog 49 #[opV k l a o p x n] w fun e w'=>e = .returned y/\Below w.heap.size w w')/\(∀w,Sts w v s->Calls Tryz.prog 48 #[stV s v,y] w fun e w'=>aQ w (dnC R s k ⟨l,a,o,p⟩ x n) (if dnC R s k ⟨l,a,o,p⟩ x n=0 then dnT R s k ⟨l,a,o,p⟩ x n else stZ) e w'):=by
 rcases aa7 hk with⟨rfl,-⟩ |⟨rfl,-⟩ |⟨rfl | rfl | rfl | rfl,-⟩
 ·exact⟨_,fun w=>qM l a o p x n w,fun w hv=>adF R hR s v l a o p x hl w hv hB⟩
 ·exact⟨_,fun w=>qO l a o p x n w,fun w hv=>adH R hR s v n w hv hB⟩
 ·exact⟨_,fun w=>qN l a o p x n w,fun w hv=>adG R hR s v w hv hB⟩
 ·exact⟨_,fun w=>qP l a o p x n w,fun w hv=>adI R hR s v w hv hB⟩
 ·exact⟨_,fun w=>qQ l a o p x n w,fun w hv=>adJ R hR s v w hv hB⟩
 ·exact⟨_,fun w=>qR l a o p x n w,fun w hv=>adK R hR s v w hv hB⟩
theorem y8(R:Rt)(hR:bK R)(s:St)(v:Sv)(k:Int)(l:ByteArray)(a o p x n:Int)(w:World)(hv:Sts w v s)(hB:StB s)(hl:l.size<=1048576)(h:¬(if stF R s=0 then dF k l a o p x n else stF R s)=0):
  Calls Tryz.prog 19 #[stV s v,opV k l a o p x n] w fun e w'=>aQ w (if stF R s=0 then dF k l a o p x n else stF R s) stZ e w':=by
 obtain⟨W,hW⟩:∃W,W=((w.alloc (stC s v 41)).alloc (.cells #[.int .i64 k,.string l,.int .i64 a,.int .i64 o,.int .i64 p,.int .i64 x,.int .i64 n] 58)).alloc aiJ:=⟨_,rfl⟩
 have hBW:Below w.heap.size w W:=by rw[hW];exact(aH _ _).alloc (aH (w:=w) _ _).size _
 have hH:W.heap[w.heap.size+1+1]? = some aiJ:=by
  have:=heap_alloc_new ((w.alloc (stC s v 41)).alloc (.cells #[.int .i64 k,.string l,.int .i64 a,.int .i64 o,.int .i64 p,.int .i64 x,.int .i64 n] 58)) aiJ
  rw[World.size_alloc,World.size_alloc]at this
  rw[hW]
  exact this
 have hO:dL W (w.heap.size+1) k l a o p x n:=by
  have h1:=dL.new (w.alloc (stC s v 41)) k l a o p x n 58
  rw[World.size_alloc]at h1
  rw[hW]
  exact h1.below (aj _)
 have hC0:StC W w.heap.size s v:=by rw[hW];exact((StC.new w s v _).below (aj _) (by simp)).below (aj _) (by simp;omega)
 have hF:Hid (∀w',Below W.heap.size W w'->Calls Tryz.prog 31 #[stV s v] w' fun e w''=>e = .returned (.int .i64 (stF R s))/\Below w'.heap.size w' w''):=fun w' hb=>dH R hR s v w' (hv.below (ah hBW hb)) hB
 have hP:=fun w=>uJ k l a o p x n w hl
 have hOr:=fun u w hu=>vH (stF R s) (dF k l a o p x n) u w hu
 have hq:=jw h
 generalize (if stF R s=0 then dF k l a o p x n else stF R s)=c at *
 generalize stF R s=fs at *
 generalize dF k l a o p x n=fo at *
 obtain⟨a1,c1,e1⟩:=hv.d.shape
 obtain⟨a2,c2,e2⟩:=hv.n.shape
 obtain⟨a3,c3,e3⟩:=hv.h.shape
 obtain⟨a4,c4,e4⟩:=hv.p.shape
 have aO:Hid (∀w',Below W.heap.size W w'->w'.cell? ⟨w.heap.size,0,none⟩=some (.int .i64 s.ph)/\w'.cell? ⟨w.heap.size,1,none⟩=some (.int .i64 s.cu)/\w'.cell? ⟨w.heap.size,2,none⟩=some (.slice a1 s.d.length c1)/\w'.cell? ⟨w.heap.size,3,none⟩=some (.slice a2 s.n.length c2)/\w'.cell? ⟨w.heap.size,4,none⟩=some (.slice a3 s.h.length c3)/\w'.cell? ⟨w.heap.size,5,none⟩=some (.slice a4 s.p.length c4)/\w'.cell? ⟨w.heap.size+1,0,none⟩=some (.int .i64 k)/\w'.cell? ⟨w.heap.size+1,1,none⟩=some (.string l)/\w'.cell? ⟨w.heap.size+1,2,none⟩=some (.int .i64 a)/\w'.cell? ⟨w.heap.size+1,3,none⟩=some (.int .i64 o)/\w'.cell? ⟨w.heap.size+1,4,none⟩=some (.int .i64 p)/\w'.cell? ⟨w.heap.size+1,5,none⟩=some (.int .i64 x)/\w'.cell? ⟨w.heap.size+1,6,none⟩=some (.int .i64 n)):=fun w' hb=>by
  obtain⟨-,k0,k1,k2,k3,k4,k5⟩:=hC0.below hb hC0.lt
  rw[e1]at k2
  rw[e2]at k3
  rw[e3]at k4
  rw[e4]at k5
  obtain⟨m0,m1,m2,m3,m4,m5,m6⟩:=hO.below hb
  exact⟨k0,k1,k2,k3,k4,k5,m0,m1,m2,m3,m4,m5,m6⟩
 unfold stC at hW
 unfold stV at hF ⊢
 unfold opV at hP ⊢
 rw[e1,e2,e3,e4]at hW hF ⊢
 have HW:Hid (_=W):=hW.symm
 have aC:Hid (Below w.heap.size w W):=hBW
 have dM:Hid (w.heap.size+1+1<W.heap.size):=(Array.getElem?_eq_some_iff.1 hH).1
 have HRW:Hid (W.heap[w.heap.size+1+1]? = some aiJ):=hH
 have bJ:Hid (w.heap.size<=w.heap.size+1+1):=by show w.heap.size<=w.heap.size+1+1;omega
 have hbr:=Below.refl W.heap.size W
 clear hv hB hR hC0 hBW hH hW e1 e2 e3 e4 h hO hl
 go_enter Tryz.func19,Tryz.ntmps19
 go_wp2_with fail
 rw[HW.out]
 go_region_held3 (fun w'=>w'.cell? ⟨w.heap.size,0,none⟩=some (.int .i64 s.ph)/\w'.cell? ⟨w.heap.size,1,none⟩=some (.int .i64 s.cu)/\w'.cell? ⟨w.heap.size,2,none⟩=some (.slice a1 s.d.length c1)/\w'.cell? ⟨w.heap.size,3,none⟩=some (.slice a2 s.n.length c2)/\w'.cell? ⟨w.heap.size,4,none⟩=some (.slice a3 s.h.length c3)/\w'.cell? ⟨w.heap.size,5,none⟩=some (.slice a4 s.p.length c4)/\w'.cell? ⟨w.heap.size+1,0,none⟩=some (.int .i64 k)/\w'.cell? ⟨w.heap.size+1,1,none⟩=some (.string l)/\w'.cell? ⟨w.heap.size+1,2,none⟩=some (.int .i64 a)/\w'.cell? ⟨w.heap.size+1,3,none⟩=some (.int .i64 o)/\w'.cell? ⟨w.heap.size+1,4,none⟩=some (.int .i64 p)/\w'.cell? ⟨w.heap.size+1,5,none⟩=some (.int .i64 x)/\w'.cell? ⟨w.heap.size+1,6,none⟩=some (.int .i64 n))
  (first | with_reducible exact aO.out _ hbr | with_reducible exact aO.out _ hbr.drew | with_reducible exact aO.out _ (hbr.alloc hbr.size _))
  (first
   |(go_at_call 31;refine(hF.out _ (by first | exact hbr | exact hbr.drew)).mono ?_;rintro z w2 ⟨rfl,hb2⟩;have hbr:Below W.heap.size W w2:=(by first | exact ah hbr hb2 | exact ah hbr.drew hb2))
   |(go_at_call 47;refine(hP _).mono ?_;rintro z w3 ⟨rfl,hb3⟩;have hbr:Below W.heap.size W w3:=(by first | exact ah hbr hb3 | exact ah hbr.drew hb3))
   |(go_at_call 46;refine(hOr _ _ (zW rfl)).mono ?_;rintro z w5 ⟨rfl,hw5⟩;have hbr:Below W.heap.size W w5:=(by rw[hw5];exact hbr.alloc hbr.size _);clear hw5))
 all_goals
  obtain⟨⟨q0,q1,q2,q3,q4,q5,q6⟩,g0,g1,g2,g3,g4,g5,g6⟩:=aA ((hbr.block _ dM.out).trans HRW.out)
  have HB1:Hid (Below w.heap.size w _):=ah aC.out hbr
  clear hF hP hOr aO HW hbr HRW dM aC
  go_wp2
  refine bodyPost_ret (v:= .agg #[.int .i64 c,.int .i64 0,.int .i64 0,.slice none 0 0,.slice none 0 0,.slice none 0 0,.slice none 0 0]) (by simp[results,Tryz.results19,go_sem,q0,q1,q2,q3,q4,q5,q6]) rfl ⟨svZ,[],rfl, ?_,kW _ _ _⟩
  exact eu HB1.out bJ.out _ _ _ _ _ _ _
theorem Nl(R:Rt)(hR:bK R)(s:St)(v:Sv)(k:Int)(l:ByteArray)(a o p x n:Int)(w:World)(hv:Sts w v s)(hB:StB s)(hl:l.size<=1048576)(h:stF R s=0)(hk:dF k l a o p x n=0):
  Calls Tryz.prog 19 #[stV s v,opV k l a o p x n] w fun e w'=>aQ w (dnC R s k ⟨l,a,o,p⟩ x n) (if dnC R s k ⟨l,a,o,p⟩ x n=0 then dnT R s k ⟨l,a,o,p⟩ x n else stZ) e w':=by
 obtain⟨W,hW⟩:∃W,W=((w.alloc (stC s v 41)).alloc (.cells #[.int .i64 k,.string l,.int .i64 a,.int .i64 o,.int .i64 p,.int .i64 x,.int .i64 n] 58)).alloc aiJ:=⟨_,rfl⟩
 have hBW:Below w.heap.size w W:=by rw[hW];exact(aH _ _).alloc (aH (w:=w) _ _).size _
 have hH:W.heap[w.heap.size+1+1]? = some aiJ:=by
  have:=heap_alloc_new ((w.alloc (stC s v 41)).alloc (.cells #[.int .i64 k,.string l,.int .i64 a,.int .i64 o,.int .i64 p,.int .i64 x,.int .i64 n] 58)) aiJ
  rw[World.size_alloc,World.size_alloc]at this
  rw[hW]
  exact this
 have hO:dL W (w.heap.size+1) k l a o p x n:=by
  have h1:=dL.new (w.alloc (stC s v 41)) k l a o p x n 58
  rw[World.size_alloc]at h1
  rw[hW]
  exact h1.below (aj _)
 have hC0:StC W w.heap.size s v:=by rw[hW];exact((StC.new w s v _).below (aj _) (by simp)).below (aj _) (by simp;omega)
 have hF:Hid (∀w',Below W.heap.size W w'->Calls Tryz.prog 31 #[stV s v] w' fun e w''=>e = .returned (.int .i64 (stF R s))/\Below w'.heap.size w' w''):=fun w' hb=>dH R hR s v w' (hv.below (ah hBW hb)) hB
 have hP:=fun w=>uJ k l a o p x n w hl
 have hOr:=fun u w hu=>vH (stF R s) (dF k l a o p x n) u w hu
 obtain⟨y,hY1,hY0⟩:=aai R hR s v k l a o p x n hB hl hk
 have hY2:Hid (∀w',Below w.heap.size w w'->Calls Tryz.prog 48 #[stV s v,y] w' fun e w''=>aQ w' (dnC R s k ⟨l,a,o,p⟩ x n) (if dnC R s k ⟨l,a,o,p⟩ x n=0 then dnT R s k ⟨l,a,o,p⟩ x n else stZ) e w''):=fun w' hb=>hY0 w' (hv.below hb)
 have XE:Hid (∀w',Below W.heap.size W w'->Dos w w' s v k l a o p x n):=fun w' hb=>⟨ah hBW hb,hC0.below hb hC0.lt,hO.below hb⟩
 clear hY0
 generalize hT:(if dnC R s k ⟨l,a,o,p⟩ x n=0 then dnT R s k ⟨l,a,o,p⟩ x n else stZ)=t at hY2 ⊢
 generalize dnC R s k ⟨l,a,o,p⟩ x n=c at hY2 ⊢
 rw[h]at hF hOr
 rw[hk]at hP hOr
 have HSA:Hid (∀w',Dos w w' s v k l a o p x n->v.d=v.d/\v.n=v.n):=fun _ _=>⟨rfl,rfl⟩
 obtain⟨a1,c1,e1⟩:=hv.d.shape
 obtain⟨a2,c2,e2⟩:=hv.n.shape
 obtain⟨a3,c3,e3⟩:=hv.h.shape
 obtain⟨a4,c4,e4⟩:=hv.p.shape
 have aO:Hid (∀w',Below W.heap.size W w'->w'.cell? ⟨w.heap.size,0,none⟩=some (.int .i64 s.ph)/\w'.cell? ⟨w.heap.size,1,none⟩=some (.int .i64 s.cu)/\w'.cell? ⟨w.heap.size,2,none⟩=some (.slice a1 s.d.length c1)/\w'.cell? ⟨w.heap.size,3,none⟩=some (.slice a2 s.n.length c2)/\w'.cell? ⟨w.heap.size,4,none⟩=some (.slice a3 s.h.length c3)/\w'.cell? ⟨w.heap.size,5,none⟩=some (.slice a4 s.p.length c4)/\w'.cell? ⟨w.heap.size+1,0,none⟩=some (.int .i64 k)/\w'.cell? ⟨w.heap.size+1,1,none⟩=some (.string l)/\w'.cell? ⟨w.heap.size+1,2,none⟩=some (.int .i64 a)/\w'.cell? ⟨w.heap.size+1,3,none⟩=some (.int .i64 o)/\w'.cell? ⟨w.heap.size+1,4,none⟩=some (.int .i64 p)/\w'.cell? ⟨w.heap.size+1,5,none⟩=some (.int .i64 x)/\w'.cell? ⟨w.heap.size+1,6,none⟩=some (.int .i64 n)):=fun w' hb=>by
  obtain⟨-,k0,k1,k2,k3,k4,k5⟩:=hC0.below hb hC0.lt
  rw[e1]at k2
  rw[e2]at k3
  rw[e3]at k4
  rw[e4]at k5
  obtain⟨m0,m1,m2,m3,m4,m5,m6⟩:=hO.below hb
  exact⟨k0,k1,k2,k3,k4,k5,m0,m1,m2,m3,m4,m5,m6⟩
 unfold stC at hW
 unfold stV at hF ⊢
 unfold opV at hP ⊢
 rw[e1,e2,e3,e4]at hW hF ⊢
 have HW:Hid (_=W):=hW.symm
 have aC:Hid (Below w.heap.size w W):=hBW
 have dM:Hid (w.heap.size+1+1<W.heap.size):=(Array.getElem?_eq_some_iff.1 hH).1
 have HRW:Hid (W.heap[w.heap.size+1+1]? = some aiJ):=hH
 have bJ:Hid (w.heap.size<=w.heap.size+1+1):=by show w.heap.size<=w.heap.size+1+1;omega
 have hbr:=Below.refl W.heap.size W
 have tY:∀w',Dos w w' s v k l a o p x n->w'.cell? ⟨w.heap.size,0,none⟩=some (.int .i64 s.ph)/\w'.cell? ⟨w.heap.size,1,none⟩=some (.int .i64 s.cu)/\w'.cell? ⟨w.heap.size,2,none⟩=some (.slice a1 s.d.length c1)/\w'.cell? ⟨w.heap.size,3,none⟩=some (.slice a2 s.n.length c2)/\w'.cell? ⟨w.heap.size,4,none⟩=some (.slice a3 s.h.length c3)/\w'.cell? ⟨w.heap.size,5,none⟩=some (.slice a4 s.p.length c4)/\w'.cell? ⟨w.heap.size+1,0,none⟩=some (.int .i64 k)/\w'.cell? ⟨w.heap.size+1,1,none⟩=some (.string l)/\w'.cell? ⟨w.heap.size+1,2,none⟩=some (.int .i64 a)/\w'.cell? ⟨w.heap.size+1,3,none⟩=some (.int .i64 o)/\w'.cell? ⟨w.heap.size+1,4,none⟩=some (.int .i64 p)/\w'.cell? ⟨w.heap.size+1,5,none⟩=some (.int .i64 x)/\w'.cell? ⟨w.heap.size+1,6,none⟩=some (.int .i64 n):=fun w' hs=>by
  obtain⟨-,⟨-,k0,k1,k2,k3,k4,k5⟩,⟨m0,m1,m2,m3,m4,m5,m6⟩⟩:=hs
  rw[e1]at k2
  rw[e2]at k3
  rw[e3]at k4
  rw[e4]at k5
  exact⟨k0,k1,k2,k3,k4,k5,m0,m1,m2,m3,m4,m5,m6⟩
 unfold stV at hY2
 unfold opV at hY1
 rw[e1,e2,e3,e4]at hY2
 clear hv hB hR hC0 hBW hH hW e1 e2 e3 e4 h hO hl hk hT HSA
 go_enter Tryz.func19,Tryz.ntmps19
 go_wp2_with fail
 rw[HW.out]
 go_region_held3 (fun w'=>w'.cell? ⟨w.heap.size,0,none⟩=some (.int .i64 s.ph)/\w'.cell? ⟨w.heap.size,1,none⟩=some (.int .i64 s.cu)/\w'.cell? ⟨w.heap.size,2,none⟩=some (.slice a1 s.d.length c1)/\w'.cell? ⟨w.heap.size,3,none⟩=some (.slice a2 s.n.length c2)/\w'.cell? ⟨w.heap.size,4,none⟩=some (.slice a3 s.h.length c3)/\w'.cell? ⟨w.heap.size,5,none⟩=some (.slice a4 s.p.length c4)/\w'.cell? ⟨w.heap.size+1,0,none⟩=some (.int .i64 k)/\w'.cell? ⟨w.heap.size+1,1,none⟩=some (.string l)/\w'.cell? ⟨w.heap.size+1,2,none⟩=some (.int .i64 a)/\w'.cell? ⟨w.heap.size+1,3,none⟩=some (.int .i64 o)/\w'.cell? ⟨w.heap.size+1,4,none⟩=some (.int .i64 p)/\w'.cell? ⟨w.heap.size+1,5,none⟩=some (.int .i64 x)/\w'.cell? ⟨w.heap.size+1,6,none⟩=some (.int .i64 n))
  (first | with_reducible exact aO.out _ hbr | with_reducible exact aO.out _ hbr.drew | with_reducible exact aO.out _ (hbr.alloc hbr.size _))
  (first
   |(go_at_call 31;refine(hF.out _ (by first | exact hbr | exact hbr.drew)).mono ?_;rintro z w2 ⟨rfl,hb2⟩;have hbr:Below W.heap.size W w2:=(by first | exact ah hbr hb2 | exact ah hbr.drew hb2))
   |(go_at_call 47;refine(hP _).mono ?_;rintro z w3 ⟨rfl,hb3⟩;have hbr:Below W.heap.size W w3:=(by first | exact ah hbr hb3 | exact ah hbr.drew hb3))
   |(go_at_call 46;refine(hOr _ _ (zW rfl)).mono ?_;rintro z w5 ⟨rfl,hw5⟩;have hbr:Below W.heap.size W w5:=(by rw[hw5];exact hbr.alloc hbr.size _);clear hw5))
 clear hF hP hOr aO HW
 go_wp2_with fail
 have G:ZB w5.drew (w.heap.size+1+1):=(⟨(hbr.block _ dM.out).trans HRW.out⟩:ZB w5 (w.heap.size+1+1)).drew
 have hS:=XE.out _ hbr.drew
 have z0:∀w',Dos w w' s v k l a o p x n->w'.cell? ⟨w.heap.size,0,none⟩=some (.int .i64 s.ph):=fun w' h=>(tY w' h).1
 have z1:∀w',Dos w w' s v k l a o p x n->w'.cell? ⟨w.heap.size,1,none⟩=some (.int .i64 s.cu):=fun w' h=>(tY w' h).2.1
 have z2:∀w',Dos w w' s v k l a o p x n->w'.cell? ⟨w.heap.size,2,none⟩=some (.slice a1 s.d.length c1):=fun w' h=>(tY w' h).2.2.1
 have z3:∀w',Dos w w' s v k l a o p x n->w'.cell? ⟨w.heap.size,3,none⟩=some (.slice a2 s.n.length c2):=fun w' h=>(tY w' h).2.2.2.1
 have z4:∀w',Dos w w' s v k l a o p x n->w'.cell? ⟨w.heap.size,4,none⟩=some (.slice a3 s.h.length c3):=fun w' h=>(tY w' h).2.2.2.2.1
 have z5:∀w',Dos w w' s v k l a o p x n->w'.cell? ⟨w.heap.size,5,none⟩=some (.slice a4 s.p.length c4):=fun w' h=>(tY w' h).2.2.2.2.2.1
 have z6:∀w',Dos w w' s v k l a o p x n->w'.cell? ⟨w.heap.size+1,0,none⟩=some (.int .i64 k):=fun w' h=>(tY w' h).2.2.2.2.2.2.1
 have z7:∀w',Dos w w' s v k l a o p x n->w'.cell? ⟨w.heap.size+1,1,none⟩=some (.string l):=fun w' h=>(tY w' h).2.2.2.2.2.2.2.1
 have z8:∀w',Dos w w' s v k l a o p x n->w'.cell? ⟨w.heap.size+1,2,none⟩=some (.int .i64 a):=fun w' h=>(tY w' h).2.2.2.2.2.2.2.2.1
 have z9:∀w',Dos w w' s v k l a o p x n->w'.cell? ⟨w.heap.size+1,3,none⟩=some (.int .i64 o):=fun w' h=>(tY w' h).2.2.2.2.2.2.2.2.2.1
 have z10:∀w',Dos w w' s v k l a o p x n->w'.cell? ⟨w.heap.size+1,4,none⟩=some (.int .i64 p):=fun w' h=>(tY w' h).2.2.2.2.2.2.2.2.2.2.1
 have z11:∀w',Dos w w' s v k l a o p x n->w'.cell? ⟨w.heap.size+1,5,none⟩=some (.int .i64 x):=fun w' h=>(tY w' h).2.2.2.2.2.2.2.2.2.2.2.1
 have z12:∀w',Dos w w' s v k l a o p x n->w'.cell? ⟨w.heap.size+1,6,none⟩=some (.int .i64 n):=fun w' h=>(tY w' h).2.2.2.2.2.2.2.2.2.2.2.2
 clear hbr HRW dM XE tY aC
 refine wp_region_held_drew (S:=fun w'=>Dos w w' s v k l a o p x n) (by kernel_rfl) hS (fun hHeld=> ?_)
 generalize w5.drew=V at *
 refine aK (i:=0) (d:=some 16) (v:= ?ve1) (by rfl) (by kernel_rfl) (by kernel_rfl) (by kernel_rfl) (fun _ _ _ h=>h) (by rfl) ?ael hHeld ?agx
 case ael=>
  intro o ho
  simp only[aiF,aiG,aiI]at ho
  subst ho
  intro w' hSw
  first |(go_simp;done) |(go_simp;with_reducible rfl)
 try simp only[Act.put,aiC,aiD,aiE]
 refine aK (i:=1) (d:=some 17) (v:= ?ve2) (by rfl) (by kernel_rfl) (by kernel_rfl) (by kernel_rfl) (fun _ _ _ h=>h) (by rfl) ?aem hHeld ?agy
 case aem=>
  intro o ho
  simp only[aiF,aiH,aiG,aiI]at ho
  subst ho
  intro w' hSw
  first |(go_simp;done) |(go_simp;with_reducible rfl)
 try simp only[Act.put,aiC,aiD,aiE]
 refine wpAnyH_ready (rs:=[2]) (by kernel_rfl) (by simp) ?_
 refine AllReadyH.cons rfl (fun K hK=> ?_) AllReadyH.nil
 ·go_simp
  refine(hY1 _).mono ?_
  rintro e wq ⟨rfl,hbq⟩
  have hq1:=hHeld.below hbq
  have G:=G.below hbq
  have bf:Hid (w.heap.size+1+1<wq.heap.size):=G.lt
  refine hK.out _ _ ?_ (fun hHeld=> ?_)
  ·exact hq1
  clear hK K
  try simp only[Act.put,aiC,aiD,aiE]
  refine wpAnyH_ready (rs:=[3]) (by kernel_rfl) (by simp) ?_
  refine AllReadyH.cons rfl (fun K hK=> ?_) AllReadyH.nil
  ·go_simp
   refine(hY2.out _ hHeld.1).mono ?_
   rintro e wr ⟨u,us,rfl,hbr,h1⟩
   have hq2:=hHeld.below hbr
   have G:=G.below hbr
   obtain⟨b1,d1,f1⟩:=h1.sts.d.shape
   obtain⟨b2,d2,f2⟩:=h1.sts.n.shape
   obtain⟨b3,d3,f3⟩:=h1.sts.h.shape
   obtain⟨b4,d4,f4⟩:=h1.sts.p.shape
   obtain⟨td,tn,th,tp⟩:=u
   dsimp only at f1 f2 f3 f4
   subst f1 f2 f3 f4
   unfold srV
   dsimp only
   refine hK.out _ _ ?_ (fun hHeld=> ?_)
   ·exact hq2
   clear hK K
   try simp only[Act.put,aiC,aiD,aiE]
   obtain⟨⟨q0,q1,q2,q3,q4,q5,q6⟩,g0,g1,g2,g3,g4,g5,g6⟩:=aA G.c
   have HP:Hid (∀x0 x1 x2 x3 x4 x5 x6:Value,_):=(bZ (w:=w) (b:=w.heap.size+1+1) h1 hq2.1 bJ.out bf.out)
   clear h1
   refine wpAnyH_ready (rs:=[4]) (by kernel_rfl) (by simp) ?_
   refine AllReadyH.cons rfl (fun K hK=> ?_) AllReadyH.nil
   go_simp
   refine hK.out _ _ ?_ (fun hHeld=> ?_)
   ·exact hHeld.LG bJ.out (by omega) (by omega) _ _ _ _ _ _ _
   clear hK K
   try simp only[Act.put,aiC,aiD,aiE]
   refine wpAnyH_done (by kernel_rfl) ?_ _
   go_wp2
   refine bodyPost_ret (v:= .agg #[.int .i64 c,.int .i64 t.ph,.int .i64 t.cu,.slice b1 t.d.length d1,.slice b2 t.n.length d2,.slice b3 t.h.length d3,.slice b4 t.p.length d4]) (by simp[results,Tryz.results19,go_sem,q0,q1,q2,q3,q4,q5,q6]) rfl ⟨⟨.slice b1 t.d.length d1,.slice b2 t.n.length d2,.slice b3 t.h.length d3,.slice b4 t.p.length d4⟩,us,rfl, ?_, ?_⟩
   ·exact(HP.out _ _ _ _ _ _ _).1
   ·exact(HP.out _ _ _ _ _ _ _).2
theorem JU(R:Rt)(hR:bK R)(s:St)(v:Sv)(k:Int)(l:ByteArray)(a o p x n:Int)(w:World)(hv:Sts w v s)(hB:StB s)(hl:l.size<=1048576):
  Calls Tryz.prog 19 #[stV s v,opV k l a o p x n] w fun e w'=>aQ w (doC R s k ⟨l,a,o,p⟩ x n) (if doC R s k ⟨l,a,o,p⟩ x n=0 then dnT R s k ⟨l,a,o,p⟩ x n else stZ) e w':=by
 unfold doC
 by_cases h:stF R s=0
 ·by_cases hk:dF k l a o p x n=0
  ·rw[if_pos h,if_pos hk]
   exact Nl R hR s v k l a o p x n w hv hB hl h hk
  ·have:=y8 R hR s v k l a o p x n w hv hB hl (by rw[if_pos h];exact hk)
   rw[if_pos h]at this
   rw[if_pos h,if_neg hk,if_neg hk]
   exact this
 ·have:=y8 R hR s v k l a o p x n w hv hB hl (by rw[if_neg h];exact h)
  rw[if_neg h]at this
  rw[if_neg h,if_neg h]
  exact this
end U
end Go.Proofs.YtmmcgjacojgeaaaGreat
