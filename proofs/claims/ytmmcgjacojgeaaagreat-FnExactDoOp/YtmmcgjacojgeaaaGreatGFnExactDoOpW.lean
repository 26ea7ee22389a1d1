/- The law on DoOp, walked: true, and nothing that was there has turned. -/
import Derived.Test.YtmmcgjacojgeaaaGreatGZz
import Derived.Test.YtmmcgjacojgeaaaGreatGUs3
import Derived.Test.YtmmcgjacojgeaaaGreatGDn1
import Derived.Test.YtmmcgjacojgeaaaGreatGDn2
import Derived.Test.YtmmcgjacojgeaaaGreatGDn3
set_option maxRecDepth 100000
set_option maxHeartbeats 8000000
namespace Go.Proofs.YtmmcgjacojgeaaaGreat
open Go.RowKit
namespace U
structure adD(s t:St)(vk:Int)(vl:ByteArray)(va vo vp vx vn:Int)(ph cu q tp tc:Int)(n1 n2 n3 n4 m1 m2 m3 m4:Nat):Prop where
 c:∀(w':World)(lo hi:Nat)(a1 a2 a3 a4:Option Addr)(c1 c2 c3 c4:Nat)(aT:List Value),aG lo hi w' (sv a1 a2 a3 a4 n1 n2 n3 n4 c1 c2 c3 c4) aT s->Calls Tryz.prog 17 #[.agg #[.int .i64 ph,.int .i64 cu,.slice a1 n1 c1,.slice a2 n2 c2,.slice a3 n3 c3,.slice a4 n4 c4],.agg #[.int .i64 vk,.string vl,.int .i64 va,.int .i64 vo,.int .i64 vp,.int .i64 vx,.int .i64 vn]] w' fun e w''=>∃b1 b2 b3 b4 d1 d2 d3 d4 us,e = .returned (.agg #[.int .i64 q,.int .i64 tp,.int .i64 tc,.slice b1 m1 d1,.slice b2 m2 d2,.slice b3 m3 d3,.slice b4 m4 d4])/\Below w'.heap.size w' w''/\aG w'.heap.size w''.heap.size w'' (sv b1 b2 b3 b4 m1 m2 m3 m4 d1 d2 d3 d4) us t
structure adC(s t:St)(vk:Int)(vl:ByteArray)(va vo vp vx vn:Int)(ph cu q tp tc:Int)(n1 n2 n3 n4 m1 m2 m3 m4:Nat):Prop where
 c:∀(w':World)(a1 a2 a3 a4:Option Addr)(c1 c2 c3 c4:Nat),Sts w' (sv a1 a2 a3 a4 n1 n2 n3 n4 c1 c2 c3 c4) s->Calls Tryz.prog 19 #[.agg #[.int .i64 ph,.int .i64 cu,.slice a1 n1 c1,.slice a2 n2 c2,.slice a3 n3 c3,.slice a4 n4 c4],.agg #[.int .i64 vk,.string vl,.int .i64 va,.int .i64 vo,.int .i64 vp,.int .i64 vx,.int .i64 vn]] w' fun e w''=>∃b1 b2 b3 b4 d1 d2 d3 d4 us,e = .returned (.agg #[.int .i64 q,.int .i64 tp,.int .i64 tc,.slice b1 m1 d1,.slice b2 m2 d2,.slice b3 m3 d3,.slice b4 m4 d4])/\Below w'.heap.size w' w''/\aG w'.heap.size w''.heap.size w'' (sv b1 b2 b3 b4 m1 m2 m3 m4 d1 d2 d3 d4) us t
theorem Td{w' w'':World}{q:Int}{t:St}{e:Ending}(h:aQ w' q t e w''):∃b1 b2 b3 b4 d1 d2 d3 d4 us,e = .returned (.agg #[.int .i64 q,.int .i64 t.ph,.int .i64 t.cu,.slice b1 t.d.length d1,.slice b2 t.n.length d2,.slice b3 t.h.length d3,.slice b4 t.p.length d4])/\Below w'.heap.size w' w''/\aG w'.heap.size w''.heap.size w'' (sv b1 b2 b3 b4 t.d.length t.n.length t.h.length t.p.length d1 d2 d3 d4) us t:=by
 obtain⟨u,us,rfl,h1,h2⟩:=h
 obtain⟨b1,b2,b3,b4,d1,d2,d3,d4,rfl⟩:=h2.sts.four
 exact⟨b1,b2,b3,b4,d1,d2,d3,d4,us,rfl,h1,h2⟩
theorem fnExactDoOp_walk(s:St)(v:Sv)(vk:Int)(vl:ByteArray)(va vo vp vx vn:Int)(w:World)(hv:Sts w v s)(hA:StA s)(hs:vl.size<=maxLen):
  Calls Tryz.prog 4 #[stV s v,.agg #[.int .i64 vk,.string vl,.int .i64 va,.int .i64 vo,.int .i64 vp,.int .i64 vx,.int .i64 vn]] w fun e w'=>e = .returned (.bool true)/\Below w.heap.size w w':=by
 obtain⟨W,hW⟩:∃W,W=(w.alloc (stC s v 29)).alloc (.cells #[.int .i64 vk,.string vl,.int .i64 va,.int .i64 vo,.int .i64 vp,.int .i64 vx,.int .i64 vn] 54):=⟨_,rfl⟩
 have hBW:Below w.heap.size w W:=by rw[hW];exact aH _ _
 have hZ:=Og s v 1048576 W (hv.below hBW) hA (by omega)
 have hok:=fun h=>abn (s:=s) (z:=1048576) (by omega) (by omega) h
 have hX0:W.heap[w.heap.size]? = some (stC s v 29):=by rw[hW];exact heap_alloc_old' _ _ _ (heap_alloc_new w _)
 have hY0:W.heap[w.heap.size+1]? = some (.cells #[.int .i64 vk,.string vl,.int .i64 va,.int .i64 vo,.int .i64 vp,.int .i64 vx,.int .i64 vn] 54):=by rw[hW];exact dB w _ _
 obtain⟨a1,a2,a3,a4,c1,c2,c3,c4,rfl⟩:=hv.four
 unfold stC at hW hX0
 unfold stV at hZ ⊢
 unfold sv at hW hX0 hZ ⊢
 dsimp only at hW hX0 hZ ⊢
 generalize szS s 1048576=z at *
 by_cases h:z<0
 ·generalize s.ph=ph at *
  generalize s.cu=cu at *
  generalize s.d.length=n1 at *
  generalize s.n.length=n2 at *
  generalize s.h.length=n3 at *
  generalize s.p.length=n4 at *
  have HW:Hid _:=hW.symm
  clear hv hA hok hW hX0 hY0
  go_enter Tryz.func4,Tryz.ntmps4
  go_wp2_with fail
  rw[HW.out]
  refine hZ.mono ?_
  rintro e w1 ⟨rfl,hb1⟩
  clear hZ
  go_wp2
  go_ret
  exact⟨rfl,ah hBW hb1⟩
 obtain⟨hB,hz⟩:=hok h
 have Jz:=fun w=>Xt vk vl va vo vp vx vn z w hs (by omega)
 unfold opV at Jz
 by_cases h2:z - (vl.size:Int)<0
 ·rw[if_pos h2]at Jz
  generalize s.ph=ph at *
  generalize s.cu=cu at *
  generalize s.d.length=n1 at *
  generalize s.n.length=n2 at *
  generalize s.h.length=n3 at *
  generalize s.p.length=n4 at *
  have HW:Hid _:=hW.symm
  have HY:Hid (∀w',Below W.heap.size W w'->w'.heap[w.heap.size+1]? = some (.cells #[.int .i64 vk,.string vl,.int .i64 va,.int .i64 vo,.int .i64 vp,.int .i64 vx,.int .i64 vn] 54)):=fun w' hb=>(hb.block _ (Array.getElem?_eq_some_iff.1 hY0).1).trans hY0
  clear hv hA hok hW hX0 hY0 hz hB
  go_enter Tryz.func4,Tryz.ntmps4
  go_wp2_with fail
  rw[HW.out]
  refine hZ.mono ?_
  rintro e w1 ⟨rfl,hb1⟩
  obtain⟨y0,y1,y2,y3,y4,y5,y6,-⟩:=fA (HY.out _ hb1)
  clear hZ HW
  go_wp2_with fail
  refine(Jz _).mono ?_
  rintro e w2 ⟨rfl,hb2⟩
  clear Jz
  go_wp2
  go_ret
  exact⟨rfl,ah (ah hBW hb1) hb2⟩
 rw[if_neg h2]at Jz
 have hrs:vl.size<=1048576:=by omega
 have hTR:=fun w=>Xu vk vl va vo vp vx vn w
 unfold opV at hTR
 obtain⟨R,hR⟩:=aci
 obtain⟨q,hq⟩:∃q,q=doC R s vk ⟨vl,va,vo,vp⟩ vx vn:=⟨_,rfl⟩
 obtain⟨t,ht⟩:∃t,t=(if doC R s vk ⟨vl,va,vo,vp⟩ vx vn=0 then dnT R s vk ⟨vl,va,vo,vp⟩ vx vn else stZ):=⟨_,rfl⟩
 have hBt:StB t:=by
  rw[ht]
  split
  ·rename_i h0
   exact Yr hB h0
  ·exact Zn
 have HS:adD s t vk vl va vo vp vx vn s.ph s.cu q t.ph t.cu s.d.length s.n.length s.h.length s.p.length t.d.length t.n.length t.h.length t.p.length:=⟨fun w' lo hi a1 a2 a3 a4 c1 c2 c3 c4 aT ho=>by
  have:=L9 R hR lo hi s _ aT vk vl va vo vp vx vn w' ho hB hrs
  rw[←ht,←hq]at this
  unfold stV sv at this
  exact this.mono fun e w'' h=>Td h⟩
 have HI:adC s t vk vl va vo vp vx vn s.ph s.cu q t.ph t.cu s.d.length s.n.length s.h.length s.p.length t.d.length t.n.length t.h.length t.p.length:=⟨fun w' a1 a2 a3 a4 c1 c2 c3 c4 ho=>by
  have:=JU R hR s _ vk vl va vo vp vx vn w' ho hB hrs
  rw[←ht,←hq]at this
  unfold stV sv at this
  exact this.mono fun e w'' h=>Td h⟩
 have hnn:=dP
 have HE:=ErR.mk' hBt q
 have HMR:=MrR.mk' hBt q
 have oO:=HrR.mk' hBt q
 have HM:=MsR.mk' hB
 have HT:=ToS.mk' hv hB
 have HEQ:=EqS.mk' hB
 have hK1:¬((ks4 s 1:Nat):Int)<0:=by omega
 have hK2:¬((ks4 t 1:Nat):Int)<0:=by omega
 clear hq ht hR hBt
 generalize ks4 s 1=K1 at *
 generalize ks4 t 1=K2 at *
 generalize mY t 1=mt at *
 generalize t.ph=tp at *
 generalize t.cu=tc at *
 generalize t.d.length=m1 at *
 generalize t.n.length=m2 at *
 generalize t.h.length=m3 at *
 generalize t.p.length=m4 at *
 generalize s.ph=ph at *
 generalize s.cu=cu at *
 generalize s.d.length=n1 at *
 generalize s.n.length=n2 at *
 generalize s.h.length=n3 at *
 generalize s.p.length=n4 at *
 generalize hze:z - (vl.size:Int)=zz at *
 have HW:Hid _:=hW.symm
 have dG:w.heap.size+1<W.heap.size:=(Array.getElem?_eq_some_iff.1 hY0).1
 have HX:Hid (∀w',Below W.heap.size W w'->w'.heap[w.heap.size]? = some (.cells #[.int .i64 ph,.int .i64 cu,.slice a1 n1 c1,.slice a2 n2 c2,.slice a3 n3 c3,.slice a4 n4 c4] 29)):=fun w' hb=>(hb.block _ (by omega)).trans hX0
 have HY:Hid (∀w',Below W.heap.size W w'->w'.heap[w.heap.size+1]? = some (.cells #[.int .i64 vk,.string vl,.int .i64 va,.int .i64 vo,.int .i64 vp,.int .i64 vx,.int .i64 vn] 54)):=fun w' hb=>(hb.block _ dG).trans hY0
 have aC:Hid (∀w',Below W.heap.size W w'->Below w.heap.size w w'):=fun w' hb=>ah hBW hb
 clear hv hA hok hW hB hX0 hY0 hBW hz hze hrs hs
 go_enter Tryz.func4,Tryz.ntmps4
 go_wp2_with fail
 rw[HW.out]
 refine hZ.mono ?_
 rintro e w0 ⟨rfl,hb0⟩
 obtain⟨y0,y1,y2,y3,y4,y5,y6,-⟩:=fA (HY.out _ hb0)
 clear hZ HW
 go_wp2_with fail
 refine(Jz _).mono ?_
 rintro e w1 ⟨rfl,hb1⟩
 have hbr:Below W.heap.size W w1:=ah hb0 hb1
 have HR1:Hid (Below W.heap.size W w1):=hbr
 clear Jz hb0 hb1 y0 y1 y2 y3 y4 y5 y6
 obtain⟨⟨x0,x1,x2,x3,x4,x5⟩,-⟩:=aB (HX.out _ hbr)
 obtain⟨y0,y1,y2,y3,y4,y5,y6,-⟩:=fA (HY.out _ hbr)
 clear x0 x1 x2 x3 x4 x5 y0 y1 y2 y3 y4 y5 y6 hbr
 go_wp2_with fail
 have jM:Hid (Below W.heap.size W w1):=HR1.out
 have q0:∀w',Below w1.heap.size w1 w'->w'.cell? ⟨w.heap.size,0,none⟩=some (.int .i64 ph):=fun w' h=>(aB (HX.out _ (ah jM.out h))).1.1
 have q1:∀w',Below w1.heap.size w1 w'->w'.cell? ⟨w.heap.size,1,none⟩=some (.int .i64 cu):=fun w' h=>(aB (HX.out _ (ah jM.out h))).1.2.1
 have q2:∀w',Below w1.heap.size w1 w'->w'.cell? ⟨w.heap.size,2,none⟩=some (.slice a1 n1 c1):=fun w' h=>(aB (HX.out _ (ah jM.out h))).1.2.2.1
 have q3:∀w',Below w1.heap.size w1 w'->w'.cell? ⟨w.heap.size,3,none⟩=some (.slice a2 n2 c2):=fun w' h=>(aB (HX.out _ (ah jM.out h))).1.2.2.2.1
 have q4:∀w',Below w1.heap.size w1 w'->w'.cell? ⟨w.heap.size,4,none⟩=some (.slice a3 n3 c3):=fun w' h=>(aB (HX.out _ (ah jM.out h))).1.2.2.2.2.1
 have q5:∀w',Below w1.heap.size w1 w'->w'.cell? ⟨w.heap.size,5,none⟩=some (.slice a4 n4 c4):=fun w' h=>(aB (HX.out _ (ah jM.out h))).1.2.2.2.2.2
 have q6:∀w',Below w1.heap.size w1 w'->w'.cell? ⟨w.heap.size+1,0,none⟩=some (.int .i64 vk):=fun w' h=>(fA (HY.out _ (ah jM.out h))).1
 have q7:∀w',Below w1.heap.size w1 w'->w'.cell? ⟨w.heap.size+1,1,none⟩=some (.string vl):=fun w' h=>(fA (HY.out _ (ah jM.out h))).2.1
 have q8:∀w',Below w1.heap.size w1 w'->w'.cell? ⟨w.heap.size+1,2,none⟩=some (.int .i64 va):=fun w' h=>(fA (HY.out _ (ah jM.out h))).2.2.1
 have q9:∀w',Below w1.heap.size w1 w'->w'.cell? ⟨w.heap.size+1,3,none⟩=some (.int .i64 vo):=fun w' h=>(fA (HY.out _ (ah jM.out h))).2.2.2.1
 have q10:∀w',Below w1.heap.size w1 w'->w'.cell? ⟨w.heap.size+1,4,none⟩=some (.int .i64 vp):=fun w' h=>(fA (HY.out _ (ah jM.out h))).2.2.2.2.1
 have q11:∀w',Below w1.heap.size w1 w'->w'.cell? ⟨w.heap.size+1,5,none⟩=some (.int .i64 vx):=fun w' h=>(fA (HY.out _ (ah jM.out h))).2.2.2.2.2.1
 have q12:∀w',Below w1.heap.size w1 w'->w'.cell? ⟨w.heap.size+1,6,none⟩=some (.int .i64 vn):=fun w' h=>(fA (HY.out _ (ah jM.out h))).2.2.2.2.2.2.1
 refine Code.wp_mono (Q:=fun e a' w'=>e=Exit.normal/\∃(gg lo hi:Nat)(b1 b2 b3 b4:Option Addr)(d1 d2 d3 d4:Nat)(g1 g2 g3 g4:Option Addr)(k1 k2 k3 k4:Nat)(gI:List Value),a' = {tmps:=#[.agg #[.int .i64 ph,.int .i64 cu,.slice a1 n1 c1,.slice a2 n2 c2,.slice a3 n3 c3,.slice a4 n4 c4],.agg #[.int .i64 vk,.string vl,.int .i64 va,.int .i64 vo,.int .i64 vp,.int .i64 vx,.int .i64 vn],.pointer (some ⟨w.heap.size,0,none⟩),.pointer (some ⟨w.heap.size+1,0,none⟩),.bool false,.int .i64 zz,.pointer (some ⟨gg,0,none⟩),undef,undef,undef,undef,undef,undef,.agg #[.int .i64 ph,.int .i64 cu,.slice a1 n1 c1,.slice a2 n2 c2,.slice a3 n3 c3,.slice a4 n4 c4],.int .i64 1048576,.int .i64 z,.int .i64 z,.bool (decide (z<0)),.agg #[.int .i64 vk,.string vl,.int .i64 va,.int .i64 vo,.int .i64 vp,.int .i64 vx,.int .i64 vn],.int .i64 z,.int .i64 zz,.int .i64 zz,.bool (decide (zz<0)),.agg #[.int .i64 ph,.int .i64 cu,.slice a1 n1 c1,.slice a2 n2 c2,.slice a3 n3 c3,.slice a4 n4 c4],.agg #[.int .i64 ph,.int .i64 cu,.slice b1 n1 d1,.slice b2 n2 d2,.slice b3 n3 d3,.slice b4 n4 d4],.agg #[.int .i64 vk,.string vl,.int .i64 va,.int .i64 vo,.int .i64 vp,.int .i64 vx,.int .i64 vn],.agg #[.int .i64 vk,.string vl,.int .i64 va,.int .i64 vo,.int .i64 vp,.int .i64 vx,.int .i64 vn],.agg #[.int .i64 q,.int .i64 tp,.int .i64 tc,.slice g1 m1 k1,.slice g2 m2 k2,.slice g3 m3 k3,.slice g4 m4 k4],undef,undef,undef,undef,undef,undef,undef,undef,undef,undef,undef,undef,undef,undef,undef,undef,undef,undef,undef,undef,undef,undef,undef,undef,undef,undef,undef,undef,undef,undef,undef,undef,undef,undef,undef,undef,undef,undef,undef,undef,undef,undef,undef,undef,undef,undef,undef,undef,undef,undef,undef,undef,undef,undef],defers:=[]}/\Rg w1 w' gg lo hi (.int .i64 q) (.int .i64 tp) (.int .i64 tc) (.slice g1 m1 k1) (.slice g2 m2 k2) (.slice g3 m3 k3) (.slice g4 m4 k4) (sv g1 g2 g3 g4 m1 m2 m3 m4 k1 k2 k3 k4) gI t) ?tail ?reg
 case reg=>
  refine wp_region_held_drew (S:=fun w'=>Below w1.heap.size w1 w') (by kernel_rfl) ((Below.refl _ _).drew) (fun hHeld=> ?_)
  refine aK (i:=0) (d:=some 23) (v:= ?vr1) (by rfl) (by kernel_rfl) (by kernel_rfl) (by kernel_rfl) (fun _ _ _ h=>(by cases h.1)) (by rfl) ?aey hHeld ?agI
  case aey=>
   intro o ho
   simp only[aiF,aiG,aiI]at ho
   subst ho
   intro w' hSw
   first |(go_simp;done) |(go_simp;with_reducible rfl)
  try simp only[Act.put,aiC,aiD,aiE]
  refine aK (i:=2) (d:=some 25) (v:= ?vr2) (by rfl) (by kernel_rfl) (by kernel_rfl) (by kernel_rfl) (fun _ _ _ h=>(by cases h.1)) (by rfl) ?aez hHeld ?agJ
  case aez=>
   intro o ho
   simp only[aiF,aiH,aiG,aiI]at ho
   subst ho
   intro w' hSw
   first |(go_simp;done) |(go_simp;with_reducible rfl)
  try simp only[Act.put,aiC,aiD,aiE]
  refine wpAnyH_ready (rs:=[1,5]) (by kernel_rfl) (by simp) ?_
  refine AllReadyH.cons rfl (fun K hK=> ?_) (AllReadyH.cons rfl (fun K hK=> ?_) AllReadyH.nil)
  ·go_simp
   refine(HT.c _ (aC.out _ (ah jM.out hHeld))).mono ?_
   rintro e wq ⟨b1,b2,b3,b4,d1,d2,d3,d4,MP,rfl,h2⟩
   have hbq:=h2.below
   have o2:=h2.own
   have hq:=ah hHeld hbq
   clear h2
   try(have G:=G.below hbq)
   refine hK.out _ _ ?_ (fun hHeld=> ?_)
   ·exact hq
   clear hK K
   try simp only[Act.put,aiC,aiD,aiE]
   refine wpAnyH_ready (rs:=[3,5]) (by kernel_rfl) (by simp) ?_
   refine AllReadyH.cons rfl (fun K hK=> ?_) (AllReadyH.cons rfl (fun K hK=> ?_) AllReadyH.nil)
   ·go_simp
    refine(hTR _).mono ?_
    rintro e wq ⟨rfl,hbq⟩
    have hq:=ah hHeld hbq
    try(have G:=G.below hbq)
    have o2:=o2.below hbq
    refine hK.out _ _ ?_ (fun hHeld=> ?_)
    ·exact hq
    clear hK K
    try simp only[Act.put,aiC,aiD,aiE]
    refine wpAnyH_ready (rs:=[4,5]) (by kernel_rfl) (by simp) ?_
    refine AllReadyH.cons rfl (fun K hK=> ?_) (AllReadyH.cons rfl (fun K hK=> ?_) AllReadyH.nil)
    ·go_simp
     have hlo:=hHeld.size
     try(have hg2:=G.lt)
     refine(HS.c _ _ _ b1 b2 b3 b4 d1 d2 d3 d4 MP o2).mono ?_
     rintro e wq ⟨g1,g2,g3,g4,k1,k2,k3,k4,gI,rfl,hbq,o3⟩
     have hlh:=hbq.size
     have hq:=ah hHeld hbq
     have hhi:=Nat.le_refl wq.heap.size
     try(have G:=G.below hbq)
     refine hK.out _ _ ?_ (fun hHeld=> ?_)
     ·exact hq
     clear hK K
     try simp only[Act.put,aiC,aiD,aiE]
     refine wpAnyH_ready (rs:=[5]) (by kernel_rfl) (by simp) ?_
     refine AllReadyH.cons rfl (fun K hK=> ?_) AllReadyH.nil
     ·go_simp
      first |(have G:=ZB.new wq;have hgg:=hq.size) |(have G:=(ZB.new w1).drew;have hgg:=Nat.le_refl w1.heap.size)
      try(have i3:=o3;have iq:=hq)
      try(have o2:=o2.below (aj aiJ))
      refine hK.out _ _ ?_ (fun hHeld=> ?_)
      ·exact ah hHeld (aj _)
      clear hK K
      try simp only[Act.put,aiC,aiD,aiE]
      have hlast:=hHeld
      obtain⟨⟨x0,x1,x2,x3,x4,x5,x6⟩,u0,u1,u2,u3,u4,u5,u6⟩:=aA G.c
      refine wpAnyH_ready (rs:=[6]) (by kernel_rfl) (by simp) ?_
      refine AllReadyH.cons rfl (fun K hK=> ?_) AllReadyH.nil
      go_simp
      refine hK.out _ _ ?_ (fun hHeld=> ?_)
      ·first | with_reducible exact eu hHeld hgg _ _ _ _ _ _ _ | with_reducible exact ah hq (aj _)
      clear hK K
      try simp only[Act.put,aiC,aiD,aiE]
      refine wpAnyH_done (by kernel_rfl) ?_ _
      first
       |(have HG:=Rg.put (.int .i64 q) (.int .i64 tp) (.int .i64 tc) (.slice g1 m1 k1) (.slice g2 m2 k2) (.slice g3 m3 k3) (.slice g4 m4 k4) G o3 (Or.inl hg2) hlo hlh hgg hhi hlast;exact⟨rfl,_,_,_,b1,b2,b3,b4,d1,d2,d3,d4,g1,g2,g3,g4,k1,k2,k3,k4,gI,rfl,HG⟩)
       |(have HG:=Rg.fresh (.int .i64 q) (.int .i64 tp) (.int .i64 tc) (.slice g1 m1 k1) (.slice g2 m2 k2) (.slice g3 m3 k3) (.slice g4 m4 k4) i3 hlo hlh hhi iq;exact⟨rfl,_,_,_,b1,b2,b3,b4,d1,d2,d3,d4,g1,g2,g3,g4,k1,k2,k3,k4,gI,rfl,HG⟩)
    ·go_simp
     first |(have G:=ZB.new wq;have hgg:=hq.size) |(have G:=(ZB.new w1).drew;have hgg:=Nat.le_refl w1.heap.size)
     try(have i3:=o3;have iq:=hq)
     try(have o2:=o2.below (aj aiJ))
     refine hK.out _ _ ?_ (fun hHeld=> ?_)
     ·exact ah hHeld (aj _)
     clear hK K
     try simp only[Act.put,aiC,aiD,aiE]
     refine wpAnyH_ready (rs:=[4]) (by kernel_rfl) (by simp) ?_
     refine AllReadyH.cons rfl (fun K hK=> ?_) AllReadyH.nil
     ·go_simp
      have hlo:=hHeld.size
      try(have hg2:=G.lt)
      refine(HS.c _ _ _ b1 b2 b3 b4 d1 d2 d3 d4 MP o2).mono ?_
      rintro e wq ⟨g1,g2,g3,g4,k1,k2,k3,k4,gI,rfl,hbq,o3⟩
      have hlh:=hbq.size
      have hq:=ah hHeld hbq
      have hhi:=Nat.le_refl wq.heap.size
      try(have G:=G.below hbq)
      refine hK.out _ _ ?_ (fun hHeld=> ?_)
      ·exact hq
      clear hK K
      try simp only[Act.put,aiC,aiD,aiE]
      have hlast:=hHeld
      obtain⟨⟨x0,x1,x2,x3,x4,x5,x6⟩,u0,u1,u2,u3,u4,u5,u6⟩:=aA G.c
      refine wpAnyH_ready (rs:=[6]) (by kernel_rfl) (by simp) ?_
      refine AllReadyH.cons rfl (fun K hK=> ?_) AllReadyH.nil
      go_simp
      refine hK.out _ _ ?_ (fun hHeld=> ?_)
      ·first | with_reducible exact eu hHeld hgg _ _ _ _ _ _ _ | with_reducible exact ah hq (aj _)
      clear hK K
      try simp only[Act.put,aiC,aiD,aiE]
      refine wpAnyH_done (by kernel_rfl) ?_ _
      first
       |(have HG:=Rg.put (.int .i64 q) (.int .i64 tp) (.int .i64 tc) (.slice g1 m1 k1) (.slice g2 m2 k2) (.slice g3 m3 k3) (.slice g4 m4 k4) G o3 (Or.inl hg2) hlo hlh hgg hhi hlast;exact⟨rfl,_,_,_,b1,b2,b3,b4,d1,d2,d3,d4,g1,g2,g3,g4,k1,k2,k3,k4,gI,rfl,HG⟩)
       |(have HG:=Rg.fresh (.int .i64 q) (.int .i64 tp) (.int .i64 tc) (.slice g1 m1 k1) (.slice g2 m2 k2) (.slice g3 m3 k3) (.slice g4 m4 k4) i3 hlo hlh hhi iq;exact⟨rfl,_,_,_,b1,b2,b3,b4,d1,d2,d3,d4,g1,g2,g3,g4,k1,k2,k3,k4,gI,rfl,HG⟩)
   ·go_simp
    first |(have G:=ZB.new wq;have hgg:=hq.size) |(have G:=(ZB.new w1).drew;have hgg:=Nat.le_refl w1.heap.size)
    try(have i3:=o3;have iq:=hq)
    try(have o2:=o2.below (aj aiJ))
    refine hK.out _ _ ?_ (fun hHeld=> ?_)
    ·exact ah hHeld (aj _)
    clear hK K
    try simp only[Act.put,aiC,aiD,aiE]
    refine wpAnyH_ready (rs:=[3]) (by kernel_rfl) (by simp) ?_
    refine AllReadyH.cons rfl (fun K hK=> ?_) AllReadyH.nil
    ·go_simp
     refine(hTR _).mono ?_
     rintro e wq ⟨rfl,hbq⟩
     have hq:=ah hHeld hbq
     try(have G:=G.below hbq)
     have o2:=o2.below hbq
     refine hK.out _ _ ?_ (fun hHeld=> ?_)
     ·exact hq
     clear hK K
     try simp only[Act.put,aiC,aiD,aiE]
     refine wpAnyH_ready (rs:=[4]) (by kernel_rfl) (by simp) ?_
     refine AllReadyH.cons rfl (fun K hK=> ?_) AllReadyH.nil
     ·go_simp
      have hlo:=hHeld.size
      try(have hg2:=G.lt)
      refine(HS.c _ _ _ b1 b2 b3 b4 d1 d2 d3 d4 MP o2).mono ?_
      rintro e wq ⟨g1,g2,g3,g4,k1,k2,k3,k4,gI,rfl,hbq,o3⟩
      have hlh:=hbq.size
      have hq:=ah hHeld hbq
      have hhi:=Nat.le_refl wq.heap.size
      try(have G:=G.below hbq)
      refine hK.out _ _ ?_ (fun hHeld=> ?_)
      ·exact hq
      clear hK K
      try simp only[Act.put,aiC,aiD,aiE]
      have hlast:=hHeld
      obtain⟨⟨x0,x1,x2,x3,x4,x5,x6⟩,u0,u1,u2,u3,u4,u5,u6⟩:=aA G.c
      refine wpAnyH_ready (rs:=[6]) (by kernel_rfl) (by simp) ?_
      refine AllReadyH.cons rfl (fun K hK=> ?_) AllReadyH.nil
      go_simp
      refine hK.out _ _ ?_ (fun hHeld=> ?_)
      ·first | with_reducible exact eu hHeld hgg _ _ _ _ _ _ _ | with_reducible exact ah hq (aj _)
      clear hK K
      try simp only[Act.put,aiC,aiD,aiE]
      refine wpAnyH_done (by kernel_rfl) ?_ _
      first
       |(have HG:=Rg.put (.int .i64 q) (.int .i64 tp) (.int .i64 tc) (.slice g1 m1 k1) (.slice g2 m2 k2) (.slice g3 m3 k3) (.slice g4 m4 k4) G o3 (Or.inl hg2) hlo hlh hgg hhi hlast;exact⟨rfl,_,_,_,b1,b2,b3,b4,d1,d2,d3,d4,g1,g2,g3,g4,k1,k2,k3,k4,gI,rfl,HG⟩)
       |(have HG:=Rg.fresh (.int .i64 q) (.int .i64 tp) (.int .i64 tc) (.slice g1 m1 k1) (.slice g2 m2 k2) (.slice g3 m3 k3) (.slice g4 m4 k4) i3 hlo hlh hhi iq;exact⟨rfl,_,_,_,b1,b2,b3,b4,d1,d2,d3,d4,g1,g2,g3,g4,k1,k2,k3,k4,gI,rfl,HG⟩)
  ·go_simp
   first |(have G:=ZB.new wq;have hgg:=hq.size) |(have G:=(ZB.new w1).drew;have hgg:=Nat.le_refl w1.heap.size)
   try(have i3:=o3;have iq:=hq)
   try(have o2:=o2.below (aj aiJ))
   refine hK.out _ _ ?_ (fun hHeld=> ?_)
   ·exact ah hHeld (aj _)
   clear hK K
   try simp only[Act.put,aiC,aiD,aiE]
   refine wpAnyH_ready (rs:=[1]) (by kernel_rfl) (by simp) ?_
   refine AllReadyH.cons rfl (fun K hK=> ?_) AllReadyH.nil
   ·go_simp
    refine(HT.c _ (aC.out _ (ah jM.out hHeld))).mono ?_
    rintro e wq ⟨b1,b2,b3,b4,d1,d2,d3,d4,MP,rfl,h2⟩
    have hbq:=h2.below
    have o2:=h2.own
    have hq:=ah hHeld hbq
    clear h2
    try(have G:=G.below hbq)
    refine hK.out _ _ ?_ (fun hHeld=> ?_)
    ·exact hq
    clear hK K
    try simp only[Act.put,aiC,aiD,aiE]
    refine wpAnyH_ready (rs:=[3]) (by kernel_rfl) (by simp) ?_
    refine AllReadyH.cons rfl (fun K hK=> ?_) AllReadyH.nil
    ·go_simp
     refine(hTR _).mono ?_
     rintro e wq ⟨rfl,hbq⟩
     have hq:=ah hHeld hbq
     try(have G:=G.below hbq)
     have o2:=o2.below hbq
     refine hK.out _ _ ?_ (fun hHeld=> ?_)
     ·exact hq
     clear hK K
     try simp only[Act.put,aiC,aiD,aiE]
     refine wpAnyH_ready (rs:=[4]) (by kernel_rfl) (by simp) ?_
     refine AllReadyH.cons rfl (fun K hK=> ?_) AllReadyH.nil
     ·go_simp
      have hlo:=hHeld.size
      try(have hg2:=G.lt)
      refine(HS.c _ _ _ b1 b2 b3 b4 d1 d2 d3 d4 MP o2).mono ?_
      rintro e wq ⟨g1,g2,g3,g4,k1,k2,k3,k4,gI,rfl,hbq,o3⟩
      have hlh:=hbq.size
      have hq:=ah hHeld hbq
      have hhi:=Nat.le_refl wq.heap.size
      try(have G:=G.below hbq)
      refine hK.out _ _ ?_ (fun hHeld=> ?_)
      ·exact hq
      clear hK K
      try simp only[Act.put,aiC,aiD,aiE]
      have hlast:=hHeld
      obtain⟨⟨x0,x1,x2,x3,x4,x5,x6⟩,u0,u1,u2,u3,u4,u5,u6⟩:=aA G.c
      refine wpAnyH_ready (rs:=[6]) (by kernel_rfl) (by simp) ?_
      refine AllReadyH.cons rfl (fun K hK=> ?_) AllReadyH.nil
      go_simp
      refine hK.out _ _ ?_ (fun hHeld=> ?_)
      ·first | with_reducible exact eu hHeld hgg _ _ _ _ _ _ _ | with_reducible exact ah hq (aj _)
      clear hK K
      try simp only[Act.put,aiC,aiD,aiE]
      refine wpAnyH_done (by kernel_rfl) ?_ _
      first
       |(have HG:=Rg.put (.int .i64 q) (.int .i64 tp) (.int .i64 tc) (.slice g1 m1 k1) (.slice g2 m2 k2) (.slice g3 m3 k3) (.slice g4 m4 k4) G o3 (Or.inl hg2) hlo hlh hgg hhi hlast;exact⟨rfl,_,_,_,b1,b2,b3,b4,d1,d2,d3,d4,g1,g2,g3,g4,k1,k2,k3,k4,gI,rfl,HG⟩)
       |(have HG:=Rg.fresh (.int .i64 q) (.int .i64 tp) (.int .i64 tc) (.slice g1 m1 k1) (.slice g2 m2 k2) (.slice g3 m3 k3) (.slice g4 m4 k4) i3 hlo hlh hhi iq;exact⟨rfl,_,_,_,b1,b2,b3,b4,d1,d2,d3,d4,g1,g2,g3,g4,k1,k2,k3,k4,gI,rfl,HG⟩)
 rintro _ _ W3 ⟨rfl,OI,lo3,hi3,b1,b2,b3,b4,d1,d2,d3,d4,p1,p2,p3,p4,r1,r2,r3,r4,gI,rfl,G3⟩
 dsimp only
 have hbr:Below W.heap.size W W3:=ah HR1.out G3.bel
 have hP3:=G3.c
 have o3:=G3.own
 have hl3:OI<W3.heap.size:=G3.lt
 have hh3:hi3<=W3.heap.size:=G3.h1
 have adW:w1.heap.size<=W3.heap.size:=G3.bel.size
 have adX:W.heap.size<=w1.heap.size:=HR1.out.size
 clear HS q0 q1 q2 q3 q4 q5 q6 q7 q8 q9 q10 q11 q12 G3 jM HR1
 obtain⟨⟨x0,x1,x2,x3,x4,x5⟩,-⟩:=aB (HX.out _ hbr)
 go_wp2_with fail
 refine(HT.c _ (aC.out _ hbr)).mono ?_
 rintro e w4 ⟨e1,e2,e3,e4,f1,f2,f3,f4,us4,rfl,h4⟩
 clear x0 x1 x2 x3 x4 x5
 obtain⟨W5,xB⟩:∃W5,W5=w4.alloc (.cells #[.int .i64 ph,.int .i64 cu,.slice e1 n1 f1,.slice e2 n2 f2,.slice e3 n3 f3,.slice e4 n4 f4] 41):=⟨_,rfl⟩
 have SV:Hid _:=xB.symm
 have OW:W5.heap[w4.heap.size]? = some (.cells #[.int .i64 ph,.int .i64 cu,.slice e1 n1 f1,.slice e2 n2 f2,.slice e3 n3 f3,.slice e4 n4 f4] 41):=by rw[xB];exact heap_alloc_new w4 _
 have hb5:Below w4.heap.size w4 W5:=by rw[xB];exact aj _
 have Qv:Below W3.heap.size W3 W5:=ah h4.below hb5
 have o4:=h4.own.below hb5
 have o3:=o3.below Qv
 have hP3:=(Qv.block _ hl3).trans hP3
 have hbr:Below W.heap.size W W5:=ah hbr Qv
 have hl5:w4.heap.size<W5.heap.size:=(Array.getElem?_eq_some_iff.1 OW).1
 have hl4:W3.heap.size<=w4.heap.size:=h4.below.size
 have kF:Hid (Below W.heap.size W W5):=hbr
 have HP3:Hid (W5.heap[OI]? = some (.cells #[.int .i64 q,.int .i64 tp,.int .i64 tc,.slice p1 m1 r1,.slice p2 m2 r2,.slice p3 m3 r3,.slice p4 m4 r4] 43)):=hP3
 have Gg:Hid (W5.heap[w4.heap.size]? = some (.cells #[.int .i64 ph,.int .i64 cu,.slice e1 n1 f1,.slice e2 n2 f2,.slice e3 n3 f3,.slice e4 n4 f4] 41)):=OW
 have tX:Hid (∀w',Below W5.heap.size W5 w'->Sts w' (sv e1 e2 e3 e4 n1 n2 n3 n4 f1 f2 f3 f4) s):=fun w' hb=>(o4.below hb).sts
 have vF:Hid (w4.heap.size<W5.heap.size):=hl5
 clear h4 hb5 Qv xB hP3 OW hbr hl5
 go_wp2_with fail
 rw[SV.out]
 clear SV
 have q0:∀w',Below W5.heap.size W5 w'->w'.cell? ⟨w.heap.size,0,none⟩=some (.int .i64 ph):=fun w' h=>(aB (HX.out _ (ah kF.out h))).1.1
 have q1:∀w',Below W5.heap.size W5 w'->w'.cell? ⟨w.heap.size,1,none⟩=some (.int .i64 cu):=fun w' h=>(aB (HX.out _ (ah kF.out h))).1.2.1
 have q2:∀w',Below W5.heap.size W5 w'->w'.cell? ⟨w.heap.size,2,none⟩=some (.slice a1 n1 c1):=fun w' h=>(aB (HX.out _ (ah kF.out h))).1.2.2.1
 have q3:∀w',Below W5.heap.size W5 w'->w'.cell? ⟨w.heap.size,3,none⟩=some (.slice a2 n2 c2):=fun w' h=>(aB (HX.out _ (ah kF.out h))).1.2.2.2.1
 have q4:∀w',Below W5.heap.size W5 w'->w'.cell? ⟨w.heap.size,4,none⟩=some (.slice a3 n3 c3):=fun w' h=>(aB (HX.out _ (ah kF.out h))).1.2.2.2.2.1
 have q5:∀w',Below W5.heap.size W5 w'->w'.cell? ⟨w.heap.size,5,none⟩=some (.slice a4 n4 c4):=fun w' h=>(aB (HX.out _ (ah kF.out h))).1.2.2.2.2.2
 have q6:∀w',Below W5.heap.size W5 w'->w'.cell? ⟨w.heap.size+1,0,none⟩=some (.int .i64 vk):=fun w' h=>(fA (HY.out _ (ah kF.out h))).1
 have q7:∀w',Below W5.heap.size W5 w'->w'.cell? ⟨w.heap.size+1,1,none⟩=some (.string vl):=fun w' h=>(fA (HY.out _ (ah kF.out h))).2.1
 have q8:∀w',Below W5.heap.size W5 w'->w'.cell? ⟨w.heap.size+1,2,none⟩=some (.int .i64 va):=fun w' h=>(fA (HY.out _ (ah kF.out h))).2.2.1
 have q9:∀w',Below W5.heap.size W5 w'->w'.cell? ⟨w.heap.size+1,3,none⟩=some (.int .i64 vo):=fun w' h=>(fA (HY.out _ (ah kF.out h))).2.2.2.1
 have q10:∀w',Below W5.heap.size W5 w'->w'.cell? ⟨w.heap.size+1,4,none⟩=some (.int .i64 vp):=fun w' h=>(fA (HY.out _ (ah kF.out h))).2.2.2.2.1
 have q11:∀w',Below W5.heap.size W5 w'->w'.cell? ⟨w.heap.size+1,5,none⟩=some (.int .i64 vx):=fun w' h=>(fA (HY.out _ (ah kF.out h))).2.2.2.2.2.1
 have q12:∀w',Below W5.heap.size W5 w'->w'.cell? ⟨w.heap.size+1,6,none⟩=some (.int .i64 vn):=fun w' h=>(fA (HY.out _ (ah kF.out h))).2.2.2.2.2.2.1
 have q13:∀w',Below W5.heap.size W5 w'->w'.cell? ⟨w4.heap.size,0,none⟩=some (.int .i64 ph):=fun w' h=>(aB ((h.block _ vF.out).trans Gg.out)).1.1
 have q14:∀w',Below W5.heap.size W5 w'->w'.cell? ⟨w4.heap.size,1,none⟩=some (.int .i64 cu):=fun w' h=>(aB ((h.block _ vF.out).trans Gg.out)).1.2.1
 have q15:∀w',Below W5.heap.size W5 w'->w'.cell? ⟨w4.heap.size,2,none⟩=some (.slice e1 n1 f1):=fun w' h=>(aB ((h.block _ vF.out).trans Gg.out)).1.2.2.1
 have q16:∀w',Below W5.heap.size W5 w'->w'.cell? ⟨w4.heap.size,3,none⟩=some (.slice e2 n2 f2):=fun w' h=>(aB ((h.block _ vF.out).trans Gg.out)).1.2.2.2.1
 have q17:∀w',Below W5.heap.size W5 w'->w'.cell? ⟨w4.heap.size,4,none⟩=some (.slice e3 n3 f3):=fun w' h=>(aB ((h.block _ vF.out).trans Gg.out)).1.2.2.2.2.1
 have q18:∀w',Below W5.heap.size W5 w'->w'.cell? ⟨w4.heap.size,5,none⟩=some (.slice e4 n4 f4):=fun w' h=>(aB ((h.block _ vF.out).trans Gg.out)).1.2.2.2.2.2
 refine Code.wp_mono (Q:=fun e a' w'=>e=Exit.normal/\∃(gg lo hi:Nat)(g1 g2 g3 g4:Option Addr)(k1 k2 k3 k4:Nat)(gI:List Value),a' = {tmps:=#[.agg #[.int .i64 ph,.int .i64 cu,.slice a1 n1 c1,.slice a2 n2 c2,.slice a3 n3 c3,.slice a4 n4 c4],.agg #[.int .i64 vk,.string vl,.int .i64 va,.int .i64 vo,.int .i64 vp,.int .i64 vx,.int .i64 vn],.pointer (some ⟨w.heap.size,0,none⟩),.pointer (some ⟨w.heap.size+1,0,none⟩),.bool false,.int .i64 zz,.pointer (some ⟨OI,0,none⟩),.pointer (some ⟨w4.heap.size,0,none⟩),.pointer (some ⟨gg,0,none⟩),undef,undef,undef,undef,.agg #[.int .i64 ph,.int .i64 cu,.slice a1 n1 c1,.slice a2 n2 c2,.slice a3 n3 c3,.slice a4 n4 c4],.int .i64 1048576,.int .i64 z,.int .i64 z,.bool (decide (z<0)),.agg #[.int .i64 vk,.string vl,.int .i64 va,.int .i64 vo,.int .i64 vp,.int .i64 vx,.int .i64 vn],.int .i64 z,.int .i64 zz,.int .i64 zz,.bool (decide (zz<0)),.agg #[.int .i64 ph,.int .i64 cu,.slice a1 n1 c1,.slice a2 n2 c2,.slice a3 n3 c3,.slice a4 n4 c4],.agg #[.int .i64 ph,.int .i64 cu,.slice b1 n1 d1,.slice b2 n2 d2,.slice b3 n3 d3,.slice b4 n4 d4],.agg #[.int .i64 vk,.string vl,.int .i64 va,.int .i64 vo,.int .i64 vp,.int .i64 vx,.int .i64 vn],.agg #[.int .i64 vk,.string vl,.int .i64 va,.int .i64 vo,.int .i64 vp,.int .i64 vx,.int .i64 vn],.agg #[.int .i64 q,.int .i64 tp,.int .i64 tc,.slice p1 m1 r1,.slice p2 m2 r2,.slice p3 m3 r3,.slice p4 m4 r4],.agg #[.int .i64 ph,.int .i64 cu,.slice a1 n1 c1,.slice a2 n2 c2,.slice a3 n3 c3,.slice a4 n4 c4],.agg #[.int .i64 ph,.int .i64 cu,.slice e1 n1 f1,.slice e2 n2 f2,.slice e3 n3 f3,.slice e4 n4 f4],.agg #[.int .i64 ph,.int .i64 cu,.slice e1 n1 f1,.slice e2 n2 f2,.slice e3 n3 f3,.slice e4 n4 f4],.agg #[.int .i64 vk,.string vl,.int .i64 va,.int .i64 vo,.int .i64 vp,.int .i64 vx,.int .i64 vn],.agg #[.int .i64 vk,.string vl,.int .i64 va,.int .i64 vo,.int .i64 vp,.int .i64 vx,.int .i64 vn],.agg #[.int .i64 q,.int .i64 tp,.int .i64 tc,.slice g1 m1 k1,.slice g2 m2 k2,.slice g3 m3 k3,.slice g4 m4 k4],undef,undef,undef,undef,undef,undef,undef,undef,undef,undef,undef,undef,undef,undef,undef,undef,undef,undef,undef,undef,undef,undef,undef,undef,undef,undef,undef,undef,undef,undef,undef,undef,undef,undef,undef,undef,undef,undef,undef,undef,undef,undef,undef,undef,undef,undef,undef,undef],defers:=[]}/\Rg W5 w' gg lo hi (.int .i64 q) (.int .i64 tp) (.int .i64 tc) (.slice g1 m1 k1) (.slice g2 m2 k2) (.slice g3 m3 k3) (.slice g4 m4 k4) (sv g1 g2 g3 g4 m1 m2 m3 m4 k1 k2 k3 k4) gI t) ?ag6 ?aeK
 case aeK=>
  refine wp_region_held_drew (S:=fun w'=>Below W5.heap.size W5 w') (by kernel_rfl) ((Below.refl _ _).drew) (fun hHeld=> ?_)
  refine aK (i:=0) (d:=some 30) (v:= ?vt1) (by rfl) (by kernel_rfl) (by kernel_rfl) (by kernel_rfl) (fun _ _ _ h=>(by cases h.1)) (by rfl) ?aeC hHeld ?agM
  case aeC=>
   intro o ho
   simp only[aiF,aiG,aiI]at ho
   subst ho
   intro w' hSw
   first |(go_simp;done) |(go_simp;with_reducible rfl)
  try simp only[Act.put,aiC,aiD,aiE]
  refine aK (i:=1) (d:=some 31) (v:= ?vt2) (by rfl) (by kernel_rfl) (by kernel_rfl) (by kernel_rfl) (fun _ _ _ h=>(by cases h.1)) (by rfl) ?aeD hHeld ?agN
  case aeD=>
   intro o ho
   simp only[aiF,aiH,aiG,aiI]at ho
   subst ho
   intro w' hSw
   first |(go_simp;done) |(go_simp;with_reducible rfl)
  try simp only[Act.put,aiC,aiD,aiE]
  refine wpAnyH_ready (rs:=[2,4]) (by kernel_rfl) (by simp) ?_
  refine AllReadyH.cons rfl (fun K hK=> ?_) (AllReadyH.cons rfl (fun K hK=> ?_) AllReadyH.nil)
  ·go_simp
   refine(hTR _).mono ?_
   rintro e wq ⟨rfl,hbq⟩
   have hq:=ah hHeld hbq
   try(have G:=G.below hbq)
   refine hK.out _ _ ?_ (fun hHeld=> ?_)
   ·exact hq
   clear hK K
   try simp only[Act.put,aiC,aiD,aiE]
   refine wpAnyH_ready (rs:=[3,4]) (by kernel_rfl) (by simp) ?_
   refine AllReadyH.cons rfl (fun K hK=> ?_) (AllReadyH.cons rfl (fun K hK=> ?_) AllReadyH.nil)
   ·go_simp
    have hlo:=hHeld.size
    try(have hg2:=G.lt)
    refine(HI.c _ e1 e2 e3 e4 f1 f2 f3 f4 (tX.out _ hHeld)).mono ?_
    rintro e wq ⟨g1,g2,g3,g4,k1,k2,k3,k4,gI,rfl,hbq,o3⟩
    have hlh:=hbq.size
    have hq:=ah hHeld hbq
    have hhi:=Nat.le_refl wq.heap.size
    try(have G:=G.below hbq)
    refine hK.out _ _ ?_ (fun hHeld=> ?_)
    ·exact hq
    clear hK K
    try simp only[Act.put,aiC,aiD,aiE]
    refine wpAnyH_ready (rs:=[4]) (by kernel_rfl) (by simp) ?_
    refine AllReadyH.cons rfl (fun K hK=> ?_) AllReadyH.nil
    ·go_simp
     first |(have G:=ZB.new wq;have hgg:=hq.size) |(have G:=(ZB.new W5).drew;have hgg:=Nat.le_refl W5.heap.size)
     try(have i3:=o3;have iq:=hq)
     try(have o2:=o2.below (aj aiJ))
     refine hK.out _ _ ?_ (fun hHeld=> ?_)
     ·exact ah hHeld (aj _)
     clear hK K
     try simp only[Act.put,aiC,aiD,aiE]
     have hlast:=hHeld
     obtain⟨⟨x0,x1,x2,x3,x4,x5,x6⟩,u0,u1,u2,u3,u4,u5,u6⟩:=aA G.c
     refine wpAnyH_ready (rs:=[5]) (by kernel_rfl) (by simp) ?_
     refine AllReadyH.cons rfl (fun K hK=> ?_) AllReadyH.nil
     go_simp
     refine hK.out _ _ ?_ (fun hHeld=> ?_)
     ·first | with_reducible exact eu hHeld hgg _ _ _ _ _ _ _ | with_reducible exact ah hq (aj _)
     clear hK K
     try simp only[Act.put,aiC,aiD,aiE]
     refine wpAnyH_done (by kernel_rfl) ?_ _
     first
      |(have HG:=Rg.put (.int .i64 q) (.int .i64 tp) (.int .i64 tc) (.slice g1 m1 k1) (.slice g2 m2 k2) (.slice g3 m3 k3) (.slice g4 m4 k4) G o3 (Or.inl hg2) hlo hlh hgg hhi hlast;exact⟨rfl,_,_,_,g1,g2,g3,g4,k1,k2,k3,k4,gI,rfl,HG⟩)
      |(have HG:=Rg.fresh (.int .i64 q) (.int .i64 tp) (.int .i64 tc) (.slice g1 m1 k1) (.slice g2 m2 k2) (.slice g3 m3 k3) (.slice g4 m4 k4) i3 hlo hlh hhi iq;exact⟨rfl,_,_,_,g1,g2,g3,g4,k1,k2,k3,k4,gI,rfl,HG⟩)
   ·go_simp
    first |(have G:=ZB.new wq;have hgg:=hq.size) |(have G:=(ZB.new W5).drew;have hgg:=Nat.le_refl W5.heap.size)
    try(have i3:=o3;have iq:=hq)
    try(have o2:=o2.below (aj aiJ))
    refine hK.out _ _ ?_ (fun hHeld=> ?_)
    ·exact ah hHeld (aj _)
    clear hK K
    try simp only[Act.put,aiC,aiD,aiE]
    refine wpAnyH_ready (rs:=[3]) (by kernel_rfl) (by simp) ?_
    refine AllReadyH.cons rfl (fun K hK=> ?_) AllReadyH.nil
    ·go_simp
     have hlo:=hHeld.size
     try(have hg2:=G.lt)
     refine(HI.c _ e1 e2 e3 e4 f1 f2 f3 f4 (tX.out _ hHeld)).mono ?_
     rintro e wq ⟨g1,g2,g3,g4,k1,k2,k3,k4,gI,rfl,hbq,o3⟩
     have hlh:=hbq.size
     have hq:=ah hHeld hbq
     have hhi:=Nat.le_refl wq.heap.size
     try(have G:=G.below hbq)
     refine hK.out _ _ ?_ (fun hHeld=> ?_)
     ·exact hq
     clear hK K
     try simp only[Act.put,aiC,aiD,aiE]
     have hlast:=hHeld
     obtain⟨⟨x0,x1,x2,x3,x4,x5,x6⟩,u0,u1,u2,u3,u4,u5,u6⟩:=aA G.c
     refine wpAnyH_ready (rs:=[5]) (by kernel_rfl) (by simp) ?_
     refine AllReadyH.cons rfl (fun K hK=> ?_) AllReadyH.nil
     go_simp
     refine hK.out _ _ ?_ (fun hHeld=> ?_)
     ·first | with_reducible exact eu hHeld hgg _ _ _ _ _ _ _ | with_reducible exact ah hq (aj _)
     clear hK K
     try simp only[Act.put,aiC,aiD,aiE]
     refine wpAnyH_done (by kernel_rfl) ?_ _
     first
      |(have HG:=Rg.put (.int .i64 q) (.int .i64 tp) (.int .i64 tc) (.slice g1 m1 k1) (.slice g2 m2 k2) (.slice g3 m3 k3) (.slice g4 m4 k4) G o3 (Or.inl hg2) hlo hlh hgg hhi hlast;exact⟨rfl,_,_,_,g1,g2,g3,g4,k1,k2,k3,k4,gI,rfl,HG⟩)
      |(have HG:=Rg.fresh (.int .i64 q) (.int .i64 tp) (.int .i64 tc) (.slice g1 m1 k1) (.slice g2 m2 k2) (.slice g3 m3 k3) (.slice g4 m4 k4) i3 hlo hlh hhi iq;exact⟨rfl,_,_,_,g1,g2,g3,g4,k1,k2,k3,k4,gI,rfl,HG⟩)
  ·go_simp
   first |(have G:=ZB.new wq;have hgg:=hq.size) |(have G:=(ZB.new W5).drew;have hgg:=Nat.le_refl W5.heap.size)
   try(have i3:=o3;have iq:=hq)
   try(have o2:=o2.below (aj aiJ))
   refine hK.out _ _ ?_ (fun hHeld=> ?_)
   ·exact ah hHeld (aj _)
   clear hK K
   try simp only[Act.put,aiC,aiD,aiE]
   refine wpAnyH_ready (rs:=[2]) (by kernel_rfl) (by simp) ?_
   refine AllReadyH.cons rfl (fun K hK=> ?_) AllReadyH.nil
   ·go_simp
    refine(hTR _).mono ?_
    rintro e wq ⟨rfl,hbq⟩
    have hq:=ah hHeld hbq
    try(have G:=G.below hbq)
    refine hK.out _ _ ?_ (fun hHeld=> ?_)
    ·exact hq
    clear hK K
    try simp only[Act.put,aiC,aiD,aiE]
    refine wpAnyH_ready (rs:=[3]) (by kernel_rfl) (by simp) ?_
    refine AllReadyH.cons rfl (fun K hK=> ?_) AllReadyH.nil
    ·go_simp
     have hlo:=hHeld.size
     try(have hg2:=G.lt)
     refine(HI.c _ e1 e2 e3 e4 f1 f2 f3 f4 (tX.out _ hHeld)).mono ?_
     rintro e wq ⟨g1,g2,g3,g4,k1,k2,k3,k4,gI,rfl,hbq,o3⟩
     have hlh:=hbq.size
     have hq:=ah hHeld hbq
     have hhi:=Nat.le_refl wq.heap.size
     try(have G:=G.below hbq)
     refine hK.out _ _ ?_ (fun hHeld=> ?_)
     ·exact hq
     clear hK K
     try simp only[Act.put,aiC,aiD,aiE]
     have hlast:=hHeld
     obtain⟨⟨x0,x1,x2,x3,x4,x5,x6⟩,u0,u1,u2,u3,u4,u5,u6⟩:=aA G.c
     refine wpAnyH_ready (rs:=[5]) (by kernel_rfl) (by simp) ?_
     refine AllReadyH.cons rfl (fun K hK=> ?_) AllReadyH.nil
     go_simp
     refine hK.out _ _ ?_ (fun hHeld=> ?_)
     ·first | with_reducible exact eu hHeld hgg _ _ _ _ _ _ _ | with_reducible exact ah hq (aj _)
     clear hK K
     try simp only[Act.put,aiC,aiD,aiE]
     refine wpAnyH_done (by kernel_rfl) ?_ _
     first
      |(have HG:=Rg.put (.int .i64 q) (.int .i64 tp) (.int .i64 tc) (.slice g1 m1 k1) (.slice g2 m2 k2) (.slice g3 m3 k3) (.slice g4 m4 k4) G o3 (Or.inl hg2) hlo hlh hgg hhi hlast;exact⟨rfl,_,_,_,g1,g2,g3,g4,k1,k2,k3,k4,gI,rfl,HG⟩)
      |(have HG:=Rg.fresh (.int .i64 q) (.int .i64 tp) (.int .i64 tc) (.slice g1 m1 k1) (.slice g2 m2 k2) (.slice g3 m3 k3) (.slice g4 m4 k4) i3 hlo hlh hhi iq;exact⟨rfl,_,_,_,g1,g2,g3,g4,k1,k2,k3,k4,gI,rfl,HG⟩)
 rintro _ _ W6 ⟨rfl,g6,uN,oU,g1,g2,g3,g4,k1,k2,k3,k4,us6,rfl,G6⟩
 dsimp only
 have sO:=G6.bel
 have o6:=G6.own
 have hP6:=G6.c
 have hl6:g6<W6.heap.size:=G6.lt
 have hbr:Below W.heap.size W W6:=ah kF.out sO
 have hPX:=HX.out _ hbr
 have hPY:=HY.out _ hbr
 have hP3:=(sO.block _ (Nat.lt_of_lt_of_le hl3 (by have:=vF.out;omega))).trans HP3.out
 have OW:=(sO.block _ vF.out).trans Gg.out
 have o4:=o4.below sO
 have o3:=o3.below sO
 have hg6:=G6.out
 have hm0:=G6.l0
 have hm1:=G6.l1
 have hm2:=G6.h1
 have GR:=vF.out
 have hm4:=sO.size
 have hm5:=G6.lh
 have HK:Hid (∀w',Kp W3.heap.size w4.heap.size uN oU W6 w'->w'.heap[w.heap.size]? = some (.cells #[.int .i64 ph,.int .i64 cu,.slice a1 n1 c1,.slice a2 n2 c2,.slice a3 n3 c3,.slice a4 n4 c4] 29)/\w'.heap[OI]? = some (.cells #[.int .i64 q,.int .i64 tp,.int .i64 tc,.slice p1 m1 r1,.slice p2 m2 r2,.slice p3 m3 r3,.slice p4 m4 r4] 43)/\w'.heap[w4.heap.size]? = some (.cells #[.int .i64 ph,.int .i64 cu,.slice e1 n1 f1,.slice e2 n2 f2,.slice e3 n3 f3,.slice e4 n4 f4] 41)/\w'.heap[g6]? = some (.cells #[.int .i64 q,.int .i64 tp,.int .i64 tc,.slice g1 m1 k1,.slice g2 m2 k2,.slice g3 m3 k3,.slice g4 m4 k4] 43)):=(fun w' k=>⟨(k.block _ (by omega) (by omega) (by omega)).trans hPX,(k.block _ (by omega) (by omega) (by omega)).trans hP3,(k.block _ (by omega) (by omega) (by omega)).trans OW,(k.block _ (by omega) (by omega) (by omega)).trans hP6⟩:∀w',Kp W3.heap.size w4.heap.size uN oU W6 w'->w'.heap[w.heap.size]? = some (.cells #[.int .i64 ph,.int .i64 cu,.slice a1 n1 c1,.slice a2 n2 c2,.slice a3 n3 c3,.slice a4 n4 c4] 29)/\w'.heap[OI]? = some (.cells #[.int .i64 q,.int .i64 tp,.int .i64 tc,.slice p1 m1 r1,.slice p2 m2 r2,.slice p3 m3 r3,.slice p4 m4 r4] 43)/\w'.heap[w4.heap.size]? = some (.cells #[.int .i64 ph,.int .i64 cu,.slice e1 n1 f1,.slice e2 n2 f2,.slice e3 n3 f3,.slice e4 n4 f4] 41)/\w'.heap[g6]? = some (.cells #[.int .i64 q,.int .i64 tp,.int .i64 tc,.slice g1 m1 k1,.slice g2 m2 k2,.slice g3 m3 k3,.slice g4 m4 k4] 43))
 have IE:Hid (∀w',Kp W3.heap.size w4.heap.size uN oU W6 w'->w'.heap[w.heap.size+1]? = some (.cells #[.int .i64 vk,.string vl,.int .i64 va,.int .i64 vo,.int .i64 vp,.int .i64 vx,.int .i64 vn] 54)):=(fun w' k=>(k.block _ (by omega) (by omega) (by omega)).trans hPY:∀w',Kp W3.heap.size w4.heap.size uN oU W6 w'->w'.heap[w.heap.size+1]? = some (.cells #[.int .i64 vk,.string vl,.int .i64 va,.int .i64 vo,.int .i64 vp,.int .i64 vx,.int .i64 vn] 54))
 have HKB:Hid (∀w',Kp W3.heap.size w4.heap.size uN oU W6 w'->Below w.heap.size w w'):=(fun w' k=>k.to (aC.out _ hbr) (by omega) (by omega):∀w',Kp W3.heap.size w4.heap.size uN oU W6 w'->Below w.heap.size w w')
 have fB:Hid (∀w',Kp W3.heap.size w4.heap.size uN oU W6 w'->Sts w' (sv p1 p2 p3 p4 m1 m2 m3 m4 r1 r2 r3 r4) t):=(fun w' k=>(k.own o3 (by omega) (by omega)).sts:∀w',Kp W3.heap.size w4.heap.size uN oU W6 w'->Sts w' (sv p1 p2 p3 p4 m1 m2 m3 m4 r1 r2 r3 r4) t)
 have VE:Hid (w4.heap.size<=uN/\w4.heap.size<=W6.heap.size/\oU<=W6.heap.size):=(by omega:w4.heap.size<=uN/\w4.heap.size<=W6.heap.size/\oU<=W6.heap.size)
 have kp:=Kp.refl W3.heap.size w4.heap.size uN oU W6
 clear sO G6 hP3 OW hP6 hPX hPY o3 HX HY aC hbr HP3 Gg hl3 hl4 hl6 hh3 adW adX dG hg6 hm0 hm1 hm2 GR hm4 hm5 tX vF kF q0 q1 q2 q3 q4 q5 q6 q7 q8 q9 q10 q11 q12 q13 q14 q15 q16 q17 q18
 obtain⟨-,kA,-,kB⟩:=HK.out _ kp
 obtain⟨⟨y0,y1,y2,y3,y4,y5,y6⟩,-⟩:=aA kA
 obtain⟨⟨z0,z1,z2,z3,z4,z5,z6⟩,-⟩:=aA kB
 clear kA kB
 go_wp2_with fail
 refine(HE.c _ g1 g2 g3 g4 p1 p2 p3 p4 k1 k2 k3 k4 r1 r2 r3 r4 o6.sts (fB.out _ kp)).mono ?_
 rintro e w7 ⟨rfl,hb7⟩
 have kp:=kp.below hb7
 have o4:=o4.below hb7
 have o6:=o6.below hb7
 have ZK:Hid (w4.heap.size<=w7.heap.size/\oU<=w7.heap.size):=⟨Nat.le_trans VE.out.2.1 hb7.size,Nat.le_trans VE.out.2.2 hb7.size⟩
 clear hb7 y0 y1 y2 y3 y4 y5 y6 z0 z1 z2 z3 z4 z5 z6
 obtain⟨kX,-,kY,-⟩:=HK.out _ kp
 obtain⟨⟨x0,x1,x2,x3,x4,x5⟩,-⟩:=aB kX
 obtain⟨⟨y0,y1,y2,y3,y4,y5⟩,-⟩:=aB kY
 clear kX kY
 have HC2:Hid (∀w',Below w7.heap.size w7 w'->(w'.cell? ⟨w4.heap.size,0,none⟩=some (.int .i64 ph)/\w'.cell? ⟨w4.heap.size,1,none⟩=some (.int .i64 cu)/\w'.cell? ⟨w4.heap.size,2,none⟩=some (.slice e1 n1 f1)/\w'.cell? ⟨w4.heap.size,3,none⟩=some (.slice e2 n2 f2)/\w'.cell? ⟨w4.heap.size,4,none⟩=some (.slice e3 n3 f3)/\w'.cell? ⟨w4.heap.size,5,none⟩=some (.slice e4 n4 f4))/\w'.cell? ⟨w.heap.size,0,none⟩=some (.int .i64 ph)/\w'.cell? ⟨w.heap.size,1,none⟩=some (.int .i64 cu)/\w'.cell? ⟨w.heap.size,2,none⟩=some (.slice a1 n1 c1)/\w'.cell? ⟨w.heap.size,3,none⟩=some (.slice a2 n2 c2)/\w'.cell? ⟨w.heap.size,4,none⟩=some (.slice a3 n3 c3)/\w'.cell? ⟨w.heap.size,5,none⟩=some (.slice a4 n4 c4)):=(fun w' hb=>⟨(aB (HK.out _ (kp.below hb)).2.2.1).1,(aB (HK.out _ (kp.below hb)).1).1⟩:∀w',Below w7.heap.size w7 w'->(w'.cell? ⟨w4.heap.size,0,none⟩=some (.int .i64 ph)/\w'.cell? ⟨w4.heap.size,1,none⟩=some (.int .i64 cu)/\w'.cell? ⟨w4.heap.size,2,none⟩=some (.slice e1 n1 f1)/\w'.cell? ⟨w4.heap.size,3,none⟩=some (.slice e2 n2 f2)/\w'.cell? ⟨w4.heap.size,4,none⟩=some (.slice e3 n3 f3)/\w'.cell? ⟨w4.heap.size,5,none⟩=some (.slice e4 n4 f4))/\w'.cell? ⟨w.heap.size,0,none⟩=some (.int .i64 ph)/\w'.cell? ⟨w.heap.size,1,none⟩=some (.int .i64 cu)/\w'.cell? ⟨w.heap.size,2,none⟩=some (.slice a1 n1 c1)/\w'.cell? ⟨w.heap.size,3,none⟩=some (.slice a2 n2 c2)/\w'.cell? ⟨w.heap.size,4,none⟩=some (.slice a3 n3 c3)/\w'.cell? ⟨w.heap.size,5,none⟩=some (.slice a4 n4 c4))
 have HR6:Hid (∀w',Below w7.heap.size w7 w'->Sts w' (sv e1 e2 e3 e4 n1 n2 n3 n4 f1 f2 f3 f4) s):=fun w' hb=>(o4.below hb).sts
 have hbx:Below w7.heap.size w7 w7:=Below.refl _ _
 have ZE:Hid (∀w',Below w7.heap.size w7 w'->Below w.heap.size w w'):=fun w' hb=>HKB.out _ (kp.below hb)
 have HKP:Hid (Kp W3.heap.size w4.heap.size uN oU W6 w7):=kp
 have tX:Hid (aG W3.heap.size w4.heap.size w7 (sv e1 e2 e3 e4 n1 n2 n3 n4 f1 f2 f3 f4) us4 s):=o4
 have HO6:Hid (aG uN oU w7 (sv g1 g2 g3 g4 m1 m2 m3 m4 k1 k2 k3 k4) us6 t):=o6
 clear kp o4 o6
 go_wp2_with fail
 go_region_held3 (fun w'=>(w'.cell? ⟨w4.heap.size,0,none⟩=some (.int .i64 ph)/\w'.cell? ⟨w4.heap.size,1,none⟩=some (.int .i64 cu)/\w'.cell? ⟨w4.heap.size,2,none⟩=some (.slice e1 n1 f1)/\w'.cell? ⟨w4.heap.size,3,none⟩=some (.slice e2 n2 f2)/\w'.cell? ⟨w4.heap.size,4,none⟩=some (.slice e3 n3 f3)/\w'.cell? ⟨w4.heap.size,5,none⟩=some (.slice e4 n4 f4))/\w'.cell? ⟨w.heap.size,0,none⟩=some (.int .i64 ph)/\w'.cell? ⟨w.heap.size,1,none⟩=some (.int .i64 cu)/\w'.cell? ⟨w.heap.size,2,none⟩=some (.slice a1 n1 c1)/\w'.cell? ⟨w.heap.size,3,none⟩=some (.slice a2 n2 c2)/\w'.cell? ⟨w.heap.size,4,none⟩=some (.slice a3 n3 c3)/\w'.cell? ⟨w.heap.size,5,none⟩=some (.slice a4 n4 c4))
  (first | with_reducible exact⟨⟨y0,y1,y2,y3,y4,y5⟩,x0,x1,x2,x3,x4,x5⟩|with_reducible exact HC2.out _ hbx | with_reducible exact HC2.out _ hbx.drew)
  (first
   |(go_at_call 8;refine(ToS.c (by assumption) _ (by first | exact ZE.out _ hbx | exact ZE.out _ hbx.drew)).mono ?_;rintro e w8 ⟨g1',g2',g3',g4',k1',k2',JV,XT,us8,rfl,h8⟩;have hbx:Below w7.heap.size w7 w8:=(by first | exact ah hbx h8.below | exact ah hbx.drew h8.below))
   |(go_at_call 12;refine(EqS.c (by assumption) _ _ _ _ _ _ _ _ _ _ _ _ _ _ _ _ _ (HR6.out _ hbx) h8.sts).mono ?_;rintro e w9 ⟨rfl,uD⟩;have hbx:Below w7.heap.size w7 w9:=ah hbx uD))
 have kp:=HKP.out.below hbx
 have o4:=tX.out.below hbx
 have o6:=HO6.out.below hbx
 have GI:w4.heap.size<=w9.heap.size:=Nat.le_trans ZK.out.1 hbx.size
 have Oz:Hid (oU<=w9.heap.size):=Nat.le_trans ZK.out.2 hbx.size
 clear x0 x1 x2 x3 x4 x5 y0 y1 y2 y3 y4 y5 HC2 HR6 hbx ZE HKP tX HO6 ZK h8 uD HEQ
 obtain⟨-,-,kY,-⟩:=HK.out _ kp
 obtain⟨⟨y0,y1,y2,y3,y4,y5⟩,-⟩:=aB kY
 clear kY
 go_wp2_with fail
 refine(HM.c _ _ _ e1 e2 e3 e4 f1 f2 f3 f4 us4 o4 GI).mono ?_
 rintro e w10 ⟨rfl,QG⟩
 have kp:=kp.t1 QG
 have o6:=o6.tch QG VE.out.1
 have ZJ:Hid (oU<=w10.heap.size):=Nat.le_trans Oz.out QG.size
 clear QG o4 GI Oz HM y0 y1 y2 y3 y4 y5
 obtain⟨-,kA,-,kB⟩:=HK.out _ kp
 obtain⟨⟨y0,y1,y2,y3,y4,y5,y6⟩,-⟩:=aA kA
 obtain⟨⟨z0,z1,z2,z3,z4,z5,z6⟩,-⟩:=aA kB
 clear kA kB
 go_wp2_with fail
 refine(HE.c _ g1 g2 g3 g4 p1 p2 p3 p4 k1 k2 k3 k4 r1 r2 r3 r4 o6.sts (fB.out _ kp)).mono ?_
 rintro e MV ⟨rfl,uX⟩
 have kp:=kp.below uX
 have o6:=o6.below uX
 have aat:oU<=MV.heap.size:=Nat.le_trans ZJ.out uX.size
 clear uX ZJ y0 y1 y2 y3 y4 y5 y6 z0 z1 z2 z3 z4 z5 z6
 obtain⟨-,-,-,kB⟩:=HK.out _ kp
 obtain⟨⟨z0,z1,z2,z3,z4,z5,z6⟩,-⟩:=aA kB
 clear kB
 go_wp2_with fail
 refine(HMR.c _ _ _ g1 g2 g3 g4 k1 k2 k3 k4 us6 o6 aat).mono ?_
 rintro e w12 ⟨rfl,aaB,r12⟩
 have kp:=kp.t2 aaB
 clear aaB o6 aat HMR z0 z1 z2 z3 z4 z5 z6
 obtain⟨-,-,-,kB⟩:=HK.out _ kp
 obtain⟨⟨z0,z1,z2,z3,z4,z5,z6⟩,-⟩:=aA kB
 clear kB
 go_wp2_with fail
 refine(oO.c _ g1 g2 g3 g4 k1 k2 k3 k4 r12).mono ?_
 rintro e gy ⟨rfl,CQ⟩
 have kp:=kp.below CQ
 have r13:=r12.below CQ
 clear CQ r12 z0 z1 z2 z3 z4 z5 z6
 have iF:Hid (Kp W3.heap.size w4.heap.size uN oU W6 gy):=kp
 have HRH:Hid (∀w',Below gy.heap.size gy w'->Sts w' (sv g1 g2 g3 g4 m1 m2 m3 m4 k1 k2 k3 k4) mt):=fun w' hb=>r13.below hb
 clear kp r13
 go_wp2_with fail
 have q0:∀w',Below gy.heap.size gy w'->w'.cell? ⟨w.heap.size,0,none⟩=some (.int .i64 ph):=fun w' h=>(aB (HK.out _ (iF.out.below h)).1).1.1
 have q1:∀w',Below gy.heap.size gy w'->w'.cell? ⟨w.heap.size,1,none⟩=some (.int .i64 cu):=fun w' h=>(aB (HK.out _ (iF.out.below h)).1).1.2.1
 have q2:∀w',Below gy.heap.size gy w'->w'.cell? ⟨w.heap.size,2,none⟩=some (.slice a1 n1 c1):=fun w' h=>(aB (HK.out _ (iF.out.below h)).1).1.2.2.1
 have q3:∀w',Below gy.heap.size gy w'->w'.cell? ⟨w.heap.size,3,none⟩=some (.slice a2 n2 c2):=fun w' h=>(aB (HK.out _ (iF.out.below h)).1).1.2.2.2.1
 have q4:∀w',Below gy.heap.size gy w'->w'.cell? ⟨w.heap.size,4,none⟩=some (.slice a3 n3 c3):=fun w' h=>(aB (HK.out _ (iF.out.below h)).1).1.2.2.2.2.1
 have q5:∀w',Below gy.heap.size gy w'->w'.cell? ⟨w.heap.size,5,none⟩=some (.slice a4 n4 c4):=fun w' h=>(aB (HK.out _ (iF.out.below h)).1).1.2.2.2.2.2
 have q6:∀w',Below gy.heap.size gy w'->w'.cell? ⟨w.heap.size+1,0,none⟩=some (.int .i64 vk):=fun w' h=>(fA (IE.out _ (iF.out.below h))).1
 have q7:∀w',Below gy.heap.size gy w'->w'.cell? ⟨w.heap.size+1,1,none⟩=some (.string vl):=fun w' h=>(fA (IE.out _ (iF.out.below h))).2.1
 have q8:∀w',Below gy.heap.size gy w'->w'.cell? ⟨w.heap.size+1,2,none⟩=some (.int .i64 va):=fun w' h=>(fA (IE.out _ (iF.out.below h))).2.2.1
 have q9:∀w',Below gy.heap.size gy w'->w'.cell? ⟨w.heap.size+1,3,none⟩=some (.int .i64 vo):=fun w' h=>(fA (IE.out _ (iF.out.below h))).2.2.2.1
 have q10:∀w',Below gy.heap.size gy w'->w'.cell? ⟨w.heap.size+1,4,none⟩=some (.int .i64 vp):=fun w' h=>(fA (IE.out _ (iF.out.below h))).2.2.2.2.1
 have q11:∀w',Below gy.heap.size gy w'->w'.cell? ⟨w.heap.size+1,5,none⟩=some (.int .i64 vx):=fun w' h=>(fA (IE.out _ (iF.out.below h))).2.2.2.2.2.1
 have q12:∀w',Below gy.heap.size gy w'->w'.cell? ⟨w.heap.size+1,6,none⟩=some (.int .i64 vn):=fun w' h=>(fA (IE.out _ (iF.out.below h))).2.2.2.2.2.2.1
 refine Code.wp_mono (Q:=fun e a' w'=>e=Exit.normal/\∃(gg lo hi:Nat)(i1 i2 i3 i4:Option Addr)(j1 j2 j3 j4:Nat)(l1 l2 l3 l4:Option Addr)(o1 o2 o3 o4:Nat)(gI:List Value),a' = {tmps:=#[Value.agg #[Value.int IntKind.i64 ph,Value.int IntKind.i64 cu,Value.slice a1 n1 c1,Value.slice a2 n2 c2,Value.slice a3 n3 c3,Value.slice a4 n4 c4],.agg #[.int .i64 vk,.string vl,.int .i64 va,.int .i64 vo,.int .i64 vp,.int .i64 vx,.int .i64 vn],Value.pointer (some {block:=w.heap.size,off:=0}),Value.pointer (some {block:=w.heap.size+1,off:=0}),Value.bool false,Value.int IntKind.i64 zz,Value.pointer (some {block:=OI,off:=0}),Value.pointer (some {block:=w4.heap.size,off:=0}),Value.pointer (some {block:=g6,off:=0}),Value.int IntKind.i64 (K1:Int),Value.int IntKind.i64 (K2:Int),Value.int IntKind.i64 (K2:Int),.pointer (some ⟨gg,0,none⟩),Value.agg #[Value.int IntKind.i64 ph,Value.int IntKind.i64 cu,Value.slice a1 n1 c1,Value.slice a2 n2 c2,Value.slice a3 n3 c3,Value.slice a4 n4 c4],Value.int IntKind.i64 1048576,Value.int IntKind.i64 z,Value.int IntKind.i64 z,Value.bool (decide (z<0)),.agg #[.int .i64 vk,.string vl,.int .i64 va,.int .i64 vo,.int .i64 vp,.int .i64 vx,.int .i64 vn],Value.int IntKind.i64 z,Value.int IntKind.i64 zz,Value.int IntKind.i64 zz,Value.bool (decide (zz<0)),Value.agg #[Value.int IntKind.i64 ph,Value.int IntKind.i64 cu,Value.slice a1 n1 c1,Value.slice a2 n2 c2,Value.slice a3 n3 c3,Value.slice a4 n4 c4],Value.agg #[Value.int IntKind.i64 ph,Value.int IntKind.i64 cu,Value.slice b1 n1 d1,Value.slice b2 n2 d2,Value.slice b3 n3 d3,Value.slice b4 n4 d4],.agg #[.int .i64 vk,.string vl,.int .i64 va,.int .i64 vo,.int .i64 vp,.int .i64 vx,.int .i64 vn],.agg #[.int .i64 vk,.string vl,.int .i64 va,.int .i64 vo,.int .i64 vp,.int .i64 vx,.int .i64 vn],Value.agg #[Value.int IntKind.i64 q,Value.int IntKind.i64 tp,Value.int IntKind.i64 tc,Value.slice p1 m1 r1,Value.slice p2 m2 r2,Value.slice p3 m3 r3,Value.slice p4 m4 r4],Value.agg #[Value.int IntKind.i64 ph,Value.int IntKind.i64 cu,Value.slice a1 n1 c1,Value.slice a2 n2 c2,Value.slice a3 n3 c3,Value.slice a4 n4 c4],Value.agg #[Value.int IntKind.i64 ph,Value.int IntKind.i64 cu,Value.slice e1 n1 f1,Value.slice e2 n2 f2,Value.slice e3 n3 f3,Value.slice e4 n4 f4],Value.agg #[Value.int IntKind.i64 ph,Value.int IntKind.i64 cu,Value.slice e1 n1 f1,Value.slice e2 n2 f2,Value.slice e3 n3 f3,Value.slice e4 n4 f4],.agg #[.int .i64 vk,.string vl,.int .i64 va,.int .i64 vo,.int .i64 vp,.int .i64 vx,.int .i64 vn],.agg #[.int .i64 vk,.string vl,.int .i64 va,.int .i64 vo,.int .i64 vp,.int .i64 vx,.int .i64 vn],Value.agg #[Value.int IntKind.i64 q,Value.int IntKind.i64 tp,Value.int IntKind.i64 tc,Value.slice g1 m1 k1,Value.slice g2 m2 k2,Value.slice g3 m3 k3,Value.slice g4 m4 k4],Value.agg #[Value.int IntKind.i64 q,Value.int IntKind.i64 tp,Value.int IntKind.i64 tc,Value.slice g1 m1 k1,Value.slice g2 m2 k2,Value.slice g3 m3 k3,Value.slice g4 m4 k4],Value.agg #[Value.int IntKind.i64 q,Value.int IntKind.i64 tp,Value.int IntKind.i64 tc,Value.slice p1 m1 r1,Value.slice p2 m2 r2,Value.slice p3 m3 r3,Value.slice p4 m4 r4],Value.bool true,Value.bool false,Value.agg #[Value.int IntKind.i64 ph,Value.int IntKind.i64 cu,Value.slice e1 n1 f1,Value.slice e2 n2 f2,Value.slice e3 n3 f3,Value.slice e4 n4 f4],Value.agg #[Value.int IntKind.i64 ph,Value.int IntKind.i64 cu,Value.slice a1 n1 c1,Value.slice a2 n2 c2,Value.slice a3 n3 c3,Value.slice a4 n4 c4],Value.agg #[Value.int IntKind.i64 ph,Value.int IntKind.i64 cu,Value.slice g1' n1 k1',Value.slice g2' n2 k2',Value.slice g3' n3 JV,Value.slice g4' n4 XT],Value.bool true,Value.bool false,Value.agg #[Value.int IntKind.i64 ph,Value.int IntKind.i64 cu,Value.slice e1 n1 f1,Value.slice e2 n2 f2,Value.slice e3 n3 f3,Value.slice e4 n4 f4],Value.int IntKind.i64 1,Value.int IntKind.i64 (K1:Int),Value.int IntKind.i64 (K1:Int),Value.bool (decide ((K1:Int)<0)),Value.bool (decide ((K1:Int)<0)),Value.agg #[Value.int IntKind.i64 q,Value.int IntKind.i64 tp,Value.int IntKind.i64 tc,Value.slice g1 m1 k1,Value.slice g2 m2 k2,Value.slice g3 m3 k3,Value.slice g4 m4 k4],Value.agg #[Value.int IntKind.i64 q,Value.int IntKind.i64 tp,Value.int IntKind.i64 tc,Value.slice p1 m1 r1,Value.slice p2 m2 r2,Value.slice p3 m3 r3,Value.slice p4 m4 r4],Value.bool true,Value.bool false,Value.bool (decide ((K1:Int)<0)),Value.agg #[Value.int IntKind.i64 q,Value.int IntKind.i64 tp,Value.int IntKind.i64 tc,Value.slice g1 m1 k1,Value.slice g2 m2 k2,Value.slice g3 m3 k3,Value.slice g4 m4 k4],Value.int IntKind.i64 1,Value.int IntKind.i64 (K2:Int),Value.agg #[Value.int IntKind.i64 q,Value.int IntKind.i64 tp,Value.int IntKind.i64 tc,Value.slice g1 m1 k1,Value.slice g2 m2 k2,Value.slice g3 m3 k3,Value.slice g4 m4 k4],Value.int IntKind.i64 1,Value.int IntKind.i64 (K2:Int),Value.int IntKind.i64 (K2:Int),Value.bool (decide ((K2:Int)<0)),Value.int IntKind.i64 (K2:Int),Value.int IntKind.i64 (K2:Int),Value.bool false,.agg #[.int .i64 ph,.int .i64 cu,.slice a1 n1 c1,.slice a2 n2 c2,.slice a3 n3 c3,.slice a4 n4 c4],.agg #[.int .i64 ph,.int .i64 cu,.slice i1 n1 j1,.slice i2 n2 j2,.slice i3 n3 j3,.slice i4 n4 j4],.agg #[.int .i64 vk,.string vl,.int .i64 va,.int .i64 vo,.int .i64 vp,.int .i64 vx,.int .i64 vn],.agg #[.int .i64 vk,.string vl,.int .i64 va,.int .i64 vo,.int .i64 vp,.int .i64 vx,.int .i64 vn],.agg #[.int .i64 q,.int .i64 tp,.int .i64 tc,.slice l1 m1 o1,.slice l2 m2 o2,.slice l3 m3 o3,.slice l4 m4 o4],undef,undef,undef,undef,undef,undef,undef,undef,undef,undef,undef,undef],defers:=[]}/\Rg gy w' gg lo hi (.int .i64 q) (.int .i64 tp) (.int .i64 tc) (.slice l1 m1 o1) (.slice l2 m2 o2) (.slice l3 m3 o3) (.slice l4 m4 o4) (sv l1 l2 l3 l4 m1 m2 m3 m4 o1 o2 o3 o4) gI t) ?tail3 ?aeL
 case aeL=>
  refine wp_region_held_drew (S:=fun w'=>Below gy.heap.size gy w') (by kernel_rfl) ((Below.refl _ _).drew) (fun hHeld=> ?_)
  refine aK (i:=0) (d:=some 65) (v:= ?vs1) (by rfl) (by kernel_rfl) (by kernel_rfl) (by kernel_rfl) (fun _ _ _ h=>(by cases h.1)) (by rfl) ?aeA hHeld ?agK
  case aeA=>
   intro o ho
   simp only[aiF,aiG,aiI]at ho
   subst ho
   intro w' hSw
   first |(go_simp;done) |(go_simp;with_reducible rfl)
  try simp only[Act.put,aiC,aiD,aiE]
  refine aK (i:=2) (d:=some 67) (v:= ?vs2) (by rfl) (by kernel_rfl) (by kernel_rfl) (by kernel_rfl) (fun _ _ _ h=>(by cases h.1)) (by rfl) ?aeB hHeld ?agL
  case aeB=>
   intro o ho
   simp only[aiF,aiH,aiG,aiI]at ho
   subst ho
   intro w' hSw
   first |(go_simp;done) |(go_simp;with_reducible rfl)
  try simp only[Act.put,aiC,aiD,aiE]
  refine wpAnyH_ready (rs:=[1,5]) (by kernel_rfl) (by simp) ?_
  refine AllReadyH.cons rfl (fun K hK=> ?_) (AllReadyH.cons rfl (fun K hK=> ?_) AllReadyH.nil)
  ·go_simp
   refine(HT.c _ (HKB.out _ (iF.out.below hHeld))).mono ?_
   rintro e wq ⟨b1,b2,b3,b4,d1,d2,d3,d4,MP,rfl,h2⟩
   have hbq:=h2.below
   have o2:=h2.own
   have hq:=ah hHeld hbq
   clear h2
   try(have G:=G.below hbq)
   refine hK.out _ _ ?_ (fun hHeld=> ?_)
   ·exact hq
   clear hK K
   try simp only[Act.put,aiC,aiD,aiE]
   refine wpAnyH_ready (rs:=[3,5]) (by kernel_rfl) (by simp) ?_
   refine AllReadyH.cons rfl (fun K hK=> ?_) (AllReadyH.cons rfl (fun K hK=> ?_) AllReadyH.nil)
   ·go_simp
    refine(hTR _).mono ?_
    rintro e wq ⟨rfl,hbq⟩
    have hq:=ah hHeld hbq
    try(have G:=G.below hbq)
    have o2:=o2.below hbq
    refine hK.out _ _ ?_ (fun hHeld=> ?_)
    ·exact hq
    clear hK K
    try simp only[Act.put,aiC,aiD,aiE]
    refine wpAnyH_ready (rs:=[4,5]) (by kernel_rfl) (by simp) ?_
    refine AllReadyH.cons rfl (fun K hK=> ?_) (AllReadyH.cons rfl (fun K hK=> ?_) AllReadyH.nil)
    ·go_simp
     have hlo:=hHeld.size
     try(have hg2:=G.lt)
     refine(HI.c _ b1 b2 b3 b4 d1 d2 d3 d4 o2.sts).mono ?_
     rintro e wq ⟨g1,g2,g3,g4,k1,k2,k3,k4,gI,rfl,hbq,o3⟩
     have hlh:=hbq.size
     have hq:=ah hHeld hbq
     have hhi:=Nat.le_refl wq.heap.size
     try(have G:=G.below hbq)
     refine hK.out _ _ ?_ (fun hHeld=> ?_)
     ·exact hq
     clear hK K
     try simp only[Act.put,aiC,aiD,aiE]
     refine wpAnyH_ready (rs:=[5]) (by kernel_rfl) (by simp) ?_
     refine AllReadyH.cons rfl (fun K hK=> ?_) AllReadyH.nil
     ·go_simp
      first |(have G:=ZB.new wq;have hgg:=hq.size) |(have G:=(ZB.new gy).drew;have hgg:=Nat.le_refl gy.heap.size)
      try(have i3:=o3;have iq:=hq)
      try(have o2:=o2.below (aj aiJ))
      refine hK.out _ _ ?_ (fun hHeld=> ?_)
      ·exact ah hHeld (aj _)
      clear hK K
      try simp only[Act.put,aiC,aiD,aiE]
      have hlast:=hHeld
      obtain⟨⟨x0,x1,x2,x3,x4,x5,x6⟩,u0,u1,u2,u3,u4,u5,u6⟩:=aA G.c
      refine wpAnyH_ready (rs:=[6]) (by kernel_rfl) (by simp) ?_
      refine AllReadyH.cons rfl (fun K hK=> ?_) AllReadyH.nil
      go_simp
      refine hK.out _ _ ?_ (fun hHeld=> ?_)
      ·first | with_reducible exact eu hHeld hgg _ _ _ _ _ _ _ | with_reducible exact ah hq (aj _)
      clear hK K
      try simp only[Act.put,aiC,aiD,aiE]
      refine wpAnyH_done (by kernel_rfl) ?_ _
      first
       |(have HG:=Rg.put (.int .i64 q) (.int .i64 tp) (.int .i64 tc) (.slice g1 m1 k1) (.slice g2 m2 k2) (.slice g3 m3 k3) (.slice g4 m4 k4) G o3 (Or.inl hg2) hlo hlh hgg hhi hlast;exact⟨rfl,_,_,_,b1,b2,b3,b4,d1,d2,d3,d4,g1,g2,g3,g4,k1,k2,k3,k4,gI,rfl,HG⟩)
       |(have HG:=Rg.fresh (.int .i64 q) (.int .i64 tp) (.int .i64 tc) (.slice g1 m1 k1) (.slice g2 m2 k2) (.slice g3 m3 k3) (.slice g4 m4 k4) i3 hlo hlh hhi iq;exact⟨rfl,_,_,_,b1,b2,b3,b4,d1,d2,d3,d4,g1,g2,g3,g4,k1,k2,k3,k4,gI,rfl,HG⟩)
    ·go_simp
     first |(have G:=ZB.new wq;have hgg:=hq.size) |(have G:=(ZB.new gy).drew;have hgg:=Nat.le_refl gy.heap.size)
     try(have i3:=o3;have iq:=hq)
     try(have o2:=o2.below (aj aiJ))
     refine hK.out _ _ ?_ (fun hHeld=> ?_)
     ·exact ah hHeld (aj _)
     clear hK K
     try simp only[Act.put,aiC,aiD,aiE]
     refine wpAnyH_ready (rs:=[4]) (by kernel_rfl) (by simp) ?_
     refine AllReadyH.cons rfl (fun K hK=> ?_) AllReadyH.nil
     ·go_simp
      have hlo:=hHeld.size
      try(have hg2:=G.lt)
      refine(HI.c _ b1 b2 b3 b4 d1 d2 d3 d4 o2.sts).mono ?_
      rintro e wq ⟨g1,g2,g3,g4,k1,k2,k3,k4,gI,rfl,hbq,o3⟩
      have hlh:=hbq.size
      have hq:=ah hHeld hbq
      have hhi:=Nat.le_refl wq.heap.size
      try(have G:=G.below hbq)
      refine hK.out _ _ ?_ (fun hHeld=> ?_)
      ·exact hq
      clear hK K
      try simp only[Act.put,aiC,aiD,aiE]
      have hlast:=hHeld
      obtain⟨⟨x0,x1,x2,x3,x4,x5,x6⟩,u0,u1,u2,u3,u4,u5,u6⟩:=aA G.c
      refine wpAnyH_ready (rs:=[6]) (by kernel_rfl) (by simp) ?_
      refine AllReadyH.cons rfl (fun K hK=> ?_) AllReadyH.nil
      go_simp
      refine hK.out _ _ ?_ (fun hHeld=> ?_)
      ·first | with_reducible exact eu hHeld hgg _ _ _ _ _ _ _ | with_reducible exact ah hq (aj _)
      clear hK K
      try simp only[Act.put,aiC,aiD,aiE]
      refine wpAnyH_done (by kernel_rfl) ?_ _
      first
       |(have HG:=Rg.put (.int .i64 q) (.int .i64 tp) (.int .i64 tc) (.slice g1 m1 k1) (.slice g2 m2 k2) (.slice g3 m3 k3) (.slice g4 m4 k4) G o3 (Or.inl hg2) hlo hlh hgg hhi hlast;exact⟨rfl,_,_,_,b1,b2,b3,b4,d1,d2,d3,d4,g1,g2,g3,g4,k1,k2,k3,k4,gI,rfl,HG⟩)
       |(have HG:=Rg.fresh (.int .i64 q) (.int .i64 tp) (.int .i64 tc) (.slice g1 m1 k1) (.slice g2 m2 k2) (.slice g3 m3 k3) (.slice g4 m4 k4) i3 hlo hlh hhi iq;exact⟨rfl,_,_,_,b1,b2,b3,b4,d1,d2,d3,d4,g1,g2,g3,g4,k1,k2,k3,k4,gI,rfl,HG⟩)
   ·go_simp
    first |(have G:=ZB.new wq;have hgg:=hq.size) |(have G:=(ZB.new gy).drew;have hgg:=Nat.le_refl gy.heap.size)
    try(have i3:=o3;have iq:=hq)
    try(have o2:=o2.below (aj aiJ))
    refine hK.out _ _ ?_ (fun hHeld=> ?_)
    ·exact ah hHeld (aj _)
    clear hK K
    try simp only[Act.put,aiC,aiD,aiE]
    refine wpAnyH_ready (rs:=[3]) (by kernel_rfl) (by simp) ?_
    refine AllReadyH.cons rfl (fun K hK=> ?_) AllReadyH.nil
    ·go_simp
     refine(hTR _).mono ?_
     rintro e wq ⟨rfl,hbq⟩
     have hq:=ah hHeld hbq
     try(have G:=G.below hbq)
     have o2:=o2.below hbq
     refine hK.out _ _ ?_ (fun hHeld=> ?_)
     ·exact hq
     clear hK K
     try simp only[Act.put,aiC,aiD,aiE]
     refine wpAnyH_ready (rs:=[4]) (by kernel_rfl) (by simp) ?_
     refine AllReadyH.cons rfl (fun K hK=> ?_) AllReadyH.nil
     ·go_simp
      have hlo:=hHeld.size
      try(have hg2:=G.lt)
      refine(HI.c _ b1 b2 b3 b4 d1 d2 d3 d4 o2.sts).mono ?_
      rintro e wq ⟨g1,g2,g3,g4,k1,k2,k3,k4,gI,rfl,hbq,o3⟩
      have hlh:=hbq.size
      have hq:=ah hHeld hbq
      have hhi:=Nat.le_refl wq.heap.size
      try(have G:=G.below hbq)
      refine hK.out _ _ ?_ (fun hHeld=> ?_)
      ·exact hq
      clear hK K
      try simp only[Act.put,aiC,aiD,aiE]
      have hlast:=hHeld
      obtain⟨⟨x0,x1,x2,x3,x4,x5,x6⟩,u0,u1,u2,u3,u4,u5,u6⟩:=aA G.c
      refine wpAnyH_ready (rs:=[6]) (by kernel_rfl) (by simp) ?_
      refine AllReadyH.cons rfl (fun K hK=> ?_) AllReadyH.nil
      go_simp
      refine hK.out _ _ ?_ (fun hHeld=> ?_)
      ·first | with_reducible exact eu hHeld hgg _ _ _ _ _ _ _ | with_reducible exact ah hq (aj _)
      clear hK K
      try simp only[Act.put,aiC,aiD,aiE]
      refine wpAnyH_done (by kernel_rfl) ?_ _
      first
       |(have HG:=Rg.put (.int .i64 q) (.int .i64 tp) (.int .i64 tc) (.slice g1 m1 k1) (.slice g2 m2 k2) (.slice g3 m3 k3) (.slice g4 m4 k4) G o3 (Or.inl hg2) hlo hlh hgg hhi hlast;exact⟨rfl,_,_,_,b1,b2,b3,b4,d1,d2,d3,d4,g1,g2,g3,g4,k1,k2,k3,k4,gI,rfl,HG⟩)
       |(have HG:=Rg.fresh (.int .i64 q) (.int .i64 tp) (.int .i64 tc) (.slice g1 m1 k1) (.slice g2 m2 k2) (.slice g3 m3 k3) (.slice g4 m4 k4) i3 hlo hlh hhi iq;exact⟨rfl,_,_,_,b1,b2,b3,b4,d1,d2,d3,d4,g1,g2,g3,g4,k1,k2,k3,k4,gI,rfl,HG⟩)
  ·go_simp
   first |(have G:=ZB.new wq;have hgg:=hq.size) |(have G:=(ZB.new gy).drew;have hgg:=Nat.le_refl gy.heap.size)
   try(have i3:=o3;have iq:=hq)
   try(have o2:=o2.below (aj aiJ))
   refine hK.out _ _ ?_ (fun hHeld=> ?_)
   ·exact ah hHeld (aj _)
   clear hK K
   try simp only[Act.put,aiC,aiD,aiE]
   refine wpAnyH_ready (rs:=[1]) (by kernel_rfl) (by simp) ?_
   refine AllReadyH.cons rfl (fun K hK=> ?_) AllReadyH.nil
   ·go_simp
    refine(HT.c _ (HKB.out _ (iF.out.below hHeld))).mono ?_
    rintro e wq ⟨b1,b2,b3,b4,d1,d2,d3,d4,MP,rfl,h2⟩
    have hbq:=h2.below
    have o2:=h2.own
    have hq:=ah hHeld hbq
    clear h2
    try(have G:=G.below hbq)
    refine hK.out _ _ ?_ (fun hHeld=> ?_)
    ·exact hq
    clear hK K
    try simp only[Act.put,aiC,aiD,aiE]
    refine wpAnyH_ready (rs:=[3]) (by kernel_rfl) (by simp) ?_
    refine AllReadyH.cons rfl (fun K hK=> ?_) AllReadyH.nil
    ·go_simp
     refine(hTR _).mono ?_
     rintro e wq ⟨rfl,hbq⟩
     have hq:=ah hHeld hbq
     try(have G:=G.below hbq)
     have o2:=o2.below hbq
     refine hK.out _ _ ?_ (fun hHeld=> ?_)
     ·exact hq
     clear hK K
     try simp only[Act.put,aiC,aiD,aiE]
     refine wpAnyH_ready (rs:=[4]) (by kernel_rfl) (by simp) ?_
     refine AllReadyH.cons rfl (fun K hK=> ?_) AllReadyH.nil
     ·go_simp
      have hlo:=hHeld.size
      try(have hg2:=G.lt)
      refine(HI.c _ b1 b2 b3 b4 d1 d2 d3 d4 o2.sts).mono ?_
      rintro e wq ⟨g1,g2,g3,g4,k1,k2,k3,k4,gI,rfl,hbq,o3⟩
      have hlh:=hbq.size
      have hq:=ah hHeld hbq
      have hhi:=Nat.le_refl wq.heap.size
      try(have G:=G.below hbq)
      refine hK.out _ _ ?_ (fun hHeld=> ?_)
      ·exact hq
      clear hK K
      try simp only[Act.put,aiC,aiD,aiE]
      have hlast:=hHeld
      obtain⟨⟨x0,x1,x2,x3,x4,x5,x6⟩,u0,u1,u2,u3,u4,u5,u6⟩:=aA G.c
      refine wpAnyH_ready (rs:=[6]) (by kernel_rfl) (by simp) ?_
      refine AllReadyH.cons rfl (fun K hK=> ?_) AllReadyH.nil
      go_simp
      refine hK.out _ _ ?_ (fun hHeld=> ?_)
      ·first | with_reducible exact eu hHeld hgg _ _ _ _ _ _ _ | with_reducible exact ah hq (aj _)
      clear hK K
      try simp only[Act.put,aiC,aiD,aiE]
      refine wpAnyH_done (by kernel_rfl) ?_ _
      first
       |(have HG:=Rg.put (.int .i64 q) (.int .i64 tp) (.int .i64 tc) (.slice g1 m1 k1) (.slice g2 m2 k2) (.slice g3 m3 k3) (.slice g4 m4 k4) G o3 (Or.inl hg2) hlo hlh hgg hhi hlast;exact⟨rfl,_,_,_,b1,b2,b3,b4,d1,d2,d3,d4,g1,g2,g3,g4,k1,k2,k3,k4,gI,rfl,HG⟩)
       |(have HG:=Rg.fresh (.int .i64 q) (.int .i64 tp) (.int .i64 tc) (.slice g1 m1 k1) (.slice g2 m2 k2) (.slice g3 m3 k3) (.slice g4 m4 k4) i3 hlo hlh hhi iq;exact⟨rfl,_,_,_,b1,b2,b3,b4,d1,d2,d3,d4,g1,g2,g3,g4,k1,k2,k3,k4,gI,rfl,HG⟩)
 rintro _ _ W15 ⟨rfl,g15,ahy,ahq,i1,i2,i3,i4,j1,j2,j3,j4,l1,l2,l3,l4,o1,o2,o3,o4,ahz,rfl,SH⟩
 dsimp only
 have kp:=iF.out.below SH.bel
 have r15:=HRH.out _ SH.bel
 have o15:=SH.own
 have aav:=SH.c
 clear q0 q1 q2 q3 q4 q5 q6 q7 q8 q9 q10 q11 q12 SH iF HRH HI HT hTR
 obtain⟨-,kA,-,-⟩:=HK.out _ kp
 obtain⟨⟨y0,y1,y2,y3,y4,y5,y6⟩,-⟩:=aA kA
 obtain⟨⟨z0,z1,z2,z3,z4,z5,z6⟩,-⟩:=aA aav
 clear kA aav
 go_wp2_with fail
 refine(HE.c _ _ _ _ _ _ _ _ _ _ _ _ _ _ _ _ _ o15.sts (fB.out _ kp)).mono ?_
 rintro e w16 ⟨rfl,hb16⟩
 have kp:=kp.below hb16
 have r16:=r15.below hb16
 clear hb16 r15 o15 y0 y1 y2 y3 y4 y5 y6 z0 z1 z2 z3 z4 z5 z6
 obtain⟨-,-,-,kB⟩:=HK.out _ kp
 obtain⟨⟨z0,z1,z2,z3,z4,z5,z6⟩,-⟩:=aA kB
 clear kB
 go_wp2_with fail
 refine(oO.c _ g1 g2 g3 g4 k1 k2 k3 k4 r16).mono ?_
 rintro e w17 ⟨rfl,aaw⟩
 have adM:=HKB.out _ (kp.below aaw)
 clear kp r16 aaw z0 z1 z2 z3 z4 z5 z6
 go_wp2
 go_ret
 exact⟨rfl,adM⟩
end U
end Go.Proofs.YtmmcgjacojgeaaaGreat
