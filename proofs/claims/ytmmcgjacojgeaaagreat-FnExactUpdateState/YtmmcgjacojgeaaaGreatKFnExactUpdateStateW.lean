/- The law on UpdateState, walked: true, and nothing that was there has turned. -/
import Derived.Test.YtmmcgjacojgeaaaGreatKZz
import Derived.Test.YtmmcgjacojgeaaaGreatKUs3
set_option maxRecDepth 100000
set_option maxHeartbeats 8000000
namespace Go.Proofs.YtmmcgjacojgeaaaGreat
open Go.RowKit
namespace U
structure Yz(s t:St)(v0:ByteArray)(v1 v2 v3 xx:Int)(ph cu q tp tc:Int)(n1 n2 n3 n4 m1 m2 m3 m4:Nat):Prop where
 c:∀(w':World)(lo hi:Nat)(a1 a2 a3 a4:Option Addr)(c1 c2 c3 c4:Nat)(dP:List Value),aT lo hi w' (sv a1 a2 a3 a4 n1 n2 n3 n4 c1 c2 c3 c4) dP s->Calls Tryz.prog 7 #[.agg #[.int .i64 ph,.int .i64 cu,.slice a1 n1 c1,.slice a2 n2 c2,.slice a3 n3 c3,.slice a4 n4 c4],.agg #[.string v0,.int .i64 v1,.int .i64 v2,.int .i64 v3],.int .i64 xx] w' fun e w''=>∃b1 b2 b3 b4 d1 d2 d3 d4 us,e = .returned (.agg #[.int .i64 q,.int .i64 tp,.int .i64 tc,.slice b1 m1 d1,.slice b2 m2 d2,.slice b3 m3 d3,.slice b4 m4 d4])/\Below w'.heap.size w' w''/\aT w'.heap.size w''.heap.size w'' (sv b1 b2 b3 b4 m1 m2 m3 m4 d1 d2 d3 d4) us t
structure Yy(s t:St)(v0:ByteArray)(v1 v2 v3 xx:Int)(ph cu q tp tc:Int)(n1 n2 n3 n4 m1 m2 m3 m4:Nat):Prop where
 c:∀(w':World)(a1 a2 a3 a4:Option Addr)(c1 c2 c3 c4:Nat),Sts w' (sv a1 a2 a3 a4 n1 n2 n3 n4 c1 c2 c3 c4) s->Calls Tryz.prog 10 #[.agg #[.int .i64 ph,.int .i64 cu,.slice a1 n1 c1,.slice a2 n2 c2,.slice a3 n3 c3,.slice a4 n4 c4],.agg #[.string v0,.int .i64 v1,.int .i64 v2,.int .i64 v3],.int .i64 xx] w' fun e w''=>∃b1 b2 b3 b4 d1 d2 d3 d4 us,e = .returned (.agg #[.int .i64 q,.int .i64 tp,.int .i64 tc,.slice b1 m1 d1,.slice b2 m2 d2,.slice b3 m3 d3,.slice b4 m4 d4])/\Below w'.heap.size w' w''/\aT w'.heap.size w''.heap.size w'' (sv b1 b2 b3 b4 m1 m2 m3 m4 d1 d2 d3 d4) us t
theorem OD{w' w'':World}{q:Int}{t:St}{e:Ending}(h:jr w' q t e w''):∃b1 b2 b3 b4 d1 d2 d3 d4 us,e = .returned (.agg #[.int .i64 q,.int .i64 t.ph,.int .i64 t.cu,.slice b1 t.d.length d1,.slice b2 t.n.length d2,.slice b3 t.h.length d3,.slice b4 t.p.length d4])/\Below w'.heap.size w' w''/\aT w'.heap.size w''.heap.size w'' (sv b1 b2 b3 b4 t.d.length t.n.length t.h.length t.p.length d1 d2 d3 d4) us t:=by
 obtain⟨u,us,rfl,h1,h2⟩:=h
 obtain⟨b1,b2,b3,b4,d1,d2,d3,d4,rfl⟩:=h2.sts.four
 exact⟨b1,b2,b3,b4,d1,d2,d3,d4,us,rfl,h1,h2⟩
theorem fnExactUpdateState_walk(s:St)(v:Sv)(v0:ByteArray)(v1 v2 v3 xx:Int)(w:World)(hv:Sts w v s)(hA:StA s)(hs:v0.size<=maxLen):
  Calls Tryz.prog 3 #[stV s v,.agg #[.string v0,.int .i64 v1,.int .i64 v2,.int .i64 v3],.int .i64 xx] w fun e w'=>e = .returned (.bool true)/\Below w.heap.size w w':=by
 obtain⟨W,hW⟩:∃W,W=(w.alloc (stC s v 29)).alloc (.cells #[.string v0,.int .i64 v1,.int .i64 v2,.int .i64 v3] 31):=⟨_,rfl⟩
 have hBW:Below w.heap.size w W:=by rw[hW];exact aN _ _
 have hZ:=JW s v 1048576 W (hv.below hBW) hA (by omega)
 have hok:=fun h=>Xc (s:=s) (z:=1048576) (by omega) (by omega) h
 have hX0:W.heap[w.heap.size]? = some (stC s v 29):=by rw[hW];exact heap_alloc_old' _ _ _ (heap_alloc_new w _)
 have hY0:W.heap[w.heap.size+1]? = some (.cells #[.string v0,.int .i64 v1,.int .i64 v2,.int .i64 v3] 31):=by rw[hW];exact bQ w _ _
 obtain⟨a1,a2,a3,a4,c1,c2,c3,c4,rfl⟩:=hv.four
 unfold stC at hW hX0
 unfold stV at hZ ⊢
 unfold sv at hW hX0 hZ ⊢
 dsimp only at hW hX0 hZ ⊢
 generalize szS s 1048576=z at *
 by_cases h:z<0
 ·generalize s.ph=ph at *
  generalize s.cu=cu at *
  generalize s.d.length=n1 at *
  generalize s.n.length=n2 at *
  generalize s.h.length=n3 at *
  generalize s.p.length=n4 at *
  have HW:Hid _:=hW.symm
  clear hv hA hok hW hX0 hY0
  go_enter Tryz.func3,Tryz.ntmps3
  go_wp2_with fail
  rw[HW.out]
  refine hZ.mono ?_
  rintro e w1 ⟨rfl,hb1⟩
  clear hZ
  go_wp2
  go_ret
  exact⟨rfl,ah hBW hb1⟩
 obtain⟨hB,hz⟩:=hok h
 have F9:=fun w=>xG v0 v1 v2 v3 z w hs (by omega)
 unfold bP at F9
 by_cases h2:z - (v0.size:Int)<0
 ·rw[if_pos h2]at F9
  generalize s.ph=ph at *
  generalize s.cu=cu at *
  generalize s.d.length=n1 at *
  generalize s.n.length=n2 at *
  generalize s.h.length=n3 at *
  generalize s.p.length=n4 at *
  have HW:Hid _:=hW.symm
  have HY:Hid (∀w',Below W.heap.size W w'->w'.heap[w.heap.size+1]? = some (.cells #[.string v0,.int .i64 v1,.int .i64 v2,.int .i64 v3] 31)):=fun w' hb=>(hb.block _ (Array.getElem?_eq_some_iff.1 hY0).1).trans hY0
  clear hv hA hok hW hX0 hY0 hz hB
  go_enter Tryz.func3,Tryz.ntmps3
  go_wp2_with fail
  rw[HW.out]
  refine hZ.mono ?_
  rintro e w1 ⟨rfl,hb1⟩
  obtain⟨y0,y1,y2,y3,-⟩:=bW (HY.out _ hb1)
  clear hZ HW
  go_wp2_with fail
  refine(F9 _).mono ?_
  rintro e w2 ⟨rfl,hb2⟩
  clear F9
  go_wp2
  go_ret
  exact⟨rfl,ah (ah hBW hb1) hb2⟩
 rw[if_neg h2]at F9
 have hrs:v0.size<=1048576:=by omega
 have hTR:=fun w=>xI v0 v1 v2 v3 w
 unfold bP at hTR
 obtain⟨R,hR⟩:=Xr
 obtain⟨q,hq⟩:∃q,q=usF R s ⟨v0,v1,v2,v3⟩ xx:=⟨_,rfl⟩
 obtain⟨t,ht⟩:∃t,t=(if usF R s ⟨v0,v1,v2,v3⟩ xx=0 then usT s ⟨v0,v1,v2,v3⟩ xx else stZ):=⟨_,rfl⟩
 have hBt:StB t:=by
  rw[ht]
  split
  ·rename_i h0
   exact Vx hB h0
  ·exact Vm
 have HS:Yz s t v0 v1 v2 v3 xx s.ph s.cu q t.ph t.cu s.d.length s.n.length s.h.length s.p.length t.d.length t.n.length t.h.length t.p.length:=⟨fun w' lo hi a1 a2 a3 a4 c1 c2 c3 c4 dP ho=>by
  have:=uP R hR lo hi s _ dP v0 v1 v2 v3 xx w' ho hB hrs
  rw[←ht,←hq]at this
  unfold stV sv at this
  exact this.mono fun e w'' h=>OD h⟩
 have HI:Yy s t v0 v1 v2 v3 xx s.ph s.cu q t.ph t.cu s.d.length s.n.length s.h.length s.p.length t.d.length t.n.length t.h.length t.p.length:=⟨fun w' a1 a2 a3 a4 c1 c2 c3 c4 ho=>by
  have:=uM R hR s _ v0 v1 v2 v3 xx w' ho hB hrs
  rw[←ht,←hq]at this
  unfold stV sv at this
  exact this.mono fun e w'' h=>OD h⟩
 have hnn:=cZ
 have HE:=ErR.mk' hBt q
 have XE:=MrR.mk' hBt q
 have mX:=HrR.mk' hBt q
 have HM:=MsR.mk' hB
 have HT:=ToS.mk' hv hB
 have Zt:=EqS.mk' hB
 have hK1:¬((ks4 s 1:Nat):Int)<0:=by omega
 have hK2:¬((ks4 t 1:Nat):Int)<0:=by omega
 clear hq ht hR hBt
 generalize ks4 s 1=K1 at *
 generalize ks4 t 1=K2 at *
 generalize lu t 1=mt at *
 generalize t.ph=tp at *
 generalize t.cu=tc at *
 generalize t.d.length=m1 at *
 generalize t.n.length=m2 at *
 generalize t.h.length=m3 at *
 generalize t.p.length=m4 at *
 generalize s.ph=ph at *
 generalize s.cu=cu at *
 generalize s.d.length=n1 at *
 generalize s.n.length=n2 at *
 generalize s.h.length=n3 at *
 generalize s.p.length=n4 at *
 generalize hze:z - (v0.size:Int)=zz at *
 have HW:Hid _:=hW.symm
 have oG:w.heap.size+1<W.heap.size:=(Array.getElem?_eq_some_iff.1 hY0).1
 have HX:Hid (∀w',Below W.heap.size W w'->w'.heap[w.heap.size]? = some (.cells #[.int .i64 ph,.int .i64 cu,.slice a1 n1 c1,.slice a2 n2 c2,.slice a3 n3 c3,.slice a4 n4 c4] 29)):=fun w' hb=>(hb.block _ (by omega)).trans hX0
 have HY:Hid (∀w',Below W.heap.size W w'->w'.heap[w.heap.size+1]? = some (.cells #[.string v0,.int .i64 v1,.int .i64 v2,.int .i64 v3] 31)):=fun w' hb=>(hb.block _ oG).trans hY0
 have bH:Hid (∀w',Below W.heap.size W w'->Below w.heap.size w w'):=fun w' hb=>ah hBW hb
 clear hv hA hok hW hB hX0 hY0 hBW hz hze hrs hs
 go_enter Tryz.func3,Tryz.ntmps3
 go_wp2_with fail
 rw[HW.out]
 refine hZ.mono ?_
 rintro e w0 ⟨rfl,hb0⟩
 obtain⟨y0,y1,y2,y3,-⟩:=bW (HY.out _ hb0)
 clear hZ HW
 go_wp2_with fail
 refine(F9 _).mono ?_
 rintro e w1 ⟨rfl,hb1⟩
 have hbr:Below W.heap.size W w1:=ah hb0 hb1
 have HR1:Hid (Below W.heap.size W w1):=hbr
 clear F9 hb0 hb1 y0 y1 y2 y3
 obtain⟨⟨x0,x1,x2,x3,x4,x5⟩,-⟩:=ay (HX.out _ hbr)
 obtain⟨y0,y1,y2,y3,-⟩:=bW (HY.out _ hbr)
 clear x0 x1 x2 x3 x4 x5 y0 y1 y2 y3 hbr
 go_wp2_with fail
 have kH:Hid (Below W.heap.size W w1):=HR1.out
 have q0:∀w',Below w1.heap.size w1 w'->w'.cell? ⟨w.heap.size,0,none⟩=some (.int .i64 ph):=fun w' h=>(ay (HX.out _ (ah kH.out h))).1.1
 have q1:∀w',Below w1.heap.size w1 w'->w'.cell? ⟨w.heap.size,1,none⟩=some (.int .i64 cu):=fun w' h=>(ay (HX.out _ (ah kH.out h))).1.2.1
 have q2:∀w',Below w1.heap.size w1 w'->w'.cell? ⟨w.heap.size,2,none⟩=some (.slice a1 n1 c1):=fun w' h=>(ay (HX.out _ (ah kH.out h))).1.2.2.1
 have q3:∀w',Below w1.heap.size w1 w'->w'.cell? ⟨w.heap.size,3,none⟩=some (.slice a2 n2 c2):=fun w' h=>(ay (HX.out _ (ah kH.out h))).1.2.2.2.1
 have q4:∀w',Below w1.heap.size w1 w'->w'.cell? ⟨w.heap.size,4,none⟩=some (.slice a3 n3 c3):=fun w' h=>(ay (HX.out _ (ah kH.out h))).1.2.2.2.2.1
 have q5:∀w',Below w1.heap.size w1 w'->w'.cell? ⟨w.heap.size,5,none⟩=some (.slice a4 n4 c4):=fun w' h=>(ay (HX.out _ (ah kH.out h))).1.2.2.2.2.2
 have q6:∀w',Below w1.heap.size w1 w'->w'.cell? ⟨w.heap.size+1,0,none⟩=some (.string v0):=fun w' h=>(bW (HY.out _ (ah kH.out h))).1
 have q7:∀w',Below w1.heap.size w1 w'->w'.cell? ⟨w.heap.size+1,1,none⟩=some (.int .i64 v1):=fun w' h=>(bW (HY.out _ (ah kH.out h))).2.1
 have q8:∀w',Below w1.heap.size w1 w'->w'.cell? ⟨w.heap.size+1,2,none⟩=some (.int .i64 v2):=fun w' h=>(bW (HY.out _ (ah kH.out h))).2.2.1
 have q9:∀w',Below w1.heap.size w1 w'->w'.cell? ⟨w.heap.size+1,3,none⟩=some (.int .i64 v3):=fun w' h=>(bW (HY.out _ (ah kH.out h))).2.2.2.1
 refine Code.wp_mono (Q:=fun e a' w'=>e=Exit.normal/\∃(gg lo hi:Nat)(b1 b2 b3 b4:Option Addr)(d1 d2 d3 d4:Nat)(g1 g2 g3 g4:Option Addr)(k1 k2 k3 k4:Nat)(eH:List Value),a' = {tmps:=#[.agg #[.int .i64 ph,.int .i64 cu,.slice a1 n1 c1,.slice a2 n2 c2,.slice a3 n3 c3,.slice a4 n4 c4],.agg #[.string v0,.int .i64 v1,.int .i64 v2,.int .i64 v3],.int .i64 xx,.pointer (some ⟨w.heap.size,0,none⟩),.pointer (some ⟨w.heap.size+1,0,none⟩),undef,.bool false,.int .i64 zz,.pointer (some ⟨gg,0,none⟩),undef,undef,undef,undef,undef,undef,.agg #[.int .i64 ph,.int .i64 cu,.slice a1 n1 c1,.slice a2 n2 c2,.slice a3 n3 c3,.slice a4 n4 c4],.int .i64 1048576,.int .i64 z,.int .i64 z,.bool (decide (z<0)),.agg #[.string v0,.int .i64 v1,.int .i64 v2,.int .i64 v3],.int .i64 z,.int .i64 zz,.int .i64 zz,.bool (decide (zz<0)),.agg #[.int .i64 ph,.int .i64 cu,.slice a1 n1 c1,.slice a2 n2 c2,.slice a3 n3 c3,.slice a4 n4 c4],.agg #[.int .i64 ph,.int .i64 cu,.slice b1 n1 d1,.slice b2 n2 d2,.slice b3 n3 d3,.slice b4 n4 d4],.agg #[.string v0,.int .i64 v1,.int .i64 v2,.int .i64 v3],.agg #[.string v0,.int .i64 v1,.int .i64 v2,.int .i64 v3],.int .i64 xx,.agg #[.int .i64 q,.int .i64 tp,.int .i64 tc,.slice g1 m1 k1,.slice g2 m2 k2,.slice g3 m3 k3,.slice g4 m4 k4],undef,undef,undef,undef,undef,undef,undef,undef,undef,undef,undef,undef,undef,undef,undef,undef,undef,undef,undef,undef,undef,undef,undef,undef,undef,undef,undef,undef,undef,undef,undef,undef,undef,undef,undef,undef,undef,undef,undef,undef,undef,undef,undef,undef,undef,undef,undef,undef,undef,undef,undef,undef,undef,undef,undef,undef],defers:=[]}/\Rg w1 w' gg lo hi (.int .i64 q) (.int .i64 tp) (.int .i64 tc) (.slice g1 m1 k1) (.slice g2 m2 k2) (.slice g3 m3 k3) (.slice g4 m4 k4) (sv g1 g2 g3 g4 m1 m2 m3 m4 k1 k2 k3 k4) eH t) ?tail ?reg
 case reg=>
  refine wp_region_held_drew (S:=fun w'=>Below w1.heap.size w1 w') (by kernel_rfl) ((Below.refl _ _).drew) (fun hHeld=> ?_)
  refine bD (i:=0) (d:=some 25) (v:= ?vr1) (by rfl) (by kernel_rfl) (by kernel_rfl) (by kernel_rfl) (fun _ _ _ h=>(by cases h.1)) (by rfl) ?Za hHeld ?aaJ
  case Za=>
   intro o ho
   simp only[acd,ace,acg]at ho
   subst ho
   intro w' hSw
   first |(go_simp;done) |(go_simp;with_reducible rfl)
  try simp only[Act.put,ab7,ab8,ab9]
  refine bD (i:=2) (d:=some 27) (v:= ?vr2) (by rfl) (by kernel_rfl) (by kernel_rfl) (by kernel_rfl) (fun _ _ _ h=>(by cases h.1)) (by rfl) ?Zb hHeld ?aaK
  case Zb=>
   intro o ho
   simp only[acd,acf,ace,acg]at ho
   subst ho
   intro w' hSw
   first |(go_simp;done) |(go_simp;with_reducible rfl)
  try simp only[Act.put,ab7,ab8,ab9]
  refine bD (i:=4) (d:=some 29) (v:= ?vr3) (by rfl) (by kernel_rfl) (by kernel_rfl) (by kernel_rfl) (fun _ _ _ h=>(by cases h.1)) (by rfl) ?Zc hHeld ?aaL
  case Zc=>
   intro o ho
   simp only[acd,acf,ace,acg]at ho
   subst ho
   intro w' hSw
   first |(go_simp;done) |(go_simp;with_reducible rfl)
  try simp only[Act.put,ab7,ab8,ab9]
  refine wpAnyH_ready (rs:=[1,6]) (by kernel_rfl) (by simp) ?_
  refine AllReadyH.cons rfl (fun K hK=> ?_) (AllReadyH.cons rfl (fun K hK=> ?_) AllReadyH.nil)
  ·go_simp
   refine(HT.c _ (bH.out _ (ah kH.out hHeld))).mono ?_
   rintro e wq ⟨b1,b2,b3,b4,d1,d2,d3,d4,Jf,rfl,h2⟩
   have hbq:=h2.below
   have o2:=h2.own
   have hq:=ah hHeld hbq
   clear h2
   try(have G:=G.below hbq)
   refine hK.out _ _ ?_ (fun hHeld=> ?_)
   ·exact hq
   clear hK K
   try simp only[Act.put,ab7,ab8,ab9]
   refine wpAnyH_ready (rs:=[3,6]) (by kernel_rfl) (by simp) ?_
   refine AllReadyH.cons rfl (fun K hK=> ?_) (AllReadyH.cons rfl (fun K hK=> ?_) AllReadyH.nil)
   ·go_simp
    refine(hTR _).mono ?_
    rintro e wq ⟨rfl,hbq⟩
    have hq:=ah hHeld hbq
    try(have G:=G.below hbq)
    have o2:=o2.below hbq
    refine hK.out _ _ ?_ (fun hHeld=> ?_)
    ·exact hq
    clear hK K
    try simp only[Act.put,ab7,ab8,ab9]
    refine wpAnyH_ready (rs:=[5,6]) (by kernel_rfl) (by simp) ?_
    refine AllReadyH.cons rfl (fun K hK=> ?_) (AllReadyH.cons rfl (fun K hK=> ?_) AllReadyH.nil)
    ·go_simp
     have hlo:=hHeld.size
     try(have hg2:=G.lt)
     refine(HS.c _ _ _ b1 b2 b3 b4 d1 d2 d3 d4 Jf o2).mono ?_
     rintro e wq ⟨g1,g2,g3,g4,k1,k2,k3,k4,eH,rfl,hbq,o3⟩
     have hlh:=hbq.size
     have hq:=ah hHeld hbq
     have hhi:=Nat.le_refl wq.heap.size
     try(have G:=G.below hbq)
     refine hK.out _ _ ?_ (fun hHeld=> ?_)
     ·exact hq
     clear hK K
     try simp only[Act.put,ab7,ab8,ab9]
     refine wpAnyH_ready (rs:=[6]) (by kernel_rfl) (by simp) ?_
     refine AllReadyH.cons rfl (fun K hK=> ?_) AllReadyH.nil
     ·go_simp
      first |(have G:=ZB.new wq;have hgg:=hq.size) |(have G:=(ZB.new w1).drew;have hgg:=Nat.le_refl w1.heap.size)
      try(have i3:=o3;have iq:=hq)
      try(have o2:=o2.below (aj ach))
      refine hK.out _ _ ?_ (fun hHeld=> ?_)
      ·exact ah hHeld (aj _)
      clear hK K
      try simp only[Act.put,ab7,ab8,ab9]
      have hlast:=hHeld
      obtain⟨⟨x0,x1,x2,x3,x4,x5,x6⟩,u0,u1,u2,u3,u4,u5,u6⟩:=aO G.c
      refine wpAnyH_ready (rs:=[7]) (by kernel_rfl) (by simp) ?_
      refine AllReadyH.cons rfl (fun K hK=> ?_) AllReadyH.nil
      go_simp
      refine hK.out _ _ ?_ (fun hHeld=> ?_)
      ·first | with_reducible exact eG hHeld hgg _ _ _ _ _ _ _ | with_reducible exact ah hq (aj _)
      clear hK K
      try simp only[Act.put,ab7,ab8,ab9]
      refine wpAnyH_done (by kernel_rfl) ?_ _
      first
       |(have HG:=Rg.put (.int .i64 q) (.int .i64 tp) (.int .i64 tc) (.slice g1 m1 k1) (.slice g2 m2 k2) (.slice g3 m3 k3) (.slice g4 m4 k4) G o3 (Or.inl hg2) hlo hlh hgg hhi hlast;exact⟨rfl,_,_,_,b1,b2,b3,b4,d1,d2,d3,d4,g1,g2,g3,g4,k1,k2,k3,k4,eH,rfl,HG⟩)
       |(have HG:=Rg.fresh (.int .i64 q) (.int .i64 tp) (.int .i64 tc) (.slice g1 m1 k1) (.slice g2 m2 k2) (.slice g3 m3 k3) (.slice g4 m4 k4) i3 hlo hlh hhi iq;exact⟨rfl,_,_,_,b1,b2,b3,b4,d1,d2,d3,d4,g1,g2,g3,g4,k1,k2,k3,k4,eH,rfl,HG⟩)
    ·go_simp
     first |(have G:=ZB.new wq;have hgg:=hq.size) |(have G:=(ZB.new w1).drew;have hgg:=Nat.le_refl w1.heap.size)
     try(have i3:=o3;have iq:=hq)
     try(have o2:=o2.below (aj ach))
     refine hK.out _ _ ?_ (fun hHeld=> ?_)
     ·exact ah hHeld (aj _)
     clear hK K
     try simp only[Act.put,ab7,ab8,ab9]
     refine wpAnyH_ready (rs:=[5]) (by kernel_rfl) (by simp) ?_
     refine AllReadyH.cons rfl (fun K hK=> ?_) AllReadyH.nil
     ·go_simp
      have hlo:=hHeld.size
      try(have hg2:=G.lt)
      refine(HS.c _ _ _ b1 b2 b3 b4 d1 d2 d3 d4 Jf o2).mono ?_
      rintro e wq ⟨g1,g2,g3,g4,k1,k2,k3,k4,eH,rfl,hbq,o3⟩
      have hlh:=hbq.size
      have hq:=ah hHeld hbq
      have hhi:=Nat.le_refl wq.heap.size
      try(have G:=G.below hbq)
      refine hK.out _ _ ?_ (fun hHeld=> ?_)
      ·exact hq
      clear hK K
      try simp only[Act.put,ab7,ab8,ab9]
      have hlast:=hHeld
      obtain⟨⟨x0,x1,x2,x3,x4,x5,x6⟩,u0,u1,u2,u3,u4,u5,u6⟩:=aO G.c
      refine wpAnyH_ready (rs:=[7]) (by kernel_rfl) (by simp) ?_
      refine AllReadyH.cons rfl (fun K hK=> ?_) AllReadyH.nil
      go_simp
      refine hK.out _ _ ?_ (fun hHeld=> ?_)
      ·first | with_reducible exact eG hHeld hgg _ _ _ _ _ _ _ | with_reducible exact ah hq (aj _)
      clear hK K
      try simp only[Act.put,ab7,ab8,ab9]
      refine wpAnyH_done (by kernel_rfl) ?_ _
      first
       |(have HG:=Rg.put (.int .i64 q) (.int .i64 tp) (.int .i64 tc) (.slice g1 m1 k1) (.slice g2 m2 k2) (.slice g3 m3 k3) (.slice g4 m4 k4) G o3 (Or.inl hg2) hlo hlh hgg hhi hlast;exact⟨rfl,_,_,_,b1,b2,b3,b4,d1,d2,d3,d4,g1,g2,g3,g4,k1,k2,k3,k4,eH,rfl,HG⟩)
       |(have HG:=Rg.fresh (.int .i64 q) (.int .i64 tp) (.int .i64 tc) (.slice g1 m1 k1) (.slice g2 m2 k2) (.slice g3 m3 k3) (.slice g4 m4 k4) i3 hlo hlh hhi iq;exact⟨rfl,_,_,_,b1,b2,b3,b4,d1,d2,d3,d4,g1,g2,g3,g4,k1,k2,k3,k4,eH,rfl,HG⟩)
   ·go_simp
    first |(have G:=ZB.new wq;have hgg:=hq.size) |(have G:=(ZB.new w1).drew;have hgg:=Nat.le_refl w1.heap.size)
    try(have i3:=o3;have iq:=hq)
    try(have o2:=o2.below (aj ach))
    refine hK.out _ _ ?_ (fun hHeld=> ?_)
    ·exact ah hHeld (aj _)
    clear hK K
    try simp only[Act.put,ab7,ab8,ab9]
    refine wpAnyH_ready (rs:=[3]) (by kernel_rfl) (by simp) ?_
    refine AllReadyH.cons rfl (fun K hK=> ?_) AllReadyH.nil
    ·go_simp
     refine(hTR _).mono ?_
     rintro e wq ⟨rfl,hbq⟩
     have hq:=ah hHeld hbq
     try(have G:=G.below hbq)
     have o2:=o2.below hbq
     refine hK.out _ _ ?_ (fun hHeld=> ?_)
     ·exact hq
     clear hK K
     try simp only[Act.put,ab7,ab8,ab9]
     refine wpAnyH_ready (rs:=[5]) (by kernel_rfl) (by simp) ?_
     refine AllReadyH.cons rfl (fun K hK=> ?_) AllReadyH.nil
     ·go_simp
      have hlo:=hHeld.size
      try(have hg2:=G.lt)
      refine(HS.c _ _ _ b1 b2 b3 b4 d1 d2 d3 d4 Jf o2).mono ?_
      rintro e wq ⟨g1,g2,g3,g4,k1,k2,k3,k4,eH,rfl,hbq,o3⟩
      have hlh:=hbq.size
      have hq:=ah hHeld hbq
      have hhi:=Nat.le_refl wq.heap.size
      try(have G:=G.below hbq)
      refine hK.out _ _ ?_ (fun hHeld=> ?_)
      ·exact hq
      clear hK K
      try simp only[Act.put,ab7,ab8,ab9]
      have hlast:=hHeld
      obtain⟨⟨x0,x1,x2,x3,x4,x5,x6⟩,u0,u1,u2,u3,u4,u5,u6⟩:=aO G.c
      refine wpAnyH_ready (rs:=[7]) (by kernel_rfl) (by simp) ?_
      refine AllReadyH.cons rfl (fun K hK=> ?_) AllReadyH.nil
      go_simp
      refine hK.out _ _ ?_ (fun hHeld=> ?_)
      ·first | with_reducible exact eG hHeld hgg _ _ _ _ _ _ _ | with_reducible exact ah hq (aj _)
      clear hK K
      try simp only[Act.put,ab7,ab8,ab9]
      refine wpAnyH_done (by kernel_rfl) ?_ _
      first
       |(have HG:=Rg.put (.int .i64 q) (.int .i64 tp) (.int .i64 tc) (.slice g1 m1 k1) (.slice g2 m2 k2) (.slice g3 m3 k3) (.slice g4 m4 k4) G o3 (Or.inl hg2) hlo hlh hgg hhi hlast;exact⟨rfl,_,_,_,b1,b2,b3,b4,d1,d2,d3,d4,g1,g2,g3,g4,k1,k2,k3,k4,eH,rfl,HG⟩)
       |(have HG:=Rg.fresh (.int .i64 q) (.int .i64 tp) (.int .i64 tc) (.slice g1 m1 k1) (.slice g2 m2 k2) (.slice g3 m3 k3) (.slice g4 m4 k4) i3 hlo hlh hhi iq;exact⟨rfl,_,_,_,b1,b2,b3,b4,d1,d2,d3,d4,g1,g2,g3,g4,k1,k2,k3,k4,eH,rfl,HG⟩)
  ·go_simp
   first |(have G:=ZB.new wq;have hgg:=hq.size) |(have G:=(ZB.new w1).drew;have hgg:=Nat.le_refl w1.heap.size)
   try(have i3:=o3;have iq:=hq)
   try(have o2:=o2.below (aj ach))
   refine hK.out _ _ ?_ (fun hHeld=> ?_)
   ·exact ah hHeld (aj _)
   clear hK K
   try simp only[Act.put,ab7,ab8,ab9]
   refine wpAnyH_ready (rs:=[1]) (by kernel_rfl) (by simp) ?_
   refine AllReadyH.cons rfl (fun K hK=> ?_) AllReadyH.nil
   ·go_simp
    refine(HT.c _ (bH.out _ (ah kH.out hHeld))).mono ?_
    rintro e wq ⟨b1,b2,b3,b4,d1,d2,d3,d4,Jf,rfl,h2⟩
    have hbq:=h2.below
    have o2:=h2.own
    have hq:=ah hHeld hbq
    clear h2
    try(have G:=G.below hbq)
    refine hK.out _ _ ?_ (fun hHeld=> ?_)
    ·exact hq
    clear hK K
    try simp only[Act.put,ab7,ab8,ab9]
    refine wpAnyH_ready (rs:=[3]) (by kernel_rfl) (by simp) ?_
    refine AllReadyH.cons rfl (fun K hK=> ?_) AllReadyH.nil
    ·go_simp
     refine(hTR _).mono ?_
     rintro e wq ⟨rfl,hbq⟩
     have hq:=ah hHeld hbq
     try(have G:=G.below hbq)
     have o2:=o2.below hbq
     refine hK.out _ _ ?_ (fun hHeld=> ?_)
     ·exact hq
     clear hK K
     try simp only[Act.put,ab7,ab8,ab9]
     refine wpAnyH_ready (rs:=[5]) (by kernel_rfl) (by simp) ?_
     refine AllReadyH.cons rfl (fun K hK=> ?_) AllReadyH.nil
     ·go_simp
      have hlo:=hHeld.size
      try(have hg2:=G.lt)
      refine(HS.c _ _ _ b1 b2 b3 b4 d1 d2 d3 d4 Jf o2).mono ?_
      rintro e wq ⟨g1,g2,g3,g4,k1,k2,k3,k4,eH,rfl,hbq,o3⟩
      have hlh:=hbq.size
      have hq:=ah hHeld hbq
      have hhi:=Nat.le_refl wq.heap.size
      try(have G:=G.below hbq)
      refine hK.out _ _ ?_ (fun hHeld=> ?_)
      ·exact hq
      clear hK K
      try simp only[Act.put,ab7,ab8,ab9]
      have hlast:=hHeld
      obtain⟨⟨x0,x1,x2,x3,x4,x5,x6⟩,u0,u1,u2,u3,u4,u5,u6⟩:=aO G.c
      refine wpAnyH_ready (rs:=[7]) (by kernel_rfl) (by simp) ?_
      refine AllReadyH.cons rfl (fun K hK=> ?_) AllReadyH.nil
      go_simp
      refine hK.out _ _ ?_ (fun hHeld=> ?_)
      ·first | with_reducible exact eG hHeld hgg _ _ _ _ _ _ _ | with_reducible exact ah hq (aj _)
      clear hK K
      try simp only[Act.put,ab7,ab8,ab9]
      refine wpAnyH_done (by kernel_rfl) ?_ _
      first
       |(have HG:=Rg.put (.int .i64 q) (.int .i64 tp) (.int .i64 tc) (.slice g1 m1 k1) (.slice g2 m2 k2) (.slice g3 m3 k3) (.slice g4 m4 k4) G o3 (Or.inl hg2) hlo hlh hgg hhi hlast;exact⟨rfl,_,_,_,b1,b2,b3,b4,d1,d2,d3,d4,g1,g2,g3,g4,k1,k2,k3,k4,eH,rfl,HG⟩)
       |(have HG:=Rg.fresh (.int .i64 q) (.int .i64 tp) (.int .i64 tc) (.slice g1 m1 k1) (.slice g2 m2 k2) (.slice g3 m3 k3) (.slice g4 m4 k4) i3 hlo hlh hhi iq;exact⟨rfl,_,_,_,b1,b2,b3,b4,d1,d2,d3,d4,g1,g2,g3,g4,k1,k2,k3,k4,eH,rfl,HG⟩)
 rintro _ _ W3 ⟨rfl,KC,lo3,hi3,b1,b2,b3,b4,d1,d2,d3,d4,p1,p2,p3,p4,r1,r2,r3,r4,eH,rfl,G3⟩
 dsimp only
 have hbr:Below W.heap.size W W3:=ah HR1.out G3.bel
 have hP3:=G3.c
 have o3:=G3.own
 have hl3:KC<W3.heap.size:=G3.lt
 have hh3:hi3<=W3.heap.size:=G3.h1
 have YM:w1.heap.size<=W3.heap.size:=G3.bel.size
 have YN:W.heap.size<=w1.heap.size:=HR1.out.size
 clear HS q0 q1 q2 q3 q4 q5 q6 q7 q8 q9 G3 kH HR1
 obtain⟨⟨x0,x1,x2,x3,x4,x5⟩,-⟩:=ay (HX.out _ hbr)
 go_wp2_with fail
 refine(HT.c _ (bH.out _ hbr)).mono ?_
 rintro e w4 ⟨e1,e2,e3,e4,f1,f2,f3,f4,Yv,rfl,h4⟩
 clear x0 x1 x2 x3 x4 x5
 obtain⟨W5,uD⟩:∃W5,W5=w4.alloc (.cells #[.int .i64 ph,.int .i64 cu,.slice e1 n1 f1,.slice e2 n2 f2,.slice e3 n3 f3,.slice e4 n4 f4] 41):=⟨_,rfl⟩
 have Oz:Hid _:=uD.symm
 have KL:W5.heap[w4.heap.size]? = some (.cells #[.int .i64 ph,.int .i64 cu,.slice e1 n1 f1,.slice e2 n2 f2,.slice e3 n3 f3,.slice e4 n4 f4] 41):=by rw[uD];exact heap_alloc_new w4 _
 have hb5:Below w4.heap.size w4 W5:=by rw[uD];exact aj _
 have MG:Below W3.heap.size W3 W5:=ah h4.below hb5
 have o4:=h4.own.below hb5
 have o3:=o3.below MG
 have hP3:=(MG.block _ hl3).trans hP3
 have hbr:Below W.heap.size W W5:=ah hbr MG
 have hl5:w4.heap.size<W5.heap.size:=(Array.getElem?_eq_some_iff.1 KL).1
 have hl4:W3.heap.size<=w4.heap.size:=h4.below.size
 have kU:Hid (Below W.heap.size W W5):=hbr
 have XK:Hid (W5.heap[KC]? = some (.cells #[.int .i64 q,.int .i64 tp,.int .i64 tc,.slice p1 m1 r1,.slice p2 m2 r2,.slice p3 m3 r3,.slice p4 m4 r4] 43)):=hP3
 have Dx:Hid (W5.heap[w4.heap.size]? = some (.cells #[.int .i64 ph,.int .i64 cu,.slice e1 n1 f1,.slice e2 n2 f2,.slice e3 n3 f3,.slice e4 n4 f4] 41)):=KL
 have qJ:Hid (∀w',Below W5.heap.size W5 w'->Sts w' (sv e1 e2 e3 e4 n1 n2 n3 n4 f1 f2 f3 f4) s):=fun w' hb=>(o4.below hb).sts
 have rX:Hid (w4.heap.size<W5.heap.size):=hl5
 clear h4 hb5 MG uD hP3 KL hbr hl5
 go_wp2_with fail
 rw[Oz.out]
 clear Oz
 have q0:∀w',Below W5.heap.size W5 w'->w'.cell? ⟨w.heap.size,0,none⟩=some (.int .i64 ph):=fun w' h=>(ay (HX.out _ (ah kU.out h))).1.1
 have q1:∀w',Below W5.heap.size W5 w'->w'.cell? ⟨w.heap.size,1,none⟩=some (.int .i64 cu):=fun w' h=>(ay (HX.out _ (ah kU.out h))).1.2.1
 have q2:∀w',Below W5.heap.size W5 w'->w'.cell? ⟨w.heap.size,2,none⟩=some (.slice a1 n1 c1):=fun w' h=>(ay (HX.out _ (ah kU.out h))).1.2.2.1
 have q3:∀w',Below W5.heap.size W5 w'->w'.cell? ⟨w.heap.size,3,none⟩=some (.slice a2 n2 c2):=fun w' h=>(ay (HX.out _ (ah kU.out h))).1.2.2.2.1
 have q4:∀w',Below W5.heap.size W5 w'->w'.cell? ⟨w.heap.size,4,none⟩=some (.slice a3 n3 c3):=fun w' h=>(ay (HX.out _ (ah kU.out h))).1.2.2.2.2.1
 have q5:∀w',Below W5.heap.size W5 w'->w'.cell? ⟨w.heap.size,5,none⟩=some (.slice a4 n4 c4):=fun w' h=>(ay (HX.out _ (ah kU.out h))).1.2.2.2.2.2
 have q6:∀w',Below W5.heap.size W5 w'->w'.cell? ⟨w.heap.size+1,0,none⟩=some (.string v0):=fun w' h=>(bW (HY.out _ (ah kU.out h))).1
 have q7:∀w',Below W5.heap.size W5 w'->w'.cell? ⟨w.heap.size+1,1,none⟩=some (.int .i64 v1):=fun w' h=>(bW (HY.out _ (ah kU.out h))).2.1
 have q8:∀w',Below W5.heap.size W5 w'->w'.cell? ⟨w.heap.size+1,2,none⟩=some (.int .i64 v2):=fun w' h=>(bW (HY.out _ (ah kU.out h))).2.2.1
 have q9:∀w',Below W5.heap.size W5 w'->w'.cell? ⟨w.heap.size+1,3,none⟩=some (.int .i64 v3):=fun w' h=>(bW (HY.out _ (ah kU.out h))).2.2.2.1
 have q10:∀w',Below W5.heap.size W5 w'->w'.cell? ⟨w4.heap.size,0,none⟩=some (.int .i64 ph):=fun w' h=>(ay ((h.block _ rX.out).trans Dx.out)).1.1
 have q11:∀w',Below W5.heap.size W5 w'->w'.cell? ⟨w4.heap.size,1,none⟩=some (.int .i64 cu):=fun w' h=>(ay ((h.block _ rX.out).trans Dx.out)).1.2.1
 have q12:∀w',Below W5.heap.size W5 w'->w'.cell? ⟨w4.heap.size,2,none⟩=some (.slice e1 n1 f1):=fun w' h=>(ay ((h.block _ rX.out).trans Dx.out)).1.2.2.1
 have q13:∀w',Below W5.heap.size W5 w'->w'.cell? ⟨w4.heap.size,3,none⟩=some (.slice e2 n2 f2):=fun w' h=>(ay ((h.block _ rX.out).trans Dx.out)).1.2.2.2.1
 have q14:∀w',Below W5.heap.size W5 w'->w'.cell? ⟨w4.heap.size,4,none⟩=some (.slice e3 n3 f3):=fun w' h=>(ay ((h.block _ rX.out).trans Dx.out)).1.2.2.2.2.1
 have q15:∀w',Below W5.heap.size W5 w'->w'.cell? ⟨w4.heap.size,5,none⟩=some (.slice e4 n4 f4):=fun w' h=>(ay ((h.block _ rX.out).trans Dx.out)).1.2.2.2.2.2
 refine Code.wp_mono (Q:=fun e a' w'=>e=Exit.normal/\∃(gg lo hi:Nat)(g1 g2 g3 g4:Option Addr)(k1 k2 k3 k4:Nat)(eH:List Value),a' = {tmps:=#[.agg #[.int .i64 ph,.int .i64 cu,.slice a1 n1 c1,.slice a2 n2 c2,.slice a3 n3 c3,.slice a4 n4 c4],.agg #[.string v0,.int .i64 v1,.int .i64 v2,.int .i64 v3],.int .i64 xx,.pointer (some ⟨w.heap.size,0,none⟩),.pointer (some ⟨w.heap.size+1,0,none⟩),undef,.bool false,.int .i64 zz,.pointer (some ⟨KC,0,none⟩),.pointer (some ⟨w4.heap.size,0,none⟩),.pointer (some ⟨gg,0,none⟩),undef,undef,undef,undef,.agg #[.int .i64 ph,.int .i64 cu,.slice a1 n1 c1,.slice a2 n2 c2,.slice a3 n3 c3,.slice a4 n4 c4],.int .i64 1048576,.int .i64 z,.int .i64 z,.bool (decide (z<0)),.agg #[.string v0,.int .i64 v1,.int .i64 v2,.int .i64 v3],.int .i64 z,.int .i64 zz,.int .i64 zz,.bool (decide (zz<0)),.agg #[.int .i64 ph,.int .i64 cu,.slice a1 n1 c1,.slice a2 n2 c2,.slice a3 n3 c3,.slice a4 n4 c4],.agg #[.int .i64 ph,.int .i64 cu,.slice b1 n1 d1,.slice b2 n2 d2,.slice b3 n3 d3,.slice b4 n4 d4],.agg #[.string v0,.int .i64 v1,.int .i64 v2,.int .i64 v3],.agg #[.string v0,.int .i64 v1,.int .i64 v2,.int .i64 v3],.int .i64 xx,.agg #[.int .i64 q,.int .i64 tp,.int .i64 tc,.slice p1 m1 r1,.slice p2 m2 r2,.slice p3 m3 r3,.slice p4 m4 r4],.agg #[.int .i64 ph,.int .i64 cu,.slice a1 n1 c1,.slice a2 n2 c2,.slice a3 n3 c3,.slice a4 n4 c4],.agg #[.int .i64 ph,.int .i64 cu,.slice e1 n1 f1,.slice e2 n2 f2,.slice e3 n3 f3,.slice e4 n4 f4],.agg #[.int .i64 ph,.int .i64 cu,.slice e1 n1 f1,.slice e2 n2 f2,.slice e3 n3 f3,.slice e4 n4 f4],.agg #[.string v0,.int .i64 v1,.int .i64 v2,.int .i64 v3],.agg #[.string v0,.int .i64 v1,.int .i64 v2,.int .i64 v3],.int .i64 xx,.agg #[.int .i64 q,.int .i64 tp,.int .i64 tc,.slice g1 m1 k1,.slice g2 m2 k2,.slice g3 m3 k3,.slice g4 m4 k4],undef,undef,undef,undef,undef,undef,undef,undef,undef,undef,undef,undef,undef,undef,undef,undef,undef,undef,undef,undef,undef,undef,undef,undef,undef,undef,undef,undef,undef,undef,undef,undef,undef,undef,undef,undef,undef,undef,undef,undef,undef,undef,undef,undef,undef,undef,undef,undef,undef],defers:=[]}/\Rg W5 w' gg lo hi (.int .i64 q) (.int .i64 tp) (.int .i64 tc) (.slice g1 m1 k1) (.slice g2 m2 k2) (.slice g3 m3 k3) (.slice g4 m4 k4) (sv g1 g2 g3 g4 m1 m2 m3 m4 k1 k2 k3 k4) eH t) ?aa2 ?Zj
 case Zj=>
  refine wp_region_held_drew (S:=fun w'=>Below W5.heap.size W5 w') (by kernel_rfl) ((Below.refl _ _).drew) (fun hHeld=> ?_)
  refine bD (i:=0) (d:=some 33) (v:= ?vt1) (by rfl) (by kernel_rfl) (by kernel_rfl) (by kernel_rfl) (fun _ _ _ h=>(by cases h.1)) (by rfl) ?Zg hHeld ?aaP
  case Zg=>
   intro o ho
   simp only[acd,ace,acg]at ho
   subst ho
   intro w' hSw
   first |(go_simp;done) |(go_simp;with_reducible rfl)
  try simp only[Act.put,ab7,ab8,ab9]
  refine bD (i:=1) (d:=some 34) (v:= ?vt2) (by rfl) (by kernel_rfl) (by kernel_rfl) (by kernel_rfl) (fun _ _ _ h=>(by cases h.1)) (by rfl) ?Zh hHeld ?aaQ
  case Zh=>
   intro o ho
   simp only[acd,acf,ace,acg]at ho
   subst ho
   intro w' hSw
   first |(go_simp;done) |(go_simp;with_reducible rfl)
  try simp only[Act.put,ab7,ab8,ab9]
  refine bD (i:=3) (d:=some 36) (v:= ?vt3) (by rfl) (by kernel_rfl) (by kernel_rfl) (by kernel_rfl) (fun _ _ _ h=>(by cases h.1)) (by rfl) ?Zi hHeld ?aaR
  case Zi=>
   intro o ho
   simp only[acd,acf,ace,acg]at ho
   subst ho
   intro w' hSw
   first |(go_simp;done) |(go_simp;with_reducible rfl)
  try simp only[Act.put,ab7,ab8,ab9]
  refine wpAnyH_ready (rs:=[2,5]) (by kernel_rfl) (by simp) ?_
  refine AllReadyH.cons rfl (fun K hK=> ?_) (AllReadyH.cons rfl (fun K hK=> ?_) AllReadyH.nil)
  ·go_simp
   refine(hTR _).mono ?_
   rintro e wq ⟨rfl,hbq⟩
   have hq:=ah hHeld hbq
   try(have G:=G.below hbq)
   refine hK.out _ _ ?_ (fun hHeld=> ?_)
   ·exact hq
   clear hK K
   try simp only[Act.put,ab7,ab8,ab9]
   refine wpAnyH_ready (rs:=[4,5]) (by kernel_rfl) (by simp) ?_
   refine AllReadyH.cons rfl (fun K hK=> ?_) (AllReadyH.cons rfl (fun K hK=> ?_) AllReadyH.nil)
   ·go_simp
    have hlo:=hHeld.size
    try(have hg2:=G.lt)
    refine(HI.c _ e1 e2 e3 e4 f1 f2 f3 f4 (qJ.out _ hHeld)).mono ?_
    rintro e wq ⟨g1,g2,g3,g4,k1,k2,k3,k4,eH,rfl,hbq,o3⟩
    have hlh:=hbq.size
    have hq:=ah hHeld hbq
    have hhi:=Nat.le_refl wq.heap.size
    try(have G:=G.below hbq)
    refine hK.out _ _ ?_ (fun hHeld=> ?_)
    ·exact hq
    clear hK K
    try simp only[Act.put,ab7,ab8,ab9]
    refine wpAnyH_ready (rs:=[5]) (by kernel_rfl) (by simp) ?_
    refine AllReadyH.cons rfl (fun K hK=> ?_) AllReadyH.nil
    ·go_simp
     first |(have G:=ZB.new wq;have hgg:=hq.size) |(have G:=(ZB.new W5).drew;have hgg:=Nat.le_refl W5.heap.size)
     try(have i3:=o3;have iq:=hq)
     try(have o2:=o2.below (aj ach))
     refine hK.out _ _ ?_ (fun hHeld=> ?_)
     ·exact ah hHeld (aj _)
     clear hK K
     try simp only[Act.put,ab7,ab8,ab9]
     have hlast:=hHeld
     obtain⟨⟨x0,x1,x2,x3,x4,x5,x6⟩,u0,u1,u2,u3,u4,u5,u6⟩:=aO G.c
     refine wpAnyH_ready (rs:=[6]) (by kernel_rfl) (by simp) ?_
     refine AllReadyH.cons rfl (fun K hK=> ?_) AllReadyH.nil
     go_simp
     refine hK.out _ _ ?_ (fun hHeld=> ?_)
     ·first | with_reducible exact eG hHeld hgg _ _ _ _ _ _ _ | with_reducible exact ah hq (aj _)
     clear hK K
     try simp only[Act.put,ab7,ab8,ab9]
     refine wpAnyH_done (by kernel_rfl) ?_ _
     first
      |(have HG:=Rg.put (.int .i64 q) (.int .i64 tp) (.int .i64 tc) (.slice g1 m1 k1) (.slice g2 m2 k2) (.slice g3 m3 k3) (.slice g4 m4 k4) G o3 (Or.inl hg2) hlo hlh hgg hhi hlast;exact⟨rfl,_,_,_,g1,g2,g3,g4,k1,k2,k3,k4,eH,rfl,HG⟩)
      |(have HG:=Rg.fresh (.int .i64 q) (.int .i64 tp) (.int .i64 tc) (.slice g1 m1 k1) (.slice g2 m2 k2) (.slice g3 m3 k3) (.slice g4 m4 k4) i3 hlo hlh hhi iq;exact⟨rfl,_,_,_,g1,g2,g3,g4,k1,k2,k3,k4,eH,rfl,HG⟩)
   ·go_simp
    first |(have G:=ZB.new wq;have hgg:=hq.size) |(have G:=(ZB.new W5).drew;have hgg:=Nat.le_refl W5.heap.size)
    try(have i3:=o3;have iq:=hq)
    try(have o2:=o2.below (aj ach))
    refine hK.out _ _ ?_ (fun hHeld=> ?_)
    ·exact ah hHeld (aj _)
    clear hK K
    try simp only[Act.put,ab7,ab8,ab9]
    refine wpAnyH_ready (rs:=[4]) (by kernel_rfl) (by simp) ?_
    refine AllReadyH.cons rfl (fun K hK=> ?_) AllReadyH.nil
    ·go_simp
     have hlo:=hHeld.size
     try(have hg2:=G.lt)
     refine(HI.c _ e1 e2 e3 e4 f1 f2 f3 f4 (qJ.out _ hHeld)).mono ?_
     rintro e wq ⟨g1,g2,g3,g4,k1,k2,k3,k4,eH,rfl,hbq,o3⟩
     have hlh:=hbq.size
     have hq:=ah hHeld hbq
     have hhi:=Nat.le_refl wq.heap.size
     try(have G:=G.below hbq)
     refine hK.out _ _ ?_ (fun hHeld=> ?_)
     ·exact hq
     clear hK K
     try simp only[Act.put,ab7,ab8,ab9]
     have hlast:=hHeld
     obtain⟨⟨x0,x1,x2,x3,x4,x5,x6⟩,u0,u1,u2,u3,u4,u5,u6⟩:=aO G.c
     refine wpAnyH_ready (rs:=[6]) (by kernel_rfl) (by simp) ?_
     refine AllReadyH.cons rfl (fun K hK=> ?_) AllReadyH.nil
     go_simp
     refine hK.out _ _ ?_ (fun hHeld=> ?_)
     ·first | with_reducible exact eG hHeld hgg _ _ _ _ _ _ _ | with_reducible exact ah hq (aj _)
     clear hK K
     try simp only[Act.put,ab7,ab8,ab9]
     refine wpAnyH_done (by kernel_rfl) ?_ _
     first
      |(have HG:=Rg.put (.int .i64 q) (.int .i64 tp) (.int .i64 tc) (.slice g1 m1 k1) (.slice g2 m2 k2) (.slice g3 m3 k3) (.slice g4 m4 k4) G o3 (Or.inl hg2) hlo hlh hgg hhi hlast;exact⟨rfl,_,_,_,g1,g2,g3,g4,k1,k2,k3,k4,eH,rfl,HG⟩)
      |(have HG:=Rg.fresh (.int .i64 q) (.int .i64 tp) (.int .i64 tc) (.slice g1 m1 k1) (.slice g2 m2 k2) (.slice g3 m3 k3) (.slice g4 m4 k4) i3 hlo hlh hhi iq;exact⟨rfl,_,_,_,g1,g2,g3,g4,k1,k2,k3,k4,eH,rfl,HG⟩)
  ·go_simp
   first |(have G:=ZB.new wq;have hgg:=hq.size) |(have G:=(ZB.new W5).drew;have hgg:=Nat.le_refl W5.heap.size)
   try(have i3:=o3;have iq:=hq)
   try(have o2:=o2.below (aj ach))
   refine hK.out _ _ ?_ (fun hHeld=> ?_)
   ·exact ah hHeld (aj _)
   clear hK K
   try simp only[Act.put,ab7,ab8,ab9]
   refine wpAnyH_ready (rs:=[2]) (by kernel_rfl) (by simp) ?_
   refine AllReadyH.cons rfl (fun K hK=> ?_) AllReadyH.nil
   ·go_simp
    refine(hTR _).mono ?_
    rintro e wq ⟨rfl,hbq⟩
    have hq:=ah hHeld hbq
    try(have G:=G.below hbq)
    refine hK.out _ _ ?_ (fun hHeld=> ?_)
    ·exact hq
    clear hK K
    try simp only[Act.put,ab7,ab8,ab9]
    refine wpAnyH_ready (rs:=[4]) (by kernel_rfl) (by simp) ?_
    refine AllReadyH.cons rfl (fun K hK=> ?_) AllReadyH.nil
    ·go_simp
     have hlo:=hHeld.size
     try(have hg2:=G.lt)
     refine(HI.c _ e1 e2 e3 e4 f1 f2 f3 f4 (qJ.out _ hHeld)).mono ?_
     rintro e wq ⟨g1,g2,g3,g4,k1,k2,k3,k4,eH,rfl,hbq,o3⟩
     have hlh:=hbq.size
     have hq:=ah hHeld hbq
     have hhi:=Nat.le_refl wq.heap.size
     try(have G:=G.below hbq)
     refine hK.out _ _ ?_ (fun hHeld=> ?_)
     ·exact hq
     clear hK K
     try simp only[Act.put,ab7,ab8,ab9]
     have hlast:=hHeld
     obtain⟨⟨x0,x1,x2,x3,x4,x5,x6⟩,u0,u1,u2,u3,u4,u5,u6⟩:=aO G.c
     refine wpAnyH_ready (rs:=[6]) (by kernel_rfl) (by simp) ?_
     refine AllReadyH.cons rfl (fun K hK=> ?_) AllReadyH.nil
     go_simp
     refine hK.out _ _ ?_ (fun hHeld=> ?_)
     ·first | with_reducible exact eG hHeld hgg _ _ _ _ _ _ _ | with_reducible exact ah hq (aj _)
     clear hK K
     try simp only[Act.put,ab7,ab8,ab9]
     refine wpAnyH_done (by kernel_rfl) ?_ _
     first
      |(have HG:=Rg.put (.int .i64 q) (.int .i64 tp) (.int .i64 tc) (.slice g1 m1 k1) (.slice g2 m2 k2) (.slice g3 m3 k3) (.slice g4 m4 k4) G o3 (Or.inl hg2) hlo hlh hgg hhi hlast;exact⟨rfl,_,_,_,g1,g2,g3,g4,k1,k2,k3,k4,eH,rfl,HG⟩)
      |(have HG:=Rg.fresh (.int .i64 q) (.int .i64 tp) (.int .i64 tc) (.slice g1 m1 k1) (.slice g2 m2 k2) (.slice g3 m3 k3) (.slice g4 m4 k4) i3 hlo hlh hhi iq;exact⟨rfl,_,_,_,g1,g2,g3,g4,k1,k2,k3,k4,eH,rfl,HG⟩)
 rintro _ _ W6 ⟨rfl,g6,ru,ng,g1,g2,g3,g4,k1,k2,k3,k4,Yw,rfl,G6⟩
 dsimp only
 have zC:=G6.bel
 have o6:=G6.own
 have Yc:=G6.c
 have Z8:g6<W6.heap.size:=G6.lt
 have hbr:Below W.heap.size W W6:=ah kU.out zC
 have Yd:=HX.out _ hbr
 have Ye:=HY.out _ hbr
 have hP3:=(zC.block _ (Nat.lt_of_lt_of_le hl3 (by have:=rX.out;omega))).trans XK.out
 have KL:=(zC.block _ rX.out).trans Dx.out
 have o4:=o4.below zC
 have o3:=o3.below zC
 have Z7:=G6.out
 have hm0:=G6.l0
 have hm1:=G6.l1
 have hm2:=G6.h1
 have DZ:=rX.out
 have hm4:=zC.size
 have hm5:=G6.lh
 have HK:Hid (∀w',Kp W3.heap.size w4.heap.size ru ng W6 w'->w'.heap[w.heap.size]? = some (.cells #[.int .i64 ph,.int .i64 cu,.slice a1 n1 c1,.slice a2 n2 c2,.slice a3 n3 c3,.slice a4 n4 c4] 29)/\w'.heap[KC]? = some (.cells #[.int .i64 q,.int .i64 tp,.int .i64 tc,.slice p1 m1 r1,.slice p2 m2 r2,.slice p3 m3 r3,.slice p4 m4 r4] 43)/\w'.heap[w4.heap.size]? = some (.cells #[.int .i64 ph,.int .i64 cu,.slice e1 n1 f1,.slice e2 n2 f2,.slice e3 n3 f3,.slice e4 n4 f4] 41)/\w'.heap[g6]? = some (.cells #[.int .i64 q,.int .i64 tp,.int .i64 tc,.slice g1 m1 k1,.slice g2 m2 k2,.slice g3 m3 k3,.slice g4 m4 k4] 43)):=(fun w' k=>⟨(k.block _ (by omega) (by omega) (by omega)).trans Yd,(k.block _ (by omega) (by omega) (by omega)).trans hP3,(k.block _ (by omega) (by omega) (by omega)).trans KL,(k.block _ (by omega) (by omega) (by omega)).trans Yc⟩:∀w',Kp W3.heap.size w4.heap.size ru ng W6 w'->w'.heap[w.heap.size]? = some (.cells #[.int .i64 ph,.int .i64 cu,.slice a1 n1 c1,.slice a2 n2 c2,.slice a3 n3 c3,.slice a4 n4 c4] 29)/\w'.heap[KC]? = some (.cells #[.int .i64 q,.int .i64 tp,.int .i64 tc,.slice p1 m1 r1,.slice p2 m2 r2,.slice p3 m3 r3,.slice p4 m4 r4] 43)/\w'.heap[w4.heap.size]? = some (.cells #[.int .i64 ph,.int .i64 cu,.slice e1 n1 f1,.slice e2 n2 f2,.slice e3 n3 f3,.slice e4 n4 f4] 41)/\w'.heap[g6]? = some (.cells #[.int .i64 q,.int .i64 tp,.int .i64 tc,.slice g1 m1 k1,.slice g2 m2 k2,.slice g3 m3 k3,.slice g4 m4 k4] 43))
 have TN:Hid (∀w',Kp W3.heap.size w4.heap.size ru ng W6 w'->w'.heap[w.heap.size+1]? = some (.cells #[.string v0,.int .i64 v1,.int .i64 v2,.int .i64 v3] 31)):=(fun w' k=>(k.block _ (by omega) (by omega) (by omega)).trans Ye:∀w',Kp W3.heap.size w4.heap.size ru ng W6 w'->w'.heap[w.heap.size+1]? = some (.cells #[.string v0,.int .i64 v1,.int .i64 v2,.int .i64 v3] 31))
 have HKB:Hid (∀w',Kp W3.heap.size w4.heap.size ru ng W6 w'->Below w.heap.size w w'):=(fun w' k=>k.to (bH.out _ hbr) (by omega) (by omega):∀w',Kp W3.heap.size w4.heap.size ru ng W6 w'->Below w.heap.size w w')
 have iY:Hid (∀w',Kp W3.heap.size w4.heap.size ru ng W6 w'->Sts w' (sv p1 p2 p3 p4 m1 m2 m3 m4 r1 r2 r3 r4) t):=(fun w' k=>(k.own o3 (by omega) (by omega)).sts:∀w',Kp W3.heap.size w4.heap.size ru ng W6 w'->Sts w' (sv p1 p2 p3 p4 m1 m2 m3 m4 r1 r2 r3 r4) t)
 have QV:Hid (w4.heap.size<=ru/\w4.heap.size<=W6.heap.size/\ng<=W6.heap.size):=(by omega:w4.heap.size<=ru/\w4.heap.size<=W6.heap.size/\ng<=W6.heap.size)
 have kp:=Kp.refl W3.heap.size w4.heap.size ru ng W6
 clear zC G6 hP3 KL Yc Yd Ye o3 HX HY bH hbr XK Dx hl3 hl4 Z8 hh3 YM YN oG Z7 hm0 hm1 hm2 DZ hm4 hm5 qJ rX kU q0 q1 q2 q3 q4 q5 q6 q7 q8 q9 q10 q11 q12 q13 q14 q15
 obtain⟨-,kA,-,kB⟩:=HK.out _ kp
 obtain⟨⟨y0,y1,y2,y3,y4,y5,y6⟩,-⟩:=aO kA
 obtain⟨⟨z0,z1,z2,z3,z4,z5,z6⟩,-⟩:=aO kB
 clear kA kB
 go_wp2_with fail
 refine(HE.c _ g1 g2 g3 g4 p1 p2 p3 p4 k1 k2 k3 k4 r1 r2 r3 r4 o6.sts (iY.out _ kp)).mono ?_
 rintro e w7 ⟨rfl,hb7⟩
 have kp:=kp.below hb7
 have o4:=o4.below hb7
 have o6:=o6.below hb7
 have VK:Hid (w4.heap.size<=w7.heap.size/\ng<=w7.heap.size):=⟨Nat.le_trans QV.out.2.1 hb7.size,Nat.le_trans QV.out.2.2 hb7.size⟩
 clear hb7 y0 y1 y2 y3 y4 y5 y6 z0 z1 z2 z3 z4 z5 z6
 obtain⟨kX,-,kY,-⟩:=HK.out _ kp
 obtain⟨⟨x0,x1,x2,x3,x4,x5⟩,-⟩:=ay kX
 obtain⟨⟨y0,y1,y2,y3,y4,y5⟩,-⟩:=ay kY
 clear kX kY
 have HC2:Hid (∀w',Below w7.heap.size w7 w'->(w'.cell? ⟨w4.heap.size,0,none⟩=some (.int .i64 ph)/\w'.cell? ⟨w4.heap.size,1,none⟩=some (.int .i64 cu)/\w'.cell? ⟨w4.heap.size,2,none⟩=some (.slice e1 n1 f1)/\w'.cell? ⟨w4.heap.size,3,none⟩=some (.slice e2 n2 f2)/\w'.cell? ⟨w4.heap.size,4,none⟩=some (.slice e3 n3 f3)/\w'.cell? ⟨w4.heap.size,5,none⟩=some (.slice e4 n4 f4))/\w'.cell? ⟨w.heap.size,0,none⟩=some (.int .i64 ph)/\w'.cell? ⟨w.heap.size,1,none⟩=some (.int .i64 cu)/\w'.cell? ⟨w.heap.size,2,none⟩=some (.slice a1 n1 c1)/\w'.cell? ⟨w.heap.size,3,none⟩=some (.slice a2 n2 c2)/\w'.cell? ⟨w.heap.size,4,none⟩=some (.slice a3 n3 c3)/\w'.cell? ⟨w.heap.size,5,none⟩=some (.slice a4 n4 c4)):=(fun w' hb=>⟨(ay (HK.out _ (kp.below hb)).2.2.1).1,(ay (HK.out _ (kp.below hb)).1).1⟩:∀w',Below w7.heap.size w7 w'->(w'.cell? ⟨w4.heap.size,0,none⟩=some (.int .i64 ph)/\w'.cell? ⟨w4.heap.size,1,none⟩=some (.int .i64 cu)/\w'.cell? ⟨w4.heap.size,2,none⟩=some (.slice e1 n1 f1)/\w'.cell? ⟨w4.heap.size,3,none⟩=some (.slice e2 n2 f2)/\w'.cell? ⟨w4.heap.size,4,none⟩=some (.slice e3 n3 f3)/\w'.cell? ⟨w4.heap.size,5,none⟩=some (.slice e4 n4 f4))/\w'.cell? ⟨w.heap.size,0,none⟩=some (.int .i64 ph)/\w'.cell? ⟨w.heap.size,1,none⟩=some (.int .i64 cu)/\w'.cell? ⟨w.heap.size,2,none⟩=some (.slice a1 n1 c1)/\w'.cell? ⟨w.heap.size,3,none⟩=some (.slice a2 n2 c2)/\w'.cell? ⟨w.heap.size,4,none⟩=some (.slice a3 n3 c3)/\w'.cell? ⟨w.heap.size,5,none⟩=some (.slice a4 n4 c4))
 have XP:Hid (∀w',Below w7.heap.size w7 w'->Sts w' (sv e1 e2 e3 e4 n1 n2 n3 n4 f1 f2 f3 f4) s):=fun w' hb=>(o4.below hb).sts
 have hbx:Below w7.heap.size w7 w7:=Below.refl _ _
 have VE:Hid (∀w',Below w7.heap.size w7 w'->Below w.heap.size w w'):=fun w' hb=>HKB.out _ (kp.below hb)
 have Xy:Hid (Kp W3.heap.size w4.heap.size ru ng W6 w7):=kp
 have qJ:Hid (aT W3.heap.size w4.heap.size w7 (sv e1 e2 e3 e4 n1 n2 n3 n4 f1 f2 f3 f4) Yv s):=o4
 have XI:Hid (aT ru ng w7 (sv g1 g2 g3 g4 m1 m2 m3 m4 k1 k2 k3 k4) Yw t):=o6
 clear kp o4 o6
 go_wp2_with fail
 go_region_held3 (fun w'=>(w'.cell? ⟨w4.heap.size,0,none⟩=some (.int .i64 ph)/\w'.cell? ⟨w4.heap.size,1,none⟩=some (.int .i64 cu)/\w'.cell? ⟨w4.heap.size,2,none⟩=some (.slice e1 n1 f1)/\w'.cell? ⟨w4.heap.size,3,none⟩=some (.slice e2 n2 f2)/\w'.cell? ⟨w4.heap.size,4,none⟩=some (.slice e3 n3 f3)/\w'.cell? ⟨w4.heap.size,5,none⟩=some (.slice e4 n4 f4))/\w'.cell? ⟨w.heap.size,0,none⟩=some (.int .i64 ph)/\w'.cell? ⟨w.heap.size,1,none⟩=some (.int .i64 cu)/\w'.cell? ⟨w.heap.size,2,none⟩=some (.slice a1 n1 c1)/\w'.cell? ⟨w.heap.size,3,none⟩=some (.slice a2 n2 c2)/\w'.cell? ⟨w.heap.size,4,none⟩=some (.slice a3 n3 c3)/\w'.cell? ⟨w.heap.size,5,none⟩=some (.slice a4 n4 c4))
  (first | with_reducible exact⟨⟨y0,y1,y2,y3,y4,y5⟩,x0,x1,x2,x3,x4,x5⟩|with_reducible exact HC2.out _ hbx | with_reducible exact HC2.out _ hbx.drew)
  (first
   |(go_at_call 8;refine(ToS.c (by assumption) _ (by first | exact VE.out _ hbx | exact VE.out _ hbx.drew)).mono ?_;rintro e w8 ⟨g1',g2',g3',g4',k1',k2',Gy,Ue,us8,rfl,h8⟩;have hbx:Below w7.heap.size w7 w8:=(by first | exact ah hbx h8.below | exact ah hbx.drew h8.below))
   |(go_at_call 12;refine(EqS.c (by assumption) _ _ _ _ _ _ _ _ _ _ _ _ _ _ _ _ _ (XP.out _ hbx) h8.sts).mono ?_;rintro e w9 ⟨rfl,qU⟩;have hbx:Below w7.heap.size w7 w9:=ah hbx qU))
 have kp:=Xy.out.below hbx
 have o4:=qJ.out.below hbx
 have o6:=XI.out.below hbx
 have DV:w4.heap.size<=w9.heap.size:=Nat.le_trans VK.out.1 hbx.size
 have XA:Hid (ng<=w9.heap.size):=Nat.le_trans VK.out.2 hbx.size
 clear x0 x1 x2 x3 x4 x5 y0 y1 y2 y3 y4 y5 HC2 XP hbx VE Xy qJ XI VK h8 qU Zt
 obtain⟨-,-,kY,-⟩:=HK.out _ kp
 obtain⟨⟨y0,y1,y2,y3,y4,y5⟩,-⟩:=ay kY
 clear kY
 go_wp2_with fail
 refine(HM.c _ _ _ e1 e2 e3 e4 f1 f2 f3 f4 Yv o4 DV).mono ?_
 rintro e w10 ⟨rfl,MP⟩
 have kp:=kp.t1 MP
 have o6:=o6.tch MP QV.out.1
 have VJ:Hid (ng<=w10.heap.size):=Nat.le_trans XA.out MP.size
 clear MP o4 DV XA HM y0 y1 y2 y3 y4 y5
 obtain⟨-,kA,-,kB⟩:=HK.out _ kp
 obtain⟨⟨y0,y1,y2,y3,y4,y5,y6⟩,-⟩:=aO kA
 obtain⟨⟨z0,z1,z2,z3,z4,z5,z6⟩,-⟩:=aO kB
 clear kA kB
 go_wp2_with fail
 refine(HE.c _ g1 g2 g3 g4 p1 p2 p3 p4 k1 k2 k3 k4 r1 r2 r3 r4 o6.sts (iY.out _ kp)).mono ?_
 rintro e Jj ⟨rfl,rO⟩
 have kp:=kp.below rO
 have o6:=o6.below rO
 have Wx:ng<=Jj.heap.size:=Nat.le_trans VJ.out rO.size
 clear rO VJ y0 y1 y2 y3 y4 y5 y6 z0 z1 z2 z3 z4 z5 z6
 obtain⟨-,-,-,kB⟩:=HK.out _ kp
 obtain⟨⟨z0,z1,z2,z3,z4,z5,z6⟩,-⟩:=aO kB
 clear kB
 go_wp2_with fail
 refine(XE.c _ _ _ g1 g2 g3 g4 k1 k2 k3 k4 Yw o6 Wx).mono ?_
 rintro e w12 ⟨rfl,WI,r12⟩
 have kp:=kp.t2 WI
 clear WI o6 Wx XE z0 z1 z2 z3 z4 z5 z6
 obtain⟨-,-,-,kB⟩:=HK.out _ kp
 obtain⟨⟨z0,z1,z2,z3,z4,z5,z6⟩,-⟩:=aO kB
 clear kB
 go_wp2_with fail
 refine(mX.c _ g1 g2 g3 g4 k1 k2 k3 k4 r12).mono ?_
 rintro e fV ⟨rfl,zA⟩
 have kp:=kp.below zA
 have r13:=r12.below zA
 clear zA r12 z0 z1 z2 z3 z4 z5 z6
 have iI:Hid (Kp W3.heap.size w4.heap.size ru ng W6 fV):=kp
 have XQ:Hid (∀w',Below fV.heap.size fV w'->Sts w' (sv g1 g2 g3 g4 m1 m2 m3 m4 k1 k2 k3 k4) mt):=fun w' hb=>r13.below hb
 clear kp r13
 go_wp2_with fail
 have q0:∀w',Below fV.heap.size fV w'->w'.cell? ⟨w.heap.size,0,none⟩=some (.int .i64 ph):=fun w' h=>(ay (HK.out _ (iI.out.below h)).1).1.1
 have q1:∀w',Below fV.heap.size fV w'->w'.cell? ⟨w.heap.size,1,none⟩=some (.int .i64 cu):=fun w' h=>(ay (HK.out _ (iI.out.below h)).1).1.2.1
 have q2:∀w',Below fV.heap.size fV w'->w'.cell? ⟨w.heap.size,2,none⟩=some (.slice a1 n1 c1):=fun w' h=>(ay (HK.out _ (iI.out.below h)).1).1.2.2.1
 have q3:∀w',Below fV.heap.size fV w'->w'.cell? ⟨w.heap.size,3,none⟩=some (.slice a2 n2 c2):=fun w' h=>(ay (HK.out _ (iI.out.below h)).1).1.2.2.2.1
 have q4:∀w',Below fV.heap.size fV w'->w'.cell? ⟨w.heap.size,4,none⟩=some (.slice a3 n3 c3):=fun w' h=>(ay (HK.out _ (iI.out.below h)).1).1.2.2.2.2.1
 have q5:∀w',Below fV.heap.size fV w'->w'.cell? ⟨w.heap.size,5,none⟩=some (.slice a4 n4 c4):=fun w' h=>(ay (HK.out _ (iI.out.below h)).1).1.2.2.2.2.2
 have q6:∀w',Below fV.heap.size fV w'->w'.cell? ⟨w.heap.size+1,0,none⟩=some (.string v0):=fun w' h=>(bW (TN.out _ (iI.out.below h))).1
 have q7:∀w',Below fV.heap.size fV w'->w'.cell? ⟨w.heap.size+1,1,none⟩=some (.int .i64 v1):=fun w' h=>(bW (TN.out _ (iI.out.below h))).2.1
 have q8:∀w',Below fV.heap.size fV w'->w'.cell? ⟨w.heap.size+1,2,none⟩=some (.int .i64 v2):=fun w' h=>(bW (TN.out _ (iI.out.below h))).2.2.1
 have q9:∀w',Below fV.heap.size fV w'->w'.cell? ⟨w.heap.size+1,3,none⟩=some (.int .i64 v3):=fun w' h=>(bW (TN.out _ (iI.out.below h))).2.2.2.1
 refine Code.wp_mono (Q:=fun e a' w'=>e=Exit.normal/\∃(gg lo hi:Nat)(i1 i2 i3 i4:Option Addr)(j1 j2 j3 j4:Nat)(l1 l2 l3 l4:Option Addr)(o1 o2 o3 o4:Nat)(eH:List Value),a' = {tmps:=#[Value.agg #[Value.int IntKind.i64 ph,Value.int IntKind.i64 cu,Value.slice a1 n1 c1,Value.slice a2 n2 c2,Value.slice a3 n3 c3,Value.slice a4 n4 c4],Value.agg #[Value.string v0,Value.int IntKind.i64 v1,Value.int IntKind.i64 v2,Value.int IntKind.i64 v3],Value.int IntKind.i64 xx,Value.pointer (some {block:=w.heap.size,off:=0}),Value.pointer (some {block:=w.heap.size+1,off:=0}),undef,Value.bool false,Value.int IntKind.i64 zz,Value.pointer (some {block:=KC,off:=0}),Value.pointer (some {block:=w4.heap.size,off:=0}),Value.pointer (some {block:=g6,off:=0}),Value.int IntKind.i64 (K1:Int),Value.int IntKind.i64 (K2:Int),Value.int IntKind.i64 (K2:Int),.pointer (some ⟨gg,0,none⟩),Value.agg #[Value.int IntKind.i64 ph,Value.int IntKind.i64 cu,Value.slice a1 n1 c1,Value.slice a2 n2 c2,Value.slice a3 n3 c3,Value.slice a4 n4 c4],Value.int IntKind.i64 1048576,Value.int IntKind.i64 z,Value.int IntKind.i64 z,Value.bool (decide (z<0)),Value.agg #[Value.string v0,Value.int IntKind.i64 v1,Value.int IntKind.i64 v2,Value.int IntKind.i64 v3],Value.int IntKind.i64 z,Value.int IntKind.i64 zz,Value.int IntKind.i64 zz,Value.bool (decide (zz<0)),Value.agg #[Value.int IntKind.i64 ph,Value.int IntKind.i64 cu,Value.slice a1 n1 c1,Value.slice a2 n2 c2,Value.slice a3 n3 c3,Value.slice a4 n4 c4],Value.agg #[Value.int IntKind.i64 ph,Value.int IntKind.i64 cu,Value.slice b1 n1 d1,Value.slice b2 n2 d2,Value.slice b3 n3 d3,Value.slice b4 n4 d4],Value.agg #[Value.string v0,Value.int IntKind.i64 v1,Value.int IntKind.i64 v2,Value.int IntKind.i64 v3],Value.agg #[Value.string v0,Value.int IntKind.i64 v1,Value.int IntKind.i64 v2,Value.int IntKind.i64 v3],Value.int IntKind.i64 xx,Value.agg #[Value.int IntKind.i64 q,Value.int IntKind.i64 tp,Value.int IntKind.i64 tc,Value.slice p1 m1 r1,Value.slice p2 m2 r2,Value.slice p3 m3 r3,Value.slice p4 m4 r4],Value.agg #[Value.int IntKind.i64 ph,Value.int IntKind.i64 cu,Value.slice a1 n1 c1,Value.slice a2 n2 c2,Value.slice a3 n3 c3,Value.slice a4 n4 c4],Value.agg #[Value.int IntKind.i64 ph,Value.int IntKind.i64 cu,Value.slice e1 n1 f1,Value.slice e2 n2 f2,Value.slice e3 n3 f3,Value.slice e4 n4 f4],Value.agg #[Value.int IntKind.i64 ph,Value.int IntKind.i64 cu,Value.slice e1 n1 f1,Value.slice e2 n2 f2,Value.slice e3 n3 f3,Value.slice e4 n4 f4],Value.agg #[Value.string v0,Value.int IntKind.i64 v1,Value.int IntKind.i64 v2,Value.int IntKind.i64 v3],Value.agg #[Value.string v0,Value.int IntKind.i64 v1,Value.int IntKind.i64 v2,Value.int IntKind.i64 v3],Value.int IntKind.i64 xx,Value.agg #[Value.int IntKind.i64 q,Value.int IntKind.i64 tp,Value.int IntKind.i64 tc,Value.slice g1 m1 k1,Value.slice g2 m2 k2,Value.slice g3 m3 k3,Value.slice g4 m4 k4],Value.agg #[Value.int IntKind.i64 q,Value.int IntKind.i64 tp,Value.int IntKind.i64 tc,Value.slice g1 m1 k1,Value.slice g2 m2 k2,Value.slice g3 m3 k3,Value.slice g4 m4 k4],Value.agg #[Value.int IntKind.i64 q,Value.int IntKind.i64 tp,Value.int IntKind.i64 tc,Value.slice p1 m1 r1,Value.slice p2 m2 r2,Value.slice p3 m3 r3,Value.slice p4 m4 r4],Value.bool true,Value.bool false,Value.agg #[Value.int IntKind.i64 ph,Value.int IntKind.i64 cu,Value.slice e1 n1 f1,Value.slice e2 n2 f2,Value.slice e3 n3 f3,Value.slice e4 n4 f4],Value.agg #[Value.int IntKind.i64 ph,Value.int IntKind.i64 cu,Value.slice a1 n1 c1,Value.slice a2 n2 c2,Value.slice a3 n3 c3,Value.slice a4 n4 c4],Value.agg #[Value.int IntKind.i64 ph,Value.int IntKind.i64 cu,Value.slice g1' n1 k1',Value.slice g2' n2 k2',Value.slice g3' n3 Gy,Value.slice g4' n4 Ue],Value.bool true,Value.bool false,Value.agg #[Value.int IntKind.i64 ph,Value.int IntKind.i64 cu,Value.slice e1 n1 f1,Value.slice e2 n2 f2,Value.slice e3 n3 f3,Value.slice e4 n4 f4],Value.int IntKind.i64 1,Value.int IntKind.i64 (K1:Int),Value.int IntKind.i64 (K1:Int),Value.bool (decide ((K1:Int)<0)),Value.bool (decide ((K1:Int)<0)),Value.agg #[Value.int IntKind.i64 q,Value.int IntKind.i64 tp,Value.int IntKind.i64 tc,Value.slice g1 m1 k1,Value.slice g2 m2 k2,Value.slice g3 m3 k3,Value.slice g4 m4 k4],Value.agg #[Value.int IntKind.i64 q,Value.int IntKind.i64 tp,Value.int IntKind.i64 tc,Value.slice p1 m1 r1,Value.slice p2 m2 r2,Value.slice p3 m3 r3,Value.slice p4 m4 r4],Value.bool true,Value.bool false,Value.bool (decide ((K1:Int)<0)),Value.agg #[Value.int IntKind.i64 q,Value.int IntKind.i64 tp,Value.int IntKind.i64 tc,Value.slice g1 m1 k1,Value.slice g2 m2 k2,Value.slice g3 m3 k3,Value.slice g4 m4 k4],Value.int IntKind.i64 1,Value.int IntKind.i64 (K2:Int),Value.agg #[Value.int IntKind.i64 q,Value.int IntKind.i64 tp,Value.int IntKind.i64 tc,Value.slice g1 m1 k1,Value.slice g2 m2 k2,Value.slice g3 m3 k3,Value.slice g4 m4 k4],Value.int IntKind.i64 1,Value.int IntKind.i64 (K2:Int),Value.int IntKind.i64 (K2:Int),Value.bool (decide ((K2:Int)<0)),Value.int IntKind.i64 (K2:Int),Value.int IntKind.i64 (K2:Int),Value.bool false,.agg #[.int .i64 ph,.int .i64 cu,.slice a1 n1 c1,.slice a2 n2 c2,.slice a3 n3 c3,.slice a4 n4 c4],.agg #[.int .i64 ph,.int .i64 cu,.slice i1 n1 j1,.slice i2 n2 j2,.slice i3 n3 j3,.slice i4 n4 j4],.agg #[.string v0,.int .i64 v1,.int .i64 v2,.int .i64 v3],.agg #[.string v0,.int .i64 v1,.int .i64 v2,.int .i64 v3],.int .i64 xx,.agg #[.int .i64 q,.int .i64 tp,.int .i64 tc,.slice l1 m1 o1,.slice l2 m2 o2,.slice l3 m3 o3,.slice l4 m4 o4],undef,undef,undef,undef,undef,undef,undef,undef,undef,undef,undef,undef],defers:=[]}/\Rg fV w' gg lo hi (.int .i64 q) (.int .i64 tp) (.int .i64 tc) (.slice l1 m1 o1) (.slice l2 m2 o2) (.slice l3 m3 o3) (.slice l4 m4 o4) (sv l1 l2 l3 l4 m1 m2 m3 m4 o1 o2 o3 o4) eH t) ?tail3 ?Zk
 case Zk=>
  refine wp_region_held_drew (S:=fun w'=>Below fV.heap.size fV w') (by kernel_rfl) ((Below.refl _ _).drew) (fun hHeld=> ?_)
  refine bD (i:=0) (d:=some 69) (v:= ?vs1) (by rfl) (by kernel_rfl) (by kernel_rfl) (by kernel_rfl) (fun _ _ _ h=>(by cases h.1)) (by rfl) ?Zd hHeld ?aaM
  case Zd=>
   intro o ho
   simp only[acd,ace,acg]at ho
   subst ho
   intro w' hSw
   first |(go_simp;done) |(go_simp;with_reducible rfl)
  try simp only[Act.put,ab7,ab8,ab9]
  refine bD (i:=2) (d:=some 71) (v:= ?vs2) (by rfl) (by kernel_rfl) (by kernel_rfl) (by kernel_rfl) (fun _ _ _ h=>(by cases h.1)) (by rfl) ?Ze hHeld ?aaN
  case Ze=>
   intro o ho
   simp only[acd,acf,ace,acg]at ho
   subst ho
   intro w' hSw
   first |(go_simp;done) |(go_simp;with_reducible rfl)
  try simp only[Act.put,ab7,ab8,ab9]
  refine bD (i:=4) (d:=some 73) (v:= ?vs3) (by rfl) (by kernel_rfl) (by kernel_rfl) (by kernel_rfl) (fun _ _ _ h=>(by cases h.1)) (by rfl) ?Zf hHeld ?aaO
  case Zf=>
   intro o ho
   simp only[acd,acf,ace,acg]at ho
   subst ho
   intro w' hSw
   first |(go_simp;done) |(go_simp;with_reducible rfl)
  try simp only[Act.put,ab7,ab8,ab9]
  refine wpAnyH_ready (rs:=[1,6]) (by kernel_rfl) (by simp) ?_
  refine AllReadyH.cons rfl (fun K hK=> ?_) (AllReadyH.cons rfl (fun K hK=> ?_) AllReadyH.nil)
  ·go_simp
   refine(HT.c _ (HKB.out _ (iI.out.below hHeld))).mono ?_
   rintro e wq ⟨b1,b2,b3,b4,d1,d2,d3,d4,Jf,rfl,h2⟩
   have hbq:=h2.below
   have o2:=h2.own
   have hq:=ah hHeld hbq
   clear h2
   try(have G:=G.below hbq)
   refine hK.out _ _ ?_ (fun hHeld=> ?_)
   ·exact hq
   clear hK K
   try simp only[Act.put,ab7,ab8,ab9]
   refine wpAnyH_ready (rs:=[3,6]) (by kernel_rfl) (by simp) ?_
   refine AllReadyH.cons rfl (fun K hK=> ?_) (AllReadyH.cons rfl (fun K hK=> ?_) AllReadyH.nil)
   ·go_simp
    refine(hTR _).mono ?_
    rintro e wq ⟨rfl,hbq⟩
    have hq:=ah hHeld hbq
    try(have G:=G.below hbq)
    have o2:=o2.below hbq
    refine hK.out _ _ ?_ (fun hHeld=> ?_)
    ·exact hq
    clear hK K
    try simp only[Act.put,ab7,ab8,ab9]
    refine wpAnyH_ready (rs:=[5,6]) (by kernel_rfl) (by simp) ?_
    refine AllReadyH.cons rfl (fun K hK=> ?_) (AllReadyH.cons rfl (fun K hK=> ?_) AllReadyH.nil)
    ·go_simp
     have hlo:=hHeld.size
     try(have hg2:=G.lt)
     refine(HI.c _ b1 b2 b3 b4 d1 d2 d3 d4 o2.sts).mono ?_
     rintro e wq ⟨g1,g2,g3,g4,k1,k2,k3,k4,eH,rfl,hbq,o3⟩
     have hlh:=hbq.size
     have hq:=ah hHeld hbq
     have hhi:=Nat.le_refl wq.heap.size
     try(have G:=G.below hbq)
     refine hK.out _ _ ?_ (fun hHeld=> ?_)
     ·exact hq
     clear hK K
     try simp only[Act.put,ab7,ab8,ab9]
     refine wpAnyH_ready (rs:=[6]) (by kernel_rfl) (by simp) ?_
     refine AllReadyH.cons rfl (fun K hK=> ?_) AllReadyH.nil
     ·go_simp
      first |(have G:=ZB.new wq;have hgg:=hq.size) |(have G:=(ZB.new fV).drew;have hgg:=Nat.le_refl fV.heap.size)
      try(have i3:=o3;have iq:=hq)
      try(have o2:=o2.below (aj ach))
      refine hK.out _ _ ?_ (fun hHeld=> ?_)
      ·exact ah hHeld (aj _)
      clear hK K
      try simp only[Act.put,ab7,ab8,ab9]
      have hlast:=hHeld
      obtain⟨⟨x0,x1,x2,x3,x4,x5,x6⟩,u0,u1,u2,u3,u4,u5,u6⟩:=aO G.c
      refine wpAnyH_ready (rs:=[7]) (by kernel_rfl) (by simp) ?_
      refine AllReadyH.cons rfl (fun K hK=> ?_) AllReadyH.nil
      go_simp
      refine hK.out _ _ ?_ (fun hHeld=> ?_)
      ·first | with_reducible exact eG hHeld hgg _ _ _ _ _ _ _ | with_reducible exact ah hq (aj _)
      clear hK K
      try simp only[Act.put,ab7,ab8,ab9]
      refine wpAnyH_done (by kernel_rfl) ?_ _
      first
       |(have HG:=Rg.put (.int .i64 q) (.int .i64 tp) (.int .i64 tc) (.slice g1 m1 k1) (.slice g2 m2 k2) (.slice g3 m3 k3) (.slice g4 m4 k4) G o3 (Or.inl hg2) hlo hlh hgg hhi hlast;exact⟨rfl,_,_,_,b1,b2,b3,b4,d1,d2,d3,d4,g1,g2,g3,g4,k1,k2,k3,k4,eH,rfl,HG⟩)
       |(have HG:=Rg.fresh (.int .i64 q) (.int .i64 tp) (.int .i64 tc) (.slice g1 m1 k1) (.slice g2 m2 k2) (.slice g3 m3 k3) (.slice g4 m4 k4) i3 hlo hlh hhi iq;exact⟨rfl,_,_,_,b1,b2,b3,b4,d1,d2,d3,d4,g1,g2,g3,g4,k1,k2,k3,k4,eH,rfl,HG⟩)
    ·go_simp
     first |(have G:=ZB.new wq;have hgg:=hq.size) |(have G:=(ZB.new fV).drew;have hgg:=Nat.le_refl fV.heap.size)
     try(have i3:=o3;have iq:=hq)
     try(have o2:=o2.below (aj ach))
     refine hK.out _ _ ?_ (fun hHeld=> ?_)
     ·exact ah hHeld (aj _)
     clear hK K
     try simp only[Act.put,ab7,ab8,ab9]
     refine wpAnyH_ready (rs:=[5]) (by kernel_rfl) (by simp) ?_
     refine AllReadyH.cons rfl (fun K hK=> ?_) AllReadyH.nil
     ·go_simp
      have hlo:=hHeld.size
      try(have hg2:=G.lt)
      refine(HI.c _ b1 b2 b3 b4 d1 d2 d3 d4 o2.sts).mono ?_
      rintro e wq ⟨g1,g2,g3,g4,k1,k2,k3,k4,eH,rfl,hbq,o3⟩
      have hlh:=hbq.size
      have hq:=ah hHeld hbq
      have hhi:=Nat.le_refl wq.heap.size
      try(have G:=G.below hbq)
      refine hK.out _ _ ?_ (fun hHeld=> ?_)
      ·exact hq
      clear hK K
      try simp only[Act.put,ab7,ab8,ab9]
      have hlast:=hHeld
      obtain⟨⟨x0,x1,x2,x3,x4,x5,x6⟩,u0,u1,u2,u3,u4,u5,u6⟩:=aO G.c
      refine wpAnyH_ready (rs:=[7]) (by kernel_rfl) (by simp) ?_
      refine AllReadyH.cons rfl (fun K hK=> ?_) AllReadyH.nil
      go_simp
      refine hK.out _ _ ?_ (fun hHeld=> ?_)
      ·first | with_reducible exact eG hHeld hgg _ _ _ _ _ _ _ | with_reducible exact ah hq (aj _)
      clear hK K
      try simp only[Act.put,ab7,ab8,ab9]
      refine wpAnyH_done (by kernel_rfl) ?_ _
      first
       |(have HG:=Rg.put (.int .i64 q) (.int .i64 tp) (.int .i64 tc) (.slice g1 m1 k1) (.slice g2 m2 k2) (.slice g3 m3 k3) (.slice g4 m4 k4) G o3 (Or.inl hg2) hlo hlh hgg hhi hlast;exact⟨rfl,_,_,_,b1,b2,b3,b4,d1,d2,d3,d4,g1,g2,g3,g4,k1,k2,k3,k4,eH,rfl,HG⟩)
       |(have HG:=Rg.fresh (.int .i64 q) (.int .i64 tp) (.int .i64 tc) (.slice g1 m1 k1) (.slice g2 m2 k2) (.slice g3 m3 k3) (.slice g4 m4 k4) i3 hlo hlh hhi iq;exact⟨rfl,_,_,_,b1,b2,b3,b4,d1,d2,d3,d4,g1,g2,g3,g4,k1,k2,k3,k4,eH,rfl,HG⟩)
   ·go_simp
    first |(have G:=ZB.new wq;have hgg:=hq.size) |(have G:=(ZB.new fV).drew;have hgg:=Nat.le_refl fV.heap.size)
    try(have i3:=o3;have iq:=hq)
    try(have o2:=o2.below (aj ach))
    refine hK.out _ _ ?_ (fun hHeld=> ?_)
    ·exact ah hHeld (aj _)
    clear hK K
    try simp only[Act.put,ab7,ab8,ab9]
    refine wpAnyH_ready (rs:=[3]) (by kernel_rfl) (by simp) ?_
    refine AllReadyH.cons rfl (fun K hK=> ?_) AllReadyH.nil
    ·go_simp
     refine(hTR _).mono ?_
     rintro e wq ⟨rfl,hbq⟩
     have hq:=ah hHeld hbq
     try(have G:=G.below hbq)
     have o2:=o2.below hbq
     refine hK.out _ _ ?_ (fun hHeld=> ?_)
     ·exact hq
     clear hK K
     try simp only[Act.put,ab7,ab8,ab9]
     refine wpAnyH_ready (rs:=[5]) (by kernel_rfl) (by simp) ?_
     refine AllReadyH.cons rfl (fun K hK=> ?_) AllReadyH.nil
     ·go_simp
      have hlo:=hHeld.size
      try(have hg2:=G.lt)
      refine(HI.c _ b1 b2 b3 b4 d1 d2 d3 d4 o2.sts).mono ?_
      rintro e wq ⟨g1,g2,g3,g4,k1,k2,k3,k4,eH,rfl,hbq,o3⟩
      have hlh:=hbq.size
      have hq:=ah hHeld hbq
      have hhi:=Nat.le_refl wq.heap.size
      try(have G:=G.below hbq)
      refine hK.out _ _ ?_ (fun hHeld=> ?_)
      ·exact hq
      clear hK K
      try simp only[Act.put,ab7,ab8,ab9]
      have hlast:=hHeld
      obtain⟨⟨x0,x1,x2,x3,x4,x5,x6⟩,u0,u1,u2,u3,u4,u5,u6⟩:=aO G.c
      refine wpAnyH_ready (rs:=[7]) (by kernel_rfl) (by simp) ?_
      refine AllReadyH.cons rfl (fun K hK=> ?_) AllReadyH.nil
      go_simp
      refine hK.out _ _ ?_ (fun hHeld=> ?_)
      ·first | with_reducible exact eG hHeld hgg _ _ _ _ _ _ _ | with_reducible exact ah hq (aj _)
      clear hK K
      try simp only[Act.put,ab7,ab8,ab9]
      refine wpAnyH_done (by kernel_rfl) ?_ _
      first
       |(have HG:=Rg.put (.int .i64 q) (.int .i64 tp) (.int .i64 tc) (.slice g1 m1 k1) (.slice g2 m2 k2) (.slice g3 m3 k3) (.slice g4 m4 k4) G o3 (Or.inl hg2) hlo hlh hgg hhi hlast;exact⟨rfl,_,_,_,b1,b2,b3,b4,d1,d2,d3,d4,g1,g2,g3,g4,k1,k2,k3,k4,eH,rfl,HG⟩)
       |(have HG:=Rg.fresh (.int .i64 q) (.int .i64 tp) (.int .i64 tc) (.slice g1 m1 k1) (.slice g2 m2 k2) (.slice g3 m3 k3) (.slice g4 m4 k4) i3 hlo hlh hhi iq;exact⟨rfl,_,_,_,b1,b2,b3,b4,d1,d2,d3,d4,g1,g2,g3,g4,k1,k2,k3,k4,eH,rfl,HG⟩)
  ·go_simp
   first |(have G:=ZB.new wq;have hgg:=hq.size) |(have G:=(ZB.new fV).drew;have hgg:=Nat.le_refl fV.heap.size)
   try(have i3:=o3;have iq:=hq)
   try(have o2:=o2.below (aj ach))
   refine hK.out _ _ ?_ (fun hHeld=> ?_)
   ·exact ah hHeld (aj _)
   clear hK K
   try simp only[Act.put,ab7,ab8,ab9]
   refine wpAnyH_ready (rs:=[1]) (by kernel_rfl) (by simp) ?_
   refine AllReadyH.cons rfl (fun K hK=> ?_) AllReadyH.nil
   ·go_simp
    refine(HT.c _ (HKB.out _ (iI.out.below hHeld))).mono ?_
    rintro e wq ⟨b1,b2,b3,b4,d1,d2,d3,d4,Jf,rfl,h2⟩
    have hbq:=h2.below
    have o2:=h2.own
    have hq:=ah hHeld hbq
    clear h2
    try(have G:=G.below hbq)
    refine hK.out _ _ ?_ (fun hHeld=> ?_)
    ·exact hq
    clear hK K
    try simp only[Act.put,ab7,ab8,ab9]
    refine wpAnyH_ready (rs:=[3]) (by kernel_rfl) (by simp) ?_
    refine AllReadyH.cons rfl (fun K hK=> ?_) AllReadyH.nil
    ·go_simp
     refine(hTR _).mono ?_
     rintro e wq ⟨rfl,hbq⟩
     have hq:=ah hHeld hbq
     try(have G:=G.below hbq)
     have o2:=o2.below hbq
     refine hK.out _ _ ?_ (fun hHeld=> ?_)
     ·exact hq
     clear hK K
     try simp only[Act.put,ab7,ab8,ab9]
     refine wpAnyH_ready (rs:=[5]) (by kernel_rfl) (by simp) ?_
     refine AllReadyH.cons rfl (fun K hK=> ?_) AllReadyH.nil
     ·go_simp
      have hlo:=hHeld.size
      try(have hg2:=G.lt)
      refine(HI.c _ b1 b2 b3 b4 d1 d2 d3 d4 o2.sts).mono ?_
      rintro e wq ⟨g1,g2,g3,g4,k1,k2,k3,k4,eH,rfl,hbq,o3⟩
      have hlh:=hbq.size
      have hq:=ah hHeld hbq
      have hhi:=Nat.le_refl wq.heap.size
      try(have G:=G.below hbq)
      refine hK.out _ _ ?_ (fun hHeld=> ?_)
      ·exact hq
      clear hK K
      try simp only[Act.put,ab7,ab8,ab9]
      have hlast:=hHeld
      obtain⟨⟨x0,x1,x2,x3,x4,x5,x6⟩,u0,u1,u2,u3,u4,u5,u6⟩:=aO G.c
      refine wpAnyH_ready (rs:=[7]) (by kernel_rfl) (by simp) ?_
      refine AllReadyH.cons rfl (fun K hK=> ?_) AllReadyH.nil
      go_simp
      refine hK.out _ _ ?_ (fun hHeld=> ?_)
      ·first | with_reducible exact eG hHeld hgg _ _ _ _ _ _ _ | with_reducible exact ah hq (aj _)
      clear hK K
      try simp only[Act.put,ab7,ab8,ab9]
      refine wpAnyH_done (by kernel_rfl) ?_ _
      first
       |(have HG:=Rg.put (.int .i64 q) (.int .i64 tp) (.int .i64 tc) (.slice g1 m1 k1) (.slice g2 m2 k2) (.slice g3 m3 k3) (.slice g4 m4 k4) G o3 (Or.inl hg2) hlo hlh hgg hhi hlast;exact⟨rfl,_,_,_,b1,b2,b3,b4,d1,d2,d3,d4,g1,g2,g3,g4,k1,k2,k3,k4,eH,rfl,HG⟩)
       |(have HG:=Rg.fresh (.int .i64 q) (.int .i64 tp) (.int .i64 tc) (.slice g1 m1 k1) (.slice g2 m2 k2) (.slice g3 m3 k3) (.slice g4 m4 k4) i3 hlo hlh hhi iq;exact⟨rfl,_,_,_,b1,b2,b3,b4,d1,d2,d3,d4,g1,g2,g3,g4,k1,k2,k3,k4,eH,rfl,HG⟩)
 rintro _ _ W15 ⟨rfl,g15,abo,abf,i1,i2,i3,i4,j1,j2,j3,j4,l1,l2,l3,l4,o1,o2,o3,o4,abp,rfl,Oo⟩
 dsimp only
 have kp:=iI.out.below Oo.bel
 have Yu:=XQ.out _ Oo.bel
 have Yr:=Oo.own
 have WA:=Oo.c
 clear q0 q1 q2 q3 q4 q5 q6 q7 q8 q9 Oo iI XQ HI HT hTR
 obtain⟨-,kA,-,-⟩:=HK.out _ kp
 obtain⟨⟨y0,y1,y2,y3,y4,y5,y6⟩,-⟩:=aO kA
 obtain⟨⟨z0,z1,z2,z3,z4,z5,z6⟩,-⟩:=aO WA
 clear kA WA
 go_wp2_with fail
 refine(HE.c _ _ _ _ _ _ _ _ _ _ _ _ _ _ _ _ _ Yr.sts (iY.out _ kp)).mono ?_
 rintro e w16 ⟨rfl,hb16⟩
 have kp:=kp.below hb16
 have r16:=Yu.below hb16
 clear hb16 Yu Yr y0 y1 y2 y3 y4 y5 y6 z0 z1 z2 z3 z4 z5 z6
 obtain⟨-,-,-,kB⟩:=HK.out _ kp
 obtain⟨⟨z0,z1,z2,z3,z4,z5,z6⟩,-⟩:=aO kB
 clear kB
 go_wp2_with fail
 refine(mX.c _ g1 g2 g3 g4 k1 k2 k3 k4 r16).mono ?_
 rintro e w17 ⟨rfl,WB⟩
 have YC:=HKB.out _ (kp.below WB)
 clear kp r16 WB z0 z1 z2 z3 z4 z5 z6
 go_wp2
 go_ret
 exact⟨rfl,YC⟩
end U
end Go.Proofs.YtmmcgjacojgeaaaGreat
