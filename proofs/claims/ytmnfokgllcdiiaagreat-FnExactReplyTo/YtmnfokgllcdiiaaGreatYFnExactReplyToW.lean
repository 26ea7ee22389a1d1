/- The law on ReplyTo, walked: true, and nothing that was there has turned. -/
import Derived.Test.YtmnfokgllcdiiaaGreatYImW
import Derived.Test.YtmnfokgllcdiiaaGreatYRyL
set_option maxRecDepth 100000
set_option maxHeartbeats 4000000
namespace Go.Proofs.YtmnfokgllcdiiaaGreat
open Go.RowKit
namespace U
theorem kF.tch{lo hi lo' hi':Nat}{w w':World}{ps:List Int}{ws:Prl}{a b:Option Addr}{c d:Nat}(h:kF lo hi w ps ws a b c d)(ht:Tch lo' hi' w w')(hl:hi'<=lo):kF lo hi w' ps ws a b c d:=
 ⟨h.r.same fun y hy=>ht.block y (h.r.blk hy).2 (Or.inr (Nat.le_trans hl (h.r.blk hy).1)),h.h⟩
theorem kF.kp{lo hi p q r t:Nat}{w w':World}{ps:List Int}{ws:Prl}{a b:Option Addr}{c d:Nat}(h:kF lo hi w ps ws a b c d)(k:Kp p q r t w w')(h1:hi<=p)(h2:hi<=r):qp w' ps ws a b c d:=
 (h.r.same fun y hy=>k.block y (h.r.blk hy).2 (Or.inl (Nat.lt_of_lt_of_le (h.h y hy) h1)) (Or.inl (Nat.lt_of_lt_of_le (h.h y hy) h2))).rd
theorem bK.inn{lo:Nat}{w:World}{ps:List Int}{ws:Prl}{a b:Option Addr}{c d:Nat}(h:bK lo w ps ws a b c d):kF lo w.heap.size w ps ws a b c d:=⟨h,fun _ hy=>(h.blk hy).2⟩
structure RSp(s:St)(ep:Int)(tt:ByteArray)(oo:Bool)(ph cu:Int)(n1 n2 n3 n4:Nat)(cd e0:Int)(held:Bool)(z0:ByteArray)(z1 z2 z3:Int)(so:Bool)(val:Int)(ps:List Int)(tx:Bool)(tk ty:Int)(ws:Prl):Prop where
 c:∀(w':World)(a1 a2 a3 a4:Option Addr)(c1 c2 c3 c4:Nat),Sts w' (sv a1 a2 a3 a4 n1 n2 n3 n4 c1 c2 c3 c4) s->Calls Tryz.prog 23 #[.agg #[.int .i64 ph,.int .i64 cu,.slice a1 n1 c1,.slice a2 n2 c2,.slice a3 n3 c3,.slice a4 n4 c4],.int .i64 ep,.string tt,.bool oo] w' fun e w''=>∃(ra rb:Option Addr)(rc rd:Nat),e = .returned (.agg #[.int .i64 cd,.int .i64 e0,.bool held,.string z0,.int .i64 z1,.int .i64 z2,.int .i64 z3,.bool so,.bool held,.int .i64 val,.slice ra ps.length rc,.bool tx,.int .i64 tk,.int .i64 ty,.slice rb ws.length rd])/\Below w'.heap.size w' w''/\kF w'.heap.size w''.heap.size w'' ps ws ra rb rc rd
structure RIm(s:St)(ep:Int)(tt:ByteArray)(oo:Bool)(ph cu:Int)(n1 n2 n3 n4:Nat)(cd e0:Int)(held:Bool)(z0:ByteArray)(z1 z2 z3:Int)(so:Bool)(val:Int)(ps:List Int)(tx:Bool)(tk ty:Int)(ws:Prl):Prop where
 c:∀(w':World)(a1 a2 a3 a4:Option Addr)(c1 c2 c3 c4:Nat),Sts w' (sv a1 a2 a3 a4 n1 n2 n3 n4 c1 c2 c3 c4) s->Calls Tryz.prog 24 #[.agg #[.int .i64 ph,.int .i64 cu,.slice a1 n1 c1,.slice a2 n2 c2,.slice a3 n3 c3,.slice a4 n4 c4],.int .i64 ep,.string tt,.bool oo] w' fun e w''=>∃(ra rb:Option Addr)(rc rd:Nat),e = .returned (.agg #[.int .i64 cd,.int .i64 e0,.bool held,.string z0,.int .i64 z1,.int .i64 z2,.int .i64 z3,.bool so,.bool held,.int .i64 val,.slice ra ps.length rc,.bool tx,.int .i64 tk,.int .i64 ty,.slice rb ws.length rd])/\Below w'.heap.size w' w''/\kF w'.heap.size w''.heap.size w'' ps ws ra rb rc rd
structure REq(cd e0:Int)(held:Bool)(z0:ByteArray)(z1 z2 z3:Int)(so:Bool)(val:Int)(ps:List Int)(tx:Bool)(tk ty:Int)(ws:Prl):Prop where
 c:∀(w':World)(ra rb va vb:Option Addr)(rc rd vc vd:Nat),qp w' ps ws ra rb rc rd->qp w' ps ws va vb vc vd->Calls Tryz.prog 25 #[.agg #[.int .i64 cd,.int .i64 e0,.bool held,.string z0,.int .i64 z1,.int .i64 z2,.int .i64 z3,.bool so,.bool held,.int .i64 val,.slice ra ps.length rc,.bool tx,.int .i64 tk,.int .i64 ty,.slice rb ws.length rd],.agg #[.int .i64 cd,.int .i64 e0,.bool held,.string z0,.int .i64 z1,.int .i64 z2,.int .i64 z3,.bool so,.bool held,.int .i64 val,.slice va ps.length vc,.bool tx,.int .i64 tk,.int .i64 ty,.slice vb ws.length vd]] w' fun e w''=>e = .returned (.bool true)/\Below w'.heap.size w' w''
structure RMk(cd e0:Int)(held:Bool)(z0:ByteArray)(z1 z2 z3:Int)(so:Bool)(val:Int)(ps:List Int)(tx:Bool)(tk ty:Int)(ws:Prl)(K:Nat):Prop where
 c:∀(w':World)(lo hi:Nat)(ra rb:Option Addr)(rc rd:Nat),kF lo hi w' ps ws ra rb rc rd->Calls Tryz.prog 26 #[.agg #[.int .i64 cd,.int .i64 e0,.bool held,.string z0,.int .i64 z1,.int .i64 z2,.int .i64 z3,.bool so,.bool held,.int .i64 val,.slice ra ps.length rc,.bool tx,.int .i64 tk,.int .i64 ty,.slice rb ws.length rd],.int .i64 1] w' fun e w''=>e = .returned (.int .i64 (K:Int))/\Tch lo hi w' w''/\MRd w'' 1 ps.length ws.length ra rb rc rd
structure RHd(cd e0:Int)(held:Bool)(z0:ByteArray)(z1 z2 z3:Int)(so:Bool)(val:Int)(ps:List Int)(tx:Bool)(tk ty:Int)(ws:Prl)(K:Nat):Prop where
 c:∀(w':World)(ra rb:Option Addr)(rc rd:Nat),MRd w' 1 ps.length ws.length ra rb rc rd->Calls Tryz.prog 27 #[.agg #[.int .i64 cd,.int .i64 e0,.bool held,.string z0,.int .i64 z1,.int .i64 z2,.int .i64 z3,.bool so,.bool held,.int .i64 val,.slice ra ps.length rc,.bool tx,.int .i64 tk,.int .i64 ty,.slice rb ws.length rd],.int .i64 1] w' fun e w''=>e = .returned (.int .i64 (K:Int))/\Below w'.heap.size w' w''
theorem OT{w' w'':World}{cd e0:Int}{held:Bool}{z0:ByteArray}{z1 z2 z3:Int}{so:Bool}{val:Int}{ps:List Int}{tx:Bool}{tk ty:Int}{ws:Prl}{e:Ending}(h:kS w' cd e0 held z0 z1 z2 z3 so val ps tx tk ty ws e w''):∃(ra rb:Option Addr)(rc rd:Nat),e = .returned (.agg #[.int .i64 cd,.int .i64 e0,.bool held,.string z0,.int .i64 z1,.int .i64 z2,.int .i64 z3,.bool so,.bool held,.int .i64 val,.slice ra ps.length rc,.bool tx,.int .i64 tk,.int .i64 ty,.slice rb ws.length rd])/\Below w'.heap.size w' w''/\kF w'.heap.size w''.heap.size w'' ps ws ra rb rc rd:=by
 obtain⟨a,b,c,d,h1,h2,h3⟩:=h
 exact⟨a,b,c,d,h1,h2,h3.inn⟩
theorem fnExactReplyTo_walk(s:St)(v:Sv)(ep:Int)(tt:ByteArray)(oo:Bool)(w:World)(hv:Sts w v s)(hA:StA s)(_Vz:tt.size<=maxLen):
  Calls Tryz.prog 5 #[stV s v,.int .i64 ep,.string tt,.bool oo] w fun e w'=>e = .returned (.bool true)/\Below w.heap.size w w':=by
 obtain⟨W,hW⟩:∃W,W=w.alloc (stC s v 29):=⟨_,rfl⟩
 have hBW:Below w.heap.size w W:=by rw[hW];exact aj _
 have hZ:=KP s v 1048576 W (hv.below hBW) hA (by omega)
 have hok:=fun h=>WG (s:=s) (z:=1048576) (by omega) (by omega) h
 obtain⟨a1,a2,a3,a4,c1,c2,c3,c4,rfl⟩:=hv.four
 unfold stC at hW
 unfold stV at hZ ⊢
 unfold sv at hW hZ ⊢
 dsimp only at hW hZ ⊢
 generalize szS s 1048576=z at *
 by_cases hlt:1048576<tt.size
 ·have hl1:decide ((1048576:Int)<(tt.size:Int))=true:=decide_eq_true (by omega)
  have hl2:(1048576:Int)<(tt.size:Int):=by omega
  clear hv hA hok hZ _Vz hlt hBW hW
  go_enter Tryz.func5,Tryz.ntmps5
  go_wp2
  go_ret
  exact⟨rfl,aj _⟩
 have ht:tt.size<=1048576:=by omega
 have hl1:decide ((1048576:Int)<(tt.size:Int))=false:=decide_eq_false (by omega)
 have hl2:(tt.size:Int)<=1048576:=by omega
 clear hlt _Vz
 by_cases h:z<0
 ·generalize s.ph=ph at *
  generalize s.cu=cu at *
  generalize s.d.length=n1 at *
  generalize s.n.length=n2 at *
  generalize s.h.length=n3 at *
  generalize s.p.length=n4 at *
  have HW:Hid _:=hW.symm
  clear hv hA hok hW
  go_enter Tryz.func5,Tryz.ntmps5
  go_wp2_with fail
  rw[HW.out]
  refine hZ.mono ?_
  rintro e w1 ⟨rfl,hb1⟩
  clear hZ
  go_wp2
  go_ret
  exact⟨rfl,ah hBW hb1⟩
 ·obtain⟨hB,-⟩:=hok h
  obtain⟨R,hR⟩:=Xu
  obtain⟨cd,e0,held,z0,z1,z2,z3,so,val,ps,tx,tk,ty,ws,D⟩:=J3 R hR s ep tt oo hB ht
  have HS:RSp s ep tt oo s.ph s.cu s.d.length s.n.length s.h.length s.p.length cd e0 held z0 z1 z2 z3 so val ps tx tk ty ws:=⟨fun w' a1 a2 a3 a4 c1 c2 c3 c4 ho=>by
   have:=D.sp _ w' ho
   unfold stV sv at this
   exact this.mono fun e w'' h=>OT h⟩
  have HI:RIm s ep tt oo s.ph s.cu s.d.length s.n.length s.h.length s.p.length cd e0 held z0 z1 z2 z3 so val ps tx tk ty ws:=⟨fun w' a1 a2 a3 a4 c1 c2 c3 c4 ho=>by
   have:=D.im _ w' ho
   unfold stV sv at this
   exact this.mono fun e w'' h=>OT h⟩
  have Zl:=D.p
  have TI:=D.f
  have HE:REq cd e0 held z0 z1 z2 z3 so val ps tx tk ty ws:=⟨fun w' ra rb va vb rc rd vc vd h1 h2=>vW cd e0 held z0 z1 z2 z3 so held val tx tk ty ps ws ra rb va vb rc rd vc vd w' h1 h2 (by omega) TI⟩
  have XH:RMk cd e0 held z0 z1 z2 z3 so val ps tx tk ty ws (1+ps.length+ws.length*2):=⟨fun w' lo hi ra rb rc rd h1=>vI lo hi 1 cd e0 held z0 z1 z2 z3 so held val tx tk ty ps ws ra rb rc rd w' h1 (by omega) TI (by omega)⟩
  have XA:RHd cd e0 held z0 z1 z2 z3 so val ps tx tk ty ws (1+ps.length+ws.length*2):=⟨fun w' ra rb rc rd h1=>vF 1 ps.length ws.length cd e0 held z0 z1 z2 z3 so held val tx tk ty ra rb rc rd w' h1 (by omega) TI (by omega)⟩
  have hnn:=dA
  have HM:=MsR.mk' hB
  have HT:=ToS.mk' hv hB
  have YS:=EqS.mk' hB
  have hK1:¬((ks4 s 1:Nat):Int)<0:=by omega
  have hK2:¬((1+ps.length+ws.length*2:Nat):Int)<0:=by omega
  have hX0:W.heap[w.heap.size]? = some (.cells #[.int .i64 s.ph,.int .i64 s.cu,.slice a1 s.d.length c1,.slice a2 s.n.length c2,.slice a3 s.h.length c3,.slice a4 s.p.length c4] 29):=by rw[hW];exact heap_alloc_new w _
  clear hR D Zl TI ht
  generalize ks4 s 1=K1 at *
  generalize 1+ps.length+ws.length*2=K2 at *
  generalize s.ph=ph at *
  generalize s.cu=cu at *
  generalize s.d.length=n1 at *
  generalize s.n.length=n2 at *
  generalize s.h.length=n3 at *
  generalize s.p.length=n4 at *
  have HW:Hid _:=hW.symm
  have X3:w.heap.size<W.heap.size:=(Array.getElem?_eq_some_iff.1 hX0).1
  have HX:Hid (∀w',Below W.heap.size W w'->w'.heap[w.heap.size]? = some (.cells #[.int .i64 ph,.int .i64 cu,.slice a1 n1 c1,.slice a2 n2 c2,.slice a3 n3 c3,.slice a4 n4 c4] 29)):=fun w' hb=>(hb.block _ X3).trans hX0
  have fB:Hid (∀w',Below W.heap.size W w'->Below w.heap.size w w'):=fun w' hb=>ah hBW hb
  clear hv hA hok hW hB hX0 hBW
  go_enter Tryz.func5,Tryz.ntmps5
  go_wp2_with fail
  rw[HW.out]
  refine hZ.mono ?_
  rintro e w1 ⟨rfl,hbr⟩
  obtain⟨⟨x0,x1,x2,x3,x4,x5⟩,-⟩:=bI (HX.out _ hbr)
  clear hZ HW
  go_wp2_with fail
  refine(HT.c _ (fB.out _ hbr)).mono ?_
  rintro e w2 ⟨b1,b2,b3,b4,d1,d2,d3,d4,us2,rfl,h2⟩
  have hbr:Below W.heap.size W w2:=ah hbr h2.below
  have o2:=h2.own
  have V3:W.heap.size<=w2.heap.size:=hbr.size
  clear h2 x0 x1 x2 x3 x4 x5
  go_wp2_with fail
  refine(HS.c _ b1 b2 b3 b4 d1 d2 d3 d4 o2.sts).mono ?_
  rintro e w3 ⟨pa,pb,pc,pd,rfl,hb3,o3⟩
  have hbr:Below W.heap.size W w3:=ah hbr hb3
  clear HS o2
  obtain⟨W3,hW3⟩:∃W3,W3=w3.alloc (.cells #[.int .i64 cd,.int .i64 e0,.bool held,.string z0,.int .i64 z1,.int .i64 z2,.int .i64 z3,.bool so,.bool held,.int .i64 val,.slice pa ps.length pc,.bool tx,.int .i64 tk,.int .i64 ty,.slice pb ws.length pd] 72):=⟨_,rfl⟩
  have HW3:Hid _:=hW3.symm
  have hP3:W3.heap[w3.heap.size]? = some (.cells #[.int .i64 cd,.int .i64 e0,.bool held,.string z0,.int .i64 z1,.int .i64 z2,.int .i64 z3,.bool so,.bool held,.int .i64 val,.slice pa ps.length pc,.bool tx,.int .i64 tk,.int .i64 ty,.slice pb ws.length pd] 72):=by rw[hW3];exact heap_alloc_new w3 _
  have Q8:Below w3.heap.size w3 W3:=by rw[hW3];exact aj _
  have o3:=o3.below Q8
  have hbr:Below W.heap.size W W3:=ah hbr Q8
  have hl3:w3.heap.size<W3.heap.size:=(Array.getElem?_eq_some_iff.1 hP3).1
  have Yu:w2.heap.size<=w3.heap.size:=hb3.size
  clear Q8 hb3 hW3
  go_upto_region 8 with fail
  rw[HW3.out]
  clear HW3
  as_aux_lemma=>
   obtain⟨⟨x0,x1,x2,x3,x4,x5⟩,-⟩:=bI (HX.out _ hbr)
   go_wp2_with fail
   refine(HT.c _ (fB.out _ hbr)).mono ?_
   rintro e w4 ⟨e1,e2,e3,e4,f1,f2,f3,f4,Yh,rfl,h4⟩
   clear x0 x1 x2 x3 x4 x5
   obtain⟨W5,yR⟩:∃W5,W5=w4.alloc (.cells #[.int .i64 ph,.int .i64 cu,.slice e1 n1 f1,.slice e2 n2 f2,.slice e3 n3 f3,.slice e4 n4 f4] 41):=⟨_,rfl⟩
   have XR:Hid _:=yR.symm
   have Hf:W5.heap[w4.heap.size]? = some (.cells #[.int .i64 ph,.int .i64 cu,.slice e1 n1 f1,.slice e2 n2 f2,.slice e3 n3 f3,.slice e4 n4 f4] 41):=by rw[yR];exact heap_alloc_new w4 _
   have hb5:Below w4.heap.size w4 W5:=by rw[yR];exact aj _
   have Nj:Below W3.heap.size W3 W5:=ah h4.below hb5
   have o4:=h4.own.below hb5
   have o3:=o3.below Nj
   have hP3:=(Nj.block _ hl3).trans hP3
   have hbr:Below W.heap.size W W5:=ah hbr Nj
   have hl5:w4.heap.size<W5.heap.size:=(Array.getElem?_eq_some_iff.1 Hf).1
   have hl4:W3.heap.size<=w4.heap.size:=h4.below.size
   clear h4 hb5 Nj yR
   go_upto_region 9 with fail
   rw[XR.out]
   clear XR
   as_aux_lemma=>
   obtain⟨⟨x0,x1,x2,x3,x4,x5⟩,-⟩:=bI Hf
   have jG:Hid (W5.heap[w3.heap.size]? = some (.cells #[.int .i64 cd,.int .i64 e0,.bool held,.string z0,.int .i64 z1,.int .i64 z2,.int .i64 z3,.bool so,.bool held,.int .i64 val,.slice pa ps.length pc,.bool tx,.int .i64 tk,.int .i64 ty,.slice pb ws.length pd] 72)):=hP3
   have XK:Hid (W5.heap[w4.heap.size]? = some (.cells #[.int .i64 ph,.int .i64 cu,.slice e1 n1 f1,.slice e2 n2 f2,.slice e3 n3 f3,.slice e4 n4 f4] 41)):=Hf
   clear hP3 Hf
   go_wp2_with fail
   refine(HI.c _ e1 e2 e3 e4 f1 f2 f3 f4 o4.sts).mono ?_
   rintro e w6 ⟨ga,gb,gc,gd,rfl,hb6,o6⟩
   clear x0 x1 x2 x3 x4 x5
   obtain⟨W6,TF⟩:∃W6,W6=w6.alloc (.cells #[.int .i64 cd,.int .i64 e0,.bool held,.string z0,.int .i64 z1,.int .i64 z2,.int .i64 z3,.bool so,.bool held,.int .i64 val,.slice ga ps.length gc,.bool tx,.int .i64 tk,.int .i64 ty,.slice gb ws.length gd] 72):=⟨_,rfl⟩
   have XT:Hid _:=TF.symm
   have VU:W6.heap[w6.heap.size]? = some (.cells #[.int .i64 cd,.int .i64 e0,.bool held,.string z0,.int .i64 z1,.int .i64 z2,.int .i64 z3,.bool so,.bool held,.int .i64 val,.slice ga ps.length gc,.bool tx,.int .i64 tk,.int .i64 ty,.slice gb ws.length gd] 72):=by rw[TF];exact heap_alloc_new w6 _
   have Q9:Below w6.heap.size w6 W6:=by rw[TF];exact aj _
   have Dw:Below W5.heap.size W5 W6:=ah hb6 Q9
   have o6:=o6.below Q9
   have o4:=o4.below Dw
   have o3:=o3.below Dw
   have hP3:=(Dw.block _ (by omega)).trans jG.out
   have Hf:=(Dw.block _ hl5).trans XK.out
   have hbr:Below W.heap.size W W6:=ah hbr Dw
   have Zi:w6.heap.size<W6.heap.size:=(Array.getElem?_eq_some_iff.1 VU).1
   have Yv:W5.heap.size<=w6.heap.size:=hb6.size
   have X7:=HX.out _ hbr
   have hlr:W.heap.size<=w2.heap.size:=V3
   have HK:Hid (∀w',Kp W3.heap.size w4.heap.size W5.heap.size w6.heap.size W6 w'->w'.heap[w.heap.size]? = some (.cells #[.int .i64 ph,.int .i64 cu,.slice a1 n1 c1,.slice a2 n2 c2,.slice a3 n3 c3,.slice a4 n4 c4] 29)/\w'.heap[w3.heap.size]? = some (.cells #[.int .i64 cd,.int .i64 e0,.bool held,.string z0,.int .i64 z1,.int .i64 z2,.int .i64 z3,.bool so,.bool held,.int .i64 val,.slice pa ps.length pc,.bool tx,.int .i64 tk,.int .i64 ty,.slice pb ws.length pd] 72)/\w'.heap[w4.heap.size]? = some (.cells #[.int .i64 ph,.int .i64 cu,.slice e1 n1 f1,.slice e2 n2 f2,.slice e3 n3 f3,.slice e4 n4 f4] 41)/\w'.heap[w6.heap.size]? = some (.cells #[.int .i64 cd,.int .i64 e0,.bool held,.string z0,.int .i64 z1,.int .i64 z2,.int .i64 z3,.bool so,.bool held,.int .i64 val,.slice ga ps.length gc,.bool tx,.int .i64 tk,.int .i64 ty,.slice gb ws.length gd] 72)):=(fun w' k=>⟨(k.block _ (by omega) (by omega) (by omega)).trans X7,(k.block _ (by omega) (by omega) (by omega)).trans hP3,(k.block _ (by omega) (by omega) (by omega)).trans Hf,(k.block _ (by omega) (by omega) (by omega)).trans VU⟩:∀w',Kp W3.heap.size w4.heap.size W5.heap.size w6.heap.size W6 w'->w'.heap[w.heap.size]? = some (.cells #[.int .i64 ph,.int .i64 cu,.slice a1 n1 c1,.slice a2 n2 c2,.slice a3 n3 c3,.slice a4 n4 c4] 29)/\w'.heap[w3.heap.size]? = some (.cells #[.int .i64 cd,.int .i64 e0,.bool held,.string z0,.int .i64 z1,.int .i64 z2,.int .i64 z3,.bool so,.bool held,.int .i64 val,.slice pa ps.length pc,.bool tx,.int .i64 tk,.int .i64 ty,.slice pb ws.length pd] 72)/\w'.heap[w4.heap.size]? = some (.cells #[.int .i64 ph,.int .i64 cu,.slice e1 n1 f1,.slice e2 n2 f2,.slice e3 n3 f3,.slice e4 n4 f4] 41)/\w'.heap[w6.heap.size]? = some (.cells #[.int .i64 cd,.int .i64 e0,.bool held,.string z0,.int .i64 z1,.int .i64 z2,.int .i64 z3,.bool so,.bool held,.int .i64 val,.slice ga ps.length gc,.bool tx,.int .i64 tk,.int .i64 ty,.slice gb ws.length gd] 72))
   have HKB:Hid (∀w',Kp W3.heap.size w4.heap.size W5.heap.size w6.heap.size W6 w'->Below w.heap.size w w'):=(fun w' k=>k.to (fB.out _ hbr) (by omega) (by omega):∀w',Kp W3.heap.size w4.heap.size W5.heap.size w6.heap.size W6 w'->Below w.heap.size w w')
   have qh:Hid (∀w',Kp W3.heap.size w4.heap.size W5.heap.size w6.heap.size W6 w'->qp w' ps ws pa pb pc pd):=(fun w' k=>o3.kp k (by omega) (by omega):∀w',Kp W3.heap.size w4.heap.size W5.heap.size w6.heap.size W6 w'->qp w' ps ws pa pb pc pd)
   have QG:Hid (w4.heap.size<=W5.heap.size/\w4.heap.size<=W6.heap.size/\w6.heap.size<=W6.heap.size):=(by omega:w4.heap.size<=W5.heap.size/\w4.heap.size<=W6.heap.size/\w6.heap.size<=W6.heap.size)
   have kp:=Kp.refl W3.heap.size w4.heap.size W5.heap.size w6.heap.size W6
   clear Dw Q9 hb6 TF hP3 Hf VU X7 o3 HX fB hbr jG XK hl3 hl4 hl5 Zi Yu Yv hlr X3 V3
   go_upto_region 10 with fail
   rw[XT.out]
   clear XT
   as_aux_lemma=>
    obtain⟨-,kA,-,kB⟩:=HK.out _ kp
    obtain⟨⟨y0,y1,y2,y3,y4,y5,y6,y7,y8,y9,fF,fG,fH,y13,QF⟩,-⟩:=fifteen kA
    obtain⟨⟨q0,q1,q2,q3,q4,q5,q6,q7,q8,q9,q10,q11,q12,q13,xw⟩,-⟩:=fifteen kB
    clear kA kB
    go_wp2_with fail
    refine(HE.c _ _ _ _ _ _ _ _ _ o6.r.rd (qh.out _ kp)).mono ?_
    rintro e w7 ⟨rfl,hb7⟩
    have kp:=kp.below hb7
    have o4:=o4.below hb7
    have o6:=o6.below hb7
    have Vg:Hid (w4.heap.size<=w7.heap.size/\w6.heap.size<=w7.heap.size):=⟨Nat.le_trans QG.out.2.1 hb7.size,Nat.le_trans QG.out.2.2 hb7.size⟩
    clear hb7 y0 y1 y2 y3 y4 y5 y6 y7 y8 y9 fF fG fH y13 QF q0 q1 q2 q3 q4 q5 q6 q7 q8 q9 q10 q11 q12 q13 xw
    obtain⟨kX,-,kY,-⟩:=HK.out _ kp
    obtain⟨⟨x0,x1,x2,x3,x4,x5⟩,-⟩:=bI kX
    obtain⟨⟨y0,y1,y2,y3,y4,y5⟩,-⟩:=bI kY
    clear kX kY
    have HC2:Hid (∀w',Below w7.heap.size w7 w'->(w'.cell? ⟨w4.heap.size,0,none⟩=some (.int .i64 ph)/\w'.cell? ⟨w4.heap.size,1,none⟩=some (.int .i64 cu)/\w'.cell? ⟨w4.heap.size,2,none⟩=some (.slice e1 n1 f1)/\w'.cell? ⟨w4.heap.size,3,none⟩=some (.slice e2 n2 f2)/\w'.cell? ⟨w4.heap.size,4,none⟩=some (.slice e3 n3 f3)/\w'.cell? ⟨w4.heap.size,5,none⟩=some (.slice e4 n4 f4))/\w'.cell? ⟨w.heap.size,0,none⟩=some (.int .i64 ph)/\w'.cell? ⟨w.heap.size,1,none⟩=some (.int .i64 cu)/\w'.cell? ⟨w.heap.size,2,none⟩=some (.slice a1 n1 c1)/\w'.cell? ⟨w.heap.size,3,none⟩=some (.slice a2 n2 c2)/\w'.cell? ⟨w.heap.size,4,none⟩=some (.slice a3 n3 c3)/\w'.cell? ⟨w.heap.size,5,none⟩=some (.slice a4 n4 c4)):=(fun w' hb=>⟨(bI (HK.out _ (kp.below hb)).2.2.1).1,(bI (HK.out _ (kp.below hb)).1).1⟩:∀w',Below w7.heap.size w7 w'->(w'.cell? ⟨w4.heap.size,0,none⟩=some (.int .i64 ph)/\w'.cell? ⟨w4.heap.size,1,none⟩=some (.int .i64 cu)/\w'.cell? ⟨w4.heap.size,2,none⟩=some (.slice e1 n1 f1)/\w'.cell? ⟨w4.heap.size,3,none⟩=some (.slice e2 n2 f2)/\w'.cell? ⟨w4.heap.size,4,none⟩=some (.slice e3 n3 f3)/\w'.cell? ⟨w4.heap.size,5,none⟩=some (.slice e4 n4 f4))/\w'.cell? ⟨w.heap.size,0,none⟩=some (.int .i64 ph)/\w'.cell? ⟨w.heap.size,1,none⟩=some (.int .i64 cu)/\w'.cell? ⟨w.heap.size,2,none⟩=some (.slice a1 n1 c1)/\w'.cell? ⟨w.heap.size,3,none⟩=some (.slice a2 n2 c2)/\w'.cell? ⟨w.heap.size,4,none⟩=some (.slice a3 n3 c3)/\w'.cell? ⟨w.heap.size,5,none⟩=some (.slice a4 n4 c4))
    have XM:Hid (∀w',Below w7.heap.size w7 w'->Sts w' (sv e1 e2 e3 e4 n1 n2 n3 n4 f1 f2 f3 f4) s):=fun w' hb=>(o4.below hb).sts
    have hbx:Below w7.heap.size w7 w7:=Below.refl _ _
    have Vb:Hid (∀w',Below w7.heap.size w7 w'->Below w.heap.size w w'):=fun w' hb=>HKB.out _ (kp.below hb)
    have OH:Hid (Kp W3.heap.size w4.heap.size W5.heap.size w6.heap.size W6 w7):=kp
    have Le:Hid (dD W3.heap.size w4.heap.size w7 (sv e1 e2 e3 e4 n1 n2 n3 n4 f1 f2 f3 f4) Yh s):=o4
    have XJ:Hid (kF W5.heap.size w6.heap.size w7 ps ws ga gb gc gd):=o6
    clear kp o4 o6
    as_aux_lemma=>
    go_wp2_with fail
    go_region_held3 (fun w'=>(w'.cell? ⟨w4.heap.size,0,none⟩=some (.int .i64 ph)/\w'.cell? ⟨w4.heap.size,1,none⟩=some (.int .i64 cu)/\w'.cell? ⟨w4.heap.size,2,none⟩=some (.slice e1 n1 f1)/\w'.cell? ⟨w4.heap.size,3,none⟩=some (.slice e2 n2 f2)/\w'.cell? ⟨w4.heap.size,4,none⟩=some (.slice e3 n3 f3)/\w'.cell? ⟨w4.heap.size,5,none⟩=some (.slice e4 n4 f4))/\w'.cell? ⟨w.heap.size,0,none⟩=some (.int .i64 ph)/\w'.cell? ⟨w.heap.size,1,none⟩=some (.int .i64 cu)/\w'.cell? ⟨w.heap.size,2,none⟩=some (.slice a1 n1 c1)/\w'.cell? ⟨w.heap.size,3,none⟩=some (.slice a2 n2 c2)/\w'.cell? ⟨w.heap.size,4,none⟩=some (.slice a3 n3 c3)/\w'.cell? ⟨w.heap.size,5,none⟩=some (.slice a4 n4 c4))
     (first | with_reducible exact⟨⟨y0,y1,y2,y3,y4,y5⟩,x0,x1,x2,x3,x4,x5⟩|with_reducible exact HC2.out _ hbx | with_reducible exact HC2.out _ hbx.drew)
     (first
      |(go_at_call 11;refine(ToS.c (by assumption) _ (by first | exact Vb.out _ hbx | exact Vb.out _ hbx.drew)).mono ?_;rintro e w8 ⟨g1',g2',g3',g4',k1',k2',k3',k4',us8,rfl,h8⟩;have hbx:Below w7.heap.size w7 w8:=(by first | exact ah hbx h8.below | exact ah hbx.drew h8.below))
      |(go_at_call 15;refine(EqS.c (by assumption) _ _ _ _ _ _ _ _ _ _ _ _ _ _ _ _ _ (XM.out _ hbx) h8.sts).mono ?_;rintro e w9 ⟨rfl,LH⟩;have hbx:Below w7.heap.size w7 w9:=ah hbx LH))
    have kp:=OH.out.below hbx
    have o4:=Le.out.below hbx
    have o6:=XJ.out.below hbx
    have X0:w4.heap.size<=w9.heap.size:=Nat.le_trans Vg.out.1 hbx.size
    have XD:Hid (w6.heap.size<=w9.heap.size):=Nat.le_trans Vg.out.2 hbx.size
    clear x0 x1 x2 x3 x4 x5 y0 y1 y2 y3 y4 y5 HC2 XM hbx Vb OH Le XJ Vg h8 LH YS
    as_aux_lemma=>
     obtain⟨-,-,kY,-⟩:=HK.out _ kp
     obtain⟨⟨y0,y1,y2,y3,y4,y5⟩,-⟩:=bI kY
     clear kY
     go_wp2_with fail
     refine(HM.c _ _ _ e1 e2 e3 e4 f1 f2 f3 f4 Yh o4 X0).mono ?_
     rintro e w10 ⟨rfl,Ns⟩
     have kp:=kp.t1 Ns
     have o6:=o6.tch Ns QG.out.1
     have Vf:Hid (w6.heap.size<=w10.heap.size):=Nat.le_trans XD.out Ns.size
     clear Ns o4 X0 XD HM y0 y1 y2 y3 y4 y5
     obtain⟨-,kA,-,kB⟩:=HK.out _ kp
     obtain⟨⟨y0,y1,y2,y3,y4,y5,y6,y7,y8,y9,fF,fG,fH,y13,QF⟩,-⟩:=fifteen kA
     obtain⟨⟨q0,q1,q2,q3,q4,q5,q6,q7,q8,q9,q10,q11,q12,q13,xw⟩,-⟩:=fifteen kB
     clear kA kB
     go_wp2_with fail
     refine(HE.c _ _ _ _ _ _ _ _ _ o6.r.rd (qh.out _ kp)).mono ?_
     rintro e ZP ⟨rfl,Nh⟩
     have kp:=kp.below Nh
     have o6:=o6.below Nh
     have Yo:w6.heap.size<=ZP.heap.size:=Nat.le_trans Vf.out Nh.size
     clear Nh Vf y0 y1 y2 y3 y4 y5 y6 y7 y8 y9 fF fG fH y13 QF q0 q1 q2 q3 q4 q5 q6 q7 q8 q9 q10 q11 q12 q13 xw
     obtain⟨-,-,-,kB⟩:=HK.out _ kp
     obtain⟨⟨q0,q1,q2,q3,q4,q5,q6,q7,q8,q9,q10,q11,q12,q13,xw⟩,-⟩:=fifteen kB
     clear kB
     go_wp2_with fail
     refine(XH.c _ _ _ _ _ _ _ o6).mono ?_
     rintro e w12 ⟨rfl,V5,r12⟩
     have kp:=kp.t2 V5
     clear V5 o6 Yo XH q0 q1 q2 q3 q4 q5 q6 q7 q8 q9 q10 q11 q12 q13 xw
     as_aux_lemma=>
     obtain⟨-,-,-,kB⟩:=HK.out _ kp
     obtain⟨⟨q0,q1,q2,q3,q4,q5,q6,q7,q8,q9,q10,q11,q12,q13,xw⟩,-⟩:=fifteen kB
     clear kB
     go_wp2_with fail
     refine(XA.c _ _ _ _ _ r12).mono ?_
     rintro e w13 ⟨rfl,zJ⟩
     have kp:=kp.below zJ
     have r13:=r12.below zJ
     clear zJ r12 q0 q1 q2 q3 q4 q5 q6 q7 q8 q9 q10 q11 q12 q13 xw
     obtain⟨kX,-,-,-⟩:=HK.out _ kp
     obtain⟨⟨x0,x1,x2,x3,x4,x5⟩,-⟩:=bI kX
     clear kX
     go_wp2_with fail
     refine(HT.c _ (HKB.out _ kp)).mono ?_
     rintro e w14 ⟨i1,i2,i3,i4,j1,j2,j3,j4,Z9,rfl,aW⟩
     have kp:=kp.below aW.below
     have Yg:=r13.below aW.below
     have s14:=aW.sts
     clear aW r13 x0 x1 x2 x3 x4 x5
     as_aux_lemma=>
      go_wp2_with fail
      refine(HI.c _ _ _ _ _ _ _ _ _ s14).mono ?_
      rintro e MK ⟨la,lb,lc,ld,rfl,Q7,TK⟩
      have kp:=kp.below Q7
      have TN:=Yg.below Q7
      clear Q7 Yg s14
      obtain⟨OQ,Nc⟩:∃OQ,OQ=MK.alloc (.cells #[.int .i64 cd,.int .i64 e0,.bool held,.string z0,.int .i64 z1,.int .i64 z2,.int .i64 z3,.bool so,.bool held,.int .i64 val,.slice la ps.length lc,.bool tx,.int .i64 tk,.int .i64 ty,.slice lb ws.length ld] 72):=⟨_,rfl⟩
      have Vq:Hid _:=Nc.symm
      have VT:OQ.heap[MK.heap.size]? = some (.cells #[.int .i64 cd,.int .i64 e0,.bool held,.string z0,.int .i64 z1,.int .i64 z2,.int .i64 z3,.bool so,.bool held,.int .i64 val,.slice la ps.length lc,.bool tx,.int .i64 tk,.int .i64 ty,.slice lb ws.length ld] 72):=by rw[Nc];exact heap_alloc_new MK _
      have hbW:Below MK.heap.size MK OQ:=by rw[Nc];exact aj _
      have kp:=kp.below hbW
      have TN:=TN.below hbW
      have TK:=TK.below hbW
      clear hbW Nc
      go_upto_region 27 with fail
      rw[Vq.out]
      clear Vq
      obtain⟨-,kA,-,-⟩:=HK.out _ kp
      obtain⟨⟨y0,y1,y2,y3,y4,y5,y6,y7,y8,y9,fF,fG,fH,y13,QF⟩,-⟩:=fifteen kA
      obtain⟨⟨q0,q1,q2,q3,q4,q5,q6,q7,q8,q9,q10,q11,q12,q13,xw⟩,-⟩:=fifteen VT
      clear kA VT
      go_wp2_with fail
      refine(HE.c _ _ _ _ _ _ _ _ _ TK.r.rd (qh.out _ kp)).mono ?_
      rintro e w16 ⟨rfl,hb16⟩
      have kp:=kp.below hb16
      have r16:=TN.below hb16
      clear hb16 TN TK y0 y1 y2 y3 y4 y5 y6 y7 y8 y9 fF fG fH y13 QF q0 q1 q2 q3 q4 q5 q6 q7 q8 q9 q10 q11 q12 q13 xw
      obtain⟨-,-,-,kB⟩:=HK.out _ kp
      obtain⟨⟨q0,q1,q2,q3,q4,q5,q6,q7,q8,q9,q10,q11,q12,q13,xw⟩,-⟩:=fifteen kB
      clear kB
      go_wp2_with fail
      refine(XA.c _ _ _ _ _ r16).mono ?_
      rintro e w17 ⟨rfl,VW⟩
      have Yn:=HKB.out _ (kp.below VW)
      clear kp r16 VW q0 q1 q2 q3 q4 q5 q6 q7 q8 q9 q10 q11 q12 q13 xw
      go_wp2
      go_ret
      exact⟨rfl,Yn⟩
end U
end Go.Proofs.YtmnfokgllcdiiaaGreat
