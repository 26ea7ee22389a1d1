/- A state that is updated, by the model. -/
import Derived.Test.YtmmcgjacojgeaaaGreatGZz
import Derived.Test.YtmmcgjacojgeaaaGreatGIm6
import Derived.Test.YtmmcgjacojgeaaaGreatGBH
import Derived.Test.YtmmcgjacojgeaaaGreatGBG
import Derived.Test.YtmmcgjacojgeaaaGreatGBC
set_option maxRecDepth 100000
set_option maxHeartbeats 4000000
namespace Go.Proofs.YtmmcgjacojgeaaaGreat
open Go.RowKit
namespace U
def usT(s:St)(r:Rc)(x:Int):St:=⟨s.ph,s.cu,u9L s.d r x,newL (u9L s.d r x) s.cu,s.h,s.p⟩
def usF(R:Rt)(s:St)(r:Rc)(x:Int):Int:=if stF R s=0 then u9C s.d r x else stF R s
theorem fD{w:World}{b q o:Nat}(hq:q≠b)(x0 x1 x2 x3 x4 x5 x6:Value):(((((((w.setCell ⟨b,0,none⟩ x0).setCell ⟨b,1,none⟩ x1).setCell ⟨b,2,none⟩ x2).setCell ⟨b,3,none⟩ x3).setCell ⟨b,4,none⟩ x4).setCell ⟨b,5,none⟩ x5).setCell ⟨b,6,none⟩ x6).cell? ⟨q,o,none⟩=w.cell? ⟨q,o,none⟩:=by
 have h:∀i:Nat,(⟨q,o,none⟩:Addr)≠⟨b,i,none⟩:=fun i e=>hq (by cases e;rfl)
 have h':∀i:Nat,(⟨b,i,none⟩:Addr)≠⟨q,o,none⟩:=fun i e=>hq (by cases e;rfl)
 rw[World.cell?_setCell_other _ _ _ _ (by first | exact h _ | exact h' _),World.cell?_setCell_other _ _ _ _ (by first | exact h _ | exact h' _),World.cell?_setCell_other _ _ _ _ (by first | exact h _ | exact h' _),World.cell?_setCell_other _ _ _ _ (by first | exact h _ | exact h' _),World.cell?_setCell_other _ _ _ _ (by first | exact h _ | exact h' _),World.cell?_setCell_other _ _ _ _ (by first | exact h _ | exact h' _),World.cell?_setCell_other _ _ _ _ (by first | exact h _ | exact h' _)]
theorem Ko(lo hi g p po:Nat)(s:St)(v:Sv)(aT:List Value)(r:Rc)(x:Int)(w:World)(hso:aG lo hi w v aT s)(hB:StB s)(hs:StC w g s v)(hd:aF s.d=0)(hp:p<w.heap.size)(hr:dV w p po r)(hrs:r.l.size<=1048576)(ig:cuB s.ph s.cu=true)(hu:u9C s.d r x=0):
  Calls Tryz.prog 26 #[.pointer (some ⟨g,0,none⟩),.pointer (some ⟨p,po,none⟩),.int .i64 x] w fun e w'=>aQ w 0 (usT s r x) e w':=by
 obtain⟨W,hW⟩:∃W,W=w.alloc aiJ:=⟨_,rfl⟩
 have hBW:Below w.heap.size w W:=by rw[hW];exact aj _
 have cZ:W.heap[w.heap.size]? = some aiJ:=by rw[hW];exact heap_alloc_new w _
 have dG:w.heap.size<W.heap.size:=(Array.getElem?_eq_some_iff.1 cZ).1
 have hsW:=hs.below hBW hs.lt
 have hgw:g<w.heap.size:=hs.lt
 have Ul:=hr.below hBW hp
 have hU:=zy g 2 p po v.d s.d r x W hsW.lt hsW.c2 (hso.sts.d.below hBW) (cO hd) (by have:=hBW.size;omega) Ul hrs
 have HW:Hid (w.alloc aiJ=W):=hW.symm
 have aC:Hid (Below w.heap.size w W):=hBW
 have HRW:Hid (W.heap[w.heap.size]? = some aiJ):=cZ
 have jg:Hid (w.heap.size<W.heap.size):=dG
 have JG:=SE (cO hd) hu
 rw[hu]at hU
 have HSO:Hid (aG lo hi W v aT s):=hso.below hBW
 have IK:Hid (StC W g s v):=hsW
 generalize hde:u9L s.d r x=dn at *
 have et:usT s r x=⟨s.ph,s.cu,dn,newL dn s.cu,s.h,s.p⟩:=by unfold usT;rw[hde]
 rw[et]
 generalize hT:(⟨s.ph,s.cu,dn,newL dn s.cu,s.h,s.p⟩:St)=t
 have h00:((0:Int) != 0)=false:=by decide
 clear hso hs hsW hd hr Ul hrs hW hBW cZ dG et hde hu
 go_enter Tryz.func26,Tryz.ntmps26
 go_wp2_with fail
 rw[HW.out]
 refine hU.mono ?_
 rintro e w1 ⟨a,c,rfl,hb1,bP⟩
 obtain⟨W1,hW1⟩:∃W1,W1=w1.alloc (.cells #[.slice a dn.length c] 36):=⟨_,rfl⟩
 have HW1:Hid (w1.alloc (.cells #[.slice a dn.length c] 36)=W1):=hW1.symm
 have Wj:Below w1.heap.size w1 W1:=by rw[hW1];exact aj _
 have sJ:=ah hb1 Wj
 have X1:W1.heap[w1.heap.size]? = some (.cells #[.slice a dn.length c] 36):=by rw[hW1];exact heap_alloc_new _ _
 have hsc:=IK.out.below sJ IK.out.lt
 have k0:=hsc.c0
 have k1:=hsc.c1
 have lG:Hid (∀w',Below W1.heap.size W1 w'->Calls Tryz.prog 58 #[.pointer (some ⟨g,0,none⟩),.int .i64 s.ph,.int .i64 s.cu,.pointer (some ⟨w1.heap.size,0,none⟩)] w' fun e w''=>aQ w' 0 t e w''):=fun w' hb=>by
  have hbb:=ah sJ hb
  have hx:=(hb.block _ (Array.getElem?_eq_some_iff.1 X1).1).trans X1
  rw[←hT]
  exact gQ lo hi g w1.heap.size 0 s v aT s.ph s.cu dn a dn.length c w' (HSO.out.below hbb) hB (IK.out.below hbb IK.out.lt) (Array.getElem?_eq_some_iff.1 hx).1 (by unfold World.cell?;rw[hx];rfl) rfl ((rO bP).below (ah Wj hb)) (kL bP rfl) JG ig
 clear hT
 generalize s.ph=ph at *
 generalize s.cu=cu at *
 have HKK:Hid (∀w',Below W1.heap.size W1 w'->w'.cell? ⟨g,0,none⟩=some (.int .i64 ph)/\w'.cell? ⟨g,1,none⟩=some (.int .i64 cu)):=fun w' hb=>⟨(hb.cell (p:=⟨g,0,none⟩) hsc.lt).trans k0,(hb.cell (p:=⟨g,1,none⟩) hsc.lt).trans k1⟩
 have HB1:Hid (Below w.heap.size w W1):=ah aC.out sJ
 have HR1:Hid (W1.heap[w.heap.size]? = some aiJ):=(sJ.block _ jg.out).trans HRW.out
 have hgn:g≠w.heap.size:=by omega
 have HGN:Hid (g≠w.heap.size):=hgn
 clear hU bP hb1 Wj X1 hW1 sJ ig JG hsc HSO IK hB HW HRW jg
 go_wp2_with fail
 rw[HW1.out]
 have hHeld:W1.drew.cell? ⟨g,0,none⟩=some (.int .i64 ph)/\W1.drew.cell? ⟨g,1,none⟩=some (.int .i64 cu):=⟨k0,k1⟩
 refine wp_region_held_drew (S:=fun w'=>w'.cell? ⟨g,0,none⟩=some (.int .i64 ph)/\w'.cell? ⟨g,1,none⟩=some (.int .i64 cu)) (by kernel_rfl) hHeld (fun hHeld=> ?_)
 refine aK (i:=0) (d:=some 22) (v:= ?v0) (by rfl) (by kernel_rfl) (by kernel_rfl) (by kernel_rfl) (fun _ _ _ h=>h) (by rfl) ?hy0 hHeld ?agX
 case hy0=>
  intro o ho
  simp only[aiF,aiG,aiI]at ho
  subst ho
  rintro w' ⟨s0,s1⟩
  first |(go_simp;done) |(go_simp;with_reducible rfl)
 try simp only[Act.put,aiC,aiD,aiE]
 refine aK (i:=1) (d:=some 23) (v:= ?v1) (by rfl) (by kernel_rfl) (by kernel_rfl) (by kernel_rfl) (fun _ _ _ h=>h) (by rfl) ?hy1 hHeld ?agY
 case hy1=>
  intro o ho
  simp only[aiF,aiH,aiG,aiI]at ho
  subst ho
  rintro w' ⟨s0,s1⟩
  first |(go_simp;done) |(go_simp;with_reducible rfl)
 try simp only[Act.put,aiC,aiD,aiE]
 refine aK (i:=2) (d:=some 24) (v:= ?v2) (by rfl) (by kernel_rfl) (by kernel_rfl) (by kernel_rfl) (fun _ _ _ h=>h) (by rfl) ?hy2 hHeld ?agZ
 case hy2=>
  intro o ho
  simp only[aiF,aiH,aiG,aiI]at ho
  subst ho
  rintro w' ⟨s0,s1⟩
  first |(go_simp;done) |(go_simp;with_reducible rfl)
 try simp only[Act.put,aiC,aiD,aiE]
 refine aK (i:=3) (d:=some 25) (v:= ?v3) (by rfl) (by kernel_rfl) (by kernel_rfl) (by kernel_rfl) (fun _ _ _ h=>h) (by rfl) ?hy3 hHeld ?ag0
 case hy3=>
  intro o ho
  simp only[aiF,aiH,aiG,aiI]at ho
  subst ho
  rintro w' ⟨s0,s1⟩
  first |(go_simp;done) |(go_simp;with_reducible rfl)
 try simp only[Act.put,aiC,aiD,aiE]
 refine aK (i:=4) (d:=some 26) (v:= ?v4) (by rfl) (by kernel_rfl) (by kernel_rfl) (by kernel_rfl) (fun _ _ _ h=>h) (by rfl) ?hy4 hHeld ?ag1
 case hy4=>
  intro o ho
  simp only[aiF,aiH,aiG,aiI]at ho
  subst ho
  rintro w' ⟨s0,s1⟩
  first |(go_simp;done) |(go_simp;with_reducible rfl)
 try simp only[Act.put,aiC,aiD,aiE]
 refine aK (i:=5) (d:=some 27) (v:= ?v5) (by rfl) (by kernel_rfl) (by kernel_rfl) (by kernel_rfl) (fun _ _ _ h=>h) (by rfl) ?hy5 hHeld ?ag2
 case hy5=>
  intro o ho
  simp only[aiF,aiH,aiG,aiI]at ho
  subst ho
  rintro w' ⟨s0,s1⟩
  first |(go_simp;done) |(go_simp;with_reducible rfl)
 try simp only[Act.put,aiC,aiD,aiE]
 refine aK (i:=6) (d:=some 28) (v:= ?v6) (by rfl) (by kernel_rfl) (by kernel_rfl) (by kernel_rfl) (fun _ _ _ h=>h) (by rfl) ?hy6 hHeld ?ag3
 case hy6=>
  intro o ho
  simp only[aiF,aiH,aiG,aiI]at ho
  subst ho
  rintro w' ⟨s0,s1⟩
  first |(go_simp;done) |(go_simp;with_reducible rfl)
 try simp only[Act.put,aiC,aiD,aiE]
 refine aK (i:=7) (d:=some 29) (v:= ?v7) (by rfl) (by kernel_rfl) (by kernel_rfl) (by kernel_rfl) (fun _ _ _ h=>h) (by rfl) ?hy7 hHeld ?ag4
 case hy7=>
  intro o ho
  simp only[aiF,aiH,aiG,aiI]at ho
  subst ho
  rintro w' ⟨s0,s1⟩
  first |(go_simp;done) |(go_simp;with_reducible rfl)
 try simp only[Act.put,aiC,aiD,aiE]
 refine aK (i:=8) (d:=some 30) (v:= ?v8) (by rfl) (by kernel_rfl) (by kernel_rfl) (by kernel_rfl) (fun _ _ _ h=>h) (by rfl) ?hy8 hHeld ?ag5
 case hy8=>
  intro o ho
  simp only[aiF,aiH,aiG,aiI]at ho
  subst ho
  rintro w' ⟨s0,s1⟩
  first |(go_simp;done) |(go_simp;with_reducible rfl)
 try simp only[Act.put,aiC,aiD,aiE]
 refine wpAnyH_ready (rs:=[9]) (by kernel_rfl) (by simp) ?_
 refine AllReadyH.cons rfl (fun K hK=> ?_) AllReadyH.nil
 go_simp
 refine(lG.out _ (Below.refl _ _).drew).mono ?_
 rintro e w2 ⟨u,us,rfl,hb2,h1⟩
 have hb2':=ah (Below.refl _ W1).drew hb2
 have HB2:Hid (Below w.heap.size w w2):=ah HB1.out hb2'
 have bf:Hid (w.heap.size<W1.heap.size):=(Array.getElem?_eq_some_iff.1 HR1.out).1
 obtain⟨⟨q0,q1,q2,q3,q4,q5,q6⟩,g0,g1,g2,g3,g4,g5,g6⟩:=aA ((hb2'.block w.heap.size bf.out).trans HR1.out)
 have hkk:=HKK.out _ hb2'
 refine hK.out _ _ hkk (fun hHeld=> ?_)
 clear hK K hb2 hb2' lG HKK k0 k1 hHeld
 try simp only[Act.put,aiC,aiD,aiE]
 obtain⟨b1,d1,f1⟩:=h1.sts.d.shape
 obtain⟨b2,d2,f2⟩:=h1.sts.n.shape
 obtain⟨b3,d3,f3⟩:=h1.sts.h.shape
 obtain⟨b4,d4,f4⟩:=h1.sts.p.shape
 obtain⟨td,tn,th,tp⟩:=u
 dsimp only at f1 f2 f3 f4
 subst f1 f2 f3 f4
 unfold srV
 dsimp only
 have bJ:Hid (w.heap.size<=w.heap.size):=Nat.le_refl _
 have HP:Hid (∀x0 x1 x2 x3 x4 x5 x6:Value,_):=(bZ (w:=w) (b:=w.heap.size) h1 HB2.out bJ.out (by first | exact bf.out |(simpa using bf.out)))
 clear h1
 refine wpAnyH_ready (rs:=[10]) (by kernel_rfl) (by simp) ?_
 refine AllReadyH.cons rfl (fun K hK=> ?_) AllReadyH.nil
 go_simp
 refine hK.out _ _ ?_ (fun hHeld=> ?_)
 ·exact⟨(fD HGN.out _ _ _ _ _ _ _).trans hkk.1,(fD HGN.out _ _ _ _ _ _ _).trans hkk.2⟩
 clear hK K
 try simp only[Act.put,aiC,aiD,aiE]
 refine wpAnyH_done (by kernel_rfl) ?_ _
 clear hkk hHeld
 go_wp2
 refine bodyPost_ret (v:= .agg #[.int .i64 0,.int .i64 t.ph,.int .i64 t.cu,.slice b1 t.d.length d1,.slice b2 t.n.length d2,.slice b3 t.h.length d3,.slice b4 t.p.length d4]) (by simp[results,Tryz.results26,go_sem,q0,q1,q2,q3,q4,q5,q6]) rfl ⟨⟨.slice b1 t.d.length d1,.slice b2 t.n.length d2,.slice b3 t.h.length d3,.slice b4 t.p.length d4⟩,us,rfl, ?_, ?_⟩
 ·exact(HP.out _ _ _ _ _ _ _).1
 ·exact(HP.out _ _ _ _ _ _ _).2
theorem J9(lo hi g p po:Nat)(s:St)(v:Sv)(aT:List Value)(r:Rc)(x:Int)(w:World)(hso:aG lo hi w v aT s)(_hB:StB s)(hs:StC w g s v)(hd:aF s.d=0)(hp:p<w.heap.size)(hr:dV w p po r)(hrs:r.l.size<=1048576)(hu:¬u9C s.d r x=0):
  Calls Tryz.prog 26 #[.pointer (some ⟨g,0,none⟩),.pointer (some ⟨p,po,none⟩),.int .i64 x] w fun e w'=>aQ w (u9C s.d r x) stZ e w':=by
 obtain⟨W,hW⟩:∃W,W=w.alloc aiJ:=⟨_,rfl⟩
 have hBW:Below w.heap.size w W:=by rw[hW];exact aj _
 have cZ:W.heap[w.heap.size]? = some aiJ:=by rw[hW];exact heap_alloc_new w _
 have dG:w.heap.size<W.heap.size:=(Array.getElem?_eq_some_iff.1 cZ).1
 have hsW:=hs.below hBW hs.lt
 have hgw:g<w.heap.size:=hs.lt
 have Ul:=hr.below hBW hp
 have hU:=zy g 2 p po v.d s.d r x W hsW.lt hsW.c2 (hso.sts.d.below hBW) (cO hd) (by have:=hBW.size;omega) Ul hrs
 have HW:Hid (w.alloc aiJ=W):=hW.symm
 have aC:Hid (Below w.heap.size w W):=hBW
 have HRW:Hid (W.heap[w.heap.size]? = some aiJ):=cZ
 have jg:Hid (w.heap.size<W.heap.size):=dG
 have yM:=fun c w=>iT c w
 have hq:=jw hu
 generalize stZ=t at *
 generalize u9C s.d r x=cc at *
 generalize u9L s.d r x=dn at *
 clear hso hs hsW hd hr Ul hrs hW hBW cZ dG hu
 go_enter Tryz.func26,Tryz.ntmps26
 go_wp2_with fail
 rw[HW.out]
 refine hU.mono ?_
 rintro e w1 ⟨a,c,rfl,hb1,-⟩
 have HB1:Hid (Below w.heap.size w w1):=ah aC.out hb1
 have dU:Hid (w.heap.size<w1.heap.size):=Nat.lt_of_lt_of_le jg.out hb1.size
 have HR1:Hid (w1.heap[w.heap.size]? = some aiJ):=(hb1.block _ jg.out).trans HRW.out
 clear hU hb1 HRW jg HW
 go_wp2_with fail
 refine(yM _ _).mono ?_
 rintro e w2 ⟨u,us,rfl,hb2,h1⟩
 have hb2':=ah (aj (w:=w1) (.cells #[.slice a dn.length c] 36)) hb2
 have HB2:Hid (Below w.heap.size w w2):=ah HB1.out hb2'
 obtain⟨⟨q0,q1,q2,q3,q4,q5,q6⟩,g0,g1,g2,g3,g4,g5,g6⟩:=aA ((hb2'.block w.heap.size dU.out).trans HR1.out)
 clear yM hb2 hb2'
 obtain⟨b1,d1,f1⟩:=h1.sts.d.shape
 obtain⟨b2,d2,f2⟩:=h1.sts.n.shape
 obtain⟨b3,d3,f3⟩:=h1.sts.h.shape
 obtain⟨b4,d4,f4⟩:=h1.sts.p.shape
 obtain⟨td,tn,th,tp⟩:=u
 dsimp only at f1 f2 f3 f4
 subst f1 f2 f3 f4
 unfold srV
 dsimp only
 have bJ:Hid (w.heap.size<=w.heap.size):=Nat.le_refl _
 have HP:Hid (∀x0 x1 x2 x3 x4 x5 x6:Value,_):=(bZ (w:=w) (b:=w.heap.size) h1 HB2.out bJ.out (by have:=dU.out;simp;omega))
 clear h1
 go_wp2
 refine bodyPost_ret (v:= .agg #[.int .i64 cc,.int .i64 t.ph,.int .i64 t.cu,.slice b1 t.d.length d1,.slice b2 t.n.length d2,.slice b3 t.h.length d3,.slice b4 t.p.length d4]) (by simp[results,Tryz.results26,go_sem,q0,q1,q2,q3,q4,q5,q6]) rfl ⟨⟨.slice b1 t.d.length d1,.slice b2 t.n.length d2,.slice b3 t.h.length d3,.slice b4 t.p.length d4⟩,us,rfl, ?_, ?_⟩
 ·exact(HP.out _ _ _ _ _ _ _).1
 ·exact(HP.out _ _ _ _ _ _ _).2
end U
end Go.Proofs.YtmmcgjacojgeaaaGreat
