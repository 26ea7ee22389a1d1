/- A state that is updated, by the model. -/
import Derived.Test.YtmmcgjacojgeaaaGreatKZz
import Derived.Test.YtmmcgjacojgeaaaGreatKIm6
import Derived.Test.YtmmcgjacojgeaaaGreatKBH
import Derived.Test.YtmmcgjacojgeaaaGreatKBG
import Derived.Test.YtmmcgjacojgeaaaGreatKBC
set_option maxRecDepth 100000
set_option maxHeartbeats 4000000
namespace Go.Proofs.YtmmcgjacojgeaaaGreat
open Go.RowKit
namespace U
def usT(s:St)(r:Rc)(x:Int):St:=⟨s.ph,s.cu,u9L s.d r x,newL (u9L s.d r x) s.cu,s.h,s.p⟩
def usF(R:Rt)(s:St)(r:Rc)(x:Int):Int:=if stF R s=0 then u9C s.d r x else stF R s
theorem DL{w:World}{b q o:Nat}(hq:q≠b)(x0 x1 x2 x3 x4 x5 x6:Value):(((((((w.setCell ⟨b,0,none⟩ x0).setCell ⟨b,1,none⟩ x1).setCell ⟨b,2,none⟩ x2).setCell ⟨b,3,none⟩ x3).setCell ⟨b,4,none⟩ x4).setCell ⟨b,5,none⟩ x5).setCell ⟨b,6,none⟩ x6).cell? ⟨q,o,none⟩=w.cell? ⟨q,o,none⟩:=by
 have h:∀i:Nat,(⟨q,o,none⟩:Addr)≠⟨b,i,none⟩:=fun i e=>hq (by cases e;rfl)
 have h':∀i:Nat,(⟨b,i,none⟩:Addr)≠⟨q,o,none⟩:=fun i e=>hq (by cases e;rfl)
 rw[World.cell?_setCell_other _ _ _ _ (by first | exact h _ | exact h' _),World.cell?_setCell_other _ _ _ _ (by first | exact h _ | exact h' _),World.cell?_setCell_other _ _ _ _ (by first | exact h _ | exact h' _),World.cell?_setCell_other _ _ _ _ (by first | exact h _ | exact h' _),World.cell?_setCell_other _ _ _ _ (by first | exact h _ | exact h' _),World.cell?_setCell_other _ _ _ _ (by first | exact h _ | exact h' _),World.cell?_setCell_other _ _ _ _ (by first | exact h _ | exact h' _)]
theorem GV(lo hi g p po:Nat)(s:St)(v:Sv)(dP:List Value)(r:Rc)(x:Int)(w:World)(hso:aT lo hi w v dP s)(hB:StB s)(hs:StC w g s v)(hd:aB s.d=0)(hp:p<w.heap.size)(hr:dG w p po r)(hrs:r.l.size<=1048576)(jW:cuB s.ph s.cu=true)(hu:u9C s.d r x=0):
  Calls Tryz.prog 26 #[.pointer (some ⟨g,0,none⟩),.pointer (some ⟨p,po,none⟩),.int .i64 x] w fun e w'=>jr w 0 (usT s r x) e w':=by
 obtain⟨W,hW⟩:∃W,W=w.alloc ach:=⟨_,rfl⟩
 have hBW:Below w.heap.size w W:=by rw[hW];exact aj _
 have F7:W.heap[w.heap.size]? = some ach:=by rw[hW];exact heap_alloc_new w _
 have oG:w.heap.size<W.heap.size:=(Array.getElem?_eq_some_iff.1 F7).1
 have hsW:=hs.below hBW hs.lt
 have hgw:g<w.heap.size:=hs.lt
 have PI:=hr.below hBW hp
 have hU:=wQ g 2 p po v.d s.d r x W hsW.lt hsW.c2 (hso.sts.d.below hBW) (dR hd) (by have:=hBW.size;omega) PI hrs
 have HW:Hid (w.alloc ach=W):=hW.symm
 have bH:Hid (Below w.heap.size w W):=hBW
 have HRW:Hid (W.heap[w.heap.size]? = some ach):=F7
 have gX:Hid (w.heap.size<W.heap.size):=oG
 have Gm:=Ol (dR hd) hu
 rw[hu]at hU
 have XT:Hid (aT lo hi W v dP s):=hso.below hBW
 have EZ:Hid (StC W g s v):=hsW
 generalize hde:u9L s.d r x=dn at *
 have et:usT s r x=⟨s.ph,s.cu,dn,newL dn s.cu,s.h,s.p⟩:=by unfold usT;rw[hde]
 rw[et]
 generalize hT:(⟨s.ph,s.cu,dn,newL dn s.cu,s.h,s.p⟩:St)=t
 have h00:((0:Int) != 0)=false:=by decide
 clear hso hs hsW hd hr PI hrs hW hBW F7 oG et hde hu
 go_enter Tryz.func26,Tryz.ntmps26
 go_wp2_with fail
 rw[HW.out]
 refine hU.mono ?_
 rintro e w1 ⟨a,c,rfl,hb1,bG⟩
 obtain⟨W1,hW1⟩:∃W1,W1=w1.alloc (.cells #[.slice a dn.length c] 36):=⟨_,rfl⟩
 have HW1:Hid (w1.alloc (.cells #[.slice a dn.length c] 36)=W1):=hW1.symm
 have RG:Below w1.heap.size w1 W1:=by rw[hW1];exact aj _
 have ql:=ah hb1 RG
 have X1:W1.heap[w1.heap.size]? = some (.cells #[.slice a dn.length c] 36):=by rw[hW1];exact heap_alloc_new _ _
 have hsc:=EZ.out.below ql EZ.out.lt
 have k0:=hsc.c0
 have k1:=hsc.c1
 have TR:Hid (∀w',Below W1.heap.size W1 w'->Calls Tryz.prog 58 #[.pointer (some ⟨g,0,none⟩),.int .i64 s.ph,.int .i64 s.cu,.pointer (some ⟨w1.heap.size,0,none⟩)] w' fun e w''=>jr w' 0 t e w''):=fun w' hb=>by
  have hbb:=ah ql hb
  have hx:=(hb.block _ (Array.getElem?_eq_some_iff.1 X1).1).trans X1
  rw[←hT]
  exact EF lo hi g w1.heap.size 0 s v dP s.ph s.cu dn a dn.length c w' (XT.out.below hbb) hB (EZ.out.below hbb EZ.out.lt) (Array.getElem?_eq_some_iff.1 hx).1 (by unfold World.cell?;rw[hx];rfl) rfl ((pO bG).below (ah RG hb)) (SI bG rfl) Gm jW
 clear hT
 generalize s.ph=ph at *
 generalize s.cu=cu at *
 have HKK:Hid (∀w',Below W1.heap.size W1 w'->w'.cell? ⟨g,0,none⟩=some (.int .i64 ph)/\w'.cell? ⟨g,1,none⟩=some (.int .i64 cu)):=fun w' hb=>⟨(hb.cell (p:=⟨g,0,none⟩) hsc.lt).trans k0,(hb.cell (p:=⟨g,1,none⟩) hsc.lt).trans k1⟩
 have HB1:Hid (Below w.heap.size w W1):=ah bH.out ql
 have HR1:Hid (W1.heap[w.heap.size]? = some ach):=(ql.block _ gX.out).trans HRW.out
 have hgn:g≠w.heap.size:=by omega
 have Xv:Hid (g≠w.heap.size):=hgn
 clear hU bG hb1 RG X1 hW1 ql jW Gm hsc XT EZ hB HW HRW gX
 go_wp2_with fail
 rw[HW1.out]
 have hHeld:W1.drew.cell? ⟨g,0,none⟩=some (.int .i64 ph)/\W1.drew.cell? ⟨g,1,none⟩=some (.int .i64 cu):=⟨k0,k1⟩
 refine wp_region_held_drew (S:=fun w'=>w'.cell? ⟨g,0,none⟩=some (.int .i64 ph)/\w'.cell? ⟨g,1,none⟩=some (.int .i64 cu)) (by kernel_rfl) hHeld (fun hHeld=> ?_)
 refine bD (i:=0) (d:=some 22) (v:= ?v0) (by rfl) (by kernel_rfl) (by kernel_rfl) (by kernel_rfl) (fun _ _ _ h=>h) (by rfl) ?hy0 hHeld ?aaT
 case hy0=>
  intro o ho
  simp only[acd,ace,acg]at ho
  subst ho
  rintro w' ⟨s0,s1⟩
  first |(go_simp;done) |(go_simp;with_reducible rfl)
 try simp only[Act.put,ab7,ab8,ab9]
 refine bD (i:=1) (d:=some 23) (v:= ?v1) (by rfl) (by kernel_rfl) (by kernel_rfl) (by kernel_rfl) (fun _ _ _ h=>h) (by rfl) ?hy1 hHeld ?aaU
 case hy1=>
  intro o ho
  simp only[acd,acf,ace,acg]at ho
  subst ho
  rintro w' ⟨s0,s1⟩
  first |(go_simp;done) |(go_simp;with_reducible rfl)
 try simp only[Act.put,ab7,ab8,ab9]
 refine bD (i:=2) (d:=some 24) (v:= ?v2) (by rfl) (by kernel_rfl) (by kernel_rfl) (by kernel_rfl) (fun _ _ _ h=>h) (by rfl) ?hy2 hHeld ?aaV
 case hy2=>
  intro o ho
  simp only[acd,acf,ace,acg]at ho
  subst ho
  rintro w' ⟨s0,s1⟩
  first |(go_simp;done) |(go_simp;with_reducible rfl)
 try simp only[Act.put,ab7,ab8,ab9]
 refine bD (i:=3) (d:=some 25) (v:= ?v3) (by rfl) (by kernel_rfl) (by kernel_rfl) (by kernel_rfl) (fun _ _ _ h=>h) (by rfl) ?hy3 hHeld ?aaW
 case hy3=>
  intro o ho
  simp only[acd,acf,ace,acg]at ho
  subst ho
  rintro w' ⟨s0,s1⟩
  first |(go_simp;done) |(go_simp;with_reducible rfl)
 try simp only[Act.put,ab7,ab8,ab9]
 refine bD (i:=4) (d:=some 26) (v:= ?v4) (by rfl) (by kernel_rfl) (by kernel_rfl) (by kernel_rfl) (fun _ _ _ h=>h) (by rfl) ?hy4 hHeld ?aaX
 case hy4=>
  intro o ho
  simp only[acd,acf,ace,acg]at ho
  subst ho
  rintro w' ⟨s0,s1⟩
  first |(go_simp;done) |(go_simp;with_reducible rfl)
 try simp only[Act.put,ab7,ab8,ab9]
 refine bD (i:=5) (d:=some 27) (v:= ?v5) (by rfl) (by kernel_rfl) (by kernel_rfl) (by kernel_rfl) (fun _ _ _ h=>h) (by rfl) ?hy5 hHeld ?aaY
 case hy5=>
  intro o ho
  simp only[acd,acf,ace,acg]at ho
  subst ho
  rintro w' ⟨s0,s1⟩
  first |(go_simp;done) |(go_simp;with_reducible rfl)
 try simp only[Act.put,ab7,ab8,ab9]
 refine bD (i:=6) (d:=some 28) (v:= ?v6) (by rfl) (by kernel_rfl) (by kernel_rfl) (by kernel_rfl) (fun _ _ _ h=>h) (by rfl) ?hy6 hHeld ?aaZ
 case hy6=>
  intro o ho
  simp only[acd,acf,ace,acg]at ho
  subst ho
  rintro w' ⟨s0,s1⟩
  first |(go_simp;done) |(go_simp;with_reducible rfl)
 try simp only[Act.put,ab7,ab8,ab9]
 refine bD (i:=7) (d:=some 29) (v:= ?v7) (by rfl) (by kernel_rfl) (by kernel_rfl) (by kernel_rfl) (fun _ _ _ h=>h) (by rfl) ?hy7 hHeld ?aa0
 case hy7=>
  intro o ho
  simp only[acd,acf,ace,acg]at ho
  subst ho
  rintro w' ⟨s0,s1⟩
  first |(go_simp;done) |(go_simp;with_reducible rfl)
 try simp only[Act.put,ab7,ab8,ab9]
 refine bD (i:=8) (d:=some 30) (v:= ?v8) (by rfl) (by kernel_rfl) (by kernel_rfl) (by kernel_rfl) (fun _ _ _ h=>h) (by rfl) ?hy8 hHeld ?aa1
 case hy8=>
  intro o ho
  simp only[acd,acf,ace,acg]at ho
  subst ho
  rintro w' ⟨s0,s1⟩
  first |(go_simp;done) |(go_simp;with_reducible rfl)
 try simp only[Act.put,ab7,ab8,ab9]
 refine wpAnyH_ready (rs:=[9]) (by kernel_rfl) (by simp) ?_
 refine AllReadyH.cons rfl (fun K hK=> ?_) AllReadyH.nil
 go_simp
 refine(TR.out _ (Below.refl _ _).drew).mono ?_
 rintro e w2 ⟨u,us,rfl,hb2,h1⟩
 have hb2':=ah (Below.refl _ W1).drew hb2
 have HB2:Hid (Below w.heap.size w w2):=ah HB1.out hb2'
 have Ad:Hid (w.heap.size<W1.heap.size):=(Array.getElem?_eq_some_iff.1 HR1.out).1
 obtain⟨⟨q0,q1,q2,q3,q4,q5,q6⟩,g0,g1,g2,g3,g4,g5,g6⟩:=aO ((hb2'.block w.heap.size Ad.out).trans HR1.out)
 have hkk:=HKK.out _ hb2'
 refine hK.out _ _ hkk (fun hHeld=> ?_)
 clear hK K hb2 hb2' TR HKK k0 k1 hHeld
 try simp only[Act.put,ab7,ab8,ab9]
 obtain⟨b1,d1,f1⟩:=h1.sts.d.shape
 obtain⟨b2,d2,f2⟩:=h1.sts.n.shape
 obtain⟨b3,d3,f3⟩:=h1.sts.h.shape
 obtain⟨b4,d4,f4⟩:=h1.sts.p.shape
 obtain⟨td,tn,th,tp⟩:=u
 dsimp only at f1 f2 f3 f4
 subst f1 f2 f3 f4
 unfold srV
 dsimp only
 have uU:Hid (w.heap.size<=w.heap.size):=Nat.le_refl _
 have HP:Hid (∀x0 x1 x2 x3 x4 x5 x6:Value,_):=(xC (w:=w) (b:=w.heap.size) h1 HB2.out uU.out (by first | exact Ad.out |(simpa using Ad.out)))
 clear h1
 refine wpAnyH_ready (rs:=[10]) (by kernel_rfl) (by simp) ?_
 refine AllReadyH.cons rfl (fun K hK=> ?_) AllReadyH.nil
 go_simp
 refine hK.out _ _ ?_ (fun hHeld=> ?_)
 ·exact⟨(DL Xv.out _ _ _ _ _ _ _).trans hkk.1,(DL Xv.out _ _ _ _ _ _ _).trans hkk.2⟩
 clear hK K
 try simp only[Act.put,ab7,ab8,ab9]
 refine wpAnyH_done (by kernel_rfl) ?_ _
 clear hkk hHeld
 go_wp2
 refine bodyPost_ret (v:= .agg #[.int .i64 0,.int .i64 t.ph,.int .i64 t.cu,.slice b1 t.d.length d1,.slice b2 t.n.length d2,.slice b3 t.h.length d3,.slice b4 t.p.length d4]) (by simp[results,Tryz.results26,go_sem,q0,q1,q2,q3,q4,q5,q6]) rfl ⟨⟨.slice b1 t.d.length d1,.slice b2 t.n.length d2,.slice b3 t.h.length d3,.slice b4 t.p.length d4⟩,us,rfl, ?_, ?_⟩
 ·exact(HP.out _ _ _ _ _ _ _).1
 ·exact(HP.out _ _ _ _ _ _ _).2
theorem GU(lo hi g p po:Nat)(s:St)(v:Sv)(dP:List Value)(r:Rc)(x:Int)(w:World)(hso:aT lo hi w v dP s)(_hB:StB s)(hs:StC w g s v)(hd:aB s.d=0)(hp:p<w.heap.size)(hr:dG w p po r)(hrs:r.l.size<=1048576)(hu:¬u9C s.d r x=0):
  Calls Tryz.prog 26 #[.pointer (some ⟨g,0,none⟩),.pointer (some ⟨p,po,none⟩),.int .i64 x] w fun e w'=>jr w (u9C s.d r x) stZ e w':=by
 obtain⟨W,hW⟩:∃W,W=w.alloc ach:=⟨_,rfl⟩
 have hBW:Below w.heap.size w W:=by rw[hW];exact aj _
 have F7:W.heap[w.heap.size]? = some ach:=by rw[hW];exact heap_alloc_new w _
 have oG:w.heap.size<W.heap.size:=(Array.getElem?_eq_some_iff.1 F7).1
 have hsW:=hs.below hBW hs.lt
 have hgw:g<w.heap.size:=hs.lt
 have PI:=hr.below hBW hp
 have hU:=wQ g 2 p po v.d s.d r x W hsW.lt hsW.c2 (hso.sts.d.below hBW) (dR hd) (by have:=hBW.size;omega) PI hrs
 have HW:Hid (w.alloc ach=W):=hW.symm
 have bH:Hid (Below w.heap.size w W):=hBW
 have HRW:Hid (W.heap[w.heap.size]? = some ach):=F7
 have gX:Hid (w.heap.size<W.heap.size):=oG
 have FP:=fun c w=>Bc c w
 have hq:=jJ hu
 generalize stZ=t at *
 generalize u9C s.d r x=cc at *
 generalize u9L s.d r x=dn at *
 clear hso hs hsW hd hr PI hrs hW hBW F7 oG hu
 go_enter Tryz.func26,Tryz.ntmps26
 go_wp2_with fail
 rw[HW.out]
 refine hU.mono ?_
 rintro e w1 ⟨a,c,rfl,hb1,-⟩
 have HB1:Hid (Below w.heap.size w w1):=ah bH.out hb1
 have TP:Hid (w.heap.size<w1.heap.size):=Nat.lt_of_lt_of_le gX.out hb1.size
 have HR1:Hid (w1.heap[w.heap.size]? = some ach):=(hb1.block _ gX.out).trans HRW.out
 clear hU hb1 HRW gX HW
 go_wp2_with fail
 refine(FP _ _).mono ?_
 rintro e w2 ⟨u,us,rfl,hb2,h1⟩
 have hb2':=ah (aj (w:=w1) (.cells #[.slice a dn.length c] 36)) hb2
 have HB2:Hid (Below w.heap.size w w2):=ah HB1.out hb2'
 obtain⟨⟨q0,q1,q2,q3,q4,q5,q6⟩,g0,g1,g2,g3,g4,g5,g6⟩:=aO ((hb2'.block w.heap.size TP.out).trans HR1.out)
 clear FP hb2 hb2'
 obtain⟨b1,d1,f1⟩:=h1.sts.d.shape
 obtain⟨b2,d2,f2⟩:=h1.sts.n.shape
 obtain⟨b3,d3,f3⟩:=h1.sts.h.shape
 obtain⟨b4,d4,f4⟩:=h1.sts.p.shape
 obtain⟨td,tn,th,tp⟩:=u
 dsimp only at f1 f2 f3 f4
 subst f1 f2 f3 f4
 unfold srV
 dsimp only
 have uU:Hid (w.heap.size<=w.heap.size):=Nat.le_refl _
 have HP:Hid (∀x0 x1 x2 x3 x4 x5 x6:Value,_):=(xC (w:=w) (b:=w.heap.size) h1 HB2.out uU.out (by have:=TP.out;simp;omega))
 clear h1
 go_wp2
 refine bodyPost_ret (v:= .agg #[.int .i64 cc,.int .i64 t.ph,.int .i64 t.cu,.slice b1 t.d.length d1,.slice b2 t.n.length d2,.slice b3 t.h.length d3,.slice b4 t.p.length d4]) (by simp[results,Tryz.results26,go_sem,q0,q1,q2,q3,q4,q5,q6]) rfl ⟨⟨.slice b1 t.d.length d1,.slice b2 t.n.length d2,.slice b3 t.h.length d3,.slice b4 t.p.length d4⟩,us,rfl, ?_, ?_⟩
 ·exact(HP.out _ _ _ _ _ _ _).1
 ·exact(HP.out _ _ _ _ _ _ _).2
theorem uQ(R:Rt)(hR:iZ R)(s:St)(v:Sv)(r0:ByteArray)(r1 r2 r3 x:Int)(w:World)(hv:Sts w v s)(hB:StB s)(h:¬stF R s=0):
  Calls Tryz.prog 7 #[stV s v,.agg #[.string r0,.int .i64 r1,.int .i64 r2,.int .i64 r3],.int .i64 x] w fun e w'=>jr w (stF R s) stZ e w':=by
 obtain⟨W,hW⟩:∃W,W=((w.alloc (stC s v 41)).alloc (.cells #[.string r0,.int .i64 r1,.int .i64 r2,.int .i64 r3] 46)).alloc ach:=⟨_,rfl⟩
 have hBW:Below w.heap.size w W:=by rw[hW];exact(aN _ _).alloc (aN (w:=w) _ _).size _
 have hH:W.heap[w.heap.size+1+1]? = some ach:=by
  have:=heap_alloc_new ((w.alloc (stC s v 41)).alloc (.cells #[.string r0,.int .i64 r1,.int .i64 r2,.int .i64 r3] 46)) ach
  rw[World.size_alloc,World.size_alloc]at this
  rw[hW]
  exact this
 have hRb:W.heap[w.heap.size+1]? = some (.cells #[.string r0,.int .i64 r1,.int .i64 r2,.int .i64 r3] 46):=by
  have h1:=heap_alloc_new (w.alloc (stC s v 41)) (.cells #[.string r0,.int .i64 r1,.int .i64 r2,.int .i64 r3] 46)
  rw[World.size_alloc]at h1
  rw[hW]
  exact((aj _).block (w.heap.size+1) (by simp)).trans h1
 have hC0:StC W w.heap.size s v:=by rw[hW];exact((StC.new w s v _).below (aj _) (by simp)).below (aj _) (by simp;omega)
 have l9:=(Array.getElem?_eq_some_iff.1 hH).1
 have hF:=wM R hR w.heap.size s v W hC0 (hv.below hBW) hB
 have FP:=fun c w=>Bc c w
 have hq:=jJ h
 generalize stF R s=c at *
 generalize hT:stZ=t at *
 obtain⟨a1,c1,e1⟩:=hv.d.shape
 obtain⟨a2,c2,e2⟩:=hv.n.shape
 obtain⟨a3,c3,e3⟩:=hv.h.shape
 obtain⟨a4,c4,e4⟩:=hv.p.shape
 unfold stC at hW
 unfold stV
 rw[e1,e2,e3,e4]at hW ⊢
 have HW:Hid (_=W):=hW.symm
 have bH:Hid (Below w.heap.size w W):=hBW
 have EU:Hid (w.heap.size+1+1<W.heap.size):=l9
 have HRW:Hid (W.heap[w.heap.size+1+1]? = some ach):=hH
 have uU:Hid (w.heap.size<=w.heap.size+1+1):=by show w.heap.size<=w.heap.size+1+1;omega
 clear hv hB hR hC0 hBW hH l9 hW e1 e2 e3 e4 hRb h hT
 go_enter Tryz.func7,Tryz.ntmps7
 go_wp2_with fail
 rw[HW.out]
 refine hF.mono ?_
 rintro e w0 ⟨rfl,hb0⟩
 have hC:=FP c w0
 have HB0:Hid (Below w.heap.size w w0):=ah bH.out hb0
 have Ad:Hid (w.heap.size+1+1<w0.heap.size):=Nat.lt_of_lt_of_le EU.out hb0.size
 have HR0:Hid (w0.heap[w.heap.size+1+1]? = some ach):=(hb0.block _ EU.out).trans HRW.out
 clear hF HW hb0 HRW bH EU FP
 go_wp2_with fail
 refine hC.mono ?_
 rintro e w1 ⟨u,us,rfl,hb1,h1⟩
 have HB1:Hid (Below w.heap.size w w1):=ah HB0.out hb1
 obtain⟨⟨q0,q1,q2,q3,q4,q5,q6⟩,g0,g1,g2,g3,g4,g5,g6⟩:=aO ((hb1.block _ Ad.out).trans HR0.out)
 clear hC hb1 HR0 HB0
 obtain⟨b1,d1,f1⟩:=h1.sts.d.shape
 obtain⟨b2,d2,f2⟩:=h1.sts.n.shape
 obtain⟨b3,d3,f3⟩:=h1.sts.h.shape
 obtain⟨b4,d4,f4⟩:=h1.sts.p.shape
 obtain⟨td,tn,th,tp⟩:=u
 dsimp only at f1 f2 f3 f4
 subst f1 f2 f3 f4
 unfold srV
 dsimp only
 have HP:Hid (∀x0 x1 x2 x3 x4 x5 x6:Value,_):=(xC (w:=w) (b:=w.heap.size+1+1) h1 HB1.out uU.out Ad.out)
 clear h1
 go_wp2
 refine bodyPost_ret (v:= .agg #[.int .i64 c,.int .i64 t.ph,.int .i64 t.cu,.slice b1 t.d.length d1,.slice b2 t.n.length d2,.slice b3 t.h.length d3,.slice b4 t.p.length d4]) (by simp[results,Tryz.results7,go_sem,q0,q1,q2,q3,q4,q5,q6]) rfl ⟨⟨.slice b1 t.d.length d1,.slice b2 t.n.length d2,.slice b3 t.h.length d3,.slice b4 t.p.length d4⟩,us,rfl, ?_, ?_⟩
 ·exact(HP.out _ _ _ _ _ _ _).1
 ·exact(HP.out _ _ _ _ _ _ _).2
theorem nG(R:Rt)(hR:iZ R)(s:St)(v:Sv)(r0:ByteArray)(r1 r2 r3 x:Int)(w:World)(hv:Sts w v s)(hB:StB s)(h:stF R s=0)(c:Int)(t:St)(HC:∀(W:World),Below w.heap.size w W->StC W w.heap.size s v->dG W (w.heap.size+1) 0 ⟨r0,r1,r2,r3⟩->w.heap.size+1<W.heap.size->Calls Tryz.prog 26 #[.pointer (some ⟨w.heap.size,0,none⟩),.pointer (some ⟨w.heap.size+1,0,none⟩),.int .i64 x] W fun e w'=>jr W c t e w'):
  Calls Tryz.prog 7 #[stV s v,.agg #[.string r0,.int .i64 r1,.int .i64 r2,.int .i64 r3],.int .i64 x] w fun e w'=>jr w c t e w':=by
 obtain⟨W,hW⟩:∃W,W=((w.alloc (stC s v 41)).alloc (.cells #[.string r0,.int .i64 r1,.int .i64 r2,.int .i64 r3] 46)).alloc ach:=⟨_,rfl⟩
 have hBW:Below w.heap.size w W:=by rw[hW];exact(aN _ _).alloc (aN (w:=w) _ _).size _
 have hH:W.heap[w.heap.size+1+1]? = some ach:=by
  have:=heap_alloc_new ((w.alloc (stC s v 41)).alloc (.cells #[.string r0,.int .i64 r1,.int .i64 r2,.int .i64 r3] 46)) ach
  rw[World.size_alloc,World.size_alloc]at this
  rw[hW]
  exact this
 have hRb:W.heap[w.heap.size+1]? = some (.cells #[.string r0,.int .i64 r1,.int .i64 r2,.int .i64 r3] 46):=by
  have h1:=heap_alloc_new (w.alloc (stC s v 41)) (.cells #[.string r0,.int .i64 r1,.int .i64 r2,.int .i64 r3] 46)
  rw[World.size_alloc]at h1
  rw[hW]
  exact((aj _).block (w.heap.size+1) (by simp)).trans h1
 have hC0:StC W w.heap.size s v:=by rw[hW];exact((StC.new w s v _).below (aj _) (by simp)).below (aj _) (by simp;omega)
 have l9:=(Array.getElem?_eq_some_iff.1 hH).1
 have hF:=wM R hR w.heap.size s v W hC0 (hv.below hBW) hB
 rw[h]at hF
 have h00:((0:Int) != 0)=false:=by decide
 have aH:Hid (∀w',Below W.heap.size W w'->Calls Tryz.prog 26 #[.pointer (some ⟨w.heap.size,0,none⟩),.pointer (some ⟨w.heap.size+1,0,none⟩),.int .i64 x] w' fun e w''=>jr w' c t e w''):=fun w' hb=>
  HC w' (ah hBW hb) (hC0.below hb hC0.lt) (by
   have hx:=(hb.block _ (Array.getElem?_eq_some_iff.1 hRb).1).trans hRb
   constructor<;>(unfold World.cell?;rw[hx];rfl)) (by have:=hb.size;omega)
 obtain⟨a1,c1,e1⟩:=hv.d.shape
 obtain⟨a2,c2,e2⟩:=hv.n.shape
 obtain⟨a3,c3,e3⟩:=hv.h.shape
 obtain⟨a4,c4,e4⟩:=hv.p.shape
 unfold stC at hW
 unfold stV
 rw[e1,e2,e3,e4]at hW ⊢
 have HW:Hid (_=W):=hW.symm
 have bH:Hid (Below w.heap.size w W):=hBW
 have EU:Hid (w.heap.size+1+1<W.heap.size):=l9
 have HRW:Hid (W.heap[w.heap.size+1+1]? = some ach):=hH
 have uU:Hid (w.heap.size<=w.heap.size+1+1):=by show w.heap.size<=w.heap.size+1+1;omega
 clear hv hB hR hC0 hBW hH l9 hW e1 e2 e3 e4 hRb h HC
 go_enter Tryz.func7,Tryz.ntmps7
 go_wp2_with fail
 rw[HW.out]
 refine hF.mono ?_
 rintro e w0 ⟨rfl,hb0⟩
 have hC:=aH.out w0 hb0
 have HB0:Hid (Below w.heap.size w w0):=ah bH.out hb0
 have Ad:Hid (w.heap.size+1+1<w0.heap.size):=Nat.lt_of_lt_of_le EU.out hb0.size
 have HR0:Hid (w0.heap[w.heap.size+1+1]? = some ach):=(hb0.block _ EU.out).trans HRW.out
 clear hF HW hb0 HRW bH EU aH
 go_wp2_with fail
 refine hC.mono ?_
 rintro e w1 ⟨u,us,rfl,hb1,h1⟩
 have HB1:Hid (Below w.heap.size w w1):=ah HB0.out hb1
 obtain⟨⟨q0,q1,q2,q3,q4,q5,q6⟩,g0,g1,g2,g3,g4,g5,g6⟩:=aO ((hb1.block _ Ad.out).trans HR0.out)
 clear hC hb1 HR0 HB0
 obtain⟨b1,d1,f1⟩:=h1.sts.d.shape
 obtain⟨b2,d2,f2⟩:=h1.sts.n.shape
 obtain⟨b3,d3,f3⟩:=h1.sts.h.shape
 obtain⟨b4,d4,f4⟩:=h1.sts.p.shape
 obtain⟨td,tn,th,tp⟩:=u
 dsimp only at f1 f2 f3 f4
 subst f1 f2 f3 f4
 unfold srV
 dsimp only
 have HP:Hid (∀x0 x1 x2 x3 x4 x5 x6:Value,_):=(xC (w:=w) (b:=w.heap.size+1+1) h1 HB1.out uU.out Ad.out)
 clear h1
 go_wp2
 refine bodyPost_ret (v:= .agg #[.int .i64 c,.int .i64 t.ph,.int .i64 t.cu,.slice b1 t.d.length d1,.slice b2 t.n.length d2,.slice b3 t.h.length d3,.slice b4 t.p.length d4]) (by simp[results,Tryz.results7,go_sem,q0,q1,q2,q3,q4,q5,q6]) rfl ⟨⟨.slice b1 t.d.length d1,.slice b2 t.n.length d2,.slice b3 t.h.length d3,.slice b4 t.p.length d4⟩,us,rfl, ?_, ?_⟩
 ·exact(HP.out _ _ _ _ _ _ _).1
 ·exact(HP.out _ _ _ _ _ _ _).2
theorem uP(R:Rt)(hR:iZ R)(lo hi:Nat)(s:St)(v:Sv)(dP:List Value)(r0:ByteArray)(r1 r2 r3 x:Int)(w:World)(hso:aT lo hi w v dP s)(hB:StB s)(hrs:r0.size<=1048576):
  Calls Tryz.prog 7 #[stV s v,.agg #[.string r0,.int .i64 r1,.int .i64 r2,.int .i64 r3],.int .i64 x] w fun e w'=>jr w (usF R s ⟨r0,r1,r2,r3⟩ x) (if usF R s ⟨r0,r1,r2,r3⟩ x=0 then usT s ⟨r0,r1,r2,r3⟩ x else stZ) e w':=by
 by_cases h:stF R s=0
 ·have e:usF R s ⟨r0,r1,r2,r3⟩ x=u9C s.d ⟨r0,r1,r2,r3⟩ x:=by unfold usF;rw[if_pos h]
  rw[e]
  by_cases hu:u9C s.d ⟨r0,r1,r2,r3⟩ x=0
  ·rw[if_pos hu,hu]
   exact nG R hR s v r0 r1 r2 r3 x w hso.sts hB h 0 _ (fun W hb h1 h2 h3=>GV lo hi w.heap.size (w.heap.size+1) 0 s v dP ⟨r0,r1,r2,r3⟩ x W (hso.below hb) hB h1 (mV h).d h3 h2 hrs (mV h).cu hu)
  ·rw[if_neg hu]
   exact nG R hR s v r0 r1 r2 r3 x w hso.sts hB h _ _ (fun W hb h1 h2 h3=>GU lo hi w.heap.size (w.heap.size+1) 0 s v dP ⟨r0,r1,r2,r3⟩ x W (hso.below hb) hB h1 (mV h).d h3 h2 hrs hu)
 ·have e:usF R s ⟨r0,r1,r2,r3⟩ x=stF R s:=by unfold usF;rw[if_neg h]
  rw[e,if_neg h]
  exact uQ R hR s v r0 r1 r2 r3 x w hso.sts hB h
end U
end Go.Proofs.YtmmcgjacojgeaaaGreat
