/- States, marked, and looked at anew. -/
import Derived.Test.YtmnfokgllcdiiaaGreatYStK
set_option maxRecDepth 100000
set_option maxHeartbeats 4000000
namespace Go.Proofs.YtmnfokgllcdiiaaGreat
open Go.RowKit
namespace U
def ks1(s:St)(k:Nat):Nat:=k+s.d.length*4
def ks2(s:St)(k:Nat):Nat:=ks1 s k+s.n.length*2
def ks3(s:St)(k:Nat):Nat:=ks2 s k+s.h.length*5
def ks4(s:St)(k:Nat):Nat:=kAt s.p (ks3 s k) s.p.length
def nH(s:St)(k:Nat):St:=⟨s.ph,s.cu,mkR k s.d.length,mkP (ks1 s k) s.n.length,mkH (ks2 s k) s.h.length,mkD s.p (ks3 s k)⟩
theorem Own.one{lo hi:Nat}{w:World}{A B:List Rw}{r:Rw}(h:Own lo hi w (A++([r]++B))):w.ownsRow lo r.e r.z r.v r.n r.xs/\∀g,r.v.ownBlock=some g->lo<=g/\g<hi:=by
 have h1:=h.own r (by simp)
 exact⟨h1,fun g hg=>⟨(gY h1 hg).1,h.hi g (qP (r:=r) (by simp) hg)⟩⟩
theorem Own.set1{lo hi:Nat}{w w':World}{A B:List Rw}{r r':Rw}(h:Own lo hi w (A++([r]++B)))(hv:r'.v=r.v)(hg:w.grownBy w' r.v.ownBlock)(ho:w'.ownsRow lo r'.e r'.z r'.v r'.n r'.xs):Own lo hi w' (A++([r']++B)):=Own.set (A:=A) (B:=B) h hv hg ho
theorem Tch.box{lo hi b:Nat}{w w':World}{s:St}{v:Sv}(h:StC w b s v)(ht:Tch lo hi w w')(hb:hi<=b):StC w' b s v:=by
 have e:w'.heap[b]? = w.heap[b]?:=ht.block b h.lt (Or.inr hb)
 have q:=fun j=>World.cell?_of_block (a:=⟨b,j,none⟩) e
 exact⟨Nat.lt_of_lt_of_le h.lt ht.size,(q 0).trans h.c0,(q 1).trans h.c1,(q 2).trans h.c2,(q 3).trans h.c3,(q 4).trans h.c4,(q 5).trans h.c5⟩
theorem vC(lo hi:Nat)(s:St)(v:Sv)(us:List Value)(k0:Nat)(w:World)(ho:dD lo hi w v us s)(hhi:hi<=w.heap.size)(hB:StB s)(hk0:0<k0/\k0<=4):
  Calls Tryz.prog 16 #[stV s v,.int .i64 k0] w fun e w'=>e = .returned (.int .i64 ((ks4 s k0:Nat):Int))/\Tch lo hi w w'/\dD lo hi w' v us (nH s k0):=by
 obtain⟨W,hW⟩:∃W,W=w.alloc (stC s v 41):=⟨_,rfl⟩
 have hBW:Below w.heap.size w W:=by rw[hW];exact aj _
 have hC0:StC W w.heap.size s v:=by rw[hW];exact StC.new w s v _
 have Hy:=ho.sts
 have O0:Own lo hi W ([]++([cO v.d s.d]++([nRow v.n s.n]++([hRow v.h s.h]++([fA v.p us]++bJ us s.p s.p.length))))):=ho.own.below hBW
 have b1:=hB.d;have b2:=hB.n;have b3:=hB.h
 have hM1:=yJ lo v.d s.d k0 W O0.one.1 hB.d (by omega)
 have Ea:Hid (∀w',w'.ownsRow lo 63 2 v.n s.n.length ((fl s.n).map (Value.int .i64))->Calls Tryz.prog 59 #[v.n,.int .i64 ((ks1 s k0:Nat):Int)] w' fun e w''=>e = .returned (.int .i64 ((ks2 s k0:Nat):Int))/\w'.grownBy w'' v.n.ownBlock/\w''.ownsRow lo 63 2 v.n s.n.length ((fl (mkP (ks1 s k0) s.n.length)).map (Value.int .i64))):=fun w' h=>FI lo v.n s.n (ks1 s k0) w' h (by omega) (by unfold ks1;omega)
 have Lc:Hid (∀w',w'.ownsRow lo 136 5 v.h s.h.length (flH s.h)->Calls Tryz.prog 60 #[v.h,.int .i64 ((ks2 s k0:Nat):Int)] w' fun e w''=>e = .returned (.int .i64 ((ks3 s k0:Nat):Int))/\w'.grownBy w'' v.h.ownBlock/\w''.ownsRow lo 136 5 v.h s.h.length (flH (mkH (ks2 s k0) s.h.length))):=fun w' h=>FD lo v.h s.h (ks2 s k0) w' h hB.h (by unfold ks2 ks1;omega)
 have Ld:Hid (∀AA w',Own lo hi w' ((AA++[fA v.p us])++bJ us s.p s.p.length)->Calls Tryz.prog 61 #[v.p,.int .i64 ((ks3 s k0:Nat):Int)] w' fun e w''=>e = .returned (.int .i64 ((ks4 s k0:Nat):Int))/\Tch lo hi w' w''/\Own lo hi w'' ((AA++[fA v.p us])++bJ us (mkD s.p (ks3 s k0)) s.p.length)):=fun AA w' h=>wX lo hi AA v.p us s.p (ks3 s k0) w' h ho.len hB.p (fun j hj=>(hB.pd j hj).1) hB.t (by unfold ks3 ks2 ks1;omega)
 have OM:Hid (Own lo hi W ([]++([cO v.d s.d]++([nRow v.n s.n]++([hRow v.h s.h]++([fA v.p us]++bJ us s.p s.p.length)))))):=O0
 have HT0:Hid (Tch lo hi w W):=Tch.of_below hBW
 have HC:Hid (∀w',Tch lo hi W w'->StC w' w.heap.size s v):=fun w' ht=>Tch.box hC0 ht hhi
 have F8:Hid (us.length=s.p.length):=ho.len
 have Tn:Hid (((k0+s.d.length*4:Nat):Int)=((ks1 s k0:Nat):Int)):=rfl
 obtain⟨a1,c1,e1⟩:=Hy.d.shape
 obtain⟨a2,c2,e2⟩:=Hy.n.shape
 obtain⟨a3,c3,e3⟩:=Hy.h.shape
 obtain⟨a4,c4,e4⟩:=Hy.p.shape
 have HD2:Hid ((mkR k0 s.d.length).length=s.d.length/\(mkP (ks1 s k0) s.n.length).length=s.n.length/\(mkH (ks2 s k0) s.h.length).length=s.h.length/\(mkD s.p (ks3 s k0)).length=s.p.length):=⟨iJ _ _,gX _ _,jV _ _,lY _ _⟩
 have Ve:Hid (∀w',Own lo hi w' ([cO v.d (mkR k0 s.d.length)]++([nRow v.n (mkP (ks1 s k0) s.n.length)]++([hRow v.h (mkH (ks2 s k0) s.h.length)]++([fA v.p us]++bJ us (mkD s.p (ks3 s k0)) s.p.length))))->dD lo hi w' v us (nH s k0)):=fun w' h=>⟨by
  show Own lo hi w' ([cO v.d (mkR k0 s.d.length)]++([nRow v.n (mkP (ks1 s k0) s.n.length)]++([hRow v.h (mkH (ks2 s k0) s.h.length)]++([fA v.p us]++bJ us (mkD s.p (ks3 s k0)) (mkD s.p (ks3 s k0)).length))))
  rw[lY]
  exact h,by show us.length=(mkD s.p (ks3 s k0)).length;rw[lY];exact F8.out⟩
 generalize hf:nH s k0=sm at *
 unfold stC at hW
 unfold stV
 rw[e1,e2,e3,e4]at hW ⊢
 have HW:Hid _:=hW.symm
 have HE:Hid (v.d = .slice a1 s.d.length c1/\v.n = .slice a2 s.n.length c2/\v.h = .slice a3 s.h.length c3/\v.p = .slice a4 s.p.length c4):=⟨e1,e2,e3,e4⟩
 have aZ:Hid (∀w',Tch lo hi W w'->w'.cell? ⟨w.heap.size,3,none⟩=some (.slice a2 s.n.length c2)/\w'.cell? ⟨w.heap.size,4,none⟩=some (.slice a3 s.h.length c3)/\w'.cell? ⟨w.heap.size,5,none⟩=some (.slice a4 s.p.length c4)):=fun w' ht=>by
  obtain⟨-,-,-,-,q3,q4,q5⟩:=HC.out w' ht
  rw[HE.out.2.1]at q3
  rw[HE.out.2.2.1]at q4
  rw[HE.out.2.2.2]at q5
  exact⟨q3,q4,q5⟩
 rw[e1]at hM1
 rw[e2]at Ea
 rw[e3]at Lc
 rw[e4]at Ld
 generalize s.ph=ph at *
 generalize s.cu=cu at *
 clear hW hBW hC0 Hy O0 HC hf ho hB e1 e2 e3 e4
 go_enter Tryz.func16,Tryz.ntmps16
 go_wp2_with fail
 rw[HW.out]
 refine hM1.mono ?_
 rintro e w1 ⟨rfl,hg1,ho1⟩
 rw[Tn.out]
 have t1:Tch lo hi W w1:=Tch.nS hg1 (by have:=OM.out.one.2;rw[←HE.out.1];exact this)
 have O1:Own lo hi w1 ([cO v.d (mkR k0 s.d.length)]++([nRow v.n s.n]++([hRow v.h s.h]++([fA v.p us]++bJ us s.p s.p.length)))):=by
  rw[←HE.out.1]at hg1 ho1
  refine OM.out.set1 (r':=cO v.d (mkR k0 s.d.length)) rfl hg1 ?_
  show w1.ownsRow lo 46 4 v.d (mkR k0 s.d.length).length (flR (mkR k0 s.d.length))
  rw[HD2.out.1]
  exact ho1
 have jF:Hid (Own lo hi w1 ([cO v.d (mkR k0 s.d.length)]++([nRow v.n s.n]++([hRow v.h s.h]++([fA v.p us]++bJ us s.p s.p.length))))):=O1
 have HT1:Hid (Tch lo hi W w1):=t1
 obtain⟨x3,-,-⟩:=aZ.out _ t1
 have hm2:=Ea.out w1 (by rw[←HE.out.2.1];exact O1.one.1)
 clear hM1 hg1 ho1 t1 O1 Ea OM HW
 go_wp2_with fail
 refine hm2.mono ?_
 rintro e w2 ⟨rfl,hg2,ho2⟩
 have t2:Tch lo hi W w2:=HT1.out.trans (Tch.nS hg2 (by have:=jF.out.one.2;rw[←HE.out.2.1];exact this))
 have O2:Own lo hi w2 ([cO v.d (mkR k0 s.d.length)]++([nRow v.n (mkP (ks1 s k0) s.n.length)]++([hRow v.h s.h]++([fA v.p us]++bJ us s.p s.p.length)))):=by
  rw[←HE.out.2.1]at hg2 ho2
  refine jF.out.set1 (r':=nRow v.n (mkP (ks1 s k0) s.n.length)) rfl hg2 ?_
  show w2.ownsRow lo 63 2 v.n (mkP (ks1 s k0) s.n.length).length ((fl (mkP (ks1 s k0) s.n.length)).map (Value.int .i64))
  rw[HD2.out.2.1]
  exact ho2
 rw[←List.append_assoc]at O2
 have kZ:Hid (Own lo hi w2 (([cO v.d (mkR k0 s.d.length)]++[nRow v.n (mkP (ks1 s k0) s.n.length)])++([hRow v.h s.h]++([fA v.p us]++bJ us s.p s.p.length)))):=O2
 have HT2:Hid (Tch lo hi W w2):=t2
 obtain⟨-,x4,-⟩:=aZ.out _ t2
 have LK:=Lc.out w2 (by rw[←HE.out.2.2.1];exact O2.one.1)
 clear hm2 hg2 ho2 t2 O2 Lc jF x3
 go_wp2_with fail
 refine LK.mono ?_
 rintro e w3 ⟨rfl,hg3,ho3⟩
 have t3:Tch lo hi W w3:=HT2.out.trans (Tch.nS hg3 (by have:=kZ.out.one.2;rw[←HE.out.2.2.1];exact this))
 have O3:Own lo hi w3 (([cO v.d (mkR k0 s.d.length)]++[nRow v.n (mkP (ks1 s k0) s.n.length)])++([hRow v.h (mkH (ks2 s k0) s.h.length)]++([fA v.p us]++bJ us s.p s.p.length))):=by
  rw[←HE.out.2.2.1]at hg3 ho3
  refine kZ.out.set1 (r':=hRow v.h (mkH (ks2 s k0) s.h.length)) rfl hg3 ?_
  show w3.ownsRow lo 136 5 v.h (mkH (ks2 s k0) s.h.length).length (flH (mkH (ks2 s k0) s.h.length))
  rw[HD2.out.2.2.1]
  exact ho3
 rw[←List.append_assoc]at O3
 have qh:Hid (Own lo hi w3 ((([cO v.d (mkR k0 s.d.length)]++[nRow v.n (mkP (ks1 s k0) s.n.length)])++[hRow v.h (mkH (ks2 s k0) s.h.length)])++([fA v.p us]++bJ us s.p s.p.length))):=O3
 have HT3:Hid (Tch lo hi W w3):=t3
 obtain⟨-,-,x5⟩:=aZ.out _ t3
 have hm4:=Ld.out (([cO v.d (mkR k0 s.d.length)]++[nRow v.n (mkP (ks1 s k0) s.n.length)])++[hRow v.h (mkH (ks2 s k0) s.h.length)]) w3 (by rw[←HE.out.2.2.2,List.append_assoc (([cO v.d (mkR k0 s.d.length)]++[nRow v.n (mkP (ks1 s k0) s.n.length)])++[hRow v.h (mkH (ks2 s k0) s.h.length)])];exact O3)
 clear LK hg3 ho3 t3 O3 Ld kZ x4
 go_wp2_with fail
 refine hm4.mono ?_
 rintro e w4 ⟨rfl,t4,o4⟩
 have HT4:Hid (Tch lo hi w w4):=HT0.out.trans (HT3.out.trans t4)
 have Le:Hid (dD lo hi w4 v us sm):=(by
  refine Ve.out w4 ?_
  rw[←HE.out.2.2.2]at o4
  simp only[List.append_assoc]at o4
  exact o4:dD lo hi w4 v us sm)
 clear hm4 t4 o4 x5 qh Ve
 go_wp2
 go_ret
 exact⟨rfl,HT4.out,Le.out⟩
theorem vJ(lo hi:Nat)(q:Int)(s:St)(v:Sv)(us:List Value)(k0:Nat)(w:World)(ho:dD lo hi w v us s)(hhi:hi<=w.heap.size)(hB:StB s)(hk0:0<k0/\k0<=4):
  Calls Tryz.prog 17 #[srV q s v,.int .i64 k0] w fun e w'=>e = .returned (.int .i64 ((ks4 s k0:Nat):Int))/\Tch lo hi w w'/\dD lo hi w' v us (nH s k0):=by
 have hM:=fun o=>vC lo hi s v us k0 (w.alloc o) (ho.below (aj o)) (by simp;omega) hB hk0
 have HT:Hid (∀o w',Tch lo hi (w.alloc o) w'->Tch lo hi w w'):=fun o w' h=>(Tch.of_below (aj o)).trans h
 obtain⟨a1,c1,e1⟩:=ho.sts.d.shape
 obtain⟨a2,c2,e2⟩:=ho.sts.n.shape
 obtain⟨a3,c3,e3⟩:=ho.sts.h.shape
 obtain⟨a4,c4,e4⟩:=ho.sts.p.shape
 generalize nH s k0=sm at *
 generalize ks4 s k0=kz at *
 obtain⟨vd,vn,vh,vp⟩:=v
 dsimp only at e1 e2 e3 e4
 subst e1 e2 e3 e4
 unfold stV at hM
 unfold srV
 dsimp only at *
 generalize s.ph=ph at *
 generalize s.cu=cu at *
 generalize s.d.length=n1 at *
 generalize s.n.length=n2 at *
 generalize s.h.length=n3 at *
 generalize s.p.length=n4 at *
 clear ho hB
 go_enter Tryz.func17,Tryz.ntmps17
 go_wp2_with fail
 refine(hM _).mono ?_
 rintro e w1 ⟨rfl,t1,o1⟩
 have HH:Hid (Tch lo hi w w1/\dD lo hi w1 ⟨.slice a1 n1 c1,.slice a2 n2 c2,.slice a3 n3 c3,.slice a4 n4 c4⟩ us sm):=⟨HT.out _ _ t1,o1⟩
 clear hM t1 o1
 go_wp2
 go_ret
 exact⟨rfl,HH.out⟩
theorem Fb(s:St)(v:Sv)(k0:Nat)(ph cu:Int)(w:World)(hv:Sts w v (nH s k0))(hB:StB s)(hk0:0<k0/\k0<=4):
  Calls Tryz.prog 62 #[.agg #[.int .i64 ph,.int .i64 cu,v.d,v.n,v.h,v.p],.int .i64 k0] w fun e w'=>e = .returned (.int .i64 ((ks4 s k0:Nat):Int))/\Below w.heap.size w w':=by
 obtain⟨W,hW⟩:∃W,W=w.alloc (.cells #[.int .i64 ph,.int .i64 cu,v.d,v.n,v.h,v.p] 41):=⟨_,rfl⟩
 have hBW:Below w.heap.size w W:=by rw[hW];exact aj _
 have b1:=hB.d;have b2:=hB.n;have b3:=hB.h
 have hd:Rcs w v.d (mkR k0 s.d.length):=hv.d
 have hn:Prs w v.n (mkP (ks1 s k0) s.n.length):=hv.n
 have hh:Hds w v.h (mkH (ks2 s k0) s.h.length):=hv.h
 have hp:Dss w v.p (mkD s.p (ks3 s k0)):=hv.p
 have hM1:=yC v.d s.d.length k0 W (hd.below hBW) hB.d (by omega)
 have Ea:Hid (∀w',Below W.heap.size W w'->Calls Tryz.prog 133 #[v.n,.int .i64 ((ks1 s k0:Nat):Int)] w' fun e w''=>e = .returned (.int .i64 ((ks2 s k0:Nat):Int))/\w''=w'):=fun w' hb=>Fa v.n s.n.length (ks1 s k0) w' ((hn.below hBW).below hb) (by omega) (by unfold ks1;omega)
 have Lc:Hid (∀w',Below W.heap.size W w'->Calls Tryz.prog 134 #[v.h,.int .i64 ((ks2 s k0:Nat):Int)] w' fun e w''=>e = .returned (.int .i64 ((ks3 s k0:Nat):Int))/\w''=w'):=fun w' hb=>E5 v.h s.h.length (ks2 s k0) w' ((hh.below hBW).below hb) hB.h (by unfold ks2 ks1;omega)
 have Ld:Hid (∀w',Below W.heap.size W w'->Calls Tryz.prog 135 #[v.p,.int .i64 ((ks3 s k0:Nat):Int)] w' fun e w''=>e = .returned (.int .i64 ((ks4 s k0:Nat):Int))/\Below w'.heap.size w' w''):=fun w' hb=>wG v.p s.p (ks3 s k0) w' ((hp.below hBW).below hb) hB.p (fun j hj=>(hB.pd j hj).1) hB.t (by unfold ks3 ks2 ks1;omega)
 have Tn:Hid (((k0+s.d.length*4:Nat):Int)=((ks1 s k0:Nat):Int)):=rfl
 obtain⟨a1,c1,e1⟩:=hd.shape
 obtain⟨a2,c2,e2⟩:=hn.shape
 obtain⟨a3,c3,e3⟩:=hh.shape
 obtain⟨a4,c4,e4⟩:=hp.shape
 rw[iJ]at e1
 rw[gX]at e2
 rw[jV]at e3
 rw[lY]at e4
 rw[e1,e2,e3,e4]at hW ⊢
 rw[e1]at hM1
 rw[e2]at Ea
 rw[e3]at Lc
 rw[e4]at Ld
 rw[Tn.out]at hM1
 have HX:Hid (∀w',Below W.heap.size W w'->w'.cell? ⟨w.heap.size,3,none⟩=some (.slice a2 s.n.length c2)/\w'.cell? ⟨w.heap.size,4,none⟩=some (.slice a3 s.h.length c3)/\w'.cell? ⟨w.heap.size,5,none⟩=some (.slice a4 s.p.length c4)):=fun w' hb=>by
  have h1:=heap_alloc_new w (.cells #[.int .i64 ph,.int .i64 cu,.slice a1 s.d.length c1,.slice a2 s.n.length c2,.slice a3 s.h.length c3,.slice a4 s.p.length c4] 41)
  rw[←hW]at h1
  obtain⟨⟨-,-,-,q3,q4,q5⟩,-⟩:=bI ((hb.block _ (Array.getElem?_eq_some_iff.1 h1).1).trans h1)
  exact⟨q3,q4,q5⟩
 have HW:Hid (w.alloc (.cells #[.int .i64 ph,.int .i64 cu,.slice a1 s.d.length c1,.slice a2 s.n.length c2,.slice a3 s.h.length c3,.slice a4 s.p.length c4] 41)=W):=hW.symm
 have n1:¬((ks1 s k0:Nat):Int)<0:=by omega
 have n2:¬((ks2 s k0:Nat):Int)<0:=by omega
 have n3:¬((ks3 s k0:Nat):Int)<0:=by omega
 have n4:¬((ks4 s k0:Nat):Int)<0:=by omega
 generalize ((ks1 s k0:Nat):Int)=z1 at *
 generalize ((ks2 s k0:Nat):Int)=z2 at *
 generalize ((ks3 s k0:Nat):Int)=z3 at *
 generalize ((ks4 s k0:Nat):Int)=z4 at *
 generalize s.d.length=m1 at *
 generalize s.n.length=m2 at *
 generalize s.h.length=m3 at *
 generalize s.p.length=m4 at *
 clear hv hB hd hn hh hp hW e1 e2 e3 e4 Tn
 go_enter Tryz.func62,Tryz.ntmps62
 go_wp2_with fail
 rw[HW.out]
 refine hM1.mono ?_
 rintro e w1 ⟨rfl,hb1⟩
 obtain⟨x3,-,-⟩:=HX.out _ hb1
 have hm:=Ea.out _ hb1
 clear hM1 HW
 go_wp2_with fail
 refine hm.mono ?_
 rintro e w2 ⟨rfl,hw2⟩
 have hb2:Below W.heap.size W w2:=by rw[hw2];exact hb1
 obtain⟨-,x4,-⟩:=HX.out _ hb2
 have LK:=Lc.out _ hb2
 clear hm x3 hw2 hb1
 go_wp2_with fail
 refine LK.mono ?_
 rintro e w3 ⟨rfl,hw3⟩
 have hb3:Below W.heap.size W w3:=by rw[hw3];exact hb2
 obtain⟨-,-,x5⟩:=HX.out _ hb3
 have hm4:=Ld.out _ hb3
 clear LK x4 hw3 hb2
 go_wp2_with fail
 refine hm4.mono ?_
 rintro e w4 ⟨rfl,hb4⟩
 have hb5:=ah hBW (ah hb3 hb4)
 clear hm4 x5 hb3 hb4
 go_wp2
 go_ret
 exact⟨rfl,hb5⟩
theorem vG(q:Int)(s:St)(v:Sv)(k0:Nat)(ph cu:Int)(w:World)(hv:Sts w v (nH s k0))(hB:StB s)(hk0:0<k0/\k0<=4):
  Calls Tryz.prog 18 #[.agg #[.int .i64 q,.int .i64 ph,.int .i64 cu,v.d,v.n,v.h,v.p],.int .i64 k0] w fun e w'=>e = .returned (.int .i64 ((ks4 s k0:Nat):Int))/\Below w.heap.size w w':=by
 have hM:=fun o=>Fb s v k0 ph cu (w.alloc o) (hv.below (aj o)) hB hk0
 obtain⟨a1,c1,e1⟩:=hv.d.shape
 obtain⟨a2,c2,e2⟩:=hv.n.shape
 obtain⟨a3,c3,e3⟩:=hv.h.shape
 obtain⟨a4,c4,e4⟩:=hv.p.shape
 have n4:¬((ks4 s k0:Nat):Int)<0:=by omega
 generalize ((ks4 s k0:Nat):Int)=z4 at *
 rw[e1,e2,e3,e4]at hM ⊢
 generalize (nH s k0).d.length=m1 at *
 generalize (nH s k0).n.length=m2 at *
 generalize (nH s k0).h.length=m3 at *
 generalize (nH s k0).p.length=m4 at *
 clear hv hB e1 e2 e3 e4
 go_enter Tryz.func18,Tryz.ntmps18
 go_wp2_with fail
 refine(hM _).mono ?_
 rintro e w1 ⟨rfl,hb1⟩
 clear hM
 go_wp2
 go_ret
 exact⟨rfl,ak hb1⟩
end U
end Go.Proofs.YtmnfokgllcdiiaaGreat
