/- The form of a state, by the model. -/
import Derived.Test.YtmnfokgllcdiiaaGreatYBF
set_option maxRecDepth 100000
set_option maxHeartbeats 4000000
namespace Go.Proofs.YtmnfokgllcdiiaaGreat
open Go.RowKit
namespace U
theorem NP(ph cu:Int)(g og:Nat)(u:Value)(l:Rcl)(w:World)(hg:g<w.heap.size)(hD:w.cell? ⟨g,og,none⟩=some u)(hv:Rcs w u l)(hok:iZ l)(rH:cuB ph cu=true):
  Calls Tryz.prog 186 #[.int .i64 ph,.int .i64 cu,.pointer (some ⟨g,og,none⟩)] w fun e w'=>∃a c,e = .returned (.slice a (newL l cu).length c)/\Below w.heap.size w w'/\w'.ownsRow w.heap.size 63 2 (.slice a (newL l cu).length c) (newL l cu).length ((fl (newL l cu)).map (Value.int .i64)):=by
 by_cases h1:ph=1∨ph=5
 ·have e0:cu=0:=by
   unfold cuB at rH
   rcases h1 with rfl | rfl<;>simpa using rH
  subst e0
  rw[Qe]
  have HN:Hid ((w.alloc (.cells #[] 63)).ownsRow w.heap.size 63 2 (.slice (some ⟨w.heap.size,0,none⟩) 0 0) 0 []):=qR w 63 _ (Nat.le_refl _)
  clear hv hok rH
  simp only[List.length_nil]
  rcases h1 with rfl | rfl
  ·go_enter Tryz.func186,Tryz.ntmps186
   go_wp2
   go_ret
   exact⟨_,_,rfl,aj _,HN.out⟩
  ·go_enter Tryz.func186,Tryz.ntmps186
   go_wp2
   go_ret
   exact⟨_,_,rfl,aj _,HN.out⟩
 ·have n1:¬ph=1:=fun e=>h1 (Or.inl e)
  have n5:¬ph=5:=fun e=>h1 (Or.inr e)
  have b1:(ph==1)=false:=by simpa using n1
  have b5:(ph==5)=false:=by simpa using n5
  have hlen:=hok.len
  have hS:=jk g og u l w hg hD hv hok
  have hC:=fun v w' (hp:Prs w' v (aB l))=>iH v (aB l) 0 cu w' hp (by rw[vV];omega)
  have e2:cut (aB l) 0 cu=newL l cu:=rfl
  rw[e2]at hC
  generalize newL l cu=nl at *
  generalize aB l=m at *
  clear hv hok rH e2 h1 n1 n5 hD hg hlen
  go_enter Tryz.func186,Tryz.ntmps186
  go_wp2_with fail
  refine hS.mono ?_
  rintro e w1 ⟨u1,rfl,hb1,o1⟩
  have p1:=aP o1
  obtain⟨a1,c1,rfl⟩:=lg o1
  have Bv:=hC _ _ p1
  generalize m.length=mn at *
  clear hS hC o1 p1
  go_wp2_with fail
  refine Bv.mono ?_
  rintro e w2 ⟨a2,c2,rfl,o2,hb2⟩
  have HO:Hid (w2.ownsRow w.heap.size 63 2 (.slice a2 nl.length c2) nl.length ((fl nl).map (Value.int .i64))):=aS o2 hb1.size
  have HB:Hid (Below w.heap.size w w2):=ah hb1 hb2
  clear Bv o2 hb2 hb1
  go_wp2
  go_ret
  exact⟨a2,c2,rfl,HB.out,HO.out⟩
structure qo(W:World)(g:Nat)(ph cu:Int)(m:Prl):Prop where
 c:∀w',Below W.heap.size W w'->Calls Tryz.prog 186 #[.int .i64 ph,.int .i64 cu,.pointer (some ⟨g,2,none⟩)] w' fun e w''=>∃a c,e = .returned (.slice a m.length c)/\Below w'.heap.size w' w''/\w''.ownsRow w'.heap.size 63 2 (.slice a m.length c) m.length ((fl m).map (Value.int .i64))
structure qw(W:World)(v:Value)(m:Prl)(q:Bool):Prop where
 c:∀u w',Below W.heap.size W w'->Prs w' u m->Calls Tryz.prog 185 #[v,u] w' fun e w''=>e = .returned (.bool q)/\Below w'.heap.size w' w''
theorem Ny(g:Nat)(cu:Int)(a1 a2:Option Addr)(c1 d nn c2:Nat)(w:World)(k0:w.cell? ⟨g,0,none⟩=some (.int .i64 1))(k1:w.cell? ⟨g,1,none⟩=some (.int .i64 cu))(k2:w.cell? ⟨g,2,none⟩=some (.slice a1 d c1))(k3:w.cell? ⟨g,3,none⟩=some (.slice a2 nn c2))(rH:(cu==0)=false):
  Calls Tryz.prog 100 #[.pointer (some ⟨g,0,none⟩)] w fun e w'=>e = .returned (.bool false)/\Below w.heap.size w w':=by
 have q0:=After.cell k0
 have q1:=After.cell k1
 have q2:=After.cell k2
 have q3:=After.cell k3
 have hne:=After.ne w
 go_enter Tryz.func100,Tryz.ntmps100
 go_wp2_with fail
 refine ay (by kernel_rfl) (by kernel_rfl) ?_
 repeat(first | go_big_quiet_skip |(go_big_quiet_want;go_big_quiet_op;first | go_big_quiet_on | go_big_quiet_call (fail)))
 refine wpQuiet_nil ?_
 rintro _ ⟨n6,rfl⟩
 have iE:Hid (Below w.heap.size w n6.w):=n6.b
 generalize n6.w=w6 at *
 clear hne q0 q1 q2 q3 n6
 go_wp2
 go_ret
 exact⟨rfl,iE.out⟩
theorem Nz(g:Nat)(a1 a2:Option Addr)(c1 d nn c2:Nat)(m:Prl)(q:Bool)(w:World)(hg:g<w.heap.size)(k0:w.cell? ⟨g,0,none⟩=some (.int .i64 1))(k1:w.cell? ⟨g,1,none⟩=some (.int .i64 0))(k2:w.cell? ⟨g,2,none⟩=some (.slice a1 d c1))(k3:w.cell? ⟨g,3,none⟩=some (.slice a2 nn c2))(HL:qo w g 1 0 m)(HS:qw w (.slice a2 nn c2) m q):
  Calls Tryz.prog 100 #[.pointer (some ⟨g,0,none⟩)] w fun e w'=>e = .returned (.bool q)/\Below w.heap.size w w':=by
 have aZ:Hid (∀w',Below w.heap.size w w'->w'.cell? ⟨g,0,none⟩=some (.int .i64 1)/\w'.cell? ⟨g,1,none⟩=some (.int .i64 0)/\w'.cell? ⟨g,2,none⟩=some (.slice a1 d c1)/\w'.cell? ⟨g,3,none⟩=some (.slice a2 nn c2)):=fun w' hb=>⟨(hb.cell (p:=⟨g,0,none⟩) hg).trans k0,(hb.cell (p:=⟨g,1,none⟩) hg).trans k1,(hb.cell (p:=⟨g,2,none⟩) hg).trans k2,(hb.cell (p:=⟨g,3,none⟩) hg).trans k3⟩
 have hbr:Below w.heap.size w w:=Below.refl _ _
 go_enter Tryz.func100,Tryz.ntmps100
 go_wp2_with fail
 go_region_held3 (fun w'=>w'.cell? ⟨g,0,none⟩=some (.int .i64 1)/\w'.cell? ⟨g,1,none⟩=some (.int .i64 0)/\w'.cell? ⟨g,2,none⟩=some (.slice a1 d c1)/\w'.cell? ⟨g,3,none⟩=some (.slice a2 nn c2))
  (first | with_reducible exact⟨k0,k1,k2,k3⟩|with_reducible exact aZ.out _ hbr | with_reducible exact aZ.out _ hbr.drew)
  (first
   |(go_at_call 186;refine(qo.c (by assumption) _ (by first | exact hbr | exact hbr.drew)).mono ?_;rintro e w3 ⟨a7,c7,rfl,hb3,o3⟩;have hp3:=aP o3;have hbr:Below w.heap.size w w3:=(by first | exact ah hbr hb3 | exact ah hbr.drew hb3);clear hb3 o3)
   |(go_at_call 185;refine(qw.c (by assumption) _ _ hbr hp3).mono ?_;rintro e w4 ⟨rfl,hb4⟩;have hbr:Below w.heap.size w w4:=ah hbr hb4;clear hb4))
 go_wp2
 go_ret
 exact⟨rfl,hbr⟩
theorem NC(g:Nat)(cu:Int)(a1 a2:Option Addr)(c1 d nn c2:Nat)(w:World)(k0:w.cell? ⟨g,0,none⟩=some (.int .i64 2))(k1:w.cell? ⟨g,1,none⟩=some (.int .i64 cu))(k2:w.cell? ⟨g,2,none⟩=some (.slice a1 d c1))(k3:w.cell? ⟨g,3,none⟩=some (.slice a2 nn c2))(rH:inB cu 0 255=false):
  Calls Tryz.prog 100 #[.pointer (some ⟨g,0,none⟩)] w fun e w'=>e = .returned (.bool false)/\Below w.heap.size w w':=by
 have hI:=fun w=>bY cu 0 255 w
 rw[rH]at hI
 have q0:=After.cell k0
 have q1:=After.cell k1
 have q2:=After.cell k2
 have q3:=After.cell k3
 have hne:=After.ne w
 go_enter Tryz.func100,Tryz.ntmps100
 go_wp2_with fail
 refine(hI _).mono ?_
 rintro e w0 ⟨rfl,hw0⟩
 rw[hw0]
 clear hI hw0
 go_wp2_with fail
 refine ay (by kernel_rfl) (by kernel_rfl) ?_
 repeat(first | go_big_quiet_skip |(go_big_quiet_want;go_big_quiet_op;first | go_big_quiet_on | go_big_quiet_call (fail)))
 refine wpQuiet_nil ?_
 rintro _ ⟨n6,rfl⟩
 have iE:Hid (Below w.heap.size w n6.w):=n6.b
 generalize n6.w=w6 at *
 clear hne q0 q1 q2 q3 n6
 go_wp2
 go_ret
 exact⟨rfl,iE.out⟩
theorem ND(g:Nat)(cu:Int)(a1 a2:Option Addr)(c1 d nn c2:Nat)(m:Prl)(q:Bool)(w:World)(hg:g<w.heap.size)(k0:w.cell? ⟨g,0,none⟩=some (.int .i64 2))(k1:w.cell? ⟨g,1,none⟩=some (.int .i64 cu))(k2:w.cell? ⟨g,2,none⟩=some (.slice a1 d c1))(k3:w.cell? ⟨g,3,none⟩=some (.slice a2 nn c2))(HL:qo w g 2 cu m)(HS:qw w (.slice a2 nn c2) m q)(rH:inB cu 0 255=true):
  Calls Tryz.prog 100 #[.pointer (some ⟨g,0,none⟩)] w fun e w'=>e = .returned (.bool q)/\Below w.heap.size w w':=by
 have hI:=fun w=>bY cu 0 255 w
 rw[rH]at hI
 have aZ:Hid (∀w',Below w.heap.size w w'->w'.cell? ⟨g,0,none⟩=some (.int .i64 2)/\w'.cell? ⟨g,1,none⟩=some (.int .i64 cu)/\w'.cell? ⟨g,2,none⟩=some (.slice a1 d c1)/\w'.cell? ⟨g,3,none⟩=some (.slice a2 nn c2)):=fun w' hb=>⟨(hb.cell (p:=⟨g,0,none⟩) hg).trans k0,(hb.cell (p:=⟨g,1,none⟩) hg).trans k1,(hb.cell (p:=⟨g,2,none⟩) hg).trans k2,(hb.cell (p:=⟨g,3,none⟩) hg).trans k3⟩
 have hbr:Below w.heap.size w w:=Below.refl _ _
 go_enter Tryz.func100,Tryz.ntmps100
 go_wp2_with fail
 refine(hI _).mono ?_
 rintro e w0 ⟨rfl,hw0⟩
 rw[hw0]
 clear hI hw0
 go_wp2_with fail
 go_region_held3 (fun w'=>w'.cell? ⟨g,0,none⟩=some (.int .i64 2)/\w'.cell? ⟨g,1,none⟩=some (.int .i64 cu)/\w'.cell? ⟨g,2,none⟩=some (.slice a1 d c1)/\w'.cell? ⟨g,3,none⟩=some (.slice a2 nn c2))
  (first | with_reducible exact⟨k0,k1,k2,k3⟩|with_reducible exact aZ.out _ hbr | with_reducible exact aZ.out _ hbr.drew)
  (first
   |(go_at_call 186;refine(qo.c (by assumption) _ (by first | exact hbr | exact hbr.drew)).mono ?_;rintro e w3 ⟨a7,c7,rfl,hb3,o3⟩;have hp3:=aP o3;have hbr:Below w.heap.size w w3:=(by first | exact ah hbr hb3 | exact ah hbr.drew hb3);clear hb3 o3)
   |(go_at_call 185;refine(qw.c (by assumption) _ _ hbr hp3).mono ?_;rintro e w4 ⟨rfl,hb4⟩;have hbr:Below w.heap.size w w4:=ah hbr hb4;clear hb4))
 go_wp2
 go_ret
 exact⟨rfl,hbr⟩
theorem NG(g:Nat)(cu:Int)(a1 a2:Option Addr)(c1 d nn c2:Nat)(w:World)(k0:w.cell? ⟨g,0,none⟩=some (.int .i64 3))(k1:w.cell? ⟨g,1,none⟩=some (.int .i64 cu))(k2:w.cell? ⟨g,2,none⟩=some (.slice a1 d c1))(k3:w.cell? ⟨g,3,none⟩=some (.slice a2 nn c2))(rH:(cu==256)=false):
  Calls Tryz.prog 100 #[.pointer (some ⟨g,0,none⟩)] w fun e w'=>e = .returned (.bool false)/\Below w.heap.size w w':=by
 have q0:=After.cell k0
 have q1:=After.cell k1
 have q2:=After.cell k2
 have q3:=After.cell k3
 have hne:=After.ne w
 go_enter Tryz.func100,Tryz.ntmps100
 go_wp2_with fail
 refine ay (by kernel_rfl) (by kernel_rfl) ?_
 repeat(first | go_big_quiet_skip |(go_big_quiet_want;go_big_quiet_op;first | go_big_quiet_on | go_big_quiet_call (fail)))
 refine wpQuiet_nil ?_
 rintro _ ⟨n6,rfl⟩
 have iE:Hid (Below w.heap.size w n6.w):=n6.b
 generalize n6.w=w6 at *
 clear hne q0 q1 q2 q3 n6
 go_wp2
 go_ret
 exact⟨rfl,iE.out⟩
theorem NH(g:Nat)(a1 a2:Option Addr)(c1 d nn c2:Nat)(m:Prl)(q:Bool)(w:World)(hg:g<w.heap.size)(k0:w.cell? ⟨g,0,none⟩=some (.int .i64 3))(k1:w.cell? ⟨g,1,none⟩=some (.int .i64 256))(k2:w.cell? ⟨g,2,none⟩=some (.slice a1 d c1))(k3:w.cell? ⟨g,3,none⟩=some (.slice a2 nn c2))(HL:qo w g 3 256 m)(HS:qw w (.slice a2 nn c2) m q):
  Calls Tryz.prog 100 #[.pointer (some ⟨g,0,none⟩)] w fun e w'=>e = .returned (.bool q)/\Below w.heap.size w w':=by
 have aZ:Hid (∀w',Below w.heap.size w w'->w'.cell? ⟨g,0,none⟩=some (.int .i64 3)/\w'.cell? ⟨g,1,none⟩=some (.int .i64 256)/\w'.cell? ⟨g,2,none⟩=some (.slice a1 d c1)/\w'.cell? ⟨g,3,none⟩=some (.slice a2 nn c2)):=fun w' hb=>⟨(hb.cell (p:=⟨g,0,none⟩) hg).trans k0,(hb.cell (p:=⟨g,1,none⟩) hg).trans k1,(hb.cell (p:=⟨g,2,none⟩) hg).trans k2,(hb.cell (p:=⟨g,3,none⟩) hg).trans k3⟩
 have hbr:Below w.heap.size w w:=Below.refl _ _
 go_enter Tryz.func100,Tryz.ntmps100
 go_wp2_with fail
 go_region_held3 (fun w'=>w'.cell? ⟨g,0,none⟩=some (.int .i64 3)/\w'.cell? ⟨g,1,none⟩=some (.int .i64 256)/\w'.cell? ⟨g,2,none⟩=some (.slice a1 d c1)/\w'.cell? ⟨g,3,none⟩=some (.slice a2 nn c2))
  (first | with_reducible exact⟨k0,k1,k2,k3⟩|with_reducible exact aZ.out _ hbr | with_reducible exact aZ.out _ hbr.drew)
  (first
   |(go_at_call 186;refine(qo.c (by assumption) _ (by first | exact hbr | exact hbr.drew)).mono ?_;rintro e w3 ⟨a7,c7,rfl,hb3,o3⟩;have hp3:=aP o3;have hbr:Below w.heap.size w w3:=(by first | exact ah hbr hb3 | exact ah hbr.drew hb3);clear hb3 o3)
   |(go_at_call 185;refine(qw.c (by assumption) _ _ hbr hp3).mono ?_;rintro e w4 ⟨rfl,hb4⟩;have hbr:Below w.heap.size w w4:=ah hbr hb4;clear hb4))
 go_wp2
 go_ret
 exact⟨rfl,hbr⟩
theorem NI(g:Nat)(cu:Int)(a1 a2:Option Addr)(c1 d nn c2:Nat)(w:World)(k0:w.cell? ⟨g,0,none⟩=some (.int .i64 4))(k1:w.cell? ⟨g,1,none⟩=some (.int .i64 cu))(k2:w.cell? ⟨g,2,none⟩=some (.slice a1 d c1))(k3:w.cell? ⟨g,3,none⟩=some (.slice a2 nn c2))(rH:(cu==256)=false):
  Calls Tryz.prog 100 #[.pointer (some ⟨g,0,none⟩)] w fun e w'=>e = .returned (.bool false)/\Below w.heap.size w w':=by
 have q0:=After.cell k0
 have q1:=After.cell k1
 have q2:=After.cell k2
 have q3:=After.cell k3
 have hne:=After.ne w
 go_enter Tryz.func100,Tryz.ntmps100
 go_wp2_with fail
 refine ay (by kernel_rfl) (by kernel_rfl) ?_
 repeat(first | go_big_quiet_skip |(go_big_quiet_want;go_big_quiet_op;first | go_big_quiet_on | go_big_quiet_call (fail)))
 refine wpQuiet_nil ?_
 rintro _ ⟨n6,rfl⟩
 have iE:Hid (Below w.heap.size w n6.w):=n6.b
 generalize n6.w=w6 at *
 clear hne q0 q1 q2 q3 n6
 go_wp2
 go_ret
 exact⟨rfl,iE.out⟩
theorem NJ(g:Nat)(a1 a2:Option Addr)(c1 d nn c2:Nat)(m:Prl)(q:Bool)(w:World)(hg:g<w.heap.size)(k0:w.cell? ⟨g,0,none⟩=some (.int .i64 4))(k1:w.cell? ⟨g,1,none⟩=some (.int .i64 256))(k2:w.cell? ⟨g,2,none⟩=some (.slice a1 d c1))(k3:w.cell? ⟨g,3,none⟩=some (.slice a2 nn c2))(HL:qo w g 4 256 m)(HS:qw w (.slice a2 nn c2) m q):
  Calls Tryz.prog 100 #[.pointer (some ⟨g,0,none⟩)] w fun e w'=>e = .returned (.bool q)/\Below w.heap.size w w':=by
 have aZ:Hid (∀w',Below w.heap.size w w'->w'.cell? ⟨g,0,none⟩=some (.int .i64 4)/\w'.cell? ⟨g,1,none⟩=some (.int .i64 256)/\w'.cell? ⟨g,2,none⟩=some (.slice a1 d c1)/\w'.cell? ⟨g,3,none⟩=some (.slice a2 nn c2)):=fun w' hb=>⟨(hb.cell (p:=⟨g,0,none⟩) hg).trans k0,(hb.cell (p:=⟨g,1,none⟩) hg).trans k1,(hb.cell (p:=⟨g,2,none⟩) hg).trans k2,(hb.cell (p:=⟨g,3,none⟩) hg).trans k3⟩
 have hbr:Below w.heap.size w w:=Below.refl _ _
 go_enter Tryz.func100,Tryz.ntmps100
 go_wp2_with fail
 go_region_held3 (fun w'=>w'.cell? ⟨g,0,none⟩=some (.int .i64 4)/\w'.cell? ⟨g,1,none⟩=some (.int .i64 256)/\w'.cell? ⟨g,2,none⟩=some (.slice a1 d c1)/\w'.cell? ⟨g,3,none⟩=some (.slice a2 nn c2))
  (first | with_reducible exact⟨k0,k1,k2,k3⟩|with_reducible exact aZ.out _ hbr | with_reducible exact aZ.out _ hbr.drew)
  (first
   |(go_at_call 186;refine(qo.c (by assumption) _ (by first | exact hbr | exact hbr.drew)).mono ?_;rintro e w3 ⟨a7,c7,rfl,hb3,o3⟩;have hp3:=aP o3;have hbr:Below w.heap.size w w3:=(by first | exact ah hbr hb3 | exact ah hbr.drew hb3);clear hb3 o3)
   |(go_at_call 185;refine(qw.c (by assumption) _ _ hbr hp3).mono ?_;rintro e w4 ⟨rfl,hb4⟩;have hbr:Below w.heap.size w w4:=ah hbr hb4;clear hb4))
 go_wp2
 go_ret
 exact⟨rfl,hbr⟩
theorem NK(g:Nat)(cu:Int)(a1 a2:Option Addr)(c1 d nn c2:Nat)(w:World)(k0:w.cell? ⟨g,0,none⟩=some (.int .i64 5))(k1:w.cell? ⟨g,1,none⟩=some (.int .i64 cu))(k2:w.cell? ⟨g,2,none⟩=some (.slice a1 d c1))(k3:w.cell? ⟨g,3,none⟩=some (.slice a2 nn c2))(rH:(cu==0)=false):
  Calls Tryz.prog 100 #[.pointer (some ⟨g,0,none⟩)] w fun e w'=>e = .returned (.bool false)/\Below w.heap.size w w':=by
 have q0:=After.cell k0
 have q1:=After.cell k1
 have q2:=After.cell k2
 have q3:=After.cell k3
 have hne:=After.ne w
 go_enter Tryz.func100,Tryz.ntmps100
 go_wp2_with fail
 refine ay (by kernel_rfl) (by kernel_rfl) ?_
 repeat(first | go_big_quiet_skip |(go_big_quiet_want;go_big_quiet_op;first | go_big_quiet_on | go_big_quiet_call (fail)))
 refine wpQuiet_nil ?_
 rintro _ ⟨n6,rfl⟩
 have iE:Hid (Below w.heap.size w n6.w):=n6.b
 generalize n6.w=w6 at *
 clear hne q0 q1 q2 q3 n6
 go_wp2
 go_ret
 exact⟨rfl,iE.out⟩
theorem NM(g:Nat)(a1 a2:Option Addr)(c1 d nn c2:Nat)(m:Prl)(q:Bool)(w:World)(hg:g<w.heap.size)(k0:w.cell? ⟨g,0,none⟩=some (.int .i64 5))(k1:w.cell? ⟨g,1,none⟩=some (.int .i64 0))(k2:w.cell? ⟨g,2,none⟩=some (.slice a1 d c1))(k3:w.cell? ⟨g,3,none⟩=some (.slice a2 nn c2))(HL:qo w g 5 0 m)(HS:qw w (.slice a2 nn c2) m q):
  Calls Tryz.prog 100 #[.pointer (some ⟨g,0,none⟩)] w fun e w'=>e = .returned (.bool q)/\Below w.heap.size w w':=by
 have aZ:Hid (∀w',Below w.heap.size w w'->w'.cell? ⟨g,0,none⟩=some (.int .i64 5)/\w'.cell? ⟨g,1,none⟩=some (.int .i64 0)/\w'.cell? ⟨g,2,none⟩=some (.slice a1 d c1)/\w'.cell? ⟨g,3,none⟩=some (.slice a2 nn c2)):=fun w' hb=>⟨(hb.cell (p:=⟨g,0,none⟩) hg).trans k0,(hb.cell (p:=⟨g,1,none⟩) hg).trans k1,(hb.cell (p:=⟨g,2,none⟩) hg).trans k2,(hb.cell (p:=⟨g,3,none⟩) hg).trans k3⟩
 have hbr:Below w.heap.size w w:=Below.refl _ _
 go_enter Tryz.func100,Tryz.ntmps100
 go_wp2_with fail
 go_region_held3 (fun w'=>w'.cell? ⟨g,0,none⟩=some (.int .i64 5)/\w'.cell? ⟨g,1,none⟩=some (.int .i64 0)/\w'.cell? ⟨g,2,none⟩=some (.slice a1 d c1)/\w'.cell? ⟨g,3,none⟩=some (.slice a2 nn c2))
  (first | with_reducible exact⟨k0,k1,k2,k3⟩|with_reducible exact aZ.out _ hbr | with_reducible exact aZ.out _ hbr.drew)
  (first
   |(go_at_call 186;refine(qo.c (by assumption) _ (by first | exact hbr | exact hbr.drew)).mono ?_;rintro e w3 ⟨a7,c7,rfl,hb3,o3⟩;have hp3:=aP o3;have hbr:Below w.heap.size w w3:=(by first | exact ah hbr hb3 | exact ah hbr.drew hb3);clear hb3 o3)
   |(go_at_call 185;refine(qw.c (by assumption) _ _ hbr hp3).mono ?_;rintro e w4 ⟨rfl,hb4⟩;have hbr:Below w.heap.size w w4:=ah hbr hb4;clear hb4))
 go_wp2
 go_ret
 exact⟨rfl,hbr⟩
theorem oq(g:Nat)(s:St)(v:Sv)(w:World)(hs:StC w g s v)(hv:Sts w v s)(hB:StB s)(Zm:inB s.ph 1 5=true)(hd:aI s.d=0):
  Calls Tryz.prog 100 #[.pointer (some ⟨g,0,none⟩)] w fun e w'=>e = .returned (.bool (stN s))/\Below w.heap.size w w':=by
 have hok:=dP hd
 have hlm:(newL s.d s.cu).length<=1048576:=by have:=qQ s.d s.cu;have:=hok.len;omega
 have HL:=fun (h:cuB s.ph s.cu=true)=>(⟨fun w' hb=>NP s.ph s.cu g 2 v.d s.d w' (Nat.lt_of_lt_of_le hs.lt hb.size) ((hb.cell (p:=⟨g,2,none⟩) hs.lt).trans hs.c2) (hv.d.below hb) hok h⟩:qo w g s.ph s.cu (newL s.d s.cu))
 have HS:qw w v.n (newL s.d s.cu) (eqP s.n (newL s.d s.cu)):=⟨fun u w' hb hu=>Am v.n u s.n (newL s.d s.cu) w' (hv.n.below hb) hu hB.n hlm⟩
 obtain⟨a1,c1,e1⟩:=hv.d.shape
 obtain⟨a2,c2,e2⟩:=hv.n.shape
 obtain⟨hg,k0,k1,k2,k3,-,-⟩:=hs
 unfold stN
 obtain⟨ph,cu,d,n,h,p⟩:=s
 obtain⟨vd,vn,vh,vp⟩:=v
 dsimp only at *
 subst e1 e2
 generalize eqP n (newL d cu)=q at *
 generalize newL d cu=m at *
 have hp:=iw Zm
 rcases(by omega:ph=1∨ph=2∨ph=3∨ph=4∨ph=5)with rfl | rfl | rfl | rfl | rfl
 ·rcases Bool.eq_false_or_eq_true (cuB 1 cu)with hc | hc
  ·have e:cu=0:=by unfold cuB at hc;simpa using hc
   subst e
   rw[hc,Bool.true_and]
   exact Nz g a1 a2 c1 _ _ c2 m q w hg k0 k1 k2 k3 (HL hc) HS
  ·rw[hc,Bool.false_and]
   have e:(cu==0)=false:=by unfold cuB at hc;simpa using hc
   exact Ny g cu a1 a2 c1 _ _ c2 w k0 k1 k2 k3 e
 ·rcases Bool.eq_false_or_eq_true (cuB 2 cu)with hc | hc
  ·rw[hc,Bool.true_and]
   have e:inB cu 0 255=true:=by unfold cuB at hc;simpa using hc
   exact ND g cu a1 a2 c1 _ _ c2 m q w hg k0 k1 k2 k3 (HL hc) HS e
  ·rw[hc,Bool.false_and]
   have e:inB cu 0 255=false:=by unfold cuB at hc;simpa using hc
   exact NC g cu a1 a2 c1 _ _ c2 w k0 k1 k2 k3 e
 ·rcases Bool.eq_false_or_eq_true (cuB 3 cu)with hc | hc
  ·have e:cu=256:=by unfold cuB at hc;simpa using hc
   subst e
   rw[hc,Bool.true_and]
   exact NH g a1 a2 c1 _ _ c2 m q w hg k0 k1 k2 k3 (HL hc) HS
  ·rw[hc,Bool.false_and]
   have e:(cu==256)=false:=by unfold cuB at hc;simpa using hc
   exact NG g cu a1 a2 c1 _ _ c2 w k0 k1 k2 k3 e
 ·rcases Bool.eq_false_or_eq_true (cuB 4 cu)with hc | hc
  ·have e:cu=256:=by unfold cuB at hc;simpa using hc
   subst e
   rw[hc,Bool.true_and]
   exact NJ g a1 a2 c1 _ _ c2 m q w hg k0 k1 k2 k3 (HL hc) HS
  ·rw[hc,Bool.false_and]
   have e:(cu==256)=false:=by unfold cuB at hc;simpa using hc
   exact NI g cu a1 a2 c1 _ _ c2 w k0 k1 k2 k3 e
 ·rcases Bool.eq_false_or_eq_true (cuB 5 cu)with hc | hc
  ·have e:cu=0:=by unfold cuB at hc;simpa using hc
   subst e
   rw[hc,Bool.true_and]
   exact NM g a1 a2 c1 _ _ c2 m q w hg k0 k1 k2 k3 (HL hc) HS
  ·rw[hc,Bool.false_and]
   have e:(cu==0)=false:=by unfold cuB at hc;simpa using hc
   exact NK g cu a1 a2 c1 _ _ c2 w k0 k1 k2 k3 e
end U
end Go.Proofs.YtmnfokgllcdiiaaGreat
