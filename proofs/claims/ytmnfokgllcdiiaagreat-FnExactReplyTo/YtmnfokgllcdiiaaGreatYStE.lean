/- States as the laws look at them: compared. -/
import Derived.Test.YtmnfokgllcdiiaaGreatYBD
import Derived.Test.YtmnfokgllcdiiaaGreatYBC
import Derived.Test.YtmnfokgllcdiiaaGreatYBB
set_option maxRecDepth 100000
set_option maxHeartbeats 4000000
namespace Go.Proofs.YtmnfokgllcdiiaaGreat
open Go.RowKit
namespace U
theorem yA(b off c b' off' c' n:Nat)(p:Pst)(w:World)(hx:n<=1048576)(hb:b<w.heap.size)(hb':b'<w.heap.size)(fE:∀j,j<n->(dAt p j).length<=1048576)(hc:∀j,j<n->∃u,w.cell? ⟨b,off+j,none⟩=some u/\Rcs w u (dAt p j))(hc':∀j,j<n->∃u,w.cell? ⟨b',off'+j,none⟩=some u/\Rcs w u (dAt p j)):
  Calls Tryz.prog 57 #[.slice (some ⟨b,off,none⟩) n c,.slice (some ⟨b',off',none⟩) n c'] w fun e w'=>e = .returned (.bool true)/\Below w.heap.size w w':=by
 have hnn:=dA
 go_enter Tryz.func57,Tryz.ntmps57
 go_wp2
 go_loopw [5] (fun i wr=>∃k:Nat,k<=n/\i = .int .i64 k/\Hid (Below w.heap.size w wr)) (fun i _=>n - (intOf i).toNat)
 case atStart=>exact⟨0,Nat.zero_le _,rfl,Below.refl _ _⟩
 case round=>
  obtain⟨k,hk,rfl,hB⟩:=hrel
  by_cases hkn:k<n
  ·have hki:(k:Int)<(n:Int):=by omega
   obtain⟨u,hu,hr⟩:=hc k hkn
   obtain⟨u',hu',hr'⟩:=hc' k hkn
   have d0:=(hB.out.cell (p:=⟨b,off+k,none⟩) hb).trans hu
   have d0':=(hB.out.cell (p:=⟨b',off'+k,none⟩) hb').trans hu'
   have hE:=fun w' (h:Below wr.heap.size wr w')=>qB u u' (dAt p k) w' (hr.below (ah hB.out h)) (hr'.below (ah hB.out h)) (fE k hkn)
   obtain⟨a1,c1,rfl⟩:=hr.shape
   obtain⟨a2,c2,rfl⟩:=hr'.shape
   generalize (dAt p k).length=m at *
   have q0:=After.cell d0
   have p0:=After.cell d0'
   have hne:=After.ne wr
   clear hc hc' d0 d0' hu hu' hr hr' fE
   go_wp2_with fail
   refine ay (by kernel_rfl) (by kernel_rfl) ?_
   repeat(first | go_big_quiet_skip |(go_big_quiet_want;go_big_quiet_op;first | go_big_quiet_on | go_big_quiet_call (first |(go_at_call 55;refine(hE _ (After.b _)).mono ?_;rintro e wq ⟨rfl,hbq⟩;exact⟨rfl,bP (ah (After.b _) hbq)⟩))))
   refine wpQuiet_nil ?_
   rintro _ ⟨n6,rfl⟩
   have iE:Hid (Below w.heap.size w n6.w):=ah hB.out n6.b
   generalize n6.w=w6 at *
   clear hne q0 p0 n6 hE
   go_wp2
   go_roundw
   case rel=>exact⟨k+1,by omega,by go_num,iE⟩
   case measure=>simp[intOf];omega
  ·have hkn:k=n:=by omega
   subst hkn
   clear hc hc'
   go_wp2
   go_ret
   exact⟨rfl,hB.out⟩
theorem yB(v u:Value)(p:Pst)(w:World)(hv:Dss w v p)(hu:Dss w u p)(hx:p.length<=1048576)(fE:∀j,j<p.length->(dAt p j).length<=1048576):
  Calls Tryz.prog 57 #[v,u] w fun e w'=>e = .returned (.bool true)/\Below w.heap.size w w':=by
 obtain⟨a,c,rfl⟩:=hv.shape
 obtain⟨a',c',rfl⟩:=hu.shape
 by_cases h0:0<p.length
 ·obtain⟨-,b,off,rfl,hb,hc⟩:=hv.at h0
  obtain⟨-,b',off',rfl,hb',hc'⟩:=hu.at h0
  exact yA b off c b' off' c' p.length p w hx hb hb' fE hc hc'
 ·have e1:p=[]:=List.eq_nil_of_length_eq_zero (by omega)
  subst e1
  simp only[List.length_nil]at *
  clear hv hu h0
  go_enter Tryz.func57,Tryz.ntmps57
  go_wp2
  refine wp_loop_rounds 1 ?_;rw[rounds_succ]
  go_wp2
  go_ret
  exact⟨rfl,Below.refl _ _⟩
theorem vY(s:St)(v u:Sv)(w:World)(hv:Sts w v s)(hu:Sts w u s)(hB:StB s):
  Calls Tryz.prog 15 #[stV s v,stV s u] w fun e w'=>e = .returned (.bool true)/\Below w.heap.size w w':=by
 obtain⟨W,hW⟩:∃W,W=(w.alloc (stC s v 41)).alloc (stC s u 41):=⟨_,rfl⟩
 have hBW:Below w.heap.size w W:=by rw[hW];exact aA _ _
 have Bv:StC W w.heap.size s v:=by rw[hW];exact(StC.new w s v _).below (aj _) (by simp)
 have hC2:StC W (w.heap.size+1) s u:=by
  have:=StC.new (w.alloc (stC s v 41)) s u 41
  rw[World.size_alloc]at this
  rw[hW]
  exact this
 have hnn:=dA
 have HC:Hid (∀w',Below W.heap.size W w'->StC w' w.heap.size s v/\StC w' (w.heap.size+1) s u):=fun w' hb=>⟨Bv.below hb Bv.lt,hC2.below hb hC2.lt⟩
 have HD:Hid (∀w',Below W.heap.size W w'->Calls Tryz.prog 55 #[.agg #[v.d],.agg #[u.d]] w' fun e w''=>e = .returned (.bool true)/\Below w'.heap.size w' w''):=fun w' hb=>qB v.d u.d s.d w' ((hv.d.below hBW).below hb) ((hu.d.below hBW).below hb) hB.d
 have HN:Hid (∀w',Below W.heap.size W w'->Calls Tryz.prog 56 #[v.n,u.n] w' fun e w''=>e = .returned (.bool true)/\Below w'.heap.size w' w''):=fun w' hb=>by
  have:=J9 v.n u.n s.n s.n w' ((hv.n.below hBW).below hb) ((hu.n.below hBW).below hb) (by have:=hB.n;omega) (by have:=hB.n;omega)
  rw[decide_eq_true rfl]at this
  exact this
 have HH:Hid (∀w',Below W.heap.size W w'->Calls Tryz.prog 40 #[v.h,u.h] w' fun e w''=>e = .returned (.bool true)/\Below w'.heap.size w' w''):=fun w' hb=>GU v.h u.h s.h w' ((hv.h.below hBW).below hb) ((hu.h.below hBW).below hb) hB.h
 have HP:Hid (∀w',Below W.heap.size W w'->Calls Tryz.prog 57 #[v.p,u.p] w' fun e w''=>e = .returned (.bool true)/\Below w'.heap.size w' w''):=fun w' hb=>yB v.p u.p s.p w' ((hv.p.below hBW).below hb) ((hu.p.below hBW).below hb) hB.p (fun j hj=>(hB.pd j hj).1)
 obtain⟨a1,c1,e1⟩:=hv.d.shape
 obtain⟨a2,c2,e2⟩:=hv.n.shape
 obtain⟨a3,c3,e3⟩:=hv.h.shape
 obtain⟨a4,c4,e4⟩:=hv.p.shape
 obtain⟨b1,k1,f1⟩:=hu.d.shape
 obtain⟨b2,k2,f2⟩:=hu.n.shape
 obtain⟨b3,k3,f3⟩:=hu.h.shape
 obtain⟨b4,k4,f4⟩:=hu.p.shape
 obtain⟨ph,cu,d,n,h,p⟩:=s
 obtain⟨vd,vn,vh,vp⟩:=v
 obtain⟨ud,un,uh,up⟩:=u
 dsimp only at *
 subst e1 e2 e3 e4 f1 f2 f3 f4
 unfold stC at hW
 unfold stV
 dsimp only at *
 have F8:Hid (∀w',Below W.heap.size W w'->(w'.cell? ⟨w.heap.size,0,none⟩=some (.int .i64 ph)/\w'.cell? ⟨w.heap.size,1,none⟩=some (.int .i64 cu)/\w'.cell? ⟨w.heap.size,2,none⟩=some (.slice a1 d.length c1)/\w'.cell? ⟨w.heap.size,3,none⟩=some (.slice a2 n.length c2)/\w'.cell? ⟨w.heap.size,4,none⟩=some (.slice a3 h.length c3)/\w'.cell? ⟨w.heap.size,5,none⟩=some (.slice a4 p.length c4))/\w'.cell? ⟨w.heap.size+1,0,none⟩=some (.int .i64 ph)/\w'.cell? ⟨w.heap.size+1,1,none⟩=some (.int .i64 cu)/\w'.cell? ⟨w.heap.size+1,2,none⟩=some (.slice b1 d.length k1)/\w'.cell? ⟨w.heap.size+1,3,none⟩=some (.slice b2 n.length k2)/\w'.cell? ⟨w.heap.size+1,4,none⟩=some (.slice b3 h.length k3)/\w'.cell? ⟨w.heap.size+1,5,none⟩=some (.slice b4 p.length k4)):=fun w' hb=>by
  obtain⟨x,y⟩:=HC.out w' hb
  exact⟨⟨x.c0,x.c1,x.c2,x.c3,x.c4,x.c5⟩,y.c0,y.c1,y.c2,y.c3,y.c4,y.c5⟩
 have HW:Hid _:=hW.symm
 have fB:Hid (Below w.heap.size w W):=hBW
 generalize d.length=dn at *
 generalize n.length=nn at *
 generalize h.length=hn at *
 generalize p.length=pn at *
 clear hv hu hB Bv hC2 HC hW hBW
 go_enter Tryz.func15,Tryz.ntmps15
 go_wp2_with fail
 rw[HW.out]
 refine(HD.out _ (Below.refl _ _)).mono ?_
 rintro e w1 ⟨rfl,hb1⟩
 obtain⟨⟨-,-,-,x3,-,-⟩,-,-,-,y3,-,-⟩:=F8.out _ hb1
 go_wp2_with fail
 refine(HN.out _ hb1).mono ?_
 rintro e w2 ⟨rfl,hb2⟩
 have hb2:=ah hb1 hb2
 clear hb1 x3 y3
 obtain⟨⟨-,-,-,-,x4,-⟩,-,-,-,-,y4,-⟩:=F8.out _ hb2
 go_wp2_with fail
 refine(HH.out _ hb2).mono ?_
 rintro e w3 ⟨rfl,hb3⟩
 have hb3:=ah hb2 hb3
 clear hb2 x4 y4
 obtain⟨⟨-,-,-,-,-,x5⟩,-,-,-,-,-,y5⟩:=F8.out _ hb3
 go_wp2_with fail
 refine(HP.out _ hb3).mono ?_
 rintro e w4 ⟨rfl,hb4⟩
 have hb4:=ah hb3 hb4
 clear hb3 x5 y5
 go_wp2
 go_ret
 exact⟨rfl,ah fB.out hb4⟩
theorem vX(q:Int)(s:St)(v u:Sv)(w:World)(hv:Sts w v s)(hu:Sts w u s)(hB:StB s):
  Calls Tryz.prog 14 #[srV q s v,srV q s u] w fun e w'=>e = .returned (.bool true)/\Below w.heap.size w w':=by
 have hE:=fun o o'=>vY s v u ((w.alloc o).alloc o') (hv.below (aA o o')) (hu.below (aA o o')) hB
 have hnn:=dA
 obtain⟨a1,c1,e1⟩:=hv.d.shape
 obtain⟨a2,c2,e2⟩:=hv.n.shape
 obtain⟨a3,c3,e3⟩:=hv.h.shape
 obtain⟨a4,c4,e4⟩:=hv.p.shape
 obtain⟨b1,k1,f1⟩:=hu.d.shape
 obtain⟨b2,k2,f2⟩:=hu.n.shape
 obtain⟨b3,k3,f3⟩:=hu.h.shape
 obtain⟨b4,k4,f4⟩:=hu.p.shape
 obtain⟨ph,cu,d,n,h,p⟩:=s
 obtain⟨vd,vn,vh,vp⟩:=v
 obtain⟨ud,un,uh,up⟩:=u
 dsimp only at *
 subst e1 e2 e3 e4 f1 f2 f3 f4
 unfold stV at hE
 unfold srV
 dsimp only at *
 generalize d.length=dn at *
 generalize n.length=nn at *
 generalize h.length=hn at *
 generalize p.length=pn at *
 clear hv hu hB
 go_enter Tryz.func14,Tryz.ntmps14
 go_wp2_with fail
 refine(hE _ _).mono ?_
 rintro e w1 ⟨rfl,hb1⟩
 clear hE
 go_wp2
 go_ret
 exact⟨rfl,ah (aA _ _) hb1⟩
end U
end Go.Proofs.YtmnfokgllcdiiaaGreat
