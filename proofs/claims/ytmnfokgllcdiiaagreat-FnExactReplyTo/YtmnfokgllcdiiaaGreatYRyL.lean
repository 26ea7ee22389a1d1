/- What the law on ReplyTo calls: replies compared, marked, held. -/
import Derived.Test.YtmnfokgllcdiiaaGreatYRy6
import Derived.Test.YtmnfokgllcdiiaaGreatYRX
import Derived.Test.YtmnfokgllcdiiaaGreatYR1
import Derived.Test.YtmnfokgllcdiiaaGreatYBA
set_option maxRecDepth 100000
set_option maxHeartbeats 4000000
namespace Go.Proofs.YtmnfokgllcdiiaaGreat
open Go.RowKit
namespace U
structure qp(w:World)(ps:List Int)(ws:Prl)(a b:Option Addr)(c d:Nat):Prop where
 p:Ints .i64 w (.slice a ps.length c) ps
 f:Prs w (.slice b ws.length d) ws
theorem qp.below{w w':World}{ps:List Int}{ws:Prl}{a b:Option Addr}{c d:Nat}(h:qp w ps ws a b c d)(hb:Below w.heap.size w w'):qp w' ps ws a b c d:=⟨h.p.below hb,h.f.below hb⟩
theorem bK.rd{lo:Nat}{w:World}{ps:List Int}{ws:Prl}{a b:Option Addr}{c d:Nat}(h:bK lo w ps ws a b c d):qp w ps ws a b c d:=by
 obtain⟨⟨t,h1⟩,h2,-⟩:=h
 exact⟨gZ h1,aP h2⟩
structure kF(lo hi:Nat)(w:World)(ps:List Int)(ws:Prl)(a b:Option Addr)(c d:Nat):Prop where
 r:bK lo w ps ws a b c d
 h:∀y,(Value.slice a ps.length c).ownBlock=some y∨(Value.slice b ws.length d).ownBlock=some y->y<hi
theorem kF.below{lo hi:Nat}{w w':World}{ps:List Int}{ws:Prl}{a b:Option Addr}{c d:Nat}(h:kF lo hi w ps ws a b c d)(hb:Below w.heap.size w w'):kF lo hi w' ps ws a b c d:=⟨h.r.below hb,h.h⟩
theorem vW(cd ep:Int)(held:Bool)(x0:ByteArray)(x1 x2 x3:Int)(so st:Bool)(sv:Int)(tx:Bool)(tk ty:Int)(ps:List Int)(ws:Prl)(a b a' b':Option Addr)(c d c' d':Nat)(w:World)(h:qp w ps ws a b c d)(h':qp w ps ws a' b' c' d')(hx:ps.length<=1000)(hy:ws.length<=1000):
  Calls Tryz.prog 25 #[.agg #[.int .i64 cd,.int .i64 ep,.bool held,.string x0,.int .i64 x1,.int .i64 x2,.int .i64 x3,.bool so,.bool st,.int .i64 sv,.slice a ps.length c,.bool tx,.int .i64 tk,.int .i64 ty,.slice b ws.length d],.agg #[.int .i64 cd,.int .i64 ep,.bool held,.string x0,.int .i64 x1,.int .i64 x2,.int .i64 x3,.bool so,.bool st,.int .i64 sv,.slice a' ps.length c',.bool tx,.int .i64 tk,.int .i64 ty,.slice b' ws.length d']] w fun e w'=>e = .returned (.bool true)/\Below w.heap.size w w':=by
 have hE:=fun o o'=>GX ep held x0 x1 x2 x3 so st sv _ _ ps tx tk ty _ _ ws _ (h.below (aA (w:=w) o o')).p (h'.below (aA o o')).p (h.below (aA o o')).f (h'.below (aA o o')).f (by omega) (by omega)
 unfold rpV at hE
 generalize ps.length=n at *
 generalize ws.length=m at *
 clear h h'
 go_enter Tryz.func25,Tryz.ntmps25
 go_wp2_with fail
 refine(hE _ _).mono ?_
 rintro e w1 ⟨rfl,hb1⟩
 clear hE
 go_wp2
 go_ret
 exact⟨rfl,ah (aA _ _) hb1⟩
theorem qm{p:Prop}(h:p):Hid p:=h
structure MRd(w:World)(k0 n m:Nat)(a b:Option Addr)(c d:Nat):Prop where
 p:Ints .i64 w (.slice a n c) (marks k0 n)
 f:Prs w (.slice b m d) (mkP (k0+n) m)
theorem MRd.below{w w':World}{k0 n m:Nat}{a b:Option Addr}{c d:Nat}(h:MRd w k0 n m a b c d)(hb:Below w.heap.size w w'):MRd w' k0 n m a b c d:=⟨h.p.below hb,h.f.below hb⟩
theorem IG(lo hi k0:Nat)(so st:Bool)(sv:Int)(tx:Bool)(tk ty:Int)(ps:List Int)(ws:Prl)(a b:Option Addr)(c d:Nat)(w:World)(h:kF lo hi w ps ws a b c d)(hx:ps.length<=1000)(hy:ws.length<=1000)(hk:k0<=1048576):
  Calls Tryz.prog 171 #[.agg #[.bool so,.bool st,.int .i64 sv,.slice a ps.length c,.bool tx,.int .i64 tk,.int .i64 ty,.slice b ws.length d],.int .i64 k0] w fun e w'=>e = .returned (.int .i64 ((k0+ps.length+ws.length*2:Nat):Int))/\Tch lo hi w w'/\MRd w' k0 ps.length ws.length a b c d:=by
 obtain⟨⟨⟨t,h1⟩,h2,h3⟩,hh⟩:=h
 have hM:=fun o=>IE lo t _ ps k0 (w.alloc o) (h1.alloc o) (by omega) (by omega)
 have hT:=fun w' (h:w'.ownsRow lo 291 2 (.slice b ws.length d) ws.length ((fl ws).map (Value.int .i64)))=>FK lo tx tk ty _ ws (k0+ps.length) w' h (by omega) (by omega)
 have hkp:∀(o:Obj) w',(w.alloc o).grownBy w' (Value.slice a ps.length c).ownBlock->w'.ownsRow lo 291 2 (.slice b ws.length d) ws.length ((fl ws).map (Value.int .i64)):=fun o w' hg=>lN (h2.alloc o) (fun y hy=>hg.block y (by have:=(gY h2 hy).2;simp;omega) (fun e=>by
  rcases h3 with⟨e1,e2⟩ |⟨e1,e2⟩
  ·subst e1;cases e
  ·subst e1;cases hy))
 have hkq:∀(o:Obj) w' w'',(w.alloc o).grownBy w' (Value.slice a ps.length c).ownBlock->w'.ownsRow lo t 1 (.slice a ps.length c) ps.length ((marks k0 ps.length).map (Value.int .i64))->w'.grownBy w'' (Value.slice b ws.length d).ownBlock->w''.ownsRow lo t 1 (.slice a ps.length c) ps.length ((marks k0 ps.length).map (Value.int .i64)):=fun o w' w'' hg ho hg2=>lN ho (fun y hy=>hg2.block y (gY ho hy).2 (fun e=>by
  rcases h3 with⟨e1,e2⟩ |⟨e1,e2⟩
  ·subst e1;cases hy
  ·subst e1;cases e))
 have htc:∀(o:Obj) w' w'',(w.alloc o).grownBy w' (Value.slice a ps.length c).ownBlock->w'.grownBy w'' (Value.slice b ws.length d).ownBlock->Tch lo hi w w'':=fun o w' w'' hg hg2=>((Tch.of_below (aj o)).trans (Tch.nS hg fun g e=>⟨(gY h1 e).1,hh g (Or.inl e)⟩)).trans (Tch.nS hg2 fun g e=>⟨(gY h2 e).1,hh g (Or.inr e)⟩)
 have hrd:∀w',w'.ownsRow lo t 1 (.slice a ps.length c) ps.length ((marks k0 ps.length).map (Value.int .i64))->w'.ownsRow lo 291 2 (.slice b ws.length d) ws.length ((fl (mkP (k0+ps.length) ws.length)).map (Value.int .i64))->MRd w' k0 ps.length ws.length a b c d:=fun w' g1 g2=>⟨Oi (kN k0 _).symm g1,lM g2⟩
 have hbx:∀(o:Obj) w',(w.alloc o).grownBy w' (Value.slice a ps.length c).ownBlock->w'.heap[w.heap.size]? = some o:=fun o w' hg=>(hg.block w.heap.size (by simp) (fun e=>by have:=(gY h1 e.symm).2;omega)).trans (heap_alloc_new w o)
 have OH:=(qm hkp)
 have XC:=(qm hkq)
 have XQ:=(qm htc)
 have XO:=(qm hrd)
 have Xx:=(qm hbx)
 clear hkp hkq htc hrd hbx h1 h2 h3 hh
 generalize ps.length=n at *
 generalize ws.length=m at *
 go_enter Tryz.func171,Tryz.ntmps171
 go_wp2_with fail
 refine(hM _).mono ?_
 rintro e w1 ⟨rfl,hg,ho⟩
 obtain⟨⟨q0,q1,q2,q3,q4,q5,q6,q7⟩,-⟩:=aK (Xx.out _ _ hg)
 have hT1:=hT w1 (OH.out _ _ hg)
 have HG:=(qm hg)
 have HO:=(qm ho)
 clear hM hT hg ho
 go_wp2_with fail
 refine hT1.mono ?_
 rintro e w2 ⟨rfl,hg2,ho2⟩
 have r1:=XQ.out _ _ _ HG.out hg2
 have r2:=XO.out _ (XC.out _ _ _ HG.out HO.out hg2) ho2
 have HE:Hid (Tch lo hi w w2/\MRd w2 k0 n m a b c d):=⟨r1,r2⟩
 clear hT1 hg2 ho2 r1 r2 OH XC XQ XO Xx HG HO q0 q1 q2 q3 q4 q5 q6 q7
 go_wp2
 go_ret
 exact⟨rfl,HE.out⟩
theorem FH(lo hi k0:Nat)(ep:Int)(held:Bool)(x0:ByteArray)(x1 x2 x3:Int)(so st:Bool)(sv:Int)(tx:Bool)(tk ty:Int)(ps:List Int)(ws:Prl)(a b:Option Addr)(c d:Nat)(w:World)(h:kF lo hi w ps ws a b c d)(hx:ps.length<=1000)(hy:ws.length<=1000)(hk:k0<=1048576):
  Calls Tryz.prog 79 #[.agg #[.int .i64 ep,.bool held,.string x0,.int .i64 x1,.int .i64 x2,.int .i64 x3,.bool so,.bool st,.int .i64 sv,.slice a ps.length c,.bool tx,.int .i64 tk,.int .i64 ty,.slice b ws.length d],.int .i64 k0] w fun e w'=>e = .returned (.int .i64 ((k0+ps.length+ws.length*2:Nat):Int))/\Tch lo hi w w'/\MRd w' k0 ps.length ws.length a b c d:=by
 have hM:=fun o=>IG lo hi k0 so st sv tx tk ty ps ws a b c d (w.alloc o) (h.below (aj o)) hx hy hk
 generalize ps.length=n at *
 generalize ws.length=m at *
 clear h
 go_enter Tryz.func79,Tryz.ntmps79
 go_wp2_with fail
 refine(hM _).mono ?_
 rintro e w1 ⟨rfl,h1,h2⟩
 have HE:Hid (Tch lo hi w w1/\MRd w1 k0 n m a b c d):=⟨(Tch.of_below (aj _)).trans h1,h2⟩
 clear hM h1 h2
 go_wp2
 go_ret
 exact⟨rfl,HE.out⟩
theorem vI(lo hi k0:Nat)(cd:Int)(ep:Int)(held:Bool)(x0:ByteArray)(x1 x2 x3:Int)(so st:Bool)(sv:Int)(tx:Bool)(tk ty:Int)(ps:List Int)(ws:Prl)(a b:Option Addr)(c d:Nat)(w:World)(h:kF lo hi w ps ws a b c d)(hx:ps.length<=1000)(hy:ws.length<=1000)(hk:k0<=1048576):
  Calls Tryz.prog 26 #[.agg #[.int .i64 cd,.int .i64 ep,.bool held,.string x0,.int .i64 x1,.int .i64 x2,.int .i64 x3,.bool so,.bool st,.int .i64 sv,.slice a ps.length c,.bool tx,.int .i64 tk,.int .i64 ty,.slice b ws.length d],.int .i64 k0] w fun e w'=>e = .returned (.int .i64 ((k0+ps.length+ws.length*2:Nat):Int))/\Tch lo hi w w'/\MRd w' k0 ps.length ws.length a b c d:=by
 have hM:=fun o=>FH lo hi k0 ep held x0 x1 x2 x3 so st sv tx tk ty ps ws a b c d (w.alloc o) (h.below (aj o)) hx hy hk
 generalize ps.length=n at *
 generalize ws.length=m at *
 clear h
 go_enter Tryz.func26,Tryz.ntmps26
 go_wp2_with fail
 refine(hM _).mono ?_
 rintro e w1 ⟨rfl,h1,h2⟩
 have HE:Hid (Tch lo hi w w1/\MRd w1 k0 n m a b c d):=⟨(Tch.of_below (aj _)).trans h1,h2⟩
 clear hM h1 h2
 go_wp2
 go_ret
 exact⟨rfl,HE.out⟩
theorem Hr(k0 n m:Nat)(so st:Bool)(sv:Int)(tx:Bool)(tk ty:Int)(a b:Option Addr)(c d:Nat)(w:World)(h:MRd w k0 n m a b c d)(hx:n<=1000)(hy:m<=1000)(hk:k0<=1048576):
  Calls Tryz.prog 172 #[.agg #[.bool so,.bool st,.int .i64 sv,.slice a n c,.bool tx,.int .i64 tk,.int .i64 ty,.slice b m d],.int .i64 k0] w fun e w'=>e = .returned (.int .i64 ((k0+n+m*2:Nat):Int))/\Below w.heap.size w w':=by
 have hI:=fun w' (h:MRd w' k0 n m a b c d)=>Dy _ n k0 w' h.p (by omega) (by omega)
 have hT:=fun w' (h:MRd w' k0 n m a b c d)=>Fe tx tk ty _ m (k0+n) w' h.f (by omega) (by omega)
 have h0:=fun o=>h.below (aj (w:=w) o)
 have hn1:¬((k0+n:Nat):Int)<0:=by omega
 have hn2:¬((k0+n+m*2:Nat):Int)<0:=by omega
 have HR:Hid (∀o,MRd (w.alloc o) k0 n m a b c d):=h0
 clear h h0
 generalize ((k0+n:Nat):Int)=z1 at *
 generalize ((k0+n+m*2:Nat):Int)=z2 at *
 go_enter Tryz.func172,Tryz.ntmps172
 go_wp2_with fail
 refine(hI _ (HR.out _)).mono ?_
 rintro e w1 ⟨rfl,rfl⟩
 clear hI
 go_wp2_with fail
 refine(hT _ (HR.out _)).mono ?_
 rintro e w2 ⟨rfl,hb2⟩
 clear hT
 go_wp2
 go_ret
 exact⟨rfl,ah (aj _) hb2⟩
theorem E8(k0 n m:Nat)(ep:Int)(held:Bool)(x0:ByteArray)(x1 x2 x3:Int)(so st:Bool)(sv:Int)(tx:Bool)(tk ty:Int)(a b:Option Addr)(c d:Nat)(w:World)(h:MRd w k0 n m a b c d)(hx:n<=1000)(hy:m<=1000)(hk:k0<=1048576):
  Calls Tryz.prog 80 #[.agg #[.int .i64 ep,.bool held,.string x0,.int .i64 x1,.int .i64 x2,.int .i64 x3,.bool so,.bool st,.int .i64 sv,.slice a n c,.bool tx,.int .i64 tk,.int .i64 ty,.slice b m d],.int .i64 k0] w fun e w'=>e = .returned (.int .i64 ((k0+n+m*2:Nat):Int))/\Below w.heap.size w w':=by
 have hH:=fun o=>Hr k0 n m so st sv tx tk ty a b c d (w.alloc o) (h.below (aj o)) hx hy hk
 have hn2:¬((k0+n+m*2:Nat):Int)<0:=by omega
 generalize ((k0+n+m*2:Nat):Int)=z2 at *
 clear h
 go_enter Tryz.func80,Tryz.ntmps80
 go_wp2_with fail
 refine(hH _).mono ?_
 rintro e w1 ⟨rfl,hb1⟩
 clear hH
 go_wp2
 go_ret
 exact⟨rfl,ah (aj _) hb1⟩
theorem vF(k0 n m:Nat)(cd:Int)(ep:Int)(held:Bool)(x0:ByteArray)(x1 x2 x3:Int)(so st:Bool)(sv:Int)(tx:Bool)(tk ty:Int)(a b:Option Addr)(c d:Nat)(w:World)(h:MRd w k0 n m a b c d)(hx:n<=1000)(hy:m<=1000)(hk:k0<=1048576):
  Calls Tryz.prog 27 #[.agg #[.int .i64 cd,.int .i64 ep,.bool held,.string x0,.int .i64 x1,.int .i64 x2,.int .i64 x3,.bool so,.bool st,.int .i64 sv,.slice a n c,.bool tx,.int .i64 tk,.int .i64 ty,.slice b m d],.int .i64 k0] w fun e w'=>e = .returned (.int .i64 ((k0+n+m*2:Nat):Int))/\Below w.heap.size w w':=by
 have hH:=fun o=>E8 k0 n m ep held x0 x1 x2 x3 so st sv tx tk ty a b c d (w.alloc o) (h.below (aj o)) hx hy hk
 have hn2:¬((k0+n+m*2:Nat):Int)<0:=by omega
 generalize ((k0+n+m*2:Nat):Int)=z2 at *
 clear h
 go_enter Tryz.func27,Tryz.ntmps27
 go_wp2_with fail
 refine(hH _).mono ?_
 rintro e w1 ⟨rfl,hb1⟩
 clear hH
 go_wp2
 go_ret
 exact⟨rfl,ah (aj _) hb1⟩
end U
end Go.Proofs.YtmnfokgllcdiiaaGreat
