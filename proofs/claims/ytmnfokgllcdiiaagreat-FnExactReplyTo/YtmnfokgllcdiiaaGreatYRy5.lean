/- A reply of a state, by the model. -/
import Derived.Test.YtmnfokgllcdiiaaGreatYZz
import Derived.Deep.Cut
import Derived.Test.YtmnfokgllcdiiaaGreatYRy4
import Derived.Test.YtmnfokgllcdiiaaGreatYR6
import Derived.Test.YtmnfokgllcdiiaaGreatYSt6
import Derived.Test.YtmnfokgllcdiiaaGreatYBA
set_option maxRecDepth 100000
set_option maxHeartbeats 8000000
namespace Go.Proofs.YtmnfokgllcdiiaaGreat
open Go.RowKit
namespace U
theorem Kq{w:World}{g k:Nat}(hk:k≠g)(x0 x1 x2 x3 x4 x5 x6 x7 x8 x9 x10 x11 x12 kD x14:Value):(((((((((((((((w.setCell ⟨g,0,none⟩ x0).setCell ⟨g,1,none⟩ x1).setCell ⟨g,2,none⟩ x2).setCell ⟨g,3,none⟩ x3).setCell ⟨g,4,none⟩ x4).setCell ⟨g,5,none⟩ x5).setCell ⟨g,6,none⟩ x6).setCell ⟨g,7,none⟩ x7).setCell ⟨g,8,none⟩ x8).setCell ⟨g,9,none⟩ x9).setCell ⟨g,10,none⟩ x10).setCell ⟨g,11,none⟩ x11).setCell ⟨g,12,none⟩ x12).setCell ⟨g,13,none⟩ kD).setCell ⟨g,14,none⟩ x14).heap[k]? = w.heap[k]?:=by
 rw[heap_setCell_other _ ⟨g,14,none⟩ k _ hk,heap_setCell_other _ ⟨g,13,none⟩ k _ hk,heap_setCell_other _ ⟨g,12,none⟩ k _ hk,heap_setCell_other _ ⟨g,11,none⟩ k _ hk,heap_setCell_other _ ⟨g,10,none⟩ k _ hk,heap_setCell_other _ ⟨g,9,none⟩ k _ hk,heap_setCell_other _ ⟨g,8,none⟩ k _ hk,heap_setCell_other _ ⟨g,7,none⟩ k _ hk,heap_setCell_other _ ⟨g,6,none⟩ k _ hk,heap_setCell_other _ ⟨g,5,none⟩ k _ hk,heap_setCell_other _ ⟨g,4,none⟩ k _ hk,heap_setCell_other _ ⟨g,3,none⟩ k _ hk,heap_setCell_other _ ⟨g,2,none⟩ k _ hk,heap_setCell_other _ ⟨g,1,none⟩ k _ hk,heap_setCell_other _ ⟨g,0,none⟩ k _ hk]
theorem JZ{w0 w:World}{g:Nat}(hb:Below w0.heap.size w0 w)(hg:w0.heap.size<=g)(x0 x1 x2 x3 x4 x5 x6 x7 x8 x9 x10 x11 x12 kD x14:Value):Below w0.heap.size w0 (((((((((((((((w.setCell ⟨g,0,none⟩ x0).setCell ⟨g,1,none⟩ x1).setCell ⟨g,2,none⟩ x2).setCell ⟨g,3,none⟩ x3).setCell ⟨g,4,none⟩ x4).setCell ⟨g,5,none⟩ x5).setCell ⟨g,6,none⟩ x6).setCell ⟨g,7,none⟩ x7).setCell ⟨g,8,none⟩ x8).setCell ⟨g,9,none⟩ x9).setCell ⟨g,10,none⟩ x10).setCell ⟨g,11,none⟩ x11).setCell ⟨g,12,none⟩ x12).setCell ⟨g,13,none⟩ kD).setCell ⟨g,14,none⟩ x14):=
 (((((((((((((((hb.setCell hg _).setCell hg _).setCell hg _).setCell hg _).setCell hg _).setCell hg _).setCell hg _).setCell hg _).setCell hg _).setCell hg _).setCell hg _).setCell hg _).setCell hg _).setCell hg _).setCell hg _)
structure Sbx(w0 w:World)(o:Obj):Prop where
 b:Below w0.heap.size w0 w
 h:w.heap[w0.heap.size]? = some o
theorem Sbx.below{w0 w w':World}{o:Obj}(h:Sbx w0 w o)(hb:Below w.heap.size w w'):Sbx w0 w' o:=⟨ah h.b hb,(hb.block _ (Array.getElem?_eq_some_iff.1 h.h).1).trans h.h⟩
theorem Sbx.put{w0 w:World}{g:Nat}{o:Obj}(h:Sbx w0 w o)(hg:w0.heap.size<g)(x0 x1 x2 x3 x4 x5 x6 x7 x8 x9 x10 x11 x12 kD x14:Value):Sbx w0 (((((((((((((((w.setCell ⟨g,0,none⟩ x0).setCell ⟨g,1,none⟩ x1).setCell ⟨g,2,none⟩ x2).setCell ⟨g,3,none⟩ x3).setCell ⟨g,4,none⟩ x4).setCell ⟨g,5,none⟩ x5).setCell ⟨g,6,none⟩ x6).setCell ⟨g,7,none⟩ x7).setCell ⟨g,8,none⟩ x8).setCell ⟨g,9,none⟩ x9).setCell ⟨g,10,none⟩ x10).setCell ⟨g,11,none⟩ x11).setCell ⟨g,12,none⟩ x12).setCell ⟨g,13,none⟩ kD).setCell ⟨g,14,none⟩ x14) o:=
 ⟨JZ h.b (Nat.le_of_lt hg) _ _ _ _ _ _ _ _ _ _ _ _ _ _ _ ,(Kq (Nat.ne_of_lt hg) _ _ _ _ _ _ _ _ _ _ _ _ _ _ _).trans h.h⟩
theorem CQ{w:World}{g:Nat}{x0 x1 x2 x3 x4 x5:Value}{t:TypeId}(h:w.heap[g]? = some (.cells #[x0,x1,x2,x3,x4,x5] t)):w.cell? ⟨g,5,none⟩=some x5:=by simp[World.cell?,h]
theorem kM(R:Rt)(hR:gJ R)(g:Nat)(s:St)(v:Sv)(ep:Int)(t:ByteArray)(w:World)(hs:StC w g s v)(hv:Sts w v s)(hB:StB s)(ht:t.size<=1048576):
  Calls Tryz.prog 69 #[.pointer (some ⟨g,0,none⟩),.int .i64 ep,.string t] w fun e w'=>e = .returned (.int .i64 (if epC R s ep=0 then aH t else epC R s ep))/\Below w.heap.size w w':=by
 have hF:=Ib R hR g s v w hs hv hB
 have hL:=fun w=>yU t w ht
 by_cases h0:stF R s=0
 ·rw[h0]at hF
  have hI:=fun w=>bY ep 1 (s.h.length:Int) w
  have HC:Hid (∀w',Below w.heap.size w w'->w'.cell? ⟨g,4,none⟩=some v.h):=fun w' hb=>(hs.below hb hs.lt).c4
  obtain⟨a,c,e3⟩:=hv.h.shape
  rw[e3]at HC
  rcases Bool.eq_false_or_eq_true (inB ep 1 (s.h.length:Int))with h2 | h2
  ·rw[mW h0 h2,if_pos rfl]
   rw[h2]at hI
   generalize aH t=q at *
   generalize s.h.length=n at *
   clear hs hv hB h0 h2 e3 hR
   go_enter Tryz.func69,Tryz.ntmps69
   go_wp2_with fail
   refine hF.mono ?_
   rintro z w1 ⟨rfl,hb1⟩
   have k4:=HC.out _ hb1
   clear hF
   go_wp2_with fail
   refine(hI _).mono ?_
   rintro z w2 ⟨rfl,rfl⟩
   clear hI
   go_wp2_with fail
   refine(hL _).mono ?_
   rintro z w3 ⟨rfl,hb3⟩
   have hb:=ah hb1 hb3
   clear hL hb1 hb3 HC
   go_wp2
   go_ret
   exact⟨rfl,hb⟩
  ·rw[GL h0 h2,if_neg (by decide)]
   rw[h2]at hI
   generalize s.h.length=n at *
   clear hs hv hB h0 h2 e3 hR hL
   go_enter Tryz.func69,Tryz.ntmps69
   go_wp2_with fail
   refine hF.mono ?_
   rintro z w1 ⟨rfl,hb1⟩
   have k4:=HC.out _ hb1
   clear hF
   go_wp2_with fail
   refine(hI _).mono ?_
   rintro z w2 ⟨rfl,rfl⟩
   clear hI HC
   go_wp2
   go_ret
   exact⟨rfl,hb1⟩
 ·rw[Lm h0,if_neg h0]
  have hq:=jR h0
  generalize stF R s=q at *
  clear hs hv hB h0 hR hL
  go_enter Tryz.func69,Tryz.ntmps69
  go_wp2_with fail
  refine hF.mono ?_
  rintro z w1 ⟨rfl,hb1⟩
  clear hF
  go_wp2
  go_ret
  exact⟨rfl,hb1⟩
theorem Ov(R:Rt)(hR:gJ R)(s:St)(v:Sv)(ep:Int)(t:ByteArray)(old:Bool)(w:World)(hv:Sts w v s)(hB:StB s)(ht:t.size<=1048576)(h:¬(if epC R s ep=0 then aH t else epC R s ep)=0):
  Calls Tryz.prog 23 #[stV s v,.int .i64 ep,.string t,.bool old] w fun e w'=>kS w (if epC R s ep=0 then aH t else epC R s ep) 0 false ⟨#[]⟩ 0 0 0 false 0 [] false 0 0 [] e w':=by
 obtain⟨W,hW⟩:∃W,W=(w.alloc (stC s v 41)).alloc (.cells #[.int .i64 0,.int .i64 0,.bool false,.string ⟨#[]⟩,.int .i64 0,.int .i64 0,.int .i64 0,.bool false,.bool false,.int .i64 0,.slice none 0 0,.bool false,.int .i64 0,.int .i64 0,.slice none 0 0] 72):=⟨_,rfl⟩
 have hB0:Below w.heap.size w W:=by rw[hW];exact aA _ _
 have hS0:StC W w.heap.size s v:=by rw[hW];exact(StC.new w s v _).below (aj _) (by simp)
 have hA0:W.heap[w.heap.size+1]? = some (.cells #[.int .i64 0,.int .i64 0,.bool false,.string ⟨#[]⟩,.int .i64 0,.int .i64 0,.int .i64 0,.bool false,.bool false,.int .i64 0,.slice none 0 0,.bool false,.int .i64 0,.int .i64 0,.slice none 0 0] 72):=by rw[hW];exact aU w _ _
 have hX0:W.heap[w.heap.size]? = some (stC s v 41):=by rw[hW];exact heap_alloc_old' _ _ _ (heap_alloc_new w _)
 have hv1:=hv.below hB0
 have hF:=kM R hR w.heap.size s v ep t W hS0 hv1 hB ht
 have HA:Hid (∀w',Below W.heap.size W w'->w'.heap[w.heap.size+1]? = some (.cells #[.int .i64 0,.int .i64 0,.bool false,.string ⟨#[]⟩,.int .i64 0,.int .i64 0,.int .i64 0,.bool false,.bool false,.int .i64 0,.slice none 0 0,.bool false,.int .i64 0,.int .i64 0,.slice none 0 0] 72)):=fun w' hb=>(hb.block _ (Array.getElem?_eq_some_iff.1 hA0).1).trans hA0
 have jP:Hid (w.heap.size+1<W.heap.size):=(Array.getElem?_eq_some_iff.1 hA0).1
 have hq:=jR h
 generalize (if epC R s ep=0 then aH t else epC R s ep)=q at *
 obtain⟨a1,a2,a3,a4,c1,c2,c3,c4,rfl⟩:=hv.four
 unfold stC sv at hW hX0
 unfold stV sv
 dsimp only at hW hX0 ⊢
 have HX:Hid (∀w',Below W.heap.size W w'->w'.cell? ⟨w.heap.size,0,none⟩=some (.int .i64 s.ph)/\w'.cell? ⟨w.heap.size,1,none⟩=some (.int .i64 s.cu)/\w'.cell? ⟨w.heap.size,2,none⟩=some (.slice a1 s.d.length c1)/\w'.cell? ⟨w.heap.size,3,none⟩=some (.slice a2 s.n.length c2)/\w'.cell? ⟨w.heap.size,4,none⟩=some (.slice a3 s.h.length c3)/\w'.cell? ⟨w.heap.size,5,none⟩=some (.slice a4 s.p.length c4)):=fun w' hb=>by
  have h:=hS0.below hb hS0.lt
  exact⟨h.c0,h.c1,h.c2,h.c3,h.c4,h.c5⟩
 generalize s.ph=ph at *
 generalize s.cu=cu at *
 generalize s.d.length=n1 at *
 generalize s.n.length=n2 at *
 generalize s.h.length=n3 at *
 generalize s.p.length=n4 at *
 have HW:Hid (_=W):=hW.symm
 have HB0:Hid (Below w.heap.size w W):=hB0
 clear hv hv1 hB hW hA0 hS0 ht h hB0 hX0
 go_enter Tryz.func23,Tryz.ntmps23
 go_wp2_with fail
 rw[HW.out]
 refine hF.mono ?_
 rintro z w3 ⟨rfl,hb3⟩
 clear hF
 have h15:=fifteen (HA.out _ hb3)
 obtain⟨⟨k0,k1,k2,k3,k4,k5,k6,k7,k8,k9,k10,k11,k12,k13,k14⟩,g0,g1,g2,g3,g4,g5,g6,g7,g8,g9,g10,g11,g12,g13,g14⟩:=h15
 have jc:Hid (Below w.heap.size w w3):=ah HB0.out hb3
 have au:Hid (w.heap.size<=w.heap.size+1):=Nat.le_succ _
 clear HA HX HW hb3 HB0 jP
 go_wp2
 refine bodyPost_ret (v:= .agg #[.int .i64 q,.int .i64 0,.bool false,.string ⟨#[]⟩,.int .i64 0,.int .i64 0,.int .i64 0,.bool false,.bool false,.int .i64 0,.slice none 0 0,.bool false,.int .i64 0,.int .i64 0,.slice none 0 0]) (by simp[results,Tryz.results23,go_sem,k0,k1,k2,k3,k4,k5,k6,k7,k8,k9,k10,k11,k12,k13,k14]) rfl ⟨none,none,0,0,rfl, ?_,lQ _ _⟩
 exact(((((((((((((((jc.out.setCell au.out _).setCell au.out _).setCell au.out _).setCell au.out _).setCell au.out _).setCell au.out _).setCell au.out _).setCell au.out _).setCell au.out _).setCell au.out _).setCell au.out _).setCell au.out _).setCell au.out _).setCell au.out _).setCell au.out _)
theorem AP(R:Rt)(hR:gJ R)(s:St)(v:Sv)(ep:Int)(t:ByteArray)(w:World)(hv:Sts w v s)(hB:StB s)(ht:t.size<=1048576)(k:Nat)(hk:k<s.p.length)(qJ:ep=(k:Int)+1)(h0:stF R s=0)(hlb:aH t=0)(hrt:oC true (hAt s.h k).p=false):
  Calls Tryz.prog 23 #[stV s v,.int .i64 ep,.string t,.bool true] w fun e w'=>kS w 10 0 false ⟨#[]⟩ 0 0 0 false 0 [] false 0 0 [] e w':=by
 have hst:=uT h0
 have hlen:=hst.same
 have lJ:=hst.ten
 have hw2:wrap64 (k:Int)=(k:Int):=by simp only[wrap64];omega
 have hk0:¬((k:Int)<0):=by omega
 have hk1:(k:Int)<(s.h.length:Int):=by omega
 have hk2:(k:Int)<(s.p.length:Int):=by omega
 have hsub:(k:Int)+1 - 1=(k:Int):=by omega
 obtain⟨W,hW⟩:∃W,W=(w.alloc (stC s v 41)).alloc (.cells #[.int .i64 0,.int .i64 0,.bool false,.string ⟨#[]⟩,.int .i64 0,.int .i64 0,.int .i64 0,.bool false,.bool false,.int .i64 0,.slice none 0 0,.bool false,.int .i64 0,.int .i64 0,.slice none 0 0] 72):=⟨_,rfl⟩
 have hB0:Below w.heap.size w W:=by rw[hW];exact aA _ _
 have hS0:StC W w.heap.size s v:=by rw[hW];exact(StC.new w s v _).below (aj _) (by simp)
 have hA0:W.heap[w.heap.size+1]? = some (.cells #[.int .i64 0,.int .i64 0,.bool false,.string ⟨#[]⟩,.int .i64 0,.int .i64 0,.int .i64 0,.bool false,.bool false,.int .i64 0,.slice none 0 0,.bool false,.int .i64 0,.int .i64 0,.slice none 0 0] 72):=by rw[hW];exact aU w _ _
 have hX0:W.heap[w.heap.size]? = some (stC s v 41):=by rw[hW];exact heap_alloc_old' _ _ _ (heap_alloc_new w _)
 have hv1:=hv.below hB0
 have hF:=kM R hR w.heap.size s v ep t W hS0 hv1 hB ht
 have HA:Hid (∀w',Below W.heap.size W w'->w'.heap[w.heap.size+1]? = some (.cells #[.int .i64 0,.int .i64 0,.bool false,.string ⟨#[]⟩,.int .i64 0,.int .i64 0,.int .i64 0,.bool false,.bool false,.int .i64 0,.slice none 0 0,.bool false,.int .i64 0,.int .i64 0,.slice none 0 0] 72)):=fun w' hb=>(hb.block _ (Array.getElem?_eq_some_iff.1 hA0).1).trans hA0
 have jP:Hid (w.heap.size+1<W.heap.size):=(Array.getElem?_eq_some_iff.1 hA0).1
 have e0:epC R s ep=0:=mW h0 (by unfold inB;simp;omega)
 rw[e0,if_pos rfl,hlb]at hF
 have fM:=hv1.h
 obtain⟨a1,a2,a3,a4,c1,c2,c3,c4,rfl⟩:=hv.four
 unfold stC sv at hW hX0
 unfold stV sv
 dsimp only at hW hX0 ⊢
 have HX:Hid (∀w',Below W.heap.size W w'->w'.cell? ⟨w.heap.size,0,none⟩=some (.int .i64 s.ph)/\w'.cell? ⟨w.heap.size,1,none⟩=some (.int .i64 s.cu)/\w'.cell? ⟨w.heap.size,2,none⟩=some (.slice a1 s.d.length c1)/\w'.cell? ⟨w.heap.size,3,none⟩=some (.slice a2 s.n.length c2)/\w'.cell? ⟨w.heap.size,4,none⟩=some (.slice a3 s.h.length c3)/\w'.cell? ⟨w.heap.size,5,none⟩=some (.slice a4 s.p.length c4)):=fun w' hb=>by
  have h:=hS0.below hb hS0.lt
  exact⟨h.c0,h.c1,h.c2,h.c3,h.c4,h.c5⟩
 unfold sv at fM
 dsimp only at fM
 obtain⟨-,hb,hoff,rfl,hbl,hcs⟩:=fM.at (by omega)
 have hck:=hcs k (by omega)
 have mP:Hid (∀w',Below W.heap.size W w'->Calls Tryz.prog 70 #[.pointer (some ⟨hb,hoff+k*5,none⟩),.bool true] w' fun x w''=>x = .returned (.tuple #[.int .i64 (pW true (hAt s.h k).o (hAt s.h k).n),.bool (oC true (hAt s.h k).p)])/\Below w'.heap.size w' w''):=fun w' h=>ou hb (hoff+k*5) true _ _ _ _ _ w' (hck.below h hbl)
 rw[hrt]at mP
 generalize pW true (hAt s.h k).o (hAt s.h k).n=rv at *
 generalize s.ph=ph at *
 generalize s.cu=cu at *
 generalize s.d.length=n1 at *
 generalize s.n.length=n2 at *
 generalize s.h.length=n3 at *
 generalize s.p.length=n4 at *
 have HW:Hid (_=W):=hW.symm
 have HB0:Hid (Below w.heap.size w W):=hB0
 subst qJ
 clear hv hv1 hB hW hA0 hS0 ht h0 hB0 hst e0 fM hcs hck hlen hlb hrt lJ hX0
 go_enter Tryz.func23,Tryz.ntmps23
 go_wp2_with fail
 rw[HW.out]
 refine hF.mono ?_
 rintro z w3 ⟨rfl,hb3⟩
 clear hF
 obtain⟨m0,m1,m2,m3,m4,m5⟩:=HX.out _ hb3
 go_wp2_with fail
 refine(mP.out _ hb3).mono ?_
 rintro z w4 ⟨rfl,hb4⟩
 have hb5:=ah hb3 hb4
 clear mP m0 m1 m2 m3 m4 m5 hb3 hb4
 have h15:=fifteen (HA.out _ hb5)
 obtain⟨⟨k0,k1,k2,k3,k4,k5,k6,k7,k8,k9,k10,k11,k12,k13,k14⟩,g0,g1,g2,g3,g4,g5,g6,g7,g8,g9,g10,g11,g12,g13,g14⟩:=h15
 have jc:Hid (Below w.heap.size w w4):=ah HB0.out hb5
 have au:Hid (w.heap.size<=w.heap.size+1):=Nat.le_succ _
 clear HA HX HW hb5 HB0 jP
 go_wp2
 refine bodyPost_ret (v:= .agg #[.int .i64 10,.int .i64 0,.bool false,.string ⟨#[]⟩,.int .i64 0,.int .i64 0,.int .i64 0,.bool false,.bool false,.int .i64 0,.slice none 0 0,.bool false,.int .i64 0,.int .i64 0,.slice none 0 0]) (by simp[results,Tryz.results23,go_sem,k0,k1,k2,k3,k4,k5,k6,k7,k8,k9,k10,k11,k12,k13,k14]) rfl ⟨none,none,0,0,rfl, ?_,lQ _ _⟩
 exact(((((((((((((((jc.out.setCell au.out _).setCell au.out _).setCell au.out _).setCell au.out _).setCell au.out _).setCell au.out _).setCell au.out _).setCell au.out _).setCell au.out _).setCell au.out _).setCell au.out _).setCell au.out _).setCell au.out _).setCell au.out _).setCell au.out _)
theorem DX(R:Rt)(hR:gJ R)(s:St)(v:Sv)(ep:Int)(t:ByteArray)(w:World)(hv:Sts w v s)(hB:StB s)(ht:t.size<=1048576)(k:Nat)(hk:k<s.p.length)(qJ:ep=(k:Int)+1)(h0:stF R s=0)(hlb:aH t=0)(hrt:oC true (hAt s.h k).p=true)(pb dN pc:Nat)(hpv:v.p = .slice (some ⟨pb,dN,none⟩) s.p.length pc)(held tx:Bool)(x0:ByteArray)(x1 x2 x3 val tk ty:Int)(ps:List Int)(ws:Prl)(ql:∀w',Below w.heap.size w w'->Calls Tryz.prog 71 #[.pointer (some ⟨pb,dN+k,none⟩),.int .i64 ((k:Int)+1),.int .i64 (dY t),.bool true] w' fun e w''=>fZ w' ((k:Int)+1) held x0 x1 x2 x3 true val ps tx tk ty ws e w''):
  Calls Tryz.prog 23 #[stV s v,.int .i64 ep,.string t,.bool true] w fun e w'=>kS w 0 ((k:Int)+1) held x0 x1 x2 x3 true val ps tx tk ty ws e w':=by
 have hst:=uT h0
 have hlen:=hst.same
 have lJ:=hst.ten
 have hw2:wrap64 (k:Int)=(k:Int):=by simp only[wrap64];omega
 have hk0:¬((k:Int)<0):=by omega
 have hk1:(k:Int)<(s.h.length:Int):=by omega
 have hk2:(k:Int)<(s.p.length:Int):=by omega
 have hsub:(k:Int)+1 - 1=(k:Int):=by omega
 obtain⟨W,hW⟩:∃W,W=(w.alloc (stC s v 41)).alloc (.cells #[.int .i64 0,.int .i64 0,.bool false,.string ⟨#[]⟩,.int .i64 0,.int .i64 0,.int .i64 0,.bool false,.bool false,.int .i64 0,.slice none 0 0,.bool false,.int .i64 0,.int .i64 0,.slice none 0 0] 72):=⟨_,rfl⟩
 have hB0:Below w.heap.size w W:=by rw[hW];exact aA _ _
 have hS0:StC W w.heap.size s v:=by rw[hW];exact(StC.new w s v _).below (aj _) (by simp)
 have hA0:W.heap[w.heap.size+1]? = some (.cells #[.int .i64 0,.int .i64 0,.bool false,.string ⟨#[]⟩,.int .i64 0,.int .i64 0,.int .i64 0,.bool false,.bool false,.int .i64 0,.slice none 0 0,.bool false,.int .i64 0,.int .i64 0,.slice none 0 0] 72):=by rw[hW];exact aU w _ _
 have hX0:W.heap[w.heap.size]? = some (stC s v 41):=by rw[hW];exact heap_alloc_old' _ _ _ (heap_alloc_new w _)
 have hv1:=hv.below hB0
 have hF:=kM R hR w.heap.size s v ep t W hS0 hv1 hB ht
 have HA:Hid (∀w',Below W.heap.size W w'->w'.heap[w.heap.size+1]? = some (.cells #[.int .i64 0,.int .i64 0,.bool false,.string ⟨#[]⟩,.int .i64 0,.int .i64 0,.int .i64 0,.bool false,.bool false,.int .i64 0,.slice none 0 0,.bool false,.int .i64 0,.int .i64 0,.slice none 0 0] 72)):=fun w' hb=>(hb.block _ (Array.getElem?_eq_some_iff.1 hA0).1).trans hA0
 have jP:Hid (w.heap.size+1<W.heap.size):=(Array.getElem?_eq_some_iff.1 hA0).1
 have e0:epC R s ep=0:=mW h0 (by unfold inB;simp;omega)
 rw[e0,if_pos rfl,hlb]at hF
 have fM:=hv1.h
 have gV:=fun w=>lW t w (iT hlb)
 have sK:Hid (∀w',Below w.heap.size w w'->Calls Tryz.prog 71 #[.pointer (some ⟨pb,dN+k,none⟩),.int .i64 ((k:Int)+1),.int .i64 (dY t),.bool true] w' fun e w''=>fZ w' ((k:Int)+1) held x0 x1 x2 x3 true val ps tx tk ty ws e w''):=ql
 generalize dY t=key at *
 obtain⟨a1,a2,a3,a4,c1,c2,c3,c4,rfl⟩:=hv.four
 unfold stC sv at hW hX0
 unfold stV sv
 dsimp only at hW hX0 ⊢
 have HX:Hid (∀w',Below W.heap.size W w'->w'.cell? ⟨w.heap.size,0,none⟩=some (.int .i64 s.ph)/\w'.cell? ⟨w.heap.size,1,none⟩=some (.int .i64 s.cu)/\w'.cell? ⟨w.heap.size,2,none⟩=some (.slice a1 s.d.length c1)/\w'.cell? ⟨w.heap.size,3,none⟩=some (.slice a2 s.n.length c2)/\w'.cell? ⟨w.heap.size,4,none⟩=some (.slice a3 s.h.length c3)/\w'.cell? ⟨w.heap.size,5,none⟩=some (.slice a4 s.p.length c4)):=fun w' hb=>by
  have h:=hS0.below hb hS0.lt
  exact⟨h.c0,h.c1,h.c2,h.c3,h.c4,h.c5⟩
 unfold sv at fM
 dsimp only at fM
 obtain⟨-,hb,hoff,rfl,hbl,hcs⟩:=fM.at (by omega)
 have hck:=hcs k (by omega)
 unfold sv at hpv
 dsimp only at hpv
 cases hpv
 have mP:Hid (∀w',Below W.heap.size W w'->Calls Tryz.prog 70 #[.pointer (some ⟨hb,hoff+k*5,none⟩),.bool true] w' fun x w''=>x = .returned (.tuple #[.int .i64 (pW true (hAt s.h k).o (hAt s.h k).n),.bool (oC true (hAt s.h k).p)])/\Below w'.heap.size w' w''):=fun w' h=>ou hb (hoff+k*5) true _ _ _ _ _ w' (hck.below h hbl)
 rw[hrt]at mP
 generalize pW true (hAt s.h k).o (hAt s.h k).n=rv at *
 generalize s.ph=ph at *
 generalize s.cu=cu at *
 generalize s.d.length=n1 at *
 generalize s.n.length=n2 at *
 generalize s.h.length=n3 at *
 generalize s.p.length=n4 at *
 have HW:Hid (_=W):=hW.symm
 have HB0:Hid (Below w.heap.size w W):=hB0
 subst qJ
 clear hv hv1 hB hW hA0 hS0 ht h0 hB0 hst e0 fM hcs hck hlen hlb hrt lJ ql
 go_enter Tryz.func23,Tryz.ntmps23
 go_wp2_with fail
 rw[HW.out]
 refine hF.mono ?_
 rintro z w3 ⟨rfl,hb3⟩
 clear hF
 obtain⟨m0,m1,m2,m3,m4,m5⟩:=HX.out _ hb3
 go_wp2_with fail
 refine(mP.out _ hb3).mono ?_
 rintro z w4 ⟨rfl,hb4⟩
 have hb5:=ah hb3 hb4
 clear mP m0 m1 m2 m3 m4 m5 hb3 hb4
 have hS:Sbx w w4.drew (.cells #[.int .i64 ph,.int .i64 cu,.slice a1 n1 c1,.slice a2 n2 c2,.slice (some ⟨hb,hoff,none⟩) n3 c3,.slice (some ⟨pb,dN,none⟩) n4 pc] 41):=⟨ah HB0.out hb5.drew,(hb5.drew.block _ (Nat.lt_trans (Nat.lt_succ_self _) jP.out)).trans hX0⟩
 have OI:Hid (w.heap.size+1<w4.drew.heap.size):=Nat.lt_of_lt_of_le jP.out hb5.drew.size
 have dB:Hid (w4.drew.heap[w.heap.size+1]? = some (.cells #[.int .i64 0,.int .i64 0,.bool false,.string ⟨#[]⟩,.int .i64 0,.int .i64 0,.int .i64 0,.bool false,.bool false,.int .i64 0,.slice none 0 0,.bool false,.int .i64 0,.int .i64 0,.slice none 0 0] 72)):=HA.out _ hb5.drew
 have hw3:IntKind.i64.wrap (k:Int)=(k:Int):=by rw[IntKind.wrap_i64];simp only[wrap64]at hw2;omega
 have p5:∀w',Sbx w w' (.cells #[.int .i64 ph,.int .i64 cu,.slice a1 n1 c1,.slice a2 n2 c2,.slice (some ⟨hb,hoff,none⟩) n3 c3,.slice (some ⟨pb,dN,none⟩) n4 pc] 41)->w'.cell? ⟨w.heap.size,5,none⟩=some (.slice (some ⟨pb,dN,none⟩) n4 pc):=fun w' h=>CQ h.h
 clear HX HA HW hb5 HB0 jP hX0
 go_wp2_with fail
 clear hw2
 refine wp_region_held_drew (S:=fun w'=>Sbx w w' (.cells #[.int .i64 ph,.int .i64 cu,.slice a1 n1 c1,.slice a2 n2 c2,.slice (some ⟨hb,hoff,none⟩) n3 c3,.slice (some ⟨pb,dN,none⟩) n4 pc] 41)) (by kernel_rfl) hS (fun hHeld=> ?_)
 generalize w4.drew=V at *
 refine aF (i:=0) (d:=some 32) (v:= ?WR) (by rfl) (by kernel_rfl) (by kernel_rfl) (by kernel_rfl) (fun _ _ _ h=>h) (by rfl) ?zO hHeld ?Ji
 case zO=>
  intro o ho
  simp only[aaJ,aaK,aaM]at ho
  subst ho
  intro w' hSw
  first |(go_simp;done) |(go_simp;with_reducible rfl)
 try simp only[Act.put,aaG,aaH,aaI]
 refine aF (i:=1) (d:=some 33) (v:= ?WS) (by rfl) (by kernel_rfl) (by kernel_rfl) (by kernel_rfl) (fun _ _ _ h=>h) (by rfl) ?zQ hHeld ?Jj
 case zQ=>
  intro o ho
  simp only[aaJ,aaL,aaK,aaM]at ho
  subst ho
  intro w' hSw
  first |(go_simp;done) |(go_simp;with_reducible rfl)
 try simp only[Act.put,aaG,aaH,aaI]
 refine aF (i:=2) (d:=some 34) (v:= ?WT) (by rfl) (by kernel_rfl) (by kernel_rfl) (by kernel_rfl) (fun _ _ _ h=>h) (by rfl) ?zS hHeld ?Jk
 case zS=>
  intro o ho
  simp only[aaJ,aaL,aaK,aaM]at ho
  subst ho
  intro w' hSw
  first |(go_simp;done) |(go_simp;with_reducible rfl)
 try simp only[Act.put,aaG,aaH,aaI]
 refine aF (i:=3) (d:=some 35) (v:= ?WU) (by rfl) (by kernel_rfl) (by kernel_rfl) (by kernel_rfl) (fun _ _ _ h=>h) (by rfl) ?zT hHeld ?Jl
 case zT=>
  intro o ho
  simp only[aaJ,aaL,aaK,aaM]at ho
  subst ho
  intro w' hSw
  first |(go_simp;done) |(go_simp;with_reducible rfl)
 try simp only[Act.put,aaG,aaH,aaI]
 refine aF (i:=4) (d:=some 36) (v:= ?WV) (by rfl) (by kernel_rfl) (by kernel_rfl) (by kernel_rfl) (fun _ _ _ h=>h) (by rfl) ?zU hHeld ?Jm
 case zU=>
  intro o ho
  simp only[aaJ,aaL,aaK,aaM]at ho
  subst ho
  intro w' hSw
  first |(go_simp;done) |(go_simp;with_reducible rfl)
 try simp only[Act.put,aaG,aaH,aaI]
 refine aF (i:=5) (d:=some 37) (v:= ?WW) (by rfl) (by kernel_rfl) (by kernel_rfl) (by kernel_rfl) (fun _ _ _ h=>h) (by rfl) ?zV hHeld ?Jo
 case zV=>
  intro o ho
  simp only[aaJ,aaL,aaK,aaM]at ho
  subst ho
  intro w' hSw
  first |(go_simp;done) |(go_simp;with_reducible rfl)
 try simp only[Act.put,aaG,aaH,aaI]
 refine aF (i:=6) (d:=some 38) (v:= ?WX) (by rfl) (by kernel_rfl) (by kernel_rfl) (by kernel_rfl) (fun _ _ _ h=>h) (by rfl) ?zW hHeld ?Jp
 case zW=>
  intro o ho
  simp only[aaJ,aaL,aaK,aaM]at ho
  subst ho
  intro w' hSw
  first |(go_simp;done) |(go_simp;with_reducible rfl)
 try simp only[Act.put,aaG,aaH,aaI]
 refine aF (i:=8) (d:=some 40) (v:= ?WY) (by rfl) (by kernel_rfl) (by kernel_rfl) (by kernel_rfl) (fun _ _ _ h=>h) (by rfl) ?zX hHeld ?Jq
 case zX=>
  intro o ho
  simp only[aaJ,aaL,aaK,aaM]at ho
  subst ho
  intro w' hSw
  first |(go_simp;done) |(go_simp;with_reducible rfl)
 try simp only[Act.put,aaG,aaH,aaI]
 refine wpAnyH_ready (rs:=[7]) (by kernel_rfl) (by simp) ?_
 refine AllReadyH.cons rfl (fun K hK=> ?_) AllReadyH.nil
 ·go_simp
  refine(gV _).mono ?_
  rintro e wq ⟨rfl,hbq⟩
  have hq:=hHeld.below hbq
  refine hK.out _ _ ?_ (fun hHeld=> ?_)
  ·exact hq
  clear hK K
  try simp only[Act.put,aaG,aaH,aaI]
  refine wpAnyH_ready (rs:=[9]) (by kernel_rfl) (by simp) ?_
  refine AllReadyH.cons rfl (fun K hK=> ?_) AllReadyH.nil
  ·go_simp
   have hlo:=hHeld.b.size
   have ig:Hid (w.heap.size+1<wq.heap.size):=by have h1:=hHeld.b.size;have h2:=OI.out;have h3:=hq.b.size;have h4:=hbq.size;show w.heap.size+1<wq.heap.size;omega
   have U9:=(hbq.block _ OI.out).trans dB.out
   refine(sK.out _ hHeld.b).mono ?_
   rintro e wr ⟨a,b,c,d,rfl,hbr,hrow⟩
   have hq2:=hHeld.below hbr
   refine hK.out _ _ ?_ (fun hHeld=> ?_)
   ·exact hq2
   clear hK K
   try simp only[Act.put,aaG,aaH,aaI]
   refine aF (i:=10) (d:=some 42) (v:= ?WZ) (by rfl) (by kernel_rfl) (by kernel_rfl) (by kernel_rfl) (fun _ _ _ h=>h) (by rfl) ?zY hHeld ?Jr
   case zY=>
    intro o ho
    simp only[aaJ,aaL,aaK,aaM]at ho
    subst ho
    intro w' hSw
    first |(go_simp;done) |(go_simp;with_reducible rfl)
   try simp only[Act.put,aaG,aaH,aaI]
   have h15:=fifteen ((hbr.block _ ig.out).trans U9)
   obtain⟨⟨k0,k1,k2,k3,k4,k5,k6,k7,k8,k9,k10,k11,k12,k13,k14⟩,g0,g1,g2,g3,g4,g5,g6,g7,g8,g9,g10,g11,g12,g13,g14⟩:=h15
   refine wpAnyH_ready (rs:=[11]) (by kernel_rfl) (by simp) ?_
   refine AllReadyH.cons rfl (fun K hK=> ?_) AllReadyH.nil
   go_simp
   refine hK.out _ _ ?_ (fun hHeld=> ?_)
   ·exact hHeld.put (Nat.lt_succ_self _) _ _ _ _ _ _ _ _ _ _ _ _ _ _ _
   clear hK K
   try simp only[Act.put,aaG,aaH,aaI]
   refine wpAnyH_done (by kernel_rfl) ?_ _
   have jc:Hid (Below w.heap.size w wr):=hq2.b
   have au:Hid (w.heap.size<=w.heap.size+1):=Nat.le_succ _
   have hsz:=hlo
   clear hHeld hq hq2
   go_wp2
   refine bodyPost_ret (v:= .agg #[.int .i64 0,.int .i64 ((k:Int)+1),.bool held,.string x0,.int .i64 x1,.int .i64 x2,.int .i64 x3,.bool true,.bool held,.int .i64 val,.slice a ps.length c,.bool tx,.int .i64 tk,.int .i64 ty,.slice b ws.length d]) (by simp[results,Tryz.results23,go_sem,k0,k1,k2,k3,k4,k5,k6,k7,k8,k9,k10,k11,k12,k13,k14]) rfl ⟨a,b,c,d,rfl, ?_, ?_⟩
   ·exact(((((((((((((((jc.out.setCell au.out _).setCell au.out _).setCell au.out _).setCell au.out _).setCell au.out _).setCell au.out _).setCell au.out _).setCell au.out _).setCell au.out _).setCell au.out _).setCell au.out _).setCell au.out _).setCell au.out _).setCell au.out _).setCell au.out _)
   ·exact((((((((((((((((hrow.set ig.out _).set ig.out _).set ig.out _).set ig.out _).set ig.out _).set ig.out _).set ig.out _).set ig.out _).set ig.out _).set ig.out _).set ig.out _).set ig.out _).set ig.out _).set ig.out _).set ig.out _)).mono hsz
theorem yL(R:Rt)(hR:gJ R)(s:St)(v:Sv)(ep:Int)(t:ByteArray)(w:World)(hv:Sts w v s)(hB:StB s)(ht:t.size<=1048576)(k:Nat)(hk:k<s.p.length)(qJ:ep=(k:Int)+1)(h0:stF R s=0)(hlb:aH t=0)(hrt:oC false (hAt s.h k).p=false):
  Calls Tryz.prog 23 #[stV s v,.int .i64 ep,.string t,.bool false] w fun e w'=>kS w 10 0 false ⟨#[]⟩ 0 0 0 false 0 [] false 0 0 [] e w':=by
 have hst:=uT h0
 have hlen:=hst.same
 have lJ:=hst.ten
 have hw2:wrap64 (k:Int)=(k:Int):=by simp only[wrap64];omega
 have hk0:¬((k:Int)<0):=by omega
 have hk1:(k:Int)<(s.h.length:Int):=by omega
 have hk2:(k:Int)<(s.p.length:Int):=by omega
 have hsub:(k:Int)+1 - 1=(k:Int):=by omega
 obtain⟨W,hW⟩:∃W,W=(w.alloc (stC s v 41)).alloc (.cells #[.int .i64 0,.int .i64 0,.bool false,.string ⟨#[]⟩,.int .i64 0,.int .i64 0,.int .i64 0,.bool false,.bool false,.int .i64 0,.slice none 0 0,.bool false,.int .i64 0,.int .i64 0,.slice none 0 0] 72):=⟨_,rfl⟩
 have hB0:Below w.heap.size w W:=by rw[hW];exact aA _ _
 have hS0:StC W w.heap.size s v:=by rw[hW];exact(StC.new w s v _).below (aj _) (by simp)
 have hA0:W.heap[w.heap.size+1]? = some (.cells #[.int .i64 0,.int .i64 0,.bool false,.string ⟨#[]⟩,.int .i64 0,.int .i64 0,.int .i64 0,.bool false,.bool false,.int .i64 0,.slice none 0 0,.bool false,.int .i64 0,.int .i64 0,.slice none 0 0] 72):=by rw[hW];exact aU w _ _
 have hX0:W.heap[w.heap.size]? = some (stC s v 41):=by rw[hW];exact heap_alloc_old' _ _ _ (heap_alloc_new w _)
 have hv1:=hv.below hB0
 have hF:=kM R hR w.heap.size s v ep t W hS0 hv1 hB ht
 have HA:Hid (∀w',Below W.heap.size W w'->w'.heap[w.heap.size+1]? = some (.cells #[.int .i64 0,.int .i64 0,.bool false,.string ⟨#[]⟩,.int .i64 0,.int .i64 0,.int .i64 0,.bool false,.bool false,.int .i64 0,.slice none 0 0,.bool false,.int .i64 0,.int .i64 0,.slice none 0 0] 72)):=fun w' hb=>(hb.block _ (Array.getElem?_eq_some_iff.1 hA0).1).trans hA0
 have jP:Hid (w.heap.size+1<W.heap.size):=(Array.getElem?_eq_some_iff.1 hA0).1
 have e0:epC R s ep=0:=mW h0 (by unfold inB;simp;omega)
 rw[e0,if_pos rfl,hlb]at hF
 have fM:=hv1.h
 obtain⟨a1,a2,a3,a4,c1,c2,c3,c4,rfl⟩:=hv.four
 unfold stC sv at hW hX0
 unfold stV sv
 dsimp only at hW hX0 ⊢
 have HX:Hid (∀w',Below W.heap.size W w'->w'.cell? ⟨w.heap.size,0,none⟩=some (.int .i64 s.ph)/\w'.cell? ⟨w.heap.size,1,none⟩=some (.int .i64 s.cu)/\w'.cell? ⟨w.heap.size,2,none⟩=some (.slice a1 s.d.length c1)/\w'.cell? ⟨w.heap.size,3,none⟩=some (.slice a2 s.n.length c2)/\w'.cell? ⟨w.heap.size,4,none⟩=some (.slice a3 s.h.length c3)/\w'.cell? ⟨w.heap.size,5,none⟩=some (.slice a4 s.p.length c4)):=fun w' hb=>by
  have h:=hS0.below hb hS0.lt
  exact⟨h.c0,h.c1,h.c2,h.c3,h.c4,h.c5⟩
 unfold sv at fM
 dsimp only at fM
 obtain⟨-,hb,hoff,rfl,hbl,hcs⟩:=fM.at (by omega)
 have hck:=hcs k (by omega)
 have mP:Hid (∀w',Below W.heap.size W w'->Calls Tryz.prog 70 #[.pointer (some ⟨hb,hoff+k*5,none⟩),.bool false] w' fun x w''=>x = .returned (.tuple #[.int .i64 (pW false (hAt s.h k).o (hAt s.h k).n),.bool (oC false (hAt s.h k).p)])/\Below w'.heap.size w' w''):=fun w' h=>ou hb (hoff+k*5) false _ _ _ _ _ w' (hck.below h hbl)
 rw[hrt]at mP
 generalize pW false (hAt s.h k).o (hAt s.h k).n=rv at *
 generalize s.ph=ph at *
 generalize s.cu=cu at *
 generalize s.d.length=n1 at *
 generalize s.n.length=n2 at *
 generalize s.h.length=n3 at *
 generalize s.p.length=n4 at *
 have HW:Hid (_=W):=hW.symm
 have HB0:Hid (Below w.heap.size w W):=hB0
 subst qJ
 clear hv hv1 hB hW hA0 hS0 ht h0 hB0 hst e0 fM hcs hck hlen hlb hrt lJ hX0
 go_enter Tryz.func23,Tryz.ntmps23
 go_wp2_with fail
 rw[HW.out]
 refine hF.mono ?_
 rintro z w3 ⟨rfl,hb3⟩
 clear hF
 obtain⟨m0,m1,m2,m3,m4,m5⟩:=HX.out _ hb3
 go_wp2_with fail
 refine(mP.out _ hb3).mono ?_
 rintro z w4 ⟨rfl,hb4⟩
 have hb5:=ah hb3 hb4
 clear mP m0 m1 m2 m3 m4 m5 hb3 hb4
 have h15:=fifteen (HA.out _ hb5)
 obtain⟨⟨k0,k1,k2,k3,k4,k5,k6,k7,k8,k9,k10,k11,k12,k13,k14⟩,g0,g1,g2,g3,g4,g5,g6,g7,g8,g9,g10,g11,g12,g13,g14⟩:=h15
 have jc:Hid (Below w.heap.size w w4):=ah HB0.out hb5
 have au:Hid (w.heap.size<=w.heap.size+1):=Nat.le_succ _
 clear HA HX HW hb5 HB0 jP
 go_wp2
 refine bodyPost_ret (v:= .agg #[.int .i64 10,.int .i64 0,.bool false,.string ⟨#[]⟩,.int .i64 0,.int .i64 0,.int .i64 0,.bool false,.bool false,.int .i64 0,.slice none 0 0,.bool false,.int .i64 0,.int .i64 0,.slice none 0 0]) (by simp[results,Tryz.results23,go_sem,k0,k1,k2,k3,k4,k5,k6,k7,k8,k9,k10,k11,k12,k13,k14]) rfl ⟨none,none,0,0,rfl, ?_,lQ _ _⟩
 exact(((((((((((((((jc.out.setCell au.out _).setCell au.out _).setCell au.out _).setCell au.out _).setCell au.out _).setCell au.out _).setCell au.out _).setCell au.out _).setCell au.out _).setCell au.out _).setCell au.out _).setCell au.out _).setCell au.out _).setCell au.out _).setCell au.out _)
theorem CU(R:Rt)(hR:gJ R)(s:St)(v:Sv)(ep:Int)(t:ByteArray)(w:World)(hv:Sts w v s)(hB:StB s)(ht:t.size<=1048576)(k:Nat)(hk:k<s.p.length)(qJ:ep=(k:Int)+1)(h0:stF R s=0)(hlb:aH t=0)(hrt:oC false (hAt s.h k).p=true)(pb dN pc:Nat)(hpv:v.p = .slice (some ⟨pb,dN,none⟩) s.p.length pc)(held tx:Bool)(x0:ByteArray)(x1 x2 x3 val tk ty:Int)(ps:List Int)(ws:Prl)(ql:∀w',Below w.heap.size w w'->Calls Tryz.prog 71 #[.pointer (some ⟨pb,dN+k,none⟩),.int .i64 ((k:Int)+1),.int .i64 (dY t),.bool false] w' fun e w''=>fZ w' ((k:Int)+1) held x0 x1 x2 x3 false val ps tx tk ty ws e w''):
  Calls Tryz.prog 23 #[stV s v,.int .i64 ep,.string t,.bool false] w fun e w'=>kS w 0 ((k:Int)+1) held x0 x1 x2 x3 false val ps tx tk ty ws e w':=by
 have hst:=uT h0
 have hlen:=hst.same
 have lJ:=hst.ten
 have hw2:wrap64 (k:Int)=(k:Int):=by simp only[wrap64];omega
 have hk0:¬((k:Int)<0):=by omega
 have hk1:(k:Int)<(s.h.length:Int):=by omega
 have hk2:(k:Int)<(s.p.length:Int):=by omega
 have hsub:(k:Int)+1 - 1=(k:Int):=by omega
 obtain⟨W,hW⟩:∃W,W=(w.alloc (stC s v 41)).alloc (.cells #[.int .i64 0,.int .i64 0,.bool false,.string ⟨#[]⟩,.int .i64 0,.int .i64 0,.int .i64 0,.bool false,.bool false,.int .i64 0,.slice none 0 0,.bool false,.int .i64 0,.int .i64 0,.slice none 0 0] 72):=⟨_,rfl⟩
 have hB0:Below w.heap.size w W:=by rw[hW];exact aA _ _
 have hS0:StC W w.heap.size s v:=by rw[hW];exact(StC.new w s v _).below (aj _) (by simp)
 have hA0:W.heap[w.heap.size+1]? = some (.cells #[.int .i64 0,.int .i64 0,.bool false,.string ⟨#[]⟩,.int .i64 0,.int .i64 0,.int .i64 0,.bool false,.bool false,.int .i64 0,.slice none 0 0,.bool false,.int .i64 0,.int .i64 0,.slice none 0 0] 72):=by rw[hW];exact aU w _ _
 have hX0:W.heap[w.heap.size]? = some (stC s v 41):=by rw[hW];exact heap_alloc_old' _ _ _ (heap_alloc_new w _)
 have hv1:=hv.below hB0
 have hF:=kM R hR w.heap.size s v ep t W hS0 hv1 hB ht
 have HA:Hid (∀w',Below W.heap.size W w'->w'.heap[w.heap.size+1]? = some (.cells #[.int .i64 0,.int .i64 0,.bool false,.string ⟨#[]⟩,.int .i64 0,.int .i64 0,.int .i64 0,.bool false,.bool false,.int .i64 0,.slice none 0 0,.bool false,.int .i64 0,.int .i64 0,.slice none 0 0] 72)):=fun w' hb=>(hb.block _ (Array.getElem?_eq_some_iff.1 hA0).1).trans hA0
 have jP:Hid (w.heap.size+1<W.heap.size):=(Array.getElem?_eq_some_iff.1 hA0).1
 have e0:epC R s ep=0:=mW h0 (by unfold inB;simp;omega)
 rw[e0,if_pos rfl,hlb]at hF
 have fM:=hv1.h
 have gV:=fun w=>lW t w (iT hlb)
 have sK:Hid (∀w',Below w.heap.size w w'->Calls Tryz.prog 71 #[.pointer (some ⟨pb,dN+k,none⟩),.int .i64 ((k:Int)+1),.int .i64 (dY t),.bool false] w' fun e w''=>fZ w' ((k:Int)+1) held x0 x1 x2 x3 false val ps tx tk ty ws e w''):=ql
 generalize dY t=key at *
 obtain⟨a1,a2,a3,a4,c1,c2,c3,c4,rfl⟩:=hv.four
 unfold stC sv at hW hX0
 unfold stV sv
 dsimp only at hW hX0 ⊢
 have HX:Hid (∀w',Below W.heap.size W w'->w'.cell? ⟨w.heap.size,0,none⟩=some (.int .i64 s.ph)/\w'.cell? ⟨w.heap.size,1,none⟩=some (.int .i64 s.cu)/\w'.cell? ⟨w.heap.size,2,none⟩=some (.slice a1 s.d.length c1)/\w'.cell? ⟨w.heap.size,3,none⟩=some (.slice a2 s.n.length c2)/\w'.cell? ⟨w.heap.size,4,none⟩=some (.slice a3 s.h.length c3)/\w'.cell? ⟨w.heap.size,5,none⟩=some (.slice a4 s.p.length c4)):=fun w' hb=>by
  have h:=hS0.below hb hS0.lt
  exact⟨h.c0,h.c1,h.c2,h.c3,h.c4,h.c5⟩
 unfold sv at fM
 dsimp only at fM
 obtain⟨-,hb,hoff,rfl,hbl,hcs⟩:=fM.at (by omega)
 have hck:=hcs k (by omega)
 unfold sv at hpv
 dsimp only at hpv
 cases hpv
 have mP:Hid (∀w',Below W.heap.size W w'->Calls Tryz.prog 70 #[.pointer (some ⟨hb,hoff+k*5,none⟩),.bool false] w' fun x w''=>x = .returned (.tuple #[.int .i64 (pW false (hAt s.h k).o (hAt s.h k).n),.bool (oC false (hAt s.h k).p)])/\Below w'.heap.size w' w''):=fun w' h=>ou hb (hoff+k*5) false _ _ _ _ _ w' (hck.below h hbl)
 rw[hrt]at mP
 generalize pW false (hAt s.h k).o (hAt s.h k).n=rv at *
 generalize s.ph=ph at *
 generalize s.cu=cu at *
 generalize s.d.length=n1 at *
 generalize s.n.length=n2 at *
 generalize s.h.length=n3 at *
 generalize s.p.length=n4 at *
 have HW:Hid (_=W):=hW.symm
 have HB0:Hid (Below w.heap.size w W):=hB0
 subst qJ
 clear hv hv1 hB hW hA0 hS0 ht h0 hB0 hst e0 fM hcs hck hlen hlb hrt lJ ql
 go_enter Tryz.func23,Tryz.ntmps23
 go_wp2_with fail
 rw[HW.out]
 refine hF.mono ?_
 rintro z w3 ⟨rfl,hb3⟩
 clear hF
 obtain⟨m0,m1,m2,m3,m4,m5⟩:=HX.out _ hb3
 go_wp2_with fail
 refine(mP.out _ hb3).mono ?_
 rintro z w4 ⟨rfl,hb4⟩
 have hb5:=ah hb3 hb4
 clear mP m0 m1 m2 m3 m4 m5 hb3 hb4
 have hS:Sbx w w4.drew (.cells #[.int .i64 ph,.int .i64 cu,.slice a1 n1 c1,.slice a2 n2 c2,.slice (some ⟨hb,hoff,none⟩) n3 c3,.slice (some ⟨pb,dN,none⟩) n4 pc] 41):=⟨ah HB0.out hb5.drew,(hb5.drew.block _ (Nat.lt_trans (Nat.lt_succ_self _) jP.out)).trans hX0⟩
 have OI:Hid (w.heap.size+1<w4.drew.heap.size):=Nat.lt_of_lt_of_le jP.out hb5.drew.size
 have dB:Hid (w4.drew.heap[w.heap.size+1]? = some (.cells #[.int .i64 0,.int .i64 0,.bool false,.string ⟨#[]⟩,.int .i64 0,.int .i64 0,.int .i64 0,.bool false,.bool false,.int .i64 0,.slice none 0 0,.bool false,.int .i64 0,.int .i64 0,.slice none 0 0] 72)):=HA.out _ hb5.drew
 have hw3:IntKind.i64.wrap (k:Int)=(k:Int):=by rw[IntKind.wrap_i64];simp only[wrap64]at hw2;omega
 have p5:∀w',Sbx w w' (.cells #[.int .i64 ph,.int .i64 cu,.slice a1 n1 c1,.slice a2 n2 c2,.slice (some ⟨hb,hoff,none⟩) n3 c3,.slice (some ⟨pb,dN,none⟩) n4 pc] 41)->w'.cell? ⟨w.heap.size,5,none⟩=some (.slice (some ⟨pb,dN,none⟩) n4 pc):=fun w' h=>CQ h.h
 clear HX HA HW hb5 HB0 jP hX0
 go_wp2_with fail
 clear hw2
 refine wp_region_held_drew (S:=fun w'=>Sbx w w' (.cells #[.int .i64 ph,.int .i64 cu,.slice a1 n1 c1,.slice a2 n2 c2,.slice (some ⟨hb,hoff,none⟩) n3 c3,.slice (some ⟨pb,dN,none⟩) n4 pc] 41)) (by kernel_rfl) hS (fun hHeld=> ?_)
 generalize w4.drew=V at *
 refine aF (i:=0) (d:=some 32) (v:= ?WR) (by rfl) (by kernel_rfl) (by kernel_rfl) (by kernel_rfl) (fun _ _ _ h=>h) (by rfl) ?zO hHeld ?Ji
 case zO=>
  intro o ho
  simp only[aaJ,aaK,aaM]at ho
  subst ho
  intro w' hSw
  first |(go_simp;done) |(go_simp;with_reducible rfl)
 try simp only[Act.put,aaG,aaH,aaI]
 refine aF (i:=1) (d:=some 33) (v:= ?WS) (by rfl) (by kernel_rfl) (by kernel_rfl) (by kernel_rfl) (fun _ _ _ h=>h) (by rfl) ?zQ hHeld ?Jj
 case zQ=>
  intro o ho
  simp only[aaJ,aaL,aaK,aaM]at ho
  subst ho
  intro w' hSw
  first |(go_simp;done) |(go_simp;with_reducible rfl)
 try simp only[Act.put,aaG,aaH,aaI]
 refine aF (i:=2) (d:=some 34) (v:= ?WT) (by rfl) (by kernel_rfl) (by kernel_rfl) (by kernel_rfl) (fun _ _ _ h=>h) (by rfl) ?zS hHeld ?Jk
 case zS=>
  intro o ho
  simp only[aaJ,aaL,aaK,aaM]at ho
  subst ho
  intro w' hSw
  first |(go_simp;done) |(go_simp;with_reducible rfl)
 try simp only[Act.put,aaG,aaH,aaI]
 refine aF (i:=3) (d:=some 35) (v:= ?WU) (by rfl) (by kernel_rfl) (by kernel_rfl) (by kernel_rfl) (fun _ _ _ h=>h) (by rfl) ?zT hHeld ?Jl
 case zT=>
  intro o ho
  simp only[aaJ,aaL,aaK,aaM]at ho
  subst ho
  intro w' hSw
  first |(go_simp;done) |(go_simp;with_reducible rfl)
 try simp only[Act.put,aaG,aaH,aaI]
 refine aF (i:=4) (d:=some 36) (v:= ?WV) (by rfl) (by kernel_rfl) (by kernel_rfl) (by kernel_rfl) (fun _ _ _ h=>h) (by rfl) ?zU hHeld ?Jm
 case zU=>
  intro o ho
  simp only[aaJ,aaL,aaK,aaM]at ho
  subst ho
  intro w' hSw
  first |(go_simp;done) |(go_simp;with_reducible rfl)
 try simp only[Act.put,aaG,aaH,aaI]
 refine aF (i:=5) (d:=some 37) (v:= ?WW) (by rfl) (by kernel_rfl) (by kernel_rfl) (by kernel_rfl) (fun _ _ _ h=>h) (by rfl) ?zV hHeld ?Jo
 case zV=>
  intro o ho
  simp only[aaJ,aaL,aaK,aaM]at ho
  subst ho
  intro w' hSw
  first |(go_simp;done) |(go_simp;with_reducible rfl)
 try simp only[Act.put,aaG,aaH,aaI]
 refine aF (i:=6) (d:=some 38) (v:= ?WX) (by rfl) (by kernel_rfl) (by kernel_rfl) (by kernel_rfl) (fun _ _ _ h=>h) (by rfl) ?zW hHeld ?Jp
 case zW=>
  intro o ho
  simp only[aaJ,aaL,aaK,aaM]at ho
  subst ho
  intro w' hSw
  first |(go_simp;done) |(go_simp;with_reducible rfl)
 try simp only[Act.put,aaG,aaH,aaI]
 refine aF (i:=8) (d:=some 40) (v:= ?WY) (by rfl) (by kernel_rfl) (by kernel_rfl) (by kernel_rfl) (fun _ _ _ h=>h) (by rfl) ?zX hHeld ?Jq
 case zX=>
  intro o ho
  simp only[aaJ,aaL,aaK,aaM]at ho
  subst ho
  intro w' hSw
  first |(go_simp;done) |(go_simp;with_reducible rfl)
 try simp only[Act.put,aaG,aaH,aaI]
 refine wpAnyH_ready (rs:=[7]) (by kernel_rfl) (by simp) ?_
 refine AllReadyH.cons rfl (fun K hK=> ?_) AllReadyH.nil
 ·go_simp
  refine(gV _).mono ?_
  rintro e wq ⟨rfl,hbq⟩
  have hq:=hHeld.below hbq
  refine hK.out _ _ ?_ (fun hHeld=> ?_)
  ·exact hq
  clear hK K
  try simp only[Act.put,aaG,aaH,aaI]
  refine wpAnyH_ready (rs:=[9]) (by kernel_rfl) (by simp) ?_
  refine AllReadyH.cons rfl (fun K hK=> ?_) AllReadyH.nil
  ·go_simp
   have hlo:=hHeld.b.size
   have ig:Hid (w.heap.size+1<wq.heap.size):=by have h1:=hHeld.b.size;have h2:=OI.out;have h3:=hq.b.size;have h4:=hbq.size;show w.heap.size+1<wq.heap.size;omega
   have U9:=(hbq.block _ OI.out).trans dB.out
   refine(sK.out _ hHeld.b).mono ?_
   rintro e wr ⟨a,b,c,d,rfl,hbr,hrow⟩
   have hq2:=hHeld.below hbr
   refine hK.out _ _ ?_ (fun hHeld=> ?_)
   ·exact hq2
   clear hK K
   try simp only[Act.put,aaG,aaH,aaI]
   refine aF (i:=10) (d:=some 42) (v:= ?WZ) (by rfl) (by kernel_rfl) (by kernel_rfl) (by kernel_rfl) (fun _ _ _ h=>h) (by rfl) ?zY hHeld ?Jr
   case zY=>
    intro o ho
    simp only[aaJ,aaL,aaK,aaM]at ho
    subst ho
    intro w' hSw
    first |(go_simp;done) |(go_simp;with_reducible rfl)
   try simp only[Act.put,aaG,aaH,aaI]
   have h15:=fifteen ((hbr.block _ ig.out).trans U9)
   obtain⟨⟨k0,k1,k2,k3,k4,k5,k6,k7,k8,k9,k10,k11,k12,k13,k14⟩,g0,g1,g2,g3,g4,g5,g6,g7,g8,g9,g10,g11,g12,g13,g14⟩:=h15
   refine wpAnyH_ready (rs:=[11]) (by kernel_rfl) (by simp) ?_
   refine AllReadyH.cons rfl (fun K hK=> ?_) AllReadyH.nil
   go_simp
   refine hK.out _ _ ?_ (fun hHeld=> ?_)
   ·exact hHeld.put (Nat.lt_succ_self _) _ _ _ _ _ _ _ _ _ _ _ _ _ _ _
   clear hK K
   try simp only[Act.put,aaG,aaH,aaI]
   refine wpAnyH_done (by kernel_rfl) ?_ _
   have jc:Hid (Below w.heap.size w wr):=hq2.b
   have au:Hid (w.heap.size<=w.heap.size+1):=Nat.le_succ _
   have hsz:=hlo
   clear hHeld hq hq2
   go_wp2
   refine bodyPost_ret (v:= .agg #[.int .i64 0,.int .i64 ((k:Int)+1),.bool held,.string x0,.int .i64 x1,.int .i64 x2,.int .i64 x3,.bool false,.bool held,.int .i64 val,.slice a ps.length c,.bool tx,.int .i64 tk,.int .i64 ty,.slice b ws.length d]) (by simp[results,Tryz.results23,go_sem,k0,k1,k2,k3,k4,k5,k6,k7,k8,k9,k10,k11,k12,k13,k14]) rfl ⟨a,b,c,d,rfl, ?_, ?_⟩
   ·exact(((((((((((((((jc.out.setCell au.out _).setCell au.out _).setCell au.out _).setCell au.out _).setCell au.out _).setCell au.out _).setCell au.out _).setCell au.out _).setCell au.out _).setCell au.out _).setCell au.out _).setCell au.out _).setCell au.out _).setCell au.out _).setCell au.out _)
   ·exact((((((((((((((((hrow.set ig.out _).set ig.out _).set ig.out _).set ig.out _).set ig.out _).set ig.out _).set ig.out _).set ig.out _).set ig.out _).set ig.out _).set ig.out _).set ig.out _).set ig.out _).set ig.out _).set ig.out _)).mono hsz
end U
end Go.Proofs.YtmnfokgllcdiiaaGreat
