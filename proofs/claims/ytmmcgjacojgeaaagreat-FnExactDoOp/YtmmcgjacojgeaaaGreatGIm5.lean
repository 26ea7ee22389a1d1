/- The move turned back, by the program. -/
import Derived.Test.YtmmcgjacojgeaaaGreatGZz
import Derived.Deep.Cut
import Derived.Test.YtmmcgjacojgeaaaGreatGIm4
set_option maxRecDepth 100000
set_option maxHeartbeats 2000000
namespace Go.Proofs.YtmmcgjacojgeaaaGreat
open Go.RowKit
namespace U
theorem Own.aeW{lo hi:Nat}{w w':World}{A B:List Rw}{r r':Rw}(h:Own lo hi w (A++r::B))(hv:r'.v.ownBlock=r.v.ownBlock)(hg:w.grownBy w' r.v.ownBlock)(ho:w'.ownsRow lo r'.e r'.z r'.v r'.n r'.xs):Own lo hi w' (A++r'::B):=by
 have hbl:blks (A++r'::B)=blks (A++r::B):=by
  unfold blks
  rw[List.filterMap_append,List.filterMap_append,List.filterMap_cons,List.filterMap_cons,hv]
 have hn:=h.nd
 have key:∀s,(s∈A∨s∈B)->∀g,s.v.ownBlock=some g->some g≠r.v.ownBlock:=fun s hs g hsg e=>by
  rw[pq]at hn
  have e2:blks (r::B)=g::blks B:=by unfold blks;rw[List.filterMap_cons,←e]
  rw[e2]at hn
  rcases hs with hs | hs
  ·exact(List.nodup_append.1 hn).2.2 g (jJ hs hsg) g (by simp) rfl
  ·have:=(List.nodup_append.1 hn).2.1
   rw[List.nodup_cons]at this
   exact this.1 (jJ hs hsg)
 refine⟨fun s hs=> ?_,by rw[hbl];exact h.hi,by rw[hbl];exact h.nd⟩
 rcases List.mem_append.1 hs with hs | hs
 ·have ho:=h.own s (List.mem_append_left _ hs)
  exact pO ho fun g e=>hg.block g (fU ho e).2 (key s (Or.inl hs) g e)
 ·rcases List.mem_cons.1 hs with rfl | hs
  ·exact ho
  ·have ho:=h.own s (List.mem_append_right _ (List.mem_cons_of_mem _ hs))
   exact pO ho fun g e=>hg.block g (fU ho e).2 (key s (Or.inr hs) g e)
theorem Eb(R:Rt)(hR:bK R)(s:St)(v:Sv)(w:World)(hv:Sts w v s)(hB:StB s)(h:phF R s (s.ph==2||s.ph==3)=0):
  Calls Tryz.prog 101 #[stV s v] w fun e w'=>aQ w 0 ⟨5,0,s.d,[],s.h,s.p⟩ e w':=by
 obtain⟨W,hW⟩:∃W,W=((w.alloc (stC s v 41)).alloc aiJ).alloc (.cells #[.int .i64 2,.int .i64 3] 2):=⟨_,rfl⟩
 have hBW:Below w.heap.size w W:=by rw[hW];exact((aj _).alloc (aj _).size _).alloc ((aj _).alloc (aj _).size _).size _
 have hH3:W.heap[w.heap.size+1+1]? = some (.cells #[.int .i64 2,.int .i64 3] 2):=by
  have:=heap_alloc_new ((w.alloc (stC s v 41)).alloc aiJ) (.cells #[.int .i64 2,.int .i64 3] 2)
  simp only[World.size_alloc]at this
  rw[hW]
  exact this
 have hH2:W.heap[w.heap.size+1]? = some aiJ:=by
  have:=heap_alloc_new (w.alloc (stC s v 41)) aiJ
  rw[World.size_alloc]at this
  rw[hW]
  exact((aj _).block (w.heap.size+1) (by simp)).trans this
 have hC0:StC W w.heap.size s v:=by rw[hW];exact((StC.new w s v _).below (aj _) (by simp)).below (aj _) (by simp;omega)
 have hF:=Eu R hR s v (w.heap.size+1+1) 2 3 W (hv.below hBW) hB (Array.getElem?_eq_some_iff.1 hH3).1 (dA hH3).1 (dA hH3).2.1
 rw[h]at hF
 have HO:Hid (∀w',Below w.heap.size w w'->Calls Tryz.prog 33 #[stV s v] w' fun e w''=>∃u us,e = .returned (stV s u)/\gW w' s u us w''):=fun w' hb=>jr s v w' (hv.below hb) hB
 have HC:Hid (∀w',Below W.heap.size W w'->StC w' w.heap.size s v):=fun w' hb=>hC0.below hb hC0.lt
 have HR:Hid (∀w',Below W.heap.size W w'->w'.heap[w.heap.size+1]? = some aiJ):=fun w' hb=>(hb.block (w.heap.size+1) (Array.getElem?_eq_some_iff.1 hH2).1).trans hH2
 obtain⟨a1,c1,e1⟩:=hv.d.shape
 obtain⟨a2,c2,e2⟩:=hv.n.shape
 obtain⟨a3,c3,e3⟩:=hv.h.shape
 obtain⟨a4,c4,e4⟩:=hv.p.shape
 unfold stC at hW
 unfold stV at hF ⊢
 rw[e1,e2,e3,e4]at hW hF ⊢
 have HW:Hid _:=hW.symm
 have aC:Hid (Below w.heap.size w W):=hBW
 have dM:Hid (w.heap.size+1+1<W.heap.size):=(Array.getElem?_eq_some_iff.1 hH3).1
 clear hv hB hW hR hC0 h hH2 hH3 hBW
 go_enter Tryz.func101,Tryz.ntmps101
 go_wp2_with fail
 rw[HW.out]
 refine hF.mono ?_
 rintro e w1 ⟨rfl,hb1⟩
 clear hF HW
 have HB1:Hid (Below w.heap.size w w1):=ah aC.out hb1
 have iM:=HR.out w1 hb1
 obtain⟨hlt1,k0,k1,k2,k3,k4,k5⟩:=HC.out w1 hb1
 rw[e1]at k2
 rw[e2]at k3
 rw[e3]at k4
 rw[e4]at k5
 have hO:=HO.out w1 HB1.out
 unfold stV at hO
 rw[e1,e2,e3,e4]at hO
 have dU:Hid (w.heap.size+1<w1.heap.size):=(Array.getElem?_eq_some_iff.1 iM).1
 have iM:Hid (w1.heap[w.heap.size+1]? = some aiJ):=iM
 have rW:Hid (W.heap.size<=w1.heap.size):=hb1.size
 clear HO HC HR hb1 aC dM
 go_wp2_with fail
 refine hO.mono ?_
 rintro e w2 ⟨u,us,rfl,h2⟩
 clear hO k0 k1 k2 k3 k4 k5 hlt1
 have hr2:=(h2.below.block (w.heap.size+1) dU.out).trans iM.out
 have HA2:Hid (gW w1 s u us w2):=h2
 obtain⟨b1,d1,f1⟩:=h2.sts.d.shape
 obtain⟨b2,d2,f2⟩:=h2.sts.n.shape
 obtain⟨b3,d3,f3⟩:=h2.sts.h.shape
 obtain⟨b4,d4,f4⟩:=h2.sts.p.shape
 have HU:Hid (u=⟨.slice b1 s.d.length d1,.slice b2 s.n.length d2,.slice b3 s.h.length d3,.slice b4 s.p.length d4⟩):=(by cases u;simp only at f1 f2 f3 f4;rw[f1,f2,f3,f4]:u=⟨.slice b1 s.d.length d1,.slice b2 s.n.length d2,.slice b3 s.h.length d3,.slice b4 s.p.length d4⟩)
 rw[f1,f2,f3,f4]
 clear f1 f2 f3 f4 e1 e2 e3 e4 iM h2
 have hl2:w.heap.size+1<w2.heap.size:=(Array.getElem?_eq_some_iff.1 hr2).1
 obtain⟨W3,hW3⟩:∃W3,W3=w2.alloc (.cells #[.int .i64 5,.int .i64 0,.slice b1 s.d.length d1,.slice b2 s.n.length d2,.slice b3 s.h.length d3,.slice b4 s.p.length d4] 41):=⟨_,rfl⟩
 have hr3:W3.heap[w.heap.size+1]? = some aiJ:=by rw[hW3];exact((aj _).block _ hl2).trans hr2
 have hx3:W3.heap[w2.heap.size]? = some (.cells #[.int .i64 5,.int .i64 0,.slice b1 s.d.length d1,.slice b2 s.n.length d2,.slice b3 s.h.length d3,.slice b4 s.p.length d4] 41):=by rw[hW3];exact heap_alloc_new w2 _
 have HB3:Hid (Below w.heap.size w W3):=(by rw[hW3];exact(ah HB1.out HA2.out.below).alloc (ah HB1.out HA2.out.below).size _:Below w.heap.size w W3)
 have fB:Hid (aG w1.heap.size w2.heap.size W3 u us s):=(by rw[hW3];exact HA2.out.own.below (aj _):aG w1.heap.size w2.heap.size W3 u us s)
 have mG:Hid (W3.heap[w2.heap.size]? = some (.cells #[.int .i64 5,.int .i64 0,.slice b1 s.d.length d1,.slice b2 s.n.length d2,.slice b3 s.h.length d3,.slice b4 s.p.length d4] 41)):=hx3
 have HR3:Hid (W3.heap[w.heap.size+1]? = some aiJ):=hr3
 have HW3:Hid _:=hW3.symm
 obtain⟨⟨-,-,-,y3,-,-⟩,-⟩:=aB hx3
 have hU:=HU.out
 subst hU
 have hE:=Nb w1.heap.size s.n.length _ _ W3 (fB.out.own.own (nRow (.slice b2 s.n.length d2) s.n) (by simp[eY]))
 have hlx:w2.heap.size<W3.heap.size:=(Array.getElem?_eq_some_iff.1 hx3).1
 have hlr:w.heap.size+1<W3.heap.size:=(Array.getElem?_eq_some_iff.1 hr3).1
 clear hr2 hW3 hr3 hx3 HA2 HU
 go_upto_region 6 with fail
 rw[HW3.out]
 clear HW3
 generalize hbx:w2.heap.size=bx at *
 go_wp2_with fail
 refine hE.mono ?_
 rintro e w4 ⟨z1,z2,rfl,hk,hg4,o4⟩
 clear hE
 have O4:Own w1.heap.size bx w4 ([aI (.slice b1 s.d.length d1) s.d]++nRow (.slice z1 0 z2) []::([hRow (.slice b3 s.h.length d3) s.h]++([aV (.slice b4 s.p.length d4) us]++aJ us s.p s.p.length))):=Own.aeW (A:=[aI (.slice b1 s.d.length d1) s.d]) (B:=[hRow (.slice b3 s.h.length d3) s.h]++([aV (.slice b4 s.p.length d4) us]++aJ us s.p s.p.length)) (r:=nRow (.slice b2 s.n.length d2) s.n) (r':=nRow (.slice z1 0 z2) []) fB.out.own hk hg4 o4
 have hnr:∀k,k<w1.heap.size∨bx<=k->some k≠(Value.slice b2 s.n.length d2).ownBlock:=fun k hk e=>by
  have hm:=jJ (R:=eY ⟨.slice b1 s.d.length d1,.slice b2 s.n.length d2,.slice b3 s.h.length d3,.slice b4 s.p.length d4⟩ us s) (r:=nRow (.slice b2 s.n.length d2) s.n) (by simp[eY]) e.symm
  have h1:=fB.out.own.lo k hm
  have h2:=fB.out.own.hi k hm
  omega
 have hx4:=(hg4.block bx hlx (hnr bx (Or.inr (Nat.le_refl _)))).trans mG.out
 have hr4:=(hg4.block (w.heap.size+1) hlr (hnr _ (Or.inl dU.out))).trans HR3.out
 have hB4:Below w.heap.size w w4:=HB3.out.grown hg4 (by have:=HB3.out.size;omega) (fun k hk=>by
  rcases Nat.lt_or_ge k w1.heap.size with hl | hl
  ·exact absurd hk.symm (hnr k (Or.inl hl))
  ·have:=HB1.out.size;omega)
 obtain⟨⟨-,-,-,v3,-,-⟩,-,-,-,u3,-⟩:=aB hx4
 obtain⟨W4,dO⟩:∃W4,W4=w4.setCell ⟨bx,3,none⟩ (.slice z1 0 z2):=⟨_,rfl⟩
 have nR:Hid (w4.setCell ⟨bx,3,none⟩ (.slice z1 0 z2)=W4):=dO.symm
 have hx5:W4.heap[bx]? = some (.cells #[.int .i64 5,.int .i64 0,.slice b1 s.d.length d1,.slice z1 0 z2,.slice b3 s.h.length d3,.slice b4 s.p.length d4] 41):=by rw[dO];simpa using heap_setCell_same w4 bx 3 _ _ (.slice z1 0 z2) hx4
 have yV:W4.heap[w.heap.size+1]? = some aiJ:=by rw[dO];exact(heap_setCell_other w4 ⟨bx,3,none⟩ _ _ (by show w.heap.size+1≠bx;omega)).trans hr4
 have HB4:Hid (Below w.heap.size w W4):=(by rw[dO];exact hB4.setCell (by show w.heap.size<=bx;omega) _:Below w.heap.size w W4)
 have hs4:bx<=W4.heap.size:=by have:=(Array.getElem?_eq_some_iff.1 hx5).1;omega
 have HT:Hid (aG w1.heap.size W4.heap.size W4 ⟨.slice b1 s.d.length d1,.slice z1 0 z2,.slice b3 s.h.length d3,.slice b4 s.p.length d4⟩ us ⟨5,0,s.d,[],s.h,s.p⟩):=(by
  refine⟨(Own.wide (O4.blocks fun g hg=> ?_) (Nat.le_refl _) hs4),fB.out.len⟩
  rw[dO]
  exact heap_setCell_other w4 ⟨bx,3,none⟩ g _ (by have:=O4.hi g hg;show g≠bx;omega):aG w1.heap.size W4.heap.size W4 ⟨.slice b1 s.d.length d1,.slice z1 0 z2,.slice b3 s.h.length d3,.slice b4 s.p.length d4⟩ us ⟨5,0,s.d,[],s.h,s.p⟩)
 obtain⟨⟨q0,q1,q2,q3,q4,q5,q6⟩,g0,g1,g2,g3,g4,g5,g6⟩:=aA yV
 obtain⟨⟨x0,x1,x2,x3,x4,x5⟩,-⟩:=aB hx5
 have hn1:¬w.heap.size+1=bx:=by omega
 have hn2:¬bx=w.heap.size+1:=by omega
 clear dO hx4 hr4 hx5 yV O4 o4 hg4 hk hB4 hnr mG HR3 fB HB3
 go_upto_region 7 with fail
 rw[nR.out]
 clear nR v3 u3 y3
 go_wp2
 refine bodyPost_ret (v:= .agg #[.int .i64 0,.int .i64 5,.int .i64 0,.slice b1 s.d.length d1,.slice z1 0 z2,.slice b3 s.h.length d3,.slice b4 s.p.length d4]) (by simp[results,Tryz.results101,go_sem,q0,q1,q2,q3,q4,q5,q6]) rfl ⟨⟨.slice b1 s.d.length d1,.slice z1 0 z2,.slice b3 s.h.length d3,.slice b4 s.p.length d4⟩,us,rfl, ?_, ?_⟩
 ·exact((((((HB4.out.setCell (Nat.le_succ _) _).setCell (Nat.le_succ _) _).setCell (Nat.le_succ _) _).setCell (Nat.le_succ _) _).setCell (Nat.le_succ _) _).setCell (Nat.le_succ _) _).setCell (Nat.le_succ _) _
 ·have B:=((((((HT.out.setCell ⟨w.heap.size+1,0,none⟩ dU.out (.int .i64 0)).setCell ⟨w.heap.size+1,1,none⟩ dU.out (.int .i64 5)).setCell ⟨w.heap.size+1,2,none⟩ dU.out (.int .i64 0)).setCell ⟨w.heap.size+1,3,none⟩ dU.out (.slice b1 s.d.length d1)).setCell ⟨w.heap.size+1,4,none⟩ dU.out (.slice z1 0 z2)).setCell ⟨w.heap.size+1,5,none⟩ dU.out (.slice b3 s.h.length d3)).setCell ⟨w.heap.size+1,6,none⟩ dU.out (.slice b4 s.p.length d4)
  exact B.wide HB1.out.size (by simp)
theorem Dh(R:Rt)(hR:bK R)(s:St)(v:Sv)(w:World)(hv:Sts w v s)(hB:StB s)(h:¬phF R s (s.ph==2||s.ph==3)=0):
  Calls Tryz.prog 101 #[stV s v] w fun e w'=>aQ w (phF R s (s.ph==2||s.ph==3)) stZ e w':=by
 obtain⟨W,hW⟩:∃W,W=((w.alloc (stC s v 41)).alloc aiJ).alloc (.cells #[.int .i64 2,.int .i64 3] 2):=⟨_,rfl⟩
 have hBW:Below w.heap.size w W:=by rw[hW];exact((aj _).alloc (aj _).size _).alloc ((aj _).alloc (aj _).size _).size _
 have hH3:W.heap[w.heap.size+1+1]? = some (.cells #[.int .i64 2,.int .i64 3] 2):=by
  have:=heap_alloc_new ((w.alloc (stC s v 41)).alloc aiJ) (.cells #[.int .i64 2,.int .i64 3] 2)
  simp only[World.size_alloc]at this
  rw[hW]
  exact this
 have hH2:W.heap[w.heap.size+1]? = some aiJ:=by
  have:=heap_alloc_new (w.alloc (stC s v 41)) aiJ
  rw[World.size_alloc]at this
  rw[hW]
  exact((aj _).block (w.heap.size+1) (by simp)).trans this
 have hC0:StC W w.heap.size s v:=by rw[hW];exact((StC.new w s v _).below (aj _) (by simp)).below (aj _) (by simp;omega)
 have hF:=Eu R hR s v (w.heap.size+1+1) 2 3 W (hv.below hBW) hB (Array.getElem?_eq_some_iff.1 hH3).1 (dA hH3).1 (dA hH3).2.1
 have HR:Hid (∀w',Below W.heap.size W w'->w'.heap[w.heap.size+1]? = some aiJ):=fun w' hb=>(hb.block (w.heap.size+1) (Array.getElem?_eq_some_iff.1 hH2).1).trans hH2
 obtain⟨a1,c1,e1⟩:=hv.d.shape
 obtain⟨a2,c2,e2⟩:=hv.n.shape
 obtain⟨a3,c3,e3⟩:=hv.h.shape
 obtain⟨a4,c4,e4⟩:=hv.p.shape
 unfold stC at hW
 unfold stV at hF ⊢
 rw[e1,e2,e3,e4]at hW hF ⊢
 have HW:Hid _:=hW.symm
 have aC:Hid (Below w.heap.size w W):=hBW
 have hnz:(phF R s (s.ph==2||s.ph==3) != 0)=true:=by simpa using h
 generalize phF R s (s.ph==2||s.ph==3)=f at *
 clear hv hB hW hR hC0 h hH2 hH3 hBW
 go_enter Tryz.func101,Tryz.ntmps101
 go_wp2_with fail
 rw[HW.out]
 refine hF.mono ?_
 rintro e w1 ⟨rfl,hb1⟩
 clear hF HW
 have HB1:Hid (Below w.heap.size w w1):=ah aC.out hb1
 obtain⟨⟨q0,q1,q2,q3,q4,q5,q6⟩,g0,g1,g2,g3,g4,g5,g6⟩:=aA (HR.out w1 hb1)
 clear HR hb1 aC
 go_wp2
 refine bodyPost_ret (v:= .agg #[.int .i64 f,.int .i64 0,.int .i64 0,.slice none 0 0,.slice none 0 0,.slice none 0 0,.slice none 0 0]) (by simp[results,Tryz.results101,go_sem,q0,q1,q2,q3,q4,q5,q6]) rfl ⟨svZ,[],rfl, ?_,kW _ _ _⟩
 exact((((((HB1.out.setCell (Nat.le_succ _) _).setCell (Nat.le_succ _) _).setCell (Nat.le_succ _) _).setCell (Nat.le_succ _) _).setCell (Nat.le_succ _) _).setCell (Nat.le_succ _) _).setCell (Nat.le_succ _) _
theorem Df(R:Rt)(hR:bK R)(s:St)(v:Sv)(w:World)(hv:Sts w v s)(hB:StB s):
  Calls Tryz.prog 101 #[stV s v] w fun e w'=>aQ w (phF R s (s.ph==2||s.ph==3)) (if phF R s (s.ph==2||s.ph==3)=0 then⟨5,0,s.d,[],s.h,s.p⟩else stZ) e w':=by
 by_cases h:phF R s (s.ph==2||s.ph==3)=0
 ·rw[if_pos h,h]
  exact Eb R hR s v w hv hB h
 ·rw[if_neg h]
  exact Dh R hR s v w hv hB h
end U
end Go.Proofs.YtmmcgjacojgeaaaGreat
