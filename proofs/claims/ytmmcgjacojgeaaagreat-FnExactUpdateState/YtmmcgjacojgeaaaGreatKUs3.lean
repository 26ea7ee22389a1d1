/- What the law on UpdateState needs: an answer in a block of its own, laid early or late. -/
import Derived.Test.YtmmcgjacojgeaaaGreatKZz
import Derived.Test.YtmmcgjacojgeaaaGreatKUs1
import Derived.Test.YtmmcgjacojgeaaaGreatKUs2
import Derived.Test.YtmmcgjacojgeaaaGreatKImW
import Derived.Test.YtmmcgjacojgeaaaGreatKBC
namespace Go.Proofs.YtmmcgjacojgeaaaGreat
open Go.RowKit
namespace U
theorem Vx{R:Rt}{s:St}{r:Rc}{x:Int}(hB:StB s)(h:usF R s r x=0):StB (usT s r x):=by
 unfold usF at h
 by_cases h0:stF R s=0
 ·rw[if_pos h0]at h
  have hd:=Ol (dR (mV h0).d) h
  have h1:=hd.len
  have h2:=nO (u9L s.d r x) s.cu
  exact⟨by show(u9L s.d r x).length<=1048576;omega,hd.lbs,by show(newL (u9L s.d r x) s.cu).length<=1048576;omega,hB.h,hB.p,hB.pd,hB.t⟩
 ·rw[if_neg h0]at h;exact absurd h h0
theorem bW{w:World}{b:Nat}{x y z u:Value}{t:TypeId}(h:w.heap[b]? = some (.cells #[x,y,z,u] t)):w.cell? ⟨b,0,none⟩=some x/\w.cell? ⟨b,1,none⟩=some y/\w.cell? ⟨b,2,none⟩=some z/\w.cell? ⟨b,3,none⟩=some u/\True:=by
 simp[World.cell?,h]
structure ZB(w:World)(g:Nat):Prop where
 c:w.heap[g]? = some ach
theorem ZB.lt{w:World}{g:Nat}(h:ZB w g):g<w.heap.size:=(Array.getElem?_eq_some_iff.1 h.c).1
theorem ZB.below{w w':World}{g:Nat}(h:ZB w g)(hb:Below w.heap.size w w'):ZB w' g:=⟨(hb.block _ h.lt).trans h.c⟩
theorem ZB.new(w:World):ZB (w.alloc ach) w.heap.size:=⟨heap_alloc_new w _⟩
theorem ZB.drew{w:World}{g:Nat}(h:ZB w g):ZB w.drew g:=h.below (Below.refl _ _).drew
theorem Py{w:World}{g:Nat}{y0 y1 y2 y3 y4 y5 y6:Value}{t:TypeId}(h:w.heap[g]? = some (.cells #[y0,y1,y2,y3,y4,y5,y6] t))(x0 x1 x2 x3 x4 x5 x6:Value):(((((((w.setCell ⟨g,0,none⟩ x0).setCell ⟨g,1,none⟩ x1).setCell ⟨g,2,none⟩ x2).setCell ⟨g,3,none⟩ x3).setCell ⟨g,4,none⟩ x4).setCell ⟨g,5,none⟩ x5).setCell ⟨g,6,none⟩ x6).heap[g]? = some (.cells #[x0,x1,x2,x3,x4,x5,x6] t):=by
 have h:=heap_setCell_same w g 0 _ t x0 h
 have h:=heap_setCell_same _ g 1 _ t x1 h
 have h:=heap_setCell_same _ g 2 _ t x2 h
 have h:=heap_setCell_same _ g 3 _ t x3 h
 have h:=heap_setCell_same _ g 4 _ t x4 h
 have h:=heap_setCell_same _ g 5 _ t x5 h
 have h:=heap_setCell_same _ g 6 _ t x6 h
 simpa using h
theorem MN{w:World}{g k:Nat}(hk:k≠g)(x0 x1 x2 x3 x4 x5 x6:Value):(((((((w.setCell ⟨g,0,none⟩ x0).setCell ⟨g,1,none⟩ x1).setCell ⟨g,2,none⟩ x2).setCell ⟨g,3,none⟩ x3).setCell ⟨g,4,none⟩ x4).setCell ⟨g,5,none⟩ x5).setCell ⟨g,6,none⟩ x6).heap[k]? = w.heap[k]?:=by
 rw[heap_setCell_other _ ⟨g,6,none⟩ k _ hk,heap_setCell_other _ ⟨g,5,none⟩ k _ hk,heap_setCell_other _ ⟨g,4,none⟩ k _ hk,heap_setCell_other _ ⟨g,3,none⟩ k _ hk,heap_setCell_other _ ⟨g,2,none⟩ k _ hk,heap_setCell_other _ ⟨g,1,none⟩ k _ hk,heap_setCell_other _ ⟨g,0,none⟩ k _ hk]
theorem eG{W w:World}{g:Nat}(hb:Below W.heap.size W w)(hg:W.heap.size<=g)(x0 x1 x2 x3 x4 x5 x6:Value):Below W.heap.size W (((((((w.setCell ⟨g,0,none⟩ x0).setCell ⟨g,1,none⟩ x1).setCell ⟨g,2,none⟩ x2).setCell ⟨g,3,none⟩ x3).setCell ⟨g,4,none⟩ x4).setCell ⟨g,5,none⟩ x5).setCell ⟨g,6,none⟩ x6):=
 ((((((hb.setCell hg _).setCell hg _).setCell hg _).setCell hg _).setCell hg _).setCell hg _).setCell hg _
structure Rg(W w:World)(g lo hi:Nat)(x0 x1 x2 x3 x4 x5 x6:Value)(u:Sv)(us:List Value)(t:St):Prop where
 c:w.heap[g]? = some (.cells #[x0,x1,x2,x3,x4,x5,x6] 43)
 own:aT lo hi w u us t
 out:g<lo∨hi<=g
 l0:W.heap.size<=lo
 l1:W.heap.size<=g
 h1:hi<=w.heap.size
 lh:lo<=hi
 bel:Below W.heap.size W w
theorem Rg.lt{W w:World}{g lo hi:Nat}{x0 x1 x2 x3 x4 x5 x6:Value}{u:Sv}{us:List Value}{t:St}(h:Rg W w g lo hi x0 x1 x2 x3 x4 x5 x6 u us t):g<w.heap.size:=(Array.getElem?_eq_some_iff.1 h.c).1
theorem Rg.fresh{W w:World}{lo hi:Nat}{u:Sv}{us:List Value}{t:St}(x0 x1 x2 x3 x4 x5 x6:Value)(ho:aT lo hi w u us t)(hl:W.heap.size<=lo)(hlh:lo<=hi)(hh:hi<=w.heap.size)(hb:Below W.heap.size W w):
  Rg W (w.alloc (.cells #[x0,x1,x2,x3,x4,x5,x6] 43)) w.heap.size lo hi x0 x1 x2 x3 x4 x5 x6 u us t:=
 ⟨heap_alloc_new w _,ho.below (aj _),Or.inr hh,hl,hb.size,by simp;omega,hlh,ah hb (aj _)⟩
theorem Rg.put{W w:World}{g lo hi:Nat}{u:Sv}{us:List Value}{t:St}(x0 x1 x2 x3 x4 x5 x6:Value)(hz:ZB w g)(ho:aT lo hi w u us t)(hg:g<lo∨hi<=g)(hl:W.heap.size<=lo)(hlh:lo<=hi)(Au:W.heap.size<=g)(hh:hi<=w.heap.size)(hb:Below W.heap.size W w):
  Rg W (((((((w.setCell ⟨g,0,none⟩ x0).setCell ⟨g,1,none⟩ x1).setCell ⟨g,2,none⟩ x2).setCell ⟨g,3,none⟩ x3).setCell ⟨g,4,none⟩ x4).setCell ⟨g,5,none⟩ x5).setCell ⟨g,6,none⟩ x6) g lo hi x0 x1 x2 x3 x4 x5 x6 u us t:=by
 refine⟨Py hz.c x0 x1 x2 x3 x4 x5 x6,⟨ho.own.blocks fun k hk=>MN (by have h1:=ho.own.lo k hk;have h2:=ho.own.hi k hk;omega) x0 x1 x2 x3 x4 x5 x6,ho.len⟩,hg,hl,Au,by simpa using hh,hlh, ?_⟩
 exact((((((hb.setCell Au _).setCell Au _).setCell Au _).setCell Au _).setCell Au _).setCell Au _).setCell Au _
end U
end Go.Proofs.YtmmcgjacojgeaaaGreat
