/- Both NewTrail answer alike; blocks of five cells. -/
import Derived.Test.YtmnfokgllcdiiaaGreatYTr14
import Derived.Test.YtmnfokgllcdiiaaGreatYBA
namespace Go.Proofs.YtmnfokgllcdiiaaGreat
open Go.RowKit
namespace U
structure vO(w:World)(g:Nat)(x0 x1 x2 x3 x4:Value):Prop where
 lt:g<w.heap.size
 c0:w.cell? ⟨g,0,none⟩=some x0
 c1:w.cell? ⟨g,1,none⟩=some x1
 c2:w.cell? ⟨g,2,none⟩=some x2
 c3:w.cell? ⟨g,3,none⟩=some x3
 c4:w.cell? ⟨g,4,none⟩=some x4
theorem vO.below{w w':World}{g:Nat}{x0 x1 x2 x3 x4:Value}(h:vO w g x0 x1 x2 x3 x4)(hb:Below w.heap.size w w'):vO w' g x0 x1 x2 x3 x4:=
 ⟨Nat.lt_of_lt_of_le h.lt hb.size,(hb.cell (p:=⟨g,0,none⟩) h.lt).trans h.c0,(hb.cell (p:=⟨g,1,none⟩) h.lt).trans h.c1,(hb.cell (p:=⟨g,2,none⟩) h.lt).trans h.c2,(hb.cell (p:=⟨g,3,none⟩) h.lt).trans h.c3,(hb.cell (p:=⟨g,4,none⟩) h.lt).trans h.c4⟩
theorem vO.grown{w w':World}{g:Nat}{x0 x1 x2 x3 x4:Value}{row:Option Nat}(h:vO w g x0 x1 x2 x3 x4)(hg:w.grownBy w' row)(hne:some g≠row):vO w' g x0 x1 x2 x3 x4:=
 ⟨Nat.lt_of_lt_of_le h.lt hg.size,hg.cell h.c0 hne,hg.cell h.c1 hne,hg.cell h.c2 hne,hg.cell h.c3 hne,hg.cell h.c4 hne⟩
theorem vO.new(w:World)(x0 x1 x2 x3 x4:Value)(t:TypeId):vO (w.alloc (.cells #[x0,x1,x2,x3,x4] t)) w.heap.size x0 x1 x2 x3 x4:=by
 have h:=(Ba (heap_alloc_new w (.cells #[x0,x1,x2,x3,x4] t))).1
 exact⟨by simp,h.1,h.2.1,h.2.2.1,h.2.2.2.1,h.2.2.2.2⟩
end U
end Go.Proofs.YtmnfokgllcdiiaaGreat
