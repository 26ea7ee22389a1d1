/- What the laws on states share. -/
import Derived.Test.YtmnfokgllcdiiaaGreatYBD
import Derived.Test.YtmnfokgllcdiiaaGreatYStE
set_option maxRecDepth 100000
namespace Go.Proofs.YtmnfokgllcdiiaaGreat
open Go.RowKit
namespace U
def sv(a1 a2 a3 a4:Option Addr)(n1 n2 n3 n4 c1 c2 c3 c4:Nat):Sv:=⟨.slice a1 n1 c1,.slice a2 n2 c2,.slice a3 n3 c3,.slice a4 n4 c4⟩
theorem Sts.four{w:World}{u:Sv}{s:St}(h:Sts w u s):∃a1 a2 a3 a4 c1 c2 c3 c4,u=sv a1 a2 a3 a4 s.d.length s.n.length s.h.length s.p.length c1 c2 c3 c4:=by
 obtain⟨a1,c1,e1⟩:=h.d.shape
 obtain⟨a2,c2,e2⟩:=h.n.shape
 obtain⟨a3,c3,e3⟩:=h.h.shape
 obtain⟨a4,c4,e4⟩:=h.p.shape
 obtain⟨x,y,z,u⟩:=u
 dsimp only at e1 e2 e3 e4
 subst e1 e2 e3 e4
 exact⟨_,_,_,_,_,_,_,_,rfl⟩
structure ToS(w:World)(s:St)(ph cu:Int)(a1 a2 a3 a4:Option Addr)(n1 n2 n3 n4 c1 c2 c3 c4:Nat):Prop where
 c:∀w',Below w.heap.size w w'->Calls Tryz.prog 11 #[.agg #[.int .i64 ph,.int .i64 cu,.slice a1 n1 c1,.slice a2 n2 c2,.slice a3 n3 c3,.slice a4 n4 c4]] w' fun e w''=>∃b1 b2 b3 b4 d1 d2 d3 d4 us,e = .returned (.agg #[.int .i64 ph,.int .i64 cu,.slice b1 n1 d1,.slice b2 n2 d2,.slice b3 n3 d3,.slice b4 n4 d4])/\FT w' s (sv b1 b2 b3 b4 n1 n2 n3 n4 d1 d2 d3 d4) us w''
theorem ToS.mk'{w:World}{s:St}{a1 a2 a3 a4:Option Addr}{c1 c2 c3 c4:Nat}(h:Sts w (sv a1 a2 a3 a4 s.d.length s.n.length s.h.length s.p.length c1 c2 c3 c4) s)(hB:StB s):ToS w s s.ph s.cu a1 a2 a3 a4 s.d.length s.n.length s.h.length s.p.length c1 c2 c3 c4:=⟨fun w' hb=>by
 refine(KT s _ w' (h.below hb) hB).mono ?_
 rintro e w'' ⟨u,us,rfl,h1⟩
 obtain⟨b1,b2,b3,b4,d1,d2,d3,d4,rfl⟩:=h1.sts.four
 exact⟨b1,b2,b3,b4,d1,d2,d3,d4,us,rfl,h1⟩⟩
structure EqS(s:St)(ph cu:Int)(n1 n2 n3 n4:Nat):Prop where
 c:∀(w':World)(a1 a2 a3 a4 b1 b2 b3 b4:Option Addr)(c1 c2 c3 c4 d1 d2 d3 d4:Nat),Sts w' (sv a1 a2 a3 a4 n1 n2 n3 n4 c1 c2 c3 c4) s->Sts w' (sv b1 b2 b3 b4 n1 n2 n3 n4 d1 d2 d3 d4) s->Calls Tryz.prog 15 #[.agg #[.int .i64 ph,.int .i64 cu,.slice a1 n1 c1,.slice a2 n2 c2,.slice a3 n3 c3,.slice a4 n4 c4],.agg #[.int .i64 ph,.int .i64 cu,.slice b1 n1 d1,.slice b2 n2 d2,.slice b3 n3 d3,.slice b4 n4 d4]] w' fun e w''=>e = .returned (.bool true)/\Below w'.heap.size w' w''
theorem EqS.mk'{s:St}(hB:StB s):EqS s s.ph s.cu s.d.length s.n.length s.h.length s.p.length:=⟨fun w' a1 a2 a3 a4 b1 b2 b3 b4 c1 c2 c3 c4 d1 d2 d3 d4 h1 h2=>by
 have:=vY s _ _ w' h1 h2 hB
 unfold stV sv at this
 exact this⟩
def C6(w:World)(b:Nat)(ph cu:Int)(a1 a2 a3 a4:Option Addr)(n1 n2 n3 n4 c1 c2 c3 c4:Nat):Prop:=
 w.cell? ⟨b,0,none⟩=some (.int .i64 ph)/\w.cell? ⟨b,1,none⟩=some (.int .i64 cu)/\w.cell? ⟨b,2,none⟩=some (.slice a1 n1 c1)/\w.cell? ⟨b,3,none⟩=some (.slice a2 n2 c2)/\w.cell? ⟨b,4,none⟩=some (.slice a3 n3 c3)/\w.cell? ⟨b,5,none⟩=some (.slice a4 n4 c4)
structure Bx(w:World)(b:Nat)(ph cu:Int)(a1 a2 a3 a4:Option Addr)(n1 n2 n3 n4 c1 c2 c3 c4:Nat):Prop where
 lt:b<w.heap.size
 c:C6 w b ph cu a1 a2 a3 a4 n1 n2 n3 n4 c1 c2 c3 c4
theorem Bx.below{w w':World}{b:Nat}{ph cu:Int}{a1 a2 a3 a4:Option Addr}{n1 n2 n3 n4 c1 c2 c3 c4:Nat}(h:Bx w b ph cu a1 a2 a3 a4 n1 n2 n3 n4 c1 c2 c3 c4)(hb:Below w.heap.size w w'):Bx w' b ph cu a1 a2 a3 a4 n1 n2 n3 n4 c1 c2 c3 c4:=
 ⟨Nat.lt_of_lt_of_le h.lt hb.size,(hb.cell (p:=⟨b,0,none⟩) h.lt).trans h.c.1,(hb.cell (p:=⟨b,1,none⟩) h.lt).trans h.c.2.1,(hb.cell (p:=⟨b,2,none⟩) h.lt).trans h.c.2.2.1,(hb.cell (p:=⟨b,3,none⟩) h.lt).trans h.c.2.2.2.1,(hb.cell (p:=⟨b,4,none⟩) h.lt).trans h.c.2.2.2.2.1,(hb.cell (p:=⟨b,5,none⟩) h.lt).trans h.c.2.2.2.2.2⟩
theorem Bx.new(w:World)(ph cu:Int)(a1 a2 a3 a4:Option Addr)(n1 n2 n3 n4 c1 c2 c3 c4:Nat)(t:TypeId):Bx (w.alloc (.cells #[.int .i64 ph,.int .i64 cu,.slice a1 n1 c1,.slice a2 n2 c2,.slice a3 n3 c3,.slice a4 n4 c4] t)) w.heap.size ph cu a1 a2 a3 a4 n1 n2 n3 n4 c1 c2 c3 c4:=
 ⟨by simp,(bI (heap_alloc_new w _)).1⟩
theorem Bx.tch{w w':World}{b x y:Nat}{ph cu:Int}{a1 a2 a3 a4:Option Addr}{n1 n2 n3 n4 c1 c2 c3 c4:Nat}(h:Bx w b ph cu a1 a2 a3 a4 n1 n2 n3 n4 c1 c2 c3 c4)(ht:Tch x y w w')(hb:b<x∨y<=b):Bx w' b ph cu a1 a2 a3 a4 n1 n2 n3 n4 c1 c2 c3 c4:=by
 have e:w'.heap[b]? = w.heap[b]?:=ht.block b h.lt hb
 have q:=fun j=>World.cell?_of_block (a:=⟨b,j,none⟩) e
 exact⟨Nat.lt_of_lt_of_le h.lt ht.size,(q 0).trans h.c.1,(q 1).trans h.c.2.1,(q 2).trans h.c.2.2.1,(q 3).trans h.c.2.2.2.1,(q 4).trans h.c.2.2.2.2.1,(q 5).trans h.c.2.2.2.2.2⟩
end U
end Go.Proofs.YtmnfokgllcdiiaaGreat
