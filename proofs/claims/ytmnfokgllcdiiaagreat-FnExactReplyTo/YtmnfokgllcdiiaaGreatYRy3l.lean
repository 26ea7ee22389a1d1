/- A reply in a box. -/
import Derived.Test.YtmnfokgllcdiiaaGreatYRy2
namespace Go.Proofs.YtmnfokgllcdiiaaGreat
open Go.RowKit
namespace U
theorem Nq{w:World}{g:Nat}{y0 y1 y2 y3 y4 y5 y6 y7 y8 y9 fF fG fH y13:Value}{t:TypeId}(h:w.heap[g]? = some (.cells #[y0,y1,y2,y3,y4,y5,y6,y7,y8,y9,fF,fG,fH,y13] t))(x0 x1 x2 x3 x4 x5 x6 x7 x8 x9 x10 x11 x12 kD:Value):((((((((((((((w.setCell ⟨g,0,none⟩ x0).setCell ⟨g,1,none⟩ x1).setCell ⟨g,2,none⟩ x2).setCell ⟨g,3,none⟩ x3).setCell ⟨g,4,none⟩ x4).setCell ⟨g,5,none⟩ x5).setCell ⟨g,6,none⟩ x6).setCell ⟨g,7,none⟩ x7).setCell ⟨g,8,none⟩ x8).setCell ⟨g,9,none⟩ x9).setCell ⟨g,10,none⟩ x10).setCell ⟨g,11,none⟩ x11).setCell ⟨g,12,none⟩ x12).setCell ⟨g,13,none⟩ kD).heap[g]? = some (.cells #[x0,x1,x2,x3,x4,x5,x6,x7,x8,x9,x10,x11,x12,kD] t):=by
 have h:=heap_setCell_same w g 0 _ t x0 h
 have h:=heap_setCell_same _ g 1 _ t x1 h
 have h:=heap_setCell_same _ g 2 _ t x2 h
 have h:=heap_setCell_same _ g 3 _ t x3 h
 have h:=heap_setCell_same _ g 4 _ t x4 h
 have h:=heap_setCell_same _ g 5 _ t x5 h
 have h:=heap_setCell_same _ g 6 _ t x6 h
 have h:=heap_setCell_same _ g 7 _ t x7 h
 have h:=heap_setCell_same _ g 8 _ t x8 h
 have h:=heap_setCell_same _ g 9 _ t x9 h
 have h:=heap_setCell_same _ g 10 _ t x10 h
 have h:=heap_setCell_same _ g 11 _ t x11 h
 have h:=heap_setCell_same _ g 12 _ t x12 h
 have h:=heap_setCell_same _ g 13 _ t kD h
 simpa using h
theorem Ko{w:World}{g k:Nat}(hk:k≠g)(x0 x1 x2 x3 x4 x5 x6 x7 x8 x9 x10 x11 x12 kD:Value):((((((((((((((w.setCell ⟨g,0,none⟩ x0).setCell ⟨g,1,none⟩ x1).setCell ⟨g,2,none⟩ x2).setCell ⟨g,3,none⟩ x3).setCell ⟨g,4,none⟩ x4).setCell ⟨g,5,none⟩ x5).setCell ⟨g,6,none⟩ x6).setCell ⟨g,7,none⟩ x7).setCell ⟨g,8,none⟩ x8).setCell ⟨g,9,none⟩ x9).setCell ⟨g,10,none⟩ x10).setCell ⟨g,11,none⟩ x11).setCell ⟨g,12,none⟩ x12).setCell ⟨g,13,none⟩ kD).heap[k]? = w.heap[k]?:=by
 rw[heap_setCell_other _ ⟨g,13,none⟩ k _ hk,heap_setCell_other _ ⟨g,12,none⟩ k _ hk,heap_setCell_other _ ⟨g,11,none⟩ k _ hk,heap_setCell_other _ ⟨g,10,none⟩ k _ hk,heap_setCell_other _ ⟨g,9,none⟩ k _ hk,heap_setCell_other _ ⟨g,8,none⟩ k _ hk,heap_setCell_other _ ⟨g,7,none⟩ k _ hk,heap_setCell_other _ ⟨g,6,none⟩ k _ hk,heap_setCell_other _ ⟨g,5,none⟩ k _ hk,heap_setCell_other _ ⟨g,4,none⟩ k _ hk,heap_setCell_other _ ⟨g,3,none⟩ k _ hk,heap_setCell_other _ ⟨g,2,none⟩ k _ hk,heap_setCell_other _ ⟨g,1,none⟩ k _ hk,heap_setCell_other _ ⟨g,0,none⟩ k _ hk]
theorem jg{W w:World}{g:Nat}(hb:Below W.heap.size W w)(hg:W.heap.size<=g)(x0 x1 x2 x3 x4 x5 x6 x7 x8 x9 x10 x11 x12 kD:Value):Below W.heap.size W ((((((((((((((w.setCell ⟨g,0,none⟩ x0).setCell ⟨g,1,none⟩ x1).setCell ⟨g,2,none⟩ x2).setCell ⟨g,3,none⟩ x3).setCell ⟨g,4,none⟩ x4).setCell ⟨g,5,none⟩ x5).setCell ⟨g,6,none⟩ x6).setCell ⟨g,7,none⟩ x7).setCell ⟨g,8,none⟩ x8).setCell ⟨g,9,none⟩ x9).setCell ⟨g,10,none⟩ x10).setCell ⟨g,11,none⟩ x11).setCell ⟨g,12,none⟩ x12).setCell ⟨g,13,none⟩ kD):=
 ((((((((((((((hb.setCell hg _).setCell hg _).setCell hg _).setCell hg _).setCell hg _).setCell hg _).setCell hg _).setCell hg _).setCell hg _).setCell hg _).setCell hg _).setCell hg _).setCell hg _).setCell hg _)
structure ZQ(w:World)(g:Nat):Prop where
 c:w.heap[g]? = some (.cells #[.int .i64 0,.bool false,.string ⟨#[]⟩,.int .i64 0,.int .i64 0,.int .i64 0,.bool false,.bool false,.int .i64 0,.slice none 0 0,.bool false,.int .i64 0,.int .i64 0,.slice none 0 0] 70)
theorem ZQ.lt{w:World}{g:Nat}(h:ZQ w g):g<w.heap.size:=(Array.getElem?_eq_some_iff.1 h.c).1
theorem ZQ.below{w w':World}{g:Nat}(h:ZQ w g)(hb:Below w.heap.size w w'):ZQ w' g:=⟨(hb.block _ h.lt).trans h.c⟩
theorem ZQ.new(w:World):ZQ (w.alloc (.cells #[.int .i64 0,.bool false,.string ⟨#[]⟩,.int .i64 0,.int .i64 0,.int .i64 0,.bool false,.bool false,.int .i64 0,.slice none 0 0,.bool false,.int .i64 0,.int .i64 0,.slice none 0 0] 70)) w.heap.size:=⟨heap_alloc_new w _⟩
theorem ZQ.drew{w:World}{g:Nat}(h:ZQ w g):ZQ w.drew g:=h.below (Below.refl _ _).drew
structure SrB(W w:World)(g lo:Nat)(x0 x1 x2 x3 x4 x5 x6 x7 x8 x9 x10 x11 x12 kD:Value)(ps:List Int)(ws:Prl)(a b:Option Addr)(c d:Nat):Prop where
 e:w.heap[g]? = some (.cells #[x0,x1,x2,x3,x4,x5,x6,x7,x8,x9,x10,x11,x12,kD] 70)
 l:W.heap.size<=g
 bel:Below W.heap.size W w
 row:bK lo w ps ws a b c d
 lo:W.heap.size<=lo
 ne:∀y,(Value.slice a ps.length c).ownBlock=some y∨(Value.slice b ws.length d).ownBlock=some y->y≠g
theorem SrB.new{W w:World}{lo:Nat}{ps:List Int}{ws:Prl}{a b:Option Addr}{c d:Nat}(x0 x1 x2 x3 x4 x5 x6 x7 x8 x9 x10 x11 x12 kD:Value)(hb:Below W.heap.size W w)(hr:bK lo w ps ws a b c d)(hl:W.heap.size<=lo):SrB W (w.alloc (.cells #[x0,x1,x2,x3,x4,x5,x6,x7,x8,x9,x10,x11,x12,kD] 70)) w.heap.size lo x0 x1 x2 x3 x4 x5 x6 x7 x8 x9 x10 x11 x12 kD ps ws a b c d:=
 ⟨heap_alloc_new w _,hb.size,hb.alloc hb.size _,hr.below (aj _),hl,fun _ hy=>Nat.ne_of_lt (hr.blk hy).2⟩
theorem SrB.put{W w:World}{g lo:Nat}{ps:List Int}{ws:Prl}{a b:Option Addr}{c d:Nat}(x0 x1 x2 x3 x4 x5 x6 x7 x8 x9 x10 x11 x12 kD:Value)(hz:ZQ w g)(hg:W.heap.size<=g)(hb:Below W.heap.size W w)(hr:bK lo w ps ws a b c d)(hl:W.heap.size<=lo)(hgl:g<lo):SrB W ((((((((((((((w.setCell ⟨g,0,none⟩ x0).setCell ⟨g,1,none⟩ x1).setCell ⟨g,2,none⟩ x2).setCell ⟨g,3,none⟩ x3).setCell ⟨g,4,none⟩ x4).setCell ⟨g,5,none⟩ x5).setCell ⟨g,6,none⟩ x6).setCell ⟨g,7,none⟩ x7).setCell ⟨g,8,none⟩ x8).setCell ⟨g,9,none⟩ x9).setCell ⟨g,10,none⟩ x10).setCell ⟨g,11,none⟩ x11).setCell ⟨g,12,none⟩ x12).setCell ⟨g,13,none⟩ kD) g lo x0 x1 x2 x3 x4 x5 x6 x7 x8 x9 x10 x11 x12 kD ps ws a b c d:=
 ⟨Nq hz.c _ _ _ _ _ _ _ _ _ _ _ _ _ _ ,hg,jg hb hg _ _ _ _ _ _ _ _ _ _ _ _ _ _ ,hr.same (fun _ hy=>Ko (Nat.ne_of_gt (Nat.lt_of_lt_of_le hgl (hr.blk hy).1)) _ _ _ _ _ _ _ _ _ _ _ _ _ _),hl,fun _ hy=>Nat.ne_of_gt (Nat.lt_of_lt_of_le hgl (hr.blk hy).1)⟩
theorem SrB.set0{W w:World}{g lo:Nat}{x0 x1 x2 x3 x4 x5 x6 x7 x8 x9 x10 x11 x12 kD:Value}{ps:List Int}{ws:Prl}{a b:Option Addr}{c d:Nat}(h:SrB W w g lo x0 x1 x2 x3 x4 x5 x6 x7 x8 x9 x10 x11 x12 kD ps ws a b c d)(y:Value):SrB W (w.setCell ⟨g,0,none⟩ y) g lo y x1 x2 x3 x4 x5 x6 x7 x8 x9 x10 x11 x12 kD ps ws a b c d:=
 ⟨by simpa using heap_setCell_same w g 0 _ _ y h.e,h.l,h.bel.setCell h.l _,h.row.same fun k hk=>heap_setCell_other _ ⟨g,0,none⟩ k _ (h.ne k hk),h.lo,h.ne⟩
end U
end Go.Proofs.YtmnfokgllcdiiaaGreat
