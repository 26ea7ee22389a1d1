/- What is said of a key by a directory, by the program. -/
import Derived.Test.YtmnfokgllcdiiaaGreatYZz
import Derived.Deep.Cut
import Derived.Test.YtmnfokgllcdiiaaGreatYRy1
import Derived.Test.YtmnfokgllcdiiaaGreatYBB
import Derived.Test.YtmnfokgllcdiiaaGreatYBC
import Derived.Test.YtmnfokgllcdiiaaGreatYBG
import Derived.Test.YtmnfokgllcdiiaaGreatYFo1
import Derived.Test.YtmnfokgllcdiiaaGreatYBA
import Derived.Test.YtmnfokgllcdiiaaGreatYBD
import Derived.Test.YtmnfokgllcdiiaaGreatYRX
set_option maxRecDepth 100000
set_option maxHeartbeats 8000000
namespace Go.Proofs.YtmnfokgllcdiiaaGreat
open Go.RowKit Go.Maps
namespace U
theorem bK.blk{lo:Nat}{w:World}{ps:List Int}{ws:Prl}{a b:Option Addr}{c d:Nat}(h:bK lo w ps ws a b c d){y:Nat}(hy:(Value.slice a ps.length c).ownBlock=some y∨(Value.slice b ws.length d).ownBlock=some y):lo<=y/\y<w.heap.size:=by
 obtain⟨⟨t,h1⟩,h2,-⟩:=h
 rcases hy with hy | hy
 ·exact gY h1 hy
 ·exact gY h2 hy
theorem bK.same{lo:Nat}{w w':World}{ps:List Int}{ws:Prl}{a b:Option Addr}{c d:Nat}(h:bK lo w ps ws a b c d)(hb:∀y,(Value.slice a ps.length c).ownBlock=some y∨(Value.slice b ws.length d).ownBlock=some y->w'.heap[y]? = w.heap[y]?):bK lo w' ps ws a b c d:=by
 obtain⟨⟨t,h1⟩,h2,h3⟩:=h
 exact⟨⟨t,lN h1 fun y hy=>hb y (Or.inl hy)⟩,lN h2 fun y hy=>hb y (Or.inr hy),h3⟩
theorem bK.below{lo:Nat}{w w':World}{ps:List Int}{ws:Prl}{a b:Option Addr}{c d:Nat}(h:bK lo w ps ws a b c d)(hb:Below w.heap.size w w'):bK lo w' ps ws a b c d:=h.same fun _ hy=>hb.block _ (h.blk hy).2
structure SgB(W w:World)(g lo:Nat)(x0 x1 x2 x3 x4 x5 x6 x7:Value)(ps:List Int)(ws:Prl)(a b:Option Addr)(c d:Nat):Prop where
 e:w.heap[g]? = some (.cells #[x0,x1,x2,x3,x4,x5,x6,x7] 68)
 l:W.heap.size<=g
 bel:Below W.heap.size W w
 row:bK lo w ps ws a b c d
 lo:W.heap.size<=lo
 ne:∀y,(Value.slice a ps.length c).ownBlock=some y∨(Value.slice b ws.length d).ownBlock=some y->y≠g
theorem SgB.lt{W w:World}{g lo:Nat}{x0 x1 x2 x3 x4 x5 x6 x7:Value}{ps:List Int}{ws:Prl}{a b:Option Addr}{c d:Nat}(h:SgB W w g lo x0 x1 x2 x3 x4 x5 x6 x7 ps ws a b c d):g<w.heap.size:=(Array.getElem?_eq_some_iff.1 h.e).1
theorem SgB.below{W w w':World}{g lo:Nat}{x0 x1 x2 x3 x4 x5 x6 x7:Value}{ps:List Int}{ws:Prl}{a b:Option Addr}{c d:Nat}(h:SgB W w g lo x0 x1 x2 x3 x4 x5 x6 x7 ps ws a b c d)(hb:Below w.heap.size w w'):SgB W w' g lo x0 x1 x2 x3 x4 x5 x6 x7 ps ws a b c d:=
 ⟨(hb.block _ h.lt).trans h.e,h.l,ah h.bel hb,h.row.below hb,h.lo,h.ne⟩
theorem SgB.new{W w:World}{lo:Nat}{ps:List Int}{ws:Prl}{a b:Option Addr}{c d:Nat}(x0 x1 x2 x3 x4 x5 x6 x7:Value)(hb:Below W.heap.size W w)(hr:bK lo w ps ws a b c d)(hl:W.heap.size<=lo):SgB W (w.alloc (.cells #[x0,x1,x2,x3,x4,x5,x6,x7] 68)) w.heap.size lo x0 x1 x2 x3 x4 x5 x6 x7 ps ws a b c d:=
 ⟨heap_alloc_new w _,hb.size,hb.alloc hb.size _,hr.below (aj _),hl,fun _ hy=>Nat.ne_of_lt (hr.blk hy).2⟩
theorem Pz{w:World}{g:Nat}{y0 y1 y2 y3 y4 y5 y6 y7:Value}{t:TypeId}(h:w.heap[g]? = some (.cells #[y0,y1,y2,y3,y4,y5,y6,y7] t))(x0 x1 x2 x3 x4 x5 x6 x7:Value):((((((((w.setCell ⟨g,0,none⟩ x0).setCell ⟨g,1,none⟩ x1).setCell ⟨g,2,none⟩ x2).setCell ⟨g,3,none⟩ x3).setCell ⟨g,4,none⟩ x4).setCell ⟨g,5,none⟩ x5).setCell ⟨g,6,none⟩ x6).setCell ⟨g,7,none⟩ x7).heap[g]? = some (.cells #[x0,x1,x2,x3,x4,x5,x6,x7] t):=by
 have h:=heap_setCell_same w g 0 _ t x0 h
 have h:=heap_setCell_same _ g 1 _ t x1 h
 have h:=heap_setCell_same _ g 2 _ t x2 h
 have h:=heap_setCell_same _ g 3 _ t x3 h
 have h:=heap_setCell_same _ g 4 _ t x4 h
 have h:=heap_setCell_same _ g 5 _ t x5 h
 have h:=heap_setCell_same _ g 6 _ t x6 h
 have h:=heap_setCell_same _ g 7 _ t x7 h
 simpa using h
theorem Nr{w:World}{g k:Nat}(hk:k≠g)(x0 x1 x2 x3 x4 x5 x6 x7:Value):((((((((w.setCell ⟨g,0,none⟩ x0).setCell ⟨g,1,none⟩ x1).setCell ⟨g,2,none⟩ x2).setCell ⟨g,3,none⟩ x3).setCell ⟨g,4,none⟩ x4).setCell ⟨g,5,none⟩ x5).setCell ⟨g,6,none⟩ x6).setCell ⟨g,7,none⟩ x7).heap[k]? = w.heap[k]?:=by
 rw[heap_setCell_other _ ⟨g,7,none⟩ k _ hk,heap_setCell_other _ ⟨g,6,none⟩ k _ hk,heap_setCell_other _ ⟨g,5,none⟩ k _ hk,heap_setCell_other _ ⟨g,4,none⟩ k _ hk,heap_setCell_other _ ⟨g,3,none⟩ k _ hk,heap_setCell_other _ ⟨g,2,none⟩ k _ hk,heap_setCell_other _ ⟨g,1,none⟩ k _ hk,heap_setCell_other _ ⟨g,0,none⟩ k _ hk]
theorem dZ{W w:World}{g:Nat}(hb:Below W.heap.size W w)(hg:W.heap.size<=g)(x0 x1 x2 x3 x4 x5 x6 x7:Value):Below W.heap.size W ((((((((w.setCell ⟨g,0,none⟩ x0).setCell ⟨g,1,none⟩ x1).setCell ⟨g,2,none⟩ x2).setCell ⟨g,3,none⟩ x3).setCell ⟨g,4,none⟩ x4).setCell ⟨g,5,none⟩ x5).setCell ⟨g,6,none⟩ x6).setCell ⟨g,7,none⟩ x7):=
 (((((((hb.setCell hg _).setCell hg _).setCell hg _).setCell hg _).setCell hg _).setCell hg _).setCell hg _).setCell hg _
structure ZS(w:World)(g:Nat):Prop where
 c:w.heap[g]? = some (.cells #[.bool false,.bool false,.int .i64 0,.slice none 0 0,.bool false,.int .i64 0,.int .i64 0,.slice none 0 0] 68)
theorem ZS.lt{w:World}{g:Nat}(h:ZS w g):g<w.heap.size:=(Array.getElem?_eq_some_iff.1 h.c).1
theorem ZS.below{w w':World}{g:Nat}(h:ZS w g)(hb:Below w.heap.size w w'):ZS w' g:=⟨(hb.block _ h.lt).trans h.c⟩
theorem ZS.new(w:World):ZS (w.alloc (.cells #[.bool false,.bool false,.int .i64 0,.slice none 0 0,.bool false,.int .i64 0,.int .i64 0,.slice none 0 0] 68)) w.heap.size:=⟨heap_alloc_new w _⟩
theorem ZS.drew{w:World}{g:Nat}(h:ZS w g):ZS w.drew g:=h.below (Below.refl _ _).drew
theorem SgB.put{W w:World}{g lo:Nat}{ps:List Int}{ws:Prl}{a b:Option Addr}{c d:Nat}(x0 x1 x2 x3 x4 x5 x6 x7:Value)(hz:ZS w g)(hg:W.heap.size<=g)(hb:Below W.heap.size W w)(hr:bK lo w ps ws a b c d)(hl:W.heap.size<=lo)(hgl:g<lo):SgB W ((((((((w.setCell ⟨g,0,none⟩ x0).setCell ⟨g,1,none⟩ x1).setCell ⟨g,2,none⟩ x2).setCell ⟨g,3,none⟩ x3).setCell ⟨g,4,none⟩ x4).setCell ⟨g,5,none⟩ x5).setCell ⟨g,6,none⟩ x6).setCell ⟨g,7,none⟩ x7) g lo x0 x1 x2 x3 x4 x5 x6 x7 ps ws a b c d:=
 ⟨Pz hz.c _ _ _ _ _ _ _ _,hg,dZ hb hg _ _ _ _ _ _ _ _,hr.same (fun _ hy=>Nr (Nat.ne_of_gt (Nat.lt_of_lt_of_le hgl (hr.blk hy).1)) _ _ _ _ _ _ _ _),hl,fun _ hy=>Nat.ne_of_gt (Nat.lt_of_lt_of_le hgl (hr.blk hy).1)⟩
theorem SgB.set1{W w:World}{g lo:Nat}{x0 x1 x2 x3 x4 x5 x6 x7:Value}{ps:List Int}{ws:Prl}{a b:Option Addr}{c d:Nat}(h:SgB W w g lo x0 x1 x2 x3 x4 x5 x6 x7 ps ws a b c d)(y:Value):SgB W (w.setCell ⟨g,1,none⟩ y) g lo x0 y x2 x3 x4 x5 x6 x7 ps ws a b c d:=
 ⟨by simpa using heap_setCell_same w g 1 _ _ y h.e,h.l,h.bel.setCell h.l _,h.row.same fun k hk=>heap_setCell_other _ ⟨g,1,none⟩ k _ (h.ne k hk),h.lo,h.ne⟩
theorem SgB.set2{W w:World}{g lo:Nat}{x0 x1 x2 x3 x4 x5 x6 x7:Value}{ps:List Int}{ws:Prl}{a b:Option Addr}{c d:Nat}(h:SgB W w g lo x0 x1 x2 x3 x4 x5 x6 x7 ps ws a b c d)(y:Value):SgB W (w.setCell ⟨g,2,none⟩ y) g lo x0 x1 y x3 x4 x5 x6 x7 ps ws a b c d:=
 ⟨by simpa using heap_setCell_same w g 2 _ _ y h.e,h.l,h.bel.setCell h.l _,h.row.same fun k hk=>heap_setCell_other _ ⟨g,2,none⟩ k _ (h.ne k hk),h.lo,h.ne⟩
def fZ(w:World)(ep:Int)(held:Bool)(x0:ByteArray)(x1 x2 x3:Int)(old:Bool)(val:Int)(ps:List Int)(tx:Bool)(tk ty:Int)(ws:Prl)(e:Ending)(w':World):Prop:=
 ∃a b c d,e = .returned (.agg #[.int .i64 ep,.bool held,.string x0,.int .i64 x1,.int .i64 x2,.int .i64 x3,.bool old,.bool held,.int .i64 val,.slice a ps.length c,.bool tx,.int .i64 tk,.int .i64 ty,.slice b ws.length d])/\Below w.heap.size w w'/\bK w.heap.size w' ps ws a b c d
theorem dO{w:World}{g:Nat}{x y z:Value}{t:TypeId}(h:w.heap[g]? = some (.cells #[x,y,z] t)):w.cell? ⟨g,0,none⟩=some x/\w.cell? ⟨g,1,none⟩=some y/\w.cell? ⟨g,2,none⟩=some z:=by simp[World.cell?,h]
theorem kT{w:World}{g:Nat}{x y z u:Value}{t:TypeId}(h:w.heap[g]? = some (.cells #[x,y,z,u] t)):w.cell? ⟨g,0,none⟩=some x/\w.cell? ⟨g,1,none⟩=some y/\w.cell? ⟨g,2,none⟩=some z/\w.cell? ⟨g,3,none⟩=some u:=by simp[World.cell?,h]
theorem Bl(k:Int)(a:Option Addr)(n m:Nat)(w:World):(Instr.field 215 (.agg #[.int .i64 k,.slice a n m]) 1).run Tryz.prog w = .ok (.slice a n m) w:=by kernel_rfl
theorem Bj(k v:Int)(w:World):(Instr.field 89 (.agg #[.int .i64 k,.int .i64 v]) 1).run Tryz.prog w = .ok (.int .i64 v) w:=by kernel_rfl
theorem lF(P:Program)(w:World)(a:Addr)(m:Mode)(f:Fn)(x y:Array Value):(store a (.func f x y) m).run P w=stored P w a (.func f x y) m:=run_store P w a _ m rfl
theorem yK(v:Value)(l:Rcl)(key:Int)(tx:Bool)(tk ty:Int)(ps:List Int)(ws:Prl)(x0:ByteArray)(x1 x2 x3:Int)(w:World)(hv:Rcs w v l)(hl:Lbs l)(hd:aI l=0)(hk:0<=key/\key<256)(ho:lkO l key=some ⟨x0,x1,x2,x3⟩)
  (hSh:∀u w,Prs w u (aB l)->Okv u->Calls Tryz.prog 161 #[u,.int .i64 key] w fun e w'=>pR w true ps tx tk ty ws e w') :
  Calls Tryz.prog 76 #[.agg #[.func (.func 160) #[] #[],.func (.func 161) #[] #[],.func (.func 162) #[] #[]],.agg #[v],.int .i64 key] w fun e w'=>fZ w 0 true x0 x1 x2 x3 true (rsV x0 x1 x2 x3) ps tx tk ty ws e w':=by
 have hR:=fun w' (hb:Below w.heap.size w w')=>lD v l w' (hv.below hb) (dP hd)
 have hS:Hid (∀w',Below w.heap.size w w'->Calls Tryz.prog 128 #[.agg #[v]] w' fun e w''=>kG w' 0 (aB l) e w''):=fun w' hb=>by
  have h:=gW v l w' (hv.below hb) hl (by have:=(dP hd).len;omega)
  have e1:sfL l=aB l:=by unfold sfL;rw[if_pos hd]
  rw[hd,e1]at h
  exact h
 have hLk:∀w b n,gI w b n (dh l l.length)->(Instr.lookup 203 (.map (some b)) (.int .i64 key) true).run Tryz.prog w = .ok (.tuple #[uZ (dh l l.length key),.bool (dh l l.length key).isSome]) w:=fun w b n h=>h.look hk
 rw[xY (dP hd),ho]at hLk
 have hrs:x0.size<=1048576:=by
  have h1:=(LY ho).2
  have h2:=hl _ h1
  exact h2
 have hRS:=fun w=>kW x0 x1 x2 x3 w hrs
 unfold iO dG at hRS
 have hfi:=fun v w=>Bj (recC x0 x1 x2 x3) v w
 generalize rsV x0 x1 x2 x3=val at *
 generalize recC x0 x1 x2 x3=rcc at *
 obtain⟨va,vc,rfl⟩:=hv.shape
 generalize aB l=sl at *
 generalize dh l l.length=gm at *
 generalize l.length=n at *
 obtain⟨W,hW⟩:∃W,W=((w.alloc (.cells #[.func (.func 160) #[] #[],.func (.func 161) #[] #[],.func (.func 162) #[] #[]] 145)).alloc (.cells #[.slice va n vc] 36)).alloc (.cells #[.int .i64 0,.bool false,.string ⟨#[]⟩,.int .i64 0,.int .i64 0,.int .i64 0,.bool false,.bool false,.int .i64 0,.slice none 0 0,.bool false,.int .i64 0,.int .i64 0,.slice none 0 0] 70):=⟨_,rfl⟩
 have hBW:Below w.heap.size w W:=by rw[hW];exact(aA _ _).alloc (aA (w:=w) _ _).size _
 have hH:W.heap[w.heap.size+1+1]? = some (.cells #[.int .i64 0,.bool false,.string ⟨#[]⟩,.int .i64 0,.int .i64 0,.int .i64 0,.bool false,.bool false,.int .i64 0,.slice none 0 0,.bool false,.int .i64 0,.int .i64 0,.slice none 0 0] 70):=by
  have:=heap_alloc_new ((w.alloc (.cells #[.func (.func 160) #[] #[],.func (.func 161) #[] #[],.func (.func 162) #[] #[]] 145)).alloc (.cells #[.slice va n vc] 36)) (.cells #[.int .i64 0,.bool false,.string ⟨#[]⟩,.int .i64 0,.int .i64 0,.int .i64 0,.bool false,.bool false,.int .i64 0,.slice none 0 0,.bool false,.int .i64 0,.int .i64 0,.slice none 0 0] 70)
  rw[World.size_alloc,World.size_alloc]at this
  rw[hW]
  exact this
 have hT:W.heap[w.heap.size]? = some (.cells #[.func (.func 160) #[] #[],.func (.func 161) #[] #[],.func (.func 162) #[] #[]] 145):=by
  rw[hW]
  exact((aj _).block w.heap.size (by simp;omega)).trans (((aj _).block w.heap.size (by simp)).trans (heap_alloc_new w _))
 have hD:W.heap[w.heap.size+1]? = some (.cells #[.slice va n vc] 36):=by
  have h1:=heap_alloc_new (w.alloc (.cells #[.func (.func 160) #[] #[],.func (.func 161) #[] #[],.func (.func 162) #[] #[]] 145)) (.cells #[.slice va n vc] 36)
  rw[World.size_alloc]at h1
  rw[hW]
  exact((aj _).block (w.heap.size+1) (by simp)).trans h1
 have oO:=(Array.getElem?_eq_some_iff.1 hH).1
 have HW:Hid (_=W):=hW.symm
 have HT:Hid (∀w',Below W.heap.size W w'->w'.cell? ⟨w.heap.size,0,none⟩=some (.func (.func 160) #[] #[])/\w'.cell? ⟨w.heap.size,1,none⟩=some (.func (.func 161) #[] #[])/\w'.cell? ⟨w.heap.size,2,none⟩=some (.func (.func 162) #[] #[])):=fun w' hb=>dO ((hb.block _ (by omega)).trans hT)
 have HD:Hid (∀w',Below W.heap.size W w'->w'.cell? ⟨w.heap.size+1,0,none⟩=some (.slice va n vc)):=fun w' hb=>pU ((hb.block _ (by omega)).trans hD)
 have HH:Hid (∀w',Below W.heap.size W w'->w'.heap[w.heap.size+1+1]? = some (.cells #[.int .i64 0,.bool false,.string ⟨#[]⟩,.int .i64 0,.int .i64 0,.int .i64 0,.bool false,.bool false,.int .i64 0,.slice none 0 0,.bool false,.int .i64 0,.int .i64 0,.slice none 0 0] 70)):=fun w' hb=>(hb.block _ oO).trans hH
 have fB:Hid (Below w.heap.size w W):=hBW
 have qg:Hid (w.heap.size+1+1<W.heap.size):=oO
 have hd0:=HD.out W (Below.refl _ _)
 have hft:=lF
 have wz:=hR W hBW
 clear hR hv hl hd hk ho hW hH hT hD hBW oO
 rw[←HW.out]at hd0
 go_enter Tryz.func76,Tryz.ntmps76
 go_wp2_with fail
 rw[HW.out]
 refine wz.mono ?_
 rintro e w1 ⟨rfl,hb1,hM⟩
 have hlk:=hLk _ _ _ hM
 unfold uZ at hlk
 dsimp only[Option.getD,Option.isSome,Rc.val,rcZ]at hlk
 clear wz hLk hM hd0
 have sO:Hid (∃V,V=w1.alloc (.cells #[.string x0,.int .i64 x1,.int .i64 x2,.int .i64 x3] 46)):=⟨_,rfl⟩
 go_wp2_with fail
 obtain⟨V,hV⟩:=sO.out
 rw[←hV]
 have dQ:Below W.heap.size W V:=by rw[hV];exact hb1.alloc hb1.size _
 have qH:V.heap[w1.heap.size]? = some (.cells #[.string x0,.int .i64 x1,.int .i64 x2,.int .i64 x3] 46):=by rw[hV];exact heap_alloc_new w1 _
 have qK:=(Array.getElem?_eq_some_iff.1 qH).1
 have hl1:=hb1.size
 have mO:Hid (∀w',Below V.heap.size V w'->Below w.heap.size w w'):=fun w' hb=>ah fB.out (ah dQ hb)
 have sN:Hid (∀w',Below V.heap.size V w'->w'.heap[w1.heap.size]? = some (.cells #[.string x0,.int .i64 x1,.int .i64 x2,.int .i64 x3] 46)):=fun w' hb=>(hb.block _ qK).trans qH
 have vK:Hid (∀w',Below V.heap.size V w'->w'.heap[w.heap.size+1+1]? = some (.cells #[.int .i64 0,.bool false,.string ⟨#[]⟩,.int .i64 0,.int .i64 0,.int .i64 0,.bool false,.bool false,.int .i64 0,.slice none 0 0,.bool false,.int .i64 0,.int .i64 0,.slice none 0 0] 70)):=fun w' hb=>HH.out w' (ah dQ hb)
 have p1:∀w',Below V.heap.size V w'->w'.cell? ⟨w.heap.size,1,none⟩=some (.func (.func 161) #[] #[]):=fun w' hb=>(HT.out w' (ah dQ hb)).2.1
 have p2:∀w',Below V.heap.size V w'->w'.cell? ⟨w.heap.size+1,0,none⟩=some (.slice va n vc):=fun w' hb=>HD.out w' (ah dQ hb)
 have hfs:=fun a n m w=>Bl 0 a n m w
 have oG:Hid (w.heap.size+1+1<V.heap.size/\w1.heap.size<V.heap.size/\¬w1.heap.size=w.heap.size+1+1):=⟨by have:=qg.out;have:=dQ.size;omega,qK,by have:=qg.out;omega⟩
 clear hV sO HW HT HD HH hlk hb1 dQ qH qK hl1 fB qg
 refine Code.wp_mono (Q:=fun e a' w'=>e=Exit.normal/\∃(gg lo:Nat)(zo:Option Addr)(zc:Nat)(a b:Option Addr)(c d:Nat),a' = {tmps:=#[.agg #[.func (.func 160) #[] #[],.func (.func 161) #[] #[],.func (.func 162) #[] #[]],.agg #[.slice va n vc],.int .i64 key,.pointer (some ⟨w.heap.size,0,none⟩),.pointer (some ⟨w.heap.size+1,0,none⟩),undef,.pointer (some ⟨w.heap.size+1+1,0,none⟩),.pointer (some ⟨w1.heap.size,0,none⟩),.bool true,.pointer (some ⟨gg,0,none⟩),.tuple #[.agg #[.string x0,.int .i64 x1,.int .i64 x2,.int .i64 x3],.bool true],.agg #[.slice va n vc],.map (some (W.heap.size+1)),.int .i64 key,.tuple #[.agg #[.string x0,.int .i64 x1,.int .i64 x2,.int .i64 x3],.bool true],.agg #[.string x0,.int .i64 x1,.int .i64 x2,.int .i64 x3],.bool true,.pointer (some ⟨w.heap.size,1,none⟩),.func (.func 161) #[] #[],.agg #[.slice va n vc],.agg #[.int .i64 0,.slice zo sl.length zc],.slice zo sl.length zc,.int .i64 key,.agg #[.bool true,.bool false,.int .i64 0,.slice a ps.length c,.bool tx,.int .i64 tk,.int .i64 ty,.slice b ws.length d],undef,undef,undef,undef,undef,undef,undef,undef,undef,undef,undef],defers:=[]}/\SgB V w' gg lo (.bool true) (.bool false) (.int .i64 0) (.slice a ps.length c) (.bool tx) (.int .i64 tk) (.int .i64 ty) (.slice b ws.length d) ps ws a b c d) ?tail ?reg
 case reg=>
  refine wp_region_held_drew (S:=fun w'=>Below V.heap.size V w') (by kernel_rfl) ((Below.refl _ _).drew) (fun hHeld=> ?_)
  refine aF (i:=0) (d:=some 17) (v:= ?Xa) (by rfl) (by kernel_rfl) (by kernel_rfl) (by kernel_rfl) (fun _ _ _ h=>(by cases h.1)) (by rfl) ?zZ hHeld ?Js
  case zZ=>
   intro o ho
   simp only[aaJ,aaK,aaM]at ho
   subst ho
   intro w' hSw
   first |(go_simp;done) |(go_simp;with_reducible rfl)
  try simp only[Act.put,aaG,aaH,aaI]
  refine aF (i:=1) (d:=some 18) (v:= ?Xb) (by rfl) (by kernel_rfl) (by kernel_rfl) (by kernel_rfl) (fun _ _ _ h=>(by cases h.1)) (by rfl) ?Aa hHeld ?Jt
  case Aa=>
   intro o ho
   simp only[aaJ,aaL,aaK,aaM]at ho
   subst ho
   intro w' hSw
   first |(go_simp;done) |(go_simp;with_reducible rfl)
  try simp only[Act.put,aaG,aaH,aaI]
  refine aF (i:=2) (d:=some 19) (v:= ?Xc) (by rfl) (by kernel_rfl) (by kernel_rfl) (by kernel_rfl) (fun _ _ _ h=>(by cases h.1)) (by rfl) ?Ac hHeld ?Ju
  case Ac=>
   intro o ho
   simp only[aaJ,aaL,aaK,aaM]at ho
   subst ho
   intro w' hSw
   first |(go_simp;done) |(go_simp;with_reducible rfl)
  try simp only[Act.put,aaG,aaH,aaI]
  refine aF (i:=5) (d:=some 22) (v:= ?Xd) (by rfl) (by kernel_rfl) (by kernel_rfl) (by kernel_rfl) (fun _ _ _ h=>(by cases h.1)) (by rfl) ?Ad hHeld ?Jv
  case Ad=>
   intro o ho
   simp only[aaJ,aaL,aaK,aaM]at ho
   subst ho
   intro w' hSw
   first |(go_simp;done) |(go_simp;with_reducible rfl)
  try simp only[Act.put,aaG,aaH,aaI]
  refine wpAnyH_ready (rs:=[3,7]) (by kernel_rfl) (by simp) ?_
  refine AllReadyH.cons rfl (fun K hK=> ?_) (AllReadyH.cons rfl (fun K hK=> ?_) AllReadyH.nil)
  ·go_simp
   refine(hS.out _ (mO.out _ hHeld)).mono ?_
   rintro e wq hsa
   obtain⟨zo,zc,rfl,hbq,hown⟩:=hsa.use
   have hq:=ah hHeld hbq
   try(have G:=G.below hbq)
   have hpr:=aP hown
   have hok:=jW hown
   clear hsa hown
   refine hK.out _ _ ?_ (fun hHeld=> ?_)
   ·exact hq
   clear hK K
   try simp only[Act.put,aaG,aaH,aaI]
   refine aF (i:=4) (d:=some 21) (v:= ?Xe) (by rfl) (by kernel_rfl) (by kernel_rfl) (by kernel_rfl) (fun _ _ _ h=>(by cases h.1)) (by rfl) ?Ae hHeld ?Jw
   case Ae=>
    intro o ho
    simp only[aaJ,aaL,aaK,aaM]at ho
    subst ho
    intro w' hSw
    first |(go_simp;done) |(go_simp;with_reducible rfl)
   try simp only[Act.put,aaG,aaH,aaI]
   refine wpAnyH_ready (rs:=[6,7]) (by kernel_rfl) (by simp) ?_
   refine AllReadyH.cons rfl (fun K hK=> ?_) (AllReadyH.cons rfl (fun K hK=> ?_) AllReadyH.nil)
   ·go_simp
    have hlo:=hHeld.size
    try(have hg2:=G.lt)
    refine(hSh _ _ hpr hok).mono ?_
    rintro e wq ⟨a,b,c,d,rfl,hbq,hrow⟩
    have hq:=ah hHeld hbq
    try(have G:=G.below hbq)
    refine hK.out _ _ ?_ (fun hHeld=> ?_)
    ·exact hq
    clear hK K
    try simp only[Act.put,aaG,aaH,aaI]
    refine wpAnyH_ready (rs:=[7]) (by kernel_rfl) (by simp) ?_
    refine AllReadyH.cons rfl (fun K hK=> ?_) AllReadyH.nil
    ·go_simp
     first |(have G:=ZS.new wq;have hgg:=hq.size) |(have G:=(ZS.new V).drew;have hgg:=Nat.le_refl V.heap.size)
     try(have i3:=hrow;have iq:=hq;have ilo:=hlo)
     try(have hpr:=hpr.below (aj (.cells #[.bool false,.bool false,.int .i64 0,.slice none 0 0,.bool false,.int .i64 0,.int .i64 0,.slice none 0 0] 68)))
     refine hK.out _ _ ?_ (fun hHeld=> ?_)
     ·exact ah hHeld (aj _)
     clear hK K
     try simp only[Act.put,aaG,aaH,aaI]
     have hlast:=hHeld
     obtain⟨⟨y0,y1,y2,y3,y4,y5,y6,y7⟩,u0,u1,u2,u3,u4,u5,u6,u7⟩:=aK G.c
     refine wpAnyH_ready (rs:=[8]) (by kernel_rfl) (by simp) ?_
     refine AllReadyH.cons rfl (fun K hK=> ?_) AllReadyH.nil
     go_simp
     refine hK.out _ _ ?_ (fun hHeld=> ?_)
     ·first | with_reducible exact dZ hHeld hgg _ _ _ _ _ _ _ _ | with_reducible exact ah hq (aj _)
     clear hK K
     try simp only[Act.put,aaG,aaH,aaI]
     refine wpAnyH_done (by kernel_rfl) ?_ _
     first
      |(have HG:=SgB.put (.bool true) (.bool false) (.int .i64 0) (.slice a ps.length c) (.bool tx) (.int .i64 tk) (.int .i64 ty) (.slice b ws.length d) G hgg hlast hrow hlo hg2;exact⟨rfl,_,_,zo,zc,a,b,c,d,rfl,HG⟩)
      |(have HG:=SgB.new (.bool true) (.bool false) (.int .i64 0) (.slice a ps.length c) (.bool tx) (.int .i64 tk) (.int .i64 ty) (.slice b ws.length d) iq i3 ilo;exact⟨rfl,_,_,zo,zc,a,b,c,d,rfl,HG⟩)
   ·go_simp
    first |(have G:=ZS.new wq;have hgg:=hq.size) |(have G:=(ZS.new V).drew;have hgg:=Nat.le_refl V.heap.size)
    try(have i3:=hrow;have iq:=hq;have ilo:=hlo)
    try(have hpr:=hpr.below (aj (.cells #[.bool false,.bool false,.int .i64 0,.slice none 0 0,.bool false,.int .i64 0,.int .i64 0,.slice none 0 0] 68)))
    refine hK.out _ _ ?_ (fun hHeld=> ?_)
    ·exact ah hHeld (aj _)
    clear hK K
    try simp only[Act.put,aaG,aaH,aaI]
    refine wpAnyH_ready (rs:=[6]) (by kernel_rfl) (by simp) ?_
    refine AllReadyH.cons rfl (fun K hK=> ?_) AllReadyH.nil
    ·go_simp
     have hlo:=hHeld.size
     try(have hg2:=G.lt)
     refine(hSh _ _ hpr hok).mono ?_
     rintro e wq ⟨a,b,c,d,rfl,hbq,hrow⟩
     have hq:=ah hHeld hbq
     try(have G:=G.below hbq)
     refine hK.out _ _ ?_ (fun hHeld=> ?_)
     ·exact hq
     clear hK K
     try simp only[Act.put,aaG,aaH,aaI]
     have hlast:=hHeld
     obtain⟨⟨y0,y1,y2,y3,y4,y5,y6,y7⟩,u0,u1,u2,u3,u4,u5,u6,u7⟩:=aK G.c
     refine wpAnyH_ready (rs:=[8]) (by kernel_rfl) (by simp) ?_
     refine AllReadyH.cons rfl (fun K hK=> ?_) AllReadyH.nil
     go_simp
     refine hK.out _ _ ?_ (fun hHeld=> ?_)
     ·first | with_reducible exact dZ hHeld hgg _ _ _ _ _ _ _ _ | with_reducible exact ah hq (aj _)
     clear hK K
     try simp only[Act.put,aaG,aaH,aaI]
     refine wpAnyH_done (by kernel_rfl) ?_ _
     first
      |(have HG:=SgB.put (.bool true) (.bool false) (.int .i64 0) (.slice a ps.length c) (.bool tx) (.int .i64 tk) (.int .i64 ty) (.slice b ws.length d) G hgg hlast hrow hlo hg2;exact⟨rfl,_,_,zo,zc,a,b,c,d,rfl,HG⟩)
      |(have HG:=SgB.new (.bool true) (.bool false) (.int .i64 0) (.slice a ps.length c) (.bool tx) (.int .i64 tk) (.int .i64 ty) (.slice b ws.length d) iq i3 ilo;exact⟨rfl,_,_,zo,zc,a,b,c,d,rfl,HG⟩)
  ·go_simp
   first |(have G:=ZS.new wq;have hgg:=hq.size) |(have G:=(ZS.new V).drew;have hgg:=Nat.le_refl V.heap.size)
   try(have i3:=hrow;have iq:=hq;have ilo:=hlo)
   try(have hpr:=hpr.below (aj (.cells #[.bool false,.bool false,.int .i64 0,.slice none 0 0,.bool false,.int .i64 0,.int .i64 0,.slice none 0 0] 68)))
   refine hK.out _ _ ?_ (fun hHeld=> ?_)
   ·exact ah hHeld (aj _)
   clear hK K
   try simp only[Act.put,aaG,aaH,aaI]
   refine wpAnyH_ready (rs:=[3]) (by kernel_rfl) (by simp) ?_
   refine AllReadyH.cons rfl (fun K hK=> ?_) AllReadyH.nil
   ·go_simp
    refine(hS.out _ (mO.out _ hHeld)).mono ?_
    rintro e wq hsa
    obtain⟨zo,zc,rfl,hbq,hown⟩:=hsa.use
    have hq:=ah hHeld hbq
    try(have G:=G.below hbq)
    have hpr:=aP hown
    have hok:=jW hown
    clear hsa hown
    refine hK.out _ _ ?_ (fun hHeld=> ?_)
    ·exact hq
    clear hK K
    try simp only[Act.put,aaG,aaH,aaI]
    refine aF (i:=4) (d:=some 21) (v:= ?Xf) (by rfl) (by kernel_rfl) (by kernel_rfl) (by kernel_rfl) (fun _ _ _ h=>(by cases h.1)) (by rfl) ?Af hHeld ?Jy
    case Af=>
     intro o ho
     simp only[aaJ,aaL,aaK,aaM]at ho
     subst ho
     intro w' hSw
     first |(go_simp;done) |(go_simp;with_reducible rfl)
    try simp only[Act.put,aaG,aaH,aaI]
    refine wpAnyH_ready (rs:=[6]) (by kernel_rfl) (by simp) ?_
    refine AllReadyH.cons rfl (fun K hK=> ?_) AllReadyH.nil
    ·go_simp
     have hlo:=hHeld.size
     try(have hg2:=G.lt)
     refine(hSh _ _ hpr hok).mono ?_
     rintro e wq ⟨a,b,c,d,rfl,hbq,hrow⟩
     have hq:=ah hHeld hbq
     try(have G:=G.below hbq)
     refine hK.out _ _ ?_ (fun hHeld=> ?_)
     ·exact hq
     clear hK K
     try simp only[Act.put,aaG,aaH,aaI]
     have hlast:=hHeld
     obtain⟨⟨y0,y1,y2,y3,y4,y5,y6,y7⟩,u0,u1,u2,u3,u4,u5,u6,u7⟩:=aK G.c
     refine wpAnyH_ready (rs:=[8]) (by kernel_rfl) (by simp) ?_
     refine AllReadyH.cons rfl (fun K hK=> ?_) AllReadyH.nil
     go_simp
     refine hK.out _ _ ?_ (fun hHeld=> ?_)
     ·first | with_reducible exact dZ hHeld hgg _ _ _ _ _ _ _ _ | with_reducible exact ah hq (aj _)
     clear hK K
     try simp only[Act.put,aaG,aaH,aaI]
     refine wpAnyH_done (by kernel_rfl) ?_ _
     first
      |(have HG:=SgB.put (.bool true) (.bool false) (.int .i64 0) (.slice a ps.length c) (.bool tx) (.int .i64 tk) (.int .i64 ty) (.slice b ws.length d) G hgg hlast hrow hlo hg2;exact⟨rfl,_,_,zo,zc,a,b,c,d,rfl,HG⟩)
      |(have HG:=SgB.new (.bool true) (.bool false) (.int .i64 0) (.slice a ps.length c) (.bool tx) (.int .i64 tk) (.int .i64 ty) (.slice b ws.length d) iq i3 ilo;exact⟨rfl,_,_,zo,zc,a,b,c,d,rfl,HG⟩)
 rintro _ _ W2 ⟨rfl,gg,lo,zo,zc,a,b,c,d,rfl,G⟩
 dsimp only
 clear hS hSh p1 p2 hfs
 obtain⟨⟨y0,y1,y2,y3,y4,y5,y6,y7⟩,u0,u1,u2,u3,u4,u5,u6,u7⟩:=aK G.e
 have G1:=G.set1 (.bool true)
 clear G
 go_upto_region 4 with fail
 obtain⟨W3,hW3⟩:∃W3,W3=W2.setCell ⟨gg,1,none⟩ (.bool true):=⟨_,rfl⟩
 rw[←hW3]at G1 ⊢
 clear hW3 y0 y1 y2 y3 y4 y5 y6 y7 u0 u1 u2 u3 u4 u5 u6 u7
 obtain⟨r0,r1,r2,r3⟩:=kT (sN.out _ G1.bel)
 go_wp2_with fail
 refine(hRS _).mono ?_
 rintro e w4 ⟨rfl,hb4⟩
 have G2:=G1.below hb4
 clear hRS G1 hb4 r0 r1 r2 r3
 obtain⟨⟨y0,y1,y2,y3,y4,y5,y6,y7⟩,u0,u1,u2,u3,u4,u5,u6,u7⟩:=aK G2.e
 have G3:=G2.set2 (.int .i64 val)
 clear G2
 go_upto_region 6 with fail
 obtain⟨W5,yR⟩:∃W5,W5=w4.setCell ⟨gg,2,none⟩ (.int .i64 val):=⟨_,rfl⟩
 rw[←yR]at G3 ⊢
 clear yR y0 y1 y2 y3 y4 y5 y6 y7 u0 u1 u2 u3 u4 u5 u6 u7 hfi
 obtain⟨r0,r1,r2,r3⟩:=kT (sN.out _ G3.bel)
 obtain⟨⟨y0,y1,y2,y3,y4,y5,y6,y7⟩,-⟩:=aK G3.e
 have aW:=fourteen (vK.out _ G3.bel)
 obtain⟨⟨k0,k1,k2,k3,k4,k5,k6,k7,k8,k9,k10,k11,k12,k13⟩,g0,g1,g2,g3,g4,g5,g6,g7,g8,g9,g10,g11,g12,g13⟩:=aW
 have F5:Hid (Below w.heap.size w W5):=mO.out _ G3.bel
 have hrow:=G3.row
 have aC:Hid (w.heap.size+1+1<lo):=Nat.lt_of_lt_of_le oG.out.1 G3.lo
 have au:Hid (w.heap.size<=w.heap.size+1+1):=by show w.heap.size<=w.heap.size+1+1;omega
 have sJ:Hid (w.heap.size<=lo):=Nat.le_of_lt (Nat.lt_of_le_of_lt au.out aC.out)
 clear G3 sN vK mO oG
 go_wp2
 refine bodyPost_ret (v:= .agg #[.int .i64 0,.bool true,.string x0,.int .i64 x1,.int .i64 x2,.int .i64 x3,.bool true,.bool true,.int .i64 val,.slice a ps.length c,.bool tx,.int .i64 tk,.int .i64 ty,.slice b ws.length d]) (by simp[results,Tryz.results76,go_sem,k0,k1,k2,k3,k4,k5,k6,k7,k8,k9,k10,k11,k12,k13]) rfl ⟨a,b,c,d,rfl, ?_, ?_⟩
 ·exact((((((((((((((F5.out.setCell au.out _).setCell au.out _).setCell au.out _).setCell au.out _).setCell au.out _).setCell au.out _).setCell au.out _).setCell au.out _).setCell au.out _).setCell au.out _).setCell au.out _).setCell au.out _).setCell au.out _).setCell au.out _)
 ·exact(((((((((((((((hrow.set aC.out _).set aC.out _).set aC.out _).set aC.out _).set aC.out _).set aC.out _).set aC.out _).set aC.out _).set aC.out _).set aC.out _).set aC.out _).set aC.out _).set aC.out _).set aC.out _)).mono sJ.out
theorem xB(v:Value)(l:Rcl)(key:Int)(tx:Bool)(tk ty:Int)(ps:List Int)(ws:Prl)(w:World)(hv:Rcs w v l)(hl:Lbs l)(hd:aI l=0)(hk:0<=key/\key<256)(ho:lkO l key=none)
  (hSh:∀u w,Prs w u (aB l)->Okv u->Calls Tryz.prog 161 #[u,.int .i64 key] w fun e w'=>pR w true ps tx tk ty ws e w') :
  Calls Tryz.prog 76 #[.agg #[.func (.func 160) #[] #[],.func (.func 161) #[] #[],.func (.func 162) #[] #[]],.agg #[v],.int .i64 key] w fun e w'=>fZ w 0 false ⟨#[]⟩ 0 0 0 true 0 ps tx tk ty ws e w':=by
 have hR:=fun w' (hb:Below w.heap.size w w')=>lD v l w' (hv.below hb) (dP hd)
 have hS:Hid (∀w',Below w.heap.size w w'->Calls Tryz.prog 128 #[.agg #[v]] w' fun e w''=>kG w' 0 (aB l) e w''):=fun w' hb=>by
  have h:=gW v l w' (hv.below hb) hl (by have:=(dP hd).len;omega)
  have e1:sfL l=aB l:=by unfold sfL;rw[if_pos hd]
  rw[hd,e1]at h
  exact h
 have hLk:∀w b n,gI w b n (dh l l.length)->(Instr.lookup 203 (.map (some b)) (.int .i64 key) true).run Tryz.prog w = .ok (.tuple #[uZ (dh l l.length key),.bool (dh l l.length key).isSome]) w:=fun w b n h=>h.look hk
 rw[xY (dP hd),ho]at hLk
 obtain⟨va,vc,rfl⟩:=hv.shape
 generalize aB l=sl at *
 generalize dh l l.length=gm at *
 generalize l.length=n at *
 obtain⟨W,hW⟩:∃W,W=((w.alloc (.cells #[.func (.func 160) #[] #[],.func (.func 161) #[] #[],.func (.func 162) #[] #[]] 145)).alloc (.cells #[.slice va n vc] 36)).alloc (.cells #[.int .i64 0,.bool false,.string ⟨#[]⟩,.int .i64 0,.int .i64 0,.int .i64 0,.bool false,.bool false,.int .i64 0,.slice none 0 0,.bool false,.int .i64 0,.int .i64 0,.slice none 0 0] 70):=⟨_,rfl⟩
 have hBW:Below w.heap.size w W:=by rw[hW];exact(aA _ _).alloc (aA (w:=w) _ _).size _
 have hH:W.heap[w.heap.size+1+1]? = some (.cells #[.int .i64 0,.bool false,.string ⟨#[]⟩,.int .i64 0,.int .i64 0,.int .i64 0,.bool false,.bool false,.int .i64 0,.slice none 0 0,.bool false,.int .i64 0,.int .i64 0,.slice none 0 0] 70):=by
  have:=heap_alloc_new ((w.alloc (.cells #[.func (.func 160) #[] #[],.func (.func 161) #[] #[],.func (.func 162) #[] #[]] 145)).alloc (.cells #[.slice va n vc] 36)) (.cells #[.int .i64 0,.bool false,.string ⟨#[]⟩,.int .i64 0,.int .i64 0,.int .i64 0,.bool false,.bool false,.int .i64 0,.slice none 0 0,.bool false,.int .i64 0,.int .i64 0,.slice none 0 0] 70)
  rw[World.size_alloc,World.size_alloc]at this
  rw[hW]
  exact this
 have hT:W.heap[w.heap.size]? = some (.cells #[.func (.func 160) #[] #[],.func (.func 161) #[] #[],.func (.func 162) #[] #[]] 145):=by
  rw[hW]
  exact((aj _).block w.heap.size (by simp;omega)).trans (((aj _).block w.heap.size (by simp)).trans (heap_alloc_new w _))
 have hD:W.heap[w.heap.size+1]? = some (.cells #[.slice va n vc] 36):=by
  have h1:=heap_alloc_new (w.alloc (.cells #[.func (.func 160) #[] #[],.func (.func 161) #[] #[],.func (.func 162) #[] #[]] 145)) (.cells #[.slice va n vc] 36)
  rw[World.size_alloc]at h1
  rw[hW]
  exact((aj _).block (w.heap.size+1) (by simp)).trans h1
 have oO:=(Array.getElem?_eq_some_iff.1 hH).1
 have HW:Hid (_=W):=hW.symm
 have HT:Hid (∀w',Below W.heap.size W w'->w'.cell? ⟨w.heap.size,0,none⟩=some (.func (.func 160) #[] #[])/\w'.cell? ⟨w.heap.size,1,none⟩=some (.func (.func 161) #[] #[])/\w'.cell? ⟨w.heap.size,2,none⟩=some (.func (.func 162) #[] #[])):=fun w' hb=>dO ((hb.block _ (by omega)).trans hT)
 have HD:Hid (∀w',Below W.heap.size W w'->w'.cell? ⟨w.heap.size+1,0,none⟩=some (.slice va n vc)):=fun w' hb=>pU ((hb.block _ (by omega)).trans hD)
 have HH:Hid (∀w',Below W.heap.size W w'->w'.heap[w.heap.size+1+1]? = some (.cells #[.int .i64 0,.bool false,.string ⟨#[]⟩,.int .i64 0,.int .i64 0,.int .i64 0,.bool false,.bool false,.int .i64 0,.slice none 0 0,.bool false,.int .i64 0,.int .i64 0,.slice none 0 0] 70)):=fun w' hb=>(hb.block _ oO).trans hH
 have fB:Hid (Below w.heap.size w W):=hBW
 have qg:Hid (w.heap.size+1+1<W.heap.size):=oO
 have hd0:=HD.out W (Below.refl _ _)
 have hft:=lF
 have wz:=hR W hBW
 clear hR hv hl hd hk ho hW hH hT hD hBW oO
 rw[←HW.out]at hd0
 go_enter Tryz.func76,Tryz.ntmps76
 go_wp2_with fail
 rw[HW.out]
 refine wz.mono ?_
 rintro e w1 ⟨rfl,hb1,hM⟩
 have hlk:=hLk _ _ _ hM
 unfold uZ at hlk
 dsimp only[Option.getD,Option.isSome,Rc.val,rcZ]at hlk
 clear wz hLk hM hd0
 have sO:Hid (∃V,V=w1.alloc (.cells #[.string ⟨#[]⟩,.int .i64 0,.int .i64 0,.int .i64 0] 46)):=⟨_,rfl⟩
 go_wp2_with fail
 obtain⟨V,hV⟩:=sO.out
 rw[←hV]
 have dQ:Below W.heap.size W V:=by rw[hV];exact hb1.alloc hb1.size _
 have qH:V.heap[w1.heap.size]? = some (.cells #[.string ⟨#[]⟩,.int .i64 0,.int .i64 0,.int .i64 0] 46):=by rw[hV];exact heap_alloc_new w1 _
 have qK:=(Array.getElem?_eq_some_iff.1 qH).1
 have hl1:=hb1.size
 have mO:Hid (∀w',Below V.heap.size V w'->Below w.heap.size w w'):=fun w' hb=>ah fB.out (ah dQ hb)
 have sN:Hid (∀w',Below V.heap.size V w'->w'.heap[w1.heap.size]? = some (.cells #[.string ⟨#[]⟩,.int .i64 0,.int .i64 0,.int .i64 0] 46)):=fun w' hb=>(hb.block _ qK).trans qH
 have vK:Hid (∀w',Below V.heap.size V w'->w'.heap[w.heap.size+1+1]? = some (.cells #[.int .i64 0,.bool false,.string ⟨#[]⟩,.int .i64 0,.int .i64 0,.int .i64 0,.bool false,.bool false,.int .i64 0,.slice none 0 0,.bool false,.int .i64 0,.int .i64 0,.slice none 0 0] 70)):=fun w' hb=>HH.out w' (ah dQ hb)
 have p1:∀w',Below V.heap.size V w'->w'.cell? ⟨w.heap.size,1,none⟩=some (.func (.func 161) #[] #[]):=fun w' hb=>(HT.out w' (ah dQ hb)).2.1
 have p2:∀w',Below V.heap.size V w'->w'.cell? ⟨w.heap.size+1,0,none⟩=some (.slice va n vc):=fun w' hb=>HD.out w' (ah dQ hb)
 have hfs:=fun a n m w=>Bl 0 a n m w
 have oG:Hid (w.heap.size+1+1<V.heap.size/\w1.heap.size<V.heap.size/\¬w1.heap.size=w.heap.size+1+1):=⟨by have:=qg.out;have:=dQ.size;omega,qK,by have:=qg.out;omega⟩
 clear hV sO HW HT HD HH hlk hb1 dQ qH qK hl1 fB qg
 refine Code.wp_mono (Q:=fun e a' w'=>e=Exit.normal/\∃(gg lo:Nat)(zo:Option Addr)(zc:Nat)(a b:Option Addr)(c d:Nat),a' = {tmps:=#[.agg #[.func (.func 160) #[] #[],.func (.func 161) #[] #[],.func (.func 162) #[] #[]],.agg #[.slice va n vc],.int .i64 key,.pointer (some ⟨w.heap.size,0,none⟩),.pointer (some ⟨w.heap.size+1,0,none⟩),undef,.pointer (some ⟨w.heap.size+1+1,0,none⟩),.pointer (some ⟨w1.heap.size,0,none⟩),.bool false,.pointer (some ⟨gg,0,none⟩),.tuple #[.agg #[.string ⟨#[]⟩,.int .i64 0,.int .i64 0,.int .i64 0],.bool false],.agg #[.slice va n vc],.map (some (W.heap.size+1)),.int .i64 key,.tuple #[.agg #[.string ⟨#[]⟩,.int .i64 0,.int .i64 0,.int .i64 0],.bool false],.agg #[.string ⟨#[]⟩,.int .i64 0,.int .i64 0,.int .i64 0],.bool false,.pointer (some ⟨w.heap.size,1,none⟩),.func (.func 161) #[] #[],.agg #[.slice va n vc],.agg #[.int .i64 0,.slice zo sl.length zc],.slice zo sl.length zc,.int .i64 key,.agg #[.bool true,.bool false,.int .i64 0,.slice a ps.length c,.bool tx,.int .i64 tk,.int .i64 ty,.slice b ws.length d],undef,undef,undef,undef,undef,undef,undef,undef,undef,undef,undef],defers:=[]}/\SgB V w' gg lo (.bool true) (.bool false) (.int .i64 0) (.slice a ps.length c) (.bool tx) (.int .i64 tk) (.int .i64 ty) (.slice b ws.length d) ps ws a b c d) ?tail ?reg
 case reg=>
  refine wp_region_held_drew (S:=fun w'=>Below V.heap.size V w') (by kernel_rfl) ((Below.refl _ _).drew) (fun hHeld=> ?_)
  refine aF (i:=0) (d:=some 17) (v:= ?Xa) (by rfl) (by kernel_rfl) (by kernel_rfl) (by kernel_rfl) (fun _ _ _ h=>(by cases h.1)) (by rfl) ?zZ hHeld ?Js
  case zZ=>
   intro o ho
   simp only[aaJ,aaK,aaM]at ho
   subst ho
   intro w' hSw
   first |(go_simp;done) |(go_simp;with_reducible rfl)
  try simp only[Act.put,aaG,aaH,aaI]
  refine aF (i:=1) (d:=some 18) (v:= ?Xb) (by rfl) (by kernel_rfl) (by kernel_rfl) (by kernel_rfl) (fun _ _ _ h=>(by cases h.1)) (by rfl) ?Aa hHeld ?Jt
  case Aa=>
   intro o ho
   simp only[aaJ,aaL,aaK,aaM]at ho
   subst ho
   intro w' hSw
   first |(go_simp;done) |(go_simp;with_reducible rfl)
  try simp only[Act.put,aaG,aaH,aaI]
  refine aF (i:=2) (d:=some 19) (v:= ?Xc) (by rfl) (by kernel_rfl) (by kernel_rfl) (by kernel_rfl) (fun _ _ _ h=>(by cases h.1)) (by rfl) ?Ac hHeld ?Ju
  case Ac=>
   intro o ho
   simp only[aaJ,aaL,aaK,aaM]at ho
   subst ho
   intro w' hSw
   first |(go_simp;done) |(go_simp;with_reducible rfl)
  try simp only[Act.put,aaG,aaH,aaI]
  refine aF (i:=5) (d:=some 22) (v:= ?Xd) (by rfl) (by kernel_rfl) (by kernel_rfl) (by kernel_rfl) (fun _ _ _ h=>(by cases h.1)) (by rfl) ?Ad hHeld ?Jv
  case Ad=>
   intro o ho
   simp only[aaJ,aaL,aaK,aaM]at ho
   subst ho
   intro w' hSw
   first |(go_simp;done) |(go_simp;with_reducible rfl)
  try simp only[Act.put,aaG,aaH,aaI]
  refine wpAnyH_ready (rs:=[3,7]) (by kernel_rfl) (by simp) ?_
  refine AllReadyH.cons rfl (fun K hK=> ?_) (AllReadyH.cons rfl (fun K hK=> ?_) AllReadyH.nil)
  ·go_simp
   refine(hS.out _ (mO.out _ hHeld)).mono ?_
   rintro e wq hsa
   obtain⟨zo,zc,rfl,hbq,hown⟩:=hsa.use
   have hq:=ah hHeld hbq
   try(have G:=G.below hbq)
   have hpr:=aP hown
   have hok:=jW hown
   clear hsa hown
   refine hK.out _ _ ?_ (fun hHeld=> ?_)
   ·exact hq
   clear hK K
   try simp only[Act.put,aaG,aaH,aaI]
   refine aF (i:=4) (d:=some 21) (v:= ?Xe) (by rfl) (by kernel_rfl) (by kernel_rfl) (by kernel_rfl) (fun _ _ _ h=>(by cases h.1)) (by rfl) ?Ae hHeld ?Jw
   case Ae=>
    intro o ho
    simp only[aaJ,aaL,aaK,aaM]at ho
    subst ho
    intro w' hSw
    first |(go_simp;done) |(go_simp;with_reducible rfl)
   try simp only[Act.put,aaG,aaH,aaI]
   refine wpAnyH_ready (rs:=[6,7]) (by kernel_rfl) (by simp) ?_
   refine AllReadyH.cons rfl (fun K hK=> ?_) (AllReadyH.cons rfl (fun K hK=> ?_) AllReadyH.nil)
   ·go_simp
    have hlo:=hHeld.size
    try(have hg2:=G.lt)
    refine(hSh _ _ hpr hok).mono ?_
    rintro e wq ⟨a,b,c,d,rfl,hbq,hrow⟩
    have hq:=ah hHeld hbq
    try(have G:=G.below hbq)
    refine hK.out _ _ ?_ (fun hHeld=> ?_)
    ·exact hq
    clear hK K
    try simp only[Act.put,aaG,aaH,aaI]
    refine wpAnyH_ready (rs:=[7]) (by kernel_rfl) (by simp) ?_
    refine AllReadyH.cons rfl (fun K hK=> ?_) AllReadyH.nil
    ·go_simp
     first |(have G:=ZS.new wq;have hgg:=hq.size) |(have G:=(ZS.new V).drew;have hgg:=Nat.le_refl V.heap.size)
     try(have i3:=hrow;have iq:=hq;have ilo:=hlo)
     try(have hpr:=hpr.below (aj (.cells #[.bool false,.bool false,.int .i64 0,.slice none 0 0,.bool false,.int .i64 0,.int .i64 0,.slice none 0 0] 68)))
     refine hK.out _ _ ?_ (fun hHeld=> ?_)
     ·exact ah hHeld (aj _)
     clear hK K
     try simp only[Act.put,aaG,aaH,aaI]
     have hlast:=hHeld
     obtain⟨⟨y0,y1,y2,y3,y4,y5,y6,y7⟩,u0,u1,u2,u3,u4,u5,u6,u7⟩:=aK G.c
     refine wpAnyH_ready (rs:=[8]) (by kernel_rfl) (by simp) ?_
     refine AllReadyH.cons rfl (fun K hK=> ?_) AllReadyH.nil
     go_simp
     refine hK.out _ _ ?_ (fun hHeld=> ?_)
     ·first | with_reducible exact dZ hHeld hgg _ _ _ _ _ _ _ _ | with_reducible exact ah hq (aj _)
     clear hK K
     try simp only[Act.put,aaG,aaH,aaI]
     refine wpAnyH_done (by kernel_rfl) ?_ _
     first
      |(have HG:=SgB.put (.bool true) (.bool false) (.int .i64 0) (.slice a ps.length c) (.bool tx) (.int .i64 tk) (.int .i64 ty) (.slice b ws.length d) G hgg hlast hrow hlo hg2;exact⟨rfl,_,_,zo,zc,a,b,c,d,rfl,HG⟩)
      |(have HG:=SgB.new (.bool true) (.bool false) (.int .i64 0) (.slice a ps.length c) (.bool tx) (.int .i64 tk) (.int .i64 ty) (.slice b ws.length d) iq i3 ilo;exact⟨rfl,_,_,zo,zc,a,b,c,d,rfl,HG⟩)
   ·go_simp
    first |(have G:=ZS.new wq;have hgg:=hq.size) |(have G:=(ZS.new V).drew;have hgg:=Nat.le_refl V.heap.size)
    try(have i3:=hrow;have iq:=hq;have ilo:=hlo)
    try(have hpr:=hpr.below (aj (.cells #[.bool false,.bool false,.int .i64 0,.slice none 0 0,.bool false,.int .i64 0,.int .i64 0,.slice none 0 0] 68)))
    refine hK.out _ _ ?_ (fun hHeld=> ?_)
    ·exact ah hHeld (aj _)
    clear hK K
    try simp only[Act.put,aaG,aaH,aaI]
    refine wpAnyH_ready (rs:=[6]) (by kernel_rfl) (by simp) ?_
    refine AllReadyH.cons rfl (fun K hK=> ?_) AllReadyH.nil
    ·go_simp
     have hlo:=hHeld.size
     try(have hg2:=G.lt)
     refine(hSh _ _ hpr hok).mono ?_
     rintro e wq ⟨a,b,c,d,rfl,hbq,hrow⟩
     have hq:=ah hHeld hbq
     try(have G:=G.below hbq)
     refine hK.out _ _ ?_ (fun hHeld=> ?_)
     ·exact hq
     clear hK K
     try simp only[Act.put,aaG,aaH,aaI]
     have hlast:=hHeld
     obtain⟨⟨y0,y1,y2,y3,y4,y5,y6,y7⟩,u0,u1,u2,u3,u4,u5,u6,u7⟩:=aK G.c
     refine wpAnyH_ready (rs:=[8]) (by kernel_rfl) (by simp) ?_
     refine AllReadyH.cons rfl (fun K hK=> ?_) AllReadyH.nil
     go_simp
     refine hK.out _ _ ?_ (fun hHeld=> ?_)
     ·first | with_reducible exact dZ hHeld hgg _ _ _ _ _ _ _ _ | with_reducible exact ah hq (aj _)
     clear hK K
     try simp only[Act.put,aaG,aaH,aaI]
     refine wpAnyH_done (by kernel_rfl) ?_ _
     first
      |(have HG:=SgB.put (.bool true) (.bool false) (.int .i64 0) (.slice a ps.length c) (.bool tx) (.int .i64 tk) (.int .i64 ty) (.slice b ws.length d) G hgg hlast hrow hlo hg2;exact⟨rfl,_,_,zo,zc,a,b,c,d,rfl,HG⟩)
      |(have HG:=SgB.new (.bool true) (.bool false) (.int .i64 0) (.slice a ps.length c) (.bool tx) (.int .i64 tk) (.int .i64 ty) (.slice b ws.length d) iq i3 ilo;exact⟨rfl,_,_,zo,zc,a,b,c,d,rfl,HG⟩)
  ·go_simp
   first |(have G:=ZS.new wq;have hgg:=hq.size) |(have G:=(ZS.new V).drew;have hgg:=Nat.le_refl V.heap.size)
   try(have i3:=hrow;have iq:=hq;have ilo:=hlo)
   try(have hpr:=hpr.below (aj (.cells #[.bool false,.bool false,.int .i64 0,.slice none 0 0,.bool false,.int .i64 0,.int .i64 0,.slice none 0 0] 68)))
   refine hK.out _ _ ?_ (fun hHeld=> ?_)
   ·exact ah hHeld (aj _)
   clear hK K
   try simp only[Act.put,aaG,aaH,aaI]
   refine wpAnyH_ready (rs:=[3]) (by kernel_rfl) (by simp) ?_
   refine AllReadyH.cons rfl (fun K hK=> ?_) AllReadyH.nil
   ·go_simp
    refine(hS.out _ (mO.out _ hHeld)).mono ?_
    rintro e wq hsa
    obtain⟨zo,zc,rfl,hbq,hown⟩:=hsa.use
    have hq:=ah hHeld hbq
    try(have G:=G.below hbq)
    have hpr:=aP hown
    have hok:=jW hown
    clear hsa hown
    refine hK.out _ _ ?_ (fun hHeld=> ?_)
    ·exact hq
    clear hK K
    try simp only[Act.put,aaG,aaH,aaI]
    refine aF (i:=4) (d:=some 21) (v:= ?Xf) (by rfl) (by kernel_rfl) (by kernel_rfl) (by kernel_rfl) (fun _ _ _ h=>(by cases h.1)) (by rfl) ?Af hHeld ?Jy
    case Af=>
     intro o ho
     simp only[aaJ,aaL,aaK,aaM]at ho
     subst ho
     intro w' hSw
     first |(go_simp;done) |(go_simp;with_reducible rfl)
    try simp only[Act.put,aaG,aaH,aaI]
    refine wpAnyH_ready (rs:=[6]) (by kernel_rfl) (by simp) ?_
    refine AllReadyH.cons rfl (fun K hK=> ?_) AllReadyH.nil
    ·go_simp
     have hlo:=hHeld.size
     try(have hg2:=G.lt)
     refine(hSh _ _ hpr hok).mono ?_
     rintro e wq ⟨a,b,c,d,rfl,hbq,hrow⟩
     have hq:=ah hHeld hbq
     try(have G:=G.below hbq)
     refine hK.out _ _ ?_ (fun hHeld=> ?_)
     ·exact hq
     clear hK K
     try simp only[Act.put,aaG,aaH,aaI]
     have hlast:=hHeld
     obtain⟨⟨y0,y1,y2,y3,y4,y5,y6,y7⟩,u0,u1,u2,u3,u4,u5,u6,u7⟩:=aK G.c
     refine wpAnyH_ready (rs:=[8]) (by kernel_rfl) (by simp) ?_
     refine AllReadyH.cons rfl (fun K hK=> ?_) AllReadyH.nil
     go_simp
     refine hK.out _ _ ?_ (fun hHeld=> ?_)
     ·first | with_reducible exact dZ hHeld hgg _ _ _ _ _ _ _ _ | with_reducible exact ah hq (aj _)
     clear hK K
     try simp only[Act.put,aaG,aaH,aaI]
     refine wpAnyH_done (by kernel_rfl) ?_ _
     first
      |(have HG:=SgB.put (.bool true) (.bool false) (.int .i64 0) (.slice a ps.length c) (.bool tx) (.int .i64 tk) (.int .i64 ty) (.slice b ws.length d) G hgg hlast hrow hlo hg2;exact⟨rfl,_,_,zo,zc,a,b,c,d,rfl,HG⟩)
      |(have HG:=SgB.new (.bool true) (.bool false) (.int .i64 0) (.slice a ps.length c) (.bool tx) (.int .i64 tk) (.int .i64 ty) (.slice b ws.length d) iq i3 ilo;exact⟨rfl,_,_,zo,zc,a,b,c,d,rfl,HG⟩)
 rintro _ _ W2 ⟨rfl,gg,lo,zo,zc,a,b,c,d,rfl,G⟩
 dsimp only
 clear hS hSh p1 p2 hfs
 obtain⟨⟨y0,y1,y2,y3,y4,y5,y6,y7⟩,u0,u1,u2,u3,u4,u5,u6,u7⟩:=aK G.e
 have G1:=G.set1 (.bool false)
 clear G
 go_upto_region 4 with fail
 obtain⟨W3,hW3⟩:∃W3,W3=W2.setCell ⟨gg,1,none⟩ (.bool false):=⟨_,rfl⟩
 rw[←hW3]at G1 ⊢
 clear hW3 y0 y1 y2 y3 y4 y5 y6 y7 u0 u1 u2 u3 u4 u5 u6 u7
 obtain⟨r0,r1,r2,r3⟩:=kT (sN.out _ G1.bel)
 obtain⟨⟨y0,y1,y2,y3,y4,y5,y6,y7⟩,-⟩:=aK G1.e
 have aW:=fourteen (vK.out _ G1.bel)
 obtain⟨⟨k0,k1,k2,k3,k4,k5,k6,k7,k8,k9,k10,k11,k12,k13⟩,g0,g1,g2,g3,g4,g5,g6,g7,g8,g9,g10,g11,g12,g13⟩:=aW
 have F5:Hid (Below w.heap.size w W3):=mO.out _ G1.bel
 have hrow:=G1.row
 have aC:Hid (w.heap.size+1+1<lo):=Nat.lt_of_lt_of_le oG.out.1 G1.lo
 have au:Hid (w.heap.size<=w.heap.size+1+1):=by show w.heap.size<=w.heap.size+1+1;omega
 have sJ:Hid (w.heap.size<=lo):=Nat.le_of_lt (Nat.lt_of_le_of_lt au.out aC.out)
 clear G1 sN vK mO oG
 go_wp2
 refine bodyPost_ret (v:= .agg #[.int .i64 0,.bool false,.string ⟨#[]⟩,.int .i64 0,.int .i64 0,.int .i64 0,.bool true,.bool false,.int .i64 0,.slice a ps.length c,.bool tx,.int .i64 tk,.int .i64 ty,.slice b ws.length d]) (by simp[results,Tryz.results76,go_sem,k0,k1,k2,k3,k4,k5,k6,k7,k8,k9,k10,k11,k12,k13]) rfl ⟨a,b,c,d,rfl, ?_, ?_⟩
 ·exact((((((((((((((F5.out.setCell au.out _).setCell au.out _).setCell au.out _).setCell au.out _).setCell au.out _).setCell au.out _).setCell au.out _).setCell au.out _).setCell au.out _).setCell au.out _).setCell au.out _).setCell au.out _).setCell au.out _).setCell au.out _)
 ·exact(((((((((((((((hrow.set aC.out _).set aC.out _).set aC.out _).set aC.out _).set aC.out _).set aC.out _).set aC.out _).set aC.out _).set aC.out _).set aC.out _).set aC.out _).set aC.out _).set aC.out _).set aC.out _)).mono sJ.out
theorem xC(v:Value)(l:Rcl)(key:Int)(tx:Bool)(tk ty:Int)(ps:List Int)(ws:Prl)(x0:ByteArray)(x1 x2 x3:Int)(w:World)(hv:Rcs w v l)(hl:Lbs l)(hd:aI l=0)(hk:0<=key/\key<256)(ho:lkO l key=some ⟨x0,x1,x2,x3⟩)
  (hSh:∀u w,Prs w u (aB l)->Okv u->Calls Tryz.prog 164 #[u,.int .i64 key] w fun e w'=>pR w false ps tx tk ty ws e w') :
  Calls Tryz.prog 76 #[.agg #[.func (.func 163) #[] #[],.func (.func 164) #[] #[],.func (.func 165) #[] #[]],.agg #[v],.int .i64 key] w fun e w'=>fZ w 0 true x0 x1 x2 x3 false (rsV x0 x1 x2 x3) ps tx tk ty ws e w':=by
 have hR:=fun w' (hb:Below w.heap.size w w')=>lD v l w' (hv.below hb) (dP hd)
 have hS:Hid (∀w',Below w.heap.size w w'->Calls Tryz.prog 128 #[.agg #[v]] w' fun e w''=>kG w' 0 (aB l) e w''):=fun w' hb=>by
  have h:=gW v l w' (hv.below hb) hl (by have:=(dP hd).len;omega)
  have e1:sfL l=aB l:=by unfold sfL;rw[if_pos hd]
  rw[hd,e1]at h
  exact h
 have hLk:∀w b n,gI w b n (dh l l.length)->(Instr.lookup 203 (.map (some b)) (.int .i64 key) true).run Tryz.prog w = .ok (.tuple #[uZ (dh l l.length key),.bool (dh l l.length key).isSome]) w:=fun w b n h=>h.look hk
 rw[xY (dP hd),ho]at hLk
 have hrs:x0.size<=1048576:=by
  have h1:=(LY ho).2
  have h2:=hl _ h1
  exact h2
 have hRS:=fun w=>kW x0 x1 x2 x3 w hrs
 unfold iO dG at hRS
 have hfi:=fun v w=>Bj (recC x0 x1 x2 x3) v w
 generalize rsV x0 x1 x2 x3=val at *
 generalize recC x0 x1 x2 x3=rcc at *
 obtain⟨va,vc,rfl⟩:=hv.shape
 generalize aB l=sl at *
 generalize dh l l.length=gm at *
 generalize l.length=n at *
 obtain⟨W,hW⟩:∃W,W=((w.alloc (.cells #[.func (.func 163) #[] #[],.func (.func 164) #[] #[],.func (.func 165) #[] #[]] 145)).alloc (.cells #[.slice va n vc] 36)).alloc (.cells #[.int .i64 0,.bool false,.string ⟨#[]⟩,.int .i64 0,.int .i64 0,.int .i64 0,.bool false,.bool false,.int .i64 0,.slice none 0 0,.bool false,.int .i64 0,.int .i64 0,.slice none 0 0] 70):=⟨_,rfl⟩
 have hBW:Below w.heap.size w W:=by rw[hW];exact(aA _ _).alloc (aA (w:=w) _ _).size _
 have hH:W.heap[w.heap.size+1+1]? = some (.cells #[.int .i64 0,.bool false,.string ⟨#[]⟩,.int .i64 0,.int .i64 0,.int .i64 0,.bool false,.bool false,.int .i64 0,.slice none 0 0,.bool false,.int .i64 0,.int .i64 0,.slice none 0 0] 70):=by
  have:=heap_alloc_new ((w.alloc (.cells #[.func (.func 163) #[] #[],.func (.func 164) #[] #[],.func (.func 165) #[] #[]] 145)).alloc (.cells #[.slice va n vc] 36)) (.cells #[.int .i64 0,.bool false,.string ⟨#[]⟩,.int .i64 0,.int .i64 0,.int .i64 0,.bool false,.bool false,.int .i64 0,.slice none 0 0,.bool false,.int .i64 0,.int .i64 0,.slice none 0 0] 70)
  rw[World.size_alloc,World.size_alloc]at this
  rw[hW]
  exact this
 have hT:W.heap[w.heap.size]? = some (.cells #[.func (.func 163) #[] #[],.func (.func 164) #[] #[],.func (.func 165) #[] #[]] 145):=by
  rw[hW]
  exact((aj _).block w.heap.size (by simp;omega)).trans (((aj _).block w.heap.size (by simp)).trans (heap_alloc_new w _))
 have hD:W.heap[w.heap.size+1]? = some (.cells #[.slice va n vc] 36):=by
  have h1:=heap_alloc_new (w.alloc (.cells #[.func (.func 163) #[] #[],.func (.func 164) #[] #[],.func (.func 165) #[] #[]] 145)) (.cells #[.slice va n vc] 36)
  rw[World.size_alloc]at h1
  rw[hW]
  exact((aj _).block (w.heap.size+1) (by simp)).trans h1
 have oO:=(Array.getElem?_eq_some_iff.1 hH).1
 have HW:Hid (_=W):=hW.symm
 have HT:Hid (∀w',Below W.heap.size W w'->w'.cell? ⟨w.heap.size,0,none⟩=some (.func (.func 163) #[] #[])/\w'.cell? ⟨w.heap.size,1,none⟩=some (.func (.func 164) #[] #[])/\w'.cell? ⟨w.heap.size,2,none⟩=some (.func (.func 165) #[] #[])):=fun w' hb=>dO ((hb.block _ (by omega)).trans hT)
 have HD:Hid (∀w',Below W.heap.size W w'->w'.cell? ⟨w.heap.size+1,0,none⟩=some (.slice va n vc)):=fun w' hb=>pU ((hb.block _ (by omega)).trans hD)
 have HH:Hid (∀w',Below W.heap.size W w'->w'.heap[w.heap.size+1+1]? = some (.cells #[.int .i64 0,.bool false,.string ⟨#[]⟩,.int .i64 0,.int .i64 0,.int .i64 0,.bool false,.bool false,.int .i64 0,.slice none 0 0,.bool false,.int .i64 0,.int .i64 0,.slice none 0 0] 70)):=fun w' hb=>(hb.block _ oO).trans hH
 have fB:Hid (Below w.heap.size w W):=hBW
 have qg:Hid (w.heap.size+1+1<W.heap.size):=oO
 have hd0:=HD.out W (Below.refl _ _)
 have hft:=lF
 have wz:=hR W hBW
 clear hR hv hl hd hk ho hW hH hT hD hBW oO
 rw[←HW.out]at hd0
 go_enter Tryz.func76,Tryz.ntmps76
 go_wp2_with fail
 rw[HW.out]
 refine wz.mono ?_
 rintro e w1 ⟨rfl,hb1,hM⟩
 have hlk:=hLk _ _ _ hM
 unfold uZ at hlk
 dsimp only[Option.getD,Option.isSome,Rc.val,rcZ]at hlk
 clear wz hLk hM hd0
 have sO:Hid (∃V,V=w1.alloc (.cells #[.string x0,.int .i64 x1,.int .i64 x2,.int .i64 x3] 46)):=⟨_,rfl⟩
 go_wp2_with fail
 obtain⟨V,hV⟩:=sO.out
 rw[←hV]
 have dQ:Below W.heap.size W V:=by rw[hV];exact hb1.alloc hb1.size _
 have qH:V.heap[w1.heap.size]? = some (.cells #[.string x0,.int .i64 x1,.int .i64 x2,.int .i64 x3] 46):=by rw[hV];exact heap_alloc_new w1 _
 have qK:=(Array.getElem?_eq_some_iff.1 qH).1
 have hl1:=hb1.size
 have mO:Hid (∀w',Below V.heap.size V w'->Below w.heap.size w w'):=fun w' hb=>ah fB.out (ah dQ hb)
 have sN:Hid (∀w',Below V.heap.size V w'->w'.heap[w1.heap.size]? = some (.cells #[.string x0,.int .i64 x1,.int .i64 x2,.int .i64 x3] 46)):=fun w' hb=>(hb.block _ qK).trans qH
 have vK:Hid (∀w',Below V.heap.size V w'->w'.heap[w.heap.size+1+1]? = some (.cells #[.int .i64 0,.bool false,.string ⟨#[]⟩,.int .i64 0,.int .i64 0,.int .i64 0,.bool false,.bool false,.int .i64 0,.slice none 0 0,.bool false,.int .i64 0,.int .i64 0,.slice none 0 0] 70)):=fun w' hb=>HH.out w' (ah dQ hb)
 have p1:∀w',Below V.heap.size V w'->w'.cell? ⟨w.heap.size,1,none⟩=some (.func (.func 164) #[] #[]):=fun w' hb=>(HT.out w' (ah dQ hb)).2.1
 have p2:∀w',Below V.heap.size V w'->w'.cell? ⟨w.heap.size+1,0,none⟩=some (.slice va n vc):=fun w' hb=>HD.out w' (ah dQ hb)
 have hfs:=fun a n m w=>Bl 0 a n m w
 have oG:Hid (w.heap.size+1+1<V.heap.size/\w1.heap.size<V.heap.size/\¬w1.heap.size=w.heap.size+1+1):=⟨by have:=qg.out;have:=dQ.size;omega,qK,by have:=qg.out;omega⟩
 clear hV sO HW HT HD HH hlk hb1 dQ qH qK hl1 fB qg
 refine Code.wp_mono (Q:=fun e a' w'=>e=Exit.normal/\∃(gg lo:Nat)(zo:Option Addr)(zc:Nat)(a b:Option Addr)(c d:Nat),a' = {tmps:=#[.agg #[.func (.func 163) #[] #[],.func (.func 164) #[] #[],.func (.func 165) #[] #[]],.agg #[.slice va n vc],.int .i64 key,.pointer (some ⟨w.heap.size,0,none⟩),.pointer (some ⟨w.heap.size+1,0,none⟩),undef,.pointer (some ⟨w.heap.size+1+1,0,none⟩),.pointer (some ⟨w1.heap.size,0,none⟩),.bool true,.pointer (some ⟨gg,0,none⟩),.tuple #[.agg #[.string x0,.int .i64 x1,.int .i64 x2,.int .i64 x3],.bool true],.agg #[.slice va n vc],.map (some (W.heap.size+1)),.int .i64 key,.tuple #[.agg #[.string x0,.int .i64 x1,.int .i64 x2,.int .i64 x3],.bool true],.agg #[.string x0,.int .i64 x1,.int .i64 x2,.int .i64 x3],.bool true,.pointer (some ⟨w.heap.size,1,none⟩),.func (.func 164) #[] #[],.agg #[.slice va n vc],.agg #[.int .i64 0,.slice zo sl.length zc],.slice zo sl.length zc,.int .i64 key,.agg #[.bool false,.bool false,.int .i64 0,.slice a ps.length c,.bool tx,.int .i64 tk,.int .i64 ty,.slice b ws.length d],undef,undef,undef,undef,undef,undef,undef,undef,undef,undef,undef],defers:=[]}/\SgB V w' gg lo (.bool false) (.bool false) (.int .i64 0) (.slice a ps.length c) (.bool tx) (.int .i64 tk) (.int .i64 ty) (.slice b ws.length d) ps ws a b c d) ?tail ?reg
 case reg=>
  refine wp_region_held_drew (S:=fun w'=>Below V.heap.size V w') (by kernel_rfl) ((Below.refl _ _).drew) (fun hHeld=> ?_)
  refine aF (i:=0) (d:=some 17) (v:= ?Xa) (by rfl) (by kernel_rfl) (by kernel_rfl) (by kernel_rfl) (fun _ _ _ h=>(by cases h.1)) (by rfl) ?zZ hHeld ?Js
  case zZ=>
   intro o ho
   simp only[aaJ,aaK,aaM]at ho
   subst ho
   intro w' hSw
   first |(go_simp;done) |(go_simp;with_reducible rfl)
  try simp only[Act.put,aaG,aaH,aaI]
  refine aF (i:=1) (d:=some 18) (v:= ?Xb) (by rfl) (by kernel_rfl) (by kernel_rfl) (by kernel_rfl) (fun _ _ _ h=>(by cases h.1)) (by rfl) ?Aa hHeld ?Jt
  case Aa=>
   intro o ho
   simp only[aaJ,aaL,aaK,aaM]at ho
   subst ho
   intro w' hSw
   first |(go_simp;done) |(go_simp;with_reducible rfl)
  try simp only[Act.put,aaG,aaH,aaI]
  refine aF (i:=2) (d:=some 19) (v:= ?Xc) (by rfl) (by kernel_rfl) (by kernel_rfl) (by kernel_rfl) (fun _ _ _ h=>(by cases h.1)) (by rfl) ?Ac hHeld ?Ju
  case Ac=>
   intro o ho
   simp only[aaJ,aaL,aaK,aaM]at ho
   subst ho
   intro w' hSw
   first |(go_simp;done) |(go_simp;with_reducible rfl)
  try simp only[Act.put,aaG,aaH,aaI]
  refine aF (i:=5) (d:=some 22) (v:= ?Xd) (by rfl) (by kernel_rfl) (by kernel_rfl) (by kernel_rfl) (fun _ _ _ h=>(by cases h.1)) (by rfl) ?Ad hHeld ?Jv
  case Ad=>
   intro o ho
   simp only[aaJ,aaL,aaK,aaM]at ho
   subst ho
   intro w' hSw
   first |(go_simp;done) |(go_simp;with_reducible rfl)
  try simp only[Act.put,aaG,aaH,aaI]
  refine wpAnyH_ready (rs:=[3,7]) (by kernel_rfl) (by simp) ?_
  refine AllReadyH.cons rfl (fun K hK=> ?_) (AllReadyH.cons rfl (fun K hK=> ?_) AllReadyH.nil)
  ·go_simp
   refine(hS.out _ (mO.out _ hHeld)).mono ?_
   rintro e wq hsa
   obtain⟨zo,zc,rfl,hbq,hown⟩:=hsa.use
   have hq:=ah hHeld hbq
   try(have G:=G.below hbq)
   have hpr:=aP hown
   have hok:=jW hown
   clear hsa hown
   refine hK.out _ _ ?_ (fun hHeld=> ?_)
   ·exact hq
   clear hK K
   try simp only[Act.put,aaG,aaH,aaI]
   refine aF (i:=4) (d:=some 21) (v:= ?Xe) (by rfl) (by kernel_rfl) (by kernel_rfl) (by kernel_rfl) (fun _ _ _ h=>(by cases h.1)) (by rfl) ?Ae hHeld ?Jw
   case Ae=>
    intro o ho
    simp only[aaJ,aaL,aaK,aaM]at ho
    subst ho
    intro w' hSw
    first |(go_simp;done) |(go_simp;with_reducible rfl)
   try simp only[Act.put,aaG,aaH,aaI]
   refine wpAnyH_ready (rs:=[6,7]) (by kernel_rfl) (by simp) ?_
   refine AllReadyH.cons rfl (fun K hK=> ?_) (AllReadyH.cons rfl (fun K hK=> ?_) AllReadyH.nil)
   ·go_simp
    have hlo:=hHeld.size
    try(have hg2:=G.lt)
    refine(hSh _ _ hpr hok).mono ?_
    rintro e wq ⟨a,b,c,d,rfl,hbq,hrow⟩
    have hq:=ah hHeld hbq
    try(have G:=G.below hbq)
    refine hK.out _ _ ?_ (fun hHeld=> ?_)
    ·exact hq
    clear hK K
    try simp only[Act.put,aaG,aaH,aaI]
    refine wpAnyH_ready (rs:=[7]) (by kernel_rfl) (by simp) ?_
    refine AllReadyH.cons rfl (fun K hK=> ?_) AllReadyH.nil
    ·go_simp
     first |(have G:=ZS.new wq;have hgg:=hq.size) |(have G:=(ZS.new V).drew;have hgg:=Nat.le_refl V.heap.size)
     try(have i3:=hrow;have iq:=hq;have ilo:=hlo)
     try(have hpr:=hpr.below (aj (.cells #[.bool false,.bool false,.int .i64 0,.slice none 0 0,.bool false,.int .i64 0,.int .i64 0,.slice none 0 0] 68)))
     refine hK.out _ _ ?_ (fun hHeld=> ?_)
     ·exact ah hHeld (aj _)
     clear hK K
     try simp only[Act.put,aaG,aaH,aaI]
     have hlast:=hHeld
     obtain⟨⟨y0,y1,y2,y3,y4,y5,y6,y7⟩,u0,u1,u2,u3,u4,u5,u6,u7⟩:=aK G.c
     refine wpAnyH_ready (rs:=[8]) (by kernel_rfl) (by simp) ?_
     refine AllReadyH.cons rfl (fun K hK=> ?_) AllReadyH.nil
     go_simp
     refine hK.out _ _ ?_ (fun hHeld=> ?_)
     ·first | with_reducible exact dZ hHeld hgg _ _ _ _ _ _ _ _ | with_reducible exact ah hq (aj _)
     clear hK K
     try simp only[Act.put,aaG,aaH,aaI]
     refine wpAnyH_done (by kernel_rfl) ?_ _
     first
      |(have HG:=SgB.put (.bool false) (.bool false) (.int .i64 0) (.slice a ps.length c) (.bool tx) (.int .i64 tk) (.int .i64 ty) (.slice b ws.length d) G hgg hlast hrow hlo hg2;exact⟨rfl,_,_,zo,zc,a,b,c,d,rfl,HG⟩)
      |(have HG:=SgB.new (.bool false) (.bool false) (.int .i64 0) (.slice a ps.length c) (.bool tx) (.int .i64 tk) (.int .i64 ty) (.slice b ws.length d) iq i3 ilo;exact⟨rfl,_,_,zo,zc,a,b,c,d,rfl,HG⟩)
   ·go_simp
    first |(have G:=ZS.new wq;have hgg:=hq.size) |(have G:=(ZS.new V).drew;have hgg:=Nat.le_refl V.heap.size)
    try(have i3:=hrow;have iq:=hq;have ilo:=hlo)
    try(have hpr:=hpr.below (aj (.cells #[.bool false,.bool false,.int .i64 0,.slice none 0 0,.bool false,.int .i64 0,.int .i64 0,.slice none 0 0] 68)))
    refine hK.out _ _ ?_ (fun hHeld=> ?_)
    ·exact ah hHeld (aj _)
    clear hK K
    try simp only[Act.put,aaG,aaH,aaI]
    refine wpAnyH_ready (rs:=[6]) (by kernel_rfl) (by simp) ?_
    refine AllReadyH.cons rfl (fun K hK=> ?_) AllReadyH.nil
    ·go_simp
     have hlo:=hHeld.size
     try(have hg2:=G.lt)
     refine(hSh _ _ hpr hok).mono ?_
     rintro e wq ⟨a,b,c,d,rfl,hbq,hrow⟩
     have hq:=ah hHeld hbq
     try(have G:=G.below hbq)
     refine hK.out _ _ ?_ (fun hHeld=> ?_)
     ·exact hq
     clear hK K
     try simp only[Act.put,aaG,aaH,aaI]
     have hlast:=hHeld
     obtain⟨⟨y0,y1,y2,y3,y4,y5,y6,y7⟩,u0,u1,u2,u3,u4,u5,u6,u7⟩:=aK G.c
     refine wpAnyH_ready (rs:=[8]) (by kernel_rfl) (by simp) ?_
     refine AllReadyH.cons rfl (fun K hK=> ?_) AllReadyH.nil
     go_simp
     refine hK.out _ _ ?_ (fun hHeld=> ?_)
     ·first | with_reducible exact dZ hHeld hgg _ _ _ _ _ _ _ _ | with_reducible exact ah hq (aj _)
     clear hK K
     try simp only[Act.put,aaG,aaH,aaI]
     refine wpAnyH_done (by kernel_rfl) ?_ _
     first
      |(have HG:=SgB.put (.bool false) (.bool false) (.int .i64 0) (.slice a ps.length c) (.bool tx) (.int .i64 tk) (.int .i64 ty) (.slice b ws.length d) G hgg hlast hrow hlo hg2;exact⟨rfl,_,_,zo,zc,a,b,c,d,rfl,HG⟩)
      |(have HG:=SgB.new (.bool false) (.bool false) (.int .i64 0) (.slice a ps.length c) (.bool tx) (.int .i64 tk) (.int .i64 ty) (.slice b ws.length d) iq i3 ilo;exact⟨rfl,_,_,zo,zc,a,b,c,d,rfl,HG⟩)
  ·go_simp
   first |(have G:=ZS.new wq;have hgg:=hq.size) |(have G:=(ZS.new V).drew;have hgg:=Nat.le_refl V.heap.size)
   try(have i3:=hrow;have iq:=hq;have ilo:=hlo)
   try(have hpr:=hpr.below (aj (.cells #[.bool false,.bool false,.int .i64 0,.slice none 0 0,.bool false,.int .i64 0,.int .i64 0,.slice none 0 0] 68)))
   refine hK.out _ _ ?_ (fun hHeld=> ?_)
   ·exact ah hHeld (aj _)
   clear hK K
   try simp only[Act.put,aaG,aaH,aaI]
   refine wpAnyH_ready (rs:=[3]) (by kernel_rfl) (by simp) ?_
   refine AllReadyH.cons rfl (fun K hK=> ?_) AllReadyH.nil
   ·go_simp
    refine(hS.out _ (mO.out _ hHeld)).mono ?_
    rintro e wq hsa
    obtain⟨zo,zc,rfl,hbq,hown⟩:=hsa.use
    have hq:=ah hHeld hbq
    try(have G:=G.below hbq)
    have hpr:=aP hown
    have hok:=jW hown
    clear hsa hown
    refine hK.out _ _ ?_ (fun hHeld=> ?_)
    ·exact hq
    clear hK K
    try simp only[Act.put,aaG,aaH,aaI]
    refine aF (i:=4) (d:=some 21) (v:= ?Xf) (by rfl) (by kernel_rfl) (by kernel_rfl) (by kernel_rfl) (fun _ _ _ h=>(by cases h.1)) (by rfl) ?Af hHeld ?Jy
    case Af=>
     intro o ho
     simp only[aaJ,aaL,aaK,aaM]at ho
     subst ho
     intro w' hSw
     first |(go_simp;done) |(go_simp;with_reducible rfl)
    try simp only[Act.put,aaG,aaH,aaI]
    refine wpAnyH_ready (rs:=[6]) (by kernel_rfl) (by simp) ?_
    refine AllReadyH.cons rfl (fun K hK=> ?_) AllReadyH.nil
    ·go_simp
     have hlo:=hHeld.size
     try(have hg2:=G.lt)
     refine(hSh _ _ hpr hok).mono ?_
     rintro e wq ⟨a,b,c,d,rfl,hbq,hrow⟩
     have hq:=ah hHeld hbq
     try(have G:=G.below hbq)
     refine hK.out _ _ ?_ (fun hHeld=> ?_)
     ·exact hq
     clear hK K
     try simp only[Act.put,aaG,aaH,aaI]
     have hlast:=hHeld
     obtain⟨⟨y0,y1,y2,y3,y4,y5,y6,y7⟩,u0,u1,u2,u3,u4,u5,u6,u7⟩:=aK G.c
     refine wpAnyH_ready (rs:=[8]) (by kernel_rfl) (by simp) ?_
     refine AllReadyH.cons rfl (fun K hK=> ?_) AllReadyH.nil
     go_simp
     refine hK.out _ _ ?_ (fun hHeld=> ?_)
     ·first | with_reducible exact dZ hHeld hgg _ _ _ _ _ _ _ _ | with_reducible exact ah hq (aj _)
     clear hK K
     try simp only[Act.put,aaG,aaH,aaI]
     refine wpAnyH_done (by kernel_rfl) ?_ _
     first
      |(have HG:=SgB.put (.bool false) (.bool false) (.int .i64 0) (.slice a ps.length c) (.bool tx) (.int .i64 tk) (.int .i64 ty) (.slice b ws.length d) G hgg hlast hrow hlo hg2;exact⟨rfl,_,_,zo,zc,a,b,c,d,rfl,HG⟩)
      |(have HG:=SgB.new (.bool false) (.bool false) (.int .i64 0) (.slice a ps.length c) (.bool tx) (.int .i64 tk) (.int .i64 ty) (.slice b ws.length d) iq i3 ilo;exact⟨rfl,_,_,zo,zc,a,b,c,d,rfl,HG⟩)
 rintro _ _ W2 ⟨rfl,gg,lo,zo,zc,a,b,c,d,rfl,G⟩
 dsimp only
 clear hS hSh p1 p2 hfs
 obtain⟨⟨y0,y1,y2,y3,y4,y5,y6,y7⟩,u0,u1,u2,u3,u4,u5,u6,u7⟩:=aK G.e
 have G1:=G.set1 (.bool true)
 clear G
 go_upto_region 4 with fail
 obtain⟨W3,hW3⟩:∃W3,W3=W2.setCell ⟨gg,1,none⟩ (.bool true):=⟨_,rfl⟩
 rw[←hW3]at G1 ⊢
 clear hW3 y0 y1 y2 y3 y4 y5 y6 y7 u0 u1 u2 u3 u4 u5 u6 u7
 obtain⟨r0,r1,r2,r3⟩:=kT (sN.out _ G1.bel)
 go_wp2_with fail
 refine(hRS _).mono ?_
 rintro e w4 ⟨rfl,hb4⟩
 have G2:=G1.below hb4
 clear hRS G1 hb4 r0 r1 r2 r3
 obtain⟨⟨y0,y1,y2,y3,y4,y5,y6,y7⟩,u0,u1,u2,u3,u4,u5,u6,u7⟩:=aK G2.e
 have G3:=G2.set2 (.int .i64 val)
 clear G2
 go_upto_region 6 with fail
 obtain⟨W5,yR⟩:∃W5,W5=w4.setCell ⟨gg,2,none⟩ (.int .i64 val):=⟨_,rfl⟩
 rw[←yR]at G3 ⊢
 clear yR y0 y1 y2 y3 y4 y5 y6 y7 u0 u1 u2 u3 u4 u5 u6 u7 hfi
 obtain⟨r0,r1,r2,r3⟩:=kT (sN.out _ G3.bel)
 obtain⟨⟨y0,y1,y2,y3,y4,y5,y6,y7⟩,-⟩:=aK G3.e
 have aW:=fourteen (vK.out _ G3.bel)
 obtain⟨⟨k0,k1,k2,k3,k4,k5,k6,k7,k8,k9,k10,k11,k12,k13⟩,g0,g1,g2,g3,g4,g5,g6,g7,g8,g9,g10,g11,g12,g13⟩:=aW
 have F5:Hid (Below w.heap.size w W5):=mO.out _ G3.bel
 have hrow:=G3.row
 have aC:Hid (w.heap.size+1+1<lo):=Nat.lt_of_lt_of_le oG.out.1 G3.lo
 have au:Hid (w.heap.size<=w.heap.size+1+1):=by show w.heap.size<=w.heap.size+1+1;omega
 have sJ:Hid (w.heap.size<=lo):=Nat.le_of_lt (Nat.lt_of_le_of_lt au.out aC.out)
 clear G3 sN vK mO oG
 go_wp2
 refine bodyPost_ret (v:= .agg #[.int .i64 0,.bool true,.string x0,.int .i64 x1,.int .i64 x2,.int .i64 x3,.bool false,.bool true,.int .i64 val,.slice a ps.length c,.bool tx,.int .i64 tk,.int .i64 ty,.slice b ws.length d]) (by simp[results,Tryz.results76,go_sem,k0,k1,k2,k3,k4,k5,k6,k7,k8,k9,k10,k11,k12,k13]) rfl ⟨a,b,c,d,rfl, ?_, ?_⟩
 ·exact((((((((((((((F5.out.setCell au.out _).setCell au.out _).setCell au.out _).setCell au.out _).setCell au.out _).setCell au.out _).setCell au.out _).setCell au.out _).setCell au.out _).setCell au.out _).setCell au.out _).setCell au.out _).setCell au.out _).setCell au.out _)
 ·exact(((((((((((((((hrow.set aC.out _).set aC.out _).set aC.out _).set aC.out _).set aC.out _).set aC.out _).set aC.out _).set aC.out _).set aC.out _).set aC.out _).set aC.out _).set aC.out _).set aC.out _).set aC.out _)).mono sJ.out
theorem nO(v:Value)(l:Rcl)(key:Int)(tx:Bool)(tk ty:Int)(ps:List Int)(ws:Prl)(w:World)(hv:Rcs w v l)(hl:Lbs l)(hd:aI l=0)(hk:0<=key/\key<256)(ho:lkO l key=none)
  (hSh:∀u w,Prs w u (aB l)->Okv u->Calls Tryz.prog 164 #[u,.int .i64 key] w fun e w'=>pR w false ps tx tk ty ws e w') :
  Calls Tryz.prog 76 #[.agg #[.func (.func 163) #[] #[],.func (.func 164) #[] #[],.func (.func 165) #[] #[]],.agg #[v],.int .i64 key] w fun e w'=>fZ w 0 false ⟨#[]⟩ 0 0 0 false 0 ps tx tk ty ws e w':=by
 have hR:=fun w' (hb:Below w.heap.size w w')=>lD v l w' (hv.below hb) (dP hd)
 have hS:Hid (∀w',Below w.heap.size w w'->Calls Tryz.prog 128 #[.agg #[v]] w' fun e w''=>kG w' 0 (aB l) e w''):=fun w' hb=>by
  have h:=gW v l w' (hv.below hb) hl (by have:=(dP hd).len;omega)
  have e1:sfL l=aB l:=by unfold sfL;rw[if_pos hd]
  rw[hd,e1]at h
  exact h
 have hLk:∀w b n,gI w b n (dh l l.length)->(Instr.lookup 203 (.map (some b)) (.int .i64 key) true).run Tryz.prog w = .ok (.tuple #[uZ (dh l l.length key),.bool (dh l l.length key).isSome]) w:=fun w b n h=>h.look hk
 rw[xY (dP hd),ho]at hLk
 obtain⟨va,vc,rfl⟩:=hv.shape
 generalize aB l=sl at *
 generalize dh l l.length=gm at *
 generalize l.length=n at *
 obtain⟨W,hW⟩:∃W,W=((w.alloc (.cells #[.func (.func 163) #[] #[],.func (.func 164) #[] #[],.func (.func 165) #[] #[]] 145)).alloc (.cells #[.slice va n vc] 36)).alloc (.cells #[.int .i64 0,.bool false,.string ⟨#[]⟩,.int .i64 0,.int .i64 0,.int .i64 0,.bool false,.bool false,.int .i64 0,.slice none 0 0,.bool false,.int .i64 0,.int .i64 0,.slice none 0 0] 70):=⟨_,rfl⟩
 have hBW:Below w.heap.size w W:=by rw[hW];exact(aA _ _).alloc (aA (w:=w) _ _).size _
 have hH:W.heap[w.heap.size+1+1]? = some (.cells #[.int .i64 0,.bool false,.string ⟨#[]⟩,.int .i64 0,.int .i64 0,.int .i64 0,.bool false,.bool false,.int .i64 0,.slice none 0 0,.bool false,.int .i64 0,.int .i64 0,.slice none 0 0] 70):=by
  have:=heap_alloc_new ((w.alloc (.cells #[.func (.func 163) #[] #[],.func (.func 164) #[] #[],.func (.func 165) #[] #[]] 145)).alloc (.cells #[.slice va n vc] 36)) (.cells #[.int .i64 0,.bool false,.string ⟨#[]⟩,.int .i64 0,.int .i64 0,.int .i64 0,.bool false,.bool false,.int .i64 0,.slice none 0 0,.bool false,.int .i64 0,.int .i64 0,.slice none 0 0] 70)
  rw[World.size_alloc,World.size_alloc]at this
  rw[hW]
  exact this
 have hT:W.heap[w.heap.size]? = some (.cells #[.func (.func 163) #[] #[],.func (.func 164) #[] #[],.func (.func 165) #[] #[]] 145):=by
  rw[hW]
  exact((aj _).block w.heap.size (by simp;omega)).trans (((aj _).block w.heap.size (by simp)).trans (heap_alloc_new w _))
 have hD:W.heap[w.heap.size+1]? = some (.cells #[.slice va n vc] 36):=by
  have h1:=heap_alloc_new (w.alloc (.cells #[.func (.func 163) #[] #[],.func (.func 164) #[] #[],.func (.func 165) #[] #[]] 145)) (.cells #[.slice va n vc] 36)
  rw[World.size_alloc]at h1
  rw[hW]
  exact((aj _).block (w.heap.size+1) (by simp)).trans h1
 have oO:=(Array.getElem?_eq_some_iff.1 hH).1
 have HW:Hid (_=W):=hW.symm
 have HT:Hid (∀w',Below W.heap.size W w'->w'.cell? ⟨w.heap.size,0,none⟩=some (.func (.func 163) #[] #[])/\w'.cell? ⟨w.heap.size,1,none⟩=some (.func (.func 164) #[] #[])/\w'.cell? ⟨w.heap.size,2,none⟩=some (.func (.func 165) #[] #[])):=fun w' hb=>dO ((hb.block _ (by omega)).trans hT)
 have HD:Hid (∀w',Below W.heap.size W w'->w'.cell? ⟨w.heap.size+1,0,none⟩=some (.slice va n vc)):=fun w' hb=>pU ((hb.block _ (by omega)).trans hD)
 have HH:Hid (∀w',Below W.heap.size W w'->w'.heap[w.heap.size+1+1]? = some (.cells #[.int .i64 0,.bool false,.string ⟨#[]⟩,.int .i64 0,.int .i64 0,.int .i64 0,.bool false,.bool false,.int .i64 0,.slice none 0 0,.bool false,.int .i64 0,.int .i64 0,.slice none 0 0] 70)):=fun w' hb=>(hb.block _ oO).trans hH
 have fB:Hid (Below w.heap.size w W):=hBW
 have qg:Hid (w.heap.size+1+1<W.heap.size):=oO
 have hd0:=HD.out W (Below.refl _ _)
 have hft:=lF
 have wz:=hR W hBW
 clear hR hv hl hd hk ho hW hH hT hD hBW oO
 rw[←HW.out]at hd0
 go_enter Tryz.func76,Tryz.ntmps76
 go_wp2_with fail
 rw[HW.out]
 refine wz.mono ?_
 rintro e w1 ⟨rfl,hb1,hM⟩
 have hlk:=hLk _ _ _ hM
 unfold uZ at hlk
 dsimp only[Option.getD,Option.isSome,Rc.val,rcZ]at hlk
 clear wz hLk hM hd0
 have sO:Hid (∃V,V=w1.alloc (.cells #[.string ⟨#[]⟩,.int .i64 0,.int .i64 0,.int .i64 0] 46)):=⟨_,rfl⟩
 go_wp2_with fail
 obtain⟨V,hV⟩:=sO.out
 rw[←hV]
 have dQ:Below W.heap.size W V:=by rw[hV];exact hb1.alloc hb1.size _
 have qH:V.heap[w1.heap.size]? = some (.cells #[.string ⟨#[]⟩,.int .i64 0,.int .i64 0,.int .i64 0] 46):=by rw[hV];exact heap_alloc_new w1 _
 have qK:=(Array.getElem?_eq_some_iff.1 qH).1
 have hl1:=hb1.size
 have mO:Hid (∀w',Below V.heap.size V w'->Below w.heap.size w w'):=fun w' hb=>ah fB.out (ah dQ hb)
 have sN:Hid (∀w',Below V.heap.size V w'->w'.heap[w1.heap.size]? = some (.cells #[.string ⟨#[]⟩,.int .i64 0,.int .i64 0,.int .i64 0] 46)):=fun w' hb=>(hb.block _ qK).trans qH
 have vK:Hid (∀w',Below V.heap.size V w'->w'.heap[w.heap.size+1+1]? = some (.cells #[.int .i64 0,.bool false,.string ⟨#[]⟩,.int .i64 0,.int .i64 0,.int .i64 0,.bool false,.bool false,.int .i64 0,.slice none 0 0,.bool false,.int .i64 0,.int .i64 0,.slice none 0 0] 70)):=fun w' hb=>HH.out w' (ah dQ hb)
 have p1:∀w',Below V.heap.size V w'->w'.cell? ⟨w.heap.size,1,none⟩=some (.func (.func 164) #[] #[]):=fun w' hb=>(HT.out w' (ah dQ hb)).2.1
 have p2:∀w',Below V.heap.size V w'->w'.cell? ⟨w.heap.size+1,0,none⟩=some (.slice va n vc):=fun w' hb=>HD.out w' (ah dQ hb)
 have hfs:=fun a n m w=>Bl 0 a n m w
 have oG:Hid (w.heap.size+1+1<V.heap.size/\w1.heap.size<V.heap.size/\¬w1.heap.size=w.heap.size+1+1):=⟨by have:=qg.out;have:=dQ.size;omega,qK,by have:=qg.out;omega⟩
 clear hV sO HW HT HD HH hlk hb1 dQ qH qK hl1 fB qg
 refine Code.wp_mono (Q:=fun e a' w'=>e=Exit.normal/\∃(gg lo:Nat)(zo:Option Addr)(zc:Nat)(a b:Option Addr)(c d:Nat),a' = {tmps:=#[.agg #[.func (.func 163) #[] #[],.func (.func 164) #[] #[],.func (.func 165) #[] #[]],.agg #[.slice va n vc],.int .i64 key,.pointer (some ⟨w.heap.size,0,none⟩),.pointer (some ⟨w.heap.size+1,0,none⟩),undef,.pointer (some ⟨w.heap.size+1+1,0,none⟩),.pointer (some ⟨w1.heap.size,0,none⟩),.bool false,.pointer (some ⟨gg,0,none⟩),.tuple #[.agg #[.string ⟨#[]⟩,.int .i64 0,.int .i64 0,.int .i64 0],.bool false],.agg #[.slice va n vc],.map (some (W.heap.size+1)),.int .i64 key,.tuple #[.agg #[.string ⟨#[]⟩,.int .i64 0,.int .i64 0,.int .i64 0],.bool false],.agg #[.string ⟨#[]⟩,.int .i64 0,.int .i64 0,.int .i64 0],.bool false,.pointer (some ⟨w.heap.size,1,none⟩),.func (.func 164) #[] #[],.agg #[.slice va n vc],.agg #[.int .i64 0,.slice zo sl.length zc],.slice zo sl.length zc,.int .i64 key,.agg #[.bool false,.bool false,.int .i64 0,.slice a ps.length c,.bool tx,.int .i64 tk,.int .i64 ty,.slice b ws.length d],undef,undef,undef,undef,undef,undef,undef,undef,undef,undef,undef],defers:=[]}/\SgB V w' gg lo (.bool false) (.bool false) (.int .i64 0) (.slice a ps.length c) (.bool tx) (.int .i64 tk) (.int .i64 ty) (.slice b ws.length d) ps ws a b c d) ?tail ?reg
 case reg=>
  refine wp_region_held_drew (S:=fun w'=>Below V.heap.size V w') (by kernel_rfl) ((Below.refl _ _).drew) (fun hHeld=> ?_)
  refine aF (i:=0) (d:=some 17) (v:= ?Xa) (by rfl) (by kernel_rfl) (by kernel_rfl) (by kernel_rfl) (fun _ _ _ h=>(by cases h.1)) (by rfl) ?zZ hHeld ?Js
  case zZ=>
   intro o ho
   simp only[aaJ,aaK,aaM]at ho
   subst ho
   intro w' hSw
   first |(go_simp;done) |(go_simp;with_reducible rfl)
  try simp only[Act.put,aaG,aaH,aaI]
  refine aF (i:=1) (d:=some 18) (v:= ?Xb) (by rfl) (by kernel_rfl) (by kernel_rfl) (by kernel_rfl) (fun _ _ _ h=>(by cases h.1)) (by rfl) ?Aa hHeld ?Jt
  case Aa=>
   intro o ho
   simp only[aaJ,aaL,aaK,aaM]at ho
   subst ho
   intro w' hSw
   first |(go_simp;done) |(go_simp;with_reducible rfl)
  try simp only[Act.put,aaG,aaH,aaI]
  refine aF (i:=2) (d:=some 19) (v:= ?Xc) (by rfl) (by kernel_rfl) (by kernel_rfl) (by kernel_rfl) (fun _ _ _ h=>(by cases h.1)) (by rfl) ?Ac hHeld ?Ju
  case Ac=>
   intro o ho
   simp only[aaJ,aaL,aaK,aaM]at ho
   subst ho
   intro w' hSw
   first |(go_simp;done) |(go_simp;with_reducible rfl)
  try simp only[Act.put,aaG,aaH,aaI]
  refine aF (i:=5) (d:=some 22) (v:= ?Xd) (by rfl) (by kernel_rfl) (by kernel_rfl) (by kernel_rfl) (fun _ _ _ h=>(by cases h.1)) (by rfl) ?Ad hHeld ?Jv
  case Ad=>
   intro o ho
   simp only[aaJ,aaL,aaK,aaM]at ho
   subst ho
   intro w' hSw
   first |(go_simp;done) |(go_simp;with_reducible rfl)
  try simp only[Act.put,aaG,aaH,aaI]
  refine wpAnyH_ready (rs:=[3,7]) (by kernel_rfl) (by simp) ?_
  refine AllReadyH.cons rfl (fun K hK=> ?_) (AllReadyH.cons rfl (fun K hK=> ?_) AllReadyH.nil)
  ·go_simp
   refine(hS.out _ (mO.out _ hHeld)).mono ?_
   rintro e wq hsa
   obtain⟨zo,zc,rfl,hbq,hown⟩:=hsa.use
   have hq:=ah hHeld hbq
   try(have G:=G.below hbq)
   have hpr:=aP hown
   have hok:=jW hown
   clear hsa hown
   refine hK.out _ _ ?_ (fun hHeld=> ?_)
   ·exact hq
   clear hK K
   try simp only[Act.put,aaG,aaH,aaI]
   refine aF (i:=4) (d:=some 21) (v:= ?Xe) (by rfl) (by kernel_rfl) (by kernel_rfl) (by kernel_rfl) (fun _ _ _ h=>(by cases h.1)) (by rfl) ?Ae hHeld ?Jw
   case Ae=>
    intro o ho
    simp only[aaJ,aaL,aaK,aaM]at ho
    subst ho
    intro w' hSw
    first |(go_simp;done) |(go_simp;with_reducible rfl)
   try simp only[Act.put,aaG,aaH,aaI]
   refine wpAnyH_ready (rs:=[6,7]) (by kernel_rfl) (by simp) ?_
   refine AllReadyH.cons rfl (fun K hK=> ?_) (AllReadyH.cons rfl (fun K hK=> ?_) AllReadyH.nil)
   ·go_simp
    have hlo:=hHeld.size
    try(have hg2:=G.lt)
    refine(hSh _ _ hpr hok).mono ?_
    rintro e wq ⟨a,b,c,d,rfl,hbq,hrow⟩
    have hq:=ah hHeld hbq
    try(have G:=G.below hbq)
    refine hK.out _ _ ?_ (fun hHeld=> ?_)
    ·exact hq
    clear hK K
    try simp only[Act.put,aaG,aaH,aaI]
    refine wpAnyH_ready (rs:=[7]) (by kernel_rfl) (by simp) ?_
    refine AllReadyH.cons rfl (fun K hK=> ?_) AllReadyH.nil
    ·go_simp
     first |(have G:=ZS.new wq;have hgg:=hq.size) |(have G:=(ZS.new V).drew;have hgg:=Nat.le_refl V.heap.size)
     try(have i3:=hrow;have iq:=hq;have ilo:=hlo)
     try(have hpr:=hpr.below (aj (.cells #[.bool false,.bool false,.int .i64 0,.slice none 0 0,.bool false,.int .i64 0,.int .i64 0,.slice none 0 0] 68)))
     refine hK.out _ _ ?_ (fun hHeld=> ?_)
     ·exact ah hHeld (aj _)
     clear hK K
     try simp only[Act.put,aaG,aaH,aaI]
     have hlast:=hHeld
     obtain⟨⟨y0,y1,y2,y3,y4,y5,y6,y7⟩,u0,u1,u2,u3,u4,u5,u6,u7⟩:=aK G.c
     refine wpAnyH_ready (rs:=[8]) (by kernel_rfl) (by simp) ?_
     refine AllReadyH.cons rfl (fun K hK=> ?_) AllReadyH.nil
     go_simp
     refine hK.out _ _ ?_ (fun hHeld=> ?_)
     ·first | with_reducible exact dZ hHeld hgg _ _ _ _ _ _ _ _ | with_reducible exact ah hq (aj _)
     clear hK K
     try simp only[Act.put,aaG,aaH,aaI]
     refine wpAnyH_done (by kernel_rfl) ?_ _
     first
      |(have HG:=SgB.put (.bool false) (.bool false) (.int .i64 0) (.slice a ps.length c) (.bool tx) (.int .i64 tk) (.int .i64 ty) (.slice b ws.length d) G hgg hlast hrow hlo hg2;exact⟨rfl,_,_,zo,zc,a,b,c,d,rfl,HG⟩)
      |(have HG:=SgB.new (.bool false) (.bool false) (.int .i64 0) (.slice a ps.length c) (.bool tx) (.int .i64 tk) (.int .i64 ty) (.slice b ws.length d) iq i3 ilo;exact⟨rfl,_,_,zo,zc,a,b,c,d,rfl,HG⟩)
   ·go_simp
    first |(have G:=ZS.new wq;have hgg:=hq.size) |(have G:=(ZS.new V).drew;have hgg:=Nat.le_refl V.heap.size)
    try(have i3:=hrow;have iq:=hq;have ilo:=hlo)
    try(have hpr:=hpr.below (aj (.cells #[.bool false,.bool false,.int .i64 0,.slice none 0 0,.bool false,.int .i64 0,.int .i64 0,.slice none 0 0] 68)))
    refine hK.out _ _ ?_ (fun hHeld=> ?_)
    ·exact ah hHeld (aj _)
    clear hK K
    try simp only[Act.put,aaG,aaH,aaI]
    refine wpAnyH_ready (rs:=[6]) (by kernel_rfl) (by simp) ?_
    refine AllReadyH.cons rfl (fun K hK=> ?_) AllReadyH.nil
    ·go_simp
     have hlo:=hHeld.size
     try(have hg2:=G.lt)
     refine(hSh _ _ hpr hok).mono ?_
     rintro e wq ⟨a,b,c,d,rfl,hbq,hrow⟩
     have hq:=ah hHeld hbq
     try(have G:=G.below hbq)
     refine hK.out _ _ ?_ (fun hHeld=> ?_)
     ·exact hq
     clear hK K
     try simp only[Act.put,aaG,aaH,aaI]
     have hlast:=hHeld
     obtain⟨⟨y0,y1,y2,y3,y4,y5,y6,y7⟩,u0,u1,u2,u3,u4,u5,u6,u7⟩:=aK G.c
     refine wpAnyH_ready (rs:=[8]) (by kernel_rfl) (by simp) ?_
     refine AllReadyH.cons rfl (fun K hK=> ?_) AllReadyH.nil
     go_simp
     refine hK.out _ _ ?_ (fun hHeld=> ?_)
     ·first | with_reducible exact dZ hHeld hgg _ _ _ _ _ _ _ _ | with_reducible exact ah hq (aj _)
     clear hK K
     try simp only[Act.put,aaG,aaH,aaI]
     refine wpAnyH_done (by kernel_rfl) ?_ _
     first
      |(have HG:=SgB.put (.bool false) (.bool false) (.int .i64 0) (.slice a ps.length c) (.bool tx) (.int .i64 tk) (.int .i64 ty) (.slice b ws.length d) G hgg hlast hrow hlo hg2;exact⟨rfl,_,_,zo,zc,a,b,c,d,rfl,HG⟩)
      |(have HG:=SgB.new (.bool false) (.bool false) (.int .i64 0) (.slice a ps.length c) (.bool tx) (.int .i64 tk) (.int .i64 ty) (.slice b ws.length d) iq i3 ilo;exact⟨rfl,_,_,zo,zc,a,b,c,d,rfl,HG⟩)
  ·go_simp
   first |(have G:=ZS.new wq;have hgg:=hq.size) |(have G:=(ZS.new V).drew;have hgg:=Nat.le_refl V.heap.size)
   try(have i3:=hrow;have iq:=hq;have ilo:=hlo)
   try(have hpr:=hpr.below (aj (.cells #[.bool false,.bool false,.int .i64 0,.slice none 0 0,.bool false,.int .i64 0,.int .i64 0,.slice none 0 0] 68)))
   refine hK.out _ _ ?_ (fun hHeld=> ?_)
   ·exact ah hHeld (aj _)
   clear hK K
   try simp only[Act.put,aaG,aaH,aaI]
   refine wpAnyH_ready (rs:=[3]) (by kernel_rfl) (by simp) ?_
   refine AllReadyH.cons rfl (fun K hK=> ?_) AllReadyH.nil
   ·go_simp
    refine(hS.out _ (mO.out _ hHeld)).mono ?_
    rintro e wq hsa
    obtain⟨zo,zc,rfl,hbq,hown⟩:=hsa.use
    have hq:=ah hHeld hbq
    try(have G:=G.below hbq)
    have hpr:=aP hown
    have hok:=jW hown
    clear hsa hown
    refine hK.out _ _ ?_ (fun hHeld=> ?_)
    ·exact hq
    clear hK K
    try simp only[Act.put,aaG,aaH,aaI]
    refine aF (i:=4) (d:=some 21) (v:= ?Xf) (by rfl) (by kernel_rfl) (by kernel_rfl) (by kernel_rfl) (fun _ _ _ h=>(by cases h.1)) (by rfl) ?Af hHeld ?Jy
    case Af=>
     intro o ho
     simp only[aaJ,aaL,aaK,aaM]at ho
     subst ho
     intro w' hSw
     first |(go_simp;done) |(go_simp;with_reducible rfl)
    try simp only[Act.put,aaG,aaH,aaI]
    refine wpAnyH_ready (rs:=[6]) (by kernel_rfl) (by simp) ?_
    refine AllReadyH.cons rfl (fun K hK=> ?_) AllReadyH.nil
    ·go_simp
     have hlo:=hHeld.size
     try(have hg2:=G.lt)
     refine(hSh _ _ hpr hok).mono ?_
     rintro e wq ⟨a,b,c,d,rfl,hbq,hrow⟩
     have hq:=ah hHeld hbq
     try(have G:=G.below hbq)
     refine hK.out _ _ ?_ (fun hHeld=> ?_)
     ·exact hq
     clear hK K
     try simp only[Act.put,aaG,aaH,aaI]
     have hlast:=hHeld
     obtain⟨⟨y0,y1,y2,y3,y4,y5,y6,y7⟩,u0,u1,u2,u3,u4,u5,u6,u7⟩:=aK G.c
     refine wpAnyH_ready (rs:=[8]) (by kernel_rfl) (by simp) ?_
     refine AllReadyH.cons rfl (fun K hK=> ?_) AllReadyH.nil
     go_simp
     refine hK.out _ _ ?_ (fun hHeld=> ?_)
     ·first | with_reducible exact dZ hHeld hgg _ _ _ _ _ _ _ _ | with_reducible exact ah hq (aj _)
     clear hK K
     try simp only[Act.put,aaG,aaH,aaI]
     refine wpAnyH_done (by kernel_rfl) ?_ _
     first
      |(have HG:=SgB.put (.bool false) (.bool false) (.int .i64 0) (.slice a ps.length c) (.bool tx) (.int .i64 tk) (.int .i64 ty) (.slice b ws.length d) G hgg hlast hrow hlo hg2;exact⟨rfl,_,_,zo,zc,a,b,c,d,rfl,HG⟩)
      |(have HG:=SgB.new (.bool false) (.bool false) (.int .i64 0) (.slice a ps.length c) (.bool tx) (.int .i64 tk) (.int .i64 ty) (.slice b ws.length d) iq i3 ilo;exact⟨rfl,_,_,zo,zc,a,b,c,d,rfl,HG⟩)
 rintro _ _ W2 ⟨rfl,gg,lo,zo,zc,a,b,c,d,rfl,G⟩
 dsimp only
 clear hS hSh p1 p2 hfs
 obtain⟨⟨y0,y1,y2,y3,y4,y5,y6,y7⟩,u0,u1,u2,u3,u4,u5,u6,u7⟩:=aK G.e
 have G1:=G.set1 (.bool false)
 clear G
 go_upto_region 4 with fail
 obtain⟨W3,hW3⟩:∃W3,W3=W2.setCell ⟨gg,1,none⟩ (.bool false):=⟨_,rfl⟩
 rw[←hW3]at G1 ⊢
 clear hW3 y0 y1 y2 y3 y4 y5 y6 y7 u0 u1 u2 u3 u4 u5 u6 u7
 obtain⟨r0,r1,r2,r3⟩:=kT (sN.out _ G1.bel)
 obtain⟨⟨y0,y1,y2,y3,y4,y5,y6,y7⟩,-⟩:=aK G1.e
 have aW:=fourteen (vK.out _ G1.bel)
 obtain⟨⟨k0,k1,k2,k3,k4,k5,k6,k7,k8,k9,k10,k11,k12,k13⟩,g0,g1,g2,g3,g4,g5,g6,g7,g8,g9,g10,g11,g12,g13⟩:=aW
 have F5:Hid (Below w.heap.size w W3):=mO.out _ G1.bel
 have hrow:=G1.row
 have aC:Hid (w.heap.size+1+1<lo):=Nat.lt_of_lt_of_le oG.out.1 G1.lo
 have au:Hid (w.heap.size<=w.heap.size+1+1):=by show w.heap.size<=w.heap.size+1+1;omega
 have sJ:Hid (w.heap.size<=lo):=Nat.le_of_lt (Nat.lt_of_le_of_lt au.out aC.out)
 clear G1 sN vK mO oG
 go_wp2
 refine bodyPost_ret (v:= .agg #[.int .i64 0,.bool false,.string ⟨#[]⟩,.int .i64 0,.int .i64 0,.int .i64 0,.bool false,.bool false,.int .i64 0,.slice a ps.length c,.bool tx,.int .i64 tk,.int .i64 ty,.slice b ws.length d]) (by simp[results,Tryz.results76,go_sem,k0,k1,k2,k3,k4,k5,k6,k7,k8,k9,k10,k11,k12,k13]) rfl ⟨a,b,c,d,rfl, ?_, ?_⟩
 ·exact((((((((((((((F5.out.setCell au.out _).setCell au.out _).setCell au.out _).setCell au.out _).setCell au.out _).setCell au.out _).setCell au.out _).setCell au.out _).setCell au.out _).setCell au.out _).setCell au.out _).setCell au.out _).setCell au.out _).setCell au.out _)
 ·exact(((((((((((((((hrow.set aC.out _).set aC.out _).set aC.out _).set aC.out _).set aC.out _).set aC.out _).set aC.out _).set aC.out _).set aC.out _).set aC.out _).set aC.out _).set aC.out _).set aC.out _).set aC.out _)).mono sJ.out
end U
end Go.Proofs.YtmnfokgllcdiiaaGreat
