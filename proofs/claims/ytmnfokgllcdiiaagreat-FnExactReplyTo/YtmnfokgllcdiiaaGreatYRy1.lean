/- What is shown of a key, by the program. -/
import Derived.Test.YtmnfokgllcdiiaaGreatYR1
import Derived.Test.YtmnfokgllcdiiaaGreatYTr15
set_option maxRecDepth 100000
set_option maxHeartbeats 2000000
namespace Go.Proofs.YtmnfokgllcdiiaaGreat
open Go.RowKit
namespace U
theorem aK{w:World}{b:Nat}{x0 x1 x2 x3 x4 x5 x6 x7:Value}{t:TypeId}(h:w.heap[b]? = some (.cells #[x0,x1,x2,x3,x4,x5,x6,x7] t)):(w.cell? ⟨b,0,none⟩=some x0/\w.cell? ⟨b,1,none⟩=some x1/\w.cell? ⟨b,2,none⟩=some x2/\w.cell? ⟨b,3,none⟩=some x3/\w.cell? ⟨b,4,none⟩=some x4/\w.cell? ⟨b,5,none⟩=some x5/\w.cell? ⟨b,6,none⟩=some x6/\w.cell? ⟨b,7,none⟩=some x7)/\w.frozen? ⟨b,0,none⟩=false/\w.frozen? ⟨b,1,none⟩=false/\w.frozen? ⟨b,2,none⟩=false/\w.frozen? ⟨b,3,none⟩=false/\w.frozen? ⟨b,4,none⟩=false/\w.frozen? ⟨b,5,none⟩=false/\w.frozen? ⟨b,6,none⟩=false/\w.frozen? ⟨b,7,none⟩=false:=by
 simp[World.cell?,World.frozen?,h]
def bK(lo:Nat)(w:World)(ps:List Int)(ws:Prl)(a b:Option Addr)(c d:Nat):Prop:=
 (∃t,w.ownsRow lo t 1 (.slice a ps.length c) ps.length (ps.map (Value.int .i64)))/\w.ownsRow lo 291 2 (.slice b ws.length d) ws.length ((fl ws).map (Value.int .i64))/\((a=none/\c=0)∨(b=none/\d=0))
theorem bK.set{lo:Nat}{w:World}{ps:List Int}{ws:Prl}{a b:Option Addr}{c d:Nat}(h:bK lo w ps ws a b c d){p:Addr}(hp:p.block<lo)(u:Value):bK lo (w.setCell p u) ps ws a b c d:=by
 obtain⟨⟨t,h1⟩,h2,h3⟩:=h
 exact⟨⟨t,ownsRow_setCell_below h1 hp u⟩,ownsRow_setCell_below h2 hp u,h3⟩
theorem bK.mono{lo lo':Nat}{w:World}{ps:List Int}{ws:Prl}{a b:Option Addr}{c d:Nat}(h:bK lo w ps ws a b c d)(hl:lo'<=lo):bK lo' w ps ws a b c d:=by
 obtain⟨⟨t,h1⟩,h2,h3⟩:=h
 exact⟨⟨t,aS h1 hl⟩,aS h2 hl,h3⟩
theorem mD(lo:Nat)(e:TypeId)(z:Nat)(w:World):w.ownsRow lo e z (.slice none 0 0) 0 []:=⟨by simp,Or.inl ⟨rfl,rfl⟩⟩
def pR(w:World)(old:Bool)(ps:List Int)(tx:Bool)(tk ty:Int)(ws:Prl)(e:Ending)(w':World):Prop:=
 ∃a b c d,e = .returned (.agg #[.bool old,.bool false,.int .i64 0,.slice a ps.length c,.bool tx,.int .i64 tk,.int .i64 ty,.slice b ws.length d])/\Below w.heap.size w w'/\bK w.heap.size w' ps ws a b c d
theorem VJ(c:Int)(a:Option Addr)(n m:Nat)(w:World):(Instr.field 245 (.agg #[.int .i64 c,.slice a n m]) 1).run Tryz.prog w = .ok (.slice a n m) w:=by kernel_rfl
theorem VK(c k y:Int)(x:Bool)(a:Option Addr)(n m:Nat)(w:World):(Instr.field 296 (.agg #[.int .i64 c,.bool x,.int .i64 k,.int .i64 y,.slice a n m]) 1).run Tryz.prog w = .ok (.agg #[.bool x,.int .i64 k,.int .i64 y,.slice a n m]) w:=by kernel_rfl
theorem JF(v:Value)(l:Prl)(key:Int)(w:World)(hv:Prs w v l)(ho:Okv v)(h0:slF l=0)(hk:inB key 0 255=true):
  Calls Tryz.prog 161 #[v,.int .i64 key] w fun e w'=>pR w true (pth l key 8) false 0 0 [] e w':=by
 obtain⟨W,hW⟩:∃W,W=w.alloc (.cells #[.bool false,.bool false,.int .i64 0,.slice none 0 0,.bool false,.int .i64 0,.int .i64 0,.slice none 0 0] 68):=⟨_,rfl⟩
 have hBW:Below w.heap.size w W:=by rw[hW];exact aj _
 have hH:W.heap[w.heap.size]? = some (.cells #[.bool false,.bool false,.int .i64 0,.slice none 0 0,.bool false,.int .i64 0,.int .i64 0,.slice none 0 0] 68):=by rw[hW];exact heap_alloc_new w _
 have hlt:=(Array.getElem?_eq_some_iff.1 hH).1
 have hO:=BI v l key W (hv.below hBW) ho (by have:=(kQ h0).len;omega)
 have e1:opC l key=0:=by unfold opC;rw[if_pos h0,if_pos hk]
 have e2:opL l key=pth l key 8:=by unfold opL;rw[if_pos ⟨h0,hk⟩]
 rw[e1,e2]at hO
 clear e1 e2
 generalize pth l key 8=ps at *
 obtain⟨ad,cc,rfl⟩:=hv.shape
 have HW:Hid _:=hW.symm
 clear hW hv ho h0 hk
 go_enter Tryz.func161,Tryz.ntmps161
 go_wp2_with fail
 rw[HW.out]
 refine hO.mono ?_
 rintro e w1 h
 obtain⟨a,c,t,rfl,hb1,o1⟩:=h.use
 have hf:=fun w=>VJ 0 a ps.length c w
 have hB1:=ah hBW hb1
 have hsz:=hBW.size
 obtain⟨⟨q0,q1,q2,q3,q4,q5,q6,q7⟩,g0,g1,g2,g3,g4,g5,g6,g7⟩:=aK ((hb1.block _ hlt).trans hH)
 clear hO HW
 go_wp2
 refine bodyPost_ret (v:= .agg #[.bool true,.bool false,.int .i64 0,.slice a ps.length c,.bool false,.int .i64 0,.int .i64 0,.slice none 0 0]) (by simp[results,Tryz.results161,go_sem,q0,q1,q2,q3,q4,q5,q6,q7]) rfl ⟨a,none,c,0,rfl, ?_, ?_⟩
 ·exact(((((((hB1.setCell (Nat.le_refl _) _).setCell (Nat.le_refl _) _).setCell (Nat.le_refl _) _).setCell (Nat.le_refl _) _).setCell (Nat.le_refl _) _).setCell (Nat.le_refl _) _).setCell (Nat.le_refl _) _).setCell (Nat.le_refl _) _
 ·have hr:bK W.heap.size w1 ps [] a none c 0:=⟨⟨t,o1⟩,mD _ _ _ _,Or.inr ⟨rfl,rfl⟩⟩
  exact((((((((hr.set hlt _).set hlt _).set hlt _).set hlt _).set hlt _).set hlt _).set hlt _).set hlt _).mono hsz
theorem xI(v:Value)(l:Prl)(x:Bool)(k y:Int)(ws:Prl)(key:Int)(w:World)(hv:Prs w v l)(hN:∀w,Prs w v l->Calls Tryz.prog 220 #[v,.int .i64 key] w fun e w'=>FU w 0 x k y ws e w'):
  Calls Tryz.prog 164 #[v,.int .i64 key] w fun e w'=>pR w false [] x k y ws e w':=by
 obtain⟨W,hW⟩:∃W,W=w.alloc (.cells #[.bool false,.bool false,.int .i64 0,.slice none 0 0,.bool false,.int .i64 0,.int .i64 0,.slice none 0 0] 68):=⟨_,rfl⟩
 have hBW:Below w.heap.size w W:=by rw[hW];exact aj _
 have hH:W.heap[w.heap.size]? = some (.cells #[.bool false,.bool false,.int .i64 0,.slice none 0 0,.bool false,.int .i64 0,.int .i64 0,.slice none 0 0] 68):=by rw[hW];exact heap_alloc_new w _
 have hlt:=(Array.getElem?_eq_some_iff.1 hH).1
 have hO:=hN W (hv.below hBW)
 obtain⟨ad,cc,rfl⟩:=hv.shape
 have HW:Hid _:=hW.symm
 clear hW hv hN
 go_enter Tryz.func164,Tryz.ntmps164
 go_wp2_with fail
 rw[HW.out]
 refine hO.mono ?_
 rintro e w1 h
 obtain⟨b,d,rfl,hb1,o1⟩:=h
 have hf:=fun w=>VK 0 k y x b ws.length d w
 have hB1:=ah hBW hb1
 have hsz:=hBW.size
 obtain⟨⟨q0,q1,q2,q3,q4,q5,q6,q7⟩,g0,g1,g2,g3,g4,g5,g6,g7⟩:=aK ((hb1.block _ hlt).trans hH)
 clear hO HW
 go_wp2
 refine bodyPost_ret (v:= .agg #[.bool false,.bool false,.int .i64 0,.slice none 0 0,.bool x,.int .i64 k,.int .i64 y,.slice b ws.length d]) (by simp[results,Tryz.results164,go_sem,q0,q1,q2,q3,q4,q5,q6,q7]) rfl ⟨none,b,0,d,rfl, ?_, ?_⟩
 ·exact(((((((hB1.setCell (Nat.le_refl _) _).setCell (Nat.le_refl _) _).setCell (Nat.le_refl _) _).setCell (Nat.le_refl _) _).setCell (Nat.le_refl _) _).setCell (Nat.le_refl _) _).setCell (Nat.le_refl _) _).setCell (Nat.le_refl _) _
 ·have hr:bK W.heap.size w1 [] ws none b 0 d:=⟨⟨2,mD _ _ _ _⟩,o1,Or.inl ⟨rfl,rfl⟩⟩
  exact((((((((hr.set hlt _).set hlt _).set hlt _).set hlt _).set hlt _).set hlt _).set hlt _).set hlt _).mono hsz
theorem fifteen{w:World}{g:Nat}{v0 v1 v2 v3 v4 v5 v6 v7 v8 v9 v10 v11 v12 v13 v14:Value}{ty:TypeId}(h:w.heap[g]? = some (.cells #[v0,v1,v2,v3,v4,v5,v6,v7,v8,v9,v10,v11,v12,v13,v14] ty)):(w.cell? ⟨g,0,none⟩=some v0/\w.cell? ⟨g,1,none⟩=some v1/\w.cell? ⟨g,2,none⟩=some v2/\w.cell? ⟨g,3,none⟩=some v3/\w.cell? ⟨g,4,none⟩=some v4/\w.cell? ⟨g,5,none⟩=some v5/\w.cell? ⟨g,6,none⟩=some v6/\w.cell? ⟨g,7,none⟩=some v7/\w.cell? ⟨g,8,none⟩=some v8/\w.cell? ⟨g,9,none⟩=some v9/\w.cell? ⟨g,10,none⟩=some v10/\w.cell? ⟨g,11,none⟩=some v11/\w.cell? ⟨g,12,none⟩=some v12/\w.cell? ⟨g,13,none⟩=some v13/\w.cell? ⟨g,14,none⟩=some v14)/\w.frozen? ⟨g,0,none⟩=false/\w.frozen? ⟨g,1,none⟩=false/\w.frozen? ⟨g,2,none⟩=false/\w.frozen? ⟨g,3,none⟩=false/\w.frozen? ⟨g,4,none⟩=false/\w.frozen? ⟨g,5,none⟩=false/\w.frozen? ⟨g,6,none⟩=false/\w.frozen? ⟨g,7,none⟩=false/\w.frozen? ⟨g,8,none⟩=false/\w.frozen? ⟨g,9,none⟩=false/\w.frozen? ⟨g,10,none⟩=false/\w.frozen? ⟨g,11,none⟩=false/\w.frozen? ⟨g,12,none⟩=false/\w.frozen? ⟨g,13,none⟩=false/\w.frozen? ⟨g,14,none⟩=false:=by
 refine⟨⟨?_, ?_, ?_, ?_, ?_, ?_, ?_, ?_, ?_, ?_, ?_, ?_, ?_, ?_, ?_⟩, ?_, ?_, ?_, ?_, ?_, ?_, ?_, ?_, ?_, ?_, ?_, ?_, ?_, ?_, ?_⟩<;>(first |(unfold World.cell?;rw[h];rfl) |(unfold World.frozen?;rw[h];rfl))
def kS(w:World)(cd ep:Int)(held:Bool)(x0:ByteArray)(x1 x2 x3:Int)(old:Bool)(val:Int)(ps:List Int)(tx:Bool)(tk ty:Int)(ws:Prl)(e:Ending)(w':World):Prop:=
 ∃a b c d,e = .returned (.agg #[.int .i64 cd,.int .i64 ep,.bool held,.string x0,.int .i64 x1,.int .i64 x2,.int .i64 x3,.bool old,.bool held,.int .i64 val,.slice a ps.length c,.bool tx,.int .i64 tk,.int .i64 ty,.slice b ws.length d])/\Below w.heap.size w w'/\bK w.heap.size w' ps ws a b c d
theorem lQ(lo:Nat)(w:World):bK lo w [] [] none none 0 0:=⟨⟨2,mD _ _ _ _⟩,mD _ _ _ _,Or.inl ⟨rfl,rfl⟩⟩
end U
end Go.Proofs.YtmnfokgllcdiiaaGreat
