/- The trail of a key, as the program makes it. -/
import Derived.Test.YtmnfokgllcdiiaaGreatYZz
import Derived.Test.YtmnfokgllcdiiaaGreatYR2
import Derived.Test.YtmnfokgllcdiiaaGreatYBC
import Derived.Test.YtmnfokgllcdiiaaGreatYRX
set_option maxRecDepth 100000
set_option maxHeartbeats 4000000
namespace Go.Proofs.YtmnfokgllcdiiaaGreat
open Go.RowKit Go.Shelf
namespace U
attribute [local go_sem] Oper.semAt_some
theorem oW{w:World}{B n size:Nat}{e:TypeId}{v:Value}{xs:List Value}{g:Nat}(h:w.ownsRow B e size v n xs)(hg:v.ownBlock=some g):∃cur,w.heap[g]? = some (.cells cur e):=by
 rcases h.2 with⟨rfl,_⟩ |⟨g',cap,cur,rfl,_,h4,_⟩
 ·simp[Value.ownBlock]at hg
 ·have:g'=g:=by simpa [Value.ownBlock]using hg
  subst this
  exact⟨cur,h4⟩
theorem BH(v:Value)(l:Prl)(t:Tr)(key:Int)(w:World)(hv:Prs w v l)(ho:Okv v)(h0:slF l=0)(ht:bG l t)(hn:0<l.length)(hk:inB key 0 255=true):
  Calls Tryz.prog 220 #[v,.int .i64 key] w fun e w'=>FU w 0 true (t.near key).1 (t.near key).2 (t.way key) e w':=by
 have hs:=kQ h0
 obtain⟨p,hp⟩:=SV key (ht.ok hs)
 have V7:t.way key=tw key (iC p p.length):=by rw[QE,←hp,WM]
 obtain⟨len,hlp⟩:∃len,len=p.length:=⟨_,rfl⟩
 have hlen:(t.steps key).length=len:=by rw[hlp,←hp,List.length_map]
 have hlen2:len<=1000:=by
  have h1:=t.EL key
  have h2:=ht.forks
  have h3:=hs.len
  omega
 rw[V7,←hlp]
 have XE:Hid (len=p.length):=hlp
 clear hlp
 have hF:=fun w' h=>dX v l w' (hv.below h) (by have:=hs.len;omega)
 have hT:=fun w' h=>uX ht v w' hs (hv.below h) ho
 have hY:=fun w=>EO t key w (ht.ok hs) (iw hk) (by have:=ht.forks;have:=hs.len;omega)
 have hK:=fun w=>oQ key w
 have ha:=Ub (.agg #[.int .i64 (t.near key).1,.int .i64 (t.near key).2])
 have hE:Hid ((t.last key).val = .iface 351 (.agg #[.int .i64 (t.near key).1,.int .i64 (t.near key).2])):=(by rw[ht.end key hn];rfl:(t.last key).val = .iface 351 (.agg #[.int .i64 (t.near key).1,.int .i64 (t.near key).2]))
 rw[h0]at hF
 rw[hk]at hK
 obtain⟨tT,xT,eT⟩:=t.isIface
 rw[eT]at hT hY
 obtain⟨ad,c,rfl⟩:=hv.shape
 generalize (t.near key).1=x at *
 generalize (t.near key).2=y at *
 generalize l.length=n at *
 clear hv ho h0 hn eT
 refine(callsIn_wide (n:=4)).1 (callsIn_of_wp_marks Tryz.func220 rfl trivial ?_ rfl)
 refine wpIn_wide.2 ?_
 simp only[Tryz.ntmps220,List.size_toArray,List.length_cons,List.length_nil,Nat.reduceAdd,Nat.reduceSub,Array.replicate_succ,Array.replicate_zero,List.push_toArray,List.append_toArray,List.nil_append,List.cons_append]
 go_wp2_with fail
 refine(hF _ (aA _ _)).mono ?_
 rintro e w1 ⟨rfl,hb1⟩
 have hr:=heap_alloc_new (w.alloc (.cells #[.int .i64 key] 2)) (.cells #[.int .i64 0,.bool false,.int .i64 0,.int .i64 0,.slice none 0 0] 296)
 rw[World.size_alloc]at hr
 have HR1:Hid (w1.heap[w.heap.size+1]? = some (.cells #[.int .i64 0,.bool false,.int .i64 0,.int .i64 0,.slice none 0 0] 296)):=((hb1.block (w.heap.size+1) (by simp)).trans hr)
 have Vr:Hid (w1.heap[w.heap.size]? = some (.cells #[.int .i64 key] 2)):=(hb1.block w.heap.size (by simp;omega)).trans (((aj _).block w.heap.size (by simp)).trans (heap_alloc_new w (.cells #[.int .i64 key] 2)))
 have hbx:w1.cell? ⟨w.heap.size,0,none⟩=some (.int .i64 key):=by unfold World.cell?;rw[Vr.out];rfl
 have hB1:Hid (Below w.heap.size w w1):=ah (aA _ _) hb1
 have hsz:w.heap.size+1<w1.heap.size:=(Array.getElem?_eq_some_iff.1 HR1.out).1
 clear hF hb1 hr
 go_wp2_with fail
 refine(hK _).mono ?_
 rintro e w2 ⟨rfl,rfl⟩
 clear hK
 have hbr:=Below.refl w2.heap.size w2
 have HC:Hid (∀w',Below w2.heap.size w2 w'->w'.cell? ⟨w.heap.size,0,none⟩=some (.int .i64 key)):=fun w' h=>(h.cell (p:=⟨w.heap.size,0,none⟩) (by show w.heap.size<w2.heap.size;omega)).trans hbx
 go_wp2
 go_region_held3 (fun w'=>w'.cell? ⟨w.heap.size,0,none⟩=some (.int .i64 key))
  (first | exact hbx | exact HC.out _ hbr | exact HC.out _ hbr.drew)
  (first
   |(go_at_call 269;refine(hT _ (by first | exact ah hB1.out hbr | exact(ah hB1.out hbr).drew)).mono ?_;rintro e wq ⟨rfl,hbq⟩;have hbr:Below w2.heap.size w2 wq:=(by first | exact ah hbr hbq | exact ah hbr.drew hbq))
   |(go_at_call 268;refine(hY _).mono ?_;rintro e wy ⟨hby,vv,rfl,IZ⟩;have hbr:Below w2.heap.size w2 wy:=ah hbr hby))
 rw[hE.out]
 obtain⟨av,cv,rfl⟩:=uM IZ
 rw[hlen]at IZ ⊢
 rw[←hp]at IZ
 obtain⟨b,hav,hcc⟩:=UF IZ XE.out
 clear V7 hp hlen hs ht hT hY IZ hE
 go_wp2
 obtain⟨W0,hW0⟩:∃W0,W0=((wy.alloc (.cells #[.int .i64 x,.int .i64 y] 351)).alloc (.cells #[.bool true,.int .i64 x,.int .i64 y,.slice none 0 0] 66)).alloc (.cells #[.slice av len cv] 344):=⟨_,rfl⟩
 have hz0:W0.heap.size=wy.heap.size+1+1+1:=by rw[hW0];simp
 have Nb:Below wy.heap.size wy W0:=by rw[hW0];exact((aj _).alloc (aj _).size _).alloc ((aj _).alloc (aj _).size _).size _
 have hT0:W0.heap[wy.heap.size+1]? = some (.cells #[.bool true,.int .i64 x,.int .i64 y,.slice none 0 0] 66):=by
  have h1:=heap_alloc_new (wy.alloc (.cells #[.int .i64 x,.int .i64 y] 351)) (.cells #[.bool true,.int .i64 x,.int .i64 y,.slice none 0 0] 66)
  rw[World.size_alloc]at h1
  rw[hW0]
  exact((aj _).block (wy.heap.size+1) (by simp)).trans h1
 have hS0:W0.heap[wy.heap.size+1+1]? = some (.cells #[.slice av len cv] 344):=by
  have h1:=heap_alloc_new ((wy.alloc (.cells #[.int .i64 x,.int .i64 y] 351)).alloc (.cells #[.bool true,.int .i64 x,.int .i64 y,.slice none 0 0] 66)) (.cells #[.slice av len cv] 344)
  rw[World.size_alloc,World.size_alloc]at h1
  rw[hW0]
  exact h1
 rw[←hW0]
 refine(wpIn_wide (n:=4)).1 ?_
 refine wpIn_rangeFunc_ownH (α:=Nat × Fk) rfl (by decide) (gf:=303) (lb:=#[.pointer (some ⟨wy.heap.size+1+1,0,none⟩)]) rfl trivial (enters_of Tryz.func303 (by kernel_rfl) rfl)
  (Dl 3 (by decide) (wy.heap.size+1+1) wy.heap.size b len cv av p XE hlen2 ?hb (fun h=>(hav h).1) W0 (by omega) hS0 ?hc)
  KpB.trans ?hKb (Below.refl _ _) (fun _=>rfl)
  (fun pre W=>∃sv,W.heap[wy.heap.size+1]? = some (.cells #[.bool true,.int .i64 x,.int .i64 y,sv] 66)/\W.ownsRow W0.heap.size 291 2 sv (tw key pre).length ((fl (tw key pre)).map (Value.int .i64))/\Below wy.heap.size wy W/\W0.heap.size<=W.heap.size/\pre.length<=len)
  (fun _ _ _=>False) ?hI (fun _ _ _ _ _ hs _ _=>hs) ?h0
  (fun f a' W=>∃Bx,W0.heap.size<=Bx/\W.heap[Bx]? = some (.cells #[.int .i64 (f.2.1.1:Int),f.2.1.2.1.val,f.2.1.2.2.val] 358)/\a' = {tmps:=#[.slice ad n c,.int .i64 key,undef,.pointer (some ⟨w.heap.size,0,none⟩),.pointer (some ⟨w.heap.size+1,0,none⟩),.int .i64 0,.slice av len cv,.iface 351 (.agg #[.int .i64 x,.int .i64 y]),.pointer (some ⟨wy.heap.size,0,none⟩),.bool true,.pointer (some ⟨wy.heap.size+1,0,none⟩),undef,.pointer (some ⟨Bx,0,none⟩),undef,.slice ad n c,.int .i64 0,.int .i64 0,.bool false,undef,undef,.int .i64 key,.bool true,.bool false,undef,.tuple #[.slice av len cv,.iface 351 (.agg #[.int .i64 x,.int .i64 y])],.slice ad n c,.iface tT xT,.int .i64 key,.tuple #[.slice av len cv,.iface 351 (.agg #[.int .i64 x,.int .i64 y])],.slice av len cv,.iface 351 (.agg #[.int .i64 x,.int .i64 y]),.tuple #[.agg #[.int .i64 x,.int .i64 y],.bool true],.iface 351 (.agg #[.int .i64 x,.int .i64 y]),.tuple #[.agg #[.int .i64 x,.int .i64 y],.bool true],.agg #[.int .i64 x,.int .i64 y],.bool true,.bool true,.bool false,undef,.pointer (some ⟨wy.heap.size,0,none⟩),.agg #[.int .i64 x,.int .i64 y],.agg #[.bool true,.int .i64 x,.int .i64 y,.slice none 0 0],.slice av len cv,.func (.func 303) #[] #[.pointer (some ⟨wy.heap.size+1+1,0,none⟩)],.int .i64 (f.1:Int),fkV f.2,undef,undef,undef,undef,undef,undef,undef,undef,undef,undef,undef,undef,undef,undef,undef,undef,undef,undef,undef,undef],defers:=[]}) ?hAx ?assign ?body ?done ?stop
 case hb=>exact fun h=>(hav h).2
 case hc=>
  intro j hj
  have hlt:b<wy.heap.size:=(hav (by omega)).2
  have h:=hcc j hj
  exact⟨(Nb.cell (p:=⟨b,j*3,none⟩) hlt).trans h.1,(Nb.cell (p:=⟨b,j*3+1,none⟩) hlt).trans h.2.1,(Nb.cell (p:=⟨b,j*3+2,none⟩) hlt).trans h.2.2⟩
 case hKb=>
  intro W l o o' hl h h1 h2
  refine⟨belowK_b (w:=W0) (by omega) W l o o' hl h h1 h2,fun q hq=> ?_⟩
  rw[World.putObj_heap_other (by omega)]
  exact hq
 case hI=>
  rintro pre A B row ⟨sv,h1,h2,h3,h4,h5⟩ hg hr
  refine⟨sv,aT hg h1 (fun e=>by have:=(hr _ e.symm).1;omega),Ey h2 hg ?_,h3.grown hg h3.size (fun k hk=>by have:=(hr k hk).1;omega),Nat.le_trans h4 hg.size,h5⟩
  rcases hk:sv.ownBlock with _ | g
  ·exact Or.inl rfl
  ·right
   intro e
   obtain⟨-,o,ho,hn⟩:=hr g e.symm
   obtain⟨cur,hcur⟩:=oW h2 hk
   rw[hcur]at ho
   cases ho
   simp[Obj.isCells]at hn
 case h0=>exact⟨.slice none 0 0,hT0,World.ownsRow_nil _ _ _ _,Nb,Nat.le_refl _,Nat.zero_le _⟩
 case hAx=>
  rintro f a' - A B row ⟨Bx,h1,h2,h3⟩ hg hr
  refine⟨Bx,h1,aT hg h2 (fun e=> ?_),h3⟩
  obtain⟨-,o,ho,hn⟩:=hr Bx e.symm
  rw[h2]at ho
  cases ho
  simp[Obj.isCells]at hn
 case assign=>
  rintro l' pre f W K ⟨sv,h1,h2,h3,h4,h5⟩ hK
  obtain⟨tL,xL,eL⟩:=f.2.1.2.1.isIface
  obtain⟨tR,xR,eR⟩:=f.2.1.2.2.isIface
  have hV:fkV f.2 = .agg #[.int .i64 (f.2.1.1:Int),.iface tL xL,.iface tR xR]:=by unfold fkV;rw[eL,eR]
  have hK':=fun a' W' h1 h2 h3 h4=>hK a' W' h1 h2 h3 h4
  simp only[hV,eL,eR]at hK' ⊢
  clear hK
  gi_wp2
  refine hK' _ _ ((KeepsOthers.alloc _ _).from _) ⟨(Below.refl _ W).alloc h3.size _,fun q hq=>((aj _).block _ (Array.getElem?_eq_some_iff.1 hq).1).trans hq⟩ ⟨sv,((aj _).block _ (Array.getElem?_eq_some_iff.1 h1).1).trans h1,h2.alloc _,h3.alloc h3.size _,Nat.le_trans h4 (aj _).size,h5⟩ ⟨W.heap.size,h4,heap_alloc_new W _,rfl⟩
 case body=>
  rintro l' pre f a' W hl ⟨r,hr⟩ ⟨sv,h1,h2,h3,h4,h5⟩ ⟨Bx,hBx,hbk,rfl⟩ hlt
  have hkx:W.cell? ⟨w.heap.size,0,none⟩=some (.int .i64 key):=(h3.cell (p:=⟨w.heap.size,0,none⟩) (Nat.lt_of_lt_of_le (show w.heap.size<w2.heap.size by omega) hbr.size)).trans ((hbr.cell (p:=⟨w.heap.size,0,none⟩) (by show w.heap.size<w2.heap.size;omega)).trans hbx)
  rcases f with⟨fi,⟨⟨fb,FL,FR⟩,hfk⟩⟩
  dsimp only at hbk hfk ⊢
  obtain⟨k0,k1,k2⟩:=bF hbk
  obtain⟨⟨t0,t1,t2,t3⟩,⟨-,-,-,f3⟩⟩:=bT h1
  obtain⟨iF,iG,rfl⟩:=bW h2
  have hbt:=fun w=>Eh key fb w hfk.1 (iw hk)
  have hsL:=sG hfk.2.1
  have hsR:=sG hfk.2.2
  have hfo:tw key (pre++[(fi,(⟨(fb,FL,FR),hfk⟩:Fk))])=tw key pre++[fko key (fb,FL,FR)]:=by unfold tw;rw[List.map_append];rfl
  obtain⟨tL,xL,eL⟩:=FL.isIface
  obtain⟨tR,xR,eR⟩:=FR.isIface
  unfold fko at hfo
  dsimp only at hfo
  simp only[fkV,eL,eR]
  rw[eL]at k1 hsL
  rw[eR]at k2 hsR
  have La:Hid (tw key (pre++[(fi,(⟨(fb,FL,FR),hfk⟩:Fk))])=tw key pre++[((fb:Int),if aV key fb=0 then FR.sum else FL.sum)]):=hfo
  generalize FL.sum=sL at *
  generalize FR.sum=sR at *
  have Xy:Hid (FL.val = .iface tL xL):=eL
  have Xz:Hid (FR.val = .iface tR xR):=eR
  obtain⟨i0,hi,hz0,hz1,hz2⟩:=info_parts Tryz.H7
  clear hfo eL eR
  rcases nP key fb with hz | hz
  ·rw[hz]at hbt
   have La:Hid (tw key (pre++[(fi,(⟨(fb,FL,FR),hfk⟩:Fk))])=tw key pre++[((fb:Int),sR)]):=(by rw[La.out,hz];rfl:tw key (pre++[(fi,(⟨(fb,FL,FR),hfk⟩:Fk))])=tw key pre++[((fb:Int),sR)])
   have hwz:IntKind.i64.wrap 1=1:=by rw[IntKind.wrap_i64];decide
   clear hz
   gi_wp2_with (refine⟨trivial, ?_⟩;gi_at_call 271;refine(CallsIn.inRound l' (callsIn_wide.2 (hbt _))).mono ?_;rintro e W ⟨rfl,rfl⟩)
   have hbb:=Below.refl W.heap.size W
   have ng:W.cell? ⟨Bx,0,none⟩=some (.int .i64 (fb:Int)):=k0
   have Rk:Bx<W.heap.size:=(Array.getElem?_eq_some_iff.1 hbk).1
   have Rj:wy.heap.size+1<W.heap.size:=(Array.getElem?_eq_some_iff.1 h1).1
   have HT:Hid (∀w',Below W.heap.size W w'->w'.heap[wy.heap.size+1]? = some (.cells #[.bool true,.int .i64 x,.int .i64 y,.slice iF (tw key pre).length iG] 66)):=fun w' h=>(h.block _ Rj).trans h1
   have HX:Hid (∀w',Below W.heap.size W w'->w'.heap[Bx]? = some (.cells #[.int .i64 (fb:Int),.iface tL xL,.iface tR xR] 358)):=fun w' h=>(h.block _ Rk).trans (by rw[hbk,←Xy.out,←Xz.out])
   have HS:Hid (∀w',Below W.heap.size W w'->w'.cell? ⟨Bx,0,none⟩=some (.int .i64 (fb:Int))):=fun w' h=>(bF (HX.out w' h)).1
   have zN:some (wy.heap.size+1)≠(Value.slice iF (tw key pre).length iG).ownBlock:=fun e=>by have:=(h2.lt _ e.symm).1;omega
   have hnB:some Bx≠(Value.slice iF (tw key pre).length iG).ownBlock:=fun e=>by
    obtain⟨cur,hcur⟩:=oW h2 e.symm
    rw[hbk]at hcur
    simp at hcur
   have htl:(tw key pre).length<=1000:=by unfold tw;rw[List.length_map];omega
   have zF:∀(g cap:Nat)(w8 wq:World),Below W.heap.size W wq->w8.ownsRow W0.heap.size 291 2 (.slice (some ⟨g,0,none⟩) ((tw key pre).length+1) cap) ((tw key pre).length+1) ((fl (tw key pre)).map (Value.int .i64)++[.int .i64 (fb:Int),.int .i64 sR])->(wq.alloc (.cells #[.int .i64 (fb:Int),.int .i64 sR] 291)).grownBy w8 (Value.slice iF (tw key pre).length iG).ownBlock->((Value.slice iF (tw key pre).length iG).ownBlock=some g∨g=wq.heap.size+1)->w8.heap[wy.heap.size+1]? = some (.cells #[.bool true,.int .i64 x,.int .i64 y,.slice iF (tw key pre).length iG] 66)->
     KeepsFrom W0.heap.size W (w8.setCell ⟨wy.heap.size+1,3,none⟩ (.slice (some ⟨g,0,none⟩) ((tw key pre).length+1) cap))/\KpB wy.heap.size (wy.heap.size+1+1) W (w8.setCell ⟨wy.heap.size+1,3,none⟩ (.slice (some ⟨g,0,none⟩) ((tw key pre).length+1) cap))/\
     ∃sv,(w8.setCell ⟨wy.heap.size+1,3,none⟩ (.slice (some ⟨g,0,none⟩) ((tw key pre).length+1) cap)).heap[wy.heap.size+1]? = some (.cells #[.bool true,.int .i64 x,.int .i64 y,sv] 66)/\(w8.setCell ⟨wy.heap.size+1,3,none⟩ (.slice (some ⟨g,0,none⟩) ((tw key pre).length+1) cap)).ownsRow W0.heap.size 291 2 sv (tw key (pre++[(fi,(⟨(fb,FL,FR),hfk⟩:Fk))])).length ((fl (tw key (pre++[(fi,(⟨(fb,FL,FR),hfk⟩:Fk))]))).map (Value.int .i64))/\Below wy.heap.size wy (w8.setCell ⟨wy.heap.size+1,3,none⟩ (.slice (some ⟨g,0,none⟩) ((tw key pre).length+1) cap))/\W0.heap.size<=(w8.setCell ⟨wy.heap.size+1,3,none⟩ (.slice (some ⟨g,0,none⟩) ((tw key pre).length+1) cap)).heap.size/\(pre++[(fi,(⟨(fb,FL,FR),hfk⟩:Fk))]).length<=len:=by
    intro g cap w8 wq hb8 hown hgrow hat t8
    have dV:=hb8.alloc hb8.size (.cells #[.int .i64 (fb:Int),.int .i64 sR] 291)
    have rD:Below wy.heap.size W w8:=(dV.mono h3.size).grown hgrow (Nat.le_trans h3.size dV.size) (fun k hk=>by have:=(h2.lt k hk).1;omega)
    have Rq:W.heap.size<=w8.heap.size:=Nat.le_trans dV.size hgrow.size
    have hkeep:∀(k:Nat)(o:Obj),k≠wy.heap.size+1->some k≠(Value.slice iF (tw key pre).length iG).ownBlock->W.heap[k]? = some o->(w8.setCell ⟨wy.heap.size+1,3,none⟩ (.slice (some ⟨g,0,none⟩) ((tw key pre).length+1) cap)).heap[k]? = some o:=fun k o h1 h2 h3=>by
     rw[heap_setCell_other _ _ _ _ h1]
     exact aT hgrow ((dV.block k (Array.getElem?_eq_some_iff.1 h3).1).trans h3) h2
    refine⟨⟨?_, ?_⟩,⟨rD.setCell (Nat.le_succ _) _, ?_⟩,.slice (some ⟨g,0,none⟩) ((tw key pre).length+1) cap,rW t8 _, ?_,(h3.trans rD).setCell (Nat.le_succ _) _, ?_, ?_⟩
    ·rw[World.size_setCell];exact Rq
    ·intro k o hk ho hn
     refine hkeep k o (by omega) (fun e=> ?_) ho
     obtain⟨cur,hcur⟩:=oW h2 e.symm
     rw[hcur]at ho
     cases ho
     simp[Obj.isCells]at hn
    ·intro o ho
     exact hkeep _ o (by omega) (fun e=>by have:=(h2.lt _ e.symm).1;omega) ho
    ·have hg4:g≠wy.heap.size+1:=by
      rcases hat with hh | hh
      ·have:=(h2.lt _ hh).1;omega
      ·have:=hb8.size;omega
     rw[La.out,sS,List.map_append,List.length_append]
     exact ownsRow_setCell_other hown (by simp[Value.ownBlock];exact hg4) _
    ·rw[World.size_setCell];omega
    ·rw[List.length_append];simp;omega
   refine xA (S:=fun w'=>w'.cell? ⟨Bx,0,none⟩=some (.int .i64 (fb:Int))) (by kernel_rfl) ?Zq ?Zt ?Xl
   case Zq=>
    intro i o ho c
    rcases i with _ | _ | _ | _ | _ | _ | _ | _ | _ | _ | _ | i<;>simp at ho<;>(try subst ho)<;>simp
   case Zt=>
    rintro⟨_,_,h⟩
    exact h
   case Xl=>
    have hHeld:W.drew.cell? ⟨Bx,0,none⟩=some (.int .i64 (fb:Int)):=ng
    have ZO:W.drew.cell? ⟨wy.heap.size+1,3,none⟩=some (.slice iF (tw key pre).length iG):=t3
    refine aF (i:=0) (d:=(some 54)) (v:= ?va1) (by rfl) (by kernel_rfl) (by kernel_rfl) (by kernel_rfl) (fun _ _ _ h=>h) (by rfl) ?Yy hHeld ?Zv
    case Yy=>
     intro o ho
     simp only[aaJ,aaK,aaM]at ho
     subst ho
     intro w' hSw
     first |(go_simp;done) |(go_simp;with_reducible rfl)
    try simp only[Act.put,aaG,aaH,aaI]
    refine aF (i:=2) (d:=(some 56)) (v:= ?va2) (by rfl) (by kernel_rfl) (by kernel_rfl) (by kernel_rfl) (fun _ _ _ h=>h) (by rfl) ?Yz hHeld ?Zw
    case Yz=>
     intro o ho
     simp only[aaJ,aaL,aaK,aaM]at ho
     subst ho
     intro w' hSw
     first |(go_simp;done) |(go_simp;with_reducible rfl)
    try simp only[Act.put,aaG,aaH,aaI]
    refine aF (i:=3) (d:=(some 57)) (v:= ?va3) (by rfl) (by kernel_rfl) (by kernel_rfl) (by kernel_rfl) (fun _ _ _ h=>h) (by rfl) ?YA hHeld ?Zx
    case YA=>
     intro o ho
     simp only[aaJ,aaL,aaK,aaM]at ho
     subst ho
     intro w' hSw
     first |(go_simp;done) |(go_simp;with_reducible rfl)
    try simp only[Act.put,aaG,aaH,aaI]
    refine aF (i:=4) (d:=(some 58)) (v:= ?va4) (by rfl) (by kernel_rfl) (by kernel_rfl) (by kernel_rfl) (fun _ _ _ h=>h) (by rfl) ?YB hHeld ?Zy
    case YB=>
     intro o ho
     simp only[aaJ,aaL,aaK,aaM]at ho
     subst ho
     intro w' hSw
     first |(go_simp;done) |(go_simp;with_reducible rfl)
    try simp only[Act.put,aaG,aaH,aaI]
    refine wpAnyH_ready (rs:=[1,5]) (by kernel_rfl) (by simp) ?_
    refine AllReadyH.cons rfl (fun K hK=> ?_) (AllReadyH.cons rfl (fun K hK=> ?_) AllReadyH.nil)
    ·skip
     go_simp
     refine hK.out _ _ ?_ (fun hHeld=> ?_)
     ·first | exact ng | exact HS.out _ hbb | exact HS.out _ hbb.drew | exact HS.out _ (hbb.alloc hbb.size _)
     clear hK K
     try simp only[Act.put,aaG,aaH,aaI]
     refine wpAnyH_ready (rs:=[5]) (by kernel_rfl) (by simp) ?_
     refine AllReadyH.cons rfl (fun K hK=> ?_) AllReadyH.nil
     go_simp
     refine(hsR.c _).mono ?_
     rintro e wq ⟨rfl,hbq⟩
     have hbb:Below W.heap.size W wq:=(by first | exact ah hbb hbq | exact ah hbb.drew hbq)
     have WH:=(bT (HT.out _ hbb)).1.2.2.2
     have WI:=(bT (HT.out _ (hbb.alloc hbb.size (.cells #[.int .i64 (fb:Int),.int .i64 sR] 291)))).1.2.2.2
     clear hbq
     refine hK.out _ _ ?_ (fun hHeld=> ?_)
     ·first | exact ng | exact HS.out _ hbb | exact HS.out _ hbb.drew | exact HS.out _ (hbb.alloc hbb.size _)
     clear hK K
     try simp only[Act.put,aaG,aaH,aaI]
     refine aF (i:=6) (d:=(some 60)) (v:= ?va5) (by rfl) (by kernel_rfl) (by kernel_rfl) (by kernel_rfl) (fun _ _ _ h=>h) (by rfl) ?YC hHeld ?Zz
     case YC=>
      intro o ho
      simp only[aaJ,aaL,aaK,aaM]at ho
      subst ho
      intro w' hSw
      first |(go_simp;done) |(go_simp;with_reducible rfl)
     try simp only[Act.put,aaG,aaH,aaI]
     refine wpAnyH_ready (rs:=[7]) (by kernel_rfl) (by simp) ?_
     refine AllReadyH.cons rfl (fun K hK=> ?_) AllReadyH.nil
     go_simp
     refine hK.out _ _ ?_ (fun hHeld=> ?_)
     ·first | exact ng | exact HS.out _ hbb | exact HS.out _ hbb.drew | exact HS.out _ (hbb.alloc hbb.size _)
     clear hK K
     try simp only[Act.put,aaG,aaH,aaI]
     refine wpAnyH_ready (rs:=[8]) (by kernel_rfl) (by simp) ?_
     refine AllReadyH.cons rfl (fun K hK=> ?_) AllReadyH.nil
     refine step_append_lies _ (by rfl) _ _ _ (by rfl) W0.heap.size 291 i0 _ 2 16 Tryz.underlying64 hi hz0 hz1 hz2 rfl (by omega) (.slice iF (tw key pre).length iG) (tw key pre).length ((fl (tw key pre)).map (Value.int .i64)) (by rfl) ((own_below h2 hbb).alloc _) ⟨wq.heap.size,0,none⟩ 1 1 [.int .i64 (fb:Int),.int .i64 sR] (by rfl) (by rfl) (World.news_of_block (cs:=#[.int .i64 (fb:Int),.int .i64 sR]) (t:=291) (fr:=(0,0)) (heap_alloc_new wq _)) (ints_oneCell .i64 [(fb:Int),sR]) (by omega) (by unfold maxLen;omega) (by omega) (by have:=hbb.size;simp;omega) (wq.heap.size+1) (by simp) ?_
     intro g cap w8 hown hgrow hat Ht
     have dV:=hbb.alloc hbb.size (.cells #[.int .i64 (fb:Int),.int .i64 sR] 291)
     have t8:=aT hgrow (HT.out _ dV) zN
     have b8:=aT hgrow (HX.out _ dV) hnB
     have t83:=(bT t8).1.2.2.2
     have f83:=(bT t8).2.2.2.2
     refine hK.out _ _ ?_ (fun hHeld=> ?_)
     ·exact(bF b8).1
     clear hK K
     try simp only[Act.put,aaG]
     refine aF (i:=9) (d:=(some 63)) (v:= ?va6) (by rfl) (by kernel_rfl) (by kernel_rfl) (by kernel_rfl) (fun _ _ _ h=>h) (by rfl) ?YD hHeld ?ZA
     case YD=>
      intro o ho
      simp only[aaJ,aaL,aaK,aaM]at ho
      subst ho
      intro w' hSw
      first |(go_simp;done) |(go_simp;with_reducible rfl)
     try simp only[Act.put]
     refine wpAnyH_ready (rs:=[10]) (by kernel_rfl) (by simp) ?_
     refine AllReadyH.cons rfl (fun K hK=> ?_) AllReadyH.nil
     go_simp
     refine hK.out _ _ ?_ (fun hHeld=> ?_)
     ·exact(World.cell?_setCell_other _ _ _ _ (by first |(simp;done) |(simp;omega))).trans (bF b8).1
     clear hK K
     try simp only[Act.put]
     refine wpAnyH_done (by kernel_rfl) ?_ _
     exact zF g cap w8 wq hbb hown hgrow hat t8
    ·skip
     go_simp
     refine(hsR.c _).mono ?_
     rintro e wq ⟨rfl,hbq⟩
     have hbb:Below W.heap.size W wq:=(by first | exact ah hbb hbq | exact ah hbb.drew hbq)
     have WH:=(bT (HT.out _ hbb)).1.2.2.2
     have WI:=(bT (HT.out _ (hbb.alloc hbb.size (.cells #[.int .i64 (fb:Int),.int .i64 sR] 291)))).1.2.2.2
     clear hbq
     refine hK.out _ _ ?_ (fun hHeld=> ?_)
     ·first | exact ng | exact HS.out _ hbb | exact HS.out _ hbb.drew | exact HS.out _ (hbb.alloc hbb.size _)
     clear hK K
     try simp only[Act.put,aaG,aaH,aaI]
     refine aF (i:=6) (d:=(some 60)) (v:= ?va7) (by rfl) (by kernel_rfl) (by kernel_rfl) (by kernel_rfl) (fun _ _ _ h=>h) (by rfl) ?YE hHeld ?ZB
     case YE=>
      intro o ho
      simp only[aaJ,aaL,aaK,aaM]at ho
      subst ho
      intro w' hSw
      first |(go_simp;done) |(go_simp;with_reducible rfl)
     try simp only[Act.put,aaG,aaH,aaI]
     refine wpAnyH_ready (rs:=[1,7]) (by kernel_rfl) (by simp) ?_
     refine AllReadyH.cons rfl (fun K hK=> ?_) (AllReadyH.cons rfl (fun K hK=> ?_) AllReadyH.nil)
     ·skip
      go_simp
      refine hK.out _ _ ?_ (fun hHeld=> ?_)
      ·first | exact ng | exact HS.out _ hbb | exact HS.out _ hbb.drew | exact HS.out _ (hbb.alloc hbb.size _)
      clear hK K
      try simp only[Act.put,aaG,aaH,aaI]
      refine wpAnyH_ready (rs:=[7]) (by kernel_rfl) (by simp) ?_
      refine AllReadyH.cons rfl (fun K hK=> ?_) AllReadyH.nil
      go_simp
      refine hK.out _ _ ?_ (fun hHeld=> ?_)
      ·first | exact ng | exact HS.out _ hbb | exact HS.out _ hbb.drew | exact HS.out _ (hbb.alloc hbb.size _)
      clear hK K
      try simp only[Act.put,aaG,aaH,aaI]
      refine wpAnyH_ready (rs:=[8]) (by kernel_rfl) (by simp) ?_
      refine AllReadyH.cons rfl (fun K hK=> ?_) AllReadyH.nil
      refine step_append_lies _ (by rfl) _ _ _ (by rfl) W0.heap.size 291 i0 _ 2 16 Tryz.underlying64 hi hz0 hz1 hz2 rfl (by omega) (.slice iF (tw key pre).length iG) (tw key pre).length ((fl (tw key pre)).map (Value.int .i64)) (by rfl) ((own_below h2 hbb).alloc _) ⟨wq.heap.size,0,none⟩ 1 1 [.int .i64 (fb:Int),.int .i64 sR] (by rfl) (by rfl) (World.news_of_block (cs:=#[.int .i64 (fb:Int),.int .i64 sR]) (t:=291) (fr:=(0,0)) (heap_alloc_new wq _)) (ints_oneCell .i64 [(fb:Int),sR]) (by omega) (by unfold maxLen;omega) (by omega) (by have:=hbb.size;simp;omega) (wq.heap.size+1) (by simp) ?_
      intro g cap w8 hown hgrow hat Ht
      have dV:=hbb.alloc hbb.size (.cells #[.int .i64 (fb:Int),.int .i64 sR] 291)
      have t8:=aT hgrow (HT.out _ dV) zN
      have b8:=aT hgrow (HX.out _ dV) hnB
      have t83:=(bT t8).1.2.2.2
      have f83:=(bT t8).2.2.2.2
      refine hK.out _ _ ?_ (fun hHeld=> ?_)
      ·exact(bF b8).1
      clear hK K
      try simp only[Act.put,aaG]
      refine aF (i:=9) (d:=(some 63)) (v:= ?va8) (by rfl) (by kernel_rfl) (by kernel_rfl) (by kernel_rfl) (fun _ _ _ h=>h) (by rfl) ?YF hHeld ?ZC
      case YF=>
       intro o ho
       simp only[aaJ,aaL,aaK,aaM]at ho
       subst ho
       intro w' hSw
       first |(go_simp;done) |(go_simp;with_reducible rfl)
      try simp only[Act.put]
      refine wpAnyH_ready (rs:=[10]) (by kernel_rfl) (by simp) ?_
      refine AllReadyH.cons rfl (fun K hK=> ?_) AllReadyH.nil
      go_simp
      refine hK.out _ _ ?_ (fun hHeld=> ?_)
      ·exact(World.cell?_setCell_other _ _ _ _ (by first |(simp;done) |(simp;omega))).trans (bF b8).1
      clear hK K
      try simp only[Act.put]
      refine wpAnyH_done (by kernel_rfl) ?_ _
      exact zF g cap w8 wq hbb hown hgrow hat t8
     ·skip
      go_simp
      refine hK.out _ _ ?_ (fun hHeld=> ?_)
      ·first | exact ng | exact HS.out _ hbb | exact HS.out _ hbb.drew | exact HS.out _ (hbb.alloc hbb.size _)
      clear hK K
      try simp only[Act.put,aaG,aaH,aaI]
      refine wpAnyH_ready (rs:=[1]) (by kernel_rfl) (by simp) ?_
      refine AllReadyH.cons rfl (fun K hK=> ?_) AllReadyH.nil
      go_simp
      refine hK.out _ _ ?_ (fun hHeld=> ?_)
      ·first | exact ng | exact HS.out _ hbb | exact HS.out _ hbb.drew | exact HS.out _ (hbb.alloc hbb.size _)
      clear hK K
      try simp only[Act.put,aaG,aaH,aaI]
      refine wpAnyH_ready (rs:=[8]) (by kernel_rfl) (by simp) ?_
      refine AllReadyH.cons rfl (fun K hK=> ?_) AllReadyH.nil
      refine step_append_lies _ (by rfl) _ _ _ (by rfl) W0.heap.size 291 i0 _ 2 16 Tryz.underlying64 hi hz0 hz1 hz2 rfl (by omega) (.slice iF (tw key pre).length iG) (tw key pre).length ((fl (tw key pre)).map (Value.int .i64)) (by rfl) ((own_below h2 hbb).alloc _) ⟨wq.heap.size,0,none⟩ 1 1 [.int .i64 (fb:Int),.int .i64 sR] (by rfl) (by rfl) (World.news_of_block (cs:=#[.int .i64 (fb:Int),.int .i64 sR]) (t:=291) (fr:=(0,0)) (heap_alloc_new wq _)) (ints_oneCell .i64 [(fb:Int),sR]) (by omega) (by unfold maxLen;omega) (by omega) (by have:=hbb.size;simp;omega) (wq.heap.size+1) (by simp) ?_
      intro g cap w8 hown hgrow hat Ht
      have dV:=hbb.alloc hbb.size (.cells #[.int .i64 (fb:Int),.int .i64 sR] 291)
      have t8:=aT hgrow (HT.out _ dV) zN
      have b8:=aT hgrow (HX.out _ dV) hnB
      have t83:=(bT t8).1.2.2.2
      have f83:=(bT t8).2.2.2.2
      refine hK.out _ _ ?_ (fun hHeld=> ?_)
      ·exact(bF b8).1
      clear hK K
      try simp only[Act.put,aaG]
      refine aF (i:=9) (d:=(some 63)) (v:= ?va9) (by rfl) (by kernel_rfl) (by kernel_rfl) (by kernel_rfl) (fun _ _ _ h=>h) (by rfl) ?YG hHeld ?ZE
      case YG=>
       intro o ho
       simp only[aaJ,aaL,aaK,aaM]at ho
       subst ho
       intro w' hSw
       first |(go_simp;done) |(go_simp;with_reducible rfl)
      try simp only[Act.put]
      refine wpAnyH_ready (rs:=[10]) (by kernel_rfl) (by simp) ?_
      refine AllReadyH.cons rfl (fun K hK=> ?_) AllReadyH.nil
      go_simp
      refine hK.out _ _ ?_ (fun hHeld=> ?_)
      ·exact(World.cell?_setCell_other _ _ _ _ (by first |(simp;done) |(simp;omega))).trans (bF b8).1
      clear hK K
      try simp only[Act.put]
      refine wpAnyH_done (by kernel_rfl) ?_ _
      exact zF g cap w8 wq hbb hown hgrow hat t8
  ·rw[hz]at hbt
   have La:Hid (tw key (pre++[(fi,(⟨(fb,FL,FR),hfk⟩:Fk))])=tw key pre++[((fb:Int),sL)]):=(by rw[La.out,hz];rfl:tw key (pre++[(fi,(⟨(fb,FL,FR),hfk⟩:Fk))])=tw key pre++[((fb:Int),sL)])
   have hwz:IntKind.i64.wrap 1=1:=by rw[IntKind.wrap_i64];decide
   clear hz
   gi_wp2_with (refine⟨trivial, ?_⟩;gi_at_call 271;refine(CallsIn.inRound l' (callsIn_wide.2 (hbt _))).mono ?_;rintro e W ⟨rfl,rfl⟩)
   have hbb:=Below.refl W.heap.size W
   have ng:W.cell? ⟨Bx,0,none⟩=some (.int .i64 (fb:Int)):=k0
   have Rk:Bx<W.heap.size:=(Array.getElem?_eq_some_iff.1 hbk).1
   have Rj:wy.heap.size+1<W.heap.size:=(Array.getElem?_eq_some_iff.1 h1).1
   have HT:Hid (∀w',Below W.heap.size W w'->w'.heap[wy.heap.size+1]? = some (.cells #[.bool true,.int .i64 x,.int .i64 y,.slice iF (tw key pre).length iG] 66)):=fun w' h=>(h.block _ Rj).trans h1
   have HX:Hid (∀w',Below W.heap.size W w'->w'.heap[Bx]? = some (.cells #[.int .i64 (fb:Int),.iface tL xL,.iface tR xR] 358)):=fun w' h=>(h.block _ Rk).trans (by rw[hbk,←Xy.out,←Xz.out])
   have HS:Hid (∀w',Below W.heap.size W w'->w'.cell? ⟨Bx,0,none⟩=some (.int .i64 (fb:Int))):=fun w' h=>(bF (HX.out w' h)).1
   have zN:some (wy.heap.size+1)≠(Value.slice iF (tw key pre).length iG).ownBlock:=fun e=>by have:=(h2.lt _ e.symm).1;omega
   have hnB:some Bx≠(Value.slice iF (tw key pre).length iG).ownBlock:=fun e=>by
    obtain⟨cur,hcur⟩:=oW h2 e.symm
    rw[hbk]at hcur
    simp at hcur
   have htl:(tw key pre).length<=1000:=by unfold tw;rw[List.length_map];omega
   have zF:∀(g cap:Nat)(w8 wq:World),Below W.heap.size W wq->w8.ownsRow W0.heap.size 291 2 (.slice (some ⟨g,0,none⟩) ((tw key pre).length+1) cap) ((tw key pre).length+1) ((fl (tw key pre)).map (Value.int .i64)++[.int .i64 (fb:Int),.int .i64 sL])->(wq.alloc (.cells #[.int .i64 (fb:Int),.int .i64 sL] 291)).grownBy w8 (Value.slice iF (tw key pre).length iG).ownBlock->((Value.slice iF (tw key pre).length iG).ownBlock=some g∨g=wq.heap.size+1)->w8.heap[wy.heap.size+1]? = some (.cells #[.bool true,.int .i64 x,.int .i64 y,.slice iF (tw key pre).length iG] 66)->
     KeepsFrom W0.heap.size W (w8.setCell ⟨wy.heap.size+1,3,none⟩ (.slice (some ⟨g,0,none⟩) ((tw key pre).length+1) cap))/\KpB wy.heap.size (wy.heap.size+1+1) W (w8.setCell ⟨wy.heap.size+1,3,none⟩ (.slice (some ⟨g,0,none⟩) ((tw key pre).length+1) cap))/\
     ∃sv,(w8.setCell ⟨wy.heap.size+1,3,none⟩ (.slice (some ⟨g,0,none⟩) ((tw key pre).length+1) cap)).heap[wy.heap.size+1]? = some (.cells #[.bool true,.int .i64 x,.int .i64 y,sv] 66)/\(w8.setCell ⟨wy.heap.size+1,3,none⟩ (.slice (some ⟨g,0,none⟩) ((tw key pre).length+1) cap)).ownsRow W0.heap.size 291 2 sv (tw key (pre++[(fi,(⟨(fb,FL,FR),hfk⟩:Fk))])).length ((fl (tw key (pre++[(fi,(⟨(fb,FL,FR),hfk⟩:Fk))]))).map (Value.int .i64))/\Below wy.heap.size wy (w8.setCell ⟨wy.heap.size+1,3,none⟩ (.slice (some ⟨g,0,none⟩) ((tw key pre).length+1) cap))/\W0.heap.size<=(w8.setCell ⟨wy.heap.size+1,3,none⟩ (.slice (some ⟨g,0,none⟩) ((tw key pre).length+1) cap)).heap.size/\(pre++[(fi,(⟨(fb,FL,FR),hfk⟩:Fk))]).length<=len:=by
    intro g cap w8 wq hb8 hown hgrow hat t8
    have dV:=hb8.alloc hb8.size (.cells #[.int .i64 (fb:Int),.int .i64 sL] 291)
    have rD:Below wy.heap.size W w8:=(dV.mono h3.size).grown hgrow (Nat.le_trans h3.size dV.size) (fun k hk=>by have:=(h2.lt k hk).1;omega)
    have Rq:W.heap.size<=w8.heap.size:=Nat.le_trans dV.size hgrow.size
    have hkeep:∀(k:Nat)(o:Obj),k≠wy.heap.size+1->some k≠(Value.slice iF (tw key pre).length iG).ownBlock->W.heap[k]? = some o->(w8.setCell ⟨wy.heap.size+1,3,none⟩ (.slice (some ⟨g,0,none⟩) ((tw key pre).length+1) cap)).heap[k]? = some o:=fun k o h1 h2 h3=>by
     rw[heap_setCell_other _ _ _ _ h1]
     exact aT hgrow ((dV.block k (Array.getElem?_eq_some_iff.1 h3).1).trans h3) h2
    refine⟨⟨?_, ?_⟩,⟨rD.setCell (Nat.le_succ _) _, ?_⟩,.slice (some ⟨g,0,none⟩) ((tw key pre).length+1) cap,rW t8 _, ?_,(h3.trans rD).setCell (Nat.le_succ _) _, ?_, ?_⟩
    ·rw[World.size_setCell];exact Rq
    ·intro k o hk ho hn
     refine hkeep k o (by omega) (fun e=> ?_) ho
     obtain⟨cur,hcur⟩:=oW h2 e.symm
     rw[hcur]at ho
     cases ho
     simp[Obj.isCells]at hn
    ·intro o ho
     exact hkeep _ o (by omega) (fun e=>by have:=(h2.lt _ e.symm).1;omega) ho
    ·have hg4:g≠wy.heap.size+1:=by
      rcases hat with hh | hh
      ·have:=(h2.lt _ hh).1;omega
      ·have:=hb8.size;omega
     rw[La.out,sS,List.map_append,List.length_append]
     exact ownsRow_setCell_other hown (by simp[Value.ownBlock];exact hg4) _
    ·rw[World.size_setCell];omega
    ·rw[List.length_append];simp;omega
   refine xA (S:=fun w'=>w'.cell? ⟨Bx,0,none⟩=some (.int .i64 (fb:Int))) (by kernel_rfl) ?Zr ?Zu ?Xm
   case Zr=>
    intro i o ho c
    rcases i with _ | _ | _ | _ | _ | _ | _ | _ | _ | _ | _ | i<;>simp at ho<;>(try subst ho)<;>simp
   case Zu=>
    rintro⟨_,_,h⟩
    exact h
   case Xm=>
    have hHeld:W.drew.cell? ⟨Bx,0,none⟩=some (.int .i64 (fb:Int)):=ng
    have ZO:W.drew.cell? ⟨wy.heap.size+1,3,none⟩=some (.slice iF (tw key pre).length iG):=t3
    refine aF (i:=0) (d:=(some 54)) (v:= ?vb1) (by rfl) (by kernel_rfl) (by kernel_rfl) (by kernel_rfl) (fun _ _ _ h=>h) (by rfl) ?YH hHeld ?ZF
    case YH=>
     intro o ho
     simp only[aaJ,aaK,aaM]at ho
     subst ho
     intro w' hSw
     first |(go_simp;done) |(go_simp;with_reducible rfl)
    try simp only[Act.put,aaG,aaH,aaI]
    refine aF (i:=2) (d:=(some 56)) (v:= ?vb2) (by rfl) (by kernel_rfl) (by kernel_rfl) (by kernel_rfl) (fun _ _ _ h=>h) (by rfl) ?YI hHeld ?ZG
    case YI=>
     intro o ho
     simp only[aaJ,aaL,aaK,aaM]at ho
     subst ho
     intro w' hSw
     first |(go_simp;done) |(go_simp;with_reducible rfl)
    try simp only[Act.put,aaG,aaH,aaI]
    refine aF (i:=3) (d:=(some 57)) (v:= ?vb3) (by rfl) (by kernel_rfl) (by kernel_rfl) (by kernel_rfl) (fun _ _ _ h=>h) (by rfl) ?YJ hHeld ?ZH
    case YJ=>
     intro o ho
     simp only[aaJ,aaL,aaK,aaM]at ho
     subst ho
     intro w' hSw
     first |(go_simp;done) |(go_simp;with_reducible rfl)
    try simp only[Act.put,aaG,aaH,aaI]
    refine aF (i:=4) (d:=(some 58)) (v:= ?vb4) (by rfl) (by kernel_rfl) (by kernel_rfl) (by kernel_rfl) (fun _ _ _ h=>h) (by rfl) ?YK hHeld ?ZI
    case YK=>
     intro o ho
     simp only[aaJ,aaL,aaK,aaM]at ho
     subst ho
     intro w' hSw
     first |(go_simp;done) |(go_simp;with_reducible rfl)
    try simp only[Act.put,aaG,aaH,aaI]
    refine wpAnyH_ready (rs:=[1,5]) (by kernel_rfl) (by simp) ?_
    refine AllReadyH.cons rfl (fun K hK=> ?_) (AllReadyH.cons rfl (fun K hK=> ?_) AllReadyH.nil)
    ·skip
     go_simp
     refine hK.out _ _ ?_ (fun hHeld=> ?_)
     ·first | exact ng | exact HS.out _ hbb | exact HS.out _ hbb.drew | exact HS.out _ (hbb.alloc hbb.size _)
     clear hK K
     try simp only[Act.put,aaG,aaH,aaI]
     refine wpAnyH_ready (rs:=[5]) (by kernel_rfl) (by simp) ?_
     refine AllReadyH.cons rfl (fun K hK=> ?_) AllReadyH.nil
     go_simp
     refine(hsL.c _).mono ?_
     rintro e wq ⟨rfl,hbq⟩
     have hbb:Below W.heap.size W wq:=(by first | exact ah hbb hbq | exact ah hbb.drew hbq)
     have WH:=(bT (HT.out _ hbb)).1.2.2.2
     have WI:=(bT (HT.out _ (hbb.alloc hbb.size (.cells #[.int .i64 (fb:Int),.int .i64 sL] 291)))).1.2.2.2
     clear hbq
     refine hK.out _ _ ?_ (fun hHeld=> ?_)
     ·first | exact ng | exact HS.out _ hbb | exact HS.out _ hbb.drew | exact HS.out _ (hbb.alloc hbb.size _)
     clear hK K
     try simp only[Act.put,aaG,aaH,aaI]
     refine aF (i:=6) (d:=(some 60)) (v:= ?vb5) (by rfl) (by kernel_rfl) (by kernel_rfl) (by kernel_rfl) (fun _ _ _ h=>h) (by rfl) ?YL hHeld ?ZJ
     case YL=>
      intro o ho
      simp only[aaJ,aaL,aaK,aaM]at ho
      subst ho
      intro w' hSw
      first |(go_simp;done) |(go_simp;with_reducible rfl)
     try simp only[Act.put,aaG,aaH,aaI]
     refine wpAnyH_ready (rs:=[7]) (by kernel_rfl) (by simp) ?_
     refine AllReadyH.cons rfl (fun K hK=> ?_) AllReadyH.nil
     go_simp
     refine hK.out _ _ ?_ (fun hHeld=> ?_)
     ·first | exact ng | exact HS.out _ hbb | exact HS.out _ hbb.drew | exact HS.out _ (hbb.alloc hbb.size _)
     clear hK K
     try simp only[Act.put,aaG,aaH,aaI]
     refine wpAnyH_ready (rs:=[8]) (by kernel_rfl) (by simp) ?_
     refine AllReadyH.cons rfl (fun K hK=> ?_) AllReadyH.nil
     refine step_append_lies _ (by rfl) _ _ _ (by rfl) W0.heap.size 291 i0 _ 2 16 Tryz.underlying64 hi hz0 hz1 hz2 rfl (by omega) (.slice iF (tw key pre).length iG) (tw key pre).length ((fl (tw key pre)).map (Value.int .i64)) (by rfl) ((own_below h2 hbb).alloc _) ⟨wq.heap.size,0,none⟩ 1 1 [.int .i64 (fb:Int),.int .i64 sL] (by rfl) (by rfl) (World.news_of_block (cs:=#[.int .i64 (fb:Int),.int .i64 sL]) (t:=291) (fr:=(0,0)) (heap_alloc_new wq _)) (ints_oneCell .i64 [(fb:Int),sL]) (by omega) (by unfold maxLen;omega) (by omega) (by have:=hbb.size;simp;omega) (wq.heap.size+1) (by simp) ?_
     intro g cap w8 hown hgrow hat Ht
     have dV:=hbb.alloc hbb.size (.cells #[.int .i64 (fb:Int),.int .i64 sL] 291)
     have t8:=aT hgrow (HT.out _ dV) zN
     have b8:=aT hgrow (HX.out _ dV) hnB
     have t83:=(bT t8).1.2.2.2
     have f83:=(bT t8).2.2.2.2
     refine hK.out _ _ ?_ (fun hHeld=> ?_)
     ·exact(bF b8).1
     clear hK K
     try simp only[Act.put,aaG]
     refine aF (i:=9) (d:=(some 63)) (v:= ?vb6) (by rfl) (by kernel_rfl) (by kernel_rfl) (by kernel_rfl) (fun _ _ _ h=>h) (by rfl) ?YM hHeld ?ZK
     case YM=>
      intro o ho
      simp only[aaJ,aaL,aaK,aaM]at ho
      subst ho
      intro w' hSw
      first |(go_simp;done) |(go_simp;with_reducible rfl)
     try simp only[Act.put]
     refine wpAnyH_ready (rs:=[10]) (by kernel_rfl) (by simp) ?_
     refine AllReadyH.cons rfl (fun K hK=> ?_) AllReadyH.nil
     go_simp
     refine hK.out _ _ ?_ (fun hHeld=> ?_)
     ·exact(World.cell?_setCell_other _ _ _ _ (by first |(simp;done) |(simp;omega))).trans (bF b8).1
     clear hK K
     try simp only[Act.put]
     refine wpAnyH_done (by kernel_rfl) ?_ _
     exact zF g cap w8 wq hbb hown hgrow hat t8
    ·skip
     go_simp
     refine(hsL.c _).mono ?_
     rintro e wq ⟨rfl,hbq⟩
     have hbb:Below W.heap.size W wq:=(by first | exact ah hbb hbq | exact ah hbb.drew hbq)
     have WH:=(bT (HT.out _ hbb)).1.2.2.2
     have WI:=(bT (HT.out _ (hbb.alloc hbb.size (.cells #[.int .i64 (fb:Int),.int .i64 sL] 291)))).1.2.2.2
     clear hbq
     refine hK.out _ _ ?_ (fun hHeld=> ?_)
     ·first | exact ng | exact HS.out _ hbb | exact HS.out _ hbb.drew | exact HS.out _ (hbb.alloc hbb.size _)
     clear hK K
     try simp only[Act.put,aaG,aaH,aaI]
     refine aF (i:=6) (d:=(some 60)) (v:= ?vb7) (by rfl) (by kernel_rfl) (by kernel_rfl) (by kernel_rfl) (fun _ _ _ h=>h) (by rfl) ?YN hHeld ?ZL
     case YN=>
      intro o ho
      simp only[aaJ,aaL,aaK,aaM]at ho
      subst ho
      intro w' hSw
      first |(go_simp;done) |(go_simp;with_reducible rfl)
     try simp only[Act.put,aaG,aaH,aaI]
     refine wpAnyH_ready (rs:=[1,7]) (by kernel_rfl) (by simp) ?_
     refine AllReadyH.cons rfl (fun K hK=> ?_) (AllReadyH.cons rfl (fun K hK=> ?_) AllReadyH.nil)
     ·skip
      go_simp
      refine hK.out _ _ ?_ (fun hHeld=> ?_)
      ·first | exact ng | exact HS.out _ hbb | exact HS.out _ hbb.drew | exact HS.out _ (hbb.alloc hbb.size _)
      clear hK K
      try simp only[Act.put,aaG,aaH,aaI]
      refine wpAnyH_ready (rs:=[7]) (by kernel_rfl) (by simp) ?_
      refine AllReadyH.cons rfl (fun K hK=> ?_) AllReadyH.nil
      go_simp
      refine hK.out _ _ ?_ (fun hHeld=> ?_)
      ·first | exact ng | exact HS.out _ hbb | exact HS.out _ hbb.drew | exact HS.out _ (hbb.alloc hbb.size _)
      clear hK K
      try simp only[Act.put,aaG,aaH,aaI]
      refine wpAnyH_ready (rs:=[8]) (by kernel_rfl) (by simp) ?_
      refine AllReadyH.cons rfl (fun K hK=> ?_) AllReadyH.nil
      refine step_append_lies _ (by rfl) _ _ _ (by rfl) W0.heap.size 291 i0 _ 2 16 Tryz.underlying64 hi hz0 hz1 hz2 rfl (by omega) (.slice iF (tw key pre).length iG) (tw key pre).length ((fl (tw key pre)).map (Value.int .i64)) (by rfl) ((own_below h2 hbb).alloc _) ⟨wq.heap.size,0,none⟩ 1 1 [.int .i64 (fb:Int),.int .i64 sL] (by rfl) (by rfl) (World.news_of_block (cs:=#[.int .i64 (fb:Int),.int .i64 sL]) (t:=291) (fr:=(0,0)) (heap_alloc_new wq _)) (ints_oneCell .i64 [(fb:Int),sL]) (by omega) (by unfold maxLen;omega) (by omega) (by have:=hbb.size;simp;omega) (wq.heap.size+1) (by simp) ?_
      intro g cap w8 hown hgrow hat Ht
      have dV:=hbb.alloc hbb.size (.cells #[.int .i64 (fb:Int),.int .i64 sL] 291)
      have t8:=aT hgrow (HT.out _ dV) zN
      have b8:=aT hgrow (HX.out _ dV) hnB
      have t83:=(bT t8).1.2.2.2
      have f83:=(bT t8).2.2.2.2
      refine hK.out _ _ ?_ (fun hHeld=> ?_)
      ·exact(bF b8).1
      clear hK K
      try simp only[Act.put,aaG]
      refine aF (i:=9) (d:=(some 63)) (v:= ?vb8) (by rfl) (by kernel_rfl) (by kernel_rfl) (by kernel_rfl) (fun _ _ _ h=>h) (by rfl) ?YO hHeld ?ZM
      case YO=>
       intro o ho
       simp only[aaJ,aaL,aaK,aaM]at ho
       subst ho
       intro w' hSw
       first |(go_simp;done) |(go_simp;with_reducible rfl)
      try simp only[Act.put]
      refine wpAnyH_ready (rs:=[10]) (by kernel_rfl) (by simp) ?_
      refine AllReadyH.cons rfl (fun K hK=> ?_) AllReadyH.nil
      go_simp
      refine hK.out _ _ ?_ (fun hHeld=> ?_)
      ·exact(World.cell?_setCell_other _ _ _ _ (by first |(simp;done) |(simp;omega))).trans (bF b8).1
      clear hK K
      try simp only[Act.put]
      refine wpAnyH_done (by kernel_rfl) ?_ _
      exact zF g cap w8 wq hbb hown hgrow hat t8
     ·skip
      go_simp
      refine hK.out _ _ ?_ (fun hHeld=> ?_)
      ·first | exact ng | exact HS.out _ hbb | exact HS.out _ hbb.drew | exact HS.out _ (hbb.alloc hbb.size _)
      clear hK K
      try simp only[Act.put,aaG,aaH,aaI]
      refine wpAnyH_ready (rs:=[1]) (by kernel_rfl) (by simp) ?_
      refine AllReadyH.cons rfl (fun K hK=> ?_) AllReadyH.nil
      go_simp
      refine hK.out _ _ ?_ (fun hHeld=> ?_)
      ·first | exact ng | exact HS.out _ hbb | exact HS.out _ hbb.drew | exact HS.out _ (hbb.alloc hbb.size _)
      clear hK K
      try simp only[Act.put,aaG,aaH,aaI]
      refine wpAnyH_ready (rs:=[8]) (by kernel_rfl) (by simp) ?_
      refine AllReadyH.cons rfl (fun K hK=> ?_) AllReadyH.nil
      refine step_append_lies _ (by rfl) _ _ _ (by rfl) W0.heap.size 291 i0 _ 2 16 Tryz.underlying64 hi hz0 hz1 hz2 rfl (by omega) (.slice iF (tw key pre).length iG) (tw key pre).length ((fl (tw key pre)).map (Value.int .i64)) (by rfl) ((own_below h2 hbb).alloc _) ⟨wq.heap.size,0,none⟩ 1 1 [.int .i64 (fb:Int),.int .i64 sL] (by rfl) (by rfl) (World.news_of_block (cs:=#[.int .i64 (fb:Int),.int .i64 sL]) (t:=291) (fr:=(0,0)) (heap_alloc_new wq _)) (ints_oneCell .i64 [(fb:Int),sL]) (by omega) (by unfold maxLen;omega) (by omega) (by have:=hbb.size;simp;omega) (wq.heap.size+1) (by simp) ?_
      intro g cap w8 hown hgrow hat Ht
      have dV:=hbb.alloc hbb.size (.cells #[.int .i64 (fb:Int),.int .i64 sL] 291)
      have t8:=aT hgrow (HT.out _ dV) zN
      have b8:=aT hgrow (HX.out _ dV) hnB
      have t83:=(bT t8).1.2.2.2
      have f83:=(bT t8).2.2.2.2
      refine hK.out _ _ ?_ (fun hHeld=> ?_)
      ·exact(bF b8).1
      clear hK K
      try simp only[Act.put,aaG]
      refine aF (i:=9) (d:=(some 63)) (v:= ?vb9) (by rfl) (by kernel_rfl) (by kernel_rfl) (by kernel_rfl) (fun _ _ _ h=>h) (by rfl) ?YP hHeld ?ZN
      case YP=>
       intro o ho
       simp only[aaJ,aaL,aaK,aaM]at ho
       subst ho
       intro w' hSw
       first |(go_simp;done) |(go_simp;with_reducible rfl)
      try simp only[Act.put]
      refine wpAnyH_ready (rs:=[10]) (by kernel_rfl) (by simp) ?_
      refine AllReadyH.cons rfl (fun K hK=> ?_) AllReadyH.nil
      go_simp
      refine hK.out _ _ ?_ (fun hHeld=> ?_)
      ·exact(World.cell?_setCell_other _ _ _ _ (by first |(simp;done) |(simp;omega))).trans (bF b8).1
      clear hK K
      try simp only[Act.put]
      refine wpAnyH_done (by kernel_rfl) ?_ _
      exact zF g cap w8 wq hbb hown hgrow hat t8
 case done=>
  rintro D ys W hD rfl ⟨sv,h1,h2,h3,h4,h5⟩ Zc
  obtain⟨⟨t0,t1,t2,t3⟩,-⟩:=bT h1
  obtain⟨iF,iG,rfl⟩:=bW h2
  have hR:W.heap[w.heap.size+1]? = some (.cells #[.int .i64 0,.bool false,.int .i64 0,.int .i64 0,.slice none 0 0] 296):=(h3.block _ (Nat.lt_of_lt_of_le hsz hbr.size)).trans ((hbr.block _ hsz).trans HR1.out)
  obtain⟨⟨g0,g1,g2,g3,g4⟩,⟨f0,f1,f2,f3,f4⟩⟩:=Ba hR
  go_wp2
  have QY:(((((W.setCell ⟨w.heap.size+1,0,none⟩ (.int .i64 0)).setCell ⟨w.heap.size+1,1,none⟩ (.bool true)).setCell ⟨w.heap.size+1,2,none⟩ (.int .i64 x)).setCell ⟨w.heap.size+1,3,none⟩ (.int .i64 y)).setCell ⟨w.heap.size+1,4,none⟩ (.slice iF (tw key (iC p len)).length iG)).heap[D]? = some (.deferred (some [])):=by
   have hne:D≠w.heap.size+1:=by have:=hbr.size;omega
   rw[heap_setCell_other _ _ _ _ hne,heap_setCell_other _ _ _ _ hne,heap_setCell_other _ _ _ _ hne,heap_setCell_other _ _ _ _ hne,heap_setCell_other _ _ _ _ hne]
   exact Zc
  refine⟨by simp,.inl ⟨_,_,rfl,run_takeDeferred QY, ?_⟩⟩
  have hDr:w.heap.size+1≠D:=by have:=hbr.size;omega
  have Ze:(((((W.setCell ⟨w.heap.size+1,0,none⟩ (.int .i64 0)).setCell ⟨w.heap.size+1,1,none⟩ (.bool true)).setCell ⟨w.heap.size+1,2,none⟩ (.int .i64 x)).setCell ⟨w.heap.size+1,3,none⟩ (.int .i64 y)).setCell ⟨w.heap.size+1,4,none⟩ (.slice iF (tw key (iC p len)).length iG)).heap[w.heap.size+1]? = some (.cells #[.int .i64 0,.bool true,.int .i64 x,.int .i64 y,.slice iF (tw key (iC p len)).length iG] 296):=
   heap_setCell_same _ _ 4 _ _ _ (heap_setCell_same _ _ 3 _ _ _ (heap_setCell_same _ _ 2 _ _ _ (heap_setCell_same _ _ 1 _ _ _ (heap_setCell_same _ _ 0 _ _ _ hR))))
  have hbw:w.heap.size+1<W0.heap.size:=by have:=hbr.size;omega
  have IV:=ownsRow_setCell_below (ownsRow_setCell_below (ownsRow_setCell_below (ownsRow_setCell_below (ownsRow_setCell_below h2 (a:=⟨w.heap.size+1,0,none⟩) hbw (.int .i64 0)) (a:=⟨w.heap.size+1,1,none⟩) hbw (.bool true)) (a:=⟨w.heap.size+1,2,none⟩) hbw (.int .i64 x)) (a:=⟨w.heap.size+1,3,none⟩) hbw (.int .i64 y)) (a:=⟨w.heap.size+1,4,none⟩) hbw (.slice iF (tw key (iC p len)).length iG)
  have hBW:Below w.heap.size w W:=ah (ah hB1.out hbr) h3
  have G5:=((((hBW.setCell (p:=⟨w.heap.size+1,0,none⟩) (Nat.le_succ _) (.int .i64 0)).setCell (p:=⟨w.heap.size+1,1,none⟩) (Nat.le_succ _) (.bool true)).setCell (p:=⟨w.heap.size+1,2,none⟩) (Nat.le_succ _) (.int .i64 x)).setCell (p:=⟨w.heap.size+1,3,none⟩) (Nat.le_succ _) (.int .i64 y)).setCell (p:=⟨w.heap.size+1,4,none⟩) (Nat.le_succ _) (.slice iF (tw key (iC p len)).length iG)
  generalize ((((W.setCell ⟨w.heap.size+1,0,none⟩ (.int .i64 0)).setCell ⟨w.heap.size+1,1,none⟩ (.bool true)).setCell ⟨w.heap.size+1,2,none⟩ (.int .i64 x)).setCell ⟨w.heap.size+1,3,none⟩ (.int .i64 y)).setCell ⟨w.heap.size+1,4,none⟩ (.slice iF (tw key (iC p len)).length iG)=W9 at *
  have Zf:(W9.putObj D (.deferred none)).heap[w.heap.size+1]? = some (.cells #[.int .i64 0,.bool true,.int .i64 x,.int .i64 y,.slice iF (tw key (iC p len)).length iG] 296):=by
   rw[World.putObj_heap_other hDr];exact Ze
  have Xr:=ownsRow_putObj IV (.deferred none) QY rfl
  have Ym:Below w.heap.size w (W9.putObj D (.deferred none)):=G5.trans (belowK_b (w:=w) (Nat.le_refl _) W9 D _ _ (by have:=hbr.size;omega) QY rfl rfl)
  clear t0 t1 t2 t3 g0 g1 g2 g3 g4 f0 f1 f2 f3 f4 hR h1 h2
  generalize W9.putObj D (.deferred none)=W10 at *
  obtain⟨⟨c0,c1,c2,c3,c4⟩,-⟩:=Ba Zf
  exact⟨.agg #[.int .i64 0,.bool true,.int .i64 x,.int .i64 y,.slice iF (tw key (iC p len)).length iG],by simp[results,Tryz.results220,go_sem, *],iF,iG,rfl,Ym,aS Xr (Nat.le_of_lt (Nat.lt_of_succ_lt hbw))⟩
 case stop=>
  rintro D c' pre W _ _ h _
  exact h.elim
end U
end Go.Proofs.YtmnfokgllcdiiaaGreat
