/- Joined: what the texts behind it need. -/
import Derived.Test.YtmnfokgllcdiiaaGreatYBC
import Derived.Test.YtmnfokgllcdiiaaGreatYBB
import Derived.Deep.RegionLaw
import Derived.OneCell
set_option maxRecDepth 100000
set_option maxHeartbeats 4000000
namespace Go.Proofs.YtmnfokgllcdiiaaGreat
open Go.RowKit
namespace U
def Tr.last(key:Int)(t:Tr):Tr:=t.fo Tr.none (fun k v=>Tr.leaf k v) (fun b _ _ x y=>if aV key b=0 then x else y)
def Tr.steps(key:Int)(t:Tr):List (Nat × Tr × Tr):=t.fo [] (fun _ _=>[]) (fun b l r x y=>(b,l,r)::(if aV key b=0 then x else y))
theorem Tr.uV(key:Int):Tr.none.steps key=[]:=rfl
theorem Tr.uU(key k v:Int):(Tr.leaf k v).steps key=[]:=rfl
def cl3(p:List (Nat × Tr × Tr)):List Value:=p.flatMap fun f=>[.int .i64 (f.1:Int),f.2.1.val,f.2.2.val]
theorem Ud(p q:List (Nat × Tr × Tr)):cl3 (p++q)=cl3 p++cl3 q:=by unfold cl3;rw[List.flatMap_append]
theorem Tr.kV(key:Int)(b:Nat)(l r:Tr):(Tr.fork b l r).steps key=(b,l,r)::(if aV key b=0 then l.steps key else r.steps key):=rfl
theorem Tr.Eu(key:Int)(b:Nat)(l r:Tr):(Tr.fork b l r).last key=if aV key b=0 then l.last key else r.last key:=rfl
theorem IW{w:World}{B n m:Nat}{e:TypeId}{v:Value}{xs:List Value}(h:w.ownsRow B e 3 v n xs)(e1:n=m):w.ownsRow B e 3 v m xs:=by subst e1;exact h
theorem Tr.EL(key:Int)(t:Tr):(t.steps key).length<=t.forks:=by
 induction t using Tr.ind with
 | none=>simp[Tr.uV]
 | leaf k v=>simp[Tr.uU]
 | fork b l r ih1 ih2=>
  rw[Tr.kV,Tr.tV,List.length_cons]
  split<;>omega
theorem Tr.one(t:Tr):t.val.oneCell'=true:=by induction t using Tr.cs<;>rfl
def lenOf:Value->Nat
 | .slice _ n _=>n
 | _=>0
theorem uM{w:World}{B n:Nat}{e:TypeId}{v:Value}{xs:List Value}(h:w.ownsRow B e 3 v n xs):∃a c,v = .slice a n c:=by
 rcases h.2 with⟨rfl,hn⟩ |⟨g,cap,cur,rfl,_⟩
 ·exact⟨none,0,by rw[hn]⟩
 ·exact⟨_,_,rfl⟩
theorem Tryz.V8:(Tryz.prog.info? 358).map (fun i=>(i.zero,i.size,i.bytes))=some (some (.agg #[.int .i64 0,.nilIface,.nilIface]),3,40):=by kernel_rfl
structure Way(w:World)(t:Tr)(key:Int)(e:Ending)(w':World):Prop where
 b:Below w.heap.size w w'
 r:∃v,e = .returned (.tuple #[v,(t.last key).val])/\w'.ownsRow w.heap.size 358 3 v (t.steps key).length (cl3 (t.steps key))
theorem EO(t:Tr)(key:Int)(w:World)(hok:t.Ok)(hk:0<=key/\key<=255)(hf:t.forks<=1000):
  Calls Tryz.prog 268 #[t.val,.int .i64 key] w fun e w'=>Way w t key e w':=by
 obtain⟨i0,hi,hz0,hz1,hz2⟩:=info_parts Tryz.V8
 have HF:Hid ((t.steps key).length<=1000):=Nat.le_trans (t.EL key) hf
 clear hf
 obtain⟨tv,V6⟩:∃tv,tv=t.val:=⟨_,rfl⟩
 have Y5:Hid (tv=t.val):=V6
 rw[←V6]
 clear V6
 have yO:Hid t.Ok:=hok
 clear hok
 go_enter Tryz.func268,Tryz.ntmps268
 go_wp2
 go_loopw [0,6] (fun u v wr=>∃(s:Tr) (p:List (Nat × Tr × Tr)),u=s.val/\Hid s.Ok/\Hid (p++s.steps key=t.steps key)/\Hid (s.last key=t.last key)/\Hid (Below w.heap.size w wr)/\Hid (wr.ownsRow w.heap.size 358 3 v p.length (cl3 p))) (fun _ v _=>1000 - lenOf v)
 case atStart=>exact⟨t,[],Y5.out,yO,rfl,rfl,Below.refl _ _,World.ownsRow_nil _ _ _ _⟩
 case round=>
  obtain⟨s,p,rfl,hs,hp,hl,hB,ho⟩:=hrel
  obtain⟨a',c',rfl⟩:=uM ho.out
  rcases s.three with rfl |⟨k,y,rfl⟩ |⟨b,L,R,rfl⟩
  ·have ha:=Gv (.agg #[])
   have hst:Hid (p=t.steps key):=(by have:=hp.out;simpa [Tr.uV,Tr.uU]using this:p=t.steps key)
   have hlt:Hid (.iface 389 (.agg #[])=(t.last key).val):=(by rw[←hl.out];rfl : .iface 389 (.agg #[])=(t.last key).val)
   rw[show Tr.none.val = .iface 389 (.agg #[]) from rfl]
   go_wp2
   refine bodyPost_ret (v:= .tuple #[.slice a' p.length c',.iface 389 (.agg #[])]) (by simp[results,Tryz.results268,go_sem, *]) rfl ?_
   rw[hlt.out]
   refine⟨hB.out.alloc hB.out.size _,_,rfl, ?_⟩
   rw[←hst.out]
   exact ho.out.alloc _
  ·have ha:=Gu (.agg #[.int .i64 k,.int .i64 y])
   have hst:Hid (p=t.steps key):=(by have:=hp.out;simpa [Tr.uV,Tr.uU]using this:p=t.steps key)
   have hlt:Hid (.iface 351 (.agg #[.int .i64 k,.int .i64 y])=(t.last key).val):=(by rw[←hl.out];rfl : .iface 351 (.agg #[.int .i64 k,.int .i64 y])=(t.last key).val)
   rw[show(Tr.leaf k y).val = .iface 351 (.agg #[.int .i64 k,.int .i64 y]) from rfl]
   go_wp2
   refine bodyPost_ret (v:= .tuple #[.slice a' p.length c',.iface 351 (.agg #[.int .i64 k,.int .i64 y])]) (by simp[results,Tryz.results268,go_sem, *]) rfl ?_
   rw[hlt.out]
   refine⟨hB.out.alloc hB.out.size _,_,rfl, ?_⟩
   rw[←hst.out]
   exact ho.out.alloc _
  ·have hbt:=fun w=>Eh key b w hs.out.1 hk
   obtain⟨tL,xL,eL⟩:=L.isIface
   obtain⟨tR,xR,eR⟩:=R.isIface
   have hpl:p.length<1000:=by
    have h1:=congrArg List.length hp.out
    have h2:=HF.out
    simp[Tr.kV]at h1
    omega
   have HL:Hid (L.val = .iface tL xL):=eL
   have HR:Hid (R.val = .iface tR xR):=eR
   rw[show(Tr.fork b L R).val = .iface 358 (.agg #[.int .i64 (b:Int),L.val,R.val]) from rfl,eL,eR]
   have ha:=Ua (.agg #[.int .i64 (b:Int),.iface tL xL,.iface tR xR])
   clear eL eR
   have ho1:Hid ((wr.alloc (.cells #[.int .i64 (b:Int),.iface tL xL,.iface tR xR] 358)).ownsRow w.heap.size 358 3 (.slice a' p.length c') p.length (cl3 p)):=ho.out.alloc _
   have hb1:Hid (Below w.heap.size w ((wr.alloc (.cells #[.int .i64 (b:Int),.iface tL xL,.iface tR xR] 358)).alloc (.cells #[.int .i64 (b:Int),.iface tL xL,.iface tR xR] 358))):=(hB.out.alloc hB.out.size _).alloc (hB.out.alloc hB.out.size _).size _
   have hA:Hid (((wr.alloc (.cells #[.int .i64 (b:Int),.iface tL xL,.iface tR xR] 358)).alloc (.cells #[.int .i64 (b:Int),.iface tL xL,.iface tR xR] 358)).heap[wr.heap.size]? = some (.cells #[.int .i64 (b:Int),.iface tL xL,.iface tR xR] 358)):=((aj _).block wr.heap.size (by simp)).trans (heap_alloc_new wr _)
   have hsz:=hB.out.size
   go_wp2_with (at_builtin;refine wpList_append_own _ rfl _ _ 344 rfl w.heap.size 358 i0 (.agg #[.int .i64 0,.nilIface,.nilIface]) 3 40 Tryz.underlying344 hi hz0 hz1 hz2 rfl (by decide) _ _ _ rfl (ho1.out.alloc _) ⟨wr.heap.size+1,0,none⟩ 1 1 [.int .i64 (b:Int),.iface tL xL,.iface tR xR] rfl rfl (World.news_of_block (by simpa using heap_alloc_new (wr.alloc (.cells #[.int .i64 (b:Int),.iface tL xL,.iface tR xR] 358)) (.cells #[.int .i64 (b:Int),.iface tL xL,.iface tR xR] 358))) (by simp[Value.oneCell']) (by unfold maxLen;omega) (by omega) (by simp;omega) ?_)
   intro v' w2 hown' hgrow _
   have hb2:Hid (Below w.heap.size w w2):=hb1.out.grown hgrow (by simp;omega) (fun k hk=>(ho.out.lt k hk).1)
   have hnr:some wr.heap.size≠(Value.slice a' p.length c').ownBlock:=fun e=>by have:=(ho.out.lt _ e.symm).2;omega
   obtain⟨d0,d1,d2⟩:=bF hA.out
   have c0:=hgrow.cell d0 hnr
   have c1:=hgrow.cell d1 hnr
   have c2:=hgrow.cell d2 hnr
   have aN:Hid (w2.ownsRow w.heap.size 358 3 v' (p.length+1) (cl3 (p++[(b,L,R)]))):=(by
    rw[Ud]
    have e:cl3 [(b,L,R)]=[.int .i64 (b:Int),.iface tL xL,.iface tR xR]:=by rw[←HL.out,←HR.out];rfl
    rw[e]
    exact hown':w2.ownsRow w.heap.size 358 3 v' (p.length+1) (cl3 (p++[(b,L,R)])))
   obtain⟨av,cv,rfl⟩:=uM aN.out
   clear hown' hgrow hnr d0 d1 d2 hA hb1 ho1 ho hB
   go_wp2_with fail
   refine(hbt _).mono ?_
   rintro e w3 ⟨rfl,rfl⟩
   clear hbt
   rcases nP key b with hz | hz
   ·have hp2:Hid ((p++[(b,L,R)])++L.steps key=t.steps key):=(by rw[←hp.out,Tr.kV,if_pos hz];simp:(p++[(b,L,R)])++L.steps key=t.steps key)
    have hl2:Hid (L.last key=t.last key):=(by rw[←hl.out,Tr.Eu,if_pos hz]:L.last key=t.last key)
    rw[hz]
    clear hz
    go_wp2
    go_roundw
    case rel=>exact⟨L,p++[(b,L,R)],HL.out.symm,hs.out.2.1,hp2,hl2,hb2,IW aN.out (by simp)⟩
    case measure=>simp[lenOf];omega
   ·have hp2:Hid ((p++[(b,L,R)])++R.steps key=t.steps key):=(by rw[←hp.out,Tr.kV,if_neg (by rw[hz];decide)];simp:(p++[(b,L,R)])++R.steps key=t.steps key)
    have hl2:Hid (R.last key=t.last key):=(by rw[←hl.out,Tr.Eu,if_neg (by rw[hz];decide)]:R.last key=t.last key)
    rw[hz]
    clear hz
    go_wp2
    go_roundw
    case rel=>exact⟨R,p++[(b,L,R)],HR.out.symm,hs.out.2.2,hp2,hl2,hb2,IW aN.out (by simp)⟩
    case measure=>simp[lenOf];omega
theorem Tryz.H7:(Tryz.prog.info? 291).map (fun i=>(i.zero,i.size,i.bytes))=some (some (.agg #[.int .i64 0,.int .i64 0]),2,16):=by kernel_rfl
theorem bT{w:World}{b:Nat}{x y z u:Value}{t:TypeId}(h:w.heap[b]? = some (.cells #[x,y,z,u] t (0,0))):(w.cell? ⟨b,0,none⟩=some x/\w.cell? ⟨b,1,none⟩=some y/\w.cell? ⟨b,2,none⟩=some z/\w.cell? ⟨b,3,none⟩=some u)/\(w.frozen? ⟨b,0,none⟩=false/\w.frozen? ⟨b,1,none⟩=false/\w.frozen? ⟨b,2,none⟩=false/\w.frozen? ⟨b,3,none⟩=false):=by
 refine⟨⟨?_, ?_, ?_, ?_⟩,⟨?_, ?_, ?_, ?_⟩⟩
 ·unfold World.cell?;rw[h];rfl
 ·unfold World.cell?;rw[h];rfl
 ·unfold World.cell?;rw[h];rfl
 ·unfold World.cell?;rw[h];rfl
 ·unfold World.frozen?;rw[h];rfl
 ·unfold World.frozen?;rw[h];rfl
 ·unfold World.frozen?;rw[h];rfl
 ·unfold World.frozen?;rw[h];rfl
theorem aT{w w':World}{row:Option Nat}{b:Nat}{o:Obj}(hg:w.grownBy w' row)(h:w.heap[b]? = some o)(hne:some b≠row):w'.heap[b]? = some o:=by
 have hlt:b<w.heap.size:=(Array.getElem?_eq_some_iff.1 h).1
 obtain⟨_,_,_,_,h5⟩:=hg
 exact(h5 b hlt hne).trans h
theorem rW{w:World}{g:Nat}{x y z u:Value}{t:TypeId}(h:w.heap[g]? = some (.cells #[x,y,z,u] t (0,0)))(u':Value):(w.setCell ⟨g,3,none⟩ u').heap[g]? = some (.cells #[x,y,z,u'] t (0,0)):=heap_setCell_same w g 3 _ t u' h
structure Dk(l:Prl)(key k y:Int)(ws:Prl):Prop where
 c:∀(v:Value)(w:World),Prs w v l->Calls Tryz.prog 156 #[v,.int .i64 key] w fun e w'=>∃a c,e = .returned (.agg #[.bool true,.int .i64 k,.int .i64 y,.slice a ws.length c])/\w'.ownsRow w.heap.size 291 2 (.slice a ws.length c) ws.length ((fl ws).map (Value.int .i64))/\Below w.heap.size w w'
theorem Iq(key k y:Int):Dk [(k,y)] key k y []:=by
 refine⟨fun v w hv=> ?_⟩
 obtain⟨ad,c,rfl⟩:=hv.shape
 obtain⟨-,b,off,rfl,hlt,hc⟩:=hv.at (by simp)
 have c0:w.cell? ⟨b,off,none⟩=some (.int .i64 k):=by simpa [pAt]using(hc 0 (by simp)).1
 have c1:w.cell? ⟨b,off+1,none⟩=some (.int .i64 y):=by simpa [pAt]using(hc 0 (by simp)).2
 have hb0:=aj (w:=w) (.cells #[.bool false,.int .i64 0,.int .i64 0,.slice none 0 0] 66)
 have g0:=(hb0.cell (p:=⟨b,off,none⟩) hlt).trans c0
 have g1:=(hb0.cell (p:=⟨b,off+1,none⟩) hlt).trans c1
 clear hv hc c0 c1 hlt
 go_enter Tryz.func156,Tryz.ntmps156
 go_wp2
 exact bodyPost_ret (v:= .agg #[.bool true,.int .i64 k,.int .i64 y,.slice none 0 0]) (by simp[results,Tryz.results156,go_sem, *]) rfl ⟨none,0,rfl,World.ownsRow_nil _ _ _ _,aj _⟩
theorem Fq{l:Prl}{b:Nat}{key k y x:Int}{ws:Prl}(hs:Sls l)(h2:2<=l.length)(hb:FB l b)(hk:0<=key/\key<=255)(hz:aV key b=0)(hw:ws.length<=1000)
  (r:Dk (sd l b 0) key k y ws) (o:Dj (sd l b 1) x):Dk l key k y (ws++[((b:Int),x)]):=by
 refine⟨fun v w hv=> ?_⟩
 obtain⟨i0,hi,hz0,hz1,hz2⟩:=info_parts Tryz.H7
 have hF:=fun w' h=>uF v l b w' (hv.below h) hs h2 hb
 have hS:=fun s w' h=>uH v l b s w' (hv.below h) hs hb.le
 have hBt:=fun w=>oU key b w hb.le hk
 rw[hz]at hBt
 have hn:=hs.len
 obtain⟨ad,c,rfl⟩:=hv.shape
 have TR:=fun a c w h=>r.c (.slice a (sd l b 0).length c) w h
 have RO:=fun a c w h=>o.c (.slice a (sd l b 1).length c) w h
 have SZ:=hS 0
 have SO:=hS 1
 generalize sd l b 0=m0 at *
 generalize sd l b 1=m1 at *
 generalize l.length=n at *
 have Ej:((n:Int)==1)=false:=by simp;omega
 clear hv hs hS r o hb hz
 go_enter Tryz.func156,Tryz.ntmps156
 go_wp2_with fail
 refine(hF _ (aj _)).mono ?_
 rintro e w1 ⟨rfl,hb1⟩
 have hB1:=ah (aj _) hb1
 clear hF
 go_wp2_with fail
 refine(hBt _).mono ?_
 rintro e w2 ⟨rfl,rfl⟩
 clear hBt
 go_wp2_with fail
 refine(SZ _ hB1).mono ?_
 rintro e w3 ⟨a3,c3,rfl,nT,hb3⟩
 have hB3:=ah hB1 hb3
 have hr3:=ah hb1 hb3
 clear SZ hB1 hb1 hb3
 go_wp2_with fail
 refine(TR _ _ _ (lM nT)).mono ?_
 rintro e w4 ⟨a4,c4,rfl,own4,hb4⟩
 have hB4:=ah hB3 hb4
 have hr4:=ah hr3 hb4
 have hsz3:w.heap.size+1<=w3.heap.size:=by have:=hr3.size;simpa using this
 have Hz:w3.heap.size<=w4.heap.size:=hb4.size
 clear TR nT hb4 hr3 hB3
 obtain⟨W,hW⟩:∃W,W=w4.alloc (.cells #[.bool true,.int .i64 k,.int .i64 y,.slice a4 ws.length c4] 66):=⟨_,rfl⟩
 have HW:Hid _:=hW.symm
 have hBW:Hid (Below w4.heap.size w4 W):=(by rw[hW];exact aj _:Below w4.heap.size w4 W)
 have G6:Hid (W.heap[w4.heap.size]? = some (.cells #[.bool true,.int .i64 k,.int .i64 y,.slice a4 ws.length c4] 66)):=(by rw[hW];exact heap_alloc_new _ _:W.heap[w4.heap.size]? = some (.cells #[.bool true,.int .i64 k,.int .i64 y,.slice a4 ws.length c4] 66))
 have Pq:Hid (W.heap[w.heap.size]? = some (.cells #[.bool false,.int .i64 0,.int .i64 0,.slice none 0 0] 66)):=((hBW.out.block w.heap.size (by omega)).trans ((hr4.block w.heap.size (by simp)).trans (heap_alloc_new w _)))
 have hszW:w4.heap.size<W.heap.size:=by rw[hW];simp
 have Bq:Hid (Below w.heap.size w W):=ah hB4 hBW.out
 have Pn:Hid (W.ownsRow w3.heap.size 291 2 (.slice a4 ws.length c4) ws.length ((fl ws).map (Value.int .i64))):=own_below own4 hBW.out
 have hlt4:Hid (∀k,(Value.slice a4 ws.length c4).ownBlock=some k->w3.heap.size<=k/\k<w4.heap.size):=fun k hk=>own4.lt k hk
 clear hW hr4 hB4 own4
 go_wp2
 rw[HW.out]
 have hbr:=Below.refl W.heap.size W
 have HC:Hid (∀w',Below W.heap.size W w'->w'.heap[w4.heap.size]? = some (.cells #[.bool true,.int .i64 k,.int .i64 y,.slice a4 ws.length c4] 66)):=fun w' h=>(h.block w4.heap.size hszW).trans G6.out
 have k3:=(bT G6.out).1.2.2.2
 have hw1:IntKind.i64.wrap 1=1:=by rw[IntKind.wrap_i64];decide
 go_region_law (first
   |(go_simp;go_at_call 215;refine(SO _ (by first | exact ah Bq.out hbr | exact(ah Bq.out hbr).drew)).mono ?_;rintro e wq ⟨aq,cq,rfl,RV,hbq⟩;have hbr:Below W.heap.size W wq:=(by first | exact ah hbr hbq | exact ah hbr.drew hbq);have kx:=(bT (HC.out _ hbr)).1.2.2.2)
   |(go_simp;go_at_call 216;refine(RO _ _ _ (lM RV)).mono ?_;rintro e wr ⟨rfl,Rf⟩;have hbr:Below W.heap.size W wr:=ah hbr Rf;have ky:=(bT (HC.out _ hbr)).1.2.2.2;have kz:=(bT (HC.out _ (hbr.alloc hbr.size (.cells #[.int .i64 (b:Int),.int .i64 x] 291)))).1.2.2.2)
   |(refine step_append_lies _ (by rfl) _ _ _ (by rfl) w3.heap.size 291 i0 _ 2 16 Tryz.underlying64 hi hz0 hz1 hz2 rfl (by omega) (.slice a4 ws.length c4) ws.length ((fl ws).map (Value.int .i64)) (by rfl) ((own_below Pn.out hbr).alloc _) ⟨wr.heap.size,0,none⟩ 1 1 [.int .i64 (b:Int),.int .i64 x] (by rfl) (by rfl) (World.news_of_block (cs:=#[.int .i64 (b:Int),.int .i64 x]) (t:=291) (fr:=(0,0)) (heap_alloc_new wr _)) (ints_oneCell .i64 [(b:Int),x]) (by omega) (by unfold maxLen;omega) (by omega) (by have:=hbr.size;simp;omega) (wr.heap.size+1) (by simp) ?_;intro g cap w8 hown hgrow hat hlt;have kk:=bT (aT hgrow (HC.out _ (hbr.alloc hbr.size _)) (fun e=>by have:=(hlt4.out _ e.symm).2;omega));have kc:=kk.1.2.2.2;have kf:=kk.2.2.2.2))
 all_goals (
  have dV:=hbr.alloc hbr.size (.cells #[.int .i64 (b:Int),.int .i64 x] 291)
  have hnr:some w.heap.size≠(Value.slice a4 ws.length c4).ownBlock:=fun e=>by have:=(hlt4.out _ e.symm).1;omega
  have PK:some w4.heap.size≠(Value.slice a4 ws.length c4).ownBlock:=fun e=>by have:=(hlt4.out _ e.symm).2;omega
  have r8:=aT hgrow ((dV.block w.heap.size (by omega)).trans Pq.out) hnr
  have t8:=aT hgrow (HC.out _ dV) PK
  have rD:Below w.heap.size w w8:=(ah Bq.out dV).grown hgrow (by have:=dV.size;omega) (fun k hk=>by have:=(hlt4.out k hk).1;omega)
  have hg4:g≠w4.heap.size:=by
   rcases hat with hh | hh
   ·have:=(hlt4.out _ hh).2;omega
   ·have:=hbr.size;omega
  have IU:w8.ownsRow w3.heap.size 291 2 (.slice (some ⟨g,0,none⟩) (ws.length+1) cap) (ws.length+1) ((fl (ws++[((b:Int),x)])).map (Value.int .i64)):=by
   rw[sS,List.map_append];exact hown
  obtain⟨W9,Bz⟩:∃W9,W9=w8.setCell ⟨w4.heap.size,3,none⟩ (.slice (some ⟨g,0,none⟩) (ws.length+1) cap):=⟨_,rfl⟩
  have IV:W9.ownsRow w3.heap.size 291 2 (.slice (some ⟨g,0,none⟩) (ws.length+1) cap) (ws.length+1) ((fl (ws++[((b:Int),x)])).map (Value.int .i64)):=by
   rw[Bz];exact ownsRow_setCell_other IU (by simp[Value.ownBlock];exact hg4) _
  have G5:Below w.heap.size w W9:=by rw[Bz];exact rD.setCell (by show w.heap.size<=w4.heap.size;omega) _
  obtain⟨⟨p0,p1,p2,p3⟩,⟨f0,f1,f2,f3⟩⟩:=bT ((heap_setCell_other w8 ⟨w4.heap.size,3,none⟩ w.heap.size (.slice (some ⟨g,0,none⟩) (ws.length+1) cap) (by simp;omega)).trans r8)
  obtain⟨⟨q0,q1,q2,q3⟩,-⟩:=bT (rW t8 (.slice (some ⟨g,0,none⟩) (ws.length+1) cap))
  rw[←Bz]at p0 p1 p2 p3 f0 f1 f2 f3 q0 q1 q2 q3 ⊢
  have wH:w.heap.size<w3.heap.size:=by omega
  clear hown hgrow hat hlt kk kc kf dV hnr PK r8 t8 rD hg4 IU Bz hbr k3 SO RO HC Pq G6 hBW Pn hlt4 Bq
  go_wp2
  exact bodyPost_ret (v:= .agg #[.bool true,.int .i64 k,.int .i64 y,.slice (some ⟨g,0,none⟩) (ws.length+1) cap]) (by simp[results,Tryz.results156,go_sem, *]) rfl ⟨_,_,by rw[List.length_append];rfl,aS (by rw[List.length_append];exact ownsRow_setCell_below (ownsRow_setCell_below (ownsRow_setCell_below (ownsRow_setCell_below IV wH _) wH _) wH _) wH _) (Nat.le_of_lt wH),(((G5.setCell (Nat.le_refl _) _).setCell (Nat.le_refl _) _).setCell (Nat.le_refl _) _).setCell (Nat.le_refl _) _⟩)
theorem Fv{l:Prl}{b:Nat}{key k y x:Int}{ws:Prl}(hs:Sls l)(h2:2<=l.length)(hb:FB l b)(hk:0<=key/\key<=255)(hz:aV key b=1)(hw:ws.length<=1000)
  (r:Dk (sd l b 1) key k y ws) (o:Dj (sd l b 0) x):Dk l key k y (ws++[((b:Int),x)]):=by
 refine⟨fun v w hv=> ?_⟩
 obtain⟨i0,hi,hz0,hz1,hz2⟩:=info_parts Tryz.H7
 have hF:=fun w' h=>uF v l b w' (hv.below h) hs h2 hb
 have hS:=fun s w' h=>uH v l b s w' (hv.below h) hs hb.le
 have hBt:=fun w=>oU key b w hb.le hk
 rw[hz]at hBt
 have hn:=hs.len
 obtain⟨ad,c,rfl⟩:=hv.shape
 have TR:=fun a c w h=>r.c (.slice a (sd l b 1).length c) w h
 have RO:=fun a c w h=>o.c (.slice a (sd l b 0).length c) w h
 have SZ:=hS 1
 have SO:=hS 0
 generalize sd l b 1=m0 at *
 generalize sd l b 0=m1 at *
 generalize l.length=n at *
 have Ej:((n:Int)==1)=false:=by simp;omega
 clear hv hs hS r o hb hz
 go_enter Tryz.func156,Tryz.ntmps156
 go_wp2_with fail
 refine(hF _ (aj _)).mono ?_
 rintro e w1 ⟨rfl,hb1⟩
 have hB1:=ah (aj _) hb1
 clear hF
 go_wp2_with fail
 refine(hBt _).mono ?_
 rintro e w2 ⟨rfl,rfl⟩
 clear hBt
 go_wp2_with fail
 refine(SZ _ hB1).mono ?_
 rintro e w3 ⟨a3,c3,rfl,nT,hb3⟩
 have hB3:=ah hB1 hb3
 have hr3:=ah hb1 hb3
 clear SZ hB1 hb1 hb3
 go_wp2_with fail
 refine(TR _ _ _ (lM nT)).mono ?_
 rintro e w4 ⟨a4,c4,rfl,own4,hb4⟩
 have hB4:=ah hB3 hb4
 have hr4:=ah hr3 hb4
 have hsz3:w.heap.size+1<=w3.heap.size:=by have:=hr3.size;simpa using this
 have Hz:w3.heap.size<=w4.heap.size:=hb4.size
 clear TR nT hb4 hr3 hB3
 obtain⟨W,hW⟩:∃W,W=w4.alloc (.cells #[.bool true,.int .i64 k,.int .i64 y,.slice a4 ws.length c4] 66):=⟨_,rfl⟩
 have HW:Hid _:=hW.symm
 have hBW:Hid (Below w4.heap.size w4 W):=(by rw[hW];exact aj _:Below w4.heap.size w4 W)
 have G6:Hid (W.heap[w4.heap.size]? = some (.cells #[.bool true,.int .i64 k,.int .i64 y,.slice a4 ws.length c4] 66)):=(by rw[hW];exact heap_alloc_new _ _:W.heap[w4.heap.size]? = some (.cells #[.bool true,.int .i64 k,.int .i64 y,.slice a4 ws.length c4] 66))
 have Pq:Hid (W.heap[w.heap.size]? = some (.cells #[.bool false,.int .i64 0,.int .i64 0,.slice none 0 0] 66)):=((hBW.out.block w.heap.size (by omega)).trans ((hr4.block w.heap.size (by simp)).trans (heap_alloc_new w _)))
 have hszW:w4.heap.size<W.heap.size:=by rw[hW];simp
 have Bq:Hid (Below w.heap.size w W):=ah hB4 hBW.out
 have Pn:Hid (W.ownsRow w3.heap.size 291 2 (.slice a4 ws.length c4) ws.length ((fl ws).map (Value.int .i64))):=own_below own4 hBW.out
 have hlt4:Hid (∀k,(Value.slice a4 ws.length c4).ownBlock=some k->w3.heap.size<=k/\k<w4.heap.size):=fun k hk=>own4.lt k hk
 clear hW hr4 hB4 own4
 go_wp2
 rw[HW.out]
 have hbr:=Below.refl W.heap.size W
 have HC:Hid (∀w',Below W.heap.size W w'->w'.heap[w4.heap.size]? = some (.cells #[.bool true,.int .i64 k,.int .i64 y,.slice a4 ws.length c4] 66)):=fun w' h=>(h.block w4.heap.size hszW).trans G6.out
 have k3:=(bT G6.out).1.2.2.2
 have hw1:IntKind.i64.wrap 0=0:=by rw[IntKind.wrap_i64];decide
 go_region_law (first
   |(go_simp;go_at_call 215;refine(SO _ (by first | exact ah Bq.out hbr | exact(ah Bq.out hbr).drew)).mono ?_;rintro e wq ⟨aq,cq,rfl,RV,hbq⟩;have hbr:Below W.heap.size W wq:=(by first | exact ah hbr hbq | exact ah hbr.drew hbq);have kx:=(bT (HC.out _ hbr)).1.2.2.2)
   |(go_simp;go_at_call 216;refine(RO _ _ _ (lM RV)).mono ?_;rintro e wr ⟨rfl,Rf⟩;have hbr:Below W.heap.size W wr:=ah hbr Rf;have ky:=(bT (HC.out _ hbr)).1.2.2.2;have kz:=(bT (HC.out _ (hbr.alloc hbr.size (.cells #[.int .i64 (b:Int),.int .i64 x] 291)))).1.2.2.2)
   |(refine step_append_lies _ (by rfl) _ _ _ (by rfl) w3.heap.size 291 i0 _ 2 16 Tryz.underlying64 hi hz0 hz1 hz2 rfl (by omega) (.slice a4 ws.length c4) ws.length ((fl ws).map (Value.int .i64)) (by rfl) ((own_below Pn.out hbr).alloc _) ⟨wr.heap.size,0,none⟩ 1 1 [.int .i64 (b:Int),.int .i64 x] (by rfl) (by rfl) (World.news_of_block (cs:=#[.int .i64 (b:Int),.int .i64 x]) (t:=291) (fr:=(0,0)) (heap_alloc_new wr _)) (ints_oneCell .i64 [(b:Int),x]) (by omega) (by unfold maxLen;omega) (by omega) (by have:=hbr.size;simp;omega) (wr.heap.size+1) (by simp) ?_;intro g cap w8 hown hgrow hat hlt;have kk:=bT (aT hgrow (HC.out _ (hbr.alloc hbr.size _)) (fun e=>by have:=(hlt4.out _ e.symm).2;omega));have kc:=kk.1.2.2.2;have kf:=kk.2.2.2.2))
 all_goals (
  have dV:=hbr.alloc hbr.size (.cells #[.int .i64 (b:Int),.int .i64 x] 291)
  have hnr:some w.heap.size≠(Value.slice a4 ws.length c4).ownBlock:=fun e=>by have:=(hlt4.out _ e.symm).1;omega
  have PK:some w4.heap.size≠(Value.slice a4 ws.length c4).ownBlock:=fun e=>by have:=(hlt4.out _ e.symm).2;omega
  have r8:=aT hgrow ((dV.block w.heap.size (by omega)).trans Pq.out) hnr
  have t8:=aT hgrow (HC.out _ dV) PK
  have rD:Below w.heap.size w w8:=(ah Bq.out dV).grown hgrow (by have:=dV.size;omega) (fun k hk=>by have:=(hlt4.out k hk).1;omega)
  have hg4:g≠w4.heap.size:=by
   rcases hat with hh | hh
   ·have:=(hlt4.out _ hh).2;omega
   ·have:=hbr.size;omega
  have IU:w8.ownsRow w3.heap.size 291 2 (.slice (some ⟨g,0,none⟩) (ws.length+1) cap) (ws.length+1) ((fl (ws++[((b:Int),x)])).map (Value.int .i64)):=by
   rw[sS,List.map_append];exact hown
  obtain⟨W9,Bz⟩:∃W9,W9=w8.setCell ⟨w4.heap.size,3,none⟩ (.slice (some ⟨g,0,none⟩) (ws.length+1) cap):=⟨_,rfl⟩
  have IV:W9.ownsRow w3.heap.size 291 2 (.slice (some ⟨g,0,none⟩) (ws.length+1) cap) (ws.length+1) ((fl (ws++[((b:Int),x)])).map (Value.int .i64)):=by
   rw[Bz];exact ownsRow_setCell_other IU (by simp[Value.ownBlock];exact hg4) _
  have G5:Below w.heap.size w W9:=by rw[Bz];exact rD.setCell (by show w.heap.size<=w4.heap.size;omega) _
  obtain⟨⟨p0,p1,p2,p3⟩,⟨f0,f1,f2,f3⟩⟩:=bT ((heap_setCell_other w8 ⟨w4.heap.size,3,none⟩ w.heap.size (.slice (some ⟨g,0,none⟩) (ws.length+1) cap) (by simp;omega)).trans r8)
  obtain⟨⟨q0,q1,q2,q3⟩,-⟩:=bT (rW t8 (.slice (some ⟨g,0,none⟩) (ws.length+1) cap))
  rw[←Bz]at p0 p1 p2 p3 f0 f1 f2 f3 q0 q1 q2 q3 ⊢
  have wH:w.heap.size<w3.heap.size:=by omega
  clear hown hgrow hat hlt kk kc kf dV hnr PK r8 t8 rD hg4 IU Bz hbr k3 SO RO HC Pq G6 hBW Pn hlt4 Bq
  go_wp2
  exact bodyPost_ret (v:= .agg #[.bool true,.int .i64 k,.int .i64 y,.slice (some ⟨g,0,none⟩) (ws.length+1) cap]) (by simp[results,Tryz.results156,go_sem, *]) rfl ⟨_,_,by rw[List.length_append];rfl,aS (by rw[List.length_append];exact ownsRow_setCell_below (ownsRow_setCell_below (ownsRow_setCell_below (ownsRow_setCell_below IV wH _) wH _) wH _) wH _) (Nat.le_of_lt wH),(((G5.setCell (Nat.le_refl _) _).setCell (Nat.le_refl _) _).setCell (Nat.le_refl _) _).setCell (Nat.le_refl _) _⟩)
theorem KE{l:Prl}{t:Tr}(h:bG l t)(key:Int)(hk:0<=key/\key<=255):Sls l->0<l.length->Dk l key (t.near key).1 (t.near key).2 (t.way key):=by
 induction h using bG.ind with
 | none=>intro _ h0;simp at h0
 | leaf k y=>intro _ _;exact Iq key k y
 | fork h2 hb h3 h4 ih1 ih2=>
  intro hs hz0
  rename_i l b L R
  have e3:=h3.forks
  have e4:=h4.forks
  have l3:=(iy hs b 0).len
  have l4:=(iy hs b 1).len
  have w3:=L.D8 key
  have w4:=R.D8 key
  rcases nP key b with hz | hz
  ·have e1:(Tr.fork b L R).near key=L.near key:=by rw[Tr.wZ,if_pos hz]
   have e2:(Tr.fork b L R).way key=L.way key++[((b:Int),R.sum)]:=by rw[Tr.AX,if_pos hz]
   rw[e1,e2]
   exact Fq hs h2 hb hk hz (by omega) (ih1 (iy hs b 0) (lV hb (by omega) (Or.inl rfl))) (uG h4 (iy hs b 1))
  ·have e1:(Tr.fork b L R).near key=R.near key:=by rw[Tr.wZ,if_neg (by rw[hz];decide)]
   have e2:(Tr.fork b L R).way key=R.way key++[((b:Int),L.sum)]:=by rw[Tr.AX,if_neg (by rw[hz];decide)]
   rw[e1,e2]
   exact Fv hs h2 hb hk hz (by omega) (ih2 (iy hs b 1) (lV hb (by omega) (Or.inr rfl))) (uG h3 (iy hs b 0))
theorem bG.end{l:Prl}{t:Tr}(h:bG l t)(key:Int)(h0:0<l.length):t.last key = .leaf (t.near key).1 (t.near key).2:=by
 induction h using bG.ind with
 | none=>simp at h0
 | leaf k v=>rfl
 | fork h2 hb h3 h4 ih1 ih2=>
  rename_i l b L R
  show(if aV key b=0 then L.last key else R.last key) = .leaf (if aV key b=0 then L.near key else R.near key).1 (if aV key b=0 then L.near key else R.near key).2
  split
  ·exact ih1 (lV hb h0 (Or.inl rfl))
  ·exact ih2 (lV hb h0 (Or.inr rfl))
theorem Ba{w:World}{b:Nat}{x0 x1 x2 x3 x4:Value}{t:TypeId}(h:w.heap[b]? = some (.cells #[x0,x1,x2,x3,x4] t (0,0))):(w.cell? ⟨b,0,none⟩=some x0/\w.cell? ⟨b,1,none⟩=some x1/\w.cell? ⟨b,2,none⟩=some x2/\w.cell? ⟨b,3,none⟩=some x3/\w.cell? ⟨b,4,none⟩=some x4)/\(w.frozen? ⟨b,0,none⟩=false/\w.frozen? ⟨b,1,none⟩=false/\w.frozen? ⟨b,2,none⟩=false/\w.frozen? ⟨b,3,none⟩=false/\w.frozen? ⟨b,4,none⟩=false):=by
 refine⟨⟨?_, ?_, ?_, ?_, ?_⟩,⟨?_, ?_, ?_, ?_, ?_⟩⟩
 ·unfold World.cell?;rw[h];rfl
 ·unfold World.cell?;rw[h];rfl
 ·unfold World.cell?;rw[h];rfl
 ·unfold World.cell?;rw[h];rfl
 ·unfold World.cell?;rw[h];rfl
 ·unfold World.frozen?;rw[h];rfl
 ·unfold World.frozen?;rw[h];rfl
 ·unfold World.frozen?;rw[h];rfl
 ·unfold World.frozen?;rw[h];rfl
 ·unfold World.frozen?;rw[h];rfl
def FU(w:World)(code:Int)(x:Bool)(k y:Int)(ws:Prl)(e:Ending)(w':World):Prop:=
 ∃a c,e = .returned (.agg #[.int .i64 code,.bool x,.int .i64 k,.int .i64 y,.slice a ws.length c])/\Below w.heap.size w w'/\w'.ownsRow w.heap.size 291 2 (.slice a ws.length c) ws.length ((fl ws).map (Value.int .i64))
theorem Ru(v:Value)(l:Prl)(key:Int)(w:World)(hv:Prs w v l)(h0:slF l=0)(hk:inB key 0 255=false):
  Calls Tryz.prog 220 #[v,.int .i64 key] w fun e w'=>FU w 3 false 0 0 [] e w':=by
 have hF:=fun w' h=>dX v l w' (hv.below h) (by have:=(kQ h0).len;omega)
 have hK:=fun w=>oQ key w
 rw[h0]at hF
 rw[hk]at hK
 obtain⟨ad,c,rfl⟩:=hv.shape
 generalize l.length=n at *
 clear hv h0
 go_enter Tryz.func220,Tryz.ntmps220
 go_wp2_with fail
 refine(hF _ (aA _ _)).mono ?_
 rintro e w1 ⟨rfl,hb1⟩
 have hr:=heap_alloc_new (w.alloc (.cells #[.int .i64 key] 2)) (.cells #[.int .i64 0,.bool false,.int .i64 0,.int .i64 0,.slice none 0 0] 296)
 rw[World.size_alloc]at hr
 obtain⟨⟨g0,g1,g2,g3,g4⟩,⟨f0,f1,f2,f3,f4⟩⟩:=Ba ((hb1.block (w.heap.size+1) (by simp)).trans hr)
 have hbx:w1.cell? ⟨w.heap.size,0,none⟩=some (.int .i64 key):=by
  have h1:=(hb1.block w.heap.size (by simp;omega)).trans (((aj _).block w.heap.size (by simp)).trans (heap_alloc_new w (.cells #[.int .i64 key] 2)))
  unfold World.cell?;rw[h1];rfl
 have hB1:=ah (aA _ _) hb1
 clear hF hb1 hr
 go_wp2_with fail
 refine(hK _).mono ?_
 rintro e w2 ⟨rfl,rfl⟩
 clear hK
 go_wp2
 exact bodyPost_ret (v:= .agg #[.int .i64 3,.bool false,.int .i64 0,.int .i64 0,.slice none 0 0]) (by simp[results,Tryz.results220,go_sem, *]) rfl ⟨none,0,rfl,((((hB1.setCell (Nat.le_succ _) _).setCell (Nat.le_succ _) _).setCell (Nat.le_succ _) _).setCell (Nat.le_succ _) _).setCell (Nat.le_succ _) _,World.ownsRow_nil _ _ _ _⟩
theorem yD(v:Value)(key:Int)(w:World)(hv:Prs w v [])(ho:Okv v)(hk:inB key 0 255=true):
  Calls Tryz.prog 220 #[v,.int .i64 key] w fun e w'=>FU w 0 false 0 0 [] e w':=by
 have hs:Sls []:=⟨by simp,List.Pairwise.nil,fun p hp=>by cases hp⟩
 have hF:=fun w' h=>dX v [] w' (hv.below h) (by simp)
 have hT:=fun w' h=>uX .none v w' hs (hv.below h) ho
 have hY:=fun w=>EO .none key w trivial (iw hk) (Nat.zero_le _)
 have hK:=fun w=>oQ key w
 have ha:=Gw (.agg #[])
 rw[UY hs]at hF
 rw[hk]at hK
 simp only[Tr.AV]at hT hY
 obtain⟨ad,c,rfl⟩:=hv.shape
 have e0:([]:Prl).length=0:=rfl
 rw[e0]at hF hT ⊢
 clear hv hk hs ho e0
 go_enter Tryz.func220,Tryz.ntmps220
 go_wp2_with fail
 refine(hF _ (aA _ _)).mono ?_
 rintro e w1 ⟨rfl,hb1⟩
 have hr:=heap_alloc_new (w.alloc (.cells #[.int .i64 key] 2)) (.cells #[.int .i64 0,.bool false,.int .i64 0,.int .i64 0,.slice none 0 0] 296)
 rw[World.size_alloc]at hr
 have HR1:Hid (w1.heap[w.heap.size+1]? = some (.cells #[.int .i64 0,.bool false,.int .i64 0,.int .i64 0,.slice none 0 0] 296)):=((hb1.block (w.heap.size+1) (by simp)).trans hr)
 have Vr:Hid (w1.heap[w.heap.size]? = some (.cells #[.int .i64 key] 2)):=(hb1.block w.heap.size (by simp;omega)).trans (((aj _).block w.heap.size (by simp)).trans (heap_alloc_new w (.cells #[.int .i64 key] 2)))
 have hbx:w1.cell? ⟨w.heap.size,0,none⟩=some (.int .i64 key):=by unfold World.cell?;rw[Vr.out];rfl
 have hB1:Hid (Below w.heap.size w w1):=ah (aA _ _) hb1
 have hsz:w.heap.size+1<w1.heap.size:=(Array.getElem?_eq_some_iff.1 HR1.out).1
 clear hF hb1 hr
 go_wp2_with fail
 refine(hK _).mono ?_
 rintro e w2 ⟨rfl,rfl⟩
 clear hK
 have hbr:=Below.refl w2.heap.size w2
 have HC:Hid (∀w',Below w2.heap.size w2 w'->w'.cell? ⟨w.heap.size,0,none⟩=some (.int .i64 key)):=fun w' h=>(h.cell (p:=⟨w.heap.size,0,none⟩) (by show w.heap.size<w2.heap.size;omega)).trans hbx
 go_wp2
 go_region_held3 (fun w'=>w'.cell? ⟨w.heap.size,0,none⟩=some (.int .i64 key))
  (first | exact hbx | exact HC.out _ hbr | exact HC.out _ hbr.drew)
  (first
   |(go_at_call 269;refine(hT _ (by first | exact ah hB1.out hbr | exact(ah hB1.out hbr).drew)).mono ?_;rintro e wq ⟨rfl,hbq⟩;have hbr:Below w2.heap.size w2 wq:=(by first | exact ah hbr hbq | exact ah hbr.drew hbq))
   |(go_at_call 268;refine(hY _).mono ?_;rintro e wy ⟨hby,vv,rfl,-⟩;have hbr:Below w2.heap.size w2 wy:=ah hbr hby))
 have hb5:=hbr.alloc hbr.size (.cells #[.int .i64 0,.int .i64 0] 351)
 obtain⟨⟨g0,g1,g2,g3,g4⟩,⟨f0,f1,f2,f3,f4⟩⟩:=Ba ((hb5.block (w.heap.size+1) hsz).trans HR1.out)
 have oL:=ah hB1.out hb5
 have e1:(Tr.last key .none).val = .iface 389 (.agg #[]):=rfl
 rw[e1]
 clear hY hbr hb5 e1 hbx
 go_wp2
 exact bodyPost_ret (v:= .agg #[.int .i64 0,.bool false,.int .i64 0,.int .i64 0,.slice none 0 0]) (by simp[results,Tryz.results220,go_sem, *]) rfl ⟨none,0,rfl,((((oL.setCell (Nat.le_succ _) _).setCell (Nat.le_succ _) _).setCell (Nat.le_succ _) _).setCell (Nat.le_succ _) _).setCell (Nat.le_succ _) _,World.ownsRow_nil _ _ _ _⟩
end U
end Go.Proofs.YtmnfokgllcdiiaaGreat
