/- Joined: what the texts behind it need. -/
import Derived.Test.YtmmcgjacojgeaaaGreatKBC
import Derived.Test.YtmmcgjacojgeaaaGreatShelfK
import Derived.RangeFuncBox
import Derived.Test.YtmmcgjacojgeaaaGreatKBG
import Derived.Test.YtmmcgjacojgeaaaGreatKBB
set_option maxRecDepth 100000
set_option maxHeartbeats 4000000
namespace Go.Proofs.YtmmcgjacojgeaaaGreat
open Go.RowKit Go.Maps Go.Sort Go.Shelf
namespace U
theorem sortsA(m:Nat):AnyZI.SortsIn Tryz.prog Tryz.sortedA_ren Fence.wide m:=
 ⟨fun blk off cap ss W hH hblk hsz=>callsIn_wide.2 (AnyM.slices_Sort_int Tryz.sortA blk off cap ss W hH hblk hsz),
  fun p cap W=>callsIn_wide.2 (AnyM.slices_Sort_int_none Tryz.sortA p cap W)⟩
theorem PV(mb:Option Nat)(W:World):Calls Tryz.prog 124 #[.map mb] W fun e w'=>e = .returned (.func (.func 164) #[] #[.pointer (some ⟨W.heap.size,0,none⟩)])/\w'=W.alloc (.cells #[.map mb] 126):=
 (callsIn_wide (n:=5)).1 (AnyZI.keys_in Tryz.keysA Fence.wide 5 trivial rfl mb W)
theorem JV(b nn:Nat)(D0:DataW Unit)(w:World)(hown:w.ownsMap Tryz.prog 2 zW b nn D0)(hmax:Maps.size D0<=1000):
  Calls Tryz.prog 123 #[.func (.func 164) #[] #[.pointer (some ⟨w.heap.size,0,none⟩)]] (w.alloc (.cells #[.map (some b)] 126)) fun e w'=>∃(v:Value)(ss:List Int),e = .returned v/\ss.Perm (intKeys D0)/\
   w'.ownsRow w.heap.size 2 1 v ss.length ((ss.mergeSort (fun x y=>decide (x<=y))).map encZ)/\Below w.heap.size w w':=by
 refine(callsIn_wide (n:=5)).1 ?_
 have hbl:=hown.lt
 have hseq:SeqGives Fence.wide 2 Tryz.prog 164 #[.pointer (some ⟨w.heap.size,0,none⟩)] encZ (fun ss=>ss.Perm (intKeys D0)) (Maps.size D0) (w.alloc (.cells #[.map (some b)] 126)):=
  AnyZI.keys_gives (ρ:=Tryz.keysA_ren) {Tryz.keysA with} Fence.wide _ trivial rfl (by omega) w.heap.size b nn D0 _ (by simp) (by simp) (by
   obtain⟨es,clock,hb,Ft,hs,hD⟩:=hown
   exact⟨es,clock,(Below.heap_alloc _ _ b hbl).trans hb,Ft,hs,hD⟩)
 have cS:=AnyZI.sorted_in Tryz.sortedA Fence.wide 5 trivial trivial trivial trivial rfl (by omega) (sortsA _) (enters_of Tryz.func163 (by kernel_rfl) rfl) 164 #[.pointer (some ⟨w.heap.size,0,none⟩)] trivial (enters_of Tryz.func164 (by kernel_rfl) rfl) _ _ (by unfold maxLen;omega) (by omega) _ hseq
 change CallsIn _ _ Tryz.prog 123 _ _ _ at cS
 refine cS.mono ?_
 rintro e w' ⟨v,ss,rfl,hS,hrow,-,hb⟩
 exact⟨v,ss,rfl,hS,ownsRow_base_a hrow (by simp),((Below.refl _ w).alloc (Nat.le_refl _) _).trans (hb.mono (by simp))⟩
theorem Ig{w:World}{b n:Nat}{D:DataW Unit}(hown:w.ownsMap Tryz.prog 2 zW b n D):(intKeys D).Nodup/\(∀x,x∈intKeys D↔Go.Maps.has D (.int .i64 x)=true)/\(intKeys D).length=Maps.size D:=by
 obtain⟨es,hD,hpw,_⟩:=hown.entries Tryz.H9
 obtain⟨es',hD',hko⟩:=hown.keysOf
 obtain rfl:es=es':=by rw[hD]at hD';simpa using hD'
 subst hD
 have hk:∀p∈es,∃x,p.1=Lit.int .i64 x:=fun p hp=>by
  obtain⟨v,hv⟩:=hko p hp
  obtain⟨x,_,hx,_⟩:=Maps.keyOf_i64 Tryz.underlying2 hv
  exact⟨x,hx⟩
 refine⟨?_,fun x=> ?_, ?_⟩
 ·show(es.map fun p=>_root_.Go.intOf p.1).Nodup
  refine List.pairwise_map.2 (hpw.imp_of_mem fun {p q} hp' hq' hne e=>hne ?_)
  obtain⟨a,ha⟩:=hk p hp'
  obtain⟨b,hb⟩:=hk q hq'
  rw[ha,hb]at e ⊢
  exact congrArg _ e
 ·rw[has_eq,List.any_eq_true]
  show x∈es.map (fun p=>_root_.Go.intOf p.1)↔_
  rw[List.mem_map]
  constructor
  ·rintro⟨p,hp',rfl⟩
   obtain⟨a,ha⟩:=hk p hp'
   exact⟨p,hp',by rw[ha];simp[Lit.sameKey,_root_.Go.intOf]⟩
  ·rintro⟨p,hp',hs⟩
   obtain⟨a,ha⟩:=hk p hp'
   rw[ha]at hs
   exact⟨p,hp',by rw[ha];simpa [Lit.sameKey,_root_.Go.intOf]using hs⟩
 ·show(es.map fun p=>_root_.Go.intOf p.1).length=es.length
  rw[List.length_map]
theorem bT.len{w:World}{b n:Nat}{g:Int->Option Rc}(h:bT w b n g){ks:List Int}(hnd:ks.Nodup)(hk:∀x,x∈ks↔(g x).isSome=true)(ty:TypeId):
  (Builtin.len_ #[126] ty #[.map (some b)]).run Tryz.prog w = .ok (.int .i64 (ks.length:Int)) w:=by
 obtain⟨D,h1,h2,h3⟩:=h.ex
 obtain⟨k1,k2,k3⟩:=Ig h1
 have hp:ks.Perm (intKeys D):=(List.perm_ext_iff_of_nodup hnd k1).2 fun x=>by rw[hk,k2,h2]
 rw[hp.length_eq,k3]
 exact h1.len Tryz.underlying126 ty
theorem bT.drop{w:World}{b n:Nat}{g:Int->Option Rc}(h:bT w b n g){x:Int}(hx:0<=x/\x<256)(ty:TypeId):
  ∃w',(Builtin.delete_ #[126,2] ty #[.map (some b),.int .i64 x]).run Tryz.prog w = .ok (.tuple #[]) w'/\bT w' b n (fun y=>if y=x then none else g y)/\w.grownBy w' (some b):=by
 obtain⟨D,h1,h2,h3⟩:=h.ex
 obtain⟨w',hrun,ho,hg⟩:=h1.drop Tryz.H9 Tryz.underlying126 (xW hx) ty
 refine⟨w',hrun,⟨_,ho,fun y=> ?_,fun y s hs z=> ?_⟩,hg.grown⟩
 ·by_cases e:y=x
  ·subst e
   rw[if_pos rfl,has_del_same]
   rfl
  ·rw[if_neg e,has_del_other (Bg e),h2]
 ·by_cases e:y=x
  ·rw[if_pos e]at hs;cases hs
  ·rw[if_neg e]at hs
   rw[atKey_del_other (Bg e)]
   exact h3 y s hs z
theorem bT.look1{w:World}{b n:Nat}{g:Int->Option Rc}(h:bT w b n g){x:Int}(hx:0<=x/\x<256):
  (Instr.lookup 126 (.map (some b)) (.int .i64 x) false).run Tryz.prog w = .ok (nS (g x)) w:=by
 obtain⟨D,h1,h2,h3⟩:=h.ex
 obtain⟨v,ps,hrun,hv⟩:=h1.lookup Tryz.H9 Tryz.underlying126 (Tryz.QU w) (Dh rcZ) (xW hx)
 rw[hrun]
 obtain⟨r,rfl,hr⟩:=IE hv
 have hd:D.atKey (.int .i64 x) (qG rcZ)=qG r:=congrArg Prod.fst hr
 rcases hg:g x with _ | s
 ·have hn:Go.Maps.has D (.int .i64 x)=false:=by rw[h2,hg];rfl
  rw[atKey_of_not_has hn]at hd
  rw[←uf hd]
  rfl
 ·rw[h3 x s hg]at hd
  rw[←uf hd]
  rfl
theorem QF{ss:List Int}(h:ss.Nodup):(ss.mergeSort (fun x y=>decide (x<=y))).Pairwise (· < ·):=by
 have tr:∀a b c:Int,decide (a<=b)=true->decide (b<=c)=true->decide (a<=c)=true:=fun a b c h1 h2=>by simp only[decide_eq_true_eq]at *;exact Int.le_trans h1 h2
 have to:∀a b:Int,(decide (a<=b)||decide (b<=a))=true:=fun a b=>by simp only[Bool.or_eq_true,decide_eq_true_eq];exact Int.le_total a b
 have h1:=List.pairwise_mergeSort tr to ss
 have h2:(ss.mergeSort (fun x y=>decide (x<=y))).Nodup:=(List.mergeSort_perm ss _).nodup_iff.2 h
 refine(List.pairwise_and_iff.2 ⟨h1,h2⟩).imp fun {a b} hab=> ?_
 have e1:a<=b:=by simpa using hab.1
 have e2:a≠b:=hab.2
 omega
theorem N9(b nn:Nat)(g:Int->Option Rc)(w:World)(hM:bT w b nn g)(hn:nn<=1000):
  Calls Tryz.prog 123 #[.func (.func 164) #[] #[.pointer (some ⟨w.heap.size,0,none⟩)]] (w.alloc (.cells #[.map (some b)] 126)) fun e w'=>∃(v:Value)(ks:List Int),e = .returned v/\ks.Pairwise (· < ·)/\(∀x,x∈ks↔(g x).isSome=true)/\ks.length<=nn/\
   w'.ownsRow w.heap.size 2 1 v ks.length (ks.map (Value.int .i64))/\Below w.heap.size w w':=by
 obtain⟨D,h1,h2,h3⟩:=hM.ex
 obtain⟨k1,k2,k3⟩:=Ig h1
 have hz:=h1.size_le
 refine(JV b nn D w h1 (by omega)).mono ?_
 rintro e w' ⟨v,ss,rfl,hp,ho,hb⟩
 have hl:(ss.mergeSort (fun x y=>decide (x<=y))).length=ss.length:=(List.mergeSort_perm ss _).length_eq
 refine⟨v,ss.mergeSort (fun x y=>decide (x<=y)),rfl,QF (hp.nodup_iff.2 k1),fun x=> ?_,by rw[hl,hp.length_eq];omega,by rw[hl];exact ho,hb⟩
 rw[(List.mergeSort_perm ss _).mem_iff,hp.mem_iff,k2,h2]
end U
end Go.Proofs.YtmmcgjacojgeaaaGreat
namespace Go.Proofs.YtmmcgjacojgeaaaGreat
open Go.RowKit Go.Maps
namespace U
def dB(g:Int->Option Rc)(ks:List Int)(k:Nat):Rcl:=(ks.take k).map fun x=>(g x).getD rcZ
theorem Bz(g:Int->Option Rc){ks:List Int}{k:Nat}(h:k<=ks.length):(dB g ks k).length=k:=by unfold dB;rw[List.length_map,List.length_take];omega
theorem JQ(g:Int->Option Rc){ks:List Int}{k:Nat}(h:k<ks.length):dB g ks (k+1)=dB g ks k++[(g (ks.getD k 0)).getD rcZ]:=by
 unfold dB
 rw[List.take_add_one,List.getElem?_eq_getElem h,List.map_append,List.getD_eq_getElem?_getD,List.getElem?_eq_getElem h]
 rfl
theorem qg(b nn:Nat)(g:Int->Option Rc)(w:World)(hM:bT w b nn g)(hn:nn<=1000)(hgb:∀x,(g x).isSome=true->0<=x/\x<256):
  Calls Tryz.prog 76 #[.map (some b)] w fun e w'=>∃(ks:List Int)(u:Value),e = .returned (.agg #[u])/\ks.Pairwise (· < ·)/\(∀x,x∈ks↔(g x).isSome=true)/\Below w.heap.size w w'/\w'.ownsRow w.heap.size 46 4 u ks.length (flR (dB g ks ks.length)):=by
 obtain⟨i0,hi,hz0,hz1,hz2⟩:=info_parts Tryz.su
 have hbl:=hM.lt
 obtain⟨W,hW⟩:∃W,W=(w.alloc (.cells #[.slice none 0 0] 36)).alloc (.cells #[.slice none 0 0] 36):=⟨_,rfl⟩
 have HW:Hid _:=hW.symm
 have hB:Below w.heap.size w W:=by rw[hW];exact aN _ _
 have hB0:Boxed W w.heap.size 36 (.slice none 0 0):=by rw[hW];exact heap_alloc_old' _ _ _ (heap_alloc_new w _)
 have hB1:Boxed W (w.heap.size+1) 36 (.slice none 0 0):=by rw[hW];exact bQ w _ _
 have TY:=hM.below hB hbl
 have hS:=N9 b nn g W TY hn
 have hK:=PV (some b) W
 clear hW
 go_enter Tryz.func76,Tryz.ntmps76
 go_wp2_with fail
 rw[HW.out]
 refine hK.mono ?_
 rintro e w1 ⟨rfl,rfl⟩
 clear hK
 go_wp2_with fail
 refine hS.mono ?_
 rintro e w2 ⟨v,ks,rfl,hks,hkm,hkl,ho2,hb2⟩
 obtain⟨a2,c2,rfl⟩:=aW ho2
 have hI:=gq ho2
 have hM2:=TY.below hb2 TY.lt
 have hD0:Boxed w2 w.heap.size 36 (.slice none 0 0):=(hb2.block _ hB0.lt).trans hB0
 have hD1:Boxed w2 (w.heap.size+1) 36 (.slice none 0 0):=(hb2.block _ hB1.lt).trans hB1
 have hBW:=ah hB hb2
 obtain⟨n,hkn⟩:∃n,n=ks.length:=⟨_,rfl⟩
 have HN:Hid (n=ks.length):=hkn
 have HI:Hid (0<n->∃bk off,a2=some ⟨bk,off,none⟩/\W.heap.size<=bk/\bk<w2.heap.size/\∀j,j<n->w2.cell? ⟨bk,off+j,none⟩=some (.int .i64 (ks.getD j 0))):=(fun h0=>by
  rcases ho2.2 with⟨h1,h2⟩ |⟨gk,cap,cur,h1,h2,h3,-⟩
  ·omega
  ·cases h1
   refine⟨gk,0,rfl,h2,(Array.getElem?_eq_some_iff.1 h3).1,fun j hj=> ?_⟩
   rw[Nat.zero_add,ho2.cellAt j (by omega),List.getElem?_map,List.getElem?_eq_getElem (by omega:j<ks.length),List.getD_eq_getElem?_getD,List.getElem?_eq_getElem (by omega:j<ks.length)]
   rfl:0<n->_)
 have HG:Hid (∀j,j<n->0<=ks.getD j 0/\ks.getD j 0<256):=fun j hj=>by
  refine hgb _ ((hkm _).1 ?_)
  rw[List.getD_eq_getElem?_getD,List.getElem?_eq_getElem (by omega:j<ks.length)]
  exact List.getElem_mem _
 have EZ:Hid (∀k,k<n->dB g ks (k+1)=dB g ks k++[(g (ks.getD k 0)).getD rcZ]):=fun k hk=>JQ g (by omega)
 have WL:W.heap.size<=w2.heap.size:=hb2.size
 have hzq:w.heap.size+1<W.heap.size:=hB1.lt
 have hn1:n<=1000:=by omega
 rw[←hkn]
 clear hS hI ho2 hB0 hB1 TY hB hkl hb2 hkn
 go_wp2
 go_loopw [10] (fun i wr=>∃k:Nat,k<=n/\i = .int .i64 k/\Hid (Below (w.heap.size+1) w2 wr)/\Hid (∃a c,Boxed wr (w.heap.size+1) 36 (.slice a k c)/\wr.ownsRow w2.heap.size 46 4 (.slice a k c) k (flR (dB g ks k)))/\Hid (∀bk,bk<w2.heap.size->bk≠w.heap.size+1->wr.heap[bk]? = w2.heap[bk]?)) (fun i _=>n - (intOf i).toNat)
 case atStart=>exact⟨0,Nat.zero_le _,rfl,Below.refl _ _,⟨none,0,hD1,World.ownsRow_nil _ _ _ _⟩,fun _ _ _=>rfl⟩
 case round=>
  obtain⟨k,hk,rfl,hB,ho,hkp⟩:=hrel
  obtain⟨a,c,hbx,hrow⟩:=ho.out
  have hcx:=hbx.cell
  by_cases hkn:k<n
  ·have hki:(k:Int)<(n:Int):=by omega
   obtain⟨bk,off,rfl,hk1,hk2,hkc⟩:=HI.out (by omega)
   have hck:wr.cell? ⟨bk,off+k,none⟩=some (.int .i64 (ks.getD k 0)):=by
    have h:=hkc k hkn
    unfold World.cell? at h ⊢
    rw[hkp.out bk hk2 (by omega)]
    exact h
   have hlk:=(hM2.below hB.out (Nat.lt_succ_of_lt hbl)).look1 (HG.out k hkn)
   have yM:=EZ.out k hkn
   have HS:Hid (dB g ks (k+1)=dB g ks k++[(g (ks.getD k 0)).getD rcZ]):=yM
   unfold nS Rc.val at hlk
   generalize ks.getD k 0=x at *
   generalize (g x).getD rcZ=r at *
   obtain⟨r0,r1,r2,r3⟩:=r
   dsimp only at hlk
   have HB:Hid (Boxed wr (w.heap.size+1) 36 (.slice a k c)):=hbx
   have HR:Hid (wr.ownsRow w2.heap.size 46 4 (.slice a k c) k (flR (dB g ks k))):=hrow
   have Yo:w2.heap.size<=wr.heap.size:=hB.out.size
   have hlt:w.heap.size+1<wr.heap.size:=by omega
   have aa4:bk<wr.heap.size:=by omega
   have WC:b<wr.heap.size:=by omega
   clear hkc hbx hrow yM hM2 HI
   go_wp2_with (at_builtin;refine wpList_append_own _ rfl _ _ 34 rfl w2.heap.size 46 i0 (.agg #[.string ⟨#[]⟩,.int .i64 0,.int .i64 0,.int .i64 0]) 4 40 Tryz.underlying34 hi hz0 hz1 hz2 rfl (by decide) _ _ _ rfl (HR.out.alloc _) ⟨wr.heap.size,0,none⟩ 1 1 [.string r0,.int .i64 r1,.int .i64 r2,.int .i64 r3] rfl rfl (World.news_of_block (heap_alloc_new _ _)) (by simp[Value.oneCell']) (by unfold maxLen;omega) (by omega) (by simp;omega) ?_;intro v' w8 hown' hgrow hnil;obtain⟨g',cap',rfl⟩:=ownsRow_succ hown';obtain⟨hv1,hv2,hr2,YL,hb2'⟩:=HB.out.appended (by decide) (aF HR.out (by omega:w.heap.size+1<=w2.heap.size)) (by omega) (Nat.le_refl _) (aF hown' (by omega:w.heap.size+1<=w2.heap.size)) hgrow;have hc1:=hv1.cell;have hf1:=hv1.frozen;have Zw:Hid ((wr.alloc (.cells #[.string r0,.int .i64 r1,.int .i64 r2,.int .i64 r3] 46)).grownBy w8 (Value.slice a k c).ownBlock):=hgrow;have XJ:Hid (w8.ownsRow w2.heap.size 46 4 (.slice (some ⟨g',0,none⟩) (k+1) cap') (k+1) (flR (dB g ks k)++[.string r0,.int .i64 r1,.int .i64 r2,.int .i64 r3])):=hown';clear hgrow hnil hown' hr2 YL)
   have hE1:Below (w.heap.size+1) w2 (w8.setCell ⟨w.heap.size+1,0,none⟩ (.slice (some ⟨g',0,none⟩) (k+1) cap')):=hB.out.trans hb2'
   have YI:∀j,(Value.slice a k c).ownBlock=some j->w2.heap.size<=j:=fun j hj=>(HR.out.lt j hj).1
   have hgN:w2.heap.size<=g':=(XJ.out.lt g' rfl).1
   have hE2:(w8.setCell ⟨w.heap.size+1,0,none⟩ (.slice (some ⟨g',0,none⟩) (k+1) cap')).ownsRow w2.heap.size 46 4 (.slice (some ⟨g',0,none⟩) (k+1) cap') (k+1) (flR (dB g ks (k+1))):=by
    rw[HS.out,nJ]
    exact ownsRow_setCell_below XJ.out (by show w.heap.size+1<w2.heap.size;omega) _
   have ZW:∀bk,bk<w2.heap.size->bk≠w.heap.size+1->(w8.setCell ⟨w.heap.size+1,0,none⟩ (.slice (some ⟨g',0,none⟩) (k+1) cap')).heap[bk]? = w2.heap[bk]?:=fun bk h1 h2=>by
    rw[heap_setCell_other _ _ _ _ h2,Zw.out.block bk (by simp;omega) (fun e=>by have:=YI bk e.symm;omega),Below.heap_alloc _ _ bk (by omega),hkp.out bk h1 h2]
   go_wp2
   go_roundw
   case rel=>exact⟨k+1,by omega,by go_num,hE1,⟨_,_,hv2,hE2⟩,ZW⟩
   case measure=>simp[intOf];omega
  ·have hkn:k=n:=by omega
   subst hkn
   have hz0':Boxed wr w.heap.size 36 (.slice none 0 0):=(hkp.out _ (by omega) (by omega)).trans hD0
   have hc0:=hz0'.cell
   have hf0:=hz0'.frozen
   have gJ:Hid (Below w.heap.size w wr):=hBW.trans (hB.out.mono (Nat.le_succ _))
   have mY:Hid (wr.ownsRow w2.heap.size 46 4 (.slice a k c) k (flR (dB g ks k))):=hrow
   clear hz0' hrow hbx ho
   go_wp2
   refine bodyPost_ret (v:= .agg #[.slice a k c]) (by simp[results,Tryz.results76,go_sem,hc0]) rfl ⟨ks,.slice a k c,rfl,hks,hkm,gJ.out.setCell (Nat.le_refl _) _, ?_⟩
   rw[←HN.out]
   exact aF (ownsRow_setCell_below mY.out (by show w.heap.size<w2.heap.size;omega) _) (by omega)
theorem iH{w:World}{g:Nat}{a b d:Int}{t:TypeId}(hg:g=w.heap.size):Ints .i64 (w.alloc (.cells #[.int .i64 a,.int .i64 b,.int .i64 d] t)) (.slice (some ⟨g,0,none⟩) 3 3) [a,b,d]:=by
 subst hg
 have hh:=heap_alloc_new w (.cells #[.int .i64 a,.int .i64 b,.int .i64 d] t)
 refine Or.inr ⟨w.heap.size,0,3,rfl,by simp,fun j hj=> ?_⟩
 have hj2:j<3:=hj
 rcases(by omega:j=0∨j=1∨j=2)with rfl | rfl | rfl<;>(unfold World.cell?;rw[hh];rfl)
theorem lF{w:World}{ops:Array Oper}{rest:List Oper}{o:Oper}{a:Act}{Q:Exit->Act->World->Prop}(hg:o.guard=none)(m x:Operand)(hop:o.op=Op.call {callee:=Callee.builtin Builtin.delete,args:=#[m,x],argTypes:=#[126,2]})
  (b n:Nat) (g:Int->Option Rc) (hm:a.eval m = .map (some b)) (hM:bT w b n g) (k:Int) (hk:0<=k/\k<256) (hx:a.eval x = .int .i64 k)
  (hK:∀w',bT w' b n (fun y=>if y=k then none else g y)->w.grownBy w' (some b)->wpList Tryz.prog ops Q rest (a.put o.dst (.tuple #[])) w'):wpList Tryz.prog ops Q (o::rest) a w:=by
 refine wpList_plain hg fun K' hK'=> ?_
 obtain⟨w',hrun,r1,r2⟩:=hM.drop hk o.type
 unfold Oper.wp
 simp[execOp,hop,resolve,invoke,builtin,hm,hx,hrun,Result.andThen]
 exact hK' _ _ (hK w' r1 r2)
theorem oU{w:World}{ops:Array Oper}{rest:List Oper}{o:Oper}{a:Act}{Q:Exit->Act->World->Prop}(hg:o.guard=none)(m:Operand)(hop:o.op=Op.call {callee:=Callee.builtin Builtin.len,args:=#[m],argTypes:=#[126]})
  (b n:Nat) (g:Int->Option Rc) (hm:a.eval m = .map (some b)) (hM:bT w b n g) (ks:List Int) (hnd:ks.Nodup) (hk:∀x,x∈ks↔(g x).isSome=true)
  (hK:wpList Tryz.prog ops Q rest (a.put o.dst (.int .i64 (ks.length:Int))) w):wpList Tryz.prog ops Q (o::rest) a w:=by
 refine wpList_plain hg fun K' hK'=> ?_
 unfold Oper.wp
 simp[execOp,hop,resolve,invoke,builtin,hm,hM.len hnd hk o.type,Result.andThen]
 exact hK' _ _ hK
def dS(l:Rcl)(k:Int):List Int:=(l.filter fun x=>decide (x.k≠k)).map fun x=>x.k
theorem kQ{l:Rcl}(hl:bM l)(k:Int):(dS l k).Nodup:=by
 unfold dS
 have h:((l.filter fun x=>decide (x.k≠k)).map fun x=>x.k).Pairwise (· < ·):=by
  rw[List.pairwise_map]
  exact hl.pair.filter _
 exact h.imp fun {a b} hab=>by omega
theorem oD{l:Rcl}(hl:bM l)(k x:Int):x∈dS l k↔(if x=k then none else aX l l.length x).isSome=true:=by
 unfold dS
 rw[List.mem_map]
 by_cases h:x=k
 ·rw[if_pos h]
  constructor
  ·rintro⟨y,hy,e⟩
   have:=(List.mem_filter.1 hy).2
   simp at this
   exact absurd (e.trans h) this
  ·intro e;cases e
 ·rw[if_neg h,Option.isSome_iff_exists]
  constructor
  ·rintro⟨y,hy,e⟩
   exact⟨y,(rC hl).2 ⟨(List.mem_filter.1 hy).1,e⟩⟩
  ·rintro⟨y,hy⟩
   have:=(rC hl).1 hy
   exact⟨y,List.mem_filter.2 ⟨this.1,by simp;rw[this.2];exact h⟩,this.2⟩
theorem Ai{l:Rcl}(hl:bM l){k:Int}(h:lkO l k=none):(dS l k).length=l.length:=by
 unfold dS
 rw[List.length_map]
 congr 1
 rw[List.filter_eq_self]
 intro x hx
 simp
 intro e
 have:=(rC hl (x:=k) (y:=x)).2 ⟨hx,e⟩
 rw[lI hl,h]at this
 cases this
theorem L8{l:Rcl}{k:Int}{x:Rc}(h:lkO l k=some x):(dS l k).length<l.length:=by
 unfold dS
 rw[List.length_map]
 have hx:=sD h
 by_cases e:(l.filter fun x=>decide (x.k≠k)).length=l.length
 ·have:=List.length_filter_eq_length_iff.1 e x hx.2
  simp at this
  exact absurd hx.1 this
 ·have:=List.length_filter_le (fun x:Rc=>decide (x.k≠k)) l
  omega
theorem qH(l:Rcl)(r:Rc):(fun y=>if y=r.k then some r else(fun z=>if z=r.k then none else aX l l.length z) y)=upG l r:=by
 funext y
 unfold upG
 by_cases h:y=r.k
 ·simp only[if_pos h]
 ·simp only[if_neg h]
theorem CX(v:Value)(l:Rcl)(r0:ByteArray)(r1 r2 r3 s:Int)(w:World)(hv:Rcs w v l)(hl:Lbs l)(hx:l.length<=1048576)(hrs:r0.size<=1048576)(q:Int)(hq:(if aB l=0 then(if recC r0 r1 r2 r3=0 then owC s else recC r0 r1 r2 r3)else aB l)=q)(h0:¬q=0):
  Calls Tryz.prog 32 #[.agg #[v],.agg #[.string r0,.int .i64 r1,.int .i64 r2,.int .i64 r3],.int .i64 s] w fun e w'=>lN w q [] e w':=by
 obtain⟨W,hW⟩:∃W,W=((w.alloc (.cells #[v] 36)).alloc (.cells #[.string r0,.int .i64 r1,.int .i64 r2,.int .i64 r3] 46)).alloc (.cells #[.int .i64 0,.slice none 0 0] 76):=⟨_,rfl⟩
 have HW:Hid _:=hW.symm
 have hB:Below w.heap.size w W:=by rw[hW];exact((aj _).alloc (aj _).size _).alloc ((aj _).alloc (aj _).size _).size _
 have q2:W.heap[w.heap.size+1+1]? = some (.cells #[.int .i64 0,.slice none 0 0] 76):=by
  have h2:=heap_alloc_new ((w.alloc (.cells #[v] 36)).alloc (.cells #[.string r0,.int .i64 r1,.int .i64 r2,.int .i64 r3] 46)) (.cells #[.int .i64 0,.slice none 0 0] 76)
  simp only[World.size_alloc]at h2
  rw[hW]
  exact h2
 have q1:W.heap[w.heap.size+1]? = some (.cells #[.string r0,.int .i64 r1,.int .i64 r2,.int .i64 r3] 46):=by
  rw[hW]
  exact((aj _).block (w.heap.size+1) (by simp)).trans (bQ w _ _)
 have q0:W.heap[w.heap.size]? = some (.cells #[v] 36):=by
  rw[hW]
  exact((aj _).block w.heap.size (by simp;omega)).trans (heap_alloc_old' _ _ _ (heap_alloc_new w _))
 have hO:=fun w=>fQ s w
 have hOr:=fun v w hv=>rY (aB l) (recC r0 r1 r2 r3) (owC s) v w hv
 have kM:Hid (∀w',Below w.heap.size w w'->Rcs w' v l):=fun w' h=>hv.below h
 have jT:=fun w' h=>aJ v l w' (kM.out w' h) hl (by omega)
 have jU:=fun w=>bZ r0 r1 r2 r3 w hrs
 unfold bP at jU
 obtain⟨a,c,rfl⟩:=hv.shape
 have PG:(q != 0)=true:=by simpa using h0
 rw[hq]at hOr
 generalize aB l=df at *
 generalize recC r0 r1 r2 r3=rc at *
 generalize owC s=oc at *
 generalize owV s=ov at *
 obtain⟨n,hn⟩:∃n,n=l.length:=⟨_,rfl⟩
 have HN:Hid (n=l.length):=hn
 rw[←hn]at HW kM jT q0
 rw[←hn]
 clear hW hv hn hq h0
 go_enter Tryz.func32,Tryz.ntmps32
 go_wp2_with fail
 rw[HW.out]
 refine(hO _).mono ?_
 rintro e w1 ⟨rfl,hb1⟩
 obtain⟨W1,hW1⟩:∃W1,W1=w1.alloc (.cells #[.int .i64 oc,.int .i64 ov] 122):=⟨_,rfl⟩
 have HW1:Hid (w1.alloc (.cells #[.int .i64 oc,.int .i64 ov] 122)=W1):=hW1.symm
 have hb1':Below W.heap.size W W1:=by rw[hW1];exact hb1.alloc hb1.size _
 have p3:W1.heap[w1.heap.size]? = some (.cells #[.int .i64 oc,.int .i64 ov] 122):=by rw[hW1];exact heap_alloc_new w1 _
 have p2:=(hb1'.block _ (Array.getElem?_eq_some_iff.1 q2).1).trans q2
 have p1:=(hb1'.block _ (Array.getElem?_eq_some_iff.1 q1).1).trans q1
 have p0:=(hb1'.block _ (Array.getElem?_eq_some_iff.1 q0).1).trans q0
 have hB1:=ah hB hb1'
 have hl0:=(Array.getElem?_eq_some_iff.1 p0).1
 have hl1:=(Array.getElem?_eq_some_iff.1 p1).1
 have hl2:=(Array.getElem?_eq_some_iff.1 p2).1
 have hl3:=(Array.getElem?_eq_some_iff.1 p3).1
 have hls:w.heap.size+1+1<w1.heap.size:=Nat.lt_of_lt_of_le (Array.getElem?_eq_some_iff.1 q2).1 hb1.size
 have HD:Hid (∀w',Below W1.heap.size W1 w'->w'.cell? ⟨w.heap.size,0,none⟩=some (.slice a n c)):=fun w' h=>kJ ((h.block _ hl0).trans p0)
 have HR:Hid (∀w',Below W1.heap.size W1 w'->w'.cell? ⟨w.heap.size+1,0,none⟩=some (.string r0)/\w'.cell? ⟨w.heap.size+1,1,none⟩=some (.int .i64 r1)/\w'.cell? ⟨w.heap.size+1,2,none⟩=some (.int .i64 r2)/\w'.cell? ⟨w.heap.size+1,3,none⟩=some (.int .i64 r3)):=fun w' h=>bI ((h.block _ hl1).trans p1)
 have HP:Hid (∀w',Below W1.heap.size W1 w'->w'.heap[w.heap.size+1+1]? = some (.cells #[.int .i64 0,.slice none 0 0] 76)):=fun w' h=>(h.block _ hl2).trans p2
 have HO:Hid (∀w',Below W1.heap.size W1 w'->w'.cell? ⟨w1.heap.size,0,none⟩=some (.int .i64 oc)/\w'.cell? ⟨w1.heap.size,1,none⟩=some (.int .i64 ov)):=fun w' h=>⟨(aG ((h.block _ hl3).trans p3)).1,(aG ((h.block _ hl3).trans p3)).2.1⟩
 have oq:Hid (∀w',Below W1.heap.size W1 w'->Calls Tryz.prog 63 #[.agg #[.slice a n c]] w' fun e w''=>e = .returned (.int .i64 df)/\Below w'.heap.size w' w''):=fun w' h=>jT w' (ah hB1 h)
 have bH:Hid (∀w',Below W1.heap.size W1 w'->Below w.heap.size w w'):=fun w' h=>ah hB1 h
 have hbr:=Below.refl W1.heap.size W1
 have aH:Hid (∀w',Below W1.heap.size W1 w'->w'.cell? ⟨w.heap.size,0,none⟩=some (.slice a n c)/\w'.cell? ⟨w.heap.size+1,0,none⟩=some (.string r0)/\w'.cell? ⟨w.heap.size+1,1,none⟩=some (.int .i64 r1)/\w'.cell? ⟨w.heap.size+1,2,none⟩=some (.int .i64 r2)/\w'.cell? ⟨w.heap.size+1,3,none⟩=some (.int .i64 r3)/\w'.cell? ⟨w1.heap.size,0,none⟩=some (.int .i64 oc)):=fun w' h=>⟨HD.out _ h,(HR.out _ h).1,(HR.out _ h).2.1,(HR.out _ h).2.2.1,(HR.out _ h).2.2.2,(HO.out _ h).1⟩
 obtain⟨g0,g1,g2,g3,g4,g5⟩:=aH.out _ hbr
 clear hO hb1 hb1' q0 q1 q2 p0 p1 p2 p3 hB jT hW1 hB1
 go_wp2_with fail
 rw[HW1.out]
 go_region_held3 (fun w'=>w'.cell? ⟨w.heap.size,0,none⟩=some (.slice a n c)/\w'.cell? ⟨w.heap.size+1,0,none⟩=some (.string r0)/\w'.cell? ⟨w.heap.size+1,1,none⟩=some (.int .i64 r1)/\w'.cell? ⟨w.heap.size+1,2,none⟩=some (.int .i64 r2)/\w'.cell? ⟨w.heap.size+1,3,none⟩=some (.int .i64 r3)/\w'.cell? ⟨w1.heap.size,0,none⟩=some (.int .i64 oc))
  (first | with_reducible exact⟨g0,g1,g2,g3,g4,g5⟩|with_reducible exact aH.out _ hbr | with_reducible exact aH.out _ hbr.drew | with_reducible exact aH.out _ (hbr.alloc hbr.size _))
  (first
   |(go_at_call 63;refine(oq.out _ (by first | exact hbr | exact hbr.drew)).mono ?_;rintro e w2 ⟨rfl,hb2⟩;have hbr:Below W1.heap.size W1 w2:=(by first | exact ah hbr hb2 | exact ah hbr.drew hb2))
   |(go_at_call 70;refine(jU _).mono ?_;rintro e w3 ⟨rfl,hb3⟩;have hbr:Below W1.heap.size W1 w3:=(by first | exact ah hbr hb3 | exact ah hbr.drew hb3))
   |(go_at_call 46;refine(hOr _ _ (iH rfl)).mono ?_;rintro e w4 ⟨rfl,hw4⟩;have hbr:Below W1.heap.size W1 w4:=(by rw[hw4];exact hbr.alloc hbr.size _);clear hw4))
 clear oq jU hOr aH g0 g1 g2 g3 g4 g5
 obtain⟨k0,k1,f0,f1⟩:=aG (HP.out _ hbr)
 have gJ:=bH.out _ hbr
 clear HP bH hbr HD HR HO
 go_wp2
 exact bodyPost_ret (v:= .agg #[.int .i64 q,.slice none 0 0]) (by simp[results,Tryz.results32,go_sem,k0,k1]) rfl ⟨none,0,rfl,(gJ.setCell (by show w.heap.size<=w.heap.size+1+1;omega) _).setCell (by show w.heap.size<=w.heap.size+1+1;omega) _,World.ownsRow_nil _ _ _ _⟩
theorem zM(v:Value)(l:Rcl)(r0:ByteArray)(r1 r2 r3 s:Int)(w:World)(hv:Rcs w v l)(hl:Lbs l)(hx:l.length<=1048576)(hrs:r0.size<=1048576)(h0:aB l=0)(hr0:recC r0 r1 r2 r3=0)(hs0:inB s 0 999=true)(q:Int)(x0:ByteArray)(x1 x2 x3:Int)(ho:lkO l (aS r0)=some ⟨x0,x1,x2,x3⟩)(hnx:nxC ⟨x0,x1,x2,x3⟩ ⟨r0,r1,r2,r3⟩ (dH s)=q)(hq1:¬q=0):
  Calls Tryz.prog 32 #[.agg #[v],.agg #[.string r0,.int .i64 r1,.int .i64 r2,.int .i64 r3],.int .i64 s] w fun e w'=>lN w q [] e w':=by
 obtain⟨W,hW⟩:∃W,W=((w.alloc (.cells #[v] 36)).alloc (.cells #[.string r0,.int .i64 r1,.int .i64 r2,.int .i64 r3] 46)).alloc (.cells #[.int .i64 0,.slice none 0 0] 76):=⟨_,rfl⟩
 have HW:Hid _:=hW.symm
 have hB:Below w.heap.size w W:=by rw[hW];exact((aj _).alloc (aj _).size _).alloc ((aj _).alloc (aj _).size _).size _
 have q2:W.heap[w.heap.size+1+1]? = some (.cells #[.int .i64 0,.slice none 0 0] 76):=by
  have h2:=heap_alloc_new ((w.alloc (.cells #[v] 36)).alloc (.cells #[.string r0,.int .i64 r1,.int .i64 r2,.int .i64 r3] 46)) (.cells #[.int .i64 0,.slice none 0 0] 76)
  simp only[World.size_alloc]at h2
  rw[hW]
  exact h2
 have q1:W.heap[w.heap.size+1]? = some (.cells #[.string r0,.int .i64 r1,.int .i64 r2,.int .i64 r3] 46):=by
  rw[hW]
  exact((aj _).block (w.heap.size+1) (by simp)).trans (bQ w _ _)
 have q0:W.heap[w.heap.size]? = some (.cells #[v] 36):=by
  rw[hW]
  exact((aj _).block w.heap.size (by simp;omega)).trans (heap_alloc_old' _ _ _ (heap_alloc_new w _))
 have hO:=fun w=>fQ s w
 have hOr:=fun v w hv=>rY (aB l) (recC r0 r1 r2 r3) (owC s) v w hv
 have kM:Hid (∀w',Below w.heap.size w w'->Rcs w' v l):=fun w' h=>hv.below h
 have jT:=fun w' h=>aJ v l w' (kM.out w' h) hl (by omega)
 have jU:=fun w=>bZ r0 r1 r2 r3 w hrs
 unfold bP at jU
 obtain⟨a,c,rfl⟩:=hv.shape
 have hok:=dR h0
 have hq:(if aB l=0 then(if recC r0 r1 r2 r3=0 then owC s else recC r0 r1 r2 r3)else aB l)=0:=by rw[if_pos h0,if_pos hr0,(kW hs0).1]
 have lZ:=fun w' h=>jG (.slice a l.length c) l w' (kM.out w' h) hok
 have hrc:Rc.c ⟨r0,r1,r2,r3⟩=0:=hr0
 have eP:=fun w=>eX r0 r1 r2 r3 w (Rc.jm hrc)
 unfold bP at eP
 have hkb:=pK r0
 have hLk:∀w b n,bT w b n (aX l l.length)->(Instr.lookup 126 (.map (some b)) (.int .i64 (aS r0)) true).run Tryz.prog w = .ok (.tuple #[nS (aX l l.length (aS r0)),.bool (aX l l.length (aS r0)).isSome]) w:=fun w b n h=>h.look hkb
 rw[lI hok,ho]at hLk
 have HDK:Hid ((dS l (aS r0)).Nodup/\∀x,x∈dS l (aS r0)↔(if x=aS r0 then none else aX l l.length x).isSome=true):=⟨kQ hok _,oD hok _⟩
 have vg:Hid ((fun y=>if y=aS r0 then some ⟨r0,r1,r2,r3⟩else(fun z=>if z=aS r0 then none else aX l l.length z) y)=upG l ⟨r0,r1,r2,r3⟩):=qH l ⟨r0,r1,r2,r3⟩
 have uY:Hid (∀ks:List Int,ks.Pairwise (· < ·)->(∀x,x∈ks↔(upG l ⟨r0,r1,r2,r3⟩ x).isSome=true)->dB (upG l ⟨r0,r1,r2,r3⟩) ks ks.length=dQ l ⟨r0,r1,r2,r3⟩):=fun ks h1 h2=>by
  unfold dB
  rw[List.take_length]
  exact qF hok ⟨r0,r1,r2,r3⟩ h1 h2
 have uV:Hid (∀x,(upG l ⟨r0,r1,r2,r3⟩ x).isSome=true->0<=x/\x<256):=fun x hx=>by
  obtain⟨y,hy⟩:=Option.isSome_iff_exists.1 hx
  rw[←((lK hok).1 hy).2]
  exact y.kbd
 have qp:l.length<=12:=hok.len
 have dO:=fun w=>fZ r0 r1 r2 r3 w hrs
 rw[(kW hs0).2]at hO
 have hmx:=sD ho
 have hxv:1<=x1/\x1<=999:=by
  obtain⟨j,hj,e⟩:=List.mem_iff_getElem.1 hmx.2
  have h:=hok.ok j hj
  rw[fA hj,e]at h
  exact⟨(nZ h).v0,(nZ h).v1⟩
 have F5:=fun w=>uI x0 x1 x2 x3 r0 r1 r2 r3 (dH s) w hxv
 rw[hnx]at F5
 clear hmx hxv
 clear hrc
 generalize aX l l.length=g0 at *
 generalize aS r0=kz at *
 generalize dS l kz=dk at *
 generalize dH s=ow at *
 rw[hq]at hOr
 generalize aB l=df at *
 generalize recC r0 r1 r2 r3=rc at *
 generalize owC s=oc at *
 obtain⟨n,hn⟩:∃n,n=l.length:=⟨_,rfl⟩
 have HN:Hid (n=l.length):=hn
 rw[←hn]at HW kM jT q0 lZ qp
 rw[←hn]
 clear hW hv hn hq h0 hr0 hs0 ho hok hnx
 go_enter Tryz.func32,Tryz.ntmps32
 go_wp2_with fail
 rw[HW.out]
 refine(hO _).mono ?_
 rintro e w1 ⟨rfl,hb1⟩
 obtain⟨W1,hW1⟩:∃W1,W1=w1.alloc (.cells #[.int .i64 oc,.int .i64 ow] 122):=⟨_,rfl⟩
 have HW1:Hid (w1.alloc (.cells #[.int .i64 oc,.int .i64 ow] 122)=W1):=hW1.symm
 have hb1':Below W.heap.size W W1:=by rw[hW1];exact hb1.alloc hb1.size _
 have p3:W1.heap[w1.heap.size]? = some (.cells #[.int .i64 oc,.int .i64 ow] 122):=by rw[hW1];exact heap_alloc_new w1 _
 have p2:=(hb1'.block _ (Array.getElem?_eq_some_iff.1 q2).1).trans q2
 have p1:=(hb1'.block _ (Array.getElem?_eq_some_iff.1 q1).1).trans q1
 have p0:=(hb1'.block _ (Array.getElem?_eq_some_iff.1 q0).1).trans q0
 have hB1:=ah hB hb1'
 have hl0:=(Array.getElem?_eq_some_iff.1 p0).1
 have hl1:=(Array.getElem?_eq_some_iff.1 p1).1
 have hl2:=(Array.getElem?_eq_some_iff.1 p2).1
 have hl3:=(Array.getElem?_eq_some_iff.1 p3).1
 have hls:w.heap.size+1+1<w1.heap.size:=Nat.lt_of_lt_of_le (Array.getElem?_eq_some_iff.1 q2).1 hb1.size
 have HD:Hid (∀w',Below W1.heap.size W1 w'->w'.cell? ⟨w.heap.size,0,none⟩=some (.slice a n c)):=fun w' h=>kJ ((h.block _ hl0).trans p0)
 have HR:Hid (∀w',Below W1.heap.size W1 w'->w'.cell? ⟨w.heap.size+1,0,none⟩=some (.string r0)/\w'.cell? ⟨w.heap.size+1,1,none⟩=some (.int .i64 r1)/\w'.cell? ⟨w.heap.size+1,2,none⟩=some (.int .i64 r2)/\w'.cell? ⟨w.heap.size+1,3,none⟩=some (.int .i64 r3)):=fun w' h=>bI ((h.block _ hl1).trans p1)
 have HP:Hid (∀w',Below W1.heap.size W1 w'->w'.heap[w.heap.size+1+1]? = some (.cells #[.int .i64 0,.slice none 0 0] 76)):=fun w' h=>(h.block _ hl2).trans p2
 have HO:Hid (∀w',Below W1.heap.size W1 w'->w'.cell? ⟨w1.heap.size,0,none⟩=some (.int .i64 oc)/\w'.cell? ⟨w1.heap.size,1,none⟩=some (.int .i64 ow)):=fun w' h=>⟨(aG ((h.block _ hl3).trans p3)).1,(aG ((h.block _ hl3).trans p3)).2.1⟩
 have oq:Hid (∀w',Below W1.heap.size W1 w'->Calls Tryz.prog 63 #[.agg #[.slice a n c]] w' fun e w''=>e = .returned (.int .i64 df)/\Below w'.heap.size w' w''):=fun w' h=>jT w' (ah hB1 h)
 have bH:Hid (∀w',Below W1.heap.size W1 w'->Below w.heap.size w w'):=fun w' h=>ah hB1 h
 have ji:Hid (∀w',Below W1.heap.size W1 w'->Calls Tryz.prog 71 #[.agg #[.slice a n c]] w' fun e w''=>e = .returned (.map (some (w'.heap.size+1)))/\Below w'.heap.size w' w''/\bT w'' (w'.heap.size+1) n g0):=fun w' h=>lZ w' (ah hB1 h)
 have hbr:=Below.refl W1.heap.size W1
 have aH:Hid (∀w',Below W1.heap.size W1 w'->w'.cell? ⟨w.heap.size,0,none⟩=some (.slice a n c)/\w'.cell? ⟨w.heap.size+1,0,none⟩=some (.string r0)/\w'.cell? ⟨w.heap.size+1,1,none⟩=some (.int .i64 r1)/\w'.cell? ⟨w.heap.size+1,2,none⟩=some (.int .i64 r2)/\w'.cell? ⟨w.heap.size+1,3,none⟩=some (.int .i64 r3)/\w'.cell? ⟨w1.heap.size,0,none⟩=some (.int .i64 oc)):=fun w' h=>⟨HD.out _ h,(HR.out _ h).1,(HR.out _ h).2.1,(HR.out _ h).2.2.1,(HR.out _ h).2.2.2,(HO.out _ h).1⟩
 obtain⟨d0,d1,d2,d3,d4,d5⟩:=aH.out _ hbr
 clear lZ hO hb1 hb1' q0 q1 q2 p0 p1 p2 p3 hB jT hW1 hB1
 go_wp2_with fail
 rw[HW1.out]
 go_region_held3 (fun w'=>w'.cell? ⟨w.heap.size,0,none⟩=some (.slice a n c)/\w'.cell? ⟨w.heap.size+1,0,none⟩=some (.string r0)/\w'.cell? ⟨w.heap.size+1,1,none⟩=some (.int .i64 r1)/\w'.cell? ⟨w.heap.size+1,2,none⟩=some (.int .i64 r2)/\w'.cell? ⟨w.heap.size+1,3,none⟩=some (.int .i64 r3)/\w'.cell? ⟨w1.heap.size,0,none⟩=some (.int .i64 oc))
  (first | with_reducible exact⟨d0,d1,d2,d3,d4,d5⟩|with_reducible exact aH.out _ hbr | with_reducible exact aH.out _ hbr.drew | with_reducible exact aH.out _ (hbr.alloc hbr.size _))
  (first
   |(go_at_call 63;refine(oq.out _ (by first | exact hbr | exact hbr.drew)).mono ?_;rintro e w2 ⟨rfl,hb2⟩;have hbr:Below W1.heap.size W1 w2:=(by first | exact ah hbr hb2 | exact ah hbr.drew hb2))
   |(go_at_call 70;refine(jU _).mono ?_;rintro e w3 ⟨rfl,hb3⟩;have hbr:Below W1.heap.size W1 w3:=(by first | exact ah hbr hb3 | exact ah hbr.drew hb3))
   |(go_at_call 46;refine(hOr _ _ (iH rfl)).mono ?_;rintro e w4 ⟨rfl,hw4⟩;have hbr:Below W1.heap.size W1 w4:=(by rw[hw4];exact hbr.alloc hbr.size _);clear hw4))
 clear oq jU hOr aH d0 d1 d2 d3 d4 d5
 have PG:(q != 0)=true:=by simpa using hq1
 clear hq1 HDK vg uY uV dO hl
 have k2:=HD.out _ hbr
 go_wp2_with fail
 refine(ji.out _ hbr).mono ?_
 rintro e w5 ⟨rfl,hb5,lX⟩
 have jw:=ah hbr hb5
 have hzM:W1.heap.size<=w4.heap.size+1:=by have:=hbr.size;omega
 generalize w4.heap.size+1=M at *
 obtain⟨d0,d1,d2,d3⟩:=HR.out _ jw
 clear ji hb5 k2 hbr HD
 go_wp2_with fail
 refine(eP _).mono ?_
 rintro e w6 ⟨rfl,hb6⟩
 have jV:=ah jw hb6
 have jP:=lX.below hb6 lX.lt
 have hlk:=hLk _ _ _ jP
 unfold nS at hlk
 dsimp only[Option.getD,Option.isSome,Rc.val,rcZ]at hlk
 have gB:=jV.alloc jV.size (.cells #[.string x0,.int .i64 x1,.int .i64 x2,.int .i64 x3] 46)
 have lY:=jP.below (aj (.cells #[.string x0,.int .i64 x1,.int .i64 x2,.int .i64 x3] 46)) jP.lt
 obtain⟨d0,d1,d2,d3⟩:=HR.out _ gB
 obtain⟨-,d4⟩:=HO.out _ gB
 obtain⟨b0,b1,b2,b3⟩:=bI (heap_alloc_new w6 (.cells #[.string x0,.int .i64 x1,.int .i64 x2,.int .i64 x3] 46))
 clear eP hLk jw lX hb6 jP HO
 go_wp2_with fail
 refine(F5 _).mono ?_
 rintro e w7 ⟨rfl,hb7⟩
 have gy:=ah gB hb7
 have qo:=lY.below hb7 lY.lt
 clear F5 lY hb7 hlk b0 b1 b2 b3 d0 d1 d2 d3 d4 gB
 obtain⟨k0,k1,f0,f1⟩:=aG (HP.out _ gy)
 have gJ:=bH.out _ gy
 clear HP bH gy HR qo
 go_wp2
 exact bodyPost_ret (v:= .agg #[.int .i64 q,.slice none 0 0]) (by simp[results,Tryz.results32,go_sem,k0,k1]) rfl ⟨none,0,rfl,(gJ.setCell (by show w.heap.size<=w.heap.size+1+1;omega) _).setCell (by show w.heap.size<=w.heap.size+1+1;omega) _,World.ownsRow_nil _ _ _ _⟩
theorem AQ(v:Value)(l:Rcl)(r0:ByteArray)(r1 r2 r3 s:Int)(w:World)(hv:Rcs w v l)(hl:Lbs l)(hx:l.length<=1048576)(hrs:r0.size<=1048576)(h0:aB l=0)(hr0:recC r0 r1 r2 r3=0)(hs0:inB s 0 999=true)(x0:ByteArray)(x1 x2 x3:Int)(ho:lkO l (aS r0)=some ⟨x0,x1,x2,x3⟩)(hnx:nxC ⟨x0,x1,x2,x3⟩ ⟨r0,r1,r2,r3⟩ (dH s)=0):
  Calls Tryz.prog 32 #[.agg #[v],.agg #[.string r0,.int .i64 r1,.int .i64 r2,.int .i64 r3],.int .i64 s] w fun e w'=>lN w 0 (dQ l ⟨r0,r1,r2,r3⟩) e w':=by
 obtain⟨W,hW⟩:∃W,W=((w.alloc (.cells #[v] 36)).alloc (.cells #[.string r0,.int .i64 r1,.int .i64 r2,.int .i64 r3] 46)).alloc (.cells #[.int .i64 0,.slice none 0 0] 76):=⟨_,rfl⟩
 have HW:Hid _:=hW.symm
 have hB:Below w.heap.size w W:=by rw[hW];exact((aj _).alloc (aj _).size _).alloc ((aj _).alloc (aj _).size _).size _
 have q2:W.heap[w.heap.size+1+1]? = some (.cells #[.int .i64 0,.slice none 0 0] 76):=by
  have h2:=heap_alloc_new ((w.alloc (.cells #[v] 36)).alloc (.cells #[.string r0,.int .i64 r1,.int .i64 r2,.int .i64 r3] 46)) (.cells #[.int .i64 0,.slice none 0 0] 76)
  simp only[World.size_alloc]at h2
  rw[hW]
  exact h2
 have q1:W.heap[w.heap.size+1]? = some (.cells #[.string r0,.int .i64 r1,.int .i64 r2,.int .i64 r3] 46):=by
  rw[hW]
  exact((aj _).block (w.heap.size+1) (by simp)).trans (bQ w _ _)
 have q0:W.heap[w.heap.size]? = some (.cells #[v] 36):=by
  rw[hW]
  exact((aj _).block w.heap.size (by simp;omega)).trans (heap_alloc_old' _ _ _ (heap_alloc_new w _))
 have hO:=fun w=>fQ s w
 have hOr:=fun v w hv=>rY (aB l) (recC r0 r1 r2 r3) (owC s) v w hv
 have kM:Hid (∀w',Below w.heap.size w w'->Rcs w' v l):=fun w' h=>hv.below h
 have jT:=fun w' h=>aJ v l w' (kM.out w' h) hl (by omega)
 have jU:=fun w=>bZ r0 r1 r2 r3 w hrs
 unfold bP at jU
 obtain⟨a,c,rfl⟩:=hv.shape
 have hok:=dR h0
 have hq:(if aB l=0 then(if recC r0 r1 r2 r3=0 then owC s else recC r0 r1 r2 r3)else aB l)=0:=by rw[if_pos h0,if_pos hr0,(kW hs0).1]
 have lZ:=fun w' h=>jG (.slice a l.length c) l w' (kM.out w' h) hok
 have hrc:Rc.c ⟨r0,r1,r2,r3⟩=0:=hr0
 have eP:=fun w=>eX r0 r1 r2 r3 w (Rc.jm hrc)
 unfold bP at eP
 have hkb:=pK r0
 have hLk:∀w b n,bT w b n (aX l l.length)->(Instr.lookup 126 (.map (some b)) (.int .i64 (aS r0)) true).run Tryz.prog w = .ok (.tuple #[nS (aX l l.length (aS r0)),.bool (aX l l.length (aS r0)).isSome]) w:=fun w b n h=>h.look hkb
 rw[lI hok,ho]at hLk
 have HDK:Hid ((dS l (aS r0)).Nodup/\∀x,x∈dS l (aS r0)↔(if x=aS r0 then none else aX l l.length x).isSome=true):=⟨kQ hok _,oD hok _⟩
 have vg:Hid ((fun y=>if y=aS r0 then some ⟨r0,r1,r2,r3⟩else(fun z=>if z=aS r0 then none else aX l l.length z) y)=upG l ⟨r0,r1,r2,r3⟩):=qH l ⟨r0,r1,r2,r3⟩
 have uY:Hid (∀ks:List Int,ks.Pairwise (· < ·)->(∀x,x∈ks↔(upG l ⟨r0,r1,r2,r3⟩ x).isSome=true)->dB (upG l ⟨r0,r1,r2,r3⟩) ks ks.length=dQ l ⟨r0,r1,r2,r3⟩):=fun ks h1 h2=>by
  unfold dB
  rw[List.take_length]
  exact qF hok ⟨r0,r1,r2,r3⟩ h1 h2
 have uV:Hid (∀x,(upG l ⟨r0,r1,r2,r3⟩ x).isSome=true->0<=x/\x<256):=fun x hx=>by
  obtain⟨y,hy⟩:=Option.isSome_iff_exists.1 hx
  rw[←((lK hok).1 hy).2]
  exact y.kbd
 have qp:l.length<=12:=hok.len
 have dO:=fun w=>fZ r0 r1 r2 r3 w hrs
 rw[(kW hs0).2]at hO
 have hmx:=sD ho
 have hxv:1<=x1/\x1<=999:=by
  obtain⟨j,hj,e⟩:=List.mem_iff_getElem.1 hmx.2
  have h:=hok.ok j hj
  rw[fA hj,e]at h
  exact⟨(nZ h).v0,(nZ h).v1⟩
 have F5:=fun w=>uI x0 x1 x2 x3 r0 r1 r2 r3 (dH s) w hxv
 rw[hnx]at F5
 clear hmx hxv
 have hdl:(dS l (aS r0)).length<12:=Nat.lt_of_lt_of_le (L8 ho) hok.len
 clear hrc
 generalize aX l l.length=g0 at *
 generalize aS r0=kz at *
 generalize dS l kz=dk at *
 generalize dH s=ow at *
 rw[hq]at hOr
 generalize aB l=df at *
 generalize recC r0 r1 r2 r3=rc at *
 generalize owC s=oc at *
 obtain⟨n,hn⟩:∃n,n=l.length:=⟨_,rfl⟩
 have HN:Hid (n=l.length):=hn
 rw[←hn]at HW kM jT q0 lZ qp
 rw[←hn]
 clear hW hv hn hq h0 hr0 hs0 ho hok hnx
 go_enter Tryz.func32,Tryz.ntmps32
 go_wp2_with fail
 rw[HW.out]
 refine(hO _).mono ?_
 rintro e w1 ⟨rfl,hb1⟩
 obtain⟨W1,hW1⟩:∃W1,W1=w1.alloc (.cells #[.int .i64 oc,.int .i64 ow] 122):=⟨_,rfl⟩
 have HW1:Hid (w1.alloc (.cells #[.int .i64 oc,.int .i64 ow] 122)=W1):=hW1.symm
 have hb1':Below W.heap.size W W1:=by rw[hW1];exact hb1.alloc hb1.size _
 have p3:W1.heap[w1.heap.size]? = some (.cells #[.int .i64 oc,.int .i64 ow] 122):=by rw[hW1];exact heap_alloc_new w1 _
 have p2:=(hb1'.block _ (Array.getElem?_eq_some_iff.1 q2).1).trans q2
 have p1:=(hb1'.block _ (Array.getElem?_eq_some_iff.1 q1).1).trans q1
 have p0:=(hb1'.block _ (Array.getElem?_eq_some_iff.1 q0).1).trans q0
 have hB1:=ah hB hb1'
 have hl0:=(Array.getElem?_eq_some_iff.1 p0).1
 have hl1:=(Array.getElem?_eq_some_iff.1 p1).1
 have hl2:=(Array.getElem?_eq_some_iff.1 p2).1
 have hl3:=(Array.getElem?_eq_some_iff.1 p3).1
 have hls:w.heap.size+1+1<w1.heap.size:=Nat.lt_of_lt_of_le (Array.getElem?_eq_some_iff.1 q2).1 hb1.size
 have HD:Hid (∀w',Below W1.heap.size W1 w'->w'.cell? ⟨w.heap.size,0,none⟩=some (.slice a n c)):=fun w' h=>kJ ((h.block _ hl0).trans p0)
 have HR:Hid (∀w',Below W1.heap.size W1 w'->w'.cell? ⟨w.heap.size+1,0,none⟩=some (.string r0)/\w'.cell? ⟨w.heap.size+1,1,none⟩=some (.int .i64 r1)/\w'.cell? ⟨w.heap.size+1,2,none⟩=some (.int .i64 r2)/\w'.cell? ⟨w.heap.size+1,3,none⟩=some (.int .i64 r3)):=fun w' h=>bI ((h.block _ hl1).trans p1)
 have HP:Hid (∀w',Below W1.heap.size W1 w'->w'.heap[w.heap.size+1+1]? = some (.cells #[.int .i64 0,.slice none 0 0] 76)):=fun w' h=>(h.block _ hl2).trans p2
 have HO:Hid (∀w',Below W1.heap.size W1 w'->w'.cell? ⟨w1.heap.size,0,none⟩=some (.int .i64 oc)/\w'.cell? ⟨w1.heap.size,1,none⟩=some (.int .i64 ow)):=fun w' h=>⟨(aG ((h.block _ hl3).trans p3)).1,(aG ((h.block _ hl3).trans p3)).2.1⟩
 have oq:Hid (∀w',Below W1.heap.size W1 w'->Calls Tryz.prog 63 #[.agg #[.slice a n c]] w' fun e w''=>e = .returned (.int .i64 df)/\Below w'.heap.size w' w''):=fun w' h=>jT w' (ah hB1 h)
 have bH:Hid (∀w',Below W1.heap.size W1 w'->Below w.heap.size w w'):=fun w' h=>ah hB1 h
 have ji:Hid (∀w',Below W1.heap.size W1 w'->Calls Tryz.prog 71 #[.agg #[.slice a n c]] w' fun e w''=>e = .returned (.map (some (w'.heap.size+1)))/\Below w'.heap.size w' w''/\bT w'' (w'.heap.size+1) n g0):=fun w' h=>lZ w' (ah hB1 h)
 have hbr:=Below.refl W1.heap.size W1
 have aH:Hid (∀w',Below W1.heap.size W1 w'->w'.cell? ⟨w.heap.size,0,none⟩=some (.slice a n c)/\w'.cell? ⟨w.heap.size+1,0,none⟩=some (.string r0)/\w'.cell? ⟨w.heap.size+1,1,none⟩=some (.int .i64 r1)/\w'.cell? ⟨w.heap.size+1,2,none⟩=some (.int .i64 r2)/\w'.cell? ⟨w.heap.size+1,3,none⟩=some (.int .i64 r3)/\w'.cell? ⟨w1.heap.size,0,none⟩=some (.int .i64 oc)):=fun w' h=>⟨HD.out _ h,(HR.out _ h).1,(HR.out _ h).2.1,(HR.out _ h).2.2.1,(HR.out _ h).2.2.2,(HO.out _ h).1⟩
 obtain⟨d0,d1,d2,d3,d4,d5⟩:=aH.out _ hbr
 clear lZ hO hb1 hb1' q0 q1 q2 p0 p1 p2 p3 hB jT hW1 hB1
 go_wp2_with fail
 rw[HW1.out]
 go_region_held3 (fun w'=>w'.cell? ⟨w.heap.size,0,none⟩=some (.slice a n c)/\w'.cell? ⟨w.heap.size+1,0,none⟩=some (.string r0)/\w'.cell? ⟨w.heap.size+1,1,none⟩=some (.int .i64 r1)/\w'.cell? ⟨w.heap.size+1,2,none⟩=some (.int .i64 r2)/\w'.cell? ⟨w.heap.size+1,3,none⟩=some (.int .i64 r3)/\w'.cell? ⟨w1.heap.size,0,none⟩=some (.int .i64 oc))
  (first | with_reducible exact⟨d0,d1,d2,d3,d4,d5⟩|with_reducible exact aH.out _ hbr | with_reducible exact aH.out _ hbr.drew | with_reducible exact aH.out _ (hbr.alloc hbr.size _))
  (first
   |(go_at_call 63;refine(oq.out _ (by first | exact hbr | exact hbr.drew)).mono ?_;rintro e w2 ⟨rfl,hb2⟩;have hbr:Below W1.heap.size W1 w2:=(by first | exact ah hbr hb2 | exact ah hbr.drew hb2))
   |(go_at_call 70;refine(jU _).mono ?_;rintro e w3 ⟨rfl,hb3⟩;have hbr:Below W1.heap.size W1 w3:=(by first | exact ah hbr hb3 | exact ah hbr.drew hb3))
   |(go_at_call 46;refine(hOr _ _ (iH rfl)).mono ?_;rintro e w4 ⟨rfl,hw4⟩;have hbr:Below W1.heap.size W1 w4:=(by rw[hw4];exact hbr.alloc hbr.size _);clear hw4))
 clear oq jU hOr aH d0 d1 d2 d3 d4 d5
 obtain⟨dn,hdk⟩:∃dn,(dk.length:Int)=dn:=⟨_,rfl⟩
 have YH:(dn==12)=false:=by rw[←hdk];simp;omega
 clear hdl
 clear hl
 have k2:=HD.out _ hbr
 go_wp2_with fail
 refine(ji.out _ hbr).mono ?_
 rintro e w5 ⟨rfl,hb5,lX⟩
 have jw:=ah hbr hb5
 have hzM:W1.heap.size<=w4.heap.size+1:=by have:=hbr.size;omega
 generalize w4.heap.size+1=M at *
 obtain⟨d0,d1,d2,d3⟩:=HR.out _ jw
 clear ji hb5 k2 hbr HD
 go_wp2_with fail
 refine(eP _).mono ?_
 rintro e w6 ⟨rfl,hb6⟩
 have jV:=ah jw hb6
 have jP:=lX.below hb6 lX.lt
 have hlk:=hLk _ _ _ jP
 unfold nS at hlk
 dsimp only[Option.getD,Option.isSome,Rc.val,rcZ]at hlk
 have gB:=jV.alloc jV.size (.cells #[.string x0,.int .i64 x1,.int .i64 x2,.int .i64 x3] 46)
 have lY:=jP.below (aj (.cells #[.string x0,.int .i64 x1,.int .i64 x2,.int .i64 x3] 46)) jP.lt
 obtain⟨d0,d1,d2,d3⟩:=HR.out _ gB
 obtain⟨-,d4⟩:=HO.out _ gB
 obtain⟨b0,b1,b2,b3⟩:=bI (heap_alloc_new w6 (.cells #[.string x0,.int .i64 x1,.int .i64 x2,.int .i64 x3] 46))
 clear eP hLk jw lX hb6 jP HO
 go_wp2_with fail
 refine(F5 _).mono ?_
 rintro e w7 ⟨rfl,hb7⟩
 have gy:=ah gB hb7
 have qo:=lY.below hb7 lY.lt
 clear F5 lY hb7 hlk b0 b1 b2 b3 d0 d1 d2 d3 d4 gB
 go_wp2_with (first |(at_delete;refine lF rfl _ _ rfl M n g0 rfl qo kz hkb rfl ?_;intro w8 vV DY;have nK:Below W1.heap.size W1 w8:=gy.grown DY gy.size (fun j hj=>by cases hj;exact hzM);obtain⟨d0,d1,d2,d3⟩:=HR.out _ nK;obtain⟨k0,k1,f0,f1⟩:=aG (HP.out _ nK);clear DY gy qo) |(at_len;refine oU rfl _ rfl M n (fun y=>if y=kz then none else g0 y) rfl vV dk HDK.out.1 HDK.out.2 ?_;rw[hdk]))
 refine(dO _).mono ?_
 rintro e w9 ⟨rfl,qU⟩
 have zD:=ah nK qU
 obtain⟨w10,hrun10,FX,Gp⟩:=(vV.below qU vV.lt).store (by unfold maxLen;omega:n<maxLen) hkb ⟨r0,r1,r2,r3⟩
 dsimp only[Rc.val]at hrun10
 have Aq:Below W1.heap.size W1 w10:=zD.grown Gp zD.size (fun j hj=>by cases hj;exact hzM)
 have FY:bT w10 M (n+1) (upG l ⟨r0,r1,r2,r3⟩):=by rw[←vg.out];exact FX
 have Pn:=qg M (n+1) _ w10 FY (by omega) uV.out
 clear dO qU vV nK FX Gp FY d0 d1 d2 d3 zD k0 k1 f0 f1
 go_wp2_with fail
 refine Pn.mono ?_
 rintro e Jj ⟨ks,u,rfl,hks,hkm,rO,sW⟩
 have sV:=ah Aq rO
 have hlk2:=uY.out ks hks hkm
 have hll:ks.length=(dQ l ⟨r0,r1,r2,r3⟩).length:=by rw[←hlk2,Bz _ (Nat.le_refl _)]
 rw[hlk2,hll]at sW
 obtain⟨a2,c2,rfl⟩:=aW sW
 obtain⟨k0,k1,f0,f1⟩:=aG (HP.out _ sV)
 have gJ:Hid (Below w.heap.size w Jj):=bH.out _ sV
 have VN:Hid (Jj.ownsRow w10.heap.size 46 4 (.slice a2 (dQ l ⟨r0,r1,r2,r3⟩).length c2) (dQ l ⟨r0,r1,r2,r3⟩).length (flR (dQ l ⟨r0,r1,r2,r3⟩))):=sW
 have Gv:w.heap.size+1+1<w10.heap.size:=Nat.lt_of_lt_of_le (by omega:w.heap.size+1+1<W1.heap.size) Aq.size
 clear HP bH sV HR Pn sW hks hkm hlk2 hll rO uY uV vg HDK hrun10
 go_wp2
 refine bodyPost_ret (v:= .agg #[.int .i64 0,.slice a2 (dQ l ⟨r0,r1,r2,r3⟩).length c2]) (by simp[results,Tryz.results32,go_sem,k0,k1]) rfl ⟨a2,c2,rfl,(gJ.out.setCell (by show w.heap.size<=w.heap.size+1+1;omega) _).setCell (by show w.heap.size<=w.heap.size+1+1;omega) _, ?_⟩
 exact aF (ownsRow_setCell_below (ownsRow_setCell_below VN.out (by show w.heap.size+1+1<w10.heap.size;exact Gv) _) (by show w.heap.size+1+1<w10.heap.size;exact Gv) _) (by omega)
theorem zL(v:Value)(l:Rcl)(r0:ByteArray)(r1 r2 r3 s:Int)(w:World)(hv:Rcs w v l)(hl:Lbs l)(hx:l.length<=1048576)(hrs:r0.size<=1048576)(h0:aB l=0)(hr0:recC r0 r1 r2 r3=0)(hs0:inB s 0 999=true)(q:Int)(ho:lkO l (aS r0)=none)(hfs:sO ⟨r0,r1,r2,r3⟩ (dH s)=q)(hq1:¬q=0):
  Calls Tryz.prog 32 #[.agg #[v],.agg #[.string r0,.int .i64 r1,.int .i64 r2,.int .i64 r3],.int .i64 s] w fun e w'=>lN w q [] e w':=by
 obtain⟨W,hW⟩:∃W,W=((w.alloc (.cells #[v] 36)).alloc (.cells #[.string r0,.int .i64 r1,.int .i64 r2,.int .i64 r3] 46)).alloc (.cells #[.int .i64 0,.slice none 0 0] 76):=⟨_,rfl⟩
 have HW:Hid _:=hW.symm
 have hB:Below w.heap.size w W:=by rw[hW];exact((aj _).alloc (aj _).size _).alloc ((aj _).alloc (aj _).size _).size _
 have q2:W.heap[w.heap.size+1+1]? = some (.cells #[.int .i64 0,.slice none 0 0] 76):=by
  have h2:=heap_alloc_new ((w.alloc (.cells #[v] 36)).alloc (.cells #[.string r0,.int .i64 r1,.int .i64 r2,.int .i64 r3] 46)) (.cells #[.int .i64 0,.slice none 0 0] 76)
  simp only[World.size_alloc]at h2
  rw[hW]
  exact h2
 have q1:W.heap[w.heap.size+1]? = some (.cells #[.string r0,.int .i64 r1,.int .i64 r2,.int .i64 r3] 46):=by
  rw[hW]
  exact((aj _).block (w.heap.size+1) (by simp)).trans (bQ w _ _)
 have q0:W.heap[w.heap.size]? = some (.cells #[v] 36):=by
  rw[hW]
  exact((aj _).block w.heap.size (by simp;omega)).trans (heap_alloc_old' _ _ _ (heap_alloc_new w _))
 have hO:=fun w=>fQ s w
 have hOr:=fun v w hv=>rY (aB l) (recC r0 r1 r2 r3) (owC s) v w hv
 have kM:Hid (∀w',Below w.heap.size w w'->Rcs w' v l):=fun w' h=>hv.below h
 have jT:=fun w' h=>aJ v l w' (kM.out w' h) hl (by omega)
 have jU:=fun w=>bZ r0 r1 r2 r3 w hrs
 unfold bP at jU
 obtain⟨a,c,rfl⟩:=hv.shape
 have hok:=dR h0
 have hq:(if aB l=0 then(if recC r0 r1 r2 r3=0 then owC s else recC r0 r1 r2 r3)else aB l)=0:=by rw[if_pos h0,if_pos hr0,(kW hs0).1]
 have lZ:=fun w' h=>jG (.slice a l.length c) l w' (kM.out w' h) hok
 have hrc:Rc.c ⟨r0,r1,r2,r3⟩=0:=hr0
 have eP:=fun w=>eX r0 r1 r2 r3 w (Rc.jm hrc)
 unfold bP at eP
 have hkb:=pK r0
 have hLk:∀w b n,bT w b n (aX l l.length)->(Instr.lookup 126 (.map (some b)) (.int .i64 (aS r0)) true).run Tryz.prog w = .ok (.tuple #[nS (aX l l.length (aS r0)),.bool (aX l l.length (aS r0)).isSome]) w:=fun w b n h=>h.look hkb
 rw[lI hok,ho]at hLk
 have HDK:Hid ((dS l (aS r0)).Nodup/\∀x,x∈dS l (aS r0)↔(if x=aS r0 then none else aX l l.length x).isSome=true):=⟨kQ hok _,oD hok _⟩
 have vg:Hid ((fun y=>if y=aS r0 then some ⟨r0,r1,r2,r3⟩else(fun z=>if z=aS r0 then none else aX l l.length z) y)=upG l ⟨r0,r1,r2,r3⟩):=qH l ⟨r0,r1,r2,r3⟩
 have uY:Hid (∀ks:List Int,ks.Pairwise (· < ·)->(∀x,x∈ks↔(upG l ⟨r0,r1,r2,r3⟩ x).isSome=true)->dB (upG l ⟨r0,r1,r2,r3⟩) ks ks.length=dQ l ⟨r0,r1,r2,r3⟩):=fun ks h1 h2=>by
  unfold dB
  rw[List.take_length]
  exact qF hok ⟨r0,r1,r2,r3⟩ h1 h2
 have uV:Hid (∀x,(upG l ⟨r0,r1,r2,r3⟩ x).isSome=true->0<=x/\x<256):=fun x hx=>by
  obtain⟨y,hy⟩:=Option.isSome_iff_exists.1 hx
  rw[←((lK hok).1 hy).2]
  exact y.kbd
 have qp:l.length<=12:=hok.len
 have dO:=fun w=>fZ r0 r1 r2 r3 w hrs
 rw[(kW hs0).2]at hO
 have vU:=fun w=>nI r0 r1 r2 r3 (dH s) w
 rw[hfs]at vU
 clear hrc
 generalize aX l l.length=g0 at *
 generalize aS r0=kz at *
 generalize dS l kz=dk at *
 generalize dH s=ow at *
 rw[hq]at hOr
 generalize aB l=df at *
 generalize recC r0 r1 r2 r3=rc at *
 generalize owC s=oc at *
 obtain⟨n,hn⟩:∃n,n=l.length:=⟨_,rfl⟩
 have HN:Hid (n=l.length):=hn
 rw[←hn]at HW kM jT q0 lZ qp
 rw[←hn]
 clear hW hv hn hq h0 hr0 hs0 ho hok hfs
 go_enter Tryz.func32,Tryz.ntmps32
 go_wp2_with fail
 rw[HW.out]
 refine(hO _).mono ?_
 rintro e w1 ⟨rfl,hb1⟩
 obtain⟨W1,hW1⟩:∃W1,W1=w1.alloc (.cells #[.int .i64 oc,.int .i64 ow] 122):=⟨_,rfl⟩
 have HW1:Hid (w1.alloc (.cells #[.int .i64 oc,.int .i64 ow] 122)=W1):=hW1.symm
 have hb1':Below W.heap.size W W1:=by rw[hW1];exact hb1.alloc hb1.size _
 have p3:W1.heap[w1.heap.size]? = some (.cells #[.int .i64 oc,.int .i64 ow] 122):=by rw[hW1];exact heap_alloc_new w1 _
 have p2:=(hb1'.block _ (Array.getElem?_eq_some_iff.1 q2).1).trans q2
 have p1:=(hb1'.block _ (Array.getElem?_eq_some_iff.1 q1).1).trans q1
 have p0:=(hb1'.block _ (Array.getElem?_eq_some_iff.1 q0).1).trans q0
 have hB1:=ah hB hb1'
 have hl0:=(Array.getElem?_eq_some_iff.1 p0).1
 have hl1:=(Array.getElem?_eq_some_iff.1 p1).1
 have hl2:=(Array.getElem?_eq_some_iff.1 p2).1
 have hl3:=(Array.getElem?_eq_some_iff.1 p3).1
 have hls:w.heap.size+1+1<w1.heap.size:=Nat.lt_of_lt_of_le (Array.getElem?_eq_some_iff.1 q2).1 hb1.size
 have HD:Hid (∀w',Below W1.heap.size W1 w'->w'.cell? ⟨w.heap.size,0,none⟩=some (.slice a n c)):=fun w' h=>kJ ((h.block _ hl0).trans p0)
 have HR:Hid (∀w',Below W1.heap.size W1 w'->w'.cell? ⟨w.heap.size+1,0,none⟩=some (.string r0)/\w'.cell? ⟨w.heap.size+1,1,none⟩=some (.int .i64 r1)/\w'.cell? ⟨w.heap.size+1,2,none⟩=some (.int .i64 r2)/\w'.cell? ⟨w.heap.size+1,3,none⟩=some (.int .i64 r3)):=fun w' h=>bI ((h.block _ hl1).trans p1)
 have HP:Hid (∀w',Below W1.heap.size W1 w'->w'.heap[w.heap.size+1+1]? = some (.cells #[.int .i64 0,.slice none 0 0] 76)):=fun w' h=>(h.block _ hl2).trans p2
 have HO:Hid (∀w',Below W1.heap.size W1 w'->w'.cell? ⟨w1.heap.size,0,none⟩=some (.int .i64 oc)/\w'.cell? ⟨w1.heap.size,1,none⟩=some (.int .i64 ow)):=fun w' h=>⟨(aG ((h.block _ hl3).trans p3)).1,(aG ((h.block _ hl3).trans p3)).2.1⟩
 have oq:Hid (∀w',Below W1.heap.size W1 w'->Calls Tryz.prog 63 #[.agg #[.slice a n c]] w' fun e w''=>e = .returned (.int .i64 df)/\Below w'.heap.size w' w''):=fun w' h=>jT w' (ah hB1 h)
 have bH:Hid (∀w',Below W1.heap.size W1 w'->Below w.heap.size w w'):=fun w' h=>ah hB1 h
 have ji:Hid (∀w',Below W1.heap.size W1 w'->Calls Tryz.prog 71 #[.agg #[.slice a n c]] w' fun e w''=>e = .returned (.map (some (w'.heap.size+1)))/\Below w'.heap.size w' w''/\bT w'' (w'.heap.size+1) n g0):=fun w' h=>lZ w' (ah hB1 h)
 have hbr:=Below.refl W1.heap.size W1
 have aH:Hid (∀w',Below W1.heap.size W1 w'->w'.cell? ⟨w.heap.size,0,none⟩=some (.slice a n c)/\w'.cell? ⟨w.heap.size+1,0,none⟩=some (.string r0)/\w'.cell? ⟨w.heap.size+1,1,none⟩=some (.int .i64 r1)/\w'.cell? ⟨w.heap.size+1,2,none⟩=some (.int .i64 r2)/\w'.cell? ⟨w.heap.size+1,3,none⟩=some (.int .i64 r3)/\w'.cell? ⟨w1.heap.size,0,none⟩=some (.int .i64 oc)):=fun w' h=>⟨HD.out _ h,(HR.out _ h).1,(HR.out _ h).2.1,(HR.out _ h).2.2.1,(HR.out _ h).2.2.2,(HO.out _ h).1⟩
 obtain⟨d0,d1,d2,d3,d4,d5⟩:=aH.out _ hbr
 clear lZ hO hb1 hb1' q0 q1 q2 p0 p1 p2 p3 hB jT hW1 hB1
 go_wp2_with fail
 rw[HW1.out]
 go_region_held3 (fun w'=>w'.cell? ⟨w.heap.size,0,none⟩=some (.slice a n c)/\w'.cell? ⟨w.heap.size+1,0,none⟩=some (.string r0)/\w'.cell? ⟨w.heap.size+1,1,none⟩=some (.int .i64 r1)/\w'.cell? ⟨w.heap.size+1,2,none⟩=some (.int .i64 r2)/\w'.cell? ⟨w.heap.size+1,3,none⟩=some (.int .i64 r3)/\w'.cell? ⟨w1.heap.size,0,none⟩=some (.int .i64 oc))
  (first | with_reducible exact⟨d0,d1,d2,d3,d4,d5⟩|with_reducible exact aH.out _ hbr | with_reducible exact aH.out _ hbr.drew | with_reducible exact aH.out _ (hbr.alloc hbr.size _))
  (first
   |(go_at_call 63;refine(oq.out _ (by first | exact hbr | exact hbr.drew)).mono ?_;rintro e w2 ⟨rfl,hb2⟩;have hbr:Below W1.heap.size W1 w2:=(by first | exact ah hbr hb2 | exact ah hbr.drew hb2))
   |(go_at_call 70;refine(jU _).mono ?_;rintro e w3 ⟨rfl,hb3⟩;have hbr:Below W1.heap.size W1 w3:=(by first | exact ah hbr hb3 | exact ah hbr.drew hb3))
   |(go_at_call 46;refine(hOr _ _ (iH rfl)).mono ?_;rintro e w4 ⟨rfl,hw4⟩;have hbr:Below W1.heap.size W1 w4:=(by rw[hw4];exact hbr.alloc hbr.size _);clear hw4))
 clear oq jU hOr aH d0 d1 d2 d3 d4 d5
 have PG:(q != 0)=true:=by simpa using hq1
 clear hq1 HDK vg uY uV dO hl
 have k2:=HD.out _ hbr
 go_wp2_with fail
 refine(ji.out _ hbr).mono ?_
 rintro e w5 ⟨rfl,hb5,lX⟩
 have jw:=ah hbr hb5
 have hzM:W1.heap.size<=w4.heap.size+1:=by have:=hbr.size;omega
 generalize w4.heap.size+1=M at *
 obtain⟨d0,d1,d2,d3⟩:=HR.out _ jw
 clear ji hb5 k2 hbr HD
 go_wp2_with fail
 refine(eP _).mono ?_
 rintro e w6 ⟨rfl,hb6⟩
 have jV:=ah jw hb6
 have jP:=lX.below hb6 lX.lt
 have hlk:=hLk _ _ _ jP
 unfold nS at hlk
 dsimp only[Option.getD,Option.isSome,Rc.val,rcZ]at hlk
 have gB:=jV.alloc jV.size (.cells #[.string ⟨#[]⟩,.int .i64 0,.int .i64 0,.int .i64 0] 46)
 have lY:=jP.below (aj (.cells #[.string ⟨#[]⟩,.int .i64 0,.int .i64 0,.int .i64 0] 46)) jP.lt
 obtain⟨d0,d1,d2,d3⟩:=HR.out _ gB
 obtain⟨-,d4⟩:=HO.out _ gB
 obtain⟨b0,b1,b2,b3⟩:=bI (heap_alloc_new w6 (.cells #[.string ⟨#[]⟩,.int .i64 0,.int .i64 0,.int .i64 0] 46))
 clear eP hLk jw lX hb6 jP HO
 go_wp2_with fail
 refine(vU _).mono ?_
 rintro e w7 ⟨rfl,hb7⟩
 have gy:=ah gB hb7
 have qo:=lY.below hb7 lY.lt
 clear vU lY hb7 hlk b0 b1 b2 b3 d0 d1 d2 d3 d4 gB
 obtain⟨k0,k1,f0,f1⟩:=aG (HP.out _ gy)
 have gJ:=bH.out _ gy
 clear HP bH gy HR qo
 go_wp2
 exact bodyPost_ret (v:= .agg #[.int .i64 q,.slice none 0 0]) (by simp[results,Tryz.results32,go_sem,k0,k1]) rfl ⟨none,0,rfl,(gJ.setCell (by show w.heap.size<=w.heap.size+1+1;omega) _).setCell (by show w.heap.size<=w.heap.size+1+1;omega) _,World.ownsRow_nil _ _ _ _⟩
theorem yD(v:Value)(l:Rcl)(r0:ByteArray)(r1 r2 r3 s:Int)(w:World)(hv:Rcs w v l)(hl:Lbs l)(hx:l.length<=1048576)(hrs:r0.size<=1048576)(h0:aB l=0)(hr0:recC r0 r1 r2 r3=0)(hs0:inB s 0 999=true)(ho:lkO l (aS r0)=none)(hfs:sO ⟨r0,r1,r2,r3⟩ (dH s)=0)(hfull:l.length=12):
  Calls Tryz.prog 32 #[.agg #[v],.agg #[.string r0,.int .i64 r1,.int .i64 r2,.int .i64 r3],.int .i64 s] w fun e w'=>lN w 11 [] e w':=by
 obtain⟨W,hW⟩:∃W,W=((w.alloc (.cells #[v] 36)).alloc (.cells #[.string r0,.int .i64 r1,.int .i64 r2,.int .i64 r3] 46)).alloc (.cells #[.int .i64 0,.slice none 0 0] 76):=⟨_,rfl⟩
 have HW:Hid _:=hW.symm
 have hB:Below w.heap.size w W:=by rw[hW];exact((aj _).alloc (aj _).size _).alloc ((aj _).alloc (aj _).size _).size _
 have q2:W.heap[w.heap.size+1+1]? = some (.cells #[.int .i64 0,.slice none 0 0] 76):=by
  have h2:=heap_alloc_new ((w.alloc (.cells #[v] 36)).alloc (.cells #[.string r0,.int .i64 r1,.int .i64 r2,.int .i64 r3] 46)) (.cells #[.int .i64 0,.slice none 0 0] 76)
  simp only[World.size_alloc]at h2
  rw[hW]
  exact h2
 have q1:W.heap[w.heap.size+1]? = some (.cells #[.string r0,.int .i64 r1,.int .i64 r2,.int .i64 r3] 46):=by
  rw[hW]
  exact((aj _).block (w.heap.size+1) (by simp)).trans (bQ w _ _)
 have q0:W.heap[w.heap.size]? = some (.cells #[v] 36):=by
  rw[hW]
  exact((aj _).block w.heap.size (by simp;omega)).trans (heap_alloc_old' _ _ _ (heap_alloc_new w _))
 have hO:=fun w=>fQ s w
 have hOr:=fun v w hv=>rY (aB l) (recC r0 r1 r2 r3) (owC s) v w hv
 have kM:Hid (∀w',Below w.heap.size w w'->Rcs w' v l):=fun w' h=>hv.below h
 have jT:=fun w' h=>aJ v l w' (kM.out w' h) hl (by omega)
 have jU:=fun w=>bZ r0 r1 r2 r3 w hrs
 unfold bP at jU
 obtain⟨a,c,rfl⟩:=hv.shape
 have hok:=dR h0
 have hq:(if aB l=0 then(if recC r0 r1 r2 r3=0 then owC s else recC r0 r1 r2 r3)else aB l)=0:=by rw[if_pos h0,if_pos hr0,(kW hs0).1]
 have lZ:=fun w' h=>jG (.slice a l.length c) l w' (kM.out w' h) hok
 have hrc:Rc.c ⟨r0,r1,r2,r3⟩=0:=hr0
 have eP:=fun w=>eX r0 r1 r2 r3 w (Rc.jm hrc)
 unfold bP at eP
 have hkb:=pK r0
 have hLk:∀w b n,bT w b n (aX l l.length)->(Instr.lookup 126 (.map (some b)) (.int .i64 (aS r0)) true).run Tryz.prog w = .ok (.tuple #[nS (aX l l.length (aS r0)),.bool (aX l l.length (aS r0)).isSome]) w:=fun w b n h=>h.look hkb
 rw[lI hok,ho]at hLk
 have HDK:Hid ((dS l (aS r0)).Nodup/\∀x,x∈dS l (aS r0)↔(if x=aS r0 then none else aX l l.length x).isSome=true):=⟨kQ hok _,oD hok _⟩
 have vg:Hid ((fun y=>if y=aS r0 then some ⟨r0,r1,r2,r3⟩else(fun z=>if z=aS r0 then none else aX l l.length z) y)=upG l ⟨r0,r1,r2,r3⟩):=qH l ⟨r0,r1,r2,r3⟩
 have uY:Hid (∀ks:List Int,ks.Pairwise (· < ·)->(∀x,x∈ks↔(upG l ⟨r0,r1,r2,r3⟩ x).isSome=true)->dB (upG l ⟨r0,r1,r2,r3⟩) ks ks.length=dQ l ⟨r0,r1,r2,r3⟩):=fun ks h1 h2=>by
  unfold dB
  rw[List.take_length]
  exact qF hok ⟨r0,r1,r2,r3⟩ h1 h2
 have uV:Hid (∀x,(upG l ⟨r0,r1,r2,r3⟩ x).isSome=true->0<=x/\x<256):=fun x hx=>by
  obtain⟨y,hy⟩:=Option.isSome_iff_exists.1 hx
  rw[←((lK hok).1 hy).2]
  exact y.kbd
 have qp:l.length<=12:=hok.len
 have dO:=fun w=>fZ r0 r1 r2 r3 w hrs
 rw[(kW hs0).2]at hO
 have vU:=fun w=>nI r0 r1 r2 r3 (dH s) w
 rw[hfs]at vU
 have hdl:(dS l (aS r0)).length=12:=by rw[Ai hok ho];exact hfull
 have hx2:=hx
 clear hx2
 clear hrc
 generalize aX l l.length=g0 at *
 generalize aS r0=kz at *
 generalize dS l kz=dk at *
 generalize dH s=ow at *
 rw[hq]at hOr
 generalize aB l=df at *
 generalize recC r0 r1 r2 r3=rc at *
 generalize owC s=oc at *
 obtain⟨n,hn⟩:∃n,n=l.length:=⟨_,rfl⟩
 have HN:Hid (n=l.length):=hn
 rw[←hn]at HW kM jT q0 lZ qp
 rw[←hn]
 clear hW hv hn hq h0 hr0 hs0 ho hok hfs hfull
 go_enter Tryz.func32,Tryz.ntmps32
 go_wp2_with fail
 rw[HW.out]
 refine(hO _).mono ?_
 rintro e w1 ⟨rfl,hb1⟩
 obtain⟨W1,hW1⟩:∃W1,W1=w1.alloc (.cells #[.int .i64 oc,.int .i64 ow] 122):=⟨_,rfl⟩
 have HW1:Hid (w1.alloc (.cells #[.int .i64 oc,.int .i64 ow] 122)=W1):=hW1.symm
 have hb1':Below W.heap.size W W1:=by rw[hW1];exact hb1.alloc hb1.size _
 have p3:W1.heap[w1.heap.size]? = some (.cells #[.int .i64 oc,.int .i64 ow] 122):=by rw[hW1];exact heap_alloc_new w1 _
 have p2:=(hb1'.block _ (Array.getElem?_eq_some_iff.1 q2).1).trans q2
 have p1:=(hb1'.block _ (Array.getElem?_eq_some_iff.1 q1).1).trans q1
 have p0:=(hb1'.block _ (Array.getElem?_eq_some_iff.1 q0).1).trans q0
 have hB1:=ah hB hb1'
 have hl0:=(Array.getElem?_eq_some_iff.1 p0).1
 have hl1:=(Array.getElem?_eq_some_iff.1 p1).1
 have hl2:=(Array.getElem?_eq_some_iff.1 p2).1
 have hl3:=(Array.getElem?_eq_some_iff.1 p3).1
 have hls:w.heap.size+1+1<w1.heap.size:=Nat.lt_of_lt_of_le (Array.getElem?_eq_some_iff.1 q2).1 hb1.size
 have HD:Hid (∀w',Below W1.heap.size W1 w'->w'.cell? ⟨w.heap.size,0,none⟩=some (.slice a n c)):=fun w' h=>kJ ((h.block _ hl0).trans p0)
 have HR:Hid (∀w',Below W1.heap.size W1 w'->w'.cell? ⟨w.heap.size+1,0,none⟩=some (.string r0)/\w'.cell? ⟨w.heap.size+1,1,none⟩=some (.int .i64 r1)/\w'.cell? ⟨w.heap.size+1,2,none⟩=some (.int .i64 r2)/\w'.cell? ⟨w.heap.size+1,3,none⟩=some (.int .i64 r3)):=fun w' h=>bI ((h.block _ hl1).trans p1)
 have HP:Hid (∀w',Below W1.heap.size W1 w'->w'.heap[w.heap.size+1+1]? = some (.cells #[.int .i64 0,.slice none 0 0] 76)):=fun w' h=>(h.block _ hl2).trans p2
 have HO:Hid (∀w',Below W1.heap.size W1 w'->w'.cell? ⟨w1.heap.size,0,none⟩=some (.int .i64 oc)/\w'.cell? ⟨w1.heap.size,1,none⟩=some (.int .i64 ow)):=fun w' h=>⟨(aG ((h.block _ hl3).trans p3)).1,(aG ((h.block _ hl3).trans p3)).2.1⟩
 have oq:Hid (∀w',Below W1.heap.size W1 w'->Calls Tryz.prog 63 #[.agg #[.slice a n c]] w' fun e w''=>e = .returned (.int .i64 df)/\Below w'.heap.size w' w''):=fun w' h=>jT w' (ah hB1 h)
 have bH:Hid (∀w',Below W1.heap.size W1 w'->Below w.heap.size w w'):=fun w' h=>ah hB1 h
 have ji:Hid (∀w',Below W1.heap.size W1 w'->Calls Tryz.prog 71 #[.agg #[.slice a n c]] w' fun e w''=>e = .returned (.map (some (w'.heap.size+1)))/\Below w'.heap.size w' w''/\bT w'' (w'.heap.size+1) n g0):=fun w' h=>lZ w' (ah hB1 h)
 have hbr:=Below.refl W1.heap.size W1
 have aH:Hid (∀w',Below W1.heap.size W1 w'->w'.cell? ⟨w.heap.size,0,none⟩=some (.slice a n c)/\w'.cell? ⟨w.heap.size+1,0,none⟩=some (.string r0)/\w'.cell? ⟨w.heap.size+1,1,none⟩=some (.int .i64 r1)/\w'.cell? ⟨w.heap.size+1,2,none⟩=some (.int .i64 r2)/\w'.cell? ⟨w.heap.size+1,3,none⟩=some (.int .i64 r3)/\w'.cell? ⟨w1.heap.size,0,none⟩=some (.int .i64 oc)):=fun w' h=>⟨HD.out _ h,(HR.out _ h).1,(HR.out _ h).2.1,(HR.out _ h).2.2.1,(HR.out _ h).2.2.2,(HO.out _ h).1⟩
 obtain⟨d0,d1,d2,d3,d4,d5⟩:=aH.out _ hbr
 clear lZ hO hb1 hb1' q0 q1 q2 p0 p1 p2 p3 hB jT hW1 hB1
 go_wp2_with fail
 rw[HW1.out]
 go_region_held3 (fun w'=>w'.cell? ⟨w.heap.size,0,none⟩=some (.slice a n c)/\w'.cell? ⟨w.heap.size+1,0,none⟩=some (.string r0)/\w'.cell? ⟨w.heap.size+1,1,none⟩=some (.int .i64 r1)/\w'.cell? ⟨w.heap.size+1,2,none⟩=some (.int .i64 r2)/\w'.cell? ⟨w.heap.size+1,3,none⟩=some (.int .i64 r3)/\w'.cell? ⟨w1.heap.size,0,none⟩=some (.int .i64 oc))
  (first | with_reducible exact⟨d0,d1,d2,d3,d4,d5⟩|with_reducible exact aH.out _ hbr | with_reducible exact aH.out _ hbr.drew | with_reducible exact aH.out _ (hbr.alloc hbr.size _))
  (first
   |(go_at_call 63;refine(oq.out _ (by first | exact hbr | exact hbr.drew)).mono ?_;rintro e w2 ⟨rfl,hb2⟩;have hbr:Below W1.heap.size W1 w2:=(by first | exact ah hbr hb2 | exact ah hbr.drew hb2))
   |(go_at_call 70;refine(jU _).mono ?_;rintro e w3 ⟨rfl,hb3⟩;have hbr:Below W1.heap.size W1 w3:=(by first | exact ah hbr hb3 | exact ah hbr.drew hb3))
   |(go_at_call 46;refine(hOr _ _ (iH rfl)).mono ?_;rintro e w4 ⟨rfl,hw4⟩;have hbr:Below W1.heap.size W1 w4:=(by rw[hw4];exact hbr.alloc hbr.size _);clear hw4))
 clear oq jU hOr aH d0 d1 d2 d3 d4 d5
 have hdk:(dk.length:Int)=12:=by rw[hdl];rfl
 clear hdl
 clear hl vg uY uV dO
 have k2:=HD.out _ hbr
 go_wp2_with fail
 refine(ji.out _ hbr).mono ?_
 rintro e w5 ⟨rfl,hb5,lX⟩
 have jw:=ah hbr hb5
 have hzM:W1.heap.size<=w4.heap.size+1:=by have:=hbr.size;omega
 generalize w4.heap.size+1=M at *
 obtain⟨d0,d1,d2,d3⟩:=HR.out _ jw
 clear ji hb5 k2 hbr HD
 go_wp2_with fail
 refine(eP _).mono ?_
 rintro e w6 ⟨rfl,hb6⟩
 have jV:=ah jw hb6
 have jP:=lX.below hb6 lX.lt
 have hlk:=hLk _ _ _ jP
 unfold nS at hlk
 dsimp only[Option.getD,Option.isSome,Rc.val,rcZ]at hlk
 have gB:=jV.alloc jV.size (.cells #[.string ⟨#[]⟩,.int .i64 0,.int .i64 0,.int .i64 0] 46)
 have lY:=jP.below (aj (.cells #[.string ⟨#[]⟩,.int .i64 0,.int .i64 0,.int .i64 0] 46)) jP.lt
 obtain⟨d0,d1,d2,d3⟩:=HR.out _ gB
 obtain⟨-,d4⟩:=HO.out _ gB
 obtain⟨b0,b1,b2,b3⟩:=bI (heap_alloc_new w6 (.cells #[.string ⟨#[]⟩,.int .i64 0,.int .i64 0,.int .i64 0] 46))
 clear eP hLk jw lX hb6 jP HO
 go_wp2_with fail
 refine(vU _).mono ?_
 rintro e w7 ⟨rfl,hb7⟩
 have gy:=ah gB hb7
 have qo:=lY.below hb7 lY.lt
 clear vU lY hb7 hlk b0 b1 b2 b3 d0 d1 d2 d3 d4 gB
 go_wp2_with (first |(at_delete;refine lF rfl _ _ rfl M n g0 rfl qo kz hkb rfl ?_;intro w8 vV DY;have nK:Below W1.heap.size W1 w8:=gy.grown DY gy.size (fun j hj=>by cases hj;exact hzM);obtain⟨d0,d1,d2,d3⟩:=HR.out _ nK;obtain⟨k0,k1,f0,f1⟩:=aG (HP.out _ nK);clear DY gy qo) |(at_len;refine oU rfl _ rfl M n (fun y=>if y=kz then none else g0 y) rfl vV dk HDK.out.1 HDK.out.2 ?_;rw[hdk]))
 have gJ:=bH.out _ nK
 exact bodyPost_ret (v:= .agg #[.int .i64 11,.slice none 0 0]) (by simp[results,Tryz.results32,go_sem,k0,k1]) rfl ⟨none,0,rfl,(gJ.setCell (by show w.heap.size<=w.heap.size+1+1;omega) _).setCell (by show w.heap.size<=w.heap.size+1+1;omega) _,World.ownsRow_nil _ _ _ _⟩
theorem AP(v:Value)(l:Rcl)(r0:ByteArray)(r1 r2 r3 s:Int)(w:World)(hv:Rcs w v l)(hl:Lbs l)(hx:l.length<=1048576)(hrs:r0.size<=1048576)(h0:aB l=0)(hr0:recC r0 r1 r2 r3=0)(hs0:inB s 0 999=true)(ho:lkO l (aS r0)=none)(hfs:sO ⟨r0,r1,r2,r3⟩ (dH s)=0)(hfull:l.length<12):
  Calls Tryz.prog 32 #[.agg #[v],.agg #[.string r0,.int .i64 r1,.int .i64 r2,.int .i64 r3],.int .i64 s] w fun e w'=>lN w 0 (dQ l ⟨r0,r1,r2,r3⟩) e w':=by
 obtain⟨W,hW⟩:∃W,W=((w.alloc (.cells #[v] 36)).alloc (.cells #[.string r0,.int .i64 r1,.int .i64 r2,.int .i64 r3] 46)).alloc (.cells #[.int .i64 0,.slice none 0 0] 76):=⟨_,rfl⟩
 have HW:Hid _:=hW.symm
 have hB:Below w.heap.size w W:=by rw[hW];exact((aj _).alloc (aj _).size _).alloc ((aj _).alloc (aj _).size _).size _
 have q2:W.heap[w.heap.size+1+1]? = some (.cells #[.int .i64 0,.slice none 0 0] 76):=by
  have h2:=heap_alloc_new ((w.alloc (.cells #[v] 36)).alloc (.cells #[.string r0,.int .i64 r1,.int .i64 r2,.int .i64 r3] 46)) (.cells #[.int .i64 0,.slice none 0 0] 76)
  simp only[World.size_alloc]at h2
  rw[hW]
  exact h2
 have q1:W.heap[w.heap.size+1]? = some (.cells #[.string r0,.int .i64 r1,.int .i64 r2,.int .i64 r3] 46):=by
  rw[hW]
  exact((aj _).block (w.heap.size+1) (by simp)).trans (bQ w _ _)
 have q0:W.heap[w.heap.size]? = some (.cells #[v] 36):=by
  rw[hW]
  exact((aj _).block w.heap.size (by simp;omega)).trans (heap_alloc_old' _ _ _ (heap_alloc_new w _))
 have hO:=fun w=>fQ s w
 have hOr:=fun v w hv=>rY (aB l) (recC r0 r1 r2 r3) (owC s) v w hv
 have kM:Hid (∀w',Below w.heap.size w w'->Rcs w' v l):=fun w' h=>hv.below h
 have jT:=fun w' h=>aJ v l w' (kM.out w' h) hl (by omega)
 have jU:=fun w=>bZ r0 r1 r2 r3 w hrs
 unfold bP at jU
 obtain⟨a,c,rfl⟩:=hv.shape
 have hok:=dR h0
 have hq:(if aB l=0 then(if recC r0 r1 r2 r3=0 then owC s else recC r0 r1 r2 r3)else aB l)=0:=by rw[if_pos h0,if_pos hr0,(kW hs0).1]
 have lZ:=fun w' h=>jG (.slice a l.length c) l w' (kM.out w' h) hok
 have hrc:Rc.c ⟨r0,r1,r2,r3⟩=0:=hr0
 have eP:=fun w=>eX r0 r1 r2 r3 w (Rc.jm hrc)
 unfold bP at eP
 have hkb:=pK r0
 have hLk:∀w b n,bT w b n (aX l l.length)->(Instr.lookup 126 (.map (some b)) (.int .i64 (aS r0)) true).run Tryz.prog w = .ok (.tuple #[nS (aX l l.length (aS r0)),.bool (aX l l.length (aS r0)).isSome]) w:=fun w b n h=>h.look hkb
 rw[lI hok,ho]at hLk
 have HDK:Hid ((dS l (aS r0)).Nodup/\∀x,x∈dS l (aS r0)↔(if x=aS r0 then none else aX l l.length x).isSome=true):=⟨kQ hok _,oD hok _⟩
 have vg:Hid ((fun y=>if y=aS r0 then some ⟨r0,r1,r2,r3⟩else(fun z=>if z=aS r0 then none else aX l l.length z) y)=upG l ⟨r0,r1,r2,r3⟩):=qH l ⟨r0,r1,r2,r3⟩
 have uY:Hid (∀ks:List Int,ks.Pairwise (· < ·)->(∀x,x∈ks↔(upG l ⟨r0,r1,r2,r3⟩ x).isSome=true)->dB (upG l ⟨r0,r1,r2,r3⟩) ks ks.length=dQ l ⟨r0,r1,r2,r3⟩):=fun ks h1 h2=>by
  unfold dB
  rw[List.take_length]
  exact qF hok ⟨r0,r1,r2,r3⟩ h1 h2
 have uV:Hid (∀x,(upG l ⟨r0,r1,r2,r3⟩ x).isSome=true->0<=x/\x<256):=fun x hx=>by
  obtain⟨y,hy⟩:=Option.isSome_iff_exists.1 hx
  rw[←((lK hok).1 hy).2]
  exact y.kbd
 have qp:l.length<=12:=hok.len
 have dO:=fun w=>fZ r0 r1 r2 r3 w hrs
 rw[(kW hs0).2]at hO
 have vU:=fun w=>nI r0 r1 r2 r3 (dH s) w
 rw[hfs]at vU
 have hdl:(dS l (aS r0)).length<12:=by rw[Ai hok ho];exact hfull
 clear hrc
 generalize aX l l.length=g0 at *
 generalize aS r0=kz at *
 generalize dS l kz=dk at *
 generalize dH s=ow at *
 rw[hq]at hOr
 generalize aB l=df at *
 generalize recC r0 r1 r2 r3=rc at *
 generalize owC s=oc at *
 obtain⟨n,hn⟩:∃n,n=l.length:=⟨_,rfl⟩
 have HN:Hid (n=l.length):=hn
 rw[←hn]at HW kM jT q0 lZ qp
 rw[←hn]
 clear hW hv hn hq h0 hr0 hs0 ho hok hfs hfull
 go_enter Tryz.func32,Tryz.ntmps32
 go_wp2_with fail
 rw[HW.out]
 refine(hO _).mono ?_
 rintro e w1 ⟨rfl,hb1⟩
 obtain⟨W1,hW1⟩:∃W1,W1=w1.alloc (.cells #[.int .i64 oc,.int .i64 ow] 122):=⟨_,rfl⟩
 have HW1:Hid (w1.alloc (.cells #[.int .i64 oc,.int .i64 ow] 122)=W1):=hW1.symm
 have hb1':Below W.heap.size W W1:=by rw[hW1];exact hb1.alloc hb1.size _
 have p3:W1.heap[w1.heap.size]? = some (.cells #[.int .i64 oc,.int .i64 ow] 122):=by rw[hW1];exact heap_alloc_new w1 _
 have p2:=(hb1'.block _ (Array.getElem?_eq_some_iff.1 q2).1).trans q2
 have p1:=(hb1'.block _ (Array.getElem?_eq_some_iff.1 q1).1).trans q1
 have p0:=(hb1'.block _ (Array.getElem?_eq_some_iff.1 q0).1).trans q0
 have hB1:=ah hB hb1'
 have hl0:=(Array.getElem?_eq_some_iff.1 p0).1
 have hl1:=(Array.getElem?_eq_some_iff.1 p1).1
 have hl2:=(Array.getElem?_eq_some_iff.1 p2).1
 have hl3:=(Array.getElem?_eq_some_iff.1 p3).1
 have hls:w.heap.size+1+1<w1.heap.size:=Nat.lt_of_lt_of_le (Array.getElem?_eq_some_iff.1 q2).1 hb1.size
 have HD:Hid (∀w',Below W1.heap.size W1 w'->w'.cell? ⟨w.heap.size,0,none⟩=some (.slice a n c)):=fun w' h=>kJ ((h.block _ hl0).trans p0)
 have HR:Hid (∀w',Below W1.heap.size W1 w'->w'.cell? ⟨w.heap.size+1,0,none⟩=some (.string r0)/\w'.cell? ⟨w.heap.size+1,1,none⟩=some (.int .i64 r1)/\w'.cell? ⟨w.heap.size+1,2,none⟩=some (.int .i64 r2)/\w'.cell? ⟨w.heap.size+1,3,none⟩=some (.int .i64 r3)):=fun w' h=>bI ((h.block _ hl1).trans p1)
 have HP:Hid (∀w',Below W1.heap.size W1 w'->w'.heap[w.heap.size+1+1]? = some (.cells #[.int .i64 0,.slice none 0 0] 76)):=fun w' h=>(h.block _ hl2).trans p2
 have HO:Hid (∀w',Below W1.heap.size W1 w'->w'.cell? ⟨w1.heap.size,0,none⟩=some (.int .i64 oc)/\w'.cell? ⟨w1.heap.size,1,none⟩=some (.int .i64 ow)):=fun w' h=>⟨(aG ((h.block _ hl3).trans p3)).1,(aG ((h.block _ hl3).trans p3)).2.1⟩
 have oq:Hid (∀w',Below W1.heap.size W1 w'->Calls Tryz.prog 63 #[.agg #[.slice a n c]] w' fun e w''=>e = .returned (.int .i64 df)/\Below w'.heap.size w' w''):=fun w' h=>jT w' (ah hB1 h)
 have bH:Hid (∀w',Below W1.heap.size W1 w'->Below w.heap.size w w'):=fun w' h=>ah hB1 h
 have ji:Hid (∀w',Below W1.heap.size W1 w'->Calls Tryz.prog 71 #[.agg #[.slice a n c]] w' fun e w''=>e = .returned (.map (some (w'.heap.size+1)))/\Below w'.heap.size w' w''/\bT w'' (w'.heap.size+1) n g0):=fun w' h=>lZ w' (ah hB1 h)
 have hbr:=Below.refl W1.heap.size W1
 have aH:Hid (∀w',Below W1.heap.size W1 w'->w'.cell? ⟨w.heap.size,0,none⟩=some (.slice a n c)/\w'.cell? ⟨w.heap.size+1,0,none⟩=some (.string r0)/\w'.cell? ⟨w.heap.size+1,1,none⟩=some (.int .i64 r1)/\w'.cell? ⟨w.heap.size+1,2,none⟩=some (.int .i64 r2)/\w'.cell? ⟨w.heap.size+1,3,none⟩=some (.int .i64 r3)/\w'.cell? ⟨w1.heap.size,0,none⟩=some (.int .i64 oc)):=fun w' h=>⟨HD.out _ h,(HR.out _ h).1,(HR.out _ h).2.1,(HR.out _ h).2.2.1,(HR.out _ h).2.2.2,(HO.out _ h).1⟩
 obtain⟨d0,d1,d2,d3,d4,d5⟩:=aH.out _ hbr
 clear lZ hO hb1 hb1' q0 q1 q2 p0 p1 p2 p3 hB jT hW1 hB1
 go_wp2_with fail
 rw[HW1.out]
 go_region_held3 (fun w'=>w'.cell? ⟨w.heap.size,0,none⟩=some (.slice a n c)/\w'.cell? ⟨w.heap.size+1,0,none⟩=some (.string r0)/\w'.cell? ⟨w.heap.size+1,1,none⟩=some (.int .i64 r1)/\w'.cell? ⟨w.heap.size+1,2,none⟩=some (.int .i64 r2)/\w'.cell? ⟨w.heap.size+1,3,none⟩=some (.int .i64 r3)/\w'.cell? ⟨w1.heap.size,0,none⟩=some (.int .i64 oc))
  (first | with_reducible exact⟨d0,d1,d2,d3,d4,d5⟩|with_reducible exact aH.out _ hbr | with_reducible exact aH.out _ hbr.drew | with_reducible exact aH.out _ (hbr.alloc hbr.size _))
  (first
   |(go_at_call 63;refine(oq.out _ (by first | exact hbr | exact hbr.drew)).mono ?_;rintro e w2 ⟨rfl,hb2⟩;have hbr:Below W1.heap.size W1 w2:=(by first | exact ah hbr hb2 | exact ah hbr.drew hb2))
   |(go_at_call 70;refine(jU _).mono ?_;rintro e w3 ⟨rfl,hb3⟩;have hbr:Below W1.heap.size W1 w3:=(by first | exact ah hbr hb3 | exact ah hbr.drew hb3))
   |(go_at_call 46;refine(hOr _ _ (iH rfl)).mono ?_;rintro e w4 ⟨rfl,hw4⟩;have hbr:Below W1.heap.size W1 w4:=(by rw[hw4];exact hbr.alloc hbr.size _);clear hw4))
 clear oq jU hOr aH d0 d1 d2 d3 d4 d5
 obtain⟨dn,hdk⟩:∃dn,(dk.length:Int)=dn:=⟨_,rfl⟩
 have YH:(dn==12)=false:=by rw[←hdk];simp;omega
 clear hdl
 clear hl
 have k2:=HD.out _ hbr
 go_wp2_with fail
 refine(ji.out _ hbr).mono ?_
 rintro e w5 ⟨rfl,hb5,lX⟩
 have jw:=ah hbr hb5
 have hzM:W1.heap.size<=w4.heap.size+1:=by have:=hbr.size;omega
 generalize w4.heap.size+1=M at *
 obtain⟨d0,d1,d2,d3⟩:=HR.out _ jw
 clear ji hb5 k2 hbr HD
 go_wp2_with fail
 refine(eP _).mono ?_
 rintro e w6 ⟨rfl,hb6⟩
 have jV:=ah jw hb6
 have jP:=lX.below hb6 lX.lt
 have hlk:=hLk _ _ _ jP
 unfold nS at hlk
 dsimp only[Option.getD,Option.isSome,Rc.val,rcZ]at hlk
 have gB:=jV.alloc jV.size (.cells #[.string ⟨#[]⟩,.int .i64 0,.int .i64 0,.int .i64 0] 46)
 have lY:=jP.below (aj (.cells #[.string ⟨#[]⟩,.int .i64 0,.int .i64 0,.int .i64 0] 46)) jP.lt
 obtain⟨d0,d1,d2,d3⟩:=HR.out _ gB
 obtain⟨-,d4⟩:=HO.out _ gB
 obtain⟨b0,b1,b2,b3⟩:=bI (heap_alloc_new w6 (.cells #[.string ⟨#[]⟩,.int .i64 0,.int .i64 0,.int .i64 0] 46))
 clear eP hLk jw lX hb6 jP HO
 go_wp2_with fail
 refine(vU _).mono ?_
 rintro e w7 ⟨rfl,hb7⟩
 have gy:=ah gB hb7
 have qo:=lY.below hb7 lY.lt
 clear vU lY hb7 hlk b0 b1 b2 b3 d0 d1 d2 d3 d4 gB
 go_wp2_with (first |(at_delete;refine lF rfl _ _ rfl M n g0 rfl qo kz hkb rfl ?_;intro w8 vV DY;have nK:Below W1.heap.size W1 w8:=gy.grown DY gy.size (fun j hj=>by cases hj;exact hzM);obtain⟨d0,d1,d2,d3⟩:=HR.out _ nK;obtain⟨k0,k1,f0,f1⟩:=aG (HP.out _ nK);clear DY gy qo) |(at_len;refine oU rfl _ rfl M n (fun y=>if y=kz then none else g0 y) rfl vV dk HDK.out.1 HDK.out.2 ?_;rw[hdk]))
 refine(dO _).mono ?_
 rintro e w9 ⟨rfl,qU⟩
 have zD:=ah nK qU
 obtain⟨w10,hrun10,FX,Gp⟩:=(vV.below qU vV.lt).store (by unfold maxLen;omega:n<maxLen) hkb ⟨r0,r1,r2,r3⟩
 dsimp only[Rc.val]at hrun10
 have Aq:Below W1.heap.size W1 w10:=zD.grown Gp zD.size (fun j hj=>by cases hj;exact hzM)
 have FY:bT w10 M (n+1) (upG l ⟨r0,r1,r2,r3⟩):=by rw[←vg.out];exact FX
 have Pn:=qg M (n+1) _ w10 FY (by omega) uV.out
 clear dO qU vV nK FX Gp FY d0 d1 d2 d3 zD k0 k1 f0 f1
 go_wp2_with fail
 refine Pn.mono ?_
 rintro e Jj ⟨ks,u,rfl,hks,hkm,rO,sW⟩
 have sV:=ah Aq rO
 have hlk2:=uY.out ks hks hkm
 have hll:ks.length=(dQ l ⟨r0,r1,r2,r3⟩).length:=by rw[←hlk2,Bz _ (Nat.le_refl _)]
 rw[hlk2,hll]at sW
 obtain⟨a2,c2,rfl⟩:=aW sW
 obtain⟨k0,k1,f0,f1⟩:=aG (HP.out _ sV)
 have gJ:Hid (Below w.heap.size w Jj):=bH.out _ sV
 have VN:Hid (Jj.ownsRow w10.heap.size 46 4 (.slice a2 (dQ l ⟨r0,r1,r2,r3⟩).length c2) (dQ l ⟨r0,r1,r2,r3⟩).length (flR (dQ l ⟨r0,r1,r2,r3⟩))):=sW
 have Gv:w.heap.size+1+1<w10.heap.size:=Nat.lt_of_lt_of_le (by omega:w.heap.size+1+1<W1.heap.size) Aq.size
 clear HP bH sV HR Pn sW hks hkm hlk2 hll rO uY uV vg HDK hrun10
 go_wp2
 refine bodyPost_ret (v:= .agg #[.int .i64 0,.slice a2 (dQ l ⟨r0,r1,r2,r3⟩).length c2]) (by simp[results,Tryz.results32,go_sem,k0,k1]) rfl ⟨a2,c2,rfl,(gJ.out.setCell (by show w.heap.size<=w.heap.size+1+1;omega) _).setCell (by show w.heap.size<=w.heap.size+1+1;omega) _, ?_⟩
 exact aF (ownsRow_setCell_below (ownsRow_setCell_below VN.out (by show w.heap.size+1+1<w10.heap.size;exact Gv) _) (by show w.heap.size+1+1<w10.heap.size;exact Gv) _) (by omega)
def gvC(l:Rcl)(r:Rc)(s:Int):Int:=if aB l=0 then(if r.c=0 then owC s else r.c)else aB l
theorem Wv{l:Rcl}{r:Rc}{s:Int}(h:¬gvC l r s=0):upC l r s=gvC l r s/\upL l r s=[]:=by
 have e:upC l r s=gvC l r s:=by
  unfold upC gvC at *
  by_cases h0:aB l=0
  ·rw[if_pos h0]at h ⊢
   rw[if_pos h0]
   by_cases h1:r.c=0
   ·rw[if_pos h1]at h ⊢
    rw[if_pos h1]
    unfold nN owC at *
    rcases Bool.eq_false_or_eq_true (inB s 0 999)with hs | hs
    ·rw[if_pos hs]at h;exact absurd rfl h
    ·rw[if_neg (by rw[hs];decide),if_neg (by rw[hs];decide)]
   ·rw[if_neg h1,if_neg h1]
  ·rw[if_neg h0,if_neg h0]
 refine⟨e, ?_⟩
 unfold upL
 rw[e,if_neg h]
theorem Xj{l:Rcl}{r:Rc}{s:Int}(h:gvC l r s=0):aB l=0/\r.c=0/\inB s 0 999=true/\upC l r s=tN (lkO l r.k) (decide (12<=l.length)) r (dH s):=by
 unfold gvC at h
 by_cases h0:aB l=0
 ·rw[if_pos h0]at h
  by_cases h1:r.c=0
  ·rw[if_pos h1]at h
   unfold owC at h
   rcases Bool.eq_false_or_eq_true (inB s 0 999)with hs | hs
   ·refine⟨h0,h1,hs, ?_⟩
    unfold upC nN
    rw[if_pos h0,if_pos h1,if_pos hs]
   ·rw[if_neg (by rw[hs];decide)]at h;omega
  ·rw[if_neg h1]at h;exact absurd h h1
 ·rw[if_neg h0]at h;exact absurd h h0
theorem Qc(f:Bool)(r:Rc)(ow:Int):tN none f r ow=if sO r ow=0 then(if f=true then 11 else 0)else sO r ow:=by
 unfold tN sO
 dsimp only
 by_cases h1:r.v=1
 ·by_cases h2:ow=r.o
  ·simp[h1,h2]
  ·simp[h1,h2]
 ·simp[h1]
theorem mF(v:Value)(l:Rcl)(r0:ByteArray)(r1 r2 r3 s:Int)(w:World)(hv:Rcs w v l)(hl:Lbs l)(hx:l.length<=1048576)(hrs:r0.size<=1048576):
  Calls Tryz.prog 32 #[.agg #[v],.agg #[.string r0,.int .i64 r1,.int .i64 r2,.int .i64 r3],.int .i64 s] w fun e w'=>lN w (upC l ⟨r0,r1,r2,r3⟩ s) (upL l ⟨r0,r1,r2,r3⟩ s) e w':=by
 by_cases hg:gvC l ⟨r0,r1,r2,r3⟩ s=0
 ·obtain⟨h0,h1,hs,e⟩:=Xj hg
  rcases ho:lkO l (Rc.k ⟨r0,r1,r2,r3⟩)with _ |⟨x0,x1,x2,x3⟩
  ·rw[ho,Qc]at e
   by_cases hf:sO ⟨r0,r1,r2,r3⟩ (dH s)=0
   ·rw[if_pos hf]at e
    by_cases hn:12<=l.length
    ·rw[if_pos (by simpa using hn)]at e
     have e2:upL l ⟨r0,r1,r2,r3⟩ s=[]:=by unfold upL;rw[e,if_neg (by decide)]
     rw[e,e2]
     exact yD v l r0 r1 r2 r3 s w hv hl hx hrs h0 h1 hs ho hf (by have:=(dR h0).len;omega)
    ·rw[if_neg (by simpa using hn)]at e
     have e2:upL l ⟨r0,r1,r2,r3⟩ s=dQ l ⟨r0,r1,r2,r3⟩:=by unfold upL;rw[e,if_pos rfl]
     rw[e,e2]
     exact AP v l r0 r1 r2 r3 s w hv hl hx hrs h0 h1 hs ho hf (by omega)
   ·rw[if_neg hf]at e
    have e2:upL l ⟨r0,r1,r2,r3⟩ s=[]:=by unfold upL;rw[e,if_neg hf]
    rw[e,e2]
    exact zL v l r0 r1 r2 r3 s w hv hl hx hrs h0 h1 hs _ ho rfl hf
  ·rw[ho]at e
   have e1:tN (some ⟨x0,x1,x2,x3⟩) (decide (12<=l.length)) ⟨r0,r1,r2,r3⟩ (dH s)=nxC ⟨x0,x1,x2,x3⟩ ⟨r0,r1,r2,r3⟩ (dH s):=rfl
   rw[e1]at e
   by_cases hf:nxC ⟨x0,x1,x2,x3⟩ ⟨r0,r1,r2,r3⟩ (dH s)=0
   ·rw[hf]at e
    have e2:upL l ⟨r0,r1,r2,r3⟩ s=dQ l ⟨r0,r1,r2,r3⟩:=by unfold upL;rw[e,if_pos rfl]
    rw[e,e2]
    exact AQ v l r0 r1 r2 r3 s w hv hl hx hrs h0 h1 hs _ _ _ _ ho hf
   ·have e2:upL l ⟨r0,r1,r2,r3⟩ s=[]:=by unfold upL;rw[e,if_neg hf]
    rw[e,e2]
    exact zM v l r0 r1 r2 r3 s w hv hl hx hrs h0 h1 hs _ _ _ _ _ ho rfl hf
 ·obtain⟨e1,e2⟩:=Wv hg
  rw[e1,e2]
  exact CX v l r0 r1 r2 r3 s w hv hl hx hrs _ rfl hg
end U
end Go.Proofs.YtmmcgjacojgeaaaGreat
