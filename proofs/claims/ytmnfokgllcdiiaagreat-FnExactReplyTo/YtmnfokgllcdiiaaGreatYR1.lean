/- Joined: what the texts behind it need. -/
import Derived.Test.YtmnfokgllcdiiaaGreatYBC
import Derived.Test.YtmnfokgllcdiiaaGreatYBB
set_option maxRecDepth 100000
set_option maxHeartbeats 16000000
namespace Go.Proofs.YtmnfokgllcdiiaaGreat
open Go.RowKit
namespace U
def sib(x:Int)(n:Nat):Int:=if x/(2^n:Nat)%2=0 then x/(2^n:Nat)+1 else x/(2^n:Nat) - 1
def pth(l:Prl)(x:Int):Nat->List Int
 | 0=>[]
 | n+1=>pth l x n++[nd l n (sib x n)]
theorem yg(l:Prl)(x:Int)(n:Nat):(pth l x n).length=n:=by
 induction n with
 | zero=>rfl
 | succ n ih=>unfold pth;simp[ih]
def opC(l:Prl)(x:Int):Int:=if slF l=0 then(if inB x 0 255=true then 0 else 3)else slF l
def opL(l:Prl)(x:Int):List Int:=if slF l=0/\inB x 0 255=true then pth l x 8 else []
theorem kP{x q:Int}{n:Nat}{S:Int}(hS:((2^n:Nat):Int)=S)(hq:q=x/S)(h:q%2=0):sib x n=q+1:=by
 unfold sib
 rw[hS,←hq,if_pos h]
theorem mF{x q:Int}{n:Nat}{S:Int}(hS:((2^n:Nat):Int)=S)(hq:q=x/S)(h:¬q%2=0):sib x n=q - 1:=by
 unfold sib
 rw[hS,←hq,if_neg h]
theorem fO{w:World}{B:Nat}{e:TypeId}{v:Value}{zs:List Int}{b:Int}(h:w.ownsRow B e 1 v (zs.length+1) (zs.map (Value.int .i64)++[.int .i64 b])):w.ownsRow B e 1 v (zs++[b]).length ((zs++[b]).map (Value.int .i64)):=by
 rw[List.map_append,List.length_append];exact h
theorem Qg(w:World)(e:TypeId)(B:Nat)(hB:B<=w.heap.size):(w.alloc (.cells #[] e)).ownsRow B e 1 (.slice (some ⟨w.heap.size,0,none⟩) 0 0) 0 []:=
 World.ownsRow_made w #[] 0 hB (by decide) rfl
theorem BR(v:Value)(l:Prl)(x:Int)(w:World)(hv:Prs w v l)(hl:l.length<=1048576)(hf:∀p∈l,fine p=true)(hx:0<=x/\x<=255):
  Calls Tryz.prog 155 #[v,.int .i64 x] w fun e w'=>∃v',e = .returned v'/\w'.ownsRow w.heap.size 2 1 v' (pth l x 8).length ((pth l x 8).map (Value.int .i64))/\Below w.heap.size w w':=by
 obtain⟨i0,hi,hz0,hz1,hz2⟩:=info_parts Tryz.DL
 have HV:Hid (∀w',Below w.heap.size w w'->Prs w' v l):=fun w' h=>hv.below h
 obtain⟨ad,c,rfl⟩:=hv.shape
 have HF:Hid (∀p∈l,fine p=true):=hf
 have HL:Hid (l.length<=1048576):=hl
 obtain⟨n,hn⟩:∃n,n=l.length:=⟨_,rfl⟩
 rw[←hn]at HV hl ⊢
 clear hv hf hn
 go_enter Tryz.func155,Tryz.ntmps155
 go_wp2
 go_loopw [5,6] (fun u i wr=>∃k:Nat,k<=8/\i = .int .i64 k/\Hid (Below w.heap.size w wr)/\Hid (wr.ownsRow w.heap.size 2 1 u (pth l x k).length ((pth l x k).map (Value.int .i64)))) (fun _ i _=>8 - (intOf i).toNat)
 case atStart=>exact⟨0,Nat.zero_le _,rfl,aj _,Qg w _ _ (Nat.le_refl _)⟩
 case round=>
  obtain⟨k,hk,rfl,hB,ho⟩:=hrel
  have hlen:(pth l x k).length<=8:=by rw[yg];exact hk
  obtain⟨K,hK⟩:∃K:Int,K=(k:Int):=⟨_,rfl⟩
  rw[←hK]
  by_cases hk8:k<8
  ·have HS:Hid (pth l x (k+1)=pth l x k++[nd l k (sib x k)]):=by show _=_;rfl
   have ho2:=ho.out
   obtain⟨a',c',rfl⟩:=aQ ho2
   have hsz:=hB.out.size
   generalize pth l x k=m at *
   clear ho
   rcases(by omega:(k=0/\K=0)∨(k=1/\K=1)∨(k=2/\K=2)∨(k=3/\K=3)∨(k=4/\K=4)∨(k=5/\K=5)∨(k=6/\K=6)∨(k=7/\K=7))with⟨rfl,rfl⟩ |⟨rfl,rfl⟩ |⟨rfl,rfl⟩ |⟨rfl,rfl⟩ |⟨rfl,rfl⟩ |⟨rfl,rfl⟩ |⟨rfl,rfl⟩ |⟨rfl,rfl⟩
   ·have HQ:Hid (x=x/1):=by show _=_;omega
    have e3:x.tmod 2=x%2:=by rw[Int.tmod_eq_emod_of_nonneg (by omega)]
    clear hK hk hk8
    by_cases h2:x%2=0
    ·skip
     have hN:=fun w' h=>uj (.slice ad n c) l (x+1) (x+1) w' (HV.out w' h) HL.out HF.out (by show _=_;omega) (by omega)
     have iL:Hid (pth l x (0+1)=m++[nd l 0 (x+1)]):=by
      show _=_
      rw[HS.out,kP (S:=1) rfl HQ.out h2]
     generalize nd l 0 (x+1)=y at *
     have h2b:(x%2==0)=true:=by simpa using h2
     clear HS h2
     go_wp2_with fail
     refine(hN _ hB.out).mono ?_
     rintro e w1 ⟨rfl,hb1⟩
     have hB1:=ah hB.out hb1
     have ho1:=own_below ho2 hb1
     have hsz1:=hB1.size
     clear hN hb1 ho2
     go_wp2_with (at_builtin;refine wpList_append_own _ rfl _ _ 61 rfl w.heap.size 2 i0 (.int .i64 0) 1 8 Tryz.underlying61 hi hz0 hz1 hz2 rfl (by decide) _ _ _ rfl (ho1.alloc _) ⟨w1.heap.size,0,none⟩ 1 1 [.int .i64 y] rfl rfl (World.news_of_block (heap_alloc_new _ _)) (ints_oneCell .i64 [y]) (by unfold maxLen;omega) (by omega) (by simp;omega) ?_)
     intro v2 w2 hown' hgrow _
     have hb2:Below w.heap.size w w2:=(hB1.alloc (by omega) _).grown hgrow (by simp;omega) (fun k hk=>(ho1.lt k hk).1)
     have aN:=fO hown'
     clear hgrow hown' ho1
     go_wp2
     go_roundw
     case rel=>exact⟨0+1,by omega,by go_num,hb2,by rw[iL.out];exact aN⟩
     case measure=>simp[intOf]
    ·have hq1:1<=x:=by omega
     have hN:=fun w' h=>uj (.slice ad n c) l (x - 1) (x - 1) w' (HV.out w' h) HL.out HF.out (by show _=_;omega) (by omega)
     have iL:Hid (pth l x (0+1)=m++[nd l 0 (x - 1)]):=by
      show _=_
      rw[HS.out,mF (S:=1) rfl HQ.out h2]
     generalize nd l 0 (x - 1)=y at *
     have h2b:(x%2==0)=false:=by simpa using h2
     clear HS h2
     go_wp2_with fail
     refine(hN _ hB.out).mono ?_
     rintro e w1 ⟨rfl,hb1⟩
     have hB1:=ah hB.out hb1
     have ho1:=own_below ho2 hb1
     have hsz1:=hB1.size
     clear hN hb1 ho2
     go_wp2_with (at_builtin;refine wpList_append_own _ rfl _ _ 61 rfl w.heap.size 2 i0 (.int .i64 0) 1 8 Tryz.underlying61 hi hz0 hz1 hz2 rfl (by decide) _ _ _ rfl (ho1.alloc _) ⟨w1.heap.size,0,none⟩ 1 1 [.int .i64 y] rfl rfl (World.news_of_block (heap_alloc_new _ _)) (ints_oneCell .i64 [y]) (by unfold maxLen;omega) (by omega) (by simp;omega) ?_)
     intro v2 w2 hown' hgrow _
     have hb2:Below w.heap.size w w2:=(hB1.alloc (by omega) _).grown hgrow (by simp;omega) (fun k hk=>(ho1.lt k hk).1)
     have aN:=fO hown'
     clear hgrow hown' ho1
     go_wp2
     go_roundw
     case rel=>exact⟨0+1,by omega,by go_num,hb2,by rw[iL.out];exact aN⟩
     case measure=>simp[intOf]
   ·obtain⟨q,hq⟩:∃q:Int,q=x/2:=⟨_,rfl⟩
    have HQ:Hid (q=x/2):=hq
    have BD:0<=q/\q*2<=255:=by omega
    have e1:x.tdiv 2=q:=by rw[Int.tdiv_eq_ediv_of_nonneg (by omega)];exact hq.symm
    have e2:(q*2).tdiv 2=q:=Int.mul_tdiv_cancel q (by omega)
    have e3:q.tmod 2=q%2:=by rw[Int.tmod_eq_emod_of_nonneg (by omega)]
    clear hq hK hk hk8
    by_cases h2:q%2=0
    ·skip
     have hN:=fun w' h=>um (.slice ad n c) l (q*2+2) (q+1) w' (HV.out w' h) HL.out HF.out (by show _=_;omega) (by omega)
     have iL:Hid (pth l x (1+1)=m++[nd l 1 (q+1)]):=by
      show _=_
      rw[HS.out,kP (S:=2) rfl HQ.out h2]
     generalize nd l 1 (q+1)=y at *
     have h2b:(q%2==0)=true:=by simpa using h2
     clear HS h2
     go_wp2_with fail
     refine(hN _ hB.out).mono ?_
     rintro e w1 ⟨rfl,hb1⟩
     have hB1:=ah hB.out hb1
     have ho1:=own_below ho2 hb1
     have hsz1:=hB1.size
     clear hN hb1 ho2
     go_wp2_with (at_builtin;refine wpList_append_own _ rfl _ _ 61 rfl w.heap.size 2 i0 (.int .i64 0) 1 8 Tryz.underlying61 hi hz0 hz1 hz2 rfl (by decide) _ _ _ rfl (ho1.alloc _) ⟨w1.heap.size,0,none⟩ 1 1 [.int .i64 y] rfl rfl (World.news_of_block (heap_alloc_new _ _)) (ints_oneCell .i64 [y]) (by unfold maxLen;omega) (by omega) (by simp;omega) ?_)
     intro v2 w2 hown' hgrow _
     have hb2:Below w.heap.size w w2:=(hB1.alloc (by omega) _).grown hgrow (by simp;omega) (fun k hk=>(ho1.lt k hk).1)
     have aN:=fO hown'
     clear hgrow hown' ho1
     go_wp2
     go_roundw
     case rel=>exact⟨1+1,by omega,by go_num,hb2,by rw[iL.out];exact aN⟩
     case measure=>simp[intOf]
    ·have hq1:1<=q:=by omega
     have hN:=fun w' h=>um (.slice ad n c) l (q*2 - 2) (q - 1) w' (HV.out w' h) HL.out HF.out (by show _=_;omega) (by omega)
     have iL:Hid (pth l x (1+1)=m++[nd l 1 (q - 1)]):=by
      show _=_
      rw[HS.out,mF (S:=2) rfl HQ.out h2]
     generalize nd l 1 (q - 1)=y at *
     have h2b:(q%2==0)=false:=by simpa using h2
     clear HS h2
     go_wp2_with fail
     refine(hN _ hB.out).mono ?_
     rintro e w1 ⟨rfl,hb1⟩
     have hB1:=ah hB.out hb1
     have ho1:=own_below ho2 hb1
     have hsz1:=hB1.size
     clear hN hb1 ho2
     go_wp2_with (at_builtin;refine wpList_append_own _ rfl _ _ 61 rfl w.heap.size 2 i0 (.int .i64 0) 1 8 Tryz.underlying61 hi hz0 hz1 hz2 rfl (by decide) _ _ _ rfl (ho1.alloc _) ⟨w1.heap.size,0,none⟩ 1 1 [.int .i64 y] rfl rfl (World.news_of_block (heap_alloc_new _ _)) (ints_oneCell .i64 [y]) (by unfold maxLen;omega) (by omega) (by simp;omega) ?_)
     intro v2 w2 hown' hgrow _
     have hb2:Below w.heap.size w w2:=(hB1.alloc (by omega) _).grown hgrow (by simp;omega) (fun k hk=>(ho1.lt k hk).1)
     have aN:=fO hown'
     clear hgrow hown' ho1
     go_wp2
     go_roundw
     case rel=>exact⟨1+1,by omega,by go_num,hb2,by rw[iL.out];exact aN⟩
     case measure=>simp[intOf]
   ·obtain⟨q,hq⟩:∃q:Int,q=x/4:=⟨_,rfl⟩
    have HQ:Hid (q=x/4):=hq
    have BD:0<=q/\q*4<=255:=by omega
    have e1:x.tdiv 4=q:=by rw[Int.tdiv_eq_ediv_of_nonneg (by omega)];exact hq.symm
    have e2:(q*4).tdiv 4=q:=Int.mul_tdiv_cancel q (by omega)
    have e3:q.tmod 2=q%2:=by rw[Int.tmod_eq_emod_of_nonneg (by omega)]
    clear hq hK hk hk8
    by_cases h2:q%2=0
    ·skip
     have hN:=fun w' h=>uo (.slice ad n c) l (q*4+4) (q+1) w' (HV.out w' h) HL.out HF.out (by show _=_;omega) (by omega)
     have iL:Hid (pth l x (2+1)=m++[nd l 2 (q+1)]):=by
      show _=_
      rw[HS.out,kP (S:=4) rfl HQ.out h2]
     generalize nd l 2 (q+1)=y at *
     have h2b:(q%2==0)=true:=by simpa using h2
     clear HS h2
     go_wp2_with fail
     refine(hN _ hB.out).mono ?_
     rintro e w1 ⟨rfl,hb1⟩
     have hB1:=ah hB.out hb1
     have ho1:=own_below ho2 hb1
     have hsz1:=hB1.size
     clear hN hb1 ho2
     go_wp2_with (at_builtin;refine wpList_append_own _ rfl _ _ 61 rfl w.heap.size 2 i0 (.int .i64 0) 1 8 Tryz.underlying61 hi hz0 hz1 hz2 rfl (by decide) _ _ _ rfl (ho1.alloc _) ⟨w1.heap.size,0,none⟩ 1 1 [.int .i64 y] rfl rfl (World.news_of_block (heap_alloc_new _ _)) (ints_oneCell .i64 [y]) (by unfold maxLen;omega) (by omega) (by simp;omega) ?_)
     intro v2 w2 hown' hgrow _
     have hb2:Below w.heap.size w w2:=(hB1.alloc (by omega) _).grown hgrow (by simp;omega) (fun k hk=>(ho1.lt k hk).1)
     have aN:=fO hown'
     clear hgrow hown' ho1
     go_wp2
     go_roundw
     case rel=>exact⟨2+1,by omega,by go_num,hb2,by rw[iL.out];exact aN⟩
     case measure=>simp[intOf]
    ·have hq1:1<=q:=by omega
     have hN:=fun w' h=>uo (.slice ad n c) l (q*4 - 4) (q - 1) w' (HV.out w' h) HL.out HF.out (by show _=_;omega) (by omega)
     have iL:Hid (pth l x (2+1)=m++[nd l 2 (q - 1)]):=by
      show _=_
      rw[HS.out,mF (S:=4) rfl HQ.out h2]
     generalize nd l 2 (q - 1)=y at *
     have h2b:(q%2==0)=false:=by simpa using h2
     clear HS h2
     go_wp2_with fail
     refine(hN _ hB.out).mono ?_
     rintro e w1 ⟨rfl,hb1⟩
     have hB1:=ah hB.out hb1
     have ho1:=own_below ho2 hb1
     have hsz1:=hB1.size
     clear hN hb1 ho2
     go_wp2_with (at_builtin;refine wpList_append_own _ rfl _ _ 61 rfl w.heap.size 2 i0 (.int .i64 0) 1 8 Tryz.underlying61 hi hz0 hz1 hz2 rfl (by decide) _ _ _ rfl (ho1.alloc _) ⟨w1.heap.size,0,none⟩ 1 1 [.int .i64 y] rfl rfl (World.news_of_block (heap_alloc_new _ _)) (ints_oneCell .i64 [y]) (by unfold maxLen;omega) (by omega) (by simp;omega) ?_)
     intro v2 w2 hown' hgrow _
     have hb2:Below w.heap.size w w2:=(hB1.alloc (by omega) _).grown hgrow (by simp;omega) (fun k hk=>(ho1.lt k hk).1)
     have aN:=fO hown'
     clear hgrow hown' ho1
     go_wp2
     go_roundw
     case rel=>exact⟨2+1,by omega,by go_num,hb2,by rw[iL.out];exact aN⟩
     case measure=>simp[intOf]
   ·obtain⟨q,hq⟩:∃q:Int,q=x/8:=⟨_,rfl⟩
    have HQ:Hid (q=x/8):=hq
    have BD:0<=q/\q*8<=255:=by omega
    have e1:x.tdiv 8=q:=by rw[Int.tdiv_eq_ediv_of_nonneg (by omega)];exact hq.symm
    have e2:(q*8).tdiv 8=q:=Int.mul_tdiv_cancel q (by omega)
    have e3:q.tmod 2=q%2:=by rw[Int.tmod_eq_emod_of_nonneg (by omega)]
    clear hq hK hk hk8
    by_cases h2:q%2=0
    ·skip
     have hN:=fun w' h=>uq (.slice ad n c) l (q*8+8) (q+1) w' (HV.out w' h) HL.out HF.out (by show _=_;omega) (by omega)
     have iL:Hid (pth l x (3+1)=m++[nd l 3 (q+1)]):=by
      show _=_
      rw[HS.out,kP (S:=8) rfl HQ.out h2]
     generalize nd l 3 (q+1)=y at *
     have h2b:(q%2==0)=true:=by simpa using h2
     clear HS h2
     go_wp2_with fail
     refine(hN _ hB.out).mono ?_
     rintro e w1 ⟨rfl,hb1⟩
     have hB1:=ah hB.out hb1
     have ho1:=own_below ho2 hb1
     have hsz1:=hB1.size
     clear hN hb1 ho2
     go_wp2_with (at_builtin;refine wpList_append_own _ rfl _ _ 61 rfl w.heap.size 2 i0 (.int .i64 0) 1 8 Tryz.underlying61 hi hz0 hz1 hz2 rfl (by decide) _ _ _ rfl (ho1.alloc _) ⟨w1.heap.size,0,none⟩ 1 1 [.int .i64 y] rfl rfl (World.news_of_block (heap_alloc_new _ _)) (ints_oneCell .i64 [y]) (by unfold maxLen;omega) (by omega) (by simp;omega) ?_)
     intro v2 w2 hown' hgrow _
     have hb2:Below w.heap.size w w2:=(hB1.alloc (by omega) _).grown hgrow (by simp;omega) (fun k hk=>(ho1.lt k hk).1)
     have aN:=fO hown'
     clear hgrow hown' ho1
     go_wp2
     go_roundw
     case rel=>exact⟨3+1,by omega,by go_num,hb2,by rw[iL.out];exact aN⟩
     case measure=>simp[intOf]
    ·have hq1:1<=q:=by omega
     have hN:=fun w' h=>uq (.slice ad n c) l (q*8 - 8) (q - 1) w' (HV.out w' h) HL.out HF.out (by show _=_;omega) (by omega)
     have iL:Hid (pth l x (3+1)=m++[nd l 3 (q - 1)]):=by
      show _=_
      rw[HS.out,mF (S:=8) rfl HQ.out h2]
     generalize nd l 3 (q - 1)=y at *
     have h2b:(q%2==0)=false:=by simpa using h2
     clear HS h2
     go_wp2_with fail
     refine(hN _ hB.out).mono ?_
     rintro e w1 ⟨rfl,hb1⟩
     have hB1:=ah hB.out hb1
     have ho1:=own_below ho2 hb1
     have hsz1:=hB1.size
     clear hN hb1 ho2
     go_wp2_with (at_builtin;refine wpList_append_own _ rfl _ _ 61 rfl w.heap.size 2 i0 (.int .i64 0) 1 8 Tryz.underlying61 hi hz0 hz1 hz2 rfl (by decide) _ _ _ rfl (ho1.alloc _) ⟨w1.heap.size,0,none⟩ 1 1 [.int .i64 y] rfl rfl (World.news_of_block (heap_alloc_new _ _)) (ints_oneCell .i64 [y]) (by unfold maxLen;omega) (by omega) (by simp;omega) ?_)
     intro v2 w2 hown' hgrow _
     have hb2:Below w.heap.size w w2:=(hB1.alloc (by omega) _).grown hgrow (by simp;omega) (fun k hk=>(ho1.lt k hk).1)
     have aN:=fO hown'
     clear hgrow hown' ho1
     go_wp2
     go_roundw
     case rel=>exact⟨3+1,by omega,by go_num,hb2,by rw[iL.out];exact aN⟩
     case measure=>simp[intOf]
   ·obtain⟨q,hq⟩:∃q:Int,q=x/16:=⟨_,rfl⟩
    have HQ:Hid (q=x/16):=hq
    have BD:0<=q/\q*16<=255:=by omega
    have e1:x.tdiv 16=q:=by rw[Int.tdiv_eq_ediv_of_nonneg (by omega)];exact hq.symm
    have e2:(q*16).tdiv 16=q:=Int.mul_tdiv_cancel q (by omega)
    have e3:q.tmod 2=q%2:=by rw[Int.tmod_eq_emod_of_nonneg (by omega)]
    clear hq hK hk hk8
    by_cases h2:q%2=0
    ·skip
     have hN:=fun w' h=>uw (.slice ad n c) l (q*16+16) (q+1) w' (HV.out w' h) HL.out HF.out (by show _=_;omega) (by omega)
     have iL:Hid (pth l x (4+1)=m++[nd l 4 (q+1)]):=by
      show _=_
      rw[HS.out,kP (S:=16) rfl HQ.out h2]
     generalize nd l 4 (q+1)=y at *
     have h2b:(q%2==0)=true:=by simpa using h2
     clear HS h2
     go_wp2_with fail
     refine(hN _ hB.out).mono ?_
     rintro e w1 ⟨rfl,hb1⟩
     have hB1:=ah hB.out hb1
     have ho1:=own_below ho2 hb1
     have hsz1:=hB1.size
     clear hN hb1 ho2
     go_wp2_with (at_builtin;refine wpList_append_own _ rfl _ _ 61 rfl w.heap.size 2 i0 (.int .i64 0) 1 8 Tryz.underlying61 hi hz0 hz1 hz2 rfl (by decide) _ _ _ rfl (ho1.alloc _) ⟨w1.heap.size,0,none⟩ 1 1 [.int .i64 y] rfl rfl (World.news_of_block (heap_alloc_new _ _)) (ints_oneCell .i64 [y]) (by unfold maxLen;omega) (by omega) (by simp;omega) ?_)
     intro v2 w2 hown' hgrow _
     have hb2:Below w.heap.size w w2:=(hB1.alloc (by omega) _).grown hgrow (by simp;omega) (fun k hk=>(ho1.lt k hk).1)
     have aN:=fO hown'
     clear hgrow hown' ho1
     go_wp2
     go_roundw
     case rel=>exact⟨4+1,by omega,by go_num,hb2,by rw[iL.out];exact aN⟩
     case measure=>simp[intOf]
    ·have hq1:1<=q:=by omega
     have hN:=fun w' h=>uw (.slice ad n c) l (q*16 - 16) (q - 1) w' (HV.out w' h) HL.out HF.out (by show _=_;omega) (by omega)
     have iL:Hid (pth l x (4+1)=m++[nd l 4 (q - 1)]):=by
      show _=_
      rw[HS.out,mF (S:=16) rfl HQ.out h2]
     generalize nd l 4 (q - 1)=y at *
     have h2b:(q%2==0)=false:=by simpa using h2
     clear HS h2
     go_wp2_with fail
     refine(hN _ hB.out).mono ?_
     rintro e w1 ⟨rfl,hb1⟩
     have hB1:=ah hB.out hb1
     have ho1:=own_below ho2 hb1
     have hsz1:=hB1.size
     clear hN hb1 ho2
     go_wp2_with (at_builtin;refine wpList_append_own _ rfl _ _ 61 rfl w.heap.size 2 i0 (.int .i64 0) 1 8 Tryz.underlying61 hi hz0 hz1 hz2 rfl (by decide) _ _ _ rfl (ho1.alloc _) ⟨w1.heap.size,0,none⟩ 1 1 [.int .i64 y] rfl rfl (World.news_of_block (heap_alloc_new _ _)) (ints_oneCell .i64 [y]) (by unfold maxLen;omega) (by omega) (by simp;omega) ?_)
     intro v2 w2 hown' hgrow _
     have hb2:Below w.heap.size w w2:=(hB1.alloc (by omega) _).grown hgrow (by simp;omega) (fun k hk=>(ho1.lt k hk).1)
     have aN:=fO hown'
     clear hgrow hown' ho1
     go_wp2
     go_roundw
     case rel=>exact⟨4+1,by omega,by go_num,hb2,by rw[iL.out];exact aN⟩
     case measure=>simp[intOf]
   ·obtain⟨q,hq⟩:∃q:Int,q=x/32:=⟨_,rfl⟩
    have HQ:Hid (q=x/32):=hq
    have BD:0<=q/\q*32<=255:=by omega
    have e1:x.tdiv 32=q:=by rw[Int.tdiv_eq_ediv_of_nonneg (by omega)];exact hq.symm
    have e2:(q*32).tdiv 32=q:=Int.mul_tdiv_cancel q (by omega)
    have e3:q.tmod 2=q%2:=by rw[Int.tmod_eq_emod_of_nonneg (by omega)]
    clear hq hK hk hk8
    by_cases h2:q%2=0
    ·skip
     have hN:=fun w' h=>uy (.slice ad n c) l (q*32+32) (q+1) w' (HV.out w' h) HL.out HF.out (by show _=_;omega) (by omega)
     have iL:Hid (pth l x (5+1)=m++[nd l 5 (q+1)]):=by
      show _=_
      rw[HS.out,kP (S:=32) rfl HQ.out h2]
     generalize nd l 5 (q+1)=y at *
     have h2b:(q%2==0)=true:=by simpa using h2
     clear HS h2
     go_wp2_with fail
     refine(hN _ hB.out).mono ?_
     rintro e w1 ⟨rfl,hb1⟩
     have hB1:=ah hB.out hb1
     have ho1:=own_below ho2 hb1
     have hsz1:=hB1.size
     clear hN hb1 ho2
     go_wp2_with (at_builtin;refine wpList_append_own _ rfl _ _ 61 rfl w.heap.size 2 i0 (.int .i64 0) 1 8 Tryz.underlying61 hi hz0 hz1 hz2 rfl (by decide) _ _ _ rfl (ho1.alloc _) ⟨w1.heap.size,0,none⟩ 1 1 [.int .i64 y] rfl rfl (World.news_of_block (heap_alloc_new _ _)) (ints_oneCell .i64 [y]) (by unfold maxLen;omega) (by omega) (by simp;omega) ?_)
     intro v2 w2 hown' hgrow _
     have hb2:Below w.heap.size w w2:=(hB1.alloc (by omega) _).grown hgrow (by simp;omega) (fun k hk=>(ho1.lt k hk).1)
     have aN:=fO hown'
     clear hgrow hown' ho1
     go_wp2
     go_roundw
     case rel=>exact⟨5+1,by omega,by go_num,hb2,by rw[iL.out];exact aN⟩
     case measure=>simp[intOf]
    ·have hq1:1<=q:=by omega
     have hN:=fun w' h=>uy (.slice ad n c) l (q*32 - 32) (q - 1) w' (HV.out w' h) HL.out HF.out (by show _=_;omega) (by omega)
     have iL:Hid (pth l x (5+1)=m++[nd l 5 (q - 1)]):=by
      show _=_
      rw[HS.out,mF (S:=32) rfl HQ.out h2]
     generalize nd l 5 (q - 1)=y at *
     have h2b:(q%2==0)=false:=by simpa using h2
     clear HS h2
     go_wp2_with fail
     refine(hN _ hB.out).mono ?_
     rintro e w1 ⟨rfl,hb1⟩
     have hB1:=ah hB.out hb1
     have ho1:=own_below ho2 hb1
     have hsz1:=hB1.size
     clear hN hb1 ho2
     go_wp2_with (at_builtin;refine wpList_append_own _ rfl _ _ 61 rfl w.heap.size 2 i0 (.int .i64 0) 1 8 Tryz.underlying61 hi hz0 hz1 hz2 rfl (by decide) _ _ _ rfl (ho1.alloc _) ⟨w1.heap.size,0,none⟩ 1 1 [.int .i64 y] rfl rfl (World.news_of_block (heap_alloc_new _ _)) (ints_oneCell .i64 [y]) (by unfold maxLen;omega) (by omega) (by simp;omega) ?_)
     intro v2 w2 hown' hgrow _
     have hb2:Below w.heap.size w w2:=(hB1.alloc (by omega) _).grown hgrow (by simp;omega) (fun k hk=>(ho1.lt k hk).1)
     have aN:=fO hown'
     clear hgrow hown' ho1
     go_wp2
     go_roundw
     case rel=>exact⟨5+1,by omega,by go_num,hb2,by rw[iL.out];exact aN⟩
     case measure=>simp[intOf]
   ·obtain⟨q,hq⟩:∃q:Int,q=x/64:=⟨_,rfl⟩
    have HQ:Hid (q=x/64):=hq
    have BD:0<=q/\q*64<=255:=by omega
    have e1:x.tdiv 64=q:=by rw[Int.tdiv_eq_ediv_of_nonneg (by omega)];exact hq.symm
    have e2:(q*64).tdiv 64=q:=Int.mul_tdiv_cancel q (by omega)
    have e3:q.tmod 2=q%2:=by rw[Int.tmod_eq_emod_of_nonneg (by omega)]
    clear hq hK hk hk8
    by_cases h2:q%2=0
    ·skip
     have hN:=fun w' h=>uz (.slice ad n c) l (q*64+64) (q+1) w' (HV.out w' h) HL.out HF.out (by show _=_;omega) (by omega)
     have iL:Hid (pth l x (6+1)=m++[nd l 6 (q+1)]):=by
      show _=_
      rw[HS.out,kP (S:=64) rfl HQ.out h2]
     generalize nd l 6 (q+1)=y at *
     have h2b:(q%2==0)=true:=by simpa using h2
     clear HS h2
     go_wp2_with fail
     refine(hN _ hB.out).mono ?_
     rintro e w1 ⟨rfl,hb1⟩
     have hB1:=ah hB.out hb1
     have ho1:=own_below ho2 hb1
     have hsz1:=hB1.size
     clear hN hb1 ho2
     go_wp2_with (at_builtin;refine wpList_append_own _ rfl _ _ 61 rfl w.heap.size 2 i0 (.int .i64 0) 1 8 Tryz.underlying61 hi hz0 hz1 hz2 rfl (by decide) _ _ _ rfl (ho1.alloc _) ⟨w1.heap.size,0,none⟩ 1 1 [.int .i64 y] rfl rfl (World.news_of_block (heap_alloc_new _ _)) (ints_oneCell .i64 [y]) (by unfold maxLen;omega) (by omega) (by simp;omega) ?_)
     intro v2 w2 hown' hgrow _
     have hb2:Below w.heap.size w w2:=(hB1.alloc (by omega) _).grown hgrow (by simp;omega) (fun k hk=>(ho1.lt k hk).1)
     have aN:=fO hown'
     clear hgrow hown' ho1
     go_wp2
     go_roundw
     case rel=>exact⟨6+1,by omega,by go_num,hb2,by rw[iL.out];exact aN⟩
     case measure=>simp[intOf]
    ·have hq1:1<=q:=by omega
     have hN:=fun w' h=>uz (.slice ad n c) l (q*64 - 64) (q - 1) w' (HV.out w' h) HL.out HF.out (by show _=_;omega) (by omega)
     have iL:Hid (pth l x (6+1)=m++[nd l 6 (q - 1)]):=by
      show _=_
      rw[HS.out,mF (S:=64) rfl HQ.out h2]
     generalize nd l 6 (q - 1)=y at *
     have h2b:(q%2==0)=false:=by simpa using h2
     clear HS h2
     go_wp2_with fail
     refine(hN _ hB.out).mono ?_
     rintro e w1 ⟨rfl,hb1⟩
     have hB1:=ah hB.out hb1
     have ho1:=own_below ho2 hb1
     have hsz1:=hB1.size
     clear hN hb1 ho2
     go_wp2_with (at_builtin;refine wpList_append_own _ rfl _ _ 61 rfl w.heap.size 2 i0 (.int .i64 0) 1 8 Tryz.underlying61 hi hz0 hz1 hz2 rfl (by decide) _ _ _ rfl (ho1.alloc _) ⟨w1.heap.size,0,none⟩ 1 1 [.int .i64 y] rfl rfl (World.news_of_block (heap_alloc_new _ _)) (ints_oneCell .i64 [y]) (by unfold maxLen;omega) (by omega) (by simp;omega) ?_)
     intro v2 w2 hown' hgrow _
     have hb2:Below w.heap.size w w2:=(hB1.alloc (by omega) _).grown hgrow (by simp;omega) (fun k hk=>(ho1.lt k hk).1)
     have aN:=fO hown'
     clear hgrow hown' ho1
     go_wp2
     go_roundw
     case rel=>exact⟨6+1,by omega,by go_num,hb2,by rw[iL.out];exact aN⟩
     case measure=>simp[intOf]
   ·obtain⟨q,hq⟩:∃q:Int,q=x/128:=⟨_,rfl⟩
    have HQ:Hid (q=x/128):=hq
    have BD:0<=q/\q*128<=255:=by omega
    have e1:x.tdiv 128=q:=by rw[Int.tdiv_eq_ediv_of_nonneg (by omega)];exact hq.symm
    have e2:(q*128).tdiv 128=q:=Int.mul_tdiv_cancel q (by omega)
    have e3:q.tmod 2=q%2:=by rw[Int.tmod_eq_emod_of_nonneg (by omega)]
    clear hq hK hk hk8
    by_cases h2:q%2=0
    ·skip
     have hN:=fun w' h=>uD (.slice ad n c) l (q*128+128) (q+1) w' (HV.out w' h) HL.out HF.out (by show _=_;omega) (by omega)
     have iL:Hid (pth l x (7+1)=m++[nd l 7 (q+1)]):=by
      show _=_
      rw[HS.out,kP (S:=128) rfl HQ.out h2]
     generalize nd l 7 (q+1)=y at *
     have h2b:(q%2==0)=true:=by simpa using h2
     clear HS h2
     go_wp2_with fail
     refine(hN _ hB.out).mono ?_
     rintro e w1 ⟨rfl,hb1⟩
     have hB1:=ah hB.out hb1
     have ho1:=own_below ho2 hb1
     have hsz1:=hB1.size
     clear hN hb1 ho2
     go_wp2_with (at_builtin;refine wpList_append_own _ rfl _ _ 61 rfl w.heap.size 2 i0 (.int .i64 0) 1 8 Tryz.underlying61 hi hz0 hz1 hz2 rfl (by decide) _ _ _ rfl (ho1.alloc _) ⟨w1.heap.size,0,none⟩ 1 1 [.int .i64 y] rfl rfl (World.news_of_block (heap_alloc_new _ _)) (ints_oneCell .i64 [y]) (by unfold maxLen;omega) (by omega) (by simp;omega) ?_)
     intro v2 w2 hown' hgrow _
     have hb2:Below w.heap.size w w2:=(hB1.alloc (by omega) _).grown hgrow (by simp;omega) (fun k hk=>(ho1.lt k hk).1)
     have aN:=fO hown'
     clear hgrow hown' ho1
     go_wp2
     go_roundw
     case rel=>exact⟨7+1,by omega,by go_num,hb2,by rw[iL.out];exact aN⟩
     case measure=>simp[intOf]
    ·have hq1:1<=q:=by omega
     have hN:=fun w' h=>uD (.slice ad n c) l (q*128 - 128) (q - 1) w' (HV.out w' h) HL.out HF.out (by show _=_;omega) (by omega)
     have iL:Hid (pth l x (7+1)=m++[nd l 7 (q - 1)]):=by
      show _=_
      rw[HS.out,mF (S:=128) rfl HQ.out h2]
     generalize nd l 7 (q - 1)=y at *
     have h2b:(q%2==0)=false:=by simpa using h2
     clear HS h2
     go_wp2_with fail
     refine(hN _ hB.out).mono ?_
     rintro e w1 ⟨rfl,hb1⟩
     have hB1:=ah hB.out hb1
     have ho1:=own_below ho2 hb1
     have hsz1:=hB1.size
     clear hN hb1 ho2
     go_wp2_with (at_builtin;refine wpList_append_own _ rfl _ _ 61 rfl w.heap.size 2 i0 (.int .i64 0) 1 8 Tryz.underlying61 hi hz0 hz1 hz2 rfl (by decide) _ _ _ rfl (ho1.alloc _) ⟨w1.heap.size,0,none⟩ 1 1 [.int .i64 y] rfl rfl (World.news_of_block (heap_alloc_new _ _)) (ints_oneCell .i64 [y]) (by unfold maxLen;omega) (by omega) (by simp;omega) ?_)
     intro v2 w2 hown' hgrow _
     have hb2:Below w.heap.size w w2:=(hB1.alloc (by omega) _).grown hgrow (by simp;omega) (fun k hk=>(ho1.lt k hk).1)
     have aN:=fO hown'
     clear hgrow hown' ho1
     go_wp2
     go_roundw
     case rel=>exact⟨7+1,by omega,by go_num,hb2,by rw[iL.out];exact aN⟩
     case measure=>simp[intOf]
  ·have hk8:k=8:=by omega
   subst hk8 hK
   obtain⟨a',c',rfl⟩:=aQ ho.out
   go_wp2
   go_ret
   exact⟨_,rfl,ho.out,hB.out⟩
def bn(w:World)(g:Nat)(f:Nat->Int):Prop:=w.heap[g]? = some (.cells (bH f) 340)
theorem bn.at{w:World}{g:Nat}{f:Nat->Int}(h:bn w g f):bV w g f:=bV.of h
theorem bn.below{w w':World}{g B:Nat}{f:Nat->Int}(h:bn w g f)(hb:Below B w w')(hg:g<B):bn w' g f:=(hb.block g hg).trans h
theorem bn.set{w:World}{g k:Nat}{f:Nat->Int}(h:bn w g f)(hk:k<9)(x:Int):bn (w.setCell ⟨g,k,none⟩ (.int .i64 x)) g (fun j=>if j=k then x else f j):=by
 have h1:=heap_setCell_same w g k (bH f) 340 (.int .i64 x) h
 unfold bn
 rw[h1]
 rcases lt9 hk with rfl | rfl | rfl | rfl | rfl | rfl | rfl | rfl | rfl<;>rfl
theorem bn.other{w:World}{g k b:Nat}{f:Nat->Int}(h:bn w g f)(hb:b≠g)(x:Value):bn (w.setCell ⟨b,k,none⟩ x) g f:=
 (heap_setCell_other w ⟨b,k,none⟩ g x (fun e=>hb (by simpa using e.symm))).trans h
theorem bn.congr{w:World}{g:Nat}{f f':Nat->Int}(h:bn w g f)(e:∀j,j<9->f j=f' j):bn w g f':=by
 have:bH f=bH f':=by unfold bH;rw[e 0 (by omega),e 1 (by omega),e 2 (by omega),e 3 (by omega),e 4 (by omega),e 5 (by omega),e 6 (by omega),e 7 (by omega),e 8 (by omega)]
 unfold bn at h ⊢
 rw[←this];exact h
def pf(l:Prl)(x:Int)(k j:Nat):Int:=if j<k then nd l j (sib x j)else emp j
theorem mg{l:Prl}{x:Int}{k:Nat}:∀j,j<9->(fun j=>if j=k then nd l k (sib x k)else pf l x k j) j=pf l x (k+1) j:=fun j _=>by
 show(if j=k then nd l k (sib x k)else pf l x k j)=pf l x (k+1) j
 unfold pf
 by_cases e:j=k
 ·subst e;rw[if_pos rfl,if_pos (by omega)]
 ·rw[if_neg e]
  by_cases e2:j<k
  ·rw[if_pos e2,if_pos (by omega)]
  ·rw[if_neg e2,if_neg (by omega)]
theorem l9{l:Prl}{x:Int}{k:Nat}(h:nd l k (sib x k)=emp k):∀j,j<9->pf l x k j=pf l x (k+1) j:=fun j _=>by
 unfold pf
 by_cases e:j=k
 ·subst e;rw[if_neg (by omega),if_pos (by omega),h]
 ·by_cases e2:j<k
  ·rw[if_pos e2,if_pos (by omega)]
  ·rw[if_neg e2,if_neg (by omega)]
theorem Wq(l:Prl)(x:Int):(bH (pf l x 8)).toList.take 8=(pth l x 8).map (Value.int .i64):=by
 simp[bH,pf,pth]
def xP(w:World)(code:Int)(xs:List Int)(e:Ending)(w':World):Prop:=
 Below w.heap.size w w'/\∃v t,e = .returned (.agg #[.int .i64 code,v])/\w'.ownsRow w.heap.size t 1 v xs.length (xs.map (Value.int .i64))
theorem xP.use{w w':World}{code:Int}{xs:List Int}{e:Ending}(h:xP w code xs e w'):∃a c t,e = .returned (.agg #[.int .i64 code,.slice a xs.length c])/\Below w.heap.size w w'/\w'.ownsRow w.heap.size t 1 (.slice a xs.length c) xs.length (xs.map (Value.int .i64)):=by
 obtain⟨hb,v,t,rfl,ho⟩:=h
 obtain⟨a,c,rfl⟩:=aQ ho
 exact⟨a,c,t,rfl,hb,ho⟩
theorem lZ{l:Prl}(hr:Ris l)(hf:∀p∈l,fine p=true)(k:Nat)(q:Int):prt (cut l (q*(2^k:Nat)) (q*(2^k:Nat)+(2^k:Nat))) k=nd l k q:=by
 rw[Qp (kU hr _ _) (fun p hp=>(jS (hf p (Dp.1 hp).1)).1.1) (q:=q) (fun p hp=>LQ.2 (Dp.1 hp).2),Wn]
theorem U6:∀q:Fin 256,bits BinOp.xor IntKind.i64 ((q.1:Nat):Int) 1=if((q.1:Nat):Int)%2=0 then((q.1:Nat):Int)+1 else((q.1:Nat):Int) - 1:=by decide +kernel
theorem mJ{q:Int}(h0:0<=q)(h1:q<=255):bits BinOp.xor IntKind.i64 q 1=if q%2=0 then q+1 else q - 1:=by
 have:=U6 ⟨q.toNat,by omega⟩
 have e:((q.toNat:Nat):Int)=q:=by omega
 simp only[e]at this
 exact this
theorem DI(ad:Option Addr)(n c:Nat)(l:Prl)(x:Int)(w:World)(hv:Prs w (.slice ad n c) l)(hok:Okv (.slice ad n c))(hs:Sls l)(hx:0<=x/\x<=255)
  (hF:∀w',Below w.heap.size w w'->Calls Tryz.prog 200 #[.slice ad n c] w' fun e w''=>e = .returned (.int .i64 0)/\Below w'.heap.size w' w'')
  (hK:∀w',Calls Tryz.prog 264 #[.int .i64 x] w' fun e w''=>e = .returned (.bool true)/\w''=w') :
  Calls Tryz.prog 218 #[.slice ad n c,.int .i64 x] w fun e w'=>xP w 0 (pth l x 8) e w':=by
 have hE:=fun w=>vk w
 simp only[bH]at hE
 have HV:Hid (∀w',Below w.heap.size w w'->Prs w' (.slice ad n c) l):=fun w' h=>hv.below h
 have yO:Hid (Okv (.slice ad n c)):=hok
 have HSL:Hid (Sls l):=hs
 clear hv hok hs
 go_enter Tryz.func218,Tryz.ntmps218
 go_wp2_with fail
 refine(hF _ (aj _)).mono ?_
 rintro e w1 ⟨rfl,hb1⟩
 clear hF
 go_wp2_with fail
 refine(hK _).mono ?_
 rintro e ZR ⟨rfl,rfl⟩
 clear hK
 go_wp2_with fail
 refine(hE _).mono ?_
 rintro e w2 ⟨rfl,hb2⟩
 have hb2':=ah hb1 hb2
 have hB2:=ak hb2'
 have hR2:=(hb2'.block w.heap.size (by simp)).trans (heap_alloc_new w _)
 have hz2:w.heap.size<w2.heap.size:=by have:=hb2'.size;simp at this;omega
 have A1:bn (w2.alloc (.cells (bH emp) 340)) w2.heap.size emp:=heap_alloc_new _ _
 obtain⟨c0,c1,c2,c3,c4,c5,c6,c7,c8⟩:=A1.at.cells
 have A2:bn ((w2.alloc (.cells (bH emp) 340)).alloc (.cells (bH emp) 340)) w2.heap.size emp:=A1.below (aj _) (by simp)
 have A3:bn ((w2.alloc (.cells (bH emp) 340)).alloc (.cells (bH emp) 340)) (w2.heap.size+1) emp:=by
  have:=heap_alloc_new (w2.alloc (.cells (bH emp) 340)) (.cells (bH emp) 340)
  rw[World.size_alloc]at this
  exact this
 have hB3:Below w.heap.size w ((w2.alloc (.cells (bH emp) 340)).alloc (.cells (bH emp) 340)):=ah hB2 (aA _ _)
 have X8:((w2.alloc (.cells (bH emp) 340)).alloc (.cells (bH emp) 340)).heap[w.heap.size]? = some (.cells #[.int .i64 0,.slice none 0 0] 245):=((aA _ _).block w.heap.size hz2).trans hR2
 have hz3:w2.heap.size+2<=((w2.alloc (.cells (bH emp) 340)).alloc (.cells (bH emp) 340)).heap.size:=by simp
 have HH:Hid (bn ((w2.alloc (.cells (bH emp) 340)).alloc (.cells (bH emp) 340)) w2.heap.size emp/\bn ((w2.alloc (.cells (bH emp) 340)).alloc (.cells (bH emp) 340)) (w2.heap.size+1) (pf l x 0)/\Below w.heap.size w ((w2.alloc (.cells (bH emp) 340)).alloc (.cells (bH emp) 340))/\((w2.alloc (.cells (bH emp) 340)).alloc (.cells (bH emp) 340)).heap[w.heap.size]? = some (.cells #[.int .i64 0,.slice none 0 0] 245)):=⟨A2,A3,hB3,X8⟩
 clear A1 A2 A3 hB3 X8 hb2' hB2 hR2 hb1 hb2 hE hz3
 go_wp2
 go_loopw [23] (fun i wr=>∃k:Nat,k<=8/\i = .int .i64 k/\w2.heap.size+2<=wr.heap.size/\Hid (bn wr w2.heap.size emp/\bn wr (w2.heap.size+1) (pf l x k)/\Below w.heap.size w wr/\wr.heap[w.heap.size]? = some (.cells #[.int .i64 0,.slice none 0 0] 245))) (fun i _=>8 - (intOf i).toNat)
 case atStart=>exact⟨0,Nat.zero_le _,rfl,by simp,HH⟩
 case round=>
  obtain⟨k,hk,rfl,hz,HI⟩:=hrel
  clear c0 c1 c2 c3 c4 c5 c6 c7 c8
  obtain⟨K,yQ⟩:∃K:Int,K=(k:Int):=⟨_,rfl⟩
  rw[←yQ]
  by_cases hk8:k<8
  ·have hl12:=HSL.out.len
   rcases(by omega:(k=0/\K=0)∨(k=1/\K=1)∨(k=2/\K=2)∨(k=3/\K=3)∨(k=4/\K=4)∨(k=5/\K=5)∨(k=6/\K=6)∨(k=7/\K=7))with⟨rfl,rfl⟩ |⟨rfl,rfl⟩ |⟨rfl,rfl⟩ |⟨rfl,rfl⟩ |⟨rfl,rfl⟩ |⟨rfl,rfl⟩ |⟨rfl,rfl⟩ |⟨rfl,rfl⟩
   ·obtain⟨r,hr⟩:∃r:Int,r=sib x 0:=⟨_,rfl⟩
    have hrb:(r=x/1+1∨r=x/1 - 1/\1<=x/1):=by
     rw[hr]
     unfold sib
     rw[show((2^0:Nat):Int)=1 from rfl]
     split
     ·exact Or.inl rfl
     ·right;omega
    have hrr:0<=r/\r*1+1<=1000:=by omega
    have ex:bits BinOp.xor IntKind.i64 (x) 1=r:=by
     rw[mJ (by omega) (by omega),hr]
     unfold sib
     rw[show((2^0:Nat):Int)=1 from rfl]
     rw[Int.ediv_one]
    have fD:cut l (r*((2^0:Nat):Int)) (r*((2^0:Nat):Int)+((2^0:Nat):Int))=cut l (r) (r+1):=by
     rw[show((2^0:Nat):Int)=1 from rfl];rw[Int.mul_one]
    have esd:=lZ HSL.out.ris HSL.out.fin 0 r
    have eno:cut l (r) (r+1)=[]->nd l 0 r=emp 0:=fun h=>dS (bU.1 (by rw[fD];exact h))
    rw[fD]at esd
    have hcl:=eu l (r) (r+1)
    have hcr:=kU HSL.out.ris (r) (r+1)
    have hcf:=dU (a:=r) (b:=r+1) HSL.out.fin
    have kK:=fun w' h=>dI (.slice ad n c) l (r) (r+1) w' (HV.out w' h) yO.out HSL.out.len HSL.out.ris (by omega)
    have HST:Hid (∀j,j<9->(fun j=>if j=0 then nd l 0 r else pf l x 0 j) j=pf l x (0+1) j):=by rw[hr];exact mg
    have iM:Hid (nd l 0 r=emp 0->∀j,j<9->pf l x 0 j=pf l x (0+1) j):=fun h=>l9 (by rw[←hr];exact h)
    generalize cut l (r) (r+1)=m at *
    have dw:=fun u w' hu=>gB u m 0 w' hu (by omega) hcr hcf (by omega)
    rw[esd]at dw
    simp only[bH]at dw
    rw[show((0:Nat):Int)=0 from rfl]at dw
    have fC:Hid (m=[]->nd l 0 r=emp 0):=eno
    have zM:m.length<=12:=by omega
    generalize nd l 0 r=y at *
    clear yQ hk hk8 fD esd eno hcl hcr hcf hr hl12 hrb
    go_wp2_with fail
    refine(kK _ HI.out.2.2.1).mono ?_
    rintro e w3 ⟨⟨qx,qA,rfl,hp3,-⟩,hb3⟩
    have hp3:=hp3.below hb3
    have hz3:=hb3.size
    obtain⟨HA1,HA2,dB,dL⟩:=HI.out
    have HI3:Hid (bn w3 w2.heap.size emp/\bn w3 (w2.heap.size+1) (pf l x 0)/\Below w.heap.size w w3/\w3.heap[w.heap.size]? = some (.cells #[.int .i64 0,.slice none 0 0] 245)):=⟨HA1.below hb3 (by omega),HA2.below hb3 (by omega),ah dB hb3,(hb3.block w.heap.size (by omega)).trans dL⟩
    have yS:w2.heap.size+2<=w3.heap.size:=by omega
    clear kK HI HA1 HA2 dB dL hb3 hz
    by_cases hm0:m=[]
    ·have HS2:Hid (∀j,j<9->pf l x 0 j=pf l x (0+1) j):=iM.out (fC.out hm0)
     subst hm0
     simp only[List.length_nil]
     clear dw hp3 HST iM fC
     go_wp2
     go_roundw
     case rel=>exact⟨0+1,by omega,by go_num,by omega,⟨HI3.out.1,HI3.out.2.1.congr HS2.out,HI3.out.2.2.1,HI3.out.2.2.2⟩⟩
     case measure=>simp[intOf]
    ·have hml:(0:Int)<(m.length:Int):=by have:0<m.length:=List.length_pos_iff.2 hm0;omega
     obtain⟨c0,c1,c2,c3,c4,c5,c6,c7,c8⟩:=HI3.out.1.at.cells
     have jG:Hid (Prs w3 (.slice qx m.length qA) m):=hp3
     clear hm0 iM fC hp3
     go_wp2_with fail
     refine(dw _ _ jG.out).mono ?_
     rintro e w4 ⟨rfl,hb4⟩
     obtain⟨HA1,HA2,dB,dL⟩:=HI3.out
     have HB2:=HA2.below hb4 (by omega)
     have k1:=HB2.at.c 0 (by omega)
     have z1:=HB2.at.z 0 (by omega)
     have H6:=hb4.size
     have HI4:Hid (bn (w4.setCell ⟨w2.heap.size+1,0,none⟩ (.int .i64 y)) w2.heap.size emp/\bn (w4.setCell ⟨w2.heap.size+1,0,none⟩ (.int .i64 y)) (w2.heap.size+1) (pf l x (0+1))/\Below w.heap.size w (w4.setCell ⟨w2.heap.size+1,0,none⟩ (.int .i64 y))/\(w4.setCell ⟨w2.heap.size+1,0,none⟩ (.int .i64 y)).heap[w.heap.size]? = some (.cells #[.int .i64 0,.slice none 0 0] 245)):=
      ⟨(HA1.below hb4 (by omega)).other (by omega) _,(HB2.set (by omega) y).congr HST.out,(ah dB hb4).setCell (by show w.heap.size<=w2.heap.size+1;omega) _,(heap_setCell_other w4 ⟨w2.heap.size+1,0,none⟩ w.heap.size _ (by show w.heap.size≠w2.heap.size+1;omega)).trans ((hb4.block w.heap.size (by omega)).trans dL)⟩
     clear dw HI3 HA1 HA2 dB dL HB2 hb4 HST jG c0 c1 c2 c3 c4 c5 c6 c7 c8
     go_wp2
     go_roundw
     case rel=>exact⟨0+1,by omega,by go_num,by simp;omega,HI4⟩
     case measure=>simp[intOf]
   ·obtain⟨r,hr⟩:∃r:Int,r=sib x 1:=⟨_,rfl⟩
    have hrb:(r=x/2+1∨r=x/2 - 1/\1<=x/2):=by
     rw[hr]
     unfold sib
     rw[show((2^1:Nat):Int)=2 from rfl]
     split
     ·exact Or.inl rfl
     ·right;omega
    have hrr:0<=r/\r*2+2<=1000:=by omega
    have ex:bits BinOp.xor IntKind.i64 (x/2) 1=r:=by
     rw[mJ (by omega) (by omega),hr]
     unfold sib
     rw[show((2^1:Nat):Int)=2 from rfl]
     skip
    have fD:cut l (r*((2^1:Nat):Int)) (r*((2^1:Nat):Int)+((2^1:Nat):Int))=cut l (r*2) (r*2+2):=by
     rw[show((2^1:Nat):Int)=2 from rfl]
    have esd:=lZ HSL.out.ris HSL.out.fin 1 r
    have eno:cut l (r*2) (r*2+2)=[]->nd l 1 r=emp 1:=fun h=>dS (bU.1 (by rw[fD];exact h))
    rw[fD]at esd
    have hcl:=eu l (r*2) (r*2+2)
    have hcr:=kU HSL.out.ris (r*2) (r*2+2)
    have hcf:=dU (a:=r*2) (b:=r*2+2) HSL.out.fin
    have kK:=fun w' h=>dI (.slice ad n c) l (r*2) (r*2+2) w' (HV.out w' h) yO.out HSL.out.len HSL.out.ris (by omega)
    have HST:Hid (∀j,j<9->(fun j=>if j=1 then nd l 1 r else pf l x 1 j) j=pf l x (1+1) j):=by rw[hr];exact mg
    have iM:Hid (nd l 1 r=emp 1->∀j,j<9->pf l x 1 j=pf l x (1+1) j):=fun h=>l9 (by rw[←hr];exact h)
    generalize cut l (r*2) (r*2+2)=m at *
    have dw:=fun u w' hu=>gB u m 1 w' hu (by omega) hcr hcf (by omega)
    rw[esd]at dw
    simp only[bH]at dw
    rw[show((1:Nat):Int)=1 from rfl]at dw
    have fC:Hid (m=[]->nd l 1 r=emp 1):=eno
    have zM:m.length<=12:=by omega
    generalize nd l 1 r=y at *
    clear yQ hk hk8 fD esd eno hcl hcr hcf hr hl12 hrb
    go_wp2_with fail
    refine(kK _ HI.out.2.2.1).mono ?_
    rintro e w3 ⟨⟨qx,qA,rfl,hp3,-⟩,hb3⟩
    have hp3:=hp3.below hb3
    have hz3:=hb3.size
    obtain⟨HA1,HA2,dB,dL⟩:=HI.out
    have HI3:Hid (bn w3 w2.heap.size emp/\bn w3 (w2.heap.size+1) (pf l x 1)/\Below w.heap.size w w3/\w3.heap[w.heap.size]? = some (.cells #[.int .i64 0,.slice none 0 0] 245)):=⟨HA1.below hb3 (by omega),HA2.below hb3 (by omega),ah dB hb3,(hb3.block w.heap.size (by omega)).trans dL⟩
    have yS:w2.heap.size+2<=w3.heap.size:=by omega
    clear kK HI HA1 HA2 dB dL hb3 hz
    by_cases hm0:m=[]
    ·have HS2:Hid (∀j,j<9->pf l x 1 j=pf l x (1+1) j):=iM.out (fC.out hm0)
     subst hm0
     simp only[List.length_nil]
     clear dw hp3 HST iM fC
     go_wp2
     go_roundw
     case rel=>exact⟨1+1,by omega,by go_num,by omega,⟨HI3.out.1,HI3.out.2.1.congr HS2.out,HI3.out.2.2.1,HI3.out.2.2.2⟩⟩
     case measure=>simp[intOf]
    ·have hml:(0:Int)<(m.length:Int):=by have:0<m.length:=List.length_pos_iff.2 hm0;omega
     obtain⟨c0,c1,c2,c3,c4,c5,c6,c7,c8⟩:=HI3.out.1.at.cells
     have jG:Hid (Prs w3 (.slice qx m.length qA) m):=hp3
     clear hm0 iM fC hp3
     go_wp2_with fail
     refine(dw _ _ jG.out).mono ?_
     rintro e w4 ⟨rfl,hb4⟩
     obtain⟨HA1,HA2,dB,dL⟩:=HI3.out
     have HB2:=HA2.below hb4 (by omega)
     have k1:=HB2.at.c 1 (by omega)
     have z1:=HB2.at.z 1 (by omega)
     have H6:=hb4.size
     have HI4:Hid (bn (w4.setCell ⟨w2.heap.size+1,1,none⟩ (.int .i64 y)) w2.heap.size emp/\bn (w4.setCell ⟨w2.heap.size+1,1,none⟩ (.int .i64 y)) (w2.heap.size+1) (pf l x (1+1))/\Below w.heap.size w (w4.setCell ⟨w2.heap.size+1,1,none⟩ (.int .i64 y))/\(w4.setCell ⟨w2.heap.size+1,1,none⟩ (.int .i64 y)).heap[w.heap.size]? = some (.cells #[.int .i64 0,.slice none 0 0] 245)):=
      ⟨(HA1.below hb4 (by omega)).other (by omega) _,(HB2.set (by omega) y).congr HST.out,(ah dB hb4).setCell (by show w.heap.size<=w2.heap.size+1;omega) _,(heap_setCell_other w4 ⟨w2.heap.size+1,1,none⟩ w.heap.size _ (by show w.heap.size≠w2.heap.size+1;omega)).trans ((hb4.block w.heap.size (by omega)).trans dL)⟩
     clear dw HI3 HA1 HA2 dB dL HB2 hb4 HST jG c0 c1 c2 c3 c4 c5 c6 c7 c8
     go_wp2
     go_roundw
     case rel=>exact⟨1+1,by omega,by go_num,by simp;omega,HI4⟩
     case measure=>simp[intOf]
   ·obtain⟨r,hr⟩:∃r:Int,r=sib x 2:=⟨_,rfl⟩
    have hrb:(r=x/4+1∨r=x/4 - 1/\1<=x/4):=by
     rw[hr]
     unfold sib
     rw[show((2^2:Nat):Int)=4 from rfl]
     split
     ·exact Or.inl rfl
     ·right;omega
    have hrr:0<=r/\r*4+4<=1000:=by omega
    have ex:bits BinOp.xor IntKind.i64 (x/4) 1=r:=by
     rw[mJ (by omega) (by omega),hr]
     unfold sib
     rw[show((2^2:Nat):Int)=4 from rfl]
     skip
    have fD:cut l (r*((2^2:Nat):Int)) (r*((2^2:Nat):Int)+((2^2:Nat):Int))=cut l (r*4) (r*4+4):=by
     rw[show((2^2:Nat):Int)=4 from rfl]
    have esd:=lZ HSL.out.ris HSL.out.fin 2 r
    have eno:cut l (r*4) (r*4+4)=[]->nd l 2 r=emp 2:=fun h=>dS (bU.1 (by rw[fD];exact h))
    rw[fD]at esd
    have hcl:=eu l (r*4) (r*4+4)
    have hcr:=kU HSL.out.ris (r*4) (r*4+4)
    have hcf:=dU (a:=r*4) (b:=r*4+4) HSL.out.fin
    have kK:=fun w' h=>dI (.slice ad n c) l (r*4) (r*4+4) w' (HV.out w' h) yO.out HSL.out.len HSL.out.ris (by omega)
    have HST:Hid (∀j,j<9->(fun j=>if j=2 then nd l 2 r else pf l x 2 j) j=pf l x (2+1) j):=by rw[hr];exact mg
    have iM:Hid (nd l 2 r=emp 2->∀j,j<9->pf l x 2 j=pf l x (2+1) j):=fun h=>l9 (by rw[←hr];exact h)
    generalize cut l (r*4) (r*4+4)=m at *
    have dw:=fun u w' hu=>gB u m 2 w' hu (by omega) hcr hcf (by omega)
    rw[esd]at dw
    simp only[bH]at dw
    rw[show((2:Nat):Int)=2 from rfl]at dw
    have fC:Hid (m=[]->nd l 2 r=emp 2):=eno
    have zM:m.length<=12:=by omega
    generalize nd l 2 r=y at *
    clear yQ hk hk8 fD esd eno hcl hcr hcf hr hl12 hrb
    go_wp2_with fail
    refine(kK _ HI.out.2.2.1).mono ?_
    rintro e w3 ⟨⟨qx,qA,rfl,hp3,-⟩,hb3⟩
    have hp3:=hp3.below hb3
    have hz3:=hb3.size
    obtain⟨HA1,HA2,dB,dL⟩:=HI.out
    have HI3:Hid (bn w3 w2.heap.size emp/\bn w3 (w2.heap.size+1) (pf l x 2)/\Below w.heap.size w w3/\w3.heap[w.heap.size]? = some (.cells #[.int .i64 0,.slice none 0 0] 245)):=⟨HA1.below hb3 (by omega),HA2.below hb3 (by omega),ah dB hb3,(hb3.block w.heap.size (by omega)).trans dL⟩
    have yS:w2.heap.size+2<=w3.heap.size:=by omega
    clear kK HI HA1 HA2 dB dL hb3 hz
    by_cases hm0:m=[]
    ·have HS2:Hid (∀j,j<9->pf l x 2 j=pf l x (2+1) j):=iM.out (fC.out hm0)
     subst hm0
     simp only[List.length_nil]
     clear dw hp3 HST iM fC
     go_wp2
     go_roundw
     case rel=>exact⟨2+1,by omega,by go_num,by omega,⟨HI3.out.1,HI3.out.2.1.congr HS2.out,HI3.out.2.2.1,HI3.out.2.2.2⟩⟩
     case measure=>simp[intOf]
    ·have hml:(0:Int)<(m.length:Int):=by have:0<m.length:=List.length_pos_iff.2 hm0;omega
     obtain⟨c0,c1,c2,c3,c4,c5,c6,c7,c8⟩:=HI3.out.1.at.cells
     have jG:Hid (Prs w3 (.slice qx m.length qA) m):=hp3
     clear hm0 iM fC hp3
     go_wp2_with fail
     refine(dw _ _ jG.out).mono ?_
     rintro e w4 ⟨rfl,hb4⟩
     obtain⟨HA1,HA2,dB,dL⟩:=HI3.out
     have HB2:=HA2.below hb4 (by omega)
     have k1:=HB2.at.c 2 (by omega)
     have z1:=HB2.at.z 2 (by omega)
     have H6:=hb4.size
     have HI4:Hid (bn (w4.setCell ⟨w2.heap.size+1,2,none⟩ (.int .i64 y)) w2.heap.size emp/\bn (w4.setCell ⟨w2.heap.size+1,2,none⟩ (.int .i64 y)) (w2.heap.size+1) (pf l x (2+1))/\Below w.heap.size w (w4.setCell ⟨w2.heap.size+1,2,none⟩ (.int .i64 y))/\(w4.setCell ⟨w2.heap.size+1,2,none⟩ (.int .i64 y)).heap[w.heap.size]? = some (.cells #[.int .i64 0,.slice none 0 0] 245)):=
      ⟨(HA1.below hb4 (by omega)).other (by omega) _,(HB2.set (by omega) y).congr HST.out,(ah dB hb4).setCell (by show w.heap.size<=w2.heap.size+1;omega) _,(heap_setCell_other w4 ⟨w2.heap.size+1,2,none⟩ w.heap.size _ (by show w.heap.size≠w2.heap.size+1;omega)).trans ((hb4.block w.heap.size (by omega)).trans dL)⟩
     clear dw HI3 HA1 HA2 dB dL HB2 hb4 HST jG c0 c1 c2 c3 c4 c5 c6 c7 c8
     go_wp2
     go_roundw
     case rel=>exact⟨2+1,by omega,by go_num,by simp;omega,HI4⟩
     case measure=>simp[intOf]
   ·obtain⟨r,hr⟩:∃r:Int,r=sib x 3:=⟨_,rfl⟩
    have hrb:(r=x/8+1∨r=x/8 - 1/\1<=x/8):=by
     rw[hr]
     unfold sib
     rw[show((2^3:Nat):Int)=8 from rfl]
     split
     ·exact Or.inl rfl
     ·right;omega
    have hrr:0<=r/\r*8+8<=1000:=by omega
    have ex:bits BinOp.xor IntKind.i64 (x/8) 1=r:=by
     rw[mJ (by omega) (by omega),hr]
     unfold sib
     rw[show((2^3:Nat):Int)=8 from rfl]
     skip
    have fD:cut l (r*((2^3:Nat):Int)) (r*((2^3:Nat):Int)+((2^3:Nat):Int))=cut l (r*8) (r*8+8):=by
     rw[show((2^3:Nat):Int)=8 from rfl]
    have esd:=lZ HSL.out.ris HSL.out.fin 3 r
    have eno:cut l (r*8) (r*8+8)=[]->nd l 3 r=emp 3:=fun h=>dS (bU.1 (by rw[fD];exact h))
    rw[fD]at esd
    have hcl:=eu l (r*8) (r*8+8)
    have hcr:=kU HSL.out.ris (r*8) (r*8+8)
    have hcf:=dU (a:=r*8) (b:=r*8+8) HSL.out.fin
    have kK:=fun w' h=>dI (.slice ad n c) l (r*8) (r*8+8) w' (HV.out w' h) yO.out HSL.out.len HSL.out.ris (by omega)
    have HST:Hid (∀j,j<9->(fun j=>if j=3 then nd l 3 r else pf l x 3 j) j=pf l x (3+1) j):=by rw[hr];exact mg
    have iM:Hid (nd l 3 r=emp 3->∀j,j<9->pf l x 3 j=pf l x (3+1) j):=fun h=>l9 (by rw[←hr];exact h)
    generalize cut l (r*8) (r*8+8)=m at *
    have dw:=fun u w' hu=>gB u m 3 w' hu (by omega) hcr hcf (by omega)
    rw[esd]at dw
    simp only[bH]at dw
    rw[show((3:Nat):Int)=3 from rfl]at dw
    have fC:Hid (m=[]->nd l 3 r=emp 3):=eno
    have zM:m.length<=12:=by omega
    generalize nd l 3 r=y at *
    clear yQ hk hk8 fD esd eno hcl hcr hcf hr hl12 hrb
    go_wp2_with fail
    refine(kK _ HI.out.2.2.1).mono ?_
    rintro e w3 ⟨⟨qx,qA,rfl,hp3,-⟩,hb3⟩
    have hp3:=hp3.below hb3
    have hz3:=hb3.size
    obtain⟨HA1,HA2,dB,dL⟩:=HI.out
    have HI3:Hid (bn w3 w2.heap.size emp/\bn w3 (w2.heap.size+1) (pf l x 3)/\Below w.heap.size w w3/\w3.heap[w.heap.size]? = some (.cells #[.int .i64 0,.slice none 0 0] 245)):=⟨HA1.below hb3 (by omega),HA2.below hb3 (by omega),ah dB hb3,(hb3.block w.heap.size (by omega)).trans dL⟩
    have yS:w2.heap.size+2<=w3.heap.size:=by omega
    clear kK HI HA1 HA2 dB dL hb3 hz
    by_cases hm0:m=[]
    ·have HS2:Hid (∀j,j<9->pf l x 3 j=pf l x (3+1) j):=iM.out (fC.out hm0)
     subst hm0
     simp only[List.length_nil]
     clear dw hp3 HST iM fC
     go_wp2
     go_roundw
     case rel=>exact⟨3+1,by omega,by go_num,by omega,⟨HI3.out.1,HI3.out.2.1.congr HS2.out,HI3.out.2.2.1,HI3.out.2.2.2⟩⟩
     case measure=>simp[intOf]
    ·have hml:(0:Int)<(m.length:Int):=by have:0<m.length:=List.length_pos_iff.2 hm0;omega
     obtain⟨c0,c1,c2,c3,c4,c5,c6,c7,c8⟩:=HI3.out.1.at.cells
     have jG:Hid (Prs w3 (.slice qx m.length qA) m):=hp3
     clear hm0 iM fC hp3
     go_wp2_with fail
     refine(dw _ _ jG.out).mono ?_
     rintro e w4 ⟨rfl,hb4⟩
     obtain⟨HA1,HA2,dB,dL⟩:=HI3.out
     have HB2:=HA2.below hb4 (by omega)
     have k1:=HB2.at.c 3 (by omega)
     have z1:=HB2.at.z 3 (by omega)
     have H6:=hb4.size
     have HI4:Hid (bn (w4.setCell ⟨w2.heap.size+1,3,none⟩ (.int .i64 y)) w2.heap.size emp/\bn (w4.setCell ⟨w2.heap.size+1,3,none⟩ (.int .i64 y)) (w2.heap.size+1) (pf l x (3+1))/\Below w.heap.size w (w4.setCell ⟨w2.heap.size+1,3,none⟩ (.int .i64 y))/\(w4.setCell ⟨w2.heap.size+1,3,none⟩ (.int .i64 y)).heap[w.heap.size]? = some (.cells #[.int .i64 0,.slice none 0 0] 245)):=
      ⟨(HA1.below hb4 (by omega)).other (by omega) _,(HB2.set (by omega) y).congr HST.out,(ah dB hb4).setCell (by show w.heap.size<=w2.heap.size+1;omega) _,(heap_setCell_other w4 ⟨w2.heap.size+1,3,none⟩ w.heap.size _ (by show w.heap.size≠w2.heap.size+1;omega)).trans ((hb4.block w.heap.size (by omega)).trans dL)⟩
     clear dw HI3 HA1 HA2 dB dL HB2 hb4 HST jG c0 c1 c2 c3 c4 c5 c6 c7 c8
     go_wp2
     go_roundw
     case rel=>exact⟨3+1,by omega,by go_num,by simp;omega,HI4⟩
     case measure=>simp[intOf]
   ·obtain⟨r,hr⟩:∃r:Int,r=sib x 4:=⟨_,rfl⟩
    have hrb:(r=x/16+1∨r=x/16 - 1/\1<=x/16):=by
     rw[hr]
     unfold sib
     rw[show((2^4:Nat):Int)=16 from rfl]
     split
     ·exact Or.inl rfl
     ·right;omega
    have hrr:0<=r/\r*16+16<=1000:=by omega
    have ex:bits BinOp.xor IntKind.i64 (x/16) 1=r:=by
     rw[mJ (by omega) (by omega),hr]
     unfold sib
     rw[show((2^4:Nat):Int)=16 from rfl]
     skip
    have fD:cut l (r*((2^4:Nat):Int)) (r*((2^4:Nat):Int)+((2^4:Nat):Int))=cut l (r*16) (r*16+16):=by
     rw[show((2^4:Nat):Int)=16 from rfl]
    have esd:=lZ HSL.out.ris HSL.out.fin 4 r
    have eno:cut l (r*16) (r*16+16)=[]->nd l 4 r=emp 4:=fun h=>dS (bU.1 (by rw[fD];exact h))
    rw[fD]at esd
    have hcl:=eu l (r*16) (r*16+16)
    have hcr:=kU HSL.out.ris (r*16) (r*16+16)
    have hcf:=dU (a:=r*16) (b:=r*16+16) HSL.out.fin
    have kK:=fun w' h=>dI (.slice ad n c) l (r*16) (r*16+16) w' (HV.out w' h) yO.out HSL.out.len HSL.out.ris (by omega)
    have HST:Hid (∀j,j<9->(fun j=>if j=4 then nd l 4 r else pf l x 4 j) j=pf l x (4+1) j):=by rw[hr];exact mg
    have iM:Hid (nd l 4 r=emp 4->∀j,j<9->pf l x 4 j=pf l x (4+1) j):=fun h=>l9 (by rw[←hr];exact h)
    generalize cut l (r*16) (r*16+16)=m at *
    have dw:=fun u w' hu=>gB u m 4 w' hu (by omega) hcr hcf (by omega)
    rw[esd]at dw
    simp only[bH]at dw
    rw[show((4:Nat):Int)=4 from rfl]at dw
    have fC:Hid (m=[]->nd l 4 r=emp 4):=eno
    have zM:m.length<=12:=by omega
    generalize nd l 4 r=y at *
    clear yQ hk hk8 fD esd eno hcl hcr hcf hr hl12 hrb
    go_wp2_with fail
    refine(kK _ HI.out.2.2.1).mono ?_
    rintro e w3 ⟨⟨qx,qA,rfl,hp3,-⟩,hb3⟩
    have hp3:=hp3.below hb3
    have hz3:=hb3.size
    obtain⟨HA1,HA2,dB,dL⟩:=HI.out
    have HI3:Hid (bn w3 w2.heap.size emp/\bn w3 (w2.heap.size+1) (pf l x 4)/\Below w.heap.size w w3/\w3.heap[w.heap.size]? = some (.cells #[.int .i64 0,.slice none 0 0] 245)):=⟨HA1.below hb3 (by omega),HA2.below hb3 (by omega),ah dB hb3,(hb3.block w.heap.size (by omega)).trans dL⟩
    have yS:w2.heap.size+2<=w3.heap.size:=by omega
    clear kK HI HA1 HA2 dB dL hb3 hz
    by_cases hm0:m=[]
    ·have HS2:Hid (∀j,j<9->pf l x 4 j=pf l x (4+1) j):=iM.out (fC.out hm0)
     subst hm0
     simp only[List.length_nil]
     clear dw hp3 HST iM fC
     go_wp2
     go_roundw
     case rel=>exact⟨4+1,by omega,by go_num,by omega,⟨HI3.out.1,HI3.out.2.1.congr HS2.out,HI3.out.2.2.1,HI3.out.2.2.2⟩⟩
     case measure=>simp[intOf]
    ·have hml:(0:Int)<(m.length:Int):=by have:0<m.length:=List.length_pos_iff.2 hm0;omega
     obtain⟨c0,c1,c2,c3,c4,c5,c6,c7,c8⟩:=HI3.out.1.at.cells
     have jG:Hid (Prs w3 (.slice qx m.length qA) m):=hp3
     clear hm0 iM fC hp3
     go_wp2_with fail
     refine(dw _ _ jG.out).mono ?_
     rintro e w4 ⟨rfl,hb4⟩
     obtain⟨HA1,HA2,dB,dL⟩:=HI3.out
     have HB2:=HA2.below hb4 (by omega)
     have k1:=HB2.at.c 4 (by omega)
     have z1:=HB2.at.z 4 (by omega)
     have H6:=hb4.size
     have HI4:Hid (bn (w4.setCell ⟨w2.heap.size+1,4,none⟩ (.int .i64 y)) w2.heap.size emp/\bn (w4.setCell ⟨w2.heap.size+1,4,none⟩ (.int .i64 y)) (w2.heap.size+1) (pf l x (4+1))/\Below w.heap.size w (w4.setCell ⟨w2.heap.size+1,4,none⟩ (.int .i64 y))/\(w4.setCell ⟨w2.heap.size+1,4,none⟩ (.int .i64 y)).heap[w.heap.size]? = some (.cells #[.int .i64 0,.slice none 0 0] 245)):=
      ⟨(HA1.below hb4 (by omega)).other (by omega) _,(HB2.set (by omega) y).congr HST.out,(ah dB hb4).setCell (by show w.heap.size<=w2.heap.size+1;omega) _,(heap_setCell_other w4 ⟨w2.heap.size+1,4,none⟩ w.heap.size _ (by show w.heap.size≠w2.heap.size+1;omega)).trans ((hb4.block w.heap.size (by omega)).trans dL)⟩
     clear dw HI3 HA1 HA2 dB dL HB2 hb4 HST jG c0 c1 c2 c3 c4 c5 c6 c7 c8
     go_wp2
     go_roundw
     case rel=>exact⟨4+1,by omega,by go_num,by simp;omega,HI4⟩
     case measure=>simp[intOf]
   ·obtain⟨r,hr⟩:∃r:Int,r=sib x 5:=⟨_,rfl⟩
    have hrb:(r=x/32+1∨r=x/32 - 1/\1<=x/32):=by
     rw[hr]
     unfold sib
     rw[show((2^5:Nat):Int)=32 from rfl]
     split
     ·exact Or.inl rfl
     ·right;omega
    have hrr:0<=r/\r*32+32<=1000:=by omega
    have ex:bits BinOp.xor IntKind.i64 (x/32) 1=r:=by
     rw[mJ (by omega) (by omega),hr]
     unfold sib
     rw[show((2^5:Nat):Int)=32 from rfl]
     skip
    have fD:cut l (r*((2^5:Nat):Int)) (r*((2^5:Nat):Int)+((2^5:Nat):Int))=cut l (r*32) (r*32+32):=by
     rw[show((2^5:Nat):Int)=32 from rfl]
    have esd:=lZ HSL.out.ris HSL.out.fin 5 r
    have eno:cut l (r*32) (r*32+32)=[]->nd l 5 r=emp 5:=fun h=>dS (bU.1 (by rw[fD];exact h))
    rw[fD]at esd
    have hcl:=eu l (r*32) (r*32+32)
    have hcr:=kU HSL.out.ris (r*32) (r*32+32)
    have hcf:=dU (a:=r*32) (b:=r*32+32) HSL.out.fin
    have kK:=fun w' h=>dI (.slice ad n c) l (r*32) (r*32+32) w' (HV.out w' h) yO.out HSL.out.len HSL.out.ris (by omega)
    have HST:Hid (∀j,j<9->(fun j=>if j=5 then nd l 5 r else pf l x 5 j) j=pf l x (5+1) j):=by rw[hr];exact mg
    have iM:Hid (nd l 5 r=emp 5->∀j,j<9->pf l x 5 j=pf l x (5+1) j):=fun h=>l9 (by rw[←hr];exact h)
    generalize cut l (r*32) (r*32+32)=m at *
    have dw:=fun u w' hu=>gB u m 5 w' hu (by omega) hcr hcf (by omega)
    rw[esd]at dw
    simp only[bH]at dw
    rw[show((5:Nat):Int)=5 from rfl]at dw
    have fC:Hid (m=[]->nd l 5 r=emp 5):=eno
    have zM:m.length<=12:=by omega
    generalize nd l 5 r=y at *
    clear yQ hk hk8 fD esd eno hcl hcr hcf hr hl12 hrb
    go_wp2_with fail
    refine(kK _ HI.out.2.2.1).mono ?_
    rintro e w3 ⟨⟨qx,qA,rfl,hp3,-⟩,hb3⟩
    have hp3:=hp3.below hb3
    have hz3:=hb3.size
    obtain⟨HA1,HA2,dB,dL⟩:=HI.out
    have HI3:Hid (bn w3 w2.heap.size emp/\bn w3 (w2.heap.size+1) (pf l x 5)/\Below w.heap.size w w3/\w3.heap[w.heap.size]? = some (.cells #[.int .i64 0,.slice none 0 0] 245)):=⟨HA1.below hb3 (by omega),HA2.below hb3 (by omega),ah dB hb3,(hb3.block w.heap.size (by omega)).trans dL⟩
    have yS:w2.heap.size+2<=w3.heap.size:=by omega
    clear kK HI HA1 HA2 dB dL hb3 hz
    by_cases hm0:m=[]
    ·have HS2:Hid (∀j,j<9->pf l x 5 j=pf l x (5+1) j):=iM.out (fC.out hm0)
     subst hm0
     simp only[List.length_nil]
     clear dw hp3 HST iM fC
     go_wp2
     go_roundw
     case rel=>exact⟨5+1,by omega,by go_num,by omega,⟨HI3.out.1,HI3.out.2.1.congr HS2.out,HI3.out.2.2.1,HI3.out.2.2.2⟩⟩
     case measure=>simp[intOf]
    ·have hml:(0:Int)<(m.length:Int):=by have:0<m.length:=List.length_pos_iff.2 hm0;omega
     obtain⟨c0,c1,c2,c3,c4,c5,c6,c7,c8⟩:=HI3.out.1.at.cells
     have jG:Hid (Prs w3 (.slice qx m.length qA) m):=hp3
     clear hm0 iM fC hp3
     go_wp2_with fail
     refine(dw _ _ jG.out).mono ?_
     rintro e w4 ⟨rfl,hb4⟩
     obtain⟨HA1,HA2,dB,dL⟩:=HI3.out
     have HB2:=HA2.below hb4 (by omega)
     have k1:=HB2.at.c 5 (by omega)
     have z1:=HB2.at.z 5 (by omega)
     have H6:=hb4.size
     have HI4:Hid (bn (w4.setCell ⟨w2.heap.size+1,5,none⟩ (.int .i64 y)) w2.heap.size emp/\bn (w4.setCell ⟨w2.heap.size+1,5,none⟩ (.int .i64 y)) (w2.heap.size+1) (pf l x (5+1))/\Below w.heap.size w (w4.setCell ⟨w2.heap.size+1,5,none⟩ (.int .i64 y))/\(w4.setCell ⟨w2.heap.size+1,5,none⟩ (.int .i64 y)).heap[w.heap.size]? = some (.cells #[.int .i64 0,.slice none 0 0] 245)):=
      ⟨(HA1.below hb4 (by omega)).other (by omega) _,(HB2.set (by omega) y).congr HST.out,(ah dB hb4).setCell (by show w.heap.size<=w2.heap.size+1;omega) _,(heap_setCell_other w4 ⟨w2.heap.size+1,5,none⟩ w.heap.size _ (by show w.heap.size≠w2.heap.size+1;omega)).trans ((hb4.block w.heap.size (by omega)).trans dL)⟩
     clear dw HI3 HA1 HA2 dB dL HB2 hb4 HST jG c0 c1 c2 c3 c4 c5 c6 c7 c8
     go_wp2
     go_roundw
     case rel=>exact⟨5+1,by omega,by go_num,by simp;omega,HI4⟩
     case measure=>simp[intOf]
   ·obtain⟨r,hr⟩:∃r:Int,r=sib x 6:=⟨_,rfl⟩
    have hrb:(r=x/64+1∨r=x/64 - 1/\1<=x/64):=by
     rw[hr]
     unfold sib
     rw[show((2^6:Nat):Int)=64 from rfl]
     split
     ·exact Or.inl rfl
     ·right;omega
    have hrr:0<=r/\r*64+64<=1000:=by omega
    have ex:bits BinOp.xor IntKind.i64 (x/64) 1=r:=by
     rw[mJ (by omega) (by omega),hr]
     unfold sib
     rw[show((2^6:Nat):Int)=64 from rfl]
     skip
    have fD:cut l (r*((2^6:Nat):Int)) (r*((2^6:Nat):Int)+((2^6:Nat):Int))=cut l (r*64) (r*64+64):=by
     rw[show((2^6:Nat):Int)=64 from rfl]
    have esd:=lZ HSL.out.ris HSL.out.fin 6 r
    have eno:cut l (r*64) (r*64+64)=[]->nd l 6 r=emp 6:=fun h=>dS (bU.1 (by rw[fD];exact h))
    rw[fD]at esd
    have hcl:=eu l (r*64) (r*64+64)
    have hcr:=kU HSL.out.ris (r*64) (r*64+64)
    have hcf:=dU (a:=r*64) (b:=r*64+64) HSL.out.fin
    have kK:=fun w' h=>dI (.slice ad n c) l (r*64) (r*64+64) w' (HV.out w' h) yO.out HSL.out.len HSL.out.ris (by omega)
    have HST:Hid (∀j,j<9->(fun j=>if j=6 then nd l 6 r else pf l x 6 j) j=pf l x (6+1) j):=by rw[hr];exact mg
    have iM:Hid (nd l 6 r=emp 6->∀j,j<9->pf l x 6 j=pf l x (6+1) j):=fun h=>l9 (by rw[←hr];exact h)
    generalize cut l (r*64) (r*64+64)=m at *
    have dw:=fun u w' hu=>gB u m 6 w' hu (by omega) hcr hcf (by omega)
    rw[esd]at dw
    simp only[bH]at dw
    rw[show((6:Nat):Int)=6 from rfl]at dw
    have fC:Hid (m=[]->nd l 6 r=emp 6):=eno
    have zM:m.length<=12:=by omega
    generalize nd l 6 r=y at *
    clear yQ hk hk8 fD esd eno hcl hcr hcf hr hl12 hrb
    go_wp2_with fail
    refine(kK _ HI.out.2.2.1).mono ?_
    rintro e w3 ⟨⟨qx,qA,rfl,hp3,-⟩,hb3⟩
    have hp3:=hp3.below hb3
    have hz3:=hb3.size
    obtain⟨HA1,HA2,dB,dL⟩:=HI.out
    have HI3:Hid (bn w3 w2.heap.size emp/\bn w3 (w2.heap.size+1) (pf l x 6)/\Below w.heap.size w w3/\w3.heap[w.heap.size]? = some (.cells #[.int .i64 0,.slice none 0 0] 245)):=⟨HA1.below hb3 (by omega),HA2.below hb3 (by omega),ah dB hb3,(hb3.block w.heap.size (by omega)).trans dL⟩
    have yS:w2.heap.size+2<=w3.heap.size:=by omega
    clear kK HI HA1 HA2 dB dL hb3 hz
    by_cases hm0:m=[]
    ·have HS2:Hid (∀j,j<9->pf l x 6 j=pf l x (6+1) j):=iM.out (fC.out hm0)
     subst hm0
     simp only[List.length_nil]
     clear dw hp3 HST iM fC
     go_wp2
     go_roundw
     case rel=>exact⟨6+1,by omega,by go_num,by omega,⟨HI3.out.1,HI3.out.2.1.congr HS2.out,HI3.out.2.2.1,HI3.out.2.2.2⟩⟩
     case measure=>simp[intOf]
    ·have hml:(0:Int)<(m.length:Int):=by have:0<m.length:=List.length_pos_iff.2 hm0;omega
     obtain⟨c0,c1,c2,c3,c4,c5,c6,c7,c8⟩:=HI3.out.1.at.cells
     have jG:Hid (Prs w3 (.slice qx m.length qA) m):=hp3
     clear hm0 iM fC hp3
     go_wp2_with fail
     refine(dw _ _ jG.out).mono ?_
     rintro e w4 ⟨rfl,hb4⟩
     obtain⟨HA1,HA2,dB,dL⟩:=HI3.out
     have HB2:=HA2.below hb4 (by omega)
     have k1:=HB2.at.c 6 (by omega)
     have z1:=HB2.at.z 6 (by omega)
     have H6:=hb4.size
     have HI4:Hid (bn (w4.setCell ⟨w2.heap.size+1,6,none⟩ (.int .i64 y)) w2.heap.size emp/\bn (w4.setCell ⟨w2.heap.size+1,6,none⟩ (.int .i64 y)) (w2.heap.size+1) (pf l x (6+1))/\Below w.heap.size w (w4.setCell ⟨w2.heap.size+1,6,none⟩ (.int .i64 y))/\(w4.setCell ⟨w2.heap.size+1,6,none⟩ (.int .i64 y)).heap[w.heap.size]? = some (.cells #[.int .i64 0,.slice none 0 0] 245)):=
      ⟨(HA1.below hb4 (by omega)).other (by omega) _,(HB2.set (by omega) y).congr HST.out,(ah dB hb4).setCell (by show w.heap.size<=w2.heap.size+1;omega) _,(heap_setCell_other w4 ⟨w2.heap.size+1,6,none⟩ w.heap.size _ (by show w.heap.size≠w2.heap.size+1;omega)).trans ((hb4.block w.heap.size (by omega)).trans dL)⟩
     clear dw HI3 HA1 HA2 dB dL HB2 hb4 HST jG c0 c1 c2 c3 c4 c5 c6 c7 c8
     go_wp2
     go_roundw
     case rel=>exact⟨6+1,by omega,by go_num,by simp;omega,HI4⟩
     case measure=>simp[intOf]
   ·obtain⟨r,hr⟩:∃r:Int,r=sib x 7:=⟨_,rfl⟩
    have hrb:(r=x/128+1∨r=x/128 - 1/\1<=x/128):=by
     rw[hr]
     unfold sib
     rw[show((2^7:Nat):Int)=128 from rfl]
     split
     ·exact Or.inl rfl
     ·right;omega
    have hrr:0<=r/\r*128+128<=1000:=by omega
    have ex:bits BinOp.xor IntKind.i64 (x/128) 1=r:=by
     rw[mJ (by omega) (by omega),hr]
     unfold sib
     rw[show((2^7:Nat):Int)=128 from rfl]
     skip
    have fD:cut l (r*((2^7:Nat):Int)) (r*((2^7:Nat):Int)+((2^7:Nat):Int))=cut l (r*128) (r*128+128):=by
     rw[show((2^7:Nat):Int)=128 from rfl]
    have esd:=lZ HSL.out.ris HSL.out.fin 7 r
    have eno:cut l (r*128) (r*128+128)=[]->nd l 7 r=emp 7:=fun h=>dS (bU.1 (by rw[fD];exact h))
    rw[fD]at esd
    have hcl:=eu l (r*128) (r*128+128)
    have hcr:=kU HSL.out.ris (r*128) (r*128+128)
    have hcf:=dU (a:=r*128) (b:=r*128+128) HSL.out.fin
    have kK:=fun w' h=>dI (.slice ad n c) l (r*128) (r*128+128) w' (HV.out w' h) yO.out HSL.out.len HSL.out.ris (by omega)
    have HST:Hid (∀j,j<9->(fun j=>if j=7 then nd l 7 r else pf l x 7 j) j=pf l x (7+1) j):=by rw[hr];exact mg
    have iM:Hid (nd l 7 r=emp 7->∀j,j<9->pf l x 7 j=pf l x (7+1) j):=fun h=>l9 (by rw[←hr];exact h)
    generalize cut l (r*128) (r*128+128)=m at *
    have dw:=fun u w' hu=>gB u m 7 w' hu (by omega) hcr hcf (by omega)
    rw[esd]at dw
    simp only[bH]at dw
    rw[show((7:Nat):Int)=7 from rfl]at dw
    have fC:Hid (m=[]->nd l 7 r=emp 7):=eno
    have zM:m.length<=12:=by omega
    generalize nd l 7 r=y at *
    clear yQ hk hk8 fD esd eno hcl hcr hcf hr hl12 hrb
    go_wp2_with fail
    refine(kK _ HI.out.2.2.1).mono ?_
    rintro e w3 ⟨⟨qx,qA,rfl,hp3,-⟩,hb3⟩
    have hp3:=hp3.below hb3
    have hz3:=hb3.size
    obtain⟨HA1,HA2,dB,dL⟩:=HI.out
    have HI3:Hid (bn w3 w2.heap.size emp/\bn w3 (w2.heap.size+1) (pf l x 7)/\Below w.heap.size w w3/\w3.heap[w.heap.size]? = some (.cells #[.int .i64 0,.slice none 0 0] 245)):=⟨HA1.below hb3 (by omega),HA2.below hb3 (by omega),ah dB hb3,(hb3.block w.heap.size (by omega)).trans dL⟩
    have yS:w2.heap.size+2<=w3.heap.size:=by omega
    clear kK HI HA1 HA2 dB dL hb3 hz
    by_cases hm0:m=[]
    ·have HS2:Hid (∀j,j<9->pf l x 7 j=pf l x (7+1) j):=iM.out (fC.out hm0)
     subst hm0
     simp only[List.length_nil]
     clear dw hp3 HST iM fC
     go_wp2
     go_roundw
     case rel=>exact⟨7+1,by omega,by go_num,by omega,⟨HI3.out.1,HI3.out.2.1.congr HS2.out,HI3.out.2.2.1,HI3.out.2.2.2⟩⟩
     case measure=>simp[intOf]
    ·have hml:(0:Int)<(m.length:Int):=by have:0<m.length:=List.length_pos_iff.2 hm0;omega
     obtain⟨c0,c1,c2,c3,c4,c5,c6,c7,c8⟩:=HI3.out.1.at.cells
     have jG:Hid (Prs w3 (.slice qx m.length qA) m):=hp3
     clear hm0 iM fC hp3
     go_wp2_with fail
     refine(dw _ _ jG.out).mono ?_
     rintro e w4 ⟨rfl,hb4⟩
     obtain⟨HA1,HA2,dB,dL⟩:=HI3.out
     have HB2:=HA2.below hb4 (by omega)
     have k1:=HB2.at.c 7 (by omega)
     have z1:=HB2.at.z 7 (by omega)
     have H6:=hb4.size
     have HI4:Hid (bn (w4.setCell ⟨w2.heap.size+1,7,none⟩ (.int .i64 y)) w2.heap.size emp/\bn (w4.setCell ⟨w2.heap.size+1,7,none⟩ (.int .i64 y)) (w2.heap.size+1) (pf l x (7+1))/\Below w.heap.size w (w4.setCell ⟨w2.heap.size+1,7,none⟩ (.int .i64 y))/\(w4.setCell ⟨w2.heap.size+1,7,none⟩ (.int .i64 y)).heap[w.heap.size]? = some (.cells #[.int .i64 0,.slice none 0 0] 245)):=
      ⟨(HA1.below hb4 (by omega)).other (by omega) _,(HB2.set (by omega) y).congr HST.out,(ah dB hb4).setCell (by show w.heap.size<=w2.heap.size+1;omega) _,(heap_setCell_other w4 ⟨w2.heap.size+1,7,none⟩ w.heap.size _ (by show w.heap.size≠w2.heap.size+1;omega)).trans ((hb4.block w.heap.size (by omega)).trans dL)⟩
     clear dw HI3 HA1 HA2 dB dL HB2 hb4 HST jG c0 c1 c2 c3 c4 c5 c6 c7 c8
     go_wp2
     go_roundw
     case rel=>exact⟨7+1,by omega,by go_num,by simp;omega,HI4⟩
     case measure=>simp[intOf]
  ·have hk8:k=8:=by omega
   subst hk8 yQ
   obtain⟨HA1,HA2,dB,dL⟩:=HI.out
   obtain⟨g0,g1,f0,f1⟩:=eG dL
   have hki:¬((8:Nat):Int)<8:=by decide
   have hlen:(pth l x 8).length=8:=yg l x 8
   have HO:Hid (wr.ownsRow (w.heap.size+1) 340 1 (.slice (some ⟨w2.heap.size+1,0,none⟩) (pth l x 8).length 9) (pth l x 8).length ((pth l x 8).map (Value.int .i64))):=by
    rw[←Wq,hlen]
    exact⟨by simp[bH],Or.inr ⟨w2.heap.size+1,9,bH (pf l x 8),rfl,by omega,HA2,by omega,by decide,rfl,rfl⟩⟩
   have YW:Hid ((pth l x 8).length=8):=hlen
   have HB3:Hid (Below w.heap.size w wr):=dB
   clear HA1 HA2 dB dL HI hlen
   go_wp2
   refine bodyPost_ret (v:= .agg #[.int .i64 0,.slice (some ⟨w2.heap.size+1,0,none⟩) 8 9]) (by simp[results,Tryz.results218,go_sem, *]) rfl ⟨(HB3.out.setCell (Nat.le_refl _) _).setCell (Nat.le_refl _) _,_,340,rfl, ?_⟩
   have kZ:=HO.out
   rw[YW.out]at kZ ⊢
   exact aS (ownsRow_setCell_below (ownsRow_setCell_below kZ (by show w.heap.size<w.heap.size+1;omega) _) (by show w.heap.size<w.heap.size+1;omega) _) (Nat.le_succ _)
theorem BI(v:Value)(l:Prl)(x:Int)(w:World)(hv:Prs w v l)(hok:Okv v)(hx:l.length<=1099511627776):
  Calls Tryz.prog 218 #[v,.int .i64 x] w fun e w'=>xP w (opC l x) (opL l x) e w':=by
 have hF:=fun w' h=>dX v l w' (hv.below h) hx
 have hK:=fun w'=>oQ x w'
 unfold opC opL
 obtain⟨ad,c,rfl⟩:=hv.shape
 by_cases h0:slF l=0
 ·rw[if_pos h0]
  rw[h0]at hF
  rcases Bool.eq_false_or_eq_true (inB x 0 255)with hb | hb
  ·rw[if_pos hb,if_pos ⟨h0,hb⟩]
   rw[hb]at hK
   exact DI ad l.length c l x w hv hok (kQ h0) (iw hb) hF hK
  ·rw[if_neg (by rw[hb];simp),if_neg (fun h=>by rw[hb]at h;cases h.2)]
   rw[hb]at hK
   generalize l.length=n at *
   clear hv hok h0 hb
   go_enter Tryz.func218,Tryz.ntmps218
   go_wp2_with fail
   refine(hF _ (aj _)).mono ?_
   rintro e w1 ⟨rfl,hb1⟩
   clear hF
   go_wp2_with fail
   refine(hK _).mono ?_
   rintro e ZR ⟨rfl,rfl⟩
   obtain⟨g0,g1,f0,f1⟩:=eG ((hb1.block w.heap.size (by simp)).trans (heap_alloc_new w _))
   have hB1:=ak hb1
   clear hK hb1
   go_wp2
   exact bodyPost_ret (v:= .agg #[.int .i64 3,.slice none 0 0]) (by simp[results,Tryz.results218,go_sem, *]) rfl ⟨(hB1.setCell (by simp) _).setCell (by simp) _,_,2,rfl,World.ownsRow_nil _ _ _ _⟩
 ·rw[if_neg h0,if_neg (fun h=>h0 h.1)]
  generalize slF l=f at *
  generalize l.length=n at *
  have hfn:(f != 0)=true:=by simpa using h0
  clear hv h0 hK hok
  go_enter Tryz.func218,Tryz.ntmps218
  go_wp2_with fail
  refine(hF _ (aj _)).mono ?_
  rintro e w1 ⟨rfl,hb1⟩
  obtain⟨g0,g1,f0,f1⟩:=eG ((hb1.block w.heap.size (by simp)).trans (heap_alloc_new w _))
  have hB1:=ak hb1
  clear hF hb1
  go_wp2
  exact bodyPost_ret (v:= .agg #[.int .i64 f,.slice none 0 0]) (by simp[results,Tryz.results218,go_sem, *]) rfl ⟨(hB1.setCell (by simp) _).setCell (by simp) _,_,2,rfl,World.ownsRow_nil _ _ _ _⟩
theorem IE(B:Nat)(t:TypeId)(v:Value)(xs:List Int)(k0:Nat)(w:World)(hown:w.ownsRow B t 1 v xs.length (xs.map (Value.int .i64)))(hx:xs.length<=1099511627776)(hk0:k0<=1099511627776):
  Calls Tryz.prog 226 #[v,.int .i64 k0] w fun e w'=>e = .returned (.int .i64 ((k0+xs.length:Nat):Int))/\w.grownBy w' v.ownBlock/\w'.ownsRow B t 1 v xs.length ((marks k0 xs.length).map (Value.int .i64)):=by
 by_cases h0:xs.length=0
 ·have e1:xs=[]:=List.eq_nil_of_length_eq_zero h0
  subst e1
  obtain⟨a,c,rfl⟩:=aQ hown
  simp only[List.length_nil]at *
  go_enter Tryz.func226,Tryz.ntmps226
  go_wp2
  refine wp_loop_rounds 1 ?_;rw[rounds_succ]
  go_wp2
  go_ret
  exact⟨rfl,World.grownBy.refl _ _,hown⟩
 ·rcases hown.2 with⟨_,h⟩ |⟨g,cap,cur,rfl,hB,hg,_⟩
  ·exact absurd h h0
  have hgs:g<w.heap.size:=(Array.getElem?_eq_some_iff.1 hg).1
  clear hg hB
  obtain⟨n,hn⟩:∃n,n=xs.length:=⟨_,rfl⟩
  have HN:Hid (n=xs.length):=hn
  rw[←hn]at hown hx h0 ⊢
  clear hn h0
  go_enter Tryz.func226,Tryz.ntmps226
  go_wp2
  go_loopw [1,5] (fun k i wr=>∃j:Nat,j<=n/\i = .int .i64 j/\k = .int .i64 ((k0+j:Nat):Int)/\w.grownBy wr (some g)/\wr.ownsRow B t 1 (.slice (some ⟨g,0,none⟩) n cap) n ((half xs k0 j).map (Value.int .i64))) (fun _ i _=>n - (intOf i).toNat)
  case atStart=>exact⟨0,Nat.zero_le _,rfl,by simp,World.grownBy.refl _ _,by rw[wC];exact hown⟩
  case round=>
   obtain⟨j,hj,rfl,rfl,hgr,ho⟩:=hrel
   by_cases hjn:j<n
   ·have hji:(j:Int)<(n:Int):=by omega
    have hfz:=ho.frozenAt j
    obtain⟨x,hcl⟩:=RS ho hjn
    obtain⟨s1,s2⟩:=ho.stored j (.int .i64 ((k0+j:Nat):Int))
    have s2:=bM hgr s2
    rw[←List.map_set,qI xs k0 j (by have:=HN.out;omega)]at s1
    clear ho hown hgr
    go_wp2
    go_roundw
    case rel=>
     exact⟨j+1,by omega,by go_num,by go_num,s2,s1⟩
    case measure=>simp[intOf];omega
   ·go_wp2
    go_ret
    have hjn:j=n:=by omega
    subst hjn
    refine⟨rfl,hgr, ?_⟩
    rw[HN.out,zI,←HN.out]at ho
    exact ho
end U
end Go.Proofs.YtmnfokgllcdiiaaGreat
