/- A reply of a state: what both models answer. -/
import Derived.Test.YtmnfokgllcdiiaaGreatYRy5
import Derived.Test.YtmnfokgllcdiiaaGreatYRy3
import Derived.Test.YtmnfokgllcdiiaaGreatYRy3b
set_option maxRecDepth 100000
set_option maxHeartbeats 4000000
namespace Go.Proofs.YtmnfokgllcdiiaaGreat
open Go.RowKit
namespace U
def WJ(old:Bool):Value:=if old=true then .agg #[.func (.func 160) #[] #[],.func (.func 161) #[] #[],.func (.func 162) #[] #[]]else .agg #[.func (.func 163) #[] #[],.func (.func 164) #[] #[],.func (.func 165) #[] #[]]
structure Yi(l:Rcl)(key:Int)(old held:Bool)(x0:ByteArray)(x1 x2 x3 val:Int)(ps:List Int)(tx:Bool)(tk ty:Int)(ws:Prl):Prop where
 s:x0.size<=1048576
 p:ps.length<=8
 f:ws.length<=1000
 im:∀u w,Rcs w u l->Calls Tryz.prog 76 #[WJ old,.agg #[u],.int .i64 key] w fun e w'=>fZ w 0 held x0 x1 x2 x3 old val ps tx tk ty ws e w'
 sp:∀pg po u ep w,pg<w.heap.size->w.cell? ⟨pg,po,none⟩=some u->Rcs w u l->Calls Tryz.prog 71 #[.pointer (some ⟨pg,po,none⟩),.int .i64 ep,.int .i64 key,.bool old] w fun e w'=>fZ w ep held x0 x1 x2 x3 old val ps tx tk ty ws e w'
theorem Uf(l:Rcl)(hl:Lbs l)(hd:aI l=0)(key:Int)(hk:0<=key/\key<=255)(old:Bool):
  ∃(held:Bool)(x0:ByteArray)(x1 x2 x3 val:Int)(ps:List Int)(tx:Bool)(tk ty:Int)(ws:Prl),Yi l key old held x0 x1 x2 x3 val ps tx tk ty ws:=by
 have hok:=dP hd
 have hs0:=nR hok
 have hsl:=kQ hs0
 have hkb:inB key 0 255=true:=by unfold inB;simp;omega
 have hk2:0<=key/\key<256:=by omega
 cases old
 ·by_cases hn:0<(aB l).length
  ·obtain⟨t,ht⟩:=LU _ (aB l) (Nat.le_refl _) hsl
   have hwl:(t.way key).length<=1000:=by have h1:=t.D8 key;have h2:=ht.forks;have h3:=hsl.len;omega
   have hT:=(KE ht key hk hsl hn).c
   have hSh:∀u w,Prs w u (aB l)->Okv u->Calls Tryz.prog 164 #[u,.int .i64 key] w fun e w'=>pR w false [] true (t.near key).1 (t.near key).2 (t.way key) e w':=fun u w hp ho=>xI u (aB l) true _ _ _ key w hp (fun w' hp'=>BH u (aB l) t key w' hp' ho hs0 ht hn hkb)
   rcases oH l key with⟨h1,-⟩ |⟨j,hj,-,h1⟩
   ·have ho:lkO l key=none:=by unfold lkO;rw[if_pos h1]
    exact⟨false,⟨#[]⟩,0,0,0,0,[],true,(t.near key).1,(t.near key).2,(t.way key),Nat.zero_le _,Nat.zero_le _,hwl,fun u w hv=>nO u l key true (t.near key).1 (t.near key).2 [] (t.way key) w hv hl hd hk2 ho hSh,fun pg po u ep w hg hD hv=>AB pg po u l ep key (t.near key).1 (t.near key).2 (t.way key) w hg hD hv hd h1 hn hT⟩
   ·rcases hr:rAt l j with⟨x0,x1,x2,x3⟩
    have ho:lkO l key=some ⟨x0,x1,x2,x3⟩:=by unfold lkO;rw[h1,if_neg (by omega),Int.toNat_natCast,hr]
    have hsz:=hl _ (sZ hj)
    rw[hr]at hsz
    exact⟨true,x0,x1,x2,x3,_,[],true,(t.near key).1,(t.near key).2,(t.way key),hsz,Nat.zero_le _,hwl,fun u w hv=>xC u l key true (t.near key).1 (t.near key).2 [] (t.way key) x0 x1 x2 x3 w hv hl hd hk2 ho hSh,fun pg po u ep w hg hD hv=>CV pg po u l ep key x0 x1 x2 x3 j (t.near key).1 (t.near key).2 (t.way key) w hg hD hv hd hj h1 hr hn hT⟩
  ·have hn0:(aB l).length=0:=by omega
   have e:=List.eq_nil_of_length_eq_zero hn0
   have hSh:∀u w,Prs w u (aB l)->Okv u->Calls Tryz.prog 164 #[u,.int .i64 key] w fun e w'=>pR w false [] false 0 0 [] e w':=fun u w hp ho=>by
    rw[e]at hp
    exact xI u [] false 0 0 [] key w hp (fun w' hp'=>yD u key w' hp' ho hkb)
   rcases oH l key with⟨h1,-⟩ |⟨j,hj,-,h1⟩
   ·have ho:lkO l key=none:=by unfold lkO;rw[if_pos h1]
    exact⟨false,⟨#[]⟩,0,0,0,0,[],false,0,0,[],Nat.zero_le _,Nat.zero_le _,Nat.zero_le _,fun u w hv=>nO u l key false 0 0 [] [] w hv hl hd hk2 ho hSh,fun pg po u ep w hg hD hv=>AL pg po u l ep key w hg hD hv hd h1 hn0⟩
   ·have e1:(aB l).length=l.length:=jM l _
    omega
 ·have hSh:∀u w,Prs w u (aB l)->Okv u->Calls Tryz.prog 161 #[u,.int .i64 key] w fun e w'=>pR w true (pth (aB l) key 8) false 0 0 [] e w':=fun u w hp ho=>JF u (aB l) key w hp ho hs0 hkb
  rcases oH l key with⟨h1,-⟩ |⟨j,hj,-,h1⟩
  ·have ho:lkO l key=none:=by unfold lkO;rw[if_pos h1]
   exact⟨false,⟨#[]⟩,0,0,0,0,(pth (aB l) key 8),false,0,0,[],Nat.zero_le _,Nat.le_of_eq (yg _ _ _),Nat.zero_le _,fun u w hv=>xB u l key false 0 0 (pth (aB l) key 8) [] w hv hl hd hk2 ho hSh,fun pg po u ep w hg hD hv=>AO pg po u l ep key w hg hD hv hd hk h1⟩
  ·rcases hr:rAt l j with⟨x0,x1,x2,x3⟩
   have ho:lkO l key=some ⟨x0,x1,x2,x3⟩:=by unfold lkO;rw[h1,if_neg (by omega),Int.toNat_natCast,hr]
   have hsz:=hl _ (sZ hj)
   rw[hr]at hsz
   exact⟨true,x0,x1,x2,x3,_,(pth (aB l) key 8),false,0,0,[],hsz,Nat.le_of_eq (yg _ _ _),Nat.zero_le _,fun u w hv=>yK u l key false 0 0 (pth (aB l) key 8) [] x0 x1 x2 x3 w hv hl hd hk2 ho hSh,fun pg po u ep w hg hD hv=>CW pg po u l ep key x0 x1 x2 x3 j w hg hD hv hd hk hj h1 hr⟩
structure Yk(s:St)(ep:Int)(t:ByteArray)(old:Bool)(cd e:Int)(held:Bool)(x0:ByteArray)(x1 x2 x3:Int)(o:Bool)(val:Int)(ps:List Int)(tx:Bool)(tk ty:Int)(ws:Prl):Prop where
 z:x0.size<=1048576
 p:ps.length<=8
 f:ws.length<=1000
 im:∀v w,Sts w v s->Calls Tryz.prog 24 #[stV s v,.int .i64 ep,.string t,.bool old] w fun z w'=>kS w cd e held x0 x1 x2 x3 o val ps tx tk ty ws z w'
 sp:∀v w,Sts w v s->Calls Tryz.prog 23 #[stV s v,.int .i64 ep,.string t,.bool old] w fun z w'=>kS w cd e held x0 x1 x2 x3 o val ps tx tk ty ws z w'
theorem J3(R:Rt)(hR:gJ R)(s:St)(ep:Int)(t:ByteArray)(old:Bool)(hB:StB s)(ht:t.size<=1048576):
  ∃(cd e:Int)(held:Bool)(x0:ByteArray)(x1 x2 x3:Int)(o:Bool)(val:Int)(ps:List Int)(tx:Bool)(tk ty:Int)(ws:Prl),Yk s ep t old cd e held x0 x1 x2 x3 o val ps tx tk ty ws:=by
 by_cases hq:(if epC R s ep=0 then aH t else epC R s ep)=0
 ·have he:epC R s ep=0:=by
   by_cases h:epC R s ep=0
   ·exact h
   ·rw[if_neg h]at hq;exact hq
  rw[if_pos he]at hq
  have h0:stF R s=0:=by
   by_cases h:stF R s=0
   ·exact h
   ·rw[Lm h]at he;exact he
  have h2:inB ep 1 (s.h.length:Int)=true:=by
   rcases Bool.eq_false_or_eq_true (inB ep 1 (s.h.length:Int))with h2 | h2
   ·exact h2
   ·rw[GL h0 h2]at he;exact absurd he (by decide)
  have hb:=iw h2
  have hst:=uT h0
  have hlen:=hst.same
  obtain⟨k,hk⟩:∃k:Nat,ep=(k:Int)+1:=⟨(ep - 1).toNat,by omega⟩
  have hkp:k<s.p.length:=by omega
  have hkb:=LV t
  rcases Bool.eq_false_or_eq_true (oC old (hAt s.h k).p)with hr | hr
  ·obtain⟨held,x0,x1,x2,x3,val,ps,tx,tk,ty,ws,D⟩:=Uf (dAt s.p k) (hB.pd k hkp).2 (PE hst.his k hkp) (dY t) (by omega) old
   refine⟨0,(k:Int)+1,held,x0,x1,x2,x3,old,val,ps,tx,tk,ty,ws,D.s,D.p,D.f,fun v w hv=> ?_,fun v w hv=> ?_⟩
   ·obtain⟨a,c,e4⟩:=hv.p.shape
    have hp:=hv.p
    rw[e4]at hp
    obtain⟨-,b,off,rfl,hbl,hcs⟩:=hp.at (by omega)
    obtain⟨u,hu,jo⟩:=hcs k hkp
    have hI:∀w',Below w.heap.size w w'->Calls Tryz.prog 76 #[WJ old,.agg #[u],.int .i64 (dY t)] w' fun e w''=>fZ w' 0 held x0 x1 x2 x3 old val ps tx tk ty ws e w'':=fun w' hb=>D.im u w' (jo.below hb)
    cases old
    ·exact BN R hR s v ep t w hv hB ht k hkp hk h0 hq hr b off c e4 hbl u hu jo held tx x0 x1 x2 x3 val tk ty ps ws hI
    ·exact DN R hR s v ep t w hv hB ht k hkp hk h0 hq hr b off c e4 hbl u hu jo held tx x0 x1 x2 x3 val tk ty ps ws hI
   ·obtain⟨a,c,e4⟩:=hv.p.shape
    have hp:=hv.p
    rw[e4]at hp
    obtain⟨-,b,off,rfl,hbl,hcs⟩:=hp.at (by omega)
    obtain⟨u,hu,jo⟩:=hcs k hkp
    have hS:∀w',Below w.heap.size w w'->Calls Tryz.prog 71 #[.pointer (some ⟨b,off+k,none⟩),.int .i64 ((k:Int)+1),.int .i64 (dY t),.bool old] w' fun e w''=>fZ w' ((k:Int)+1) held x0 x1 x2 x3 old val ps tx tk ty ws e w'':=fun w' hb=>D.sp b (off+k) u _ w' (Nat.lt_of_lt_of_le hbl hb.size) ((hb.cell (p:=⟨b,off+k,none⟩) hbl).trans hu) (jo.below hb)
    cases old
    ·exact CU R hR s v ep t w hv hB ht k hkp hk h0 hq hr b off c e4 held tx x0 x1 x2 x3 val tk ty ps ws hS
    ·exact DX R hR s v ep t w hv hB ht k hkp hk h0 hq hr b off c e4 held tx x0 x1 x2 x3 val tk ty ps ws hS
  ·refine⟨10,0,false,⟨#[]⟩,0,0,0,false,0,[],false,0,0,[],Nat.zero_le _,Nat.zero_le _,Nat.zero_le _,fun v w hv=> ?_,fun v w hv=> ?_⟩
   ·cases old
    ·exact yH R hR s v ep t w hv hB ht k hkp hk h0 hq hr
    ·exact Ak R hR s v ep t w hv hB ht k hkp hk h0 hq hr
   ·cases old
    ·exact yL R hR s v ep t w hv hB ht k hkp hk h0 hq hr
    ·exact AP R hR s v ep t w hv hB ht k hkp hk h0 hq hr
 ·exact⟨_,0,false,⟨#[]⟩,0,0,0,false,0,[],false,0,0,[],Nat.zero_le _,Nat.zero_le _,Nat.zero_le _,fun v w hv=>Nv R hR s v ep t old w hv hB ht hq,fun v w hv=>Ov R hR s v ep t old w hv hB ht hq⟩
end U
end Go.Proofs.YtmnfokgllcdiiaaGreat
