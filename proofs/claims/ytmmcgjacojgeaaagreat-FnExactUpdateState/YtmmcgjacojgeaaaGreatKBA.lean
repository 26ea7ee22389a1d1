/- Joined: what the texts behind it need. -/
import Derived.Test.YtmmcgjacojgeaaaGreatKZz
import Derived.WalkKit
import Derived.Test.YtmmcgjacojgeaaaGreatRows
import Derived.WalkSpells
import Derived.WalkLawsBesides
import Derived.Lib.Strings
import Derived.Lib.OthersKept
import Derived.Deep.QuietTactic
import Derived.BigQuiet
import Derived.Deep.RegionHeld3
import Derived.Deep.AppendLies
import Derived.Laws.IdiomStrings
import Derived.Lib.BufferRead
import Derived.Laws.AppendOwnNone
import Derived.Lib.AppendStr
import Derived.Deep.RegionLaw
import Derived.Deep.DrawnRows
import Derived.Laws.BitsAllLaws
import Derived.Laws.Bits128
set_option maxRecDepth 100000
set_option maxHeartbeats 4000000
namespace Go.Proofs.YtmmcgjacojgeaaaGreat
namespace U
def inB(v lo hi:Int):Bool:=decide (lo<=v/\v<=hi)
def iV(r:Int):Bool:=decide ((0<=r/\r<=1114111)/\¬(55296<=r/\r<=57343))
def iW(r:Int):Int:=if r<128 then 1 else if r<2048 then 2 else if r<65536 then 3 else 4
def dU(b:Int):Int:=if b<128 then 1 else if 192<=b/\b<224 then 2 else if 224<=b/\b<240 then 3 else if 240<=b/\b<248 then 4 else 0
def dV(b:Int):Int:=if b<128 then b else if 192<=b/\b<224 then b - 192 else if 224<=b/\b<240 then b - 224 else if 240<=b/\b<248 then b - 240 else 0
def bt(s:ByteArray)(i:Nat):Int:=((s.get! i).toNat:Int)
theorem LV(s:ByteArray)(i:Nat)(h:i<s.size):bt s i=((s[i]'h).toNat:Int):=by
 have:=get_at s i h
 unfold bt
 rw[←this];rfl
theorem nT(s:ByteArray)(i:Nat):0<=bt s i/\bt s i<=255:=by
 unfold bt
 have:=(s.get! i).toNat_lt
 omega
def iC(s:ByteArray)(p:Nat):Bool:=decide (Utf8.decode s p≠(65533,1))
def acc(s:ByteArray)(p:Nat)(r0:Int):Nat->Int
 | 0=>r0
 | k+1=>64*acc s p r0 k+bt s (p+1+k) - 128
def sJ(s:ByteArray)(p:Nat)(k:Nat):Prop:=∀j,j<k->128<=bt s (p+1+j)/\bt s (p+1+j)<=191
theorem LY(s:ByteArray)(p:Nat):sJ s p 0:=fun _ h=>by omega
theorem LX{s:ByteArray}{p k:Nat}(h:sJ s p k)(h1:128<=bt s (p+1+k))(h2:bt s (p+1+k)<=191):sJ s p (k+1):=by
 intro j hj
 by_cases e:j=k
 ·subst e;exact⟨h1,h2⟩
 ·exact h j (by omega)
theorem V8{s:ByteArray}{p k:Nat}{r0:Int}(h:sJ s p k)(h0:0<=r0)(h1:r0<128)(hk:k<=3):0<=acc s p r0 k/\acc s p r0 k<33554432:=by
 have a0:=h 0;have a1:=h 1;have a2:=h 2
 rcases(show k=0∨k=1∨k=2∨k=3 by omega)with rfl | rfl | rfl | rfl
 ·simp only[acc];omega
 ·have a0:=a0 (by omega);simp only[acc]at *;omega
 ·have a0:=a0 (by omega);have a1:=a1 (by omega);simp only[acc]at *;omega
 ·have a0:=a0 (by omega);have a1:=a1 (by omega);have a2:=a2 (by omega);simp only[acc]at *;omega
theorem Hz(b:Int):0<=dU b/\dU b<=4:=by unfold dU;repeat' split<;>try omega
theorem Sl(b:Int)(h:0<=b):0<=dV b/\dV b<128:=by unfold dV;repeat' split<;>try omega
def iO(n b0 b1 b2 b3:Nat):Nat × Nat:=
 if b0<128 then(b0,1)
 else if b0/32=6/\1<n/\b1/64=2 then
  if 128<=(b0%32)*64+b1%64 then((b0%32)*64+b1%64,2)else(65533,1)
 else if b0/16=14/\(1<n/\b1/64=2)/\(2<n/\b2/64=2)then
  if 2048<=(b0%16)*4096+(b1%64)*64+b2%64/\¬(55296<=(b0%16)*4096+(b1%64)*64+b2%64/\(b0%16)*4096+(b1%64)*64+b2%64<=57343)then((b0%16)*4096+(b1%64)*64+b2%64,3)else(65533,1)
 else if b0/8=30/\(1<n/\b1/64=2)/\(2<n/\b2/64=2)/\(3<n/\b3/64=2)then
  if 65536<=(b0%8)*262144+(b1%64)*4096+(b2%64)*64+b3%64/\(b0%8)*262144+(b1%64)*4096+(b2%64)*64+b3%64<=1114111 then((b0%8)*262144+(b1%64)*4096+(b2%64)*64+b3%64,4)else(65533,1)
 else(65533,1)
theorem qy{α:Type}{c d:Prop}[Decidable c][Decidable d]{x y x' y':α}(h:c↔d)(h1:c->x=x')(h2:¬c->y=y'):(if c then x else y)=(if d then x' else y'):=by
 by_cases hc:c
 ·rw[if_pos hc,if_pos (h.1 hc)];exact h1 hc
 ·rw[if_neg hc,if_neg (fun hd=>hc (h.2 hd))];exact h2 hc
theorem oC(s:ByteArray)(p:Nat):Utf8.decode s p=iO (s.size - p) (s.get! p).toNat (s.get! (p+1)).toNat (s.get! (p+2)).toNat (s.get! (p+3)).toNat:=by
 have u0:=(s.get! p).toNat_lt;have u1:=(s.get! (p+1)).toNat_lt;have u2:=(s.get! (p+2)).toNat_lt;have u3:=(s.get! (p+3)).toNat_lt
 simp only[Utf8.decode,Nat.add_zero]
 unfold iO
 refine qy (by omega) (fun _=>rfl) (fun n0=> ?_)
 refine qy (by simp;omega) (fun _=>qy (by omega) (fun _=>rfl) (fun _=>rfl)) (fun n1=> ?_)
 refine qy (by simp;omega) (fun _=>qy (by simp[Utf8.valid];omega) (fun _=>rfl) (fun _=>rfl)) (fun n2=> ?_)
 refine qy (by simp;omega) (fun _=>qy (by simp[Utf8.valid];omega) (fun _=>rfl) (fun _=>rfl)) (fun _=>rfl)
theorem O8{n b0 b1 b2 b3:Nat}(h0:b0<256)(h:dU (b0:Int)=0):iO n b0 b1 b2 b3=(65533,1):=by
 unfold dU at h
 have h1:¬b0<128:=by intro h9;rw[if_pos (by omega)]at h;omega
 rw[if_neg (by omega)]at h
 have h2:¬(192<=(b0:Int)/\(b0:Int)<224):=by intro h9;rw[if_pos (by omega)]at h;omega
 rw[if_neg h2]at h
 have h3:¬(224<=(b0:Int)/\(b0:Int)<240):=by intro h9;rw[if_pos (by omega)]at h;omega
 rw[if_neg h3]at h
 have h4:¬(240<=(b0:Int)/\(b0:Int)<248):=by intro h9;rw[if_pos (by omega)]at h;omega
 unfold iO
 rw[if_neg h1,if_neg (by omega),if_neg (by omega),if_neg (by omega)]
theorem tH(b:Int):(b<128/\dU b=1/\dV b=b)∨(192<=b/\b<224/\dU b=2/\dV b=b - 192)∨(224<=b/\b<240/\dU b=3/\dV b=b - 224)∨(240<=b/\b<248/\dU b=4/\dV b=b - 240)∨dU b=0:=by
 unfold dU dV
 by_cases a:b<128
 ·left;simp[a]
 by_cases c:192<=b/\b<224
 ·right;left;simp[a,c]
 by_cases d:224<=b/\b<240
 ·right;right;left;simp[a,c,d]
 by_cases e:240<=b/\b<248
 ·right;right;right;left;simp[a,c,d,e]
 ·right;right;right;right;simp[a,c,d,e]
theorem Bl{s:ByteArray}{p:Nat}(h:Utf8.decode s p=(65533,1)):iC s p=false:=by simp[iC,h]
theorem NR{s:ByteArray}{p:Nat}(hp:p<s.size)(h:dU (bt s p)=0∨(s.size:Int)<(p:Int)+dU (bt s p)):iC s p=false:=by
 apply Bl
 rw[oC]
 have hb:=nT s p
 rcases tH (bt s p)with⟨a,e,_⟩ |⟨a,a',e,_⟩ |⟨a,a',e,_⟩ |⟨a,a',e,_⟩|e
 ·rw[e]at h;omega
 ·rw[e]at h;unfold bt at a a';unfold iO
  rw[if_neg (by omega),if_neg (by omega),if_neg (by omega),if_neg (by omega)]
 ·rw[e]at h;unfold bt at a a';unfold iO
  rw[if_neg (by omega),if_neg (by omega),if_neg (by omega),if_neg (by omega)]
 ·rw[e]at h;unfold bt at a a';unfold iO
  rw[if_neg (by omega),if_neg (by omega),if_neg (by omega),if_neg (by omega)]
 ·exact O8 (s.get! p).toNat_lt e
theorem NP{s:ByteArray}{p k:Nat}(hk:((k+1:Nat):Int)<dU (bt s p))(h:bt s (p+1+k)<128∨191<bt s (p+1+k)):iC s p=false:=by
 apply Bl
 rw[oC]
 have hb:=nT s p
 have u1:=(s.get! (p+1)).toNat_lt;have u2:=(s.get! (p+2)).toNat_lt;have u3:=(s.get! (p+3)).toNat_lt
 have e3:k<=2:=by have:=Hz (bt s p);omega
 have hd:(k=0/\((s.get! (p+1)).toNat<128∨191<(s.get! (p+1)).toNat))∨(k=1/\((s.get! (p+2)).toNat<128∨191<(s.get! (p+2)).toNat))∨(k=2/\((s.get! (p+3)).toNat<128∨191<(s.get! (p+3)).toNat)):=by
  rcases(show k=0∨k=1∨k=2 by omega)with rfl | rfl | rfl
  ·left;unfold bt at h;simp only[Nat.add_zero]at h;exact⟨rfl,by omega⟩
  ·right;left;unfold bt at h;simp only[Nat.add_assoc,Nat.reduceAdd]at h;exact⟨rfl,by omega⟩
  ·right;right;unfold bt at h;simp only[Nat.add_assoc,Nat.reduceAdd]at h;exact⟨rfl,by omega⟩
 clear h
 rcases tH (bt s p)with⟨a,e,_⟩ |⟨a,a',e,_⟩ |⟨a,a',e,_⟩ |⟨a,a',e,_⟩|e
 ·rw[e]at hk;omega
 ·rw[e]at hk;unfold bt at a a';unfold iO
  rw[if_neg (by omega),if_neg (by omega),if_neg (by omega),if_neg (by omega)]
 ·rw[e]at hk;unfold bt at a a';unfold iO
  rw[if_neg (by omega),if_neg (by omega),if_neg (by omega),if_neg (by omega)]
 ·rw[e]at hk;unfold bt at a a';unfold iO
  rw[if_neg (by omega),if_neg (by omega),if_neg (by omega),if_neg (by omega)]
 ·rw[e]at hk;omega
theorem zh(r:Int):(r<128/\iW r=1)∨(128<=r/\r<2048/\iW r=2)∨(2048<=r/\r<65536/\iW r=3)∨(65536<=r/\iW r=4):=by
 unfold iW
 by_cases a:r<128
 ·left;simp[a]
 by_cases b:r<2048
 ·right;left;simp[a,b];omega
 by_cases c:r<65536
 ·right;right;left;simp[a,b,c];omega
 ·right;right;right;simp[a,b,c];omega
theorem fin{D:Nat × Nat}{r:Int}{n:Nat}(hn:n≠1∨r<128)(h0:0<=r)(h:iV r=true/\iW r=n->D=(r.toNat,n))(h':¬(iV r=true/\iW r=n)->D=(65533,1)):
  decide (D≠(65533,1))=(iV r&&decide (iW r=n))/\(decide (D≠(65533,1))=true->r=(D.1:Int)/\(n:Int)=(D.2:Int)):=by
 by_cases hc:iV r=true/\iW r=n
 ·rw[h hc]
  have hne:((r.toNat,n):Nat × Nat)≠(65533,1):=by
   intro e
   rw[Prod.mk.injEq]at e
   omega
  refine⟨?_,fun _=>⟨by dsimp only;omega,rfl⟩⟩
  rw[decide_eq_true hne,hc.1,decide_eq_true hc.2];rfl
 ·rw[h' hc]
  refine⟨?_,fun h=>absurd h (by simp)⟩
  have:(iV r&&decide (iW r=n))=false:=by
   rcases Bool.eq_false_or_eq_true (iV r)with e | e
   ·rw[e,decide_eq_false (fun e2=>hc ⟨e,e2⟩)];rfl
   ·rw[e];rfl
  rw[this];simp
theorem NS{s:ByteArray}{p k:Nat}(hn:dU (bt s p)=(k+1:Nat))(hs:p+1+k<=s.size)(hc:sJ s p k):
  iC s p=(iV (acc s p (dV (bt s p)) k)&&decide (iW (acc s p (dV (bt s p)) k)=(k+1:Nat)))/\
  (iC s p=true->acc s p (dV (bt s p)) k=((Utf8.decode s p).1:Int)/\((k+1:Nat):Int)=((Utf8.decode s p).2:Int)):=by
 have u1:=(s.get! (p+1)).toNat_lt;have u2:=(s.get! (p+2)).toNat_lt;have u3:=(s.get! (p+3)).toNat_lt
 have a0:=hc 0;have a1:=hc 1;have a2:=hc 2
 unfold iC
 rw[oC]
 have hsz:=zh (acc s p (dV (bt s p)) k)
 have oV:iV (acc s p (dV (bt s p)) k)=true↔((0<=acc s p (dV (bt s p)) k/\acc s p (dV (bt s p)) k<=1114111)/\¬(55296<=acc s p (dV (bt s p)) k/\acc s p (dV (bt s p)) k<=57343)):=by unfold iV;exact decide_eq_true_iff
 rcases tH (bt s p)with⟨a,e,er⟩ |⟨a,a',e,er⟩ |⟨a,a',e,er⟩ |⟨a,a',e,er⟩|e
 ·have hk:k=0:=by rw[e]at hn;omega
  subst hk
  rw[er]at hsz oV ⊢
  simp only[acc]at hsz oV ⊢
  have hb:=nT s p
  unfold bt at a hsz oV hb ⊢
  refine fin (by omega) (by omega) (fun h=> ?_) (fun h=> ?_)
  ·unfold iO;rw[if_pos (by omega)];rfl
  ·exfalso;apply h;rw[oV];omega
 ·have hk:k=1:=by rw[e]at hn;omega
  subst hk
  have a0:=a0 (by omega)
  rw[er]at hsz oV ⊢
  have er':acc s p (bt s p - 192) 1=64*(bt s p - 192)+bt s (p+1) - 128:=rfl
  generalize acc s p (bt s p - 192) 1=r at hsz oV er' ⊢
  simp only[Nat.add_zero]at a0
  unfold bt at a a' a0 er'
  refine fin (by omega) (by omega) (fun h=> ?_) (fun h=> ?_)
  ·rw[oV]at h
   unfold iO
   rw[if_neg (by omega),if_pos (by omega),if_pos (by omega),Prod.mk.injEq]
   exact⟨by omega,rfl⟩
  ·rw[oV]at h
   unfold iO
   rw[if_neg (by omega),if_pos (by omega),if_neg (by omega)]
 ·have hk:k=2:=by rw[e]at hn;omega
  subst hk
  have a0:=a0 (by omega)
  have a1:=a1 (by omega)
  rw[er]at hsz oV ⊢
  have er':acc s p (bt s p - 224) 2=64*(64*(bt s p - 224)+bt s (p+1) - 128)+bt s (p+2) - 128:=rfl
  generalize acc s p (bt s p - 224) 2=r at hsz oV er' ⊢
  simp only[Nat.add_zero,Nat.add_assoc,Nat.reduceAdd]at a0 a1
  unfold bt at a a' a0 a1 er'
  refine fin (by omega) (by omega) (fun h=> ?_) (fun h=> ?_)
  ·rw[oV]at h
   unfold iO
   rw[if_neg (by omega),if_neg (by omega),if_pos (by omega),if_pos (by omega),Prod.mk.injEq]
   exact⟨by omega,rfl⟩
  ·rw[oV]at h
   unfold iO
   rw[if_neg (by omega),if_neg (by omega),if_pos (by omega),if_neg (by omega)]
 ·have hk:k=3:=by rw[e]at hn;omega
  subst hk
  have a0:=a0 (by omega)
  have a1:=a1 (by omega)
  have a2:=a2 (by omega)
  rw[er]at hsz oV ⊢
  have er':acc s p (bt s p - 240) 3=64*(64*(64*(bt s p - 240)+bt s (p+1) - 128)+bt s (p+2) - 128)+bt s (p+3) - 128:=rfl
  generalize acc s p (bt s p - 240) 3=r at hsz oV er' ⊢
  simp only[Nat.add_zero,Nat.add_assoc,Nat.reduceAdd]at a0 a1 a2
  unfold bt at a a' a0 a1 a2 er'
  refine fin (by omega) (by omega) (fun h=> ?_) (fun h=> ?_)
  ·rw[oV]at h
   unfold iO
   rw[if_neg (by omega),if_neg (by omega),if_neg (by omega),if_pos (by omega),if_pos (by omega),Prod.mk.injEq]
   exact⟨by omega,rfl⟩
  ·rw[oV]at h
   unfold iO
   rw[if_neg (by omega),if_neg (by omega),if_neg (by omega),if_pos (by omega),if_neg (by omega)]
 ·rw[e]at hn;omega
theorem Qm{s:ByteArray}{p:Nat}(h:(Utf8.decode s p).1=65533):
  iC s p=decide (3<=s.size - p/\bt s p=239/\bt s (p+1)=191/\bt s (p+2)=189):=by
 have u0:=(s.get! p).toNat_lt;have u1:=(s.get! (p+1)).toNat_lt;have u2:=(s.get! (p+2)).toNat_lt;have u3:=(s.get! (p+3)).toNat_lt
 unfold iC bt
 rw[oC]at h ⊢
 unfold iO at h ⊢
 by_cases c1:(s.get! p).toNat<128
 ·rw[if_pos c1]at h;simp only at h;omega
 rw[if_neg c1]at h ⊢
 by_cases c2:(s.get! p).toNat/32=6/\1<s.size - p/\(s.get! (p+1)).toNat/64=2
 ·rw[if_pos c2]at h ⊢
  split at h
  ·simp only at h;omega
  ·rw[if_neg (by assumption)];simp;omega
 rw[if_neg c2]at h ⊢
 by_cases c3:(s.get! p).toNat/16=14/\(1<s.size - p/\(s.get! (p+1)).toNat/64=2)/\(2<s.size - p/\(s.get! (p+2)).toNat/64=2)
 ·rw[if_pos c3]at h ⊢
  split at h
  ·rw[if_pos (by assumption)]
   simp only at h
   simp;omega
  ·rw[if_neg (by assumption)];simp;omega
 rw[if_neg c3]at h ⊢
 by_cases c4:(s.get! p).toNat/8=30/\(1<s.size - p/\(s.get! (p+1)).toNat/64=2)/\(2<s.size - p/\(s.get! (p+2)).toNat/64=2)/\(3<s.size - p/\(s.get! (p+3)).toNat/64=2)
 ·rw[if_pos c4]at h ⊢
  split at h
  ·simp only at h;omega
  ·rw[if_neg (by assumption)];simp;omega
 rw[if_neg c4];simp;omega
theorem NQ{s:ByteArray}{p:Nat}(h:(Utf8.decode s p).1≠65533):iC s p=true:=by
 unfold iC
 rw[decide_eq_true_iff]
 intro e
 rw[e]at h
 exact h rfl
end U
end Go.Proofs.YtmmcgjacojgeaaaGreat
namespace Go.Proofs.YtmmcgjacojgeaaaGreat
open Go.RowKit
namespace U
theorem iJ{v lo hi:Int}(h1:lo<=v)(h2:v<=hi):inB v lo hi=true:=by unfold inB;simp;omega
theorem nV{v lo hi:Int}(h:v<lo∨hi<v):inB v lo hi=false:=by unfold inB;simp;omega
theorem aU{a b:Bool}(h:a=b):Ending.returned (.bool a) = .returned (.bool b):=by rw[h]
theorem aC{k:IntKind}{a b:Int}(h:a=b):Ending.returned (.int k a) = .returned (.int k b):=by rw[h]
theorem bg(v lo hi:Int)(w:World):
  Calls Tryz.prog 51 #[.int .i64 v,.int .i64 lo,.int .i64 hi] w fun e w'=>e = .returned (.bool (inB v lo hi))/\w'=w:=by
 by_cases h1:lo<=v
 ·by_cases h2:v<=hi
  ·go_enter Tryz.func51,Tryz.ntmps51
   go_wp2
   go_ret
   exact⟨aU (iJ h1 h2).symm,rfl⟩
  ·have h2:hi<v:=by omega
   go_enter Tryz.func51,Tryz.ntmps51
   go_wp2
   go_ret
   exact⟨aU (nV (Or.inr h2)).symm,rfl⟩
 ·have h1:v<lo:=by omega
  go_enter Tryz.func51,Tryz.ntmps51
  go_wp2
  go_ret
  exact⟨aU (nV (Or.inl h1)).symm,rfl⟩
theorem tu(r:Int)(w:World):
  Calls Tryz.prog 219 #[.int .i64 r] w fun e w'=>e = .returned (.int .i64 (iW r))/\w'=w:=by
 rcases zh r with⟨h,e⟩ |⟨h1,h,e⟩ |⟨h1,h,e⟩ |⟨h,e⟩
 all_goals
  rw[e];clear e
  go_enter Tryz.func219,Tryz.ntmps219
  go_wp2
  go_ret
  exact⟨rfl,rfl⟩
theorem Vg{r:Int}(h:inB r 0 1114111=true)(h2:inB r 55296 57343=false):iV r=true:=by unfold iV inB at *;simp at *;omega
theorem Lr{r:Int}(h:inB r 0 1114111=false∨inB r 55296 57343=true):iV r=false:=by unfold iV inB at *;simp at *;omega
theorem tq(r:Int)(w:World):
  Calls Tryz.prog 218 #[.int .i64 r] w fun e w'=>e = .returned (.bool (iV r))/\w'=w:=by
 rcases Bool.eq_false_or_eq_true (inB r 0 1114111)with h1 | h1
 ·rcases Bool.eq_false_or_eq_true (inB r 55296 57343)with h2 | h2
  ·rw[Lr (Or.inr h2)]
   go_enter Tryz.func218,Tryz.ntmps218
   go_wp2_with (go_at_call 51;refine(bg _ _ _ _).mono ?_;rintro e w' ⟨rfl,rfl⟩)
   go_ret
   exact⟨rfl,rfl⟩
  ·rw[Vg h1 h2]
   go_enter Tryz.func218,Tryz.ntmps218
   go_wp2_with (go_at_call 51;refine(bg _ _ _ _).mono ?_;rintro e w' ⟨rfl,rfl⟩)
   go_ret
   exact⟨rfl,rfl⟩
 ·rw[Lr (Or.inl h1)]
  go_enter Tryz.func218,Tryz.ntmps218
  go_wp2_with (go_at_call 51;refine(bg _ _ _ _).mono ?_;rintro e w' ⟨rfl,rfl⟩)
  go_ret
  exact⟨rfl,rfl⟩
theorem JH(b:Int):(b<128/\dU b=1/\dV b=b)∨(192<=b/\b<224/\dU b=2/\dV b=b - 192)∨(224<=b/\b<240/\dU b=3/\dV b=b - 224)∨(240<=b/\b<248/\dU b=4/\dV b=b - 240)∨(128<=b/\b<192/\dU b=0/\dV b=0)∨(248<=b/\dU b=0/\dV b=0):=by
 unfold dU dV
 by_cases a:b<128
 ·left;simp[a]
 by_cases c:192<=b/\b<224
 ·right;left;simp[a,c]
 by_cases d:224<=b/\b<240
 ·right;right;left;simp[a,c,d]
 by_cases e:240<=b/\b<248
 ·right;right;right;left;simp[a,c,d,e]
 ·right;right;right;right;simp[a,c,d,e];omega
theorem Nj(b:Int)(w:World)(h0:0<=b)(h1:b<=255):
  Calls Tryz.prog 217 #[.int .i64 b] w fun e w'=>e = .returned (.tuple #[.int .i64 (dU b),.int .i64 (dV b)])/\w'=w:=by
 rcases JH b with⟨h,e,f⟩ |⟨h,h',e,f⟩ |⟨h,h',e,f⟩ |⟨h,h',e,f⟩ |⟨h,h',e,f⟩ |⟨h,e,f⟩
 all_goals
  rw[e,f];clear e f
  go_enter Tryz.func217,Tryz.ntmps217
  go_wp2
  go_ret2
  exact⟨rfl,rfl⟩
theorem UU(s:ByteArray)(p:Nat)(N R:Int)(w:World)(hp:p<s.size)(hs:s.size<=1048576)(hN0:0<=N)(ZX:N<=4)
  (hL:∀w,Calls Tryz.prog 217 #[.int .i64 (bt s p)] w fun e w'=>e = .returned (.tuple #[.int .i64 N,.int .i64 R])/\w'=w)
  (h:N=0∨(s.size:Int)<(p:Int)+N) :
  Calls Tryz.prog 193 #[.string s,.int .i64 p] w fun e w'=>e = .returned (.tuple #[.int .i64 0,.int .i64 0,.bool false])/\w'=w:=by
 have hb:=nT s p
 have hbt:((s[p]'hp).toNat:Int)=bt s p:=(LV s p hp).symm
 by_cases h0:N=0
 ·subst h0
  go_enter Tryz.func193,Tryz.ntmps193
  go_wp2_with (go_at_call 217;refine(hL _).mono ?_;rintro e w' ⟨rfl,rfl⟩)
  go_ret3
  exact⟨rfl,rfl⟩
 ·have hn:(N==0)=false:=by simpa using h0
  have hlt:(s.size:Int)<(p:Int)+N:=by omega
  clear h h0
  go_enter Tryz.func193,Tryz.ntmps193
  go_wp2_with (go_at_call 217;refine(hL _).mono ?_;rintro e w' ⟨rfl,rfl⟩)
  go_ret3
  exact⟨rfl,rfl⟩
theorem PW(s:ByteArray)(p:Nat)(N R:Int)(w:World)(hp:p<s.size)(hs:s.size<=1048576)(hN0:1<=N)(ZX:N<=4)(hR0:0<=R)(hR1:R<128)
  (hL:∀w,Calls Tryz.prog 217 #[.int .i64 (bt s p)] w fun e w'=>e = .returned (.tuple #[.int .i64 N,.int .i64 R])/\w'=w)
  (h:(p:Int)+N<=(s.size:Int)) :
  Calls Tryz.prog 193 #[.string s,.int .i64 p] w fun e w'=>w'=w/\∃k:Nat,
   (((k:Int)+1<N/\(bt s (p+1+k)<128∨191<bt s (p+1+k))/\e = .returned (.tuple #[.int .i64 0,.int .i64 0,.bool false]))∨
   (N=(k+1:Nat)/\sJ s p k/\e = .returned (.tuple #[.int .i64 (acc s p R k),.int .i64 N,.bool (iV (acc s p R k)&&decide (iW (acc s p R k)=N))]))):=by
 have hb:=nT s p
 have hbt:((s[p]'hp).toNat:Int)=bt s p:=(LV s p hp).symm
 have hn:(N==0)=false:=by simp;omega
 go_enter Tryz.func193,Tryz.ntmps193
 go_wp2_with (go_at_call 217;refine(hL _).mono ?_;rintro e w' ⟨rfl,rfl⟩)
 go_loop [8,9] (fun r i=>∃q k:Nat,Hid (q=p+1+k)/\(k:Int)+1<=N/\i = .int .i64 q/\r = .int .i64 (acc s p R k)/\sJ s p k) (fun _ i=>(p+4) - (intOf i).toNat)
 case atStart=>exact⟨p+1,0,rfl,by omega,by go_num,rfl,LY _ _⟩
 case round=>
  obtain⟨q,k,hq,hk,rfl,rfl,hc⟩:=hrel
  have hqp:p<q:=by have:=hq.out;omega
  have hbd:=V8 hc hR0 hR1 (by omega)
  have hkq:(q:Int)=p+1+k:=by have:=hq.out;omega
  have HK:Hid ((q:Int)=p+1+k):=hkq
  by_cases hlt:(k:Int)+1<N
  ·have Yl:q<s.size:=by omega
   have hlt2:(q:Int)<(p:Int)+N:=by omega
   have hbq:=nT s q
   have aa7:((s[q]'Yl).toNat:Int)=bt s q:=(LV s q Yl).symm
   clear hkq hlt
   by_cases h1:bt s q<128
   ·go_wp2
    go_ret3
    refine⟨rfl,k,Or.inl ⟨by have:=HK.out;omega, ?_,rfl⟩⟩
    rw[←hq.out];exact Or.inl h1
   ·by_cases h2:191<bt s q
    ·go_wp2
     go_ret3
     refine⟨rfl,k,Or.inl ⟨by have:=HK.out;omega, ?_,rfl⟩⟩
     rw[←hq.out];exact Or.inr h2
    ·go_wp2
     go_round
     case rel=>
      refine⟨q+1,k+1,(by have:=hq.out;show q+1=p+1+(k+1);omega),by have:=HK.out;omega,by go_num, ?_,LX hc (by rw[←hq.out];omega) (by rw[←hq.out];omega)⟩
      rw[show acc s p R (k+1)=64*acc s p R k+bt s q - 128 by rw[hq.out];rfl]
     case measure=>simp[intOf];omega
  ·have hN:N=(k+1:Nat):=by omega
   have HN:Hid (N=(k+1:Nat)):=hN
   have hge:(p:Int)+N<=(q:Int):=by omega
   clear hkq hlt hN
   rcases Bool.eq_false_or_eq_true (iV (acc s p R k))with h1 | h1
   ·rcases Bool.eq_false_or_eq_true (decide (iW (acc s p R k)=N))with h2 | h2
    ·have h3:(iW (acc s p R k)==N)=true:=by simpa using h2
     go_wp2_with (first |(go_at_call 218;refine(tq _ _).mono ?_;rintro e w' ⟨rfl,rfl⟩) |(go_at_call 219;refine(tu _ _).mono ?_;rintro e w' ⟨rfl,rfl⟩))
     go_ret3
     exact⟨rfl,k,Or.inr ⟨HN.out,hc,by rw[h1,h2];rfl⟩⟩
    ·have h3:(iW (acc s p R k)==N)=false:=by simpa using h2
     go_wp2_with (first |(go_at_call 218;refine(tq _ _).mono ?_;rintro e w' ⟨rfl,rfl⟩) |(go_at_call 219;refine(tu _ _).mono ?_;rintro e w' ⟨rfl,rfl⟩))
     go_ret3
     exact⟨rfl,k,Or.inr ⟨HN.out,hc,by rw[h1,h2];rfl⟩⟩
   ·go_wp2_with (first |(go_at_call 218;refine(tq _ _).mono ?_;rintro e w' ⟨rfl,rfl⟩) |(go_at_call 219;refine(tu _ _).mono ?_;rintro e w' ⟨rfl,rfl⟩))
    go_ret3
    exact⟨rfl,k,Or.inr ⟨HN.out,hc,by rw[h1];rfl⟩⟩
theorem GX(s:ByteArray)(p:Nat)(w:World)(hp:p<s.size)(hs:s.size<=1048576):
  Calls Tryz.prog 193 #[.string s,.int .i64 p] w fun e w'=>w'=w/\∃r n:Int,e = .returned (.tuple #[.int .i64 r,.int .i64 n,.bool (iC s p)])/\(iC s p=true->r=((Utf8.decode s p).1:Int)/\n=((Utf8.decode s p).2:Int)):=by
 have hb:=nT s p
 have hN:=Hz (bt s p)
 have hR:=Sl (bt s p) hb.1
 have hL:=fun w=>Nj (bt s p) w hb.1 hb.2
 by_cases hsh:dU (bt s p)=0∨(s.size:Int)<(p:Int)+dU (bt s p)
 ·have hok:=NR hp hsh
  refine(UU s p _ _ w hp hs hN.1 hN.2 hL hsh).mono ?_
  rintro e w' ⟨rfl,rfl⟩
  exact⟨rfl,0,0,by rw[hok],fun h=>by rw[hok]at h;cases h⟩
 ·refine(PW s p _ _ w hp hs (by omega) hN.2 hR.1 hR.2 hL (by omega)).mono ?_
  rintro e w' ⟨rfl,k,⟨hk,hbr,rfl⟩ |⟨hk,hc,rfl⟩⟩
  ·have hok:=NP (by omega) hbr
   exact⟨rfl,0,0,by rw[hok],fun h=>by rw[hok]at h;cases h⟩
  ·have hw:=NS hk (by omega) hc
   refine⟨rfl,acc s p (dV (bt s p)) k,dU (bt s p), ?_,fun h=>⟨(hw.2 h).1, ?_⟩⟩
   ·rw[hw.1,hk]
   ·rw[hk];exact(hw.2 h).2
theorem jI(s:ByteArray)(i:Nat):bt s i=((s.data.toList.getD i 0).toNat:Int):=by
 unfold bt
 congr 2
 show s.data[i]! = _
 by_cases h:i<s.data.size
 ·rw[getElem!_pos s.data i h];simp only[List.getD_eq_getElem?_getD,Array.getElem?_toList,Array.getElem?_eq_getElem h,Option.getD_some]
 ·rw[getElem!_neg s.data i h];simp only[List.getD_eq_getElem?_getD,Array.getElem?_toList,Array.getElem?_eq_none (Nat.le_of_not_lt h),Option.getD_none];rfl
def xu(t:ByteArray):Bool:=decide (3<=t.size/\bt t 0=239/\bt t 1=191/\bt t 2=189)
theorem Oj(a:UInt8)(n:Nat)(hn:n<256):(a==(UInt8.ofNat n))=decide ((a.toNat:Int)=(n:Int)):=by
 rw[Bool.eq_iff_iff,decide_eq_true_iff,beq_iff_eq,UInt8.toNat_inj.symm,UInt8.toNat_ofNat']
 omega
theorem Qv(L:List UInt8)(h:3<=L.length):(L.take 3==[239,191,189])=decide (((L.getD 0 0).toNat:Int)=239/\((L.getD 1 0).toNat:Int)=191/\((L.getD 2 0).toNat:Int)=189):=by
 match L,h with
 | a::b::c::r,_=>
  show((a==239)&&((b==191)&&((c==189)&&true)))=_
  rw[show(239:UInt8)=UInt8.ofNat 239 from rfl,show(191:UInt8)=UInt8.ofNat 191 from rfl,show(189:UInt8)=UInt8.ofNat 189 from rfl,Oj a 239 (by omega),Oj b 191 (by omega),Oj c 189 (by omega)]
  rw[Bool.eq_iff_iff]
  simp
theorem Vb(t:ByteArray)(h:3<=t.size):((t.extract 0 3).toList==[239,191,189])=xu t:=by
 rw[Lib.extract_toList]
 have hl:=Lib.size_eq t
 simp only[List.drop_zero,Nat.sub_zero]
 rw[Qv _ (by omega)]
 unfold xu
 rw[jI,jI,jI,Bool.eq_iff_iff,decide_eq_true_iff,decide_eq_true_iff]
 exact⟨fun x=>⟨h,x⟩,fun x=>x.2⟩
theorem Es(t:ByteArray)(w:World)(ht:t.size<=1048576):
  Calls Tryz.prog 225 #[.string t,.string ⟨#[239,191,189]⟩] w fun e w'=>e = .returned (.bool (xu t))/\w'=w:=by
 by_cases h:3<=t.size
 ·go_enter Tryz.func225,Tryz.ntmps225
  go_wp2
  go_ret
  exact⟨aU (Vb t h),rfl⟩
 ·go_enter Tryz.func225,Tryz.ntmps225
  go_wp2
  go_ret
  exact⟨aU (by unfold xu;simp;omega),rfl⟩
theorem mW(t:ByteArray)(w:World)(ht:t.size<=1048576):
  Calls Tryz.prog 204 #[.string t,.string ⟨#[239,191,189]⟩] w fun e w'=>e = .returned (.bool (xu t))/\w'=w:=by
 go_enter Tryz.func204,Tryz.ntmps204
 go_wp2_with (go_at_call 225;refine(Es _ _ ht).mono ?_;rintro e w' ⟨rfl,rfl⟩)
 go_ret
 exact⟨rfl,rfl⟩
theorem Ez(t:ByteArray)(r:Int)(w:World)(ht:t.size<=1048576):
  Calls Tryz.prog 185 #[.string t,.int .i32 r] w fun e w'=>e = .returned (.bool ((r != 65533)||xu t))/\w'=w:=by
 rcases Bool.eq_false_or_eq_true (r != 65533)with h | h
 ·rw[h]
  go_enter Tryz.func185,Tryz.ntmps185
  go_wp2_with (go_at_call 204;refine(mW _ _ ht).mono ?_;rintro e w' ⟨rfl,rfl⟩)
  go_ret
  exact⟨rfl,rfl⟩
 ·rw[h]
  go_enter Tryz.func185,Tryz.ntmps185
  go_wp2_with (go_at_call 204;refine(mW _ _ ht).mono ?_;rintro e w' ⟨rfl,rfl⟩)
  go_ret
  exact⟨rfl,rfl⟩
theorem sH(s:ByteArray)(p j:Nat):bt (s.extract p s.size) j=bt s (p+j):=by
 rw[jI,jI,Lib.extract_data]
 congr 2
 have hl:=Lib.size_eq s
 simp only[List.getD_eq_getElem?_getD,List.getElem?_take,List.getElem?_drop]
 split
 ·rfl
 ·rw[List.getElem?_eq_none (by omega)]
theorem Om(s:ByteArray)(p:Nat):((((Utf8.decode s p).1:Int) != 65533)||xu (s.extract p s.size))=iC s p:=by
 by_cases h:(Utf8.decode s p).1=65533
 ·rw[Qm h,h]
  unfold xu
  rw[sH,sH,sH]
  have:(s.extract p s.size).size=s.size - p:=by simp
  rw[this]
  simp
 ·rw[NQ h]
  have:(((Utf8.decode s p).1:Int) != 65533)=true:=by simp;omega
  rw[this];rfl
theorem wL(s:ByteArray)(p:Nat)(w:World)(hs:s.size<=1048576):
  Calls Tryz.prog 185 #[.string (s.extract p s.size),.int .i32 ((Utf8.decode s p).1:Int)] w fun e w'=>e = .returned (.bool (iC s p))/\w'=w:=by
 have h:=Ez (s.extract p s.size) ((Utf8.decode s p).1:Int) w (by simp;omega)
 rw[Om]at h
 exact h
def iL(s:ByteArray):Nat->Nat->Option (List Int)
 | 0,_=>some []
 | f+1,p=>if p<s.size then(if iC s p=true then(iL s f (p+(Utf8.decode s p).2)).map (((Utf8.decode s p).1:Int) :: ·)else none)else some []
def runes(s:ByteArray):Option (List Int):=iL s s.size 0
theorem L6(n b0 b1 b2 b3:Nat):1<=(iO n b0 b1 b2 b3).2/\(iO n b0 b1 b2 b3).2<=4:=by
 unfold iO
 repeat' split
 all_goals exact⟨by dsimp only;omega,by dsimp only;omega⟩
theorem width(s:ByteArray)(p:Nat):1<=(Utf8.decode s p).2/\(Utf8.decode s p).2<=4:=by rw[oC];exact L6 _ _ _ _ _
theorem BD{s:ByteArray}{f p:Nat}(h:¬p<s.size):iL s f p=some []:=by
 cases f with
 | zero=>rfl
 | succ f=>simp[iL,h]
theorem Ed{s:ByteArray}{f p:Nat}(h:p<s.size)(hok:iC s p=false):iL s (f+1) p=none:=by
 simp[iL,h,hok]
theorem BF{s:ByteArray}{f p:Nat}(h:p<s.size)(hok:iC s p=true):iL s (f+1) p=(iL s f (p+(Utf8.decode s p).2)).map (((Utf8.decode s p).1:Int) :: ·):=by
 simp[iL,h,hok]
def Rest(s:ByteArray)(p f:Nat)(acc:List Int):Prop:=s.size<=p+f/\acc.length<=p/\(iL s f p).map (acc ++ ·)=runes s
theorem Rest.start(s:ByteArray):Rest s 0 s.size []:=⟨by omega,by simp,by unfold runes;cases iL s s.size 0<;>rfl⟩
theorem Rest.fuel{s:ByteArray}{p f:Nat}{acc:List Int}(h:Rest s p f acc)(hp:p<s.size):∃g,f=g+1:=⟨f - 1,by have:=h.1;omega⟩
theorem Rest.no{s:ByteArray}{p f:Nat}{acc:List Int}(h:Rest s p f acc)(hp:p<s.size)(hok:iC s p=false):runes s=none:=by
 obtain⟨g,rfl⟩:=h.fuel hp
 rw[←h.2.2,Ed hp hok];rfl
theorem Rest.done{s:ByteArray}{p f:Nat}{acc:List Int}(h:Rest s p f acc)(hp:¬p<s.size):runes s=some acc:=by
 rw[←h.2.2,BD hp];simp
theorem Rest.step{s:ByteArray}{p f:Nat}{acc:List Int}(h:Rest s p f acc)(hp:p<s.size)(hok:iC s p=true):∃g,Rest s (p+(Utf8.decode s p).2) g (acc++[((Utf8.decode s p).1:Int)]):=by
 obtain⟨g,rfl⟩:=h.fuel hp
 have hw:=width s p
 refine⟨g,by have:=h.1;omega,by have:=h.2.1;simp;omega, ?_⟩
 rw[←h.2.2,BF hp hok]
 cases iL s g (p+(Utf8.decode s p).2)<;>simp
theorem D5(xs:List Int)(x:Int):(xs++[x]).map (Value.int .i64)=xs.map (Value.int .i64)++[.int .i64 x]:=by simp
theorem Tryz.KQ:(Tryz.prog.info? 2).map (fun i=>(i.zero,i.size,i.bytes))=some (some (.int .i64 0),1,8):=by kernel_rfl
theorem one_cell(k:IntKind)(x:Int):∀u∈[Value.int k x],u.oneCell'=true:=by
 intro u hu
 simp at hu;subst hu;rfl
theorem grown_below{B:Nat}{w wr w1:World}{e:TypeId}{size n:Nat}{v:Value}{xs:List Value}{o:Obj}(hb:Below B w wr)(hown:wr.ownsRow B e size v n xs)(hg:(wr.alloc o).grownBy w1 v.ownBlock)(hB:B<=wr.heap.size):Below B w w1:=
 (hb.alloc hB o).grown hg (by simp;omega) (fun k hk=>(hown.lt k hk).1)
theorem yR(s:ByteArray)(w:World)(hs:s.size<=1048576):
  Calls Tryz.prog 168 #[.string s] w fun e w'=>Below w.heap.size w w'/\((runes s=none/\e = .returned (.tuple #[.slice none 0 0,.bool false]))∨
   ∃xs v,runes s=some xs/\xs.length<=s.size+4/\e = .returned (.tuple #[v,.bool true])/\w'.ownsRow w.heap.size 2 1 v xs.length (xs.map (Value.int .i64))):=by
 obtain⟨i0,hi,hz0,hz1,hz2⟩:=info_parts Tryz.KQ
 go_enter Tryz.func168,Tryz.ntmps168
 go_wp2
 go_loopw [4,5] (fun v i wr=>∃(p f:Nat)(acc:List Int),i = .int .i64 p/\p<=s.size+4/\Hid (Rest s p f acc)/\Below w.heap.size w wr/\wr.ownsRow w.heap.size 2 1 v acc.length (acc.map (Value.int .i64))) (fun _ i _=>s.size - (intOf i).toNat)
 case atStart=>
  exact⟨0,s.size,[],rfl,by omega,Rest.start s,(Below.refl _ _).alloc (Nat.le_refl _) _,World.ownsRow_lit w #[] 0 (Nat.le_refl _) (by decide) rfl⟩
 case round=>
  obtain⟨p,f,acc,rfl,hp4,hR,hbel,hown⟩:=hrel
  by_cases hp:p<s.size
  ·have hw:=width s p
   have hal:acc.length<=p:=hR.out.2.1
   rcases Bool.eq_false_or_eq_true (iC s p)with hok | hok
   ·go_wp2_with (first
     |(go_at_call 193;refine(GX s p _ hp hs).mono ?_;rintro e w' ⟨rfl,r,n,rfl,hrn⟩;obtain⟨rfl,rfl⟩:=hrn hok;clear hrn)
     |(at_builtin;refine wpList_append_own _ rfl _ _ 149 rfl w.heap.size 2 i0 (.int .i64 0) 1 8 Tryz.underlying149 hi hz0 hz1 hz2 rfl (by decide) _ _ _ rfl (hown.alloc _) ⟨w'.heap.size,0,none⟩ 1 1 [.int .i64 ((Utf8.decode s p).1:Int)] rfl rfl (cell_one_new _ _ _) (one_cell _ _) (by unfold maxLen;omega) (by omega) (by have:=hbel.size;simp;omega) ?_))
    intro v' w1 hown' hgrow _
    have hb1:Below w.heap.size w w1:=grown_below hbel hown hgrow hbel.size
    clear hgrow
    go_wp2
    go_roundw
    case rel=>
     obtain⟨g,hg⟩:=hR.out.step hp hok
     exact⟨p+(Utf8.decode s p).2,g,acc++[((Utf8.decode s p).1:Int)],by go_num,by omega,hg,hb1,by rw[D5,List.length_append];exact hown'⟩
    case measure=>simp[intOf];omega
   ·go_wp2_with (first
     |(go_at_call 193;refine(GX s p _ hp hs).mono ?_;rintro e w' ⟨rfl,r,n,rfl,hrn⟩;clear hrn))
    go_ret2
    exact⟨hbel,Or.inl ⟨hR.out.no hp hok,rfl⟩⟩
  ·go_wp2
   go_ret2
   exact⟨hbel,Or.inr ⟨acc,_,hR.out.done hp,by have:=hR.out.2.1;omega,rfl,hown⟩⟩
theorem aW{w:World}{B n size:Nat}{e:TypeId}{v:Value}{xs:List Value}(h:w.ownsRow B e size v n xs):∃a c,v = .slice a n c:=by
 rcases h.2 with⟨rfl,rfl⟩ |⟨g,cap,cur,rfl,_⟩
 ·exact⟨none,0,rfl⟩
 ·exact⟨_,cap,rfl⟩
theorem GY(s:ByteArray)(w:World)(hs:s.size<=1048576)(hr:runes s=none):
  Calls Tryz.prog 168 #[.string s] w fun e w'=>e = .returned (.tuple #[.slice none 0 0,.bool false])/\Below w.heap.size w w':=by
 refine(yR s w hs).mono ?_
 rintro e w' ⟨hb,⟨_,rfl⟩ |⟨xs,v,h2,_⟩⟩
 ·exact⟨rfl,hb⟩
 ·rw[hr]at h2;cases h2
theorem GZ(s:ByteArray)(w:World)(xs:List Int)(hs:s.size<=1048576)(hr:runes s=some xs):
  Calls Tryz.prog 168 #[.string s] w fun e w'=>∃a c,e = .returned (.tuple #[.slice a xs.length c,.bool true])/\Below w.heap.size w w'/\w'.ownsRow w.heap.size 2 1 (.slice a xs.length c) xs.length (xs.map (Value.int .i64)):=by
 refine(yR s w hs).mono ?_
 rintro e w' ⟨hb,⟨h2,rfl⟩ |⟨ys,v,h2,_,rfl,hown⟩⟩
 ·rw[hr]at h2;cases h2
 ·rw[hr]at h2;cases h2
  obtain⟨a,c,rfl⟩:=aW hown
  exact⟨a,c,rfl,hb,hown⟩
theorem xA{s:ByteArray}{xs:List Int}(h:runes s=some xs):xs.length<=s.size:=by
 have key:∀f p (ys:List Int),iL s f p=some ys->ys.length<=s.size - p:=by
  intro f
  induction f with
  | zero=>intro p ys h;simp[iL]at h;subst h;simp
  | succ f ih=>
   intro p ys h
   by_cases hp:p<s.size
   ·rcases Bool.eq_false_or_eq_true (iC s p)with hok | hok
    ·rw[BF hp hok]at h
     obtain⟨zs,hz,rfl⟩:=Option.map_eq_some_iff.1 h
     have:=ih _ _ hz
     have hw:=width s p
     simp;omega
    ·rw[Ed hp hok]at h;cases h
   ·rw[BD hp]at h;cases h;simp
 simpa using key _ _ _ h
def rP(s:ByteArray):Int × List Int:=if 200<s.size then(2,[])else match runes s with | none=>(5,[])|some xs=>(0,xs)
theorem LQ{W w1:World}(hb:Below W.heap.size W w1):(∀b o,b<W.heap.size->w1.cell? ⟨b,o,none⟩=W.cell? ⟨b,o,none⟩)/\(∀b o,b<W.heap.size->w1.frozen? ⟨b,o,none⟩=W.frozen? ⟨b,o,none⟩):=
 ⟨fun b o h=>hb.cell (p:=⟨b,o,none⟩) h,fun b o h=>hb.frozen (p:=⟨b,o,none⟩) h⟩
def Ce(w:World)(code:Int)(xs:List Int)(e:Ending)(w':World):Prop:=
 Below w.heap.size w w'/\∃v,e = .returned (.agg #[.int .i64 code,v])/\w'.ownsRow w.heap.size 2 1 v xs.length (xs.map (Value.int .i64))
theorem WU{s:ByteArray}(h:200<s.size):rP s=(2,[]):=by simp[rP,h]
theorem Lc{s:ByteArray}(h:¬ 200<s.size)(hr:runes s=none):rP s=(5,[]):=by simp[rP,h,hr]
theorem Ld{s:ByteArray}{xs:List Int}(h:¬ 200<s.size)(hr:runes s=some xs):rP s=(0,xs):=by simp[rP,h,hr]
theorem own_below{w w':World}{B n size:Nat}{e:TypeId}{v:Value}{xs:List Value}(h:w.ownsRow B e size v n xs)(hb:Below w.heap.size w w'):w'.ownsRow B e size v n xs:=by
 refine⟨h.1, ?_⟩
 rcases h.2 with h2 |⟨g,cap,cur,h2,h3,h4,h5⟩
 ·exact Or.inl h2
 ·exact Or.inr ⟨g,cap,cur,h2,h3,(hb.block g (Array.getElem?_eq_some_iff.1 h4).1).trans h4,h5⟩
theorem aF{w:World}{B B' n size:Nat}{e:TypeId}{v:Value}{xs:List Value}(h:w.ownsRow B' e size v n xs)(hB:B<=B'):w.ownsRow B e size v n xs:=by
 refine⟨h.1, ?_⟩
 rcases h.2 with h2 |⟨g,cap,cur,h2,h3,h4⟩
 ·exact Or.inl h2
 ·exact Or.inr ⟨g,cap,cur,h2,Nat.le_trans hB h3,h4⟩
theorem ak{w w1:World}{o:Obj}(hb:Below (w.alloc o).heap.size (w.alloc o) w1):Below w.heap.size w w1:=
 ((Below.refl _ w).alloc (Nat.le_refl _) o).trans (hb.mono (by simp))
theorem ah{w w1 w2:World}(h1:Below w.heap.size w w1)(h2:Below w1.heap.size w1 w2):Below w.heap.size w w2:=h1.trans (h2.mono h1.size)
theorem aG{w:World}{b:Nat}{x y:Value}{t:TypeId}(h:w.heap[b]? = some (.cells #[x,y] t (0,0))):w.cell? ⟨b,0,none⟩=some x/\w.cell? ⟨b,1,none⟩=some y/\w.frozen? ⟨b,0,none⟩=false/\w.frozen? ⟨b,1,none⟩=false:=by
 simp[World.cell?,World.frozen?,h]
theorem AO(s:ByteArray)(w:World)(hs:s.size<=1048576):
  Calls Tryz.prog 159 #[.string s] w fun e w'=>Ce w (rP s).1 (rP s).2 e w':=by
 by_cases h:200<s.size
 ·rw[WU h]
  go_enter Tryz.func159,Tryz.ntmps159
  go_wp2
  refine bodyPost_ret (v:= .agg #[.int .i64 2,.slice none 0 0]) (by simp[results,Tryz.results159,go_sem]) rfl ⟨(Below.refl _ _).alloc (Nat.le_refl _) _,_,rfl,World.ownsRow_nil _ _ _ _⟩
 ·obtain⟨i0,hi,hz0,hz1,hz2⟩:=info_parts Tryz.KQ
  go_enter Tryz.func159,Tryz.ntmps159
  go_wp2
  go_loopw [3] (fun v wr=>∃(p f:Nat)(acc:List Int),Hid (Rest s p f acc)/\p<=s.size+4/\wr.heap[w.heap.size+1]? = some (.stringIter s p)/\wr.heap[w.heap.size]? = some (.cells #[.int .i64 0,.slice none 0 0] 213 (0,0))/\Below w.heap.size w wr/\wr.ownsRow (w.heap.size+2) 2 1 v acc.length (acc.map (Value.int .i64))) (fun _ wr=>s.size - wr.iterPos (w.heap.size+1))
  case atStart=>
   refine⟨0,s.size,[],Rest.start s,by omega, ?_, ?_,((Below.refl _ _).alloc (Nat.le_refl _) _).alloc (by simp) _,World.ownsRow_nil _ _ _ _⟩
   ·have:=World.iter_heap (w.alloc (.cells #[.int .i64 0,.slice none 0 0] 213)) s 0
    simpa using this
   ·rw[World.iter,Below.heap_alloc _ _ _ (by simp)]
    exact heap_alloc_new w _
  case round=>
   obtain⟨p,f,acc,hR,hp4,hit,hres,hbel,hown⟩:=hrel
   have hsz:w.heap.size+1<wr.heap.size:=(Array.getElem?_eq_some_iff.1 hit).1
   by_cases hp:p<s.size
   ·have hnx:∀ty,(Instr.next (.pointer (some ⟨w.heap.size+1,0,none⟩)) true ty).run Tryz.prog wr=_:=fun ty=>Lib.run_next_any_at wr (w.heap.size+1) s p ty hit hp
    have hd1:=decode_le s p
    have hw:=width s p
    have hal:acc.length<=p:=hR.out.2.1
    have hit2:=Lib.iterAt_heap wr (w.heap.size+1) s p (p+(Utf8.decode s p).2) hit
    have hbw2:=Lib.below_iterAt hbel (k:=w.heap.size+1) (by omega) s (p+(Utf8.decode s p).2)
    have hres2:=(Lib.iterAt_other wr (w.heap.size+1) w.heap.size s (p+(Utf8.decode s p).2) (by omega)).trans hres
    have hsz2:w.heap.size+1<(wr.iterAt (w.heap.size+1) s (p+(Utf8.decode s p).2)).heap.size:=by rw[Lib.iterAt_size];exact hsz
    have hown2:=ownsRow_iterAt hown (show w.heap.size+1<w.heap.size+2 by omega) s (p+(Utf8.decode s p).2)
    rcases Bool.eq_false_or_eq_true (iC s p)with hok | hok
    ·go_wp2_with (first
      |(go_at_call 185;refine(wL s p _ hs).mono ?_;rintro e w' ⟨rfl,rfl⟩)
      |(at_builtin;refine wpList_append_own _ rfl _ _ 149 rfl (w.heap.size+2) 2 i0 (.int .i64 0) 1 8 Tryz.underlying149 hi hz0 hz1 hz2 rfl (by decide) _ _ _ rfl (hown2.alloc _) ⟨_,0,none⟩ 1 1 [.int .i64 ((Utf8.decode s p).1:Int)] rfl rfl (cell_one_new _ _ _) (one_cell _ _) (by unfold maxLen;omega) (by omega) (by simp;omega) ?_))
     intro v' w1 hown' hgrow _
     have hb1:Below w.heap.size w w1:=(hbw2.alloc (by omega) _).grown hgrow (by simp;omega) (fun k hk=>Nat.le_trans (by omega) (hown2.lt k hk).1)
     have hk1:w1.heap[w.heap.size+1]? = some (.stringIter s (p+(Utf8.decode s p).2)):=(hgrow.block _ (by simp;omega) (fun e=>by have:=(hown2.lt _ e.symm).1;omega)).trans ((Below.heap_alloc _ _ _ hsz2).trans hit2)
     have hk2:w1.heap[w.heap.size]? = some (.cells #[.int .i64 0,.slice none 0 0] 213 (0,0)):=(hgrow.block _ (by simp;omega) (fun e=>by have:=(hown2.lt _ e.symm).1;omega)).trans ((Below.heap_alloc _ _ _ (by omega)).trans hres2)
     clear hgrow hown hown2 hres hres2 hbel hbw2
     go_wp2
     go_roundw
     case rel=>
      obtain⟨g,hg⟩:=hR.out.step hp hok
      exact⟨p+(Utf8.decode s p).2,g,acc++[((Utf8.decode s p).1:Int)],hg,by omega,hk1,hk2,hb1,by rw[D5,List.length_append];exact hown'⟩
     case measure=>
      simp only[World.iterPos,hk1,hit]
      omega
    ·obtain⟨hc0,hc1,hf0,hf1⟩:=aG hres2
     go_wp2_with (go_at_call 185;refine(wL s p _ hs).mono ?_;rintro e w' ⟨rfl,rfl⟩)
     exact bodyPost_ret (v:= .agg #[.int .i64 5,.slice none 0 0]) (by simp[results,Tryz.results159,go_sem,hc0,hc1]) rfl (by rw[Lc h (hR.out.no hp hok)];exact⟨(hbw2.setCell (Nat.le_refl _) _).setCell (Nat.le_refl _) _,_,rfl,World.ownsRow_nil _ _ _ _⟩)
   ·have hnx:∀ty,(Instr.next (.pointer (some ⟨w.heap.size+1,0,none⟩)) true ty).run Tryz.prog wr=_:=fun ty=>Lib.run_next_end_at wr (w.heap.size+1) s p ty hit hp
    obtain⟨a,c,rfl⟩:=aW hown
    obtain⟨hc0,hc1,hf0,hf1⟩:=aG hres
    go_wp2
    exact bodyPost_ret (v:= .agg #[.int .i64 0,.slice a acc.length c]) (by simp[results,Tryz.results159,go_sem,hc0,hc1]) rfl (by rw[Ld h (hR.out.done hp)];exact⟨(hbel.setCell (Nat.le_refl _) _).setCell (Nat.le_refl _) _,_,rfl,aF (ownsRow_setCell_below (ownsRow_setCell_below hown (by simp) _) (by simp) _) (by omega)⟩)
def Ints(k:IntKind)(w:World)(v:Value)(xs:List Int):Prop:=
 (xs=[]/\∃a c,v = .slice a 0 c)∨∃b off c,v = .slice (some ⟨b,off,none⟩) xs.length c/\b<w.heap.size/\∀j,j<xs.length->w.cell? ⟨b,off+j,none⟩=some (.int k (xs.getD j 0))
theorem Ints.below{k:IntKind}{w w':World}{v:Value}{xs:List Int}(h:Ints k w v xs)(hb:Below w.heap.size w w'):Ints k w' v xs:=by
 rcases h with h |⟨b,off,c,rfl,hlt,hc⟩
 ·exact Or.inl h
 ·exact Or.inr ⟨b,off,c,rfl,Nat.lt_of_lt_of_le hlt hb.size,fun j hj=>(hb.cell (p:=⟨b,off+j,none⟩) hlt).trans (hc j hj)⟩
theorem gq{k:IntKind}{w:World}{B:Nat}{e:TypeId}{v:Value}{xs:List Int}(h:w.ownsRow B e 1 v xs.length (xs.map (Value.int k))):Ints k w v xs:=by
 have h0:=h
 rcases h.2 with⟨rfl,hn⟩ |⟨g,cap,cur,rfl,hB,hg,_⟩
 ·left;exact⟨List.eq_nil_of_length_eq_zero hn,none,0,rfl⟩
 ·right
  refine⟨g,0,cap,rfl,(Array.getElem?_eq_some_iff.1 hg).1,fun j hj=> ?_⟩
  rw[Nat.zero_add,h0.cellAt j (by omega)]
  simp[hj]
theorem Ints.shape{k:IntKind}{w:World}{v:Value}{xs:List Int}(h:Ints k w v xs):∃a c,v = .slice a xs.length c:=by
 rcases h with⟨rfl,a,c,rfl⟩ |⟨b,off,c,rfl,_⟩
 ·exact⟨a,c,rfl⟩
 ·exact⟨_,c,rfl⟩
theorem Ints.at{k:IntKind}{w:World}{a:Option Addr}{n c:Nat}{xs:List Int}(h:Ints k w (.slice a n c) xs)(h0:0<xs.length):n=xs.length/\∃b off,a=some ⟨b,off,none⟩/\b<w.heap.size/\∀j,j<xs.length->w.cell? ⟨b,off+j,none⟩=some (.int k (xs.getD j 0)):=by
 rcases h with⟨rfl,_⟩ |⟨b,off,c',e,h1,h2⟩
 ·simp at h0
 ·cases e
  exact⟨rfl,b,off,rfl,h1,h2⟩
theorem getD_eq{xs:List Int}{j:Nat}(h:j<xs.length):xs.getD j 0=xs[j]:=by simp[h]
def Agree(xs ys:List Int)(k:Nat):Prop:=∀j,j<k->xs.getD j 0=ys.getD j 0
theorem Agree.all{xs ys:List Int}(h:Agree xs ys xs.length)(hl:xs.length=ys.length):xs=ys:=by
 apply List.ext_getElem hl
 intro j h1 h2
 have:=h j h1
 simpa [h1,h2]using this
theorem Agree.succ{xs ys:List Int}{k:Nat}(h:Agree xs ys k)(h1:xs.getD k 0=ys.getD k 0):Agree xs ys (k+1):=by
 intro j hj
 by_cases e:j=k
 ·subst e;exact h1
 ·exact h j (by omega)
def marks(k n:Nat):List Int:=(List.range n).map fun j=>((k+j:Nat):Int)
theorem D7(k n:Nat):(marks k n).length=n:=by simp[marks]
def half(xs:List Int)(k i:Nat):List Int:=marks k i++xs.drop i
theorem Po(xs:List Int)(k:Nat):half xs k 0=xs:=by simp[half,marks]
theorem RD(xs:List Int)(k:Nat):half xs k xs.length=marks k xs.length:=by simp[half]
theorem Gf(xs:List Int)(k i:Nat)(h:i<xs.length):(half xs k i).set i ((k+i:Nat):Int)=half xs k (i+1):=by
 unfold half
 rw[List.set_append_right _ _ (by simp[marks])]
 simp only[D7,Nat.sub_self]
 rw[List.drop_eq_getElem_cons h,ab8]
 simp only[marks,List.range_succ,List.map_append,List.map_cons,List.map_nil,List.append_assoc,List.singleton_append]
theorem bJ{a b c:World}{row:Option Nat}(h:a.grownBy b row)(k:b.grownBy c row):a.grownBy c row:=
 ⟨k.os.trans h.os,k.tape.trans h.tape,k.output.trans h.output,Nat.le_trans h.size k.size,fun i hi hr=>(k.block i (Nat.lt_of_lt_of_le hi h.size) hr).trans (h.block i hi hr)⟩
theorem aN{w:World}(o o':Obj):Below w.heap.size w ((w.alloc o).alloc o'):=((Below.refl _ _).alloc (Nat.le_refl _) _).alloc (by simp) _
theorem aj{w:World}(o:Obj):Below w.heap.size w (w.alloc o):=(Below.refl _ _).alloc (Nat.le_refl _) _
theorem Ce.use{w w':World}{code:Int}{xs:List Int}{e:Ending}(h:Ce w code xs e w'):∃a c,e = .returned (.agg #[.int .i64 code,.slice a xs.length c])/\Below w.heap.size w w'/\w'.ownsRow w.heap.size 2 1 (.slice a xs.length c) xs.length (xs.map (Value.int .i64)):=by
 obtain⟨hb,v,rfl,ho⟩:=h
 obtain⟨a,c,rfl⟩:=aW ho
 exact⟨a,c,rfl,hb,ho⟩
theorem Tryz.AU:(Tryz.prog.info? 5).map (fun i=>(i.zero,i.size,i.bytes))=some (some (.int .u8 0),1,1):=by kernel_rfl
theorem pG{xs:List Int}{k:Nat}(h:k<xs.length):xs.take (k+1)=xs.take k++[xs.getD k 0]:=by
 rw[List.take_succ_eq_append_getElem h,getD_eq h]
def copied(xs:List Int)(k:Nat):List Int:=xs.take k++List.replicate (xs.length - k) 0
theorem Jm(xs:List Int):copied xs 0=List.replicate xs.length 0:=by simp[copied]
theorem LZ(xs:List Int):copied xs xs.length=xs:=by simp[copied]
theorem Ah(xs:List Int)(k:Nat)(h:k<xs.length):(copied xs k).set k (xs.getD k 0)=copied xs (k+1):=by
 unfold copied
 have hl:(xs.take k).length=k:=by rw[List.length_take];omega
 rw[List.set_append_right _ _ (by omega),hl,Nat.sub_self,pG h,List.append_assoc]
 congr 1
 rw[show xs.length - k=(xs.length - (k+1))+1 by omega,List.replicate_succ,ab8]
 rfl
def Bts(bs:List Int):Prop:=∀b∈bs,0<=b/\b<=255
theorem Bts.at{bs:List Int}(h:Bts bs){k:Nat}(hk:k<bs.length):0<=bs.getD k 0/\bs.getD k 0<=255:=by
 rw[getD_eq hk];exact h _ (List.getElem_mem hk)
def sumF(n b:Int):Int:=(n*139+b+1)%65521
def bn(bs:List Int):Int:=bs.foldl sumF 13
def jQ(bs:List Int)(k:Nat):Int:=bn (bs.take k)
theorem Eh(bs:List Int):jQ bs bs.length=bn bs:=by unfold jQ;rw[List.take_length]
theorem BM{bs:List Int}{k:Nat}(h:k<bs.length):jQ bs (k+1)=sumF (jQ bs k) (bs.getD k 0):=by
 unfold jQ bn
 rw[pG h,List.foldl_append]
 rfl
theorem Oa(bs:List Int):∀n:Int,0<=n->n<=65520->0<=bs.foldl sumF n/\bs.foldl sumF n<=65520:=by
 induction bs with
 | nil=>intro n h0 h1;exact⟨h0,h1⟩
 | cons b bs ih=>
  intro n _ _
  rw[List.foldl_cons]
  exact ih _ (by unfold sumF;omega) (by unfold sumF;omega)
theorem nR(bs:List Int):0<=bn bs/\bn bs<=65520:=Oa bs 13 (by omega) (by omega)
theorem I7(bs:List Int)(k:Nat):0<=jQ bs k/\jQ bs k<=65520:=nR _
theorem Nk(b off c n:Nat)(bs:List Int)(w:World)(HN:Hid (bs.length=n))(hn:n<=1099511627776)(hB:Bts bs)
  (hc:∀j,j<n->w.cell? ⟨b,off+j,none⟩=some (.int .u8 (bs.getD j 0))) :
  Calls Tryz.prog 140 #[.slice (some ⟨b,off,none⟩) n c] w fun e w'=>e = .returned (.int .i64 (bn bs))/\w'=w:=by
 go_enter Tryz.func140,Tryz.ntmps140
 go_wp2
 go_loop [3,4] (fun s i=>∃k:Nat,k<=n/\i = .int .i64 k/\s = .int .i64 (jQ bs k)) (fun _ i=>n - (intOf i).toNat)
 case atStart=>exact⟨0,Nat.zero_le _,rfl,rfl⟩
 case round=>
  obtain⟨k,hk,rfl,rfl⟩:=hrel
  by_cases hkn:k<n
  ·have hki:(k:Int)<(n:Int):=by omega
   have hkb:k<bs.length:=by have:=HN.out;omega
   have hcj:=hc k hkn
   have hx:=hB.at hkb
   have hs:=I7 bs k
   obtain⟨x,hxx⟩:∃x,x=bs.getD k 0:=⟨_,rfl⟩
   obtain⟨s,hss⟩:∃s,s=jQ bs k:=⟨_,rfl⟩
   have HS:Hid (jQ bs (k+1)=(s*139+x+1)%65521):=by show _=_;rw[BM hkb,hxx,hss];rfl
   rw[←hxx]at hcj hx
   rw[←hss]at hs ⊢
   clear hxx hss hc hB
   go_wp2
   go_round
   case rel=>exact⟨k+1,by omega,by go_num,by rw[HS.out]⟩
   case measure=>simp[intOf];omega
  ·go_wp2
   go_ret
   have hkn:k=n:=by omega
   subst hkn
   rw[←HN.out,Eh]
   exact⟨rfl,rfl⟩
theorem kC(v:Value)(bs:List Int)(w:World)(hv:Ints .u8 w v bs)(hB:Bts bs)(hx:bs.length<=1099511627776):
  Calls Tryz.prog 140 #[v] w fun e w'=>e = .returned (.int .i64 (bn bs))/\w'=w:=by
 obtain⟨a,c,rfl⟩:=hv.shape
 by_cases h0:0<bs.length
 ·obtain⟨_,b,off,rfl,hb,hc⟩:=hv.at h0
  exact Nk b off c bs.length bs w rfl hx hB hc
 ·have e1:bs=[]:=List.eq_nil_of_length_eq_zero (by omega)
  subst e1
  simp only[List.length_nil]
  clear hv h0 hx hB
  go_enter Tryz.func140,Tryz.ntmps140
  go_wp2
  refine wp_loop_rounds 1 ?_;rw[rounds_succ]
  go_wp2
  go_ret
  exact⟨rfl,rfl⟩
def smC(bs:List Int):Int:=if 200<bs.length then 2 else 0
def smV(bs:List Int):Int:=if 200<bs.length then 0 else bn bs
theorem Lu{bs:List Int}(h:200<bs.length):smC bs=2/\smV bs=0:=by simp[smC,smV,h]
theorem um{bs:List Int}(h:¬ 200<bs.length):smC bs=0/\smV bs=bn bs:=by simp[smC,smV,h]
def jF(w:World)(c v:Int)(e:Ending)(w':World):Prop:=e = .returned (.agg #[.int .i64 c,.int .i64 v])/\Below w.heap.size w w'
theorem JK(s x:Int)(w:World)(hs:0<=s/\s<=65520)(hx:0<=x/\x<=255):
  Calls Tryz.prog 183 #[.int .u32 s,.int .u8 x] w fun e w'=>e = .returned (.int .u32 ((s*139+x+1)%65521))/\w'=w:=by
 go_enter Tryz.func183,Tryz.ntmps183
 go_wp2
 go_ret
 exact⟨rfl,rfl⟩
theorem CW(b off c n:Nat)(bs:List Int)(w:World)(HN:Hid (bs.length=n))(hn:n<=200)(hB:Bts bs)(hb:b<w.heap.size)
  (hc:∀j,j<n->w.cell? ⟨b,off+j,none⟩=some (.int .u8 (bs.getD j 0))) :
  Calls Tryz.prog 157 #[.slice (some ⟨b,off,none⟩) n c] w fun e w'=>jF w 0 (bn bs) e w':=by
 go_enter Tryz.func157,Tryz.ntmps157
 go_wp2
 go_loop [3,12] (fun s i=>∃k:Nat,k<=n/\i = .int .i64 k/\s = .int .u32 (jQ bs k)) (fun _ i=>n - (intOf i).toNat)
 case atStart=>exact⟨0,Nat.zero_le _,rfl,rfl⟩
 case round=>
  obtain⟨k,hk,rfl,rfl⟩:=hrel
  have hs:=I7 bs k
  by_cases hkn:k<n
  ·have hki:(k:Int)<(n:Int):=by omega
   have hkb:k<bs.length:=by have:=HN.out;omega
   have hcj:=((aj (.cells #[.int .i64 0,.int .i64 0] 122)).cell (p:=⟨b,off+k,none⟩) hb).trans (hc k hkn)
   have hx:=hB.at hkb
   obtain⟨x,hxx⟩:∃x,x=bs.getD k 0:=⟨_,rfl⟩
   obtain⟨s,hss⟩:∃s,s=jQ bs k:=⟨_,rfl⟩
   have HS:Hid (jQ bs (k+1)=(s*139+x+1)%65521):=by show _=_;rw[BM hkb,hxx,hss];rfl
   rw[←hxx]at hcj hx
   rw[←hss]at hs ⊢
   clear hxx hss hc hB
   go_wp2_with fail
   refine(JK s x _ hs hx).mono ?_
   rintro e w1 ⟨rfl,rfl⟩
   go_wp2
   go_round
   case rel=>exact⟨k+1,by omega,by go_num,by rw[HS.out]⟩
   case measure=>simp[intOf];omega
  ·have hkn:k=n:=by omega
   subst hkn
   have e1:jQ bs k=bn bs:=by rw[←HN.out,Eh]
   rw[e1]at hs ⊢
   obtain⟨s,hss⟩:∃s,s=bn bs:=⟨_,rfl⟩
   have HS:Hid (s=bn bs):=hss
   rw[←hss]at hs ⊢
   clear hc hB e1 HN hss
   go_wp2
   exact bodyPost_ret (v:= .agg #[.int .i64 0,.int .i64 s]) (by simp[results,Tryz.results157,go_sem]) rfl (by rw[←HS.out];exact⟨rfl,aj _⟩)
theorem iF(v:Value)(bs:List Int)(w:World)(hv:Ints .u8 w v bs)(hB:Bts bs)(hx:bs.length<=1099511627776):
  Calls Tryz.prog 157 #[v] w fun e w'=>jF w (smC bs) (smV bs) e w':=by
 obtain⟨a,c,rfl⟩:=hv.shape
 by_cases h:200<bs.length
 ·rw[(Lu h).1,(Lu h).2]
  generalize bs.length=n at *
  clear hv hB
  go_enter Tryz.func157,Tryz.ntmps157
  go_wp2
  exact bodyPost_ret (v:= .agg #[.int .i64 2,.int .i64 0]) (by simp[results,Tryz.results157,go_sem]) rfl ⟨rfl,aj _⟩
 ·rw[(um h).1,(um h).2]
  by_cases h0:0<bs.length
  ·obtain⟨_,b,off,rfl,hb,hc⟩:=hv.at h0
   exact CW b off c bs.length bs w rfl (by omega) hB hb hc
  ·have e1:bs=[]:=List.eq_nil_of_length_eq_zero (by omega)
   subst e1
   simp only[List.length_nil]
   have e2:bn []=13:=rfl
   rw[e2]
   clear hv h0 hx hB h e2
   go_enter Tryz.func157,Tryz.ntmps157
   go_wp2
   refine wp_loop_rounds 1 ?_;rw[rounds_succ]
   go_wp2
   exact bodyPost_ret (v:= .agg #[.int .i64 0,.int .i64 13]) (by simp[results,Tryz.results157,go_sem]) rfl ⟨rfl,aj _⟩
def aP(n:Int):Bool:=decide (0<=n/\n<=65520)
theorem bC(n:Int):aP n=true↔(0<=n/\n<=65520):=by unfold aP;exact decide_eq_true_iff
theorem TA(n:Int):aP n=false↔(n<0∨65520<n):=by unfold aP;rw[decide_eq_false_iff_not];omega
def oP(n:Int):List Int:=[n/256,n%256]
def jD(tag:Int)(xs:List Int)(k:Nat):List Int:=tag::(xs.take k).flatMap oP
def aZ(tag:Int)(xs:List Int):List Int:=tag::xs.flatMap oP
theorem oL(tag:Int)(xs:List Int):jD tag xs xs.length=aZ tag xs:=by unfold jD aZ;rw[List.take_length]
theorem BQ(tag:Int){xs:List Int}{k:Nat}(h:k<xs.length):jD tag xs (k+1)=jD tag xs k++[xs.getD k 0/256,xs.getD k 0%256]:=by
 unfold jD
 rw[pG h,List.flatMap_append]
 simp[oP]
theorem FM(xs:List Int):(xs.flatMap oP).length=2*xs.length:=by
 induction xs with
 | nil=>rfl
 | cons x xs ih=>simp only[List.flatMap_cons,List.length_append,List.length_cons,ih];simp[oP];omega
theorem xH(tag:Int){xs:List Int}{k:Nat}(h:k<=xs.length):(jD tag xs k).length=1+2*k:=by
 unfold jD
 rw[List.length_cons,FM,List.length_take]
 omega
theorem jE(tag:Int)(xs:List Int):(aZ tag xs).length=1+2*xs.length:=by rw[←oL,xH tag (Nat.le_refl _)]
theorem lD{tag:Int}{xs:List Int}(ht:0<=tag/\tag<=255)(h:xs.all aP=true):Bts (aZ tag xs):=by
 intro b hb
 unfold aZ at hb
 rw[List.mem_cons,List.mem_flatMap]at hb
 rcases hb with rfl |⟨x,hx,hb⟩
 ·exact ht
 ·rw[List.all_eq_true]at h
  have:=(bC x).1 (h x hx)
  simp[oP]at hb
  omega
def tgC(tag:Int)(xs:List Int):Int:=if inB tag 1 9=false then 3 else if 20<xs.length then 2 else if xs.all aP=true then 0 else 3
def tgL(tag:Int)(xs:List Int):List Int:=if inB tag 1 9=false then []else if 20<xs.length then []else if xs.all aP=true then aZ tag xs else []
theorem QJ{tag:Int}{xs:List Int}(h:inB tag 1 9=false):tgC tag xs=3/\tgL tag xs=[]:=by simp[tgC,tgL,h]
theorem LG{tag:Int}{xs:List Int}(h:inB tag 1 9=true)(h2:20<xs.length):tgC tag xs=2/\tgL tag xs=[]:=by simp[tgC,tgL,h,h2]
theorem Xt{tag:Int}{xs:List Int}(h:inB tag 1 9=true)(h2:¬ 20<xs.length)(h3:xs.all aP=false):tgC tag xs=3/\tgL tag xs=[]:=by simp[tgC,tgL,h,h2,h3]
theorem uq{tag:Int}{xs:List Int}(h:inB tag 1 9=true)(h2:¬ 20<xs.length)(h3:xs.all aP=true):tgC tag xs=0/\tgL tag xs=aZ tag xs:=by
 unfold tgC tgL;rw[if_neg (by rw[h];simp),if_neg h2,if_pos h3,if_neg (by rw[h];simp),if_neg h2,if_pos h3];exact⟨rfl,rfl⟩
theorem jd{tag lo hi:Int}(h:inB tag lo hi=true):lo<=tag/\tag<=hi:=by unfold inB at h;simpa using h
theorem wK{tag lo hi:Int}(h:inB tag lo hi=false):tag<lo∨hi<tag:=by unfold inB at h;simp at h;omega
theorem Vr(tag:Int)(xs:List Int):(tgL tag xs).length<=41:=by
 unfold tgL
 split
 ·simp
 ·split
  ·simp
  ·split
   ·rw[jE];omega
   ·simp
theorem Vq(tag:Int)(xs:List Int):Bts (tgL tag xs):=by
 have e0:Bts []:=fun b hb=>by cases hb
 unfold tgL
 split
 ·exact e0
 ·rename_i h
  split
  ·exact e0
  ·split
   ·rename_i h3
    exact lD (by have:=jd (by simpa using h:inB tag 1 9=true);omega) h3
   ·exact e0
def zk(xs:List Int)(k:Nat):Prop:=∀j,j<k->aP (xs.getD j 0)=true
theorem zk.succ{xs:List Int}{k:Nat}(h:zk xs k)(h1:aP (xs.getD k 0)=true):zk xs (k+1):=by
 intro j hj
 by_cases e:j=k
 ·subst e;exact h1
 ·exact h j (by omega)
theorem zk.all{xs:List Int}(h:zk xs xs.length):xs.all aP=true:=by
 rw[List.all_eq_true]
 intro x hx
 obtain⟨j,hj,rfl⟩:=List.getElem_of_mem hx
 have:=h j hj
 rwa [getD_eq hj]at this
theorem Fh{xs:List Int}(h:xs.all aP=true){k:Nat}(hk:k<xs.length):0<=xs.getD k 0/\xs.getD k 0<=65520:=by
 rw[getD_eq hk]
 rw[List.all_eq_true]at h
 exact(bC _).1 (h _ (List.getElem_mem hk))
theorem Vo{xs:List Int}{k:Nat}(hk:k<xs.length)(h:aP (xs.getD k 0)=false):xs.all aP=false:=by
 rw[getD_eq hk]at h
 rw[Bool.eq_false_iff]
 intro h2
 rw[List.all_eq_true]at h2
 rw[h2 _ (List.getElem_mem hk)]at h
 cases h
def pU(w:World)(code:Int)(bs:List Int)(e:Ending)(w':World):Prop:=
 Below w.heap.size w w'/\∃v,e = .returned (.agg #[.int .i64 code,v])/\w'.ownsRow w.heap.size 5 1 v bs.length (bs.map (Value.int .u8))
theorem pU.use{w w':World}{code:Int}{xs:List Int}{e:Ending}(h:pU w code xs e w'):∃a c,e = .returned (.agg #[.int .i64 code,.slice a xs.length c])/\Below w.heap.size w w'/\w'.ownsRow w.heap.size 5 1 (.slice a xs.length c) xs.length (xs.map (Value.int .u8)):=by
 obtain⟨hb,v,rfl,ho⟩:=h
 obtain⟨a,c,rfl⟩:=aW ho
 exact⟨a,c,rfl,hb,ho⟩
theorem Ih{w:World}{B:Nat}{e:TypeId}{k:IntKind}{v:Value}{zs:List Int}{b d:Int}(h:w.ownsRow B e 1 v (zs.length+2) (zs.map (Value.int k)++[.int k b,.int k d])):w.ownsRow B e 1 v (zs++[b,d]).length ((zs++[b,d]).map (Value.int k)):=by
 rw[List.map_append,List.length_append];exact h
theorem lM(x:Int)(h0:0<=x)(h1:x<256):IntKind.u8.wrap x=x:=by rw[IntKind.wrap_u8];omega
theorem fO(n:Int)(w:World):Calls Tryz.prog 120 #[.int .i64 n] w fun e w'=>e = .returned (.bool (aP n))/\w'=w:=by
 rcases Bool.eq_false_or_eq_true (aP n)with h | h
 ·have h1:=(bC n).1 h
  rw[h]
  go_enter Tryz.func120,Tryz.ntmps120
  go_wp2
  go_ret
  exact⟨rfl,rfl⟩
 ·rw[h]
  rcases(TA n).1 h with h1 | h1
  ·go_enter Tryz.func120,Tryz.ntmps120
   go_wp2
   go_ret
   exact⟨rfl,rfl⟩
  ·go_enter Tryz.func120,Tryz.ntmps120
   go_wp2
   go_ret
   exact⟨aU (by simp;omega),rfl⟩
theorem yg(B:Nat)(v:Value)(a:Option Addr)(n c:Nat)(tag:Int)(xs:List Int)(w:World)(HN:Hid (n=xs.length))(hx:n<=1000)(hv:Hid (Ints .i64 w (.slice a n c) xs))(hs:Hid (xs.all aP=true))
  (hown:w.ownsRow B 5 1 v 1 [.int .u8 tag]) (hB:B<=w.heap.size) (zF:Hid (∀b off,a=some ⟨b,off,none⟩->0<n->b<B)) :
  Calls Tryz.prog 184 #[v,.slice a n c] w fun e w'=>∃v',e = .returned v'/\w'.ownsRow B 5 1 v' (aZ tag xs).length ((aZ tag xs).map (Value.int .u8))/\Below B w w':=by
 obtain⟨i0,hi,hz0,hz1,hz2⟩:=info_parts Tryz.AU
 go_enter Tryz.func184,Tryz.ntmps184
 go_wp2
 go_loopw [0,9] (fun u i wr=>∃k:Nat,k<=n/\i = .int .i64 k/\Below B w wr/\wr.ownsRow B 5 1 u (jD tag xs k).length ((jD tag xs k).map (Value.int .u8))) (fun _ i _=>n - (intOf i).toNat)
 case atStart=>exact⟨0,Nat.zero_le _,rfl,Below.refl _ _,hown⟩
 case round=>
  obtain⟨k,hk,rfl,hb,ho⟩:=hrel
  by_cases hkn:k<n
  ·have hki:(k:Int)<(n:Int):=by omega
   have hkx:k<xs.length:=by have:=HN.out;omega
   obtain⟨-,b,off,rfl,hbl,hc⟩:=hv.out.at (by omega)
   have hbB:=zF.out b off rfl (by omega)
   have hcj:=(hb.cell (p:=⟨b,off+k,none⟩) hbB).trans (hc k hkx)
   have hxr:=Fh hs.out hkx
   have hlen:=xH tag (Nat.le_of_lt hkx)
   have hsc:=BQ tag hkx
   obtain⟨x,hxx⟩:∃x,x=xs.getD k 0:=⟨_,rfl⟩
   obtain⟨ys,hys⟩:∃ys,ys=jD tag xs k:=⟨_,rfl⟩
   rw[←hxx]at hcj hxr hsc
   rw[←hys]at ho hlen hsc
   have HS:Hid (jD tag xs (k+1)=ys++[x/256,x%256]):=hsc
   have hw1:=lM (x/256) (by omega) (by omega)
   have hw2:=IntKind.wrap_u8 x
   clear hxx hys hsc hc hown
   go_wp2_with (at_builtin;refine wpList_append_own _ rfl _ _ 192 rfl B 5 i0 (.int .u8 0) 1 1 Tryz.underlying192 hi hz0 hz1 hz2 rfl (by decide) _ _ _ rfl (ho.alloc _) ⟨wr.heap.size,0,none⟩ 2 2 [.int .u8 (x/256),.int .u8 (x%256)] rfl rfl (World.news_of_block (heap_alloc_new _ _)) (ints_oneCell .u8 [x/256,x%256]) (by unfold maxLen;omega) (by omega) (by have:=hb.size;simp;omega) ?_)
   intro v' w2 hown' hgrow _
   have hb2:Below B w w2:=(hb.alloc (by have:=hb.size;omega) _).grown hgrow (by have:=hb.size;simp;omega) (fun k hk=>(ho.lt k hk).1)
   rw[←hlen]at hown'
   have dA:=Ih hown'
   clear hgrow hown' ho
   go_wp2
   go_roundw
   case rel=>exact⟨k+1,by omega,by go_num,hb2,by rw[HS.out];exact dA⟩
   case measure=>simp[intOf];omega
  ·have hkn:k=n:=by omega
   subst hkn
   obtain⟨a',c',rfl⟩:=aW ho
   go_wp2
   go_ret
   rw[HN.out,oL]at ho
   rw[HN.out,oL]
   exact⟨_,rfl,ho,hb⟩
theorem KT(w:World)(x:Int):(w.alloc (.cells #[.int .u8 x] 5)).ownsRow w.heap.size 5 1 (.slice (some ⟨w.heap.size,0,none⟩) 1 1) 1 [.int .u8 x]:=by
 have:=World.ownsRow_lit (base:=w.heap.size) (e:=5) (size:=1) w #[.int .u8 x] 1 (by simp) (by decide) rfl
 simpa using this
theorem iw(tag:Int)(v:Value)(xs:List Int)(w:World)(hv:Ints .i64 w v xs)(hx:xs.length<=1099511627776):
  Calls Tryz.prog 158 #[.int .i64 tag,v] w fun e w'=>pU w (tgC tag xs) (tgL tag xs) e w':=by
 obtain⟨a,c,rfl⟩:=hv.shape
 rcases Bool.eq_false_or_eq_true (inB tag 1 9)with ht | ht
 ·have htb:=jd ht
  by_cases h20:20<xs.length
  ·rw[(LG ht h20).1,(LG ht h20).2]
   generalize xs.length=n at *
   clear hv
   go_enter Tryz.func158,Tryz.ntmps158
   go_wp2
   exact bodyPost_ret (v:= .agg #[.int .i64 2,.slice none 0 0]) (by simp[results,Tryz.results158,go_sem]) rfl ⟨aj _,_,rfl,World.ownsRow_nil _ _ _ _⟩
  ·have HV:Hid (Ints .i64 w (.slice a xs.length c) xs):=hv
   have hno:=fun h=>Xt ht h20 (xs:=xs) h
   have hyes:=fun h=>uq ht h20 (xs:=xs) h
   have zF:Hid (∀b off,a=some ⟨b,off,none⟩->0<xs.length->b<w.heap.size+1):=fun b off e h0=>by
    obtain⟨_,b',off',e',hb',_⟩:=hv.at h0
    rw[e]at e'
    cases e'
    omega
   have yK:Hid (xs.all aP=false->tgC tag xs=3/\tgL tag xs=[]):=hno
   have VY:Hid (xs.all aP=true->tgC tag xs=0/\tgL tag xs=aZ tag xs):=hyes
   obtain⟨n,hn⟩:∃n,n=xs.length:=⟨_,rfl⟩
   have HN:Hid (n=xs.length):=hn
   rw[←hn]at h20 hx HV zF ⊢
   clear hn hv hno hyes
   have hw1:=lM tag (by omega) (by omega)
   go_enter Tryz.func158,Tryz.ntmps158
   go_wp2
   go_loop [20] (fun i=>∃k:Nat,k<=n/\i = .int .i64 k/\Hid (zk xs k)) (fun i=>n - (intOf i).toNat)
   case atStart=>exact⟨0,Nat.zero_le _,rfl,fun j hj=>by omega⟩
   case round=>
    obtain⟨k,hk,rfl,hA⟩:=hrel
    by_cases hkn:k<n
    ·have hki:(k:Int)<(n:Int):=by omega
     have hkx:k<xs.length:=by have:=HN.out;omega
     obtain⟨-,b,off,rfl,hbl,hc⟩:=HV.out.at (by omega)
     have hcj:=((aj (.cells #[.int .i64 0,.slice none 0 0] 208)).cell (p:=⟨b,off+k,none⟩) hbl).trans (hc k hkx)
     obtain⟨x,hxx⟩:∃x,x=xs.getD k 0:=⟨_,rfl⟩
     have HX:Hid (x=xs.getD k 0):=hxx
     rw[←hxx]at hcj
     clear hxx hc
     rcases Bool.eq_false_or_eq_true (aP x)with hr | hr
     ·go_wp2_with fail
      refine(fO x _).mono ?_
      rintro e w1 ⟨rfl,rfl⟩
      go_wp2
      go_round
      case rel=>exact⟨k+1,by omega,by go_num,hA.out.succ (by rw[←HX.out];exact hr)⟩
      case measure=>simp[intOf];omega
     ·have e:=yK.out (Vo hkx (by rw[←HX.out];exact hr))
      go_wp2_with fail
      refine(fO x _).mono ?_
      rintro e w1 ⟨rfl,rfl⟩
      go_wp2
      exact bodyPost_ret (v:= .agg #[.int .i64 3,.slice none 0 0]) (by simp[results,Tryz.results158,go_sem]) rfl (by rw[e.1,e.2];exact⟨aj _,_,rfl,World.ownsRow_nil _ _ _ _⟩)
    ·have hkn:k=n:=by omega
     subst hkn
     have hall:xs.all aP=true:=zk.all (by rw[←HN.out];exact hA.out)
     have HE:Hid (tgC tag xs=0/\tgL tag xs=aZ tag xs):=VY.out hall
     have Yx:Hid (xs.all aP=true):=hall
     clear hall VY yK
     go_wp2_with fail
     refine(yg (w.heap.size+1) _ a k c tag xs _ HN (by omega) (HV.out.below (aN _ _)) Yx (by simpa using KT (w.alloc (.cells #[.int .i64 0,.slice none 0 0] 208)) tag) (by simp) zF).mono ?_
     rintro e w1 ⟨v',rfl,ho1,hb1⟩
     obtain⟨a',c',rfl⟩:=aW ho1
     obtain⟨hc0,hc1,hf0,hf1⟩:=aG ((hb1.block w.heap.size (by omega)).trans ((Below.heap_alloc (w.alloc (.cells #[.int .i64 0,.slice none 0 0] 208)) (.cells #[.int .u8 tag] 5) w.heap.size (by simp)).trans (heap_alloc_new w _)))
     have hB1:Below w.heap.size w w1:=(aN _ _).trans (hb1.mono (by omega))
     have HO:Hid (w1.ownsRow (w.heap.size+1) 5 1 (.slice a' (aZ tag xs).length c') (aZ tag xs).length ((aZ tag xs).map (Value.int .u8))):=ho1
     clear ho1 hb1
     generalize aZ tag xs=ys at *
     go_wp2
     exact bodyPost_ret (v:= .agg #[.int .i64 0,.slice a' ys.length c']) (by simp[results,Tryz.results158,go_sem,hc0,hc1]) rfl (by rw[HE.out.1,HE.out.2];exact⟨(hB1.setCell (Nat.le_refl _) _).setCell (Nat.le_refl _) _,_,rfl,aF (ownsRow_setCell_below (ownsRow_setCell_below HO.out (by simp) _) (by simp) _) (by omega)⟩)
 ·have htb:=wK ht
  rw[(QJ ht).1,(QJ ht).2]
  generalize xs.length=n at *
  clear hv
  rcases htb with htb | htb
  ·go_enter Tryz.func158,Tryz.ntmps158
   go_wp2
   exact bodyPost_ret (v:= .agg #[.int .i64 3,.slice none 0 0]) (by simp[results,Tryz.results158,go_sem]) rfl ⟨aj _,_,rfl,World.ownsRow_nil _ _ _ _⟩
  ·have h0:¬tag<1:=by omega
   go_enter Tryz.func158,Tryz.ntmps158
   go_wp2
   exact bodyPost_ret (v:= .agg #[.int .i64 3,.slice none 0 0]) (by simp[results,Tryz.results158,go_sem]) rfl ⟨aj _,_,rfl,World.ownsRow_nil _ _ _ _⟩
theorem iP(tag:Int)(v:Value)(xs:List Int)(w:World)(hv:Ints .i64 w v xs)(hx:xs.length<=1000)(ht:0<=tag/\tag<=255)(hs:xs.all aP=true):
  Calls Tryz.prog 174 #[.int .i64 tag,v] w fun e w'=>∃v',e = .returned v'/\w'.ownsRow w.heap.size 5 1 v' (aZ tag xs).length ((aZ tag xs).map (Value.int .u8))/\Below w.heap.size w w':=by
 obtain⟨a,c,rfl⟩:=hv.shape
 have HV:Hid (Ints .i64 w (.slice a xs.length c) xs):=hv
 obtain⟨n,hn⟩:∃n,n=xs.length:=⟨_,rfl⟩
 have HN:Hid (n=xs.length):=hn
 have ZH:Hid (xs.all aP=true):=hs
 rw[←hn]at hx HV ⊢
 clear hn hv hs
 obtain⟨i0,hi,hz0,hz1,hz2⟩:=info_parts Tryz.AU
 have hw0:=lM tag (by omega) (by omega)
 go_enter Tryz.func174,Tryz.ntmps174
 go_wp2
 go_loopw [5,6] (fun u i wr=>∃k:Nat,k<=n/\i = .int .i64 k/\Below w.heap.size w wr/\wr.ownsRow w.heap.size 5 1 u (jD tag xs k).length ((jD tag xs k).map (Value.int .u8))) (fun _ i _=>n - (intOf i).toNat)
 case atStart=>exact⟨0,Nat.zero_le _,rfl,aj _,KT w tag⟩
 case round=>
  obtain⟨k,hk,rfl,hb,ho⟩:=hrel
  by_cases hkn:k<n
  ·have hki:(k:Int)<(n:Int):=by omega
   have hkx:k<xs.length:=by have:=HN.out;omega
   obtain⟨-,b,off,rfl,hbl,hc⟩:=HV.out.at (by omega)
   have hcj:=(hb.cell (p:=⟨b,off+k,none⟩) hbl).trans (hc k hkx)
   have hxr:=Fh ZH.out hkx
   have hlen:=xH tag (Nat.le_of_lt hkx)
   have hsc:=BQ tag hkx
   obtain⟨x,hxx⟩:∃x,x=xs.getD k 0:=⟨_,rfl⟩
   obtain⟨ys,hys⟩:∃ys,ys=jD tag xs k:=⟨_,rfl⟩
   rw[←hxx]at hcj hxr hsc
   rw[←hys]at ho hlen hsc
   have HS:Hid (jD tag xs (k+1)=ys++[x/256,x%256]):=hsc
   have hw1:=lM (x/256) (by omega) (by omega)
   have hw2:=lM (x%256) (by omega) (by omega)
   have hsz:=hb.size
   have hbr:b<wr.heap.size:=by omega
   obtain⟨a',c',rfl⟩:=aW ho
   have hle:ys.length<=2001:=by omega
   have hq1:x.tdiv 256=x/256:=by rw[Int.tdiv_eq_ediv_of_nonneg (by omega)]
   have hq2:x.tmod 256=x%256:=by rw[Int.tmod_eq_emod_of_nonneg (by omega)]
   have hq3:IntKind.i64.wrap (x/256)=x/256:=by rw[IntKind.wrap_i64];omega
   clear hxx hys hsc hc hlen
   go_wp2
   go_region_held3 (fun w'=>w'.cell? ⟨b,off+k,none⟩=some (.int .i64 x)) (first | go_keep |(rw[hgrow.cell_far _ (by simp;omega) (fun e=>by have:=(ho.lt _ e.symm).1;dsimp only at this;omega)];assumption))
    ((refine step_append_lies _ (by rfl) _ _ _ (by rfl) w.heap.size 5 i0 _ 1 1 Tryz.underlying192 hi hz0 hz1 hz2 rfl (by omega) (.slice a' ys.length c') ys.length (ys.map (Value.int .u8)) (by rfl) ((ho.alloc _).drew) ⟨wr.heap.size,0,none⟩ 2 2 [.int .u8 (x/256),.int .u8 (x%256)] (by rfl) (by rfl) (World.news_of_block (cs:=#[.int .u8 (x/256),.int .u8 (x%256)]) (t:=5) (fr:=(0,0)) (heap_alloc_new wr _)) (ints_oneCell .u8 [x/256,x%256]) (by omega) (by unfold maxLen;omega) (by omega) (by simp;omega) (wr.heap.size+1) (by simp) ?_;intro g cap w1 hown1 hgrow hat hlt))
   have dA:=Ih hown1
   have hb2:Below w.heap.size w w1:=(hb.alloc hsz _).drew.grown hgrow (by simp;omega) (fun k hk=>(ho.lt k hk).1)
   clear hown1 hgrow hat hlt ho
   go_wp2
   go_roundw
   case rel=>exact⟨k+1,by omega,by go_num,hb2,by rw[HS.out];simpa using dA⟩
   case measure=>simp[intOf];omega
  ·have hkn:k=n:=by omega
   subst hkn
   obtain⟨a',c',rfl⟩:=aW ho
   go_wp2
   go_ret
   rw[HN.out,oL]at ho
   rw[HN.out,oL]
   exact⟨_,rfl,ho,hb⟩
def tsV(tag:Int)(xs:List Int):Int:=if tgC tag xs=0 then bn (tgL tag xs)else 0
theorem Oi{tag:Int}{xs:List Int}(h:tgC tag xs=0):tsV tag xs=bn (tgL tag xs):=by simp[tsV,h]
theorem Xu{tag:Int}{xs:List Int}(h:¬tgC tag xs=0):tsV tag xs=0:=by simp[tsV,h]
theorem QI(tag:Int)(xs:List Int):tgC tag xs=0∨tgC tag xs=2∨tgC tag xs=3:=by
 unfold tgC
 split
 ·simp
 ·split
  ·simp
  ·split<;>simp
theorem nM(tag:Int)(v:Value)(xs:List Int)(w:World)(hv:Ints .i64 w v xs)(hx:xs.length<=1099511627776):
  Calls Tryz.prog 117 #[.int .i64 tag,v] w fun e w'=>jF w (tgC tag xs) (tsV tag xs) e w':=by
 have hT:=fun o=>iw tag v xs _ (hv.below (aj o)) hx
 have hlb:=Vr tag xs
 have hbt:=Vq tag xs
 have hcd:=QI tag xs
 obtain⟨a,c,rfl⟩:=hv.shape
 generalize xs.length=n at *
 by_cases h0:tgC tag xs=0
 ·rw[Oi h0,h0]
  rw[h0]at hT
  have hS:=fun u w1 hu=>iF u (tgL tag xs) w1 hu hbt (by omega)
  have hsm:=um (bs:=tgL tag xs) (by omega)
  rw[hsm.1,hsm.2]at hS
  generalize tgL tag xs=ys at *
  generalize bn ys=s at *
  clear hv hbt hcd h0 hsm
  go_enter Tryz.func117,Tryz.ntmps117
  go_wp2_with fail
  refine(hT _).mono ?_
  intro e w1 h1
  obtain⟨a1,c1,rfl,hb1,bG⟩:=h1.use
  have i1:=(gq bG).below (aj (.cells #[.int .i64 0,.slice a1 ys.length c1] 208))
  have hB1:Below w.heap.size w (w1.alloc (.cells #[.int .i64 0,.slice a1 ys.length c1] 208)):=ah (ak hb1) (aj _)
  have hz1:w.heap.size<w1.heap.size:=by have:=hb1.size;simp at this;omega
  have R1:(w1.alloc (.cells #[.int .i64 0,.slice a1 ys.length c1] 208)).heap[w.heap.size]? = some (.cells #[.int .i64 0,.int .i64 0] 122 (0,0)):=(Below.heap_alloc _ _ _ hz1).trans ((hb1.block w.heap.size (by simp)).trans (heap_alloc_new w _))
  clear h1 bG hb1 hT
  go_wp2_with fail
  refine(hS _ _ i1).mono ?_
  rintro e w2 ⟨rfl,hb2⟩
  have hB2:=ah hB1 hb2
  obtain⟨hc0,hc1,hf0,hf1⟩:=aG ((hb2.block w.heap.size (by simp;omega)).trans R1)
  clear hS i1 R1 hb2 hB1
  go_wp2
  exact bodyPost_ret (v:= .agg #[.int .i64 0,.int .i64 s]) (by simp[results,Tryz.results117,go_sem,hc0,hc1]) rfl ⟨rfl,(hB2.setCell (Nat.le_refl _) _).setCell (Nat.le_refl _) _⟩
 ·rw[Xu h0]
  generalize tgL tag xs=ys at *
  generalize tgC tag xs=code at *
  clear hv hbt
  rcases hcd with rfl | rfl | rfl
  ·exact absurd rfl h0
  all_goals
   go_enter Tryz.func117,Tryz.ntmps117
   go_wp2_with fail
   refine(hT _).mono ?_
   intro e w1 h1
   obtain⟨a1,c1,rfl,hb1,bG⟩:=h1.use
   have hB1:=ak hb1
   have hz1:w.heap.size<w1.heap.size:=by have:=hb1.size;simp at this;omega
   obtain⟨hc0,hc1,hf0,hf1⟩:=aG ((hb1.block w.heap.size (by simp)).trans (heap_alloc_new w _))
   clear h1 bG hb1 hT
   go_wp2
   exact bodyPost_ret (v:= .agg #[.int .i64 _,.int .i64 0]) (by simp[results,Tryz.results117,go_sem,hc0,hc1,hz1]) rfl ⟨rfl,((hB1.setCell (Nat.le_refl _) _).setCell (Nat.le_refl _) _).alloc (by simp;omega) _⟩
structure Hd where
 e:Int
 p:Int
 o:Int
 n:Int
 v:Int
abbrev Hdl:=List Hd
def hdZ:Hd:=⟨0,0,0,0,0⟩
def hAt(l:Hdl)(j:Nat):Hd:=l.getD j hdZ
theorem Am{l:Hdl}{j:Nat}(h:j<l.length):hAt l j=l[j]:=by simp[hAt,List.getD_eq_getElem?_getD,List.getElem?_eq_getElem h]
def hdN(e p v:Int):Bool:=inB e 1 10&&(inB p 1 5&&aP v)
def sS(p:Int):Bool:=p != 4
def oN(p:Int):Bool:=p==3||p==4
def hdR(e p o n v:Int):Bool:=hdN e p v&&(aP o&&aP n)
def hdF(p o n:Int):Bool:=(sS p||o==0)&&(oN p||n==0)
def hdC(e p o n v:Int):Int:=if hdR e p o n v=true then(if hdF p o n=true then 0 else 1)else 3
theorem DW{e p o n v:Int}(h:hdR e p o n v=false):hdC e p o n v=3:=by unfold hdC;rw[h];rfl
theorem Gi{e p o n v:Int}(h:hdR e p o n v=true)(h1:hdF p o n=false):hdC e p o n v=1:=by unfold hdC;rw[h,h1];rfl
theorem Gj{e p o n v:Int}(h:hdR e p o n v=true)(h1:hdF p o n=true):hdC e p o n v=0:=by unfold hdC;rw[h,h1];rfl
structure sF(e p o n v:Int):Prop where
 e0:1<=e
 e1:e<=10
 p0:1<=p
 p1:p<=5
 o0:0<=o
 o1:o<=65520
 n0:0<=n
 n1:n<=65520
 v0:0<=v
 v1:v<=65520
 f:hdF p o n=true
theorem vZ{e p o n v:Int}(h:hdC e p o n v=0):sF e p o n v:=by
 unfold hdC at h
 by_cases h1:hdR e p o n v=true
 ·rw[if_pos h1]at h
  by_cases h2:hdF p o n=true
  ·unfold hdR hdN at h1
   simp only[Bool.and_eq_true]at h1
   obtain⟨⟨a,b,c⟩,d,f⟩:=h1
   have a:=jd a
   have b:=jd b
   have c:=(bC v).1 c
   have d:=(bC o).1 d
   have f:=(bC n).1 f
   exact⟨a.1,a.2,b.1,b.2,d.1,d.2,f.1,f.2,c.1,c.2,h2⟩
  ·rw[if_neg h2]at h;omega
 ·rw[if_neg h1]at h;omega
theorem sF.c{e p o n v:Int}(h:sF e p o n v):hdC e p o n v=0:=by
 refine Gj ?_ h.f
 unfold hdR hdN
 rw[iJ h.e0 h.e1,iJ h.p0 h.p1,(bC v).2 ⟨h.v0,h.v1⟩,(bC o).2 ⟨h.o0,h.o1⟩,(bC n).2 ⟨h.n0,h.n1⟩]
 rfl
theorem sF.sums{e p o n v:Int}(h:sF e p o n v): [e,p,o,n,v].all aP=true:=by
 have:=h.e0;have:=h.e1;have:=h.p0;have:=h.p1
 have h0:aP e=true:=(bC e).2 ⟨by omega,by omega⟩
 have h1:aP p=true:=(bC p).2 ⟨by omega,by omega⟩
 have h2:aP o=true:=(bC o).2 ⟨h.o0,h.o1⟩
 have h3:aP n=true:=(bC n).2 ⟨h.n0,h.n1⟩
 have h4:aP v=true:=(bC v).2 ⟨h.v0,h.v1⟩
 simp[h0,h1,h2,h3,h4]
def hdB(e p o n v:Int):List Int:=aZ 7 [e,p,o,n,v]
theorem KN(e p o n v:Int):(hdB e p o n v).length=11:=by unfold hdB;rw[jE];rfl
theorem sF.bts{e p o n v:Int}(h:sF e p o n v):Bts (hdB e p o n v):=lD (by omega) h.sums
def hdL(e p o n v:Int):List Int:=if hdC e p o n v=0 then hdB e p o n v else []
theorem Pv{e p o n v:Int}(h:hdC e p o n v=0):hdL e p o n v=hdB e p o n v:=if_pos h
theorem Pq{e p o n v:Int}(h:¬hdC e p o n v=0):hdL e p o n v=[]:=if_neg h
def hdS(e p o n v:Int):Int:=bn (hdB e p o n v)
def Gl(e p o n v:Int):Int:=if hdC e p o n v=0 then hdS e p o n v else 0
theorem CQ{e p o n v:Int}(h:hdC e p o n v=0):Gl e p o n v=hdS e p o n v:=if_pos h
theorem UM{e p o n v:Int}(h:¬hdC e p o n v=0):Gl e p o n v=0:=if_neg h
def gu(a b:Int):Bool:=if a=4 then b==4 else(a==1||b != 1)
def mfB(a b:Int):Bool:=inB a 1 5&&(inB b 1 5&&gu a b)
def hdV(e p o n v:Int):Value:= .agg #[.int .i64 e,.int .i64 p,.int .i64 o,.int .i64 n,.int .i64 v]
def hrV(c e p o n v:Int):Value:= .agg #[.int .i64 c,.int .i64 e,.int .i64 p,.int .i64 o,.int .i64 n,.int .i64 v]
structure HdS(w:World)(b off:Nat)(h:Hd):Prop where
 c0:w.cell? ⟨b,off,none⟩=some (.int .i64 h.e)
 c1:w.cell? ⟨b,off+1,none⟩=some (.int .i64 h.p)
 c2:w.cell? ⟨b,off+2,none⟩=some (.int .i64 h.o)
 c3:w.cell? ⟨b,off+3,none⟩=some (.int .i64 h.n)
 c4:w.cell? ⟨b,off+4,none⟩=some (.int .i64 h.v)
theorem HdS.below{w w':World}{b off N:Nat}{r:Hd}(h:HdS w b off r)(hb:Below N w w')(hlt:b<N):HdS w' b off r:=
 ⟨(hb.cell (p:=⟨b,off,none⟩) hlt).trans h.c0,(hb.cell (p:=⟨b,off+1,none⟩) hlt).trans h.c1,(hb.cell (p:=⟨b,off+2,none⟩) hlt).trans h.c2,(hb.cell (p:=⟨b,off+3,none⟩) hlt).trans h.c3,(hb.cell (p:=⟨b,off+4,none⟩) hlt).trans h.c4⟩
theorem HdS.grown{w w':World}{b off:Nat}{r:Hd}{row:Option Nat}(h:HdS w b off r)(hg:w.grownBy w' row)(hne:some b≠row):HdS w' b off r:=
 ⟨hg.cell h.c0 hne,hg.cell h.c1 hne,hg.cell h.c2 hne,hg.cell h.c3 hne,hg.cell h.c4 hne⟩
theorem HdS.lt{w:World}{b off:Nat}{r:Hd}(h:HdS w b off r):b<w.heap.size:=by
 rcases hh:w.heap[b]? with _ | o
 ·have:=h.c0;simp[World.cell?,hh]at this
 ·exact(Array.getElem?_eq_some_iff.1 hh).1
theorem HdS.new(w:World)(r:Hd)(t:TypeId):HdS (w.alloc (.cells #[.int .i64 r.e,.int .i64 r.p,.int .i64 r.o,.int .i64 r.n,.int .i64 r.v] t)) w.heap.size 0 r:=by
 have hh:=heap_alloc_new w (.cells #[.int .i64 r.e,.int .i64 r.p,.int .i64 r.o,.int .i64 r.n,.int .i64 r.v] t)
 constructor<;>(unfold World.cell?;rw[hh];rfl)
theorem vG{P:Program}(w:World)(src dst e:TypeId)(g off cap:Nat)(t:ByteArray)(hs:P.underlying src=some (.slice e))(he:P.underlying e=some (.int .u8))(hd:P.underlying dst=some .string)
  (hc:∀j,j<t.size->w.cell? ⟨g,off+j,none⟩=some (.int .u8 (bt t j))) :
  (convert src dst (.slice (some ⟨g,off,none⟩) t.size cap)).run P w = .ok (.string t) w:=by
 have hl:=Lib.size_eq t
 have h:=run_convert_bytes_back (P:=P) w src dst e ⟨g,off,none⟩ cap t.data.toList hs he hd (fun j hj=>by
  rw[Addr.add_lit,hc j (by omega),jI]
  simp only[List.getD_eq_getElem?_getD,List.getElem?_eq_getElem hj,Option.getD_some])
 rw[←hl,Lib.mk_data]at h
 exact h
theorem qL(w:World)(e:TypeId)(s:ByteArray)(cap:Nat)(fz:Nat × Nat)(hfz:s.size<=fz.1)(j:Nat)(hj:j<s.size):
  (w.alloc (.cells (bytesRow s cap) e fz)).cell? ⟨w.heap.size,j,none⟩=some (.int .u8 (bt s j))/\(w.alloc (.cells (bytesRow s cap) e fz)).frozen? ⟨w.heap.size,j,none⟩=false:=by
 have hh:=heap_alloc_new w (.cells (bytesRow s cap) e fz)
 have hl:=Lib.size_eq s
 have hr:(bytesRow s cap)[j]? = some (.int .u8 (bt s j)):=by
  unfold bytesRow
  rw[Array.getElem?_append_left (by simpa using hj),jI]
  simp only[Array.getElem?_map,List.getD_eq_getElem?_getD,Array.getElem?_toList]
  have:j<s.data.size:=hj
  rw[Array.getElem?_eq_getElem this]
  rfl
 refine⟨?_, ?_⟩
 ·unfold World.cell?
  rw[hh]
  exact hr
 ·unfold World.frozen?
  rw[hh]
  simp
  omega
def bl(s:ByteArray):List Int:=s.data.toList.map fun b=>(b.toNat:Int)
theorem ou(s:ByteArray):(bl s).length=s.size:=by unfold bl;rw[List.length_map];exact(Lib.size_eq s).symm
theorem TW(s:ByteArray){j:Nat}(h:j<s.size):(bl s).getD j 0=bt s j:=by
 have hl:j<s.data.toList.length:=by rw[←Lib.size_eq];exact h
 rw[jI]
 unfold bl
 simp only[List.getD_eq_getElem?_getD,List.getElem?_map,List.getElem?_eq_getElem hl,Option.map_some,Option.getD_some]
theorem Fv(s:ByteArray):Bts (bl s):=by
 intro b hb
 unfold bl at hb
 rw[List.mem_map]at hb
 obtain⟨x,_,rfl⟩:=hb
 have:=x.toNat_lt
 omega
theorem DN(w:World)(s:ByteArray)(e:TypeId)(cap:Nat)(fz:Nat × Nat)(hfz:s.size<=fz.1):Ints .u8 (w.alloc (.cells (bytesRow s cap) e fz)) (.slice (some ⟨w.heap.size,0,none⟩) s.size cap) (bl s):=by
 refine Or.inr ⟨w.heap.size,0,cap,by rw[ou],by simp,fun j hj=> ?_⟩
 rw[ou]at hj
 rw[Nat.zero_add,TW s hj]
 exact(qL w e s cap fz hfz j hj).1
theorem Oe(s t:ByteArray):s.toList=t.toList↔s=t:=by
 constructor
 ·intro e
  apply ByteArray.ext
  apply Array.toList_inj.1
  rw[←Lib.toList_data,←Lib.toList_data,e]
 ·intro e;rw[e]
theorem Q9{w:World}{b off:Nat}{bs:List Int}(hc:∀j,j<bs.length->w.cell? ⟨b,off+j,none⟩=some (.int .u8 (bs.getD j 0))):∀j u,(bs.map (Value.int .u8))[j]? = some u->w.cell? ((⟨b,off,none⟩:Addr).add j)=some u:=by
 intro j u h
 rw[List.getElem?_map]at h
 rcases hj:bs[j]? with _ | x
 ·rw[hj]at h;cases h
 ·rw[hj]at h
  cases h
  have hlt:j<bs.length:=(List.getElem?_eq_some_iff.1 hj).1
  rw[Addr.add_lit,hc j hlt]
  simp[hj]
def badR(r:Int):Bool:=decide (r<33)||inB r 127 160
def aV(s:ByteArray):Int:=if s.size=0 then 1 else if 12<s.size then 2 else match runes s with | none=>5 | some xs=>if xs.any badR=true then 5 else 0
theorem AY(s:ByteArray):s.toList.isEmpty=decide (s.size=0):=by
 rw[Lib.toList_data,Bool.eq_iff_iff,decide_eq_true_iff,List.isEmpty_iff_length_eq_zero,Lib.size_eq]
def Good(xs:List Int)(k:Nat):Prop:=∀j,j<k->badR (xs.getD j 0)=false
theorem Good.succ{xs:List Int}{k:Nat}(h:Good xs k)(h1:badR (xs.getD k 0)=false):Good xs (k+1):=by
 intro j hj
 by_cases e:j=k
 ·subst e;exact h1
 ·exact h j (by omega)
theorem Good.all{xs:List Int}(h:Good xs xs.length):xs.any badR=false:=by
 rw[List.any_eq_false]
 intro x hx
 obtain⟨j,hj,rfl⟩:=List.getElem_of_mem hx
 have:=h j hj
 rw[getD_eq hj]at this
 simp[this]
theorem xK{xs:List Int}{k:Nat}(hk:k<xs.length)(h:badR (xs.getD k 0)=true):xs.any badR=true:=by
 rw[List.any_eq_true]
 rw[getD_eq hk]at h
 exact⟨_,List.getElem_mem hk,h⟩
theorem wR{s:ByteArray}(h:s.size=0):aV s=1:=by simp[aV,h]
theorem yT{s:ByteArray}(h:12<s.size):aV s=2:=by unfold aV;rw[if_neg (by omega),if_pos h]
theorem yU{s:ByteArray}(h0:¬s.size=0)(h:¬ 12<s.size)(hr:runes s=none):aV s=5:=by simp[aV,h0,h,hr]
theorem o9{s:ByteArray}{xs:List Int}(h0:¬s.size=0)(h:¬ 12<s.size)(hr:runes s=some xs)(hb:xs.any badR=true):aV s=5:=by simp[aV,h0,h,hr,hb]
theorem qZ{s:ByteArray}{xs:List Int}(h0:¬s.size=0)(h:¬ 12<s.size)(hr:runes s=some xs)(hb:xs.any badR=false):aV s=0:=by simp[aV,h0,h,hr,hb]
theorem Fp{r:Int}(h:r<33):badR r=true:=by unfold badR;simp[h]
theorem Fq{r:Int}(h:inB r 127 160=true):badR r=true:=by unfold badR;simp[h]
theorem Ci{r:Int}(h:33<=r)(h2:inB r 127 160=false):badR r=false:=by unfold badR;simp[h,h2]
theorem Jy(s:ByteArray)(w:World)(hs:s.size<=1048576):
  Calls Tryz.prog 132 #[.string s] w fun e w'=>e = .returned (.int .i64 (aV s))/\Below w.heap.size w w':=by
 have hem:=AY s
 by_cases h0:s.size=0
 ·have h1:s.toList.isEmpty=true:=by rw[hem];simp[h0]
  rw[wR h0]
  clear hem
  go_enter Tryz.func132,Tryz.ntmps132
  go_wp2
  go_ret
  exact⟨rfl,Below.refl _ _⟩
 ·have h1:s.toList.isEmpty=false:=by rw[hem];simp[h0]
  clear hem
  by_cases h12:12<s.size
  ·rw[yT h12]
   go_enter Tryz.func132,Tryz.ntmps132
   go_wp2
   go_ret
   exact⟨rfl,Below.refl _ _⟩
  ·rcases hr:runes s with _ | xs
   ·rw[yU h0 h12 hr]
    go_enter Tryz.func132,Tryz.ntmps132
    go_wp2_with (go_at_call 168;refine(GY s _ hs hr).mono ?_;rintro e w1 ⟨rfl,hb⟩)
    go_ret
    exact⟨rfl,hb⟩
   ·have hlen:=xA hr
    have H0:Hid (¬s.size=0):=h0
    have HR:Hid (runes s=some xs):=hr
    clear h0
    go_enter Tryz.func132,Tryz.ntmps132
    go_wp2_with (go_at_call 168;refine(GZ s _ xs hs hr).mono ?_;rintro e w1 ⟨a,c,rfl,hb,hown⟩)
    have hv:=gq hown
    clear hown hr
    by_cases hz:0<xs.length
    ·obtain⟨_,b,off,rfl,_,hc⟩:=hv.at hz
     clear hv
     obtain⟨n,hn⟩:∃n,n=xs.length:=⟨_,rfl⟩
     have HN:Hid (n=xs.length):=hn
     rw[←hn]at hc hlen hz ⊢
     clear hn
     go_loop [5] (fun i=>∃k:Nat,k<=n/\i = .int .i64 k/\Hid (Good xs k)) (fun i=>n - (intOf i).toNat)
     case atStart=>exact⟨0,Nat.zero_le _,rfl,fun j hj=>by omega⟩
     case round=>
      obtain⟨k,hk,rfl,hG⟩:=hrel
      by_cases hkn:k<n
      ·have hki:(k:Int)<(n:Int):=by omega
       have hck:=hc k hkn
       clear hc
       obtain⟨x,hx⟩:∃x,x=xs.getD k 0:=⟨_,rfl⟩
       have HX:Hid (x=xs.getD k 0):=hx
       rw[←hx]at hck
       clear hx
       by_cases hx1:x<33
       ·go_wp2_with (go_at_call 51;refine(bg _ _ _ _).mono ?_;rintro e w' ⟨rfl,rfl⟩)
        go_ret
        exact⟨aC (by rw[o9 H0.out h12 HR.out (xK (by rw[←HN.out];exact hkn) (by rw[←HX.out];exact Fp hx1))]),hb⟩
       ·rcases Bool.eq_false_or_eq_true (inB x 127 160)with hx2 | hx2
        ·go_wp2_with (go_at_call 51;refine(bg _ _ _ _).mono ?_;rintro e w' ⟨rfl,rfl⟩)
         go_ret
         exact⟨aC (by rw[o9 H0.out h12 HR.out (xK (by rw[←HN.out];exact hkn) (by rw[←HX.out];exact Fq hx2))]),hb⟩
        ·go_wp2_with (go_at_call 51;refine(bg _ _ _ _).mono ?_;rintro e w' ⟨rfl,rfl⟩)
         go_round
         case rel=>exact⟨k+1,by omega,by go_num,hG.out.succ (by rw[←HX.out];exact Ci (by omega) hx2)⟩
         case measure=>simp[intOf];omega
      ·go_wp2
       go_ret
       have hkn:k=n:=by omega
       subst hkn
       exact⟨aC (by rw[qZ H0.out h12 HR.out (Good.all (by rw[←HN.out];exact hG.out))]),hb⟩
    ·have e:xs=[]:=List.eq_nil_of_length_eq_zero (by omega)
     subst e
     simp only[List.length_nil]
     clear hv
     refine wp_loop_rounds 1 ?_;rw[rounds_succ]
     go_wp2
     go_ret
     exact⟨aC (by rw[qZ H0.out h12 HR.out rfl]),hb⟩
theorem oI(s:ByteArray)(w:World)(hs:s.size<=1048576):
  Calls Tryz.prog 118 #[.string s] w fun e w'=>e = .returned (.int .i64 (aV s))/\Below w.heap.size w w':=by
 have hem:=AY s
 by_cases h0:s.size=0
 ·have h1:s.toList.isEmpty=true:=by rw[hem];simp[h0]
  rw[wR h0]
  clear hem
  go_enter Tryz.func118,Tryz.ntmps118
  go_wp2
  go_ret
  exact⟨rfl,Below.refl _ _⟩
 ·have h1:s.toList.isEmpty=false:=by rw[hem];simp[h0]
  clear hem
  by_cases h12:12<s.size
  ·rw[yT h12]
   go_enter Tryz.func118,Tryz.ntmps118
   go_wp2
   go_ret
   exact⟨rfl,Below.refl _ _⟩
  ·have hA:=fun w=>AO s w hs
   rcases hr:runes s with _ | xs
   ·rw[yU h0 h12 hr]
    rw[Lc (by omega) hr]at hA
    go_enter Tryz.func118,Tryz.ntmps118
    go_wp2_with (go_at_call 159;refine(hA _).mono ?_;intro e w1 h9;obtain⟨a,c,rfl,hb,_⟩:=h9.use)
    go_ret
    exact⟨rfl,hb.alloc hb.size _⟩
   ·rw[Ld (by omega) hr]at hA
    have hlen:=xA hr
    have H0:Hid (¬s.size=0):=h0
    have HR:Hid (runes s=some xs):=hr
    clear h0 hr
    go_enter Tryz.func118,Tryz.ntmps118
    go_wp2_with (go_at_call 159;refine(hA _).mono ?_;intro e w1 h9;obtain⟨a,c,rfl,hb,hown⟩:=h9.use;clear h9)
    have hv:=(gq hown).below (aj (.cells #[.int .i64 0,.slice a xs.length c] 213))
    have hB:Below w.heap.size w (w1.alloc (.cells #[.int .i64 0,.slice a xs.length c] 213)):=hb.alloc hb.size _
    clear hown hA
    by_cases hz:0<xs.length
    ·obtain⟨_,b,off,rfl,_,hc⟩:=hv.at hz
     clear hv
     obtain⟨n,hn⟩:∃n,n=xs.length:=⟨_,rfl⟩
     have HN:Hid (n=xs.length):=hn
     rw[←hn]at hc hlen hz hB ⊢
     clear hn
     go_loop [21] (fun i=>∃k:Nat,k<=n/\i = .int .i64 k/\Hid (Good xs k)) (fun i=>n - (intOf i).toNat)
     case atStart=>exact⟨0,Nat.zero_le _,rfl,fun j hj=>by omega⟩
     case round=>
      obtain⟨k,hk,rfl,hG⟩:=hrel
      by_cases hkn:k<n
      ·have hki:(k:Int)<(n:Int):=by omega
       have hck:=hc k hkn
       clear hc
       obtain⟨x,hx⟩:∃x,x=xs.getD k 0:=⟨_,rfl⟩
       have HX:Hid (x=xs.getD k 0):=hx
       rw[←hx]at hck
       clear hx
       by_cases hx1:x<33
       ·go_wp2
        go_ret
        exact⟨aC (by rw[o9 H0.out h12 HR.out (xK (by rw[←HN.out];exact hkn) (by rw[←HX.out];exact Fp hx1))]),hB⟩
       ·by_cases hx2:127<=x
        ·by_cases hx3:x<=160
         ·go_wp2
          go_ret
          exact⟨aC (by rw[o9 H0.out h12 HR.out (xK (by rw[←HN.out];exact hkn) (by rw[←HX.out];exact Fq (iJ hx2 hx3)))]),hB⟩
         ·go_wp2
          go_round
          case rel=>exact⟨k+1,by omega,by go_num,hG.out.succ (by rw[←HX.out];exact Ci (by omega) (nV (by omega)))⟩
          case measure=>simp[intOf];omega
        ·go_wp2
         go_round
         case rel=>exact⟨k+1,by omega,by go_num,hG.out.succ (by rw[←HX.out];exact Ci (by omega) (nV (by omega)))⟩
         case measure=>simp[intOf];omega
      ·go_wp2
       go_ret
       have hkn:k=n:=by omega
       subst hkn
       exact⟨aC (by rw[qZ H0.out h12 HR.out (Good.all (by rw[←HN.out];exact hG.out))]),hB⟩
    ·have e:xs=[]:=List.eq_nil_of_length_eq_zero (by omega)
     subst e
     simp only[List.length_nil]at hB ⊢
     clear hv
     refine wp_loop_rounds 1 ?_;rw[rounds_succ]
     go_wp2
     go_ret
     exact⟨aC (by rw[qZ H0.out h12 HR.out rfl]),hB⟩
def foldI(b:Int):Int:=if 65<=b/\b<=90 then b+32 else b
def dD(s:ByteArray):ByteArray:=⟨s.data.map (fun b=>UInt8.ofNat (foldI b.toNat).toNat)⟩
theorem Rx{b:Int}(h0:0<=b)(h1:b<=255):0<=foldI b/\foldI b<=255:=by unfold foldI;split<;>omega
theorem lV(s:ByteArray):(dD s).size=s.size:=by show(s.data.map _).size=s.data.size;simp
theorem Q5(s:ByteArray)(j:Nat)(h:j<s.size):bt (dD s) j=foldI (bt s j):=by
 have hb:=nT s j
 rw[jI]
 rw[jI]at hb ⊢
 have hl:j<s.data.toList.length:=by rw[←Lib.size_eq];exact h
 have e:(dD s).data.toList.getD j 0=UInt8.ofNat (foldI ((s.data.toList.getD j 0).toNat)).toNat:=by
  simp only[dD,Array.toList_map,List.getD_eq_getElem?_getD,List.getElem?_map,List.getElem?_eq_getElem hl,Option.map_some,Option.getD_some]
 rw[e]
 have hb2:=Rx hb.1 hb.2
 rw[UInt8.toNat_ofNat']
 omega
def vO(s:ByteArray)(k j:Nat):Int:=if j<k then foldI (bt s j)else bt s j
def fP(s:ByteArray)(g k:Nat)(w:World):Prop:=∀j,j<s.size->w.cell? ⟨g,j,none⟩=some (.int .u8 (vO s k j))/\w.frozen? ⟨g,j,none⟩=false
theorem jR{s:ByteArray}{k j:Nat}(h:j<k):vO s k j=foldI (bt s j):=by simp[vO,h]
theorem jk{s:ByteArray}{k j:Nat}(h:¬j<k):vO s k j=bt s j:=by simp[vO,h]
theorem fP.stay{s:ByteArray}{g k:Nat}{w:World}(h:fP s g k w)(he:foldI (bt s k)=bt s k):fP s g (k+1) w:=by
 intro j hj
 refine⟨(h j hj).1.trans ?_,(h j hj).2⟩
 by_cases e:j=k
 ·subst e;rw[jk (by omega),jR (by omega),he]
 ·by_cases e2:j<k
  ·rw[jR e2,jR (by omega)]
  ·rw[jk e2,jk (by omega)]
theorem fP.store{s:ByteArray}{g k:Nat}{w:World}(h:fP s g k w)(hk:k<s.size):fP s g (k+1) (w.setCell ⟨g,k,none⟩ (.int .u8 (foldI (bt s k)))):=by
 intro j hj
 by_cases e:j=k
 ·subst e
  refine⟨?_, ?_⟩
  ·rw[jR (by omega)];exact World.cell?_setCell_same _ _ _ (h j hj).1
  ·rw[World.frozen?_setCell];exact(h j hj).2
 ·have hne:(⟨g,k,none⟩:Addr)≠⟨g,j,none⟩:=by intro e2;cases e2;exact e rfl
  refine⟨?_, ?_⟩
  ·rw[World.cell?_setCell_other _ _ _ _ hne,(h j hj).1]
   by_cases e2:j<k
   ·rw[jR e2,jR (by omega)]
   ·rw[jk e2,jk (by omega)]
  ·rw[World.frozen?_setCell];exact(h j hj).2
theorem sN{b:Int}(h:b<65∨90<b):foldI b=b:=by unfold foldI;rw[if_neg (by omega)]
theorem DR{b:Int}(h1:65<=b)(h2:b<=90):foldI b=b+32:=by unfold foldI;rw[if_pos ⟨h1,h2⟩]
theorem fP.back{s:ByteArray}{g:Nat}{w:World}(h:fP s g s.size w):∀j,j<(dD s).size->w.cell? ⟨g,0+j,none⟩=some (.int .u8 (bt (dD s) j)):=by
 intro j hj
 rw[lV]at hj
 rw[Nat.zero_add,(h j hj).1,jR hj,Q5 s j hj]
theorem fP.start{s:ByteArray}(w:World)(e:TypeId)(cap:Nat)(fz:Nat × Nat)(hfz:s.size<=fz.1):fP s w.heap.size 0 (w.alloc (.cells (bytesRow s cap) e fz)):=by
 intro j hj
 rw[jk (by omega)]
 exact qL w e s cap fz hfz j hj
theorem sZ(s:ByteArray)(w:World)(hs:s.size<=12):
  Calls Tryz.prog 133 #[.string s] w fun e w'=>e = .returned (.string (dD s))/\Below w.heap.size w w':=by
 have kc:=fun (w:World)=>run_bytes_of_string (P:=Tryz.prog) w 9 192 5 s Tryz.underlying9 Tryz.underlying192 Tryz.underlying5
 go_enter Tryz.func133,Tryz.ntmps133
 go_wp2
 generalize grownCap w s.size 0 5=cap
 go_loopw [4] (fun i wr=>∃k:Nat,k<=s.size/\i = .int .i64 k/\Below w.heap.size w wr/\w.heap.size<wr.heap.size/\Hid (fP s w.heap.size k wr)) (fun i _=>s.size - (intOf i).toNat)
 case atStart=>exact⟨0,Nat.zero_le _,rfl,(aj _).drew,by simp,fP.start w _ _ _ (by simp[bytesRow])⟩
 case round=>
  obtain⟨k,hk,rfl,hB,hlt,hF⟩:=hrel
  by_cases hks:k<s.size
  ·have hki:(k:Int)<(s.size:Int):=by omega
   have hc:=(hF.out k hks).1
   have hf:=(hF.out k hks).2
   rw[jk (by omega)]at hc
   have hb:=nT s k
   obtain⟨b,hbb⟩:∃b,b=bt s k:=⟨_,rfl⟩
   have HB:Hid (b=bt s k):=hbb
   rw[←hbb]at hc hb
   clear hbb kc
   by_cases h1:65<=b
   ·by_cases h2:b<=90
    ·go_wp2
     go_roundw
     case rel=>
      refine⟨k+1,by omega,by go_num,hB.setCell (Nat.le_refl _) _,by simpa using hlt, ?_⟩
      have:=hF.out.store hks
      rw[←HB.out,DR h1 h2]at this
      exact this
     case measure=>simp[intOf];omega
    ·go_wp2
     go_roundw
     case rel=>exact⟨k+1,by omega,by go_num,hB,hlt,hF.out.stay (by rw[←HB.out];exact sN (by omega))⟩
     case measure=>simp[intOf];omega
   ·go_wp2
    go_roundw
    case rel=>exact⟨k+1,by omega,by go_num,hB,hlt,hF.out.stay (by rw[←HB.out];exact sN (by omega))⟩
    case measure=>simp[intOf];omega
  ·have hk2:k=s.size:=by omega
   have hcv:=vG (P:=Tryz.prog) wr 192 9 5 w.heap.size 0 cap (dD s) Tryz.underlying192 Tryz.underlying5 Tryz.underlying9 (by have:=hF.out;rw[hk2]at this;exact this.back)
   rw[lV]at hcv
   clear hk2 kc
   go_wp2
   go_ret
   exact⟨rfl,hB⟩
def nU(s:ByteArray):ByteArray:=if aV s=0 then dD s else⟨#[]⟩
theorem kE{s:ByteArray}(h:aV s=0):s.size<=12:=by
 unfold aV at h
 by_cases h0:s.size=0
 ·omega
 ·by_cases h1:12<s.size
  ·rw[if_neg h0,if_pos h1]at h;omega
  ·omega
theorem oW(s:ByteArray)(w:World)(hs:s.size<=1048576):
  Calls Tryz.prog 160 #[.string s] w fun e w'=>e = .returned (.agg #[.int .i64 (aV s),.string (nU s)])/\Below w.heap.size w w':=by
 have hL:=fun w=>oI s w hs
 have hsm:=kE (s:=s)
 unfold nU
 generalize aV s=code at *
 by_cases h:code=0
 ·have h12:=hsm h
  subst h
  clear hsm
  rw[if_pos rfl]
  have kc:=fun (w:World)=>run_bytes_of_string (P:=Tryz.prog) w 9 192 5 s Tryz.underlying9 Tryz.underlying192 Tryz.underlying5
  go_enter Tryz.func160,Tryz.ntmps160
  go_wp2_with (go_at_call 118;refine(hL _).mono ?_;rintro e w1 ⟨rfl,hb1⟩)
  generalize grownCap w1 s.size 0 5=cap
  go_loopw [17] (fun i wr=>∃k:Nat,k<=s.size/\i = .int .i64 k/\Below w1.heap.size w1 wr/\w1.heap.size<wr.heap.size/\Hid (fP s w1.heap.size k wr)) (fun i _=>s.size - (intOf i).toNat)
  case atStart=>exact⟨0,Nat.zero_le _,rfl,(aj _).drew,by simp,fP.start w1 _ _ _ (by simp[bytesRow])⟩
  case round=>
   obtain⟨k,hk,rfl,hB,hlt,hF⟩:=hrel
   by_cases hks:k<s.size
   ·have hki:(k:Int)<(s.size:Int):=by omega
    have hc:=(hF.out k hks).1
    have hf:=(hF.out k hks).2
    rw[jk (by omega)]at hc
    have hb:=nT s k
    obtain⟨b,hbb⟩:∃b,b=bt s k:=⟨_,rfl⟩
    have HB:Hid (b=bt s k):=hbb
    rw[←hbb]at hc hb
    clear hbb kc hL
    by_cases h1:65<=b
    ·by_cases h2:b<=90
     ·go_wp2
      go_roundw
      case rel=>
       refine⟨k+1,by omega,by go_num,hB.setCell (Nat.le_refl _) _,by simpa using hlt, ?_⟩
       have:=hF.out.store hks
       rw[←HB.out,DR h1 h2,show b+32=b - 65+97 by omega]at this
       exact this
      case measure=>simp[intOf];omega
     ·go_wp2
      go_roundw
      case rel=>exact⟨k+1,by omega,by go_num,hB,hlt,hF.out.stay (by rw[←HB.out];exact sN (by omega))⟩
      case measure=>simp[intOf];omega
    ·go_wp2
     go_roundw
     case rel=>exact⟨k+1,by omega,by go_num,hB,hlt,hF.out.stay (by rw[←HB.out];exact sN (by omega))⟩
     case measure=>simp[intOf];omega
   ·have hk2:k=s.size:=by omega
    have hcv:=vG (P:=Tryz.prog) wr 192 9 5 w1.heap.size 0 cap (dD s) Tryz.underlying192 Tryz.underlying5 Tryz.underlying9 (by have:=hF.out;rw[hk2]at this;exact this.back)
    rw[lV]at hcv
    have hb2:=ah hb1 hB
    obtain⟨hc,hf⟩:=LQ hb2
    clear hk2 kc hL
    go_wp2
    exact bodyPost_ret (v:= .agg #[.int .i64 0,.string (dD s)]) (by simp[results,Tryz.results160,go_sem,hc]) rfl ⟨rfl,((ak hb2).setCell (Nat.le_refl _) _).setCell (Nat.le_refl _) _⟩
 ·have h1:(code != 0)=true:=by simpa using h
  rw[if_neg h]
  clear h hsm
  go_enter Tryz.func160,Tryz.ntmps160
  go_wp2_with (go_at_call 118;refine(hL _).mono ?_;rintro e w1 ⟨rfl,hb1⟩;obtain⟨hc,hf⟩:=LQ hb1)
  exact bodyPost_ret (v:= .agg #[.int .i64 code,.string ⟨#[]⟩]) (by simp[results,Tryz.results160,go_sem,hc]) rfl ⟨rfl,((ak hb1).setCell (Nat.le_refl _) _).setCell (Nat.le_refl _) _⟩
def fM(l:ByteArray):Bool:=(dD l).toList==l.toList
theorem Md(l:ByteArray):fM l=true↔dD l=l:=by unfold fM;rw[beq_iff_eq];exact Oe _ _
def jL(v o p:Int):Bool:=inB v 1 999&&(aP o&&aP p)
def recC(l:ByteArray)(v o p:Int):Int:=if aV l=0 then(if fM l=true then(if jL v o p=true then 0 else 3)else 1)else aV l
theorem Bq{l:ByteArray}{v o p:Int}(h:¬aV l=0):recC l v o p=aV l:=by unfold recC;rw[if_neg h]
theorem Eb{l:ByteArray}{v o p:Int}(h:aV l=0)(h1:fM l=false):recC l v o p=1:=by unfold recC;rw[if_pos h,h1];rfl
theorem Bv{l:ByteArray}{v o p:Int}(h:aV l=0)(h1:fM l=true)(h2:jL v o p=false):recC l v o p=3:=by unfold recC;rw[if_pos h,h1,h2];rfl
theorem Le{l:ByteArray}{v o p:Int}(h:aV l=0)(h1:fM l=true)(h2:jL v o p=true):recC l v o p=0:=by unfold recC;rw[if_pos h,h1,h2];rfl
structure o7(l:ByteArray)(v o p:Int):Prop where
 lab:aV l=0
 fld:dD l=l
 small:l.size<=12
 v0:1<=v
 v1:v<=999
 o0:0<=o
 o1:o<=65520
 p0:0<=p
 p1:p<=65520
theorem nZ{l:ByteArray}{v o p:Int}(h:recC l v o p=0):o7 l v o p:=by
 unfold recC at h
 by_cases h1:aV l=0
 ·rw[if_pos h1]at h
  by_cases h2:fM l=true
  ·rw[if_pos h2]at h
   by_cases h3:jL v o p=true
   ·unfold jL at h3
    rw[Bool.and_eq_true,Bool.and_eq_true]at h3
    obtain⟨a,b,c⟩:=h3
    have a:=jd a
    have b:=(bC o).1 b
    have c:=(bC p).1 c
    exact⟨h1,(Md l).1 h2,kE h1,a.1,a.2,b.1,b.2,c.1,c.2⟩
   ·rw[if_neg h3]at h;omega
  ·rw[if_neg h2]at h;omega
 ·rw[if_neg h1]at h;omega
theorem o7.sums{l:ByteArray}{v o p:Int}(h:o7 l v o p): [v,o,p].all aP=true:=by
 have h0:aP v=true:=(bC v).2 ⟨by have:=h.v0;omega,by have:=h.v1;omega⟩
 have h1:aP o=true:=(bC o).2 ⟨h.o0,h.o1⟩
 have h2:aP p=true:=(bC p).2 ⟨h.p0,h.p1⟩
 simp[h0,h1,h2]
theorem o7.pos{l:ByteArray}{v o p:Int}(h:o7 l v o p):0<l.size:=by
 have:=h.lab
 unfold aV at this
 by_cases h0:l.size=0
 ·rw[if_pos h0]at this;omega
 ·omega
def je(zs xs:List Int)(k:Nat):List Int:=zs++(xs.take k).flatMap oP
def numsL(zs xs:List Int):List Int:=zs++xs.flatMap oP
theorem JM(zs xs:List Int):je zs xs 0=zs:=by simp[je]
theorem Bj(zs xs:List Int):je zs xs xs.length=numsL zs xs:=by unfold je numsL;rw[List.take_length]
theorem JL(zs:List Int){xs:List Int}{k:Nat}(h:k<xs.length):je zs xs (k+1)=je zs xs k++[xs.getD k 0/256,xs.getD k 0%256]:=by
 unfold je
 rw[pG h,List.flatMap_append]
 simp[oP]
theorem NM(zs:List Int){xs:List Int}{k:Nat}(h:k<=xs.length):(je zs xs k).length=zs.length+2*k:=by
 unfold je
 rw[List.length_append,FM,List.length_take]
 omega
def jy(l:ByteArray):List Int:=1::(l.size:Int)::bl l
def dI(l:ByteArray)(v o p:Int):List Int:=jy l++[v/256,v%256,o/256,o%256,p/256,p%256]
theorem NT(l:ByteArray)(v o p:Int):numsL (jy l) [v,o,p]=dI l v o p:=by simp[numsL,dI,oP]
theorem wo(l:ByteArray):(jy l).length=2+l.size:=by simp[jy,ou];omega
theorem xg(l:ByteArray)(v o p:Int):(dI l v o p).length=8+l.size:=by unfold dI;rw[List.length_append,wo];simp;omega
theorem D9{l:ByteArray}{v o p:Int}(h:o7 l v o p):Bts (dI l v o p):=by
 intro b hb
 obtain⟨-,-,hs,h1,h2,h3,h4,h5,h6⟩:=h
 unfold dI jy at hb
 simp only[List.mem_append,List.mem_cons,List.not_mem_nil,or_false]at hb
 rcases hb with(rfl | rfl | hb)|hb
 ·omega
 ·omega
 ·exact Fv l b hb
 ·omega
def pkL(l:ByteArray)(v o p:Int):List Int:=if recC l v o p=0 then dI l v o p else []
theorem Ui{l:ByteArray}{v o p:Int}(h:recC l v o p=0):pkL l v o p=dI l v o p:=by unfold pkL;rw[if_pos h]
theorem Uh{l:ByteArray}{v o p:Int}(h:¬recC l v o p=0):pkL l v o p=[]:=by unfold pkL;rw[if_neg h]
def bP(l:ByteArray)(v o p:Int):Value:= .agg #[.string l,.int .i64 v,.int .i64 o,.int .i64 p]
def After(W:World):Type:={w':World // Below W.heap.size W w'}
def After.w{W:World}(n:After W):World:=n.1
theorem After.b{W:World}(n:After W):Below W.heap.size W n.w:=n.2
theorem After.ne(W:World):Nonempty (After W):=⟨⟨W,Below.refl _ _⟩⟩
theorem aA{W w':World}(h:Below W.heap.size W w'):∃n:After W,w'=n.w:=⟨⟨w',h⟩,rfl⟩
theorem After.cell{W:World}{b i:Nat}{x:Value}(h:W.cell? ⟨b,i,none⟩=some x):∀n:After W,n.w.cell? ⟨b,i,none⟩=some x:=fun n=>by
 have hlt:b<W.heap.size:=by
  rcases hh:W.heap[b]? with _ | o
  ·simp[World.cell?,hh]at h
  ·exact(Array.getElem?_eq_some_iff.1 hh).1
 exact(n.b.cell (p:=⟨b,i,none⟩) hlt).trans h
theorem au{P:Program}{id:Nat}{Q:Exit->Act->World->Prop}{a:Act}{w:World}{l:List Oper}(hm:P.follows .mixedOrders=true)(hB:Region.lexB .any l.toArray=true)
  (h:wpQuiet P l.toArray (fun w'=>∃n:After w,w'=n.w) (fun a'=>∀w',(∃n:After w,w'=n.w)->Q .normal a' w') l a):(Go.Code.region id l.toArray true).wp P Q a w:=
 wp_region_quiet (C:=fun w'=>∃n:After w,w'=n.w) hm hB (aA (Below.refl _ _).drew) (by simpa using h)
structure lS(w:World)(g:Nat)(l:ByteArray)(v o p:Int):Prop where
 c0:w.cell? ⟨g,0,none⟩=some (.string l)
 c1:w.cell? ⟨g,1,none⟩=some (.int .i64 v)
 c2:w.cell? ⟨g,2,none⟩=some (.int .i64 o)
 c3:w.cell? ⟨g,3,none⟩=some (.int .i64 p)
theorem lS.below{w w':World}{g:Nat}{l:ByteArray}{v o p:Int}(h:lS w g l v o p)(hb:Below w.heap.size w w'):lS w' g l v o p:=
 ⟨After.cell h.c0 ⟨w',hb⟩,After.cell h.c1 ⟨w',hb⟩,After.cell h.c2 ⟨w',hb⟩,After.cell h.c3 ⟨w',hb⟩⟩
theorem lS.new(w:World)(l:ByteArray)(v o p:Int)(t:TypeId):lS (w.alloc (.cells #[.string l,.int .i64 v,.int .i64 o,.int .i64 p] t)) w.heap.size l v o p:=by
 have hh:=heap_alloc_new w (.cells #[.string l,.int .i64 v,.int .i64 o,.int .i64 p] t)
 constructor<;>(unfold World.cell?;rw[hh];rfl)
theorem lg(n:Int)(w:World):Calls Tryz.prog 134 #[.int .i64 n] w fun e w'=>e = .returned (.bool (aP n))/\w'=w:=by
 go_enter Tryz.func134,Tryz.ntmps134
 go_wp2_with (go_at_call 51;refine(bg _ _ _ _).mono ?_;rintro e w1 ⟨rfl,rfl⟩)
 go_ret
 exact⟨aU (by unfold aP inB;simp),rfl⟩
theorem cZ(i:Int):(i != i)=false:=by simp
theorem Ve(s t:ByteArray)(v o p:Int)(w:World):(binOp .neq 46 (bP s v o p) (bP t v o p)).run Tryz.prog w = .ok (.bool (!(s.toList==t.toList))) w:=by
 unfold bP
 simp[go_sem]
 by_cases h:s.toList=t.toList
 ·rw[if_pos h];simp[h]
 ·rw[if_neg h];simp[h]
theorem blk4{w:World}{b:Nat}{x y z u:Value}{t:TypeId}(h:w.heap[b]? = some (.cells #[x,y,z,u] t (0,0))):w.cell? ⟨b,0,none⟩=some x/\w.cell? ⟨b,1,none⟩=some y/\w.cell? ⟨b,2,none⟩=some z/\w.cell? ⟨b,3,none⟩=some u/\w.frozen? ⟨b,0,none⟩=false/\w.frozen? ⟨b,1,none⟩=false/\w.frozen? ⟨b,2,none⟩=false/\w.frozen? ⟨b,3,none⟩=false:=by
 simp[World.cell?,World.frozen?,h]
theorem heap_alloc_old'(w:World)(o x:Obj){g:Nat}(h:w.heap[g]? = some x):(w.alloc o).heap[g]? = some x:=by
 have hlt:g<w.heap.size:=(Array.getElem?_eq_some_iff.1 h).1
 rw[(aj o).block g hlt,h]
theorem bQ(w:World)(o o':Obj):((w.alloc o).alloc o').heap[w.heap.size+1]? = some o':=by
 have:=heap_alloc_new (w.alloc o) o'
 simpa using this
theorem Xi(x:Int)(s:ByteArray)(w:World):(Instr.field 216 (.agg #[.int .i64 x,.string s]) 1).run Tryz.prog w = .ok (.string s) w:=by kernel_rfl
theorem Du(l:ByteArray)(v o p:Int)(w:World)(hs:l.size<=1048576):
  Calls Tryz.prog 119 #[bP l v o p] w fun e w'=>e = .returned (bP (nU l) v o p)/\Below w.heap.size w w':=by
 have hI:=fun w=>oW l w hs
 unfold bP
 generalize nU l=t at *
 generalize aV l=c at *
 go_enter Tryz.func119,Tryz.ntmps119
 go_wp2_with fail
 refine(hI _).mono ?_
 rintro e w1 ⟨rfl,hb1⟩
 have hB:Below w.heap.size w w1:=ak (ak hb1)
 have k0:=blk4 ((hb1.block w.heap.size (by simp;omega)).trans (heap_alloc_old' _ _ _ (heap_alloc_new w _)))
 have k1:=blk4 ((hb1.block (w.heap.size+1) (by simp)).trans (bQ w _ _))
 go_split_ands
 clear hb1 hI
 have hft:=Xi
 go_wp2
 refine bodyPost_ret (v:=bP t v o p) (by simp[results,Tryz.results119,go_sem,bP, *]) rfl ⟨rfl, ?_⟩
 exact((((hB.setCell (Nat.le_refl _) _).setCell (Nat.le_succ _) _).setCell (Nat.le_succ _) _).setCell (Nat.le_succ _) _).setCell (Nat.le_succ _) _
theorem bZ(l:ByteArray)(v o p:Int)(w:World)(hs:l.size<=1048576):
  Calls Tryz.prog 70 #[bP l v o p] w fun e w'=>e = .returned (.int .i64 (recC l v o p))/\Below w.heap.size w w':=by
 have hL:=fun w=>oI l w hs
 have hA:=Bq (l:=l) (v:=v) (o:=o) (p:=p)
 have hF:=Eb (l:=l) (v:=v) (o:=o) (p:=p)
 have hR:=Bv (l:=l) (v:=v) (o:=o) (p:=p)
 have hK:=Le (l:=l) (v:=v) (o:=o) (p:=p)
 have hW:=fun w=>Du l v o p w hs
 have hft:aV l=0->nU l=dD l:=fun h=>by unfold nU;rw[if_pos h]
 unfold bP
 have h:=lS.new w l v o p 46
 generalize recC l v o p=rc at *
 generalize aV l=c at *
 by_cases h0:c=0
 ·subst h0
  rw[hft rfl]at hW
  have HF:Hid (fM l=false->rc=1):=hF rfl
  have HR:Hid (fM l=true->jL v o p=false->rc=3):=hR rfl
  have HK:Hid (fM l=true->jL v o p=true->rc=0):=hK rfl
  have hne2:=Ve (dD l) l v o p
  have ER:Hid (((dD l).toList==l.toList)=fM l):=rfl
  rw[ER.out]at hne2
  clear hF hR hK hA hft
  go_enter Tryz.func70,Tryz.ntmps70
  go_wp2_with fail
  refine(hL _).mono ?_
  rintro e w1 ⟨rfl,hb1⟩
  have h1:=h.below hb1
  have hB1:=ak hb1
  clear h hL hb1
  have hq0:=After.cell h1.c0
  have hq1:=After.cell h1.c1
  have hq2:=After.cell h1.c2
  have hq3:=After.cell h1.c3
  have hne:=After.ne w1
  rcases Bool.eq_false_or_eq_true (fM l)with hf | hf
  ·rw[hf]at hne2
   unfold bP at hne2 hW
   go_wp2_with fail
   refine au (by kernel_rfl) (by kernel_rfl) ?_
   repeat(first | go_big_quiet_skip |(go_big_quiet_want;go_big_quiet_op;first | go_big_quiet_on | go_big_quiet_call (first |(go_at_call 119;refine(hW _).mono ?_;rintro e wq ⟨rfl,hbq⟩;exact⟨rfl,aA (ah (After.b _) hbq)⟩))))
   refine wpQuiet_nil ?_
   rintro _ ⟨n6,rfl⟩
   have hb6:=n6.b
   have h6:=h1.below hb6
   have iT:=ah hB1 hb6
   generalize n6.w=w6 at *
   clear h1 hq0 hq1 hq2 hq3 hne n6 hne2 ER hW
   have hc1:=h6.c1
   have hc2:=h6.c2
   have hc3:=h6.c3
   by_cases hv1:v<1
   ·go_wp2_with (first |(go_at_call 120;refine(fO _ _).mono ?_;rintro e wq ⟨rfl,rfl⟩))
    go_ret
    exact⟨aC (HR.out hf (by simp[jL,inB];omega)).symm,iT⟩
   ·by_cases hv2:999<v
    ·go_wp2_with (first |(go_at_call 120;refine(fO _ _).mono ?_;rintro e wq ⟨rfl,rfl⟩))
     go_ret
     exact⟨aC (HR.out hf (by simp[jL,inB];omega)).symm,iT⟩
    ·have hv:inB v 1 999=true:=iJ (by omega) (by omega)
     have Hv:Hid (inB v 1 999=true):=hv
     clear hv
     rcases Bool.eq_false_or_eq_true (aP o)with ho | ho
     ·rcases Bool.eq_false_or_eq_true (aP p)with hp | hp
      ·go_wp2_with (first |(go_at_call 120;refine(fO _ _).mono ?_;rintro e wq ⟨rfl,rfl⟩))
       go_ret
       exact⟨aC (HK.out hf (by simp[jL,Hv.out,ho,hp])).symm,iT⟩
      ·go_wp2_with (first |(go_at_call 120;refine(fO _ _).mono ?_;rintro e wq ⟨rfl,rfl⟩))
       go_ret
       exact⟨aC (HR.out hf (by simp[jL,ho,hp])).symm,iT⟩
     ·go_wp2_with (first |(go_at_call 120;refine(fO _ _).mono ?_;rintro e wq ⟨rfl,rfl⟩))
      go_ret
      exact⟨aC (HR.out hf (by simp[jL,ho])).symm,iT⟩
  ·rw[hf]at hne2
   unfold bP at hne2 hW
   go_wp2_with fail
   refine au (by kernel_rfl) (by kernel_rfl) ?_
   repeat(first | go_big_quiet_skip |(go_big_quiet_want;go_big_quiet_op;first | go_big_quiet_on | go_big_quiet_call (first |(go_at_call 119;refine(hW _).mono ?_;rintro e wq ⟨rfl,hbq⟩;exact⟨rfl,aA (ah (After.b _) hbq)⟩))))
   refine wpQuiet_nil ?_
   rintro _ ⟨n6,rfl⟩
   have hb6:=n6.b
   have iT:=ah hB1 hb6
   generalize n6.w=w6 at *
   clear h1 hq0 hq1 hq2 hq3 hne n6 hne2 ER hW
   go_wp2
   go_ret
   exact⟨aC (HF.out hf).symm,iT⟩
 ·have h1:(c != 0)=true:=by simpa using h0
  have HA:Hid (rc=c):=hA h0
  clear hA hF hR hK h0 hft hW h
  go_enter Tryz.func70,Tryz.ntmps70
  go_wp2_with fail
  refine(hL _).mono ?_
  rintro e w1 ⟨rfl,hb1⟩
  go_wp2
  go_ret
  exact⟨aC HA.out.symm,ak hb1⟩
theorem Jq(n:Int)(w:World):Calls Tryz.prog 177 #[.int .i64 n] w fun e w'=>e = .returned (.bool (inB n 1 10))/\w'=w:=by
 by_cases h1:1<=n
 ·by_cases h2:n<=10
  ·rw[iJ h1 h2]
   go_enter Tryz.func177,Tryz.ntmps177
   go_wp2
   go_ret
   exact⟨aU (by simp),rfl⟩
  ·rw[nV (Or.inr (by omega))]
   go_enter Tryz.func177,Tryz.ntmps177
   go_wp2
   go_ret
   exact⟨aU (by simp<;>omega),rfl⟩
 ·rw[nV (Or.inl (by omega))]
  go_enter Tryz.func177,Tryz.ntmps177
  go_wp2
  go_ret
  exact⟨aU (by simp<;>omega),rfl⟩
theorem eu(n:Int)(w:World):Calls Tryz.prog 62 #[.int .i64 n] w fun e w'=>e = .returned (.bool (inB n 1 5))/\w'=w:=by
 by_cases h1:1<=n
 ·by_cases h2:n<=5
  ·rw[iJ h1 h2]
   go_enter Tryz.func62,Tryz.ntmps62
   go_wp2
   go_ret
   exact⟨aU (by simp),rfl⟩
  ·rw[nV (Or.inr (by omega))]
   go_enter Tryz.func62,Tryz.ntmps62
   go_wp2
   go_ret
   exact⟨aU (by simp<;>omega),rfl⟩
 ·rw[nV (Or.inl (by omega))]
  go_enter Tryz.func62,Tryz.ntmps62
  go_wp2
  go_ret
  exact⟨aU (by simp<;>omega),rfl⟩
theorem MC(p:Int)(w:World):Calls Tryz.prog 181 #[.int .i64 p] w fun e w'=>e = .returned (.bool (sS p))/\w'=w:=by
 go_enter Tryz.func181,Tryz.ntmps181
 go_wp2
 go_ret
 exact⟨rfl,rfl⟩
theorem MB(p:Int)(w:World):Calls Tryz.prog 182 #[.int .i64 p] w fun e w'=>e = .returned (.bool (oN p))/\w'=w:=by
 by_cases h:p=3
 ·subst h
  go_enter Tryz.func182,Tryz.ntmps182
  go_wp2
  go_ret
  exact⟨rfl,rfl⟩
 ·have h1:(p==3)=false:=by simpa using h
  go_enter Tryz.func182,Tryz.ntmps182
  go_wp2
  go_ret
  exact⟨aU (by simp[oN,h1]),rfl⟩
theorem uG(p:Int)(w:World):Calls Tryz.prog 144 #[.int .i64 p] w fun e w'=>e = .returned (.bool (sS p))/\w'=w:=by
 go_enter Tryz.func144,Tryz.ntmps144
 go_wp2
 go_ret
 exact⟨rfl,rfl⟩
theorem uF(p:Int)(w:World):Calls Tryz.prog 146 #[.int .i64 p] w fun e w'=>e = .returned (.bool (oN p))/\w'=w:=by
 by_cases h:p=3
 ·subst h
  go_enter Tryz.func146,Tryz.ntmps146
  go_wp2
  go_ret
  exact⟨rfl,rfl⟩
 ·have h1:(p==3)=false:=by simpa using h
  go_enter Tryz.func146,Tryz.ntmps146
  go_wp2
  go_ret
  exact⟨aU (by simp[oN,h1]),rfl⟩
def mM(p o:Int):Int:=if sS p=true then o else 0
def mJ(p n:Int):Int:=if oN p=true then n else 0
def trV(o n:Int):Value:= .agg #[.int .i64 o,.int .i64 n]
theorem AZ(o n p:Int)(w:World):Calls Tryz.prog 155 #[trV o n,.int .i64 p] w fun e w'=>e = .returned (trV (mM p o) (mJ p n))/\Below w.heap.size w w':=by
 have hO:=fun w=>MC p w
 have hN:=fun w=>MB p w
 unfold mM mJ trV
 rcases Bool.eq_false_or_eq_true (sS p)with ho | ho<;>rcases Bool.eq_false_or_eq_true (oN p)with hn | hn
 all_goals (
  rw[ho]at hO ⊢
  rw[hn]at hN ⊢
  simp only[if_true,if_false,Bool.false_eq_true]
  clear ho hn
  go_enter Tryz.func155,Tryz.ntmps155
  go_wp2_with fail
  refine(hO _).mono ?_
  rintro e w1 ⟨rfl,rfl⟩
  go_wp2_with fail
  refine(hN _).mono ?_
  rintro e w1 ⟨rfl,rfl⟩
  go_wp2
  refine bodyPost_ret (v:= .agg #[.int .i64 _,.int .i64 _]) (by simp[results,Tryz.results155,go_sem]) rfl ⟨rfl, ?_⟩
  exact aN _ _)
theorem Jk(o n:Int)(w:World):Calls Tryz.prog 178 #[trV o n] w fun e w'=>e = .returned (.bool (aP o&&aP n))/\Below w.heap.size w w':=by
 have hO:=fun w=>fO o w
 have hN:=fun w=>fO n w
 unfold trV
 rcases Bool.eq_false_or_eq_true (aP o)with ho | ho
 ·rw[ho]at hO ⊢
  go_enter Tryz.func178,Tryz.ntmps178
  go_wp2_with fail
  refine(hO _).mono ?_
  rintro e w1 ⟨rfl,rfl⟩
  go_wp2_with fail
  refine(hN _).mono ?_
  rintro e w1 ⟨rfl,rfl⟩
  go_wp2
  go_ret
  exact⟨aU (by simp),aj _⟩
 ·rw[ho]at hO ⊢
  go_enter Tryz.func178,Tryz.ntmps178
  go_wp2_with fail
  refine(hO _).mono ?_
  rintro e w1 ⟨rfl,rfl⟩
  go_wp2
  go_ret
  exact⟨aU (by simp),aj _⟩
theorem IJ(e p o n v:Int)(w:World):Calls Tryz.prog 176 #[hdV e p o n v] w fun x w'=>x = .returned (hdV e p o n v)/\Below w.heap.size w w':=by
 unfold hdV
 go_enter Tryz.func176,Tryz.ntmps176
 go_wp2
 refine bodyPost_ret (v:= .agg #[.int .i64 e,.int .i64 p,.int .i64 o,.int .i64 n,.int .i64 v]) (by simp[results,Tryz.results176,go_sem]) rfl ⟨rfl, ?_⟩
 exact aN _ _
theorem zy(e p o n v:Int)(w:World):Calls Tryz.prog 153 #[hdV e p o n v] w fun x w'=>x = .returned (hdV e p o n v)/\Below w.heap.size w w':=by
 unfold hdV
 go_enter Tryz.func153,Tryz.ntmps153
 go_wp2
 refine bodyPost_ret (v:= .agg #[.int .i64 e,.int .i64 p,.int .i64 o,.int .i64 n,.int .i64 v]) (by simp[results,Tryz.results153,go_sem]) rfl ⟨rfl, ?_⟩
 exact aN _ _
theorem Dc(e p v:Int)(w:World):Calls Tryz.prog 196 #[.int .i64 e,.int .i64 p,.int .i64 v] w fun x w'=>x = .returned (.bool (hdN e p v))/\w'=w:=by
 rcases Bool.eq_false_or_eq_true (inB e 1 10)with he | he<;>rcases Bool.eq_false_or_eq_true (inB p 1 5)with hp | hp
 all_goals (
  go_enter Tryz.func196,Tryz.ntmps196
  go_wp2_with (first |(go_at_call 51;refine(bg _ _ _ _).mono ?_;rintro e wq ⟨rfl,rfl⟩) |(go_at_call 134;refine(lg _ _).mono ?_;rintro e wq ⟨rfl,rfl⟩))
  go_ret
  exact⟨aU (by simp[hdN,he,hp]),rfl⟩)
theorem Xd(a b c d:Int)(w:World):(binOp .neq 201 (trV a b) (trV c d)).run Tryz.prog w = .ok (.bool (!(a==c&&b==d))) w:=by
 unfold trV
 simp[go_sem]
 by_cases h1:a=c<;>by_cases h2:b=d<;>simp[h1,h2]
theorem GI(b off:Nat)(e p o n v:Int)(w:World)(h:HdS w b off ⟨e,p,o,n,v⟩):
  Calls Tryz.prog 171 #[.pointer (some ⟨b,off,none⟩)] w fun x w'=>x = .returned (.int .i64 (hdC e p o n v))/\Below w.heap.size w w':=by
 obtain⟨c0,c1,c2,c3,c4⟩:=h
 have hq0:=After.cell c0
 have hq1:=After.cell c1
 have hq2:=After.cell c2
 have hq3:=After.cell c3
 have hq4:=After.cell c4
 dsimp only at c0 c1 c2 c3 c4 hq0 hq1 hq2 hq3 hq4
 have hne:=After.ne w
 have hN:=fun w=>Dc e p v w
 have hO:=fun w=>lg o w
 have hW:=fun w=>lg n w
 have HR:Hid (hdN e p v=false∨aP o=false∨aP n=false->hdC e p o n v=3):=fun h=>DW (by unfold hdR;rcases h with h | h | h<;>simp[h])
 have HF:Hid (hdN e p v=true->aP o=true->aP n=true->hdF p o n=false->hdC e p o n v=1):=fun a b c d=>Gi (by unfold hdR;simp[a,b,c]) d
 have HK:Hid (hdN e p v=true->aP o=true->aP n=true->hdF p o n=true->hdC e p o n v=0):=fun a b c d=>Gj (by unfold hdR;simp[a,b,c]) d
 generalize hdC e p o n v=q at *
 rcases Bool.eq_false_or_eq_true (hdN e p v)with h1 | h1
 ·rcases Bool.eq_false_or_eq_true (aP o)with h2 | h2
  ·rcases Bool.eq_false_or_eq_true (aP n)with h3 | h3
   ·have HF2:Hid (hdF p o n=false->q=1):=HF.out h1 h2 h3
    have Xw:Hid (hdF p o n=true->q=0):=HK.out h1 h2 h3
    rw[h1]at hN
    rw[h2]at hO
    rw[h3]at hW
    have Yb:=fun w=>uG p w
    have Ya:=fun w=>uF p w
    clear h1 h2 h3 HR HF HK
    have hzo:(o != 0) = !(o==0):=rfl
    have hzn:(n != 0) = !(n==0):=rfl
    have HD:Hid (hdF p o n=((sS p||o==0)&&(oN p||n==0))):=rfl
    go_enter Tryz.func171,Tryz.ntmps171
    go_wp2_with fail
    refine au (by kernel_rfl) (by kernel_rfl) ?_
    repeat(first | go_big_quiet_skip |(go_big_quiet_want;go_big_quiet_op;first | go_big_quiet_on | go_big_quiet_call (first |(go_at_call 196;refine(hN _).mono ?_;rintro e wq ⟨rfl,hbq⟩;exact⟨rfl,_,hbq⟩) |(go_at_call 134;refine(hO _).mono ?_;rintro e wq ⟨rfl,hbq⟩;exact⟨rfl,_,hbq⟩) |(go_at_call 134;refine(hW _).mono ?_;rintro e wq ⟨rfl,hbq⟩;exact⟨rfl,_,hbq⟩))))
    refine wpQuiet_nil ?_
    rintro _ ⟨n6,rfl⟩
    have hb6:=n6.b
    have k1:=hq1 n6
    have k2:=hq2 n6
    have k3:=hq3 n6
    generalize n6.w=w6 at *
    clear hq0 hq1 hq2 hq3 hq4 hne c0 c1 c2 c3 c4 hN hO hW
    rcases Bool.eq_false_or_eq_true (sS p)with a1 | a1<;>rcases Bool.eq_false_or_eq_true (o==0)with a2 | a2<;>rcases Bool.eq_false_or_eq_true (oN p)with a3 | a3<;>rcases Bool.eq_false_or_eq_true (n==0)with a4 | a4
    all_goals (
     rw[a1]at Yb
     rw[a3]at Ya
     rw[a2]at hzo
     rw[a4]at hzn
     have hd:=HD.out
     rw[a1,a2,a3,a4]at hd
     have HQ:=HF2.out
     have VT:=Xw.out
     rw[hd]at HQ VT
     have HX:Hid (q=_):=(by first | exact HQ rfl | exact VT rfl)
     clear HQ VT hd HF2 Xw HD a1 a2 a3 a4
     go_wp2_with (first |(go_at_call 144;refine(Yb _).mono ?_;rintro e wq ⟨rfl,rfl⟩) |(go_at_call 146;refine(Ya _).mono ?_;rintro e wq ⟨rfl,rfl⟩))
     go_ret
     exact⟨aC HX.out.symm,hb6⟩)
   ·have HX:Hid (q=3):=HR.out (Or.inr (Or.inr h3))
    rw[h1]at hN
    rw[h2]at hO
    rw[h3]at hW
    clear h1 h2 h3
    clear HR HF HK
    go_enter Tryz.func171,Tryz.ntmps171
    go_wp2_with fail
    refine au (by kernel_rfl) (by kernel_rfl) ?_
    repeat(first | go_big_quiet_skip |(go_big_quiet_want;go_big_quiet_op;first | go_big_quiet_on | go_big_quiet_call (first |(go_at_call 196;refine(hN _).mono ?_;rintro e wq ⟨rfl,hbq⟩;exact⟨rfl,_,hbq⟩) |(go_at_call 134;refine(hO _).mono ?_;rintro e wq ⟨rfl,hbq⟩;exact⟨rfl,_,hbq⟩) |(go_at_call 134;refine(hW _).mono ?_;rintro e wq ⟨rfl,hbq⟩;exact⟨rfl,_,hbq⟩))))
    refine wpQuiet_nil ?_
    rintro _ ⟨n6,rfl⟩
    have hb6:=n6.b
    clear hq0 hq1 hq2 hq3 hq4 hne c0 c1 c2 c3 c4 hN hO hW
    go_wp2
    go_ret
    exact⟨aC HX.out.symm,hb6⟩
  ·have HX:Hid (q=3):=HR.out (Or.inr (Or.inl h2))
   rw[h1]at hN
   rw[h2]at hO
   clear h1 h2
   clear HR HF HK
   go_enter Tryz.func171,Tryz.ntmps171
   go_wp2_with fail
   refine au (by kernel_rfl) (by kernel_rfl) ?_
   repeat(first | go_big_quiet_skip |(go_big_quiet_want;go_big_quiet_op;first | go_big_quiet_on | go_big_quiet_call (first |(go_at_call 196;refine(hN _).mono ?_;rintro e wq ⟨rfl,hbq⟩;exact⟨rfl,_,hbq⟩) |(go_at_call 134;refine(hO _).mono ?_;rintro e wq ⟨rfl,hbq⟩;exact⟨rfl,_,hbq⟩) |(go_at_call 134;refine(hW _).mono ?_;rintro e wq ⟨rfl,hbq⟩;exact⟨rfl,_,hbq⟩))))
   refine wpQuiet_nil ?_
   rintro _ ⟨n6,rfl⟩
   have hb6:=n6.b
   clear hq0 hq1 hq2 hq3 hq4 hne c0 c1 c2 c3 c4 hN hO hW
   go_wp2
   go_ret
   exact⟨aC HX.out.symm,hb6⟩
 ·have HX:Hid (q=3):=HR.out (Or.inl h1)
  rw[h1]at hN
  clear h1
  clear HR HF HK
  go_enter Tryz.func171,Tryz.ntmps171
  go_wp2_with fail
  refine au (by kernel_rfl) (by kernel_rfl) ?_
  repeat(first | go_big_quiet_skip |(go_big_quiet_want;go_big_quiet_op;first | go_big_quiet_on | go_big_quiet_call (first |(go_at_call 196;refine(hN _).mono ?_;rintro e wq ⟨rfl,hbq⟩;exact⟨rfl,_,hbq⟩) |(go_at_call 134;refine(hO _).mono ?_;rintro e wq ⟨rfl,hbq⟩;exact⟨rfl,_,hbq⟩) |(go_at_call 134;refine(hW _).mono ?_;rintro e wq ⟨rfl,hbq⟩;exact⟨rfl,_,hbq⟩))))
  refine wpQuiet_nil ?_
  rintro _ ⟨n6,rfl⟩
  have hb6:=n6.b
  clear hq0 hq1 hq2 hq3 hq4 hne c0 c1 c2 c3 c4 hN hO hW
  go_wp2
  go_ret
  exact⟨aC HX.out.symm,hb6⟩
theorem fD{w:World}{b:Nat}{x0 x1 x2 x3 x4:Value}{t:TypeId}(h:w.heap[b]? = some (.cells #[x0,x1,x2,x3,x4] t (0,0))):w.cell? ⟨b,0,none⟩=some x0/\w.cell? ⟨b,1,none⟩=some x1/\w.cell? ⟨b,2,none⟩=some x2/\w.cell? ⟨b,3,none⟩=some x3/\w.cell? ⟨b,4,none⟩=some x4:=by
 simp[World.cell?,h]
theorem RU(p o n:Int):((mM p o==o)&&(mJ p n==n))=hdF p o n:=by
 unfold mM mJ hdF
 rcases Bool.eq_false_or_eq_true (sS p)with h1 | h1<;>rcases Bool.eq_false_or_eq_true (oN p)with h2 | h2<;>simp[h1,h2]<;>(rw[Bool.eq_iff_iff];simp)<;>omega
theorem iU(e p o n v:Int)(w:World):
  Calls Tryz.prog 151 #[hdV e p o n v] w fun x w'=>x = .returned (.int .i64 (hdC e p o n v))/\Below w.heap.size w w':=by
 have Yg:=fun w=>IJ e p o n v w
 have hE:=fun w=>Jq e w
 have hP:=fun w=>eu p w
 have hS:=fun w=>Jk o n w
 have hV:=fun w=>fO v w
 have hK:=fun w=>AZ o n p w
 have hne2:=Xd (mM p o) (mJ p n) o n
 rw[RU]at hne2
 have HR:Hid (inB e 1 10=false∨inB p 1 5=false∨(aP o&&aP n)=false∨aP v=false->hdC e p o n v=3):=fun h=>DW (by unfold hdR hdN;rcases h with h | h | h | h<;>simp[h])
 have HF:Hid (inB e 1 10=true->inB p 1 5=true->(aP o&&aP n)=true->aP v=true->hdF p o n=false->hdC e p o n v=1):=fun a b c d f=>Gi (by unfold hdR hdN;simp[a,b,c,d]) f
 have HK:Hid (inB e 1 10=true->inB p 1 5=true->(aP o&&aP n)=true->aP v=true->hdF p o n=true->hdC e p o n v=0):=fun a b c d f=>Gj (by unfold hdR hdN;simp[a,b,c,d]) f
 generalize hdC e p o n v=q at *
 generalize (aP o&&aP n)=s at *
 generalize mM p o=ko at *
 generalize mJ p n=kn at *
 have H0:=heap_alloc_new w (.cells #[.int .i64 e,.int .i64 p,.int .i64 o,.int .i64 n,.int .i64 v] 114)
 unfold hdV trV at *
 go_enter Tryz.func151,Tryz.ntmps151
 go_wp2_with fail
 refine(Yg _).mono ?_
 rintro x w1 ⟨rfl,hb1⟩
 have B1:=(hb1.block w.heap.size (by simp)).trans H0
 have hlt:w.heap.size<w1.heap.size:=(Array.getElem?_eq_some_iff.1 B1).1
 obtain⟨W2,hW2⟩:∃W2,W2=w1.alloc (.cells #[.int .i64 e,.int .i64 p,.int .i64 o,.int .i64 n,.int .i64 v] 203):=⟨_,rfl⟩
 have HW2:Hid _:=hW2.symm
 have B2:W2.heap[w.heap.size]? = some (.cells #[.int .i64 e,.int .i64 p,.int .i64 o,.int .i64 n,.int .i64 v] 114):=by rw[hW2];exact((aj _).block w.heap.size hlt).trans B1
 have A2:W2.heap[w1.heap.size]? = some (.cells #[.int .i64 e,.int .i64 p,.int .i64 o,.int .i64 n,.int .i64 v] 203):=by rw[hW2];exact heap_alloc_new w1 _
 have HB2:Hid (Below w.heap.size w W2):=by rw[hW2];exact ah (ak hb1) (aj _)
 obtain⟨j0,j1,j2,j3,j4⟩:=fD B1
 clear hb1 H0 Yg hW2
 go_wp2_with fail
 rw[HW2.out]
 clear j0 j1 j2 j3 j4 B1
 obtain⟨c0,c1,c2,c3,c4⟩:=fD B2
 obtain⟨d0,d1,d2,d3,d4⟩:=fD A2
 rcases Bool.eq_false_or_eq_true (inB e 1 10)with h1 | h1
 ·rcases Bool.eq_false_or_eq_true (inB p 1 5)with h2 | h2
  ·rcases Bool.eq_false_or_eq_true s with h3 | h3
   ·subst h3
    rw[h1]at hE
    rw[h2]at hP
    refine(hE _).mono ?_
    rintro x w5 ⟨rfl,rfl⟩
    go_wp2_with fail
    refine(hP _).mono ?_
    rintro x w5 ⟨rfl,rfl⟩
    go_wp2_with fail
    refine(hS _).mono ?_
    rintro x w3 ⟨rfl,hb3⟩
    have HB3:Hid (Below w.heap.size w w3):=ah HB2.out hb3
    have B3:=(hb3.block w.heap.size (Array.getElem?_eq_some_iff.1 B2).1).trans B2
    have A3:=(hb3.block w1.heap.size (Array.getElem?_eq_some_iff.1 A2).1).trans A2
    clear c0 c1 c2 c3 c4 d0 d1 d2 d3 d4 A2 B2 hb3 hE hP hS
    obtain⟨c0,c1,c2,c3,c4⟩:=fD B3
    obtain⟨d0,d1,d2,d3,d4⟩:=fD A3
    have q1:=After.cell c1
    have r2:=After.cell d2
    have r3:=After.cell d3
    have hne:=After.ne w3
    rcases Bool.eq_false_or_eq_true (aP v)with h4 | h4
    ·rw[h4]at hV
     rcases Bool.eq_false_or_eq_true (hdF p o n)with h5 | h5
     ·have HX:Hid (q=0):=HK.out h1 h2 (by first | rfl | trivial) h4 h5
      rw[h5]at hne2
      clear HK HF HR h1 h2 h4 h5
      go_wp2_with fail
      refine(hV _).mono ?_
      rintro x w5 ⟨rfl,rfl⟩
      go_wp2_with fail
      refine au (by kernel_rfl) (by kernel_rfl) ?_
      repeat(first | go_big_quiet_skip |(go_big_quiet_want;go_big_quiet_op;first | go_big_quiet_on | go_big_quiet_call (first |(go_at_call 155;refine(hK _).mono ?_;rintro e wq ⟨rfl,hbq⟩;exact⟨rfl,aA (ah (After.b _) hbq)⟩))))
      refine wpQuiet_nil ?_
      rintro _ ⟨n6,rfl⟩
      have hb6:=ah HB3.out n6.b
      clear q1 r2 r3 hne hK hne2
      go_wp2
      go_ret
      exact⟨aC HX.out.symm,hb6⟩
     ·have HX:Hid (q=1):=HF.out h1 h2 (by first | rfl | trivial) h4 h5
      rw[h5]at hne2
      clear HK HF HR h1 h2 h4 h5
      go_wp2_with fail
      refine(hV _).mono ?_
      rintro x w5 ⟨rfl,rfl⟩
      go_wp2_with fail
      refine au (by kernel_rfl) (by kernel_rfl) ?_
      repeat(first | go_big_quiet_skip |(go_big_quiet_want;go_big_quiet_op;first | go_big_quiet_on | go_big_quiet_call (first |(go_at_call 155;refine(hK _).mono ?_;rintro e wq ⟨rfl,hbq⟩;exact⟨rfl,aA (ah (After.b _) hbq)⟩))))
      refine wpQuiet_nil ?_
      rintro _ ⟨n6,rfl⟩
      have hb6:=ah HB3.out n6.b
      clear q1 r2 r3 hne hK hne2
      go_wp2
      go_ret
      exact⟨aC HX.out.symm,hb6⟩
    ·have HX:Hid (q=3):=HR.out (Or.inr (Or.inr (Or.inr h4)))
     rw[h4]at hV
     clear HK HF HR h1 h2 h4
     go_wp2_with fail
     refine(hV _).mono ?_
     rintro x w5 ⟨rfl,rfl⟩
     go_wp2
     go_ret
     exact⟨aC HX.out.symm,HB3.out⟩
   ·subst h3
    have HX:Hid (q=3):=HR.out (Or.inr (Or.inr (Or.inl rfl)))
    rw[h1]at hE
    rw[h2]at hP
    clear HK HF HR h1 h2
    refine(hE _).mono ?_
    rintro x w5 ⟨rfl,rfl⟩
    go_wp2_with fail
    refine(hP _).mono ?_
    rintro x w5 ⟨rfl,rfl⟩
    go_wp2_with fail
    refine(hS _).mono ?_
    rintro x w3 ⟨rfl,hb3⟩
    have HB3:Hid (Below w.heap.size w w3):=ah HB2.out hb3
    clear hb3
    go_wp2
    go_ret
    exact⟨aC HX.out.symm,HB3.out⟩
  ·have HX:Hid (q=3):=HR.out (Or.inr (Or.inl h2))
   rw[h1]at hE
   rw[h2]at hP
   clear HK HF HR h1 h2
   refine(hE _).mono ?_
   rintro x w5 ⟨rfl,rfl⟩
   go_wp2_with fail
   refine(hP _).mono ?_
   rintro x w5 ⟨rfl,rfl⟩
   go_wp2
   go_ret
   exact⟨aC HX.out.symm,HB2.out⟩
 ·have HX:Hid (q=3):=HR.out (Or.inl h1)
  rw[h1]at hE
  clear HK HF HR h1
  refine(hE _).mono ?_
  rintro x w5 ⟨rfl,rfl⟩
  go_wp2
  go_ret
  exact⟨aC HX.out.symm,HB2.out⟩
def Pair(w:World)(b:Nat)(x y:Value):Prop:=b<w.heap.size/\w.cell? ⟨b,0,none⟩=some x/\w.cell? ⟨b,1,none⟩=some y
theorem Pair.below{w w':World}{b:Nat}{x y:Value}(h:Pair w b x y)(hb:Below w.heap.size w w'):Pair w' b x y:=
 ⟨Nat.lt_of_lt_of_le h.1 hb.size,(hb.cell (p:=⟨b,0,none⟩) h.1).trans h.2.1,(hb.cell (p:=⟨b,1,none⟩) h.1).trans h.2.2⟩
theorem Pair.grown{w w':World}{b:Nat}{x y:Value}{row:Option Nat}(h:Pair w b x y)(hg:w.grownBy w' row)(hne:some b≠row):Pair w' b x y:=
 ⟨Nat.lt_of_lt_of_le h.1 hg.size,hg.cell h.2.1 hne,hg.cell h.2.2 hne⟩
theorem Pair.new(w:World)(x y:Value)(t:TypeId):Pair (w.alloc (.cells #[x,y] t)) w.heap.size x y:=
 have h:=aG (heap_alloc_new w (.cells #[x,y] t))
 ⟨by simp,h.1,h.2.1⟩
theorem Ints.grown{k:IntKind}{w w':World}{v:Value}{xs:List Int}{row:Option Nat}(h:Ints k w v xs)(hg:w.grownBy w' row)(hne:v.ownBlock=none∨v.ownBlock≠row):Ints k w' v xs:=by
 rcases h with h |⟨b,off,c,rfl,hlt,hc⟩
 ·exact Or.inl h
 ·refine Or.inr ⟨b,off,c,rfl,Nat.lt_of_lt_of_le hlt hg.size,fun j hj=>hg.cell (hc j hj) ?_⟩
  rcases hne with hne | hne
  ·simp[Value.ownBlock]at hne
  ·exact hne
theorem lS.grown{w w':World}{g:Nat}{l:ByteArray}{v o p:Int}{row:Option Nat}(h:lS w g l v o p)(hg:w.grownBy w' row)(hne:some g≠row):lS w' g l v o p:=
 ⟨hg.cell h.c0 hne,hg.cell h.c1 hne,hg.cell h.c2 hne,hg.cell h.c3 hne⟩
theorem zO(w:World)(x y:Int):(w.alloc (.cells #[.int .u8 x,.int .u8 y] 5)).ownsRow w.heap.size 5 1 (.slice (some ⟨w.heap.size,0,none⟩) 2 2) 2 [.int .u8 x,.int .u8 y]:=by
 have:=World.ownsRow_lit (base:=w.heap.size) (e:=5) (size:=1) w #[.int .u8 x,.int .u8 y] 2 (by simp) (by decide) rfl
 simpa using this
theorem IL{w:World}{g:Nat}{s:ByteArray}(h:∀j,j<s.size->w.cell? ⟨g,j,none⟩=some (.int .u8 (bt s j))):∀j u,((bl s).map (Value.int .u8))[j]? = some u->w.cell? ((⟨g,0,none⟩:Addr).add j)=some u:=
 Q9 (fun j hj=>by rw[ou]at hj;rw[Nat.zero_add,h j hj,TW s hj])
def SV(s:ByteArray)(cap:Nat)(e:TypeId):Obj:= .cells (bytesRow s cap) e ((bytesRow s cap).size,(bytesRow s cap).size+1)
theorem Qz(s:ByteArray)(cap:Nat):s.size<=(bytesRow s cap).size:=by simp[bytesRow]
theorem rowA(w:World)(o:Obj)(s:ByteArray)(cap:Nat)(e:TypeId):∀j,j<s.size->((w.alloc o).alloc (SV s cap e)).drew.drew.cell? ⟨w.heap.size+1,j,none⟩=some (.int .u8 (bt s j)):=fun j hj=>by
 have:=(qL (w.alloc o) e s cap ((bytesRow s cap).size,(bytesRow s cap).size+1) (Qz s cap) j hj).1
 rw[World.size_alloc]at this
 exact this
theorem rowB(w:World)(o:Obj)(s:ByteArray)(cap:Nat)(e:TypeId):∀j,j<s.size->((w.alloc (SV s cap e)).alloc o).drew.drew.cell? ⟨w.heap.size,j,none⟩=some (.int .u8 (bt s j)):=fun j hj=>by
 have h:=(qL w e s cap ((bytesRow s cap).size,(bytesRow s cap).size+1) (Qz s cap) j hj).1
 have h2:=(aj (w:=w.alloc (SV s cap e)) o).cell (p:=⟨w.heap.size,j,none⟩) (by simp)
 exact h2.trans h
theorem ownB(w:World)(o:Obj)(x y:Int):((w.alloc o).alloc (.cells #[.int .u8 x,.int .u8 y] 5)).drew.drew.ownsRow w.heap.size 5 1 (.slice (some ⟨w.heap.size+1,0,none⟩) 2 2) 2 [.int .u8 x,.int .u8 y]:=by
 have:=aF (zO (w.alloc o) x y) (B:=w.heap.size) (by simp)
 simpa using this.drew.drew
theorem SK{w:World}{B n:Nat}{e:TypeId}{v:Value}{xs:List Value}(h:w.ownsRow B e 1 v n xs)(h0:0<n):
  ∃g cap,v = .slice (some ⟨g,0,none⟩) n cap/\n<=cap/\cap<=maxLen/\B<=g/\g<w.heap.size/\∀j,j<n->w.cell? ⟨g,j,none⟩=xs[j]?:=by
 rcases h.2 with⟨-,hn⟩ |⟨g,cap,cur,rfl,hB,hg,hc,hm,_⟩
 ·omega
 ·exact⟨g,cap,rfl,hc,hm,hB,(Array.getElem?_eq_some_iff.1 hg).1,fun j hj=>h.cellAt j (by omega)⟩
theorem wS(w:World)(x y z:Int)(t:TypeId):Ints .i64 (w.alloc (.cells #[.int .i64 x,.int .i64 y,.int .i64 z] t)) (.slice (some ⟨w.heap.size,0,none⟩) 3 3) [x,y,z]:=by
 refine Or.inr ⟨w.heap.size,0,3,rfl,by simp,fun j hj=> ?_⟩
 have hh:=heap_alloc_new w (.cells #[.int .i64 x,.int .i64 y,.int .i64 z] t)
 simp only[List.length_cons,List.length_nil]at hj
 rcases(show j=0∨j=1∨j=2 by omega)with rfl | rfl | rfl<;>(unfold World.cell?;rw[hh];rfl)
def six(v o p:Int):List Int:=[v/256,v%256,o/256,o%256,p/256,p%256]
theorem RV(x:Value)(v o p:Int)(w:World)(hv:Ints .i64 w x [v,o,p])(hs : [v,o,p].all aP=true):
  Calls Tryz.prog 174 #[.int .i64 0,x] w fun e w'=>∃g c,e = .returned (.slice (some ⟨g,0,none⟩) 7 c)/\7<=c/\w.heap.size<=g/\g<w'.heap.size/\(∀j u,((six v o p).map (Value.int .u8))[j]? = some u->w'.cell? ((⟨g,1,none⟩:Addr).add j)=some u)/\Below w.heap.size w w':=by
 refine(iP 0 x [v,o,p] w hv (by simp) (by omega) hs).mono ?_
 rintro e w' ⟨v',rfl,hown,hb⟩
 have hl:(aZ 0 [v,o,p]).length=7:=by simp[aZ,oP]
 rw[hl]at hown
 obtain⟨g,c,rfl,hc,-,hB,hg,hcell⟩:=SK hown (by omega)
 refine⟨g,c,rfl,hc,hB,hg,fun j u hu=> ?_,hb⟩
 have hj:j<6:=by
  have:=(List.getElem?_eq_some_iff.1 hu).1
  simpa [six]using this
 rw[Addr.add_lit,hcell (1+j) (by omega)]
 have e1:aZ 0 [v,o,p]=0::six v o p:=by simp[aZ,oP,six]
 rw[e1,List.map_cons,Nat.add_comm,acf]
 exact hu
attribute [local go_sem] Go.wp_at_zero Go.wp_at_succ
theorem Qp{w:World}{B:Nat}{e:TypeId}{k:IntKind}{v:Value}{zs:List Int}{b d:Int}(h:w.ownsRow B e 1 v (zs.length+2) (zs.map (Value.int k)++[.int k b,.int k d])):w.ownsRow B e 1 v (zs++[b,d]).length ((zs++[b,d]).map (Value.int k)):=by
 rw[List.map_append,List.length_append];exact h
def LP(w:World)(a:Option Addr)(n c:Nat)(xs:List Int)(u:Value):Prop:=Ints .i64 w (.slice a n c) xs/\∀b off,a=some ⟨b,off,none⟩->0<n->b<w.heap.size/\u.ownBlock≠some b
theorem yh(B:Nat)(v:Value)(a:Option Addr)(n c:Nat)(zs xs:List Int)(w:World)(HN:Hid (n=xs.length))(hx:n<=1000)(hzn:Hid (zs.length<=1000))(hv:Hid (LP w a n c xs v))(hs:Hid (xs.all aP=true))
  (hown:w.ownsRow B 5 1 v zs.length (zs.map (Value.int .u8))) (hB:B<=w.heap.size) :
  Calls Tryz.prog 184 #[v,.slice a n c] w fun e w'=>∃v',e = .returned v'/\w'.ownsRow B 5 1 v' (numsL zs xs).length ((numsL zs xs).map (Value.int .u8))/\Below B w w':=by
 obtain⟨i0,hi,hz0,hz1,hz2⟩:=info_parts Tryz.AU
 go_enter Tryz.func184,Tryz.ntmps184
 go_wp2
 go_loopw [0,9] (fun u i wr=>∃k:Nat,k<=n/\i = .int .i64 k/\Below B w wr/\wr.ownsRow B 5 1 u (je zs xs k).length ((je zs xs k).map (Value.int .u8))/\Hid (LP wr a n c xs u)) (fun _ i _=>n - (intOf i).toNat)
 case atStart=>exact⟨0,Nat.zero_le _,rfl,Below.refl _ _,by rw[JM];exact hown,hv.out⟩
 case round=>
  obtain⟨k,hk,rfl,hb,ho,hst⟩:=hrel
  by_cases hkn:k<n
  ·have hki:(k:Int)<(n:Int):=by omega
   have hkx:k<xs.length:=by have:=HN.out;omega
   obtain⟨-,b,off,rfl,hbl,hc⟩:=hst.out.1.at (by omega)
   have zF:=(hst.out.2 b off rfl (by omega)).2
   have HC:Hid (Ints .i64 wr (.slice (some ⟨b,off,none⟩) n c) xs):=hst.out.1
   have hcj:=hc k hkx
   have hxr:=Fh hs.out hkx
   have hlen:=NM zs (Nat.le_of_lt hkx)
   have hzl:=hzn.out
   have hsc:=JL zs hkx
   obtain⟨x,hxx⟩:∃x,x=xs.getD k 0:=⟨_,rfl⟩
   obtain⟨ys,hys⟩:∃ys,ys=je zs xs k:=⟨_,rfl⟩
   rw[←hxx]at hcj hxr hsc
   rw[←hys]at ho hlen hsc
   have HS:Hid (je zs xs (k+1)=ys++[x/256,x%256]):=hsc
   have hyl:ys.length<=3000:=by omega
   have hw1:=lM (x/256) (by omega) (by omega)
   have hw2:=IntKind.wrap_u8 x
   have V3:Hid (_≠some b):=zF
   clear hxx hys hsc hc hown hst zF hlen hzl
   go_wp2_with (at_builtin;refine wpList_append_lies _ rfl _ _ 192 rfl B 5 i0 (.int .u8 0) 1 1 Tryz.underlying192 hi hz0 hz1 hz2 rfl (by decide) _ _ _ rfl (ho.alloc _) ⟨wr.heap.size,0,none⟩ 2 2 [.int .u8 (x/256),.int .u8 (x%256)] rfl rfl (World.news_of_block (heap_alloc_new _ _)) (ints_oneCell .u8 [x/256,x%256]) (by omega) (by unfold maxLen;omega) (by omega) (by have:=hb.size;simp;omega) (wr.heap.size+1) (by simp) ?_)
   intro g' cap' w2 hown' hgrow hat hlt
   have hb2:Below B w w2:=(hb.alloc (by have:=hb.size;omega) _).grown hgrow (by have:=hb.size;simp;omega) (fun k hk=>(ho.lt k hk).1)
   have dA:=Qp hown'
   have hst2:LP w2 (some ⟨b,off,none⟩) n c xs (.slice (some ⟨g',0,none⟩) (ys.length+2) cap'):=by
    refine⟨(HC.out.below (aj _)).grown hgrow (Or.inr (fun e=>V3.out e.symm)),fun b1 off1 e1 _=> ?_⟩
    cases e1
    refine⟨Nat.lt_of_lt_of_le hbl (Nat.le_trans (by simp) hgrow.size),fun e2=> ?_⟩
    have e3:g'=b:=by simpa [Value.ownBlock]using e2
    rcases hat with h | h
    ·exact V3.out (by rw[h,e3])
    ·omega
   have HST:Hid (LP w2 (some ⟨b,off,none⟩) n c xs (.slice (some ⟨g',0,none⟩) (ys.length+2) cap')):=hst2
   clear hgrow hown' ho hst2 hat hlt
   go_wp2
   go_roundw
   case rel=>exact⟨k+1,by omega,by go_num,hb2,by rw[HS.out];exact dA,HST.out⟩
   case measure=>simp[intOf];omega
  ·have hkn:k=n:=by omega
   subst hkn
   obtain⟨a',c',rfl⟩:=aW ho
   go_wp2
   go_ret
   rw[HN.out,Bj]at ho
   rw[HN.out,Bj]
   exact⟨_,rfl,ho,hb⟩
end U
end Go.Proofs.YtmmcgjacojgeaaaGreat
namespace Go.Proofs.YtmmcgjacojgeaaaGreat
open Go.RowKit
namespace U
theorem jJ{c:Int}(h:¬c=0):(c != 0)=true:=by simpa using h
theorem Ij{w w':World}{v:Value}{n:Nat}{xs:List Value}(h:w'.ownsRow (w.heap.size+2) 5 1 v n xs)(x y:Value):((w'.setCell ⟨w.heap.size+1,0,none⟩ x).setCell ⟨w.heap.size+1,1,none⟩ y).ownsRow w.heap.size 5 1 v n xs:=
 aF (ownsRow_setCell_below (ownsRow_setCell_below h (by simp) _) (by simp) _) (by omega)
theorem wC(l:ByteArray)(v o p:Int)(w:World)(hs:l.size<=1048576):
  Calls Tryz.prog 167 #[bP l v o p] w fun e w'=>pU w (recC l v o p) (pkL l v o p) e w':=by
 obtain⟨i0,hi,hz0,hz1,hz2⟩:=info_parts Tryz.AU
 have R0:=(lS.new w l v o p 46).below (aj (.cells #[.int .i64 0,.slice none 0 0] 208))
 have hF:=fun w=>bZ l v o p w hs
 by_cases h:recC l v o p=0
 ·have hok:=nZ h
  have hsm:=hok.small
  have hws:IntKind.u8.wrap (l.size:Int)=(l.size:Int):=lM _ (by omega) (by omega)
  have HS:Hid ([v,o,p].all aP=true):=hok.sums
  rw[Ui h]
  rw[h]at hF ⊢
  have HY:Hid (numsL (jy l) [v,o,p]=dI l v o p):=NT l v o p
  generalize dI l v o p=ys at *
  unfold bP at *
  go_enter Tryz.func167,Tryz.ntmps167
  go_wp2_with fail
  refine(hF _).mono ?_
  rintro e w1 ⟨rfl,hb1⟩
  have R1:=R0.below hb1
  have hsz1:w.heap.size+2<=w1.heap.size:=by have:=hb1.size;simp at this;omega
  have oQ:=(hb1.block (w.heap.size+1) (by simp)).trans (bQ w _ _)
  have hB1:Below w.heap.size w w1:=ak (ak hb1)
  clear hb1 R0 hF
  have⟨c0,c1,c2,c3⟩:=R1
  have d0:=(R1.below (aj (.cells #[.int .u8 1,.int .u8 (l.size:Int)] 5))).c0
  go_wp2_with (at_builtin;(refine Lib.wpList_append_own_string _ rfl _ _ 192 9 rfl w1.heap.size 5 i0 Tryz.underlying192 Tryz.underlying9 hi hz0 hz1 hz2 (.slice (some ⟨w1.heap.size,0,none⟩) 2 2) 2 [.int .u8 1,.int .u8 (l.size:Int)] (by rfl) (zO w1 1 l.size) l (by rfl) (by unfold maxLen;omega) (by omega) (by simp) ?_))
  intro v2 w2 dA hgrow2 _
  have hb2:Below w1.heap.size w1 w2:=(aj _).grown hgrow2 (by simp) (fun k hk=>by cases hk;exact Nat.le_refl _)
  have R2:=R1.below hb2
  have EO:w2.ownsRow w1.heap.size 5 1 v2 (jy l).length ((jy l).map (Value.int .u8)):=by rw[wo];simpa [jy,bl,Lib.strCells,Function.comp_def]using dA
  clear dA hgrow2 c0 c1 c2 c3 d0
  have⟨c0,c1,c2,c3⟩:=R2
  obtain⟨a2,k2,rfl⟩:=aW EO
  have hlt2:∀k,(Value.slice a2 (jy l).length k2).ownBlock=some k->k<w2.heap.size:=fun k hk=>(EO.lt k hk).2
  have hB2:=ah hB1 hb2
  have Xe:=(hb2.block (w.heap.size+1) (by omega)).trans oQ
  have hsz2:=hb2.size
  clear hb2 R1 oQ
  go_wp2_with fail
  refine(yh w1.heap.size _ _ 3 3 (jy l) [v,o,p] _ rfl (by omega) (show(jy l).length<=1000 by rw[wo];omega) ⟨wS w2 v o p _,fun b off e _=> ?_⟩ HS (own_below EO (aj _)) (by simp;omega)).mono ?_
  ·cases e
   exact⟨by simp,fun e2=>absurd (hlt2 _ e2) (Nat.lt_irrefl _)⟩
  rintro e w3 ⟨v3,rfl,ho3,hb3⟩
  rw[HY.out]at ho3
  obtain⟨a3,k3,rfl⟩:=aW ho3
  have Xf:=(hb3.block (w.heap.size+1) (by omega)).trans ((Below.heap_alloc w2 _ (w.heap.size+1) (by omega)).trans Xe)
  have hB3:Below w.heap.size w w3:=hB2.trans ((aj _).mono (by omega) |>.trans (hb3.mono (by omega)))
  obtain⟨hc0,hc1,hf0,hf1⟩:=aG Xf
  have HO:Hid (w3.ownsRow (w.heap.size+2) 5 1 (.slice a3 ys.length k3) ys.length (ys.map (Value.int .u8))):=aF ho3 (by omega)
  clear ho3 hb3 hB2 Xe Xf R2 EO hlt2
  go_wp2
  exact bodyPost_ret (v:= .agg #[.int .i64 0,.slice a3 ys.length k3]) (by simp[results,Tryz.results167,go_sem,hc0,hc1]) rfl ⟨(hB3.setCell (Nat.le_succ _) _).setCell (Nat.le_succ _) _,_,rfl,Ij HO.out _ _⟩
 ·have h1:=jJ h
  rw[Uh h]
  generalize recC l v o p=c at *
  clear h
  unfold bP at *
  go_enter Tryz.func167,Tryz.ntmps167
  go_wp2_with fail
  refine(hF _).mono ?_
  rintro e w1 ⟨rfl,hb1⟩
  obtain⟨hc0,hc1,hf0,hf1⟩:=aG ((hb1.block (w.heap.size+1) (by simp)).trans (bQ w _ _))
  have hB1:Below w.heap.size w w1:=ak (ak hb1)
  clear hb1 R0 hF
  go_wp2
  exact bodyPost_ret (v:= .agg #[.int .i64 c,.slice none 0 0]) (by simp[results,Tryz.results167,go_sem,hc0,hc1]) rfl ⟨(hB1.setCell (Nat.le_succ _) _).setCell (Nat.le_succ _) _,_,rfl,World.ownsRow_nil _ _ _ _⟩
def rsV(l:ByteArray)(v o p:Int):Int:=if recC l v o p=0 then bn (dI l v o p)else 0
theorem Uj{l:ByteArray}{v o p:Int}(h:recC l v o p=0):rsV l v o p=bn (dI l v o p):=by unfold rsV;rw[if_pos h]
theorem Xq{l:ByteArray}{v o p:Int}(h:¬recC l v o p=0):rsV l v o p=0:=by unfold rsV;rw[if_neg h]
theorem yx(l:ByteArray)(v o p:Int)(w:World)(hs:l.size<=1048576):
  Calls Tryz.prog 128 #[bP l v o p] w fun e w'=>jF w (recC l v o p) (rsV l v o p) e w':=by
 have hF:=fun w=>wC l v o p w hs
 by_cases h:recC l v o p=0
 ·have hok:=nZ h
  rw[Uj h]
  rw[Ui h]at hF
  rw[h]at hF ⊢
  have hbt:=D9 hok
  have hln:(dI l v o p).length<=200:=by rw[xg];have:=hok.small;omega
  have hsm:=um (bs:=dI l v o p) (by omega)
  have F8:=fun (u:Value) (w:World) hI=>iF u (dI l v o p) w hI hbt (by omega)
  rw[hsm.1,hsm.2]at F8
  generalize bn (dI l v o p)=x at *
  generalize dI l v o p=ys at *
  clear hsm hbt
  unfold bP at *
  go_enter Tryz.func128,Tryz.ntmps128
  go_wp2_with fail
  refine(hF _).mono ?_
  intro e w1 h9
  obtain⟨a,c,rfl,hb1,ho1⟩:=h9.use
  have oQ:=(hb1.block (w.heap.size+1) (by simp)).trans (bQ w _ _)
  have hB1:Below w.heap.size w w1:=ak (ak hb1)
  have hsz1:w.heap.size+2<=w1.heap.size:=by have:=hb1.size;simp at this;omega
  have P1:=Pair.new w1 (.int .i64 0) (.slice a ys.length c) 208
  have hI:=(gq ho1).below (aj (.cells #[.int .i64 0,.slice a ys.length c] 208))
  clear hF h9 ho1 hb1
  go_wp2_with fail
  refine(F8 _ _ hI).mono ?_
  rintro e w2 ⟨rfl,hb2⟩
  have hB2:Below w.heap.size w w2:=ah hB1 (ak hb2)
  obtain⟨hc0,hc1,hf0,hf1⟩:=aG (((ak hb2).block (w.heap.size+1) (by omega)).trans oQ)
  clear hb2 hI P1 oQ F8
  go_wp2
  exact bodyPost_ret (v:= .agg #[.int .i64 0,.int .i64 x]) (by simp[results,Tryz.results128,go_sem,hc0,hc1]) rfl ⟨rfl,(hB2.setCell (Nat.le_succ _) _).setCell (Nat.le_succ _) _⟩
 ·have h1:=jJ h
  rw[Xq h]
  rw[Uh h]at hF
  generalize recC l v o p=c at *
  clear h
  unfold bP at *
  go_enter Tryz.func128,Tryz.ntmps128
  go_wp2_with fail
  refine(hF _).mono ?_
  intro e w1 h9
  obtain⟨a,cc,rfl,hb1,ho1⟩:=h9.use
  simp only[List.length_nil]
  have oQ:=(hb1.block (w.heap.size+1) (by simp)).trans (bQ w _ _)
  have hB1:Below w.heap.size w w1:=ak (ak hb1)
  have hsz1:w.heap.size+2<=w1.heap.size:=by have:=hb1.size;simp at this;omega
  have hB2:=ah hB1 (aj (.cells #[.int .i64 c,.slice a 0 cc] 208))
  obtain⟨hc0,hc1,hf0,hf1⟩:=aG (((aj (.cells #[.int .i64 c,.slice a 0 cc] 208)).block (w.heap.size+1) (by omega)).trans oQ)
  clear hF h9 ho1 hb1
  go_wp2
  exact bodyPost_ret (v:= .agg #[.int .i64 c,.int .i64 0]) (by simp[results,Tryz.results128,go_sem,hc0,hc1]) rfl ⟨rfl,(hB2.setCell (Nat.le_succ _) _).setCell (Nat.le_succ _) _⟩
theorem wU(w:World)(x0 x1 x2 x3 x4:Int)(t:TypeId):Ints .i64 (w.alloc (.cells #[.int .i64 x0,.int .i64 x1,.int .i64 x2,.int .i64 x3,.int .i64 x4] t)) (.slice (some ⟨w.heap.size,0,none⟩) 5 5) [x0,x1,x2,x3,x4]:=by
 refine Or.inr ⟨w.heap.size,0,5,rfl,by simp,fun j hj=> ?_⟩
 have hh:=heap_alloc_new w (.cells #[.int .i64 x0,.int .i64 x1,.int .i64 x2,.int .i64 x3,.int .i64 x4] t)
 simp only[List.length_cons,List.length_nil]at hj
 rcases(show j=0∨j=1∨j=2∨j=3∨j=4 by omega)with rfl | rfl | rfl | rfl | rfl<;>(unfold World.cell?;rw[hh];rfl)
theorem Jt(b off:Nat)(e p o n v:Int)(w:World)(h:HdS w b off ⟨e,p,o,n,v⟩)(hok:sF e p o n v):
  Calls Tryz.prog 148 #[.pointer (some ⟨b,off,none⟩)] w fun x w'=>∃v',x = .returned v'/\w'.ownsRow w.heap.size 5 1 v' (hdB e p o n v).length ((hdB e p o n v).map (Value.int .u8))/\Below w.heap.size w w':=by
 obtain⟨c0,c1,c2,c3,c4⟩:=h
 dsimp only at c0 c1 c2 c3 c4
 have HB:Hid (∀(u:Value)(w:World),Ints .i64 w u [e,p,o,n,v]->Calls Tryz.prog 174 #[.int .i64 7,u] w fun x w'=>∃v',x = .returned v'/\w'.ownsRow w.heap.size 5 1 v' (hdB e p o n v).length ((hdB e p o n v).map (Value.int .u8))/\Below w.heap.size w w'):=
  fun u w hu=>iP 7 u [e,p,o,n,v] w hu (by simp) (by omega) hok.sums
 clear hok
 generalize hdB e p o n v=ys at *
 go_enter Tryz.func148,Tryz.ntmps148
 go_wp2
 go_region_held3 (fun w'=>w'.cell? ⟨b,off,none⟩=some (.int .i64 e)/\w'.cell? ⟨b,off+1,none⟩=some (.int .i64 p)/\w'.cell? ⟨b,off+2,none⟩=some (.int .i64 o)/\w'.cell? ⟨b,off+3,none⟩=some (.int .i64 n)/\w'.cell? ⟨b,off+4,none⟩=some (.int .i64 v))
  (first | exact⟨c0,c1,c2,c3,c4⟩|go_keep | exact⟨After.cell c0 ⟨_,hb2'⟩,After.cell c1 ⟨_,hb2'⟩,After.cell c2 ⟨_,hb2'⟩,After.cell c3 ⟨_,hb2'⟩,After.cell c4 ⟨_,hb2'⟩⟩)
  (first |(go_at_call 174;refine(HB.out _ _ ?_).mono ?_;(first | exact wU w e p o n v _ | exact wU w.drew e p o n v _);rintro x w2 ⟨v2,rfl,ho2,hb2⟩;have hb2':Below w.heap.size w w2:=(by first | exact ah (aj _).drew hb2 | exact ah (aj _) hb2);have dA:w2.ownsRow w.heap.size 5 1 v2 ys.length (ys.map (Value.int .u8)):=aF ho2 (by simp);obtain⟨a2,k2,rfl⟩:=aW dA;clear hb2 ho2))
 go_wp2
 go_ret
 exact⟨_,rfl,dA,hb2'⟩
theorem fB{w w':World}{o o':Obj}(hb:Below ((w.alloc o).alloc o').heap.size ((w.alloc o).alloc o') w'):w'.heap[w.heap.size]? = some o/\w'.heap[w.heap.size+1]? = some o':=
 ⟨(hb.block w.heap.size (by simp;omega)).trans (heap_alloc_old' _ _ _ (heap_alloc_new w _)),(hb.block (w.heap.size+1) (by simp)).trans (bQ w _ _)⟩
theorem HdS.of{w:World}{b:Nat}{e p o n v:Int}{t:TypeId}(h:w.heap[b]? = some (.cells #[.int .i64 e,.int .i64 p,.int .i64 o,.int .i64 n,.int .i64 v] t (0,0))):HdS w b 0 ⟨e,p,o,n,v⟩:=by
 obtain⟨h0,h1,h2,h3,h4⟩:=fD h
 exact⟨h0,h1,h2,h3,h4⟩
theorem zJ(e p o n v:Int)(w:World):
  Calls Tryz.prog 156 #[hdV e p o n v] w fun x w'=>pU w (hdC e p o n v) (hdL e p o n v) x w':=by
 have hF:=fun w=>iU e p o n v w
 by_cases h:hdC e p o n v=0
 ·have hok:=vZ h
  rw[Pv h]
  rw[h]at hF ⊢
  have ht:=uq (tag:=7) (xs:=[e,p,o,n,v]) (by decide) (by simp) hok.sums
  have hT:=fun (u:Value) (w:World) hu=>iw 7 u [e,p,o,n,v] w hu (by simp)
  rw[ht.1,ht.2]at hT
  have e1:aZ 7 [e,p,o,n,v]=hdB e p o n v:=rfl
  rw[e1]at hT
  generalize hdB e p o n v=ys at *
  unfold hdV at *
  clear h hok ht e1
  go_enter Tryz.func156,Tryz.ntmps156
  go_wp2_with fail
  refine(hF _).mono ?_
  rintro x w1 ⟨rfl,hb1⟩
  have Q1:=fB hb1
  have hsz1:w.heap.size+2<=w1.heap.size:=by have:=hb1.size;simp at this;omega
  have hB1:Below w.heap.size w w1:=ak (ak hb1)
  obtain⟨c0,c1,c2,c3,c4⟩:=fD Q1.1
  have Q2:=Q1.2
  clear hb1 hF Q1
  go_wp2_with fail
  refine(hT _ _ (wU w1 e p o n v _)).mono ?_
  intro x w2 h2
  obtain⟨a',c',rfl,hb2,ho2⟩:=h2.use
  have hb2':=ak hb2
  obtain⟨hc0,hc1,hf0,hf1⟩:=aG ((hb2'.block (w.heap.size+1) (by omega)).trans Q2)
  have hB2:Below w.heap.size w w2:=ah hB1 hb2'
  have HO:Hid (w2.ownsRow (w.heap.size+2) 5 1 (.slice a' ys.length c') ys.length (ys.map (Value.int .u8))):=aF ho2 (by simp;omega)
  clear ho2 hb2 h2 hb2' hT Q2 hB1 c0 c1 c2 c3 c4
  go_wp2
  exact bodyPost_ret (v:= .agg #[.int .i64 0,.slice a' ys.length c']) (by simp[results,Tryz.results156,go_sem,hc0,hc1]) rfl ⟨(hB2.setCell (Nat.le_succ _) _).setCell (Nat.le_succ _) _,_,rfl,Ij HO.out _ _⟩
 ·have h1:=jJ h
  rw[Pq h]
  generalize hdC e p o n v=c at *
  clear h
  unfold hdV at *
  go_enter Tryz.func156,Tryz.ntmps156
  go_wp2_with fail
  refine(hF _).mono ?_
  rintro x w1 ⟨rfl,hb1⟩
  obtain⟨hc0,hc1,hf0,hf1⟩:=aG (fB hb1).2
  have hB1:Below w.heap.size w w1:=ak (ak hb1)
  clear hb1 hF
  go_wp2
  exact bodyPost_ret (v:= .agg #[.int .i64 c,.slice none 0 0]) (by simp[results,Tryz.results156,go_sem,hc0,hc1]) rfl ⟨(hB1.setCell (Nat.le_succ _) _).setCell (Nat.le_succ _) _,_,rfl,World.ownsRow_nil _ _ _ _⟩
theorem Ba(b off:Nat)(e p o n v:Int)(w:World)(h:HdS w b off ⟨e,p,o,n,v⟩)(hok:sF e p o n v):
  Calls Tryz.prog 109 #[.pointer (some ⟨b,off,none⟩)] w fun x w'=>x = .returned (.int .i64 (hdS e p o n v))/\Below w.heap.size w w':=by
 have hbt:=hok.bts
 have hln:(hdB e p o n v).length<=1099511627776:=by rw[KN];omega
 have hP:=Jt b off e p o n v w h hok
 unfold hdS
 generalize hdB e p o n v=ys at *
 clear h hok
 go_enter Tryz.func109,Tryz.ntmps109
 go_wp2_with fail
 refine hP.mono ?_
 rintro x w1 ⟨v',rfl,ho1,hb1⟩
 have hI:=gq ho1
 obtain⟨a',c',rfl⟩:=aW ho1
 clear ho1 hP
 go_wp2_with fail
 refine(kC _ ys _ hI hbt hln).mono ?_
 rintro x w2 ⟨rfl,rfl⟩
 go_wp2
 go_ret
 exact⟨rfl,hb1⟩
theorem qW(e p o n v:Int)(w:World):
  Calls Tryz.prog 116 #[hdV e p o n v] w fun x w'=>jF w (hdC e p o n v) (Gl e p o n v) x w':=by
 have hF:=fun w=>zJ e p o n v w
 by_cases h:hdC e p o n v=0
 ·have hok:=vZ h
  rw[CQ h]
  rw[Pv h]at hF
  rw[h]at hF ⊢
  have hbt:=hok.bts
  have hln:(hdB e p o n v).length<=200:=by rw[KN];omega
  have hsm:=um (bs:=hdB e p o n v) (by omega)
  have F8:=fun (u:Value) (w:World) hI=>iF u (hdB e p o n v) w hI hbt (by omega)
  rw[hsm.1,hsm.2]at F8
  unfold hdS
  generalize bn (hdB e p o n v)=s at *
  generalize hdB e p o n v=ys at *
  clear hsm hbt h hok
  unfold hdV at *
  go_enter Tryz.func116,Tryz.ntmps116
  go_wp2_with fail
  refine(hF _).mono ?_
  intro x w1 h9
  obtain⟨a,c,rfl,hb1,ho1⟩:=h9.use
  have oQ:=(fB hb1).2
  have hB1:Below w.heap.size w w1:=ak (ak hb1)
  have hsz1:w.heap.size+2<=w1.heap.size:=by have:=hb1.size;simp at this;omega
  have P1:=Pair.new w1 (.int .i64 0) (.slice a ys.length c) 208
  have hI:=(gq ho1).below (aj (.cells #[.int .i64 0,.slice a ys.length c] 208))
  clear hF h9 ho1 hb1
  go_wp2_with fail
  refine(F8 _ _ hI).mono ?_
  rintro x w2 ⟨rfl,hb2⟩
  have hB2:Below w.heap.size w w2:=ah hB1 (ak hb2)
  obtain⟨hc0,hc1,hf0,hf1⟩:=aG (((ak hb2).block (w.heap.size+1) (by omega)).trans oQ)
  clear hb2 hI P1 oQ F8
  go_wp2
  exact bodyPost_ret (v:= .agg #[.int .i64 0,.int .i64 s]) (by simp[results,Tryz.results116,go_sem,hc0,hc1]) rfl ⟨rfl,(hB2.setCell (Nat.le_succ _) _).setCell (Nat.le_succ _) _⟩
 ·have h1:=jJ h
  rw[UM h]
  rw[Pq h]at hF
  generalize hdC e p o n v=c at *
  clear h
  unfold hdV at *
  go_enter Tryz.func116,Tryz.ntmps116
  go_wp2_with fail
  refine(hF _).mono ?_
  intro x w1 h9
  obtain⟨a,cc,rfl,hb1,ho1⟩:=h9.use
  simp only[List.length_nil]
  have oQ:=(fB hb1).2
  have hB1:Below w.heap.size w w1:=ak (ak hb1)
  have hsz1:w.heap.size+2<=w1.heap.size:=by have:=hb1.size;simp at this;omega
  have hB2:=ah hB1 (aj (.cells #[.int .i64 c,.slice a 0 cc] 208))
  obtain⟨hc0,hc1,hf0,hf1⟩:=aG (((aj (.cells #[.int .i64 c,.slice a 0 cc] 208)).block (w.heap.size+1) (by omega)).trans oQ)
  clear hF h9 ho1 hb1
  go_wp2
  exact bodyPost_ret (v:= .agg #[.int .i64 c,.int .i64 0]) (by simp[results,Tryz.results116,go_sem,hc0,hc1]) rfl ⟨rfl,(hB2.setCell (Nat.le_succ _) _).setCell (Nat.le_succ _) _⟩
theorem oO(a b:Int)(w:World):Calls Tryz.prog 56 #[.int .i64 a,.int .i64 b] w fun x w'=>x = .returned (.bool (gu a b))/\w'=w:=by
 unfold gu
 by_cases h:a=4
 ·subst h
  go_enter Tryz.func56,Tryz.ntmps56
  go_wp2
  go_ret
  exact⟨rfl,rfl⟩
 ·have h1:(a==4)=false:=by simpa using h
  rw[if_neg h]
  by_cases h2:a=1
  ·subst h2
   go_enter Tryz.func56,Tryz.ntmps56
   go_wp2
   go_ret
   exact⟨rfl,rfl⟩
  ·have h3:(a==1)=false:=by simpa using h2
   rw[h3]
   go_enter Tryz.func56,Tryz.ntmps56
   go_wp2
   go_ret
   exact⟨aU (by simp),rfl⟩
theorem oZ(a b:Int)(w:World):Calls Tryz.prog 68 #[.int .i64 a,.int .i64 b] w fun x w'=>x = .returned (.bool (mfB a b))/\w'=w:=by
 have hA:=fun w=>eu a w
 have hB:=fun w=>eu b w
 unfold mfB
 rcases Bool.eq_false_or_eq_true (inB a 1 5)with ha | ha
 ·rw[ha]at hA ⊢
  rcases Bool.eq_false_or_eq_true (inB b 1 5)with hb | hb
  ·rw[hb]at hB ⊢
   unfold gu
   by_cases h:a=4
   ·subst h
    go_enter Tryz.func68,Tryz.ntmps68
    go_wp2_with fail
    refine(hA _).mono ?_
    rintro x wq ⟨rfl,rfl⟩
    go_wp2_with fail
    refine(hB _).mono ?_
    rintro x wq ⟨rfl,rfl⟩
    go_wp2
    go_ret
    exact⟨rfl,rfl⟩
   ·have h1:(a==4)=false:=by simpa using h
    rw[if_neg h]
    by_cases h2:a=1
    ·subst h2
     go_enter Tryz.func68,Tryz.ntmps68
     go_wp2_with fail
     refine(hA _).mono ?_
     rintro x wq ⟨rfl,rfl⟩
     go_wp2_with fail
     refine(hB _).mono ?_
     rintro x wq ⟨rfl,rfl⟩
     go_wp2
     go_ret
     exact⟨rfl,rfl⟩
    ·have h3:(a==1)=false:=by simpa using h2
     rw[h3]
     go_enter Tryz.func68,Tryz.ntmps68
     go_wp2_with fail
     refine(hA _).mono ?_
     rintro x wq ⟨rfl,rfl⟩
     go_wp2_with fail
     refine(hB _).mono ?_
     rintro x wq ⟨rfl,rfl⟩
     go_wp2
     go_ret
     exact⟨aU (by simp),rfl⟩
  ·rw[hb]at hB ⊢
   go_enter Tryz.func68,Tryz.ntmps68
   go_wp2_with fail
   refine(hA _).mono ?_
   rintro x wq ⟨rfl,rfl⟩
   go_wp2_with fail
   refine(hB _).mono ?_
   rintro x wq ⟨rfl,rfl⟩
   go_wp2
   go_ret
   exact⟨rfl,rfl⟩
 ·rw[ha]at hA ⊢
  go_enter Tryz.func68,Tryz.ntmps68
  go_wp2_with fail
  refine(hA _).mono ?_
  rintro x wq ⟨rfl,rfl⟩
  go_wp2
  go_ret
  exact⟨rfl,rfl⟩
end U
end Go.Proofs.YtmmcgjacojgeaaaGreat
namespace Go.Proofs.YtmmcgjacojgeaaaGreat
namespace U
end U
end Go.Proofs.YtmmcgjacojgeaaaGreat
namespace Go.Proofs.YtmmcgjacojgeaaaGreat
open Go.RowKit
namespace U
theorem BK{w:World}{b:Nat}{x0 x1 x2 x3 x4 x5:Value}{t:TypeId}(h:w.heap[b]? = some (.cells #[x0,x1,x2,x3,x4,x5] t (0,0))):(w.cell? ⟨b,0,none⟩=some x0/\w.cell? ⟨b,1,none⟩=some x1/\w.cell? ⟨b,2,none⟩=some x2/\w.cell? ⟨b,3,none⟩=some x3/\w.cell? ⟨b,4,none⟩=some x4/\w.cell? ⟨b,5,none⟩=some x5)/\
  (w.frozen? ⟨b,0,none⟩=false/\w.frozen? ⟨b,1,none⟩=false/\w.frozen? ⟨b,2,none⟩=false/\w.frozen? ⟨b,3,none⟩=false/\w.frozen? ⟨b,4,none⟩=false/\w.frozen? ⟨b,5,none⟩=false):=by
 simp[World.cell?,World.frozen?,h]
def kV:Obj:= .cells #[.int .i64 0,.int .i64 0,.int .i64 0,.int .i64 0,.int .i64 0,.int .i64 0] 172
def Hds(w:World)(v:Value)(l:Hdl):Prop:=
 (l=[]/\∃a c,v = .slice a 0 c)∨∃b off c,v = .slice (some ⟨b,off,none⟩) l.length c/\b<w.heap.size/\∀j,j<l.length->HdS w b (off+j*5) (hAt l j)
theorem Hds.below{w w':World}{v:Value}{l:Hdl}(h:Hds w v l)(hb:Below w.heap.size w w'):Hds w' v l:=by
 rcases h with h |⟨b,off,c,rfl,hlt,hc⟩
 ·exact Or.inl h
 ·exact Or.inr ⟨b,off,c,rfl,Nat.lt_of_lt_of_le hlt hb.size,fun j hj=>(hc j hj).below hb hlt⟩
theorem Hds.shape{w:World}{v:Value}{l:Hdl}(h:Hds w v l):∃a c,v = .slice a l.length c:=by
 rcases h with⟨rfl,a,c,rfl⟩ |⟨b,off,c,rfl,_⟩
 ·exact⟨a,c,rfl⟩
 ·exact⟨_,c,rfl⟩
theorem Hds.at{w:World}{a:Option Addr}{n c:Nat}{l:Hdl}(h:Hds w (.slice a n c) l)(h0:0<l.length):n=l.length/\∃b off,a=some ⟨b,off,none⟩/\b<w.heap.size/\∀j,j<l.length->HdS w b (off+j*5) (hAt l j):=by
 rcases h with⟨rfl,_⟩ |⟨b,off,c',e,h1,h2⟩
 ·simp at h0
 ·cases e
  exact⟨rfl,b,off,rfl,h1,h2⟩
theorem Hds.nil(w:World)(a:Option Addr)(c:Nat):Hds w (.slice a 0 c) []:=Or.inl ⟨rfl,a,c,rfl⟩
def flH(l:Hdl):List Value:=l.flatMap fun r=>[.int .i64 r.e,.int .i64 r.p,.int .i64 r.o,.int .i64 r.n,.int .i64 r.v]
theorem xP(l:Hdl):(flH l).length=l.length*5:=by
 unfold flH
 induction l with
 | nil=>rfl
 | cons p t ih=>rw[List.flatMap_cons,List.length_append,ih];simp;omega
theorem FI(l:Hdl):∀(j:Nat),j<l.length->(flH l)[j*5]? = some (.int .i64 (hAt l j).e)/\(flH l)[j*5+1]? = some (.int .i64 (hAt l j).p)/\(flH l)[j*5+2]? = some (.int .i64 (hAt l j).o)/\(flH l)[j*5+3]? = some (.int .i64 (hAt l j).n)/\(flH l)[j*5+4]? = some (.int .i64 (hAt l j).v):=by
 induction l with
 | nil=>intro j h;simp at h
 | cons p t ih=>
  intro j h
  unfold flH
  rw[List.flatMap_cons]
  cases j with
  | zero=>simp[hAt]
  | succ j=>
   have:=ih j (by simpa using h)
   unfold flH at this
   rw[show(j+1)*5=j*5+1+1+1+1+1 by omega]
   simpa [hAt]using this
theorem U9{w:World}{B:Nat}{e:TypeId}{v:Value}{l:Hdl}(h:w.ownsRow B e 5 v l.length (flH l)):Hds w v l:=by
 rcases h.2 with⟨rfl,hn⟩ |⟨g,cap,cur,rfl,hB,hg,hc,hm,_⟩
 ·have:l=[]:=List.eq_nil_of_length_eq_zero hn
  subst this
  exact Hds.nil _ _ _
 ·refine Or.inr ⟨g,0,cap,rfl,(Array.getElem?_eq_some_iff.1 hg).1,fun j hj=> ?_⟩
  have h5:=FI l j hj
  have q:=fun i (hi:i<l.length*5)=>h.cellAt i (by omega)
  refine⟨?_, ?_, ?_, ?_, ?_⟩
  ·rw[Nat.zero_add,q _ (by omega)];exact h5.1
  ·rw[Nat.zero_add,q _ (by omega)];exact h5.2.1
  ·rw[Nat.zero_add,q _ (by omega)];exact h5.2.2.1
  ·rw[Nat.zero_add,q _ (by omega)];exact h5.2.2.2.1
  ·rw[Nat.zero_add,q _ (by omega)];exact h5.2.2.2.2
def Hd.c(h:Hd):Int:=hdC h.e h.p h.o h.n h.v
def Hd.s(h:Hd):Int:=hdS h.e h.p h.o h.n h.v
def phA(l:Hdl):Nat->Int
 | 0=>1
 | j+1=>(hAt l j).p
def smA(l:Hdl):Nat->Int
 | 0=>0
 | j+1=>(hAt l j).s
def lnk(h:Hd)(e ph s:Int):Int:=if h.e=e then(if h.v=s then(if gu ph h.p=true then 0 else 10)else 9)else 1
theorem Xm{h:Hd}{e ph s:Int}(h1:¬h.e=e):lnk h e ph s=1:=if_neg h1
theorem Xo{h:Hd}{e ph s:Int}(h1:h.e=e)(h2:¬h.v=s):lnk h e ph s=9:=by unfold lnk;rw[if_pos h1,if_neg h2]
theorem Xn{h:Hd}{e ph s:Int}(h1:h.e=e)(h2:h.v=s)(h3:gu ph h.p=false):lnk h e ph s=10:=by unfold lnk;rw[if_pos h1,if_pos h2,h3];rfl
theorem WM{h:Hd}{e ph s:Int}(h1:h.e=e)(h2:h.v=s)(h3:gu ph h.p=true):lnk h e ph s=0:=by unfold lnk;rw[if_pos h1,if_pos h2,h3];rfl
def jA(l:Hdl)(i:Nat):Int:=lnk (hAt l i) ((i:Int)+1) (phA l i) (smA l i)
def dF(l:Hdl):Nat->Nat->Int
 | 0,_=>0
 | f+1,i=>if(hAt l i).c=0 then(if jA l i=0 then dF l f (i+1)else jA l i)else(hAt l i).c
theorem yZ{l:Hdl}{f i:Nat}(h:¬(hAt l i).c=0):dF l (f+1) i=(hAt l i).c:=by rw[dF,if_neg h]
theorem BG{l:Hdl}{f i:Nat}(h:(hAt l i).c=0)(h1:¬jA l i=0):dF l (f+1) i=jA l i:=by rw[dF,if_pos h,if_neg h1]
theorem BH{l:Hdl}{f i:Nat}(h:(hAt l i).c=0)(h1:jA l i=0):dF l (f+1) i=dF l f (i+1):=by rw[dF,if_pos h,if_pos h1]
def chF(l:Hdl):Int:=if 10<l.length then 2 else dF l l.length 0
theorem zo{l:Hdl}(h:10<l.length):chF l=2:=if_pos h
theorem zq{l:Hdl}(h:¬ 10<l.length):chF l=dF l l.length 0:=if_neg h
theorem RQ{v:Value}{a b:Int}{w:World}(hv:Ints .i64 w v [a,b]):∃g off c,v = .slice (some ⟨g,off,none⟩) 2 c/\w.cell? ⟨g,off,none⟩=some (.int .i64 a)/\w.cell? ⟨g,off+1,none⟩=some (.int .i64 b):=by
 rcases hv with⟨h,-⟩ |⟨g,off,c,rfl,-,h⟩
 ·cases h
 ·exact⟨g,off,c,rfl,h 0 (by simp),h 1 (by simp)⟩
theorem RS{v:Value}{a b d:Int}{w:World}(hv:Ints .i64 w v [a,b,d]):∃g off c,v = .slice (some ⟨g,off,none⟩) 3 c/\w.cell? ⟨g,off,none⟩=some (.int .i64 a)/\w.cell? ⟨g,off+1,none⟩=some (.int .i64 b)/\w.cell? ⟨g,off+2,none⟩=some (.int .i64 d):=by
 rcases hv with⟨h,-⟩ |⟨g,off,c,rfl,-,h⟩
 ·cases h
 ·exact⟨g,off,c,rfl,h 0 (by simp),h 1 (by simp),h 2 (by simp)⟩
theorem Fz(a b:Int)(v:Value)(w:World)(hv:Ints .i64 w v [a,b]):
  Calls Tryz.prog 46 #[v] w fun e w'=>e = .returned (.int .i64 (if a=0 then b else a))/\w'=w:=by
 obtain⟨g,off,c,rfl,c0,c1⟩:=RQ hv
 clear hv
 by_cases h:a=0
 ·subst h
  rw[if_pos rfl]
  by_cases hb:b=0
  ·subst hb
   go_enter Tryz.func46,Tryz.ntmps46
   go_wp2
   refine wp_loop_rounds 4 ?_
   rw[rounds_succ]
   go_wp2
   rw[rounds_succ]
   go_wp2
   rw[rounds_succ]
   go_wp2
   go_ret
   exact⟨rfl,rfl⟩
  ·have hbn:(b != 0)=true:=by simpa using hb
   go_enter Tryz.func46,Tryz.ntmps46
   go_wp2
   refine wp_loop_rounds 4 ?_
   rw[rounds_succ]
   go_wp2
   rw[rounds_succ]
   go_wp2
   go_ret
   exact⟨rfl,rfl⟩
 ·have hbn:(a != 0)=true:=by simpa using h
  rw[if_neg h]
  go_enter Tryz.func46,Tryz.ntmps46
  go_wp2
  refine wp_loop_rounds 4 ?_
  rw[rounds_succ]
  go_wp2
  go_ret
  exact⟨rfl,rfl⟩
theorem rY(a b d:Int)(v:Value)(w:World)(hv:Ints .i64 w v [a,b,d]):
  Calls Tryz.prog 46 #[v] w fun e w'=>e = .returned (.int .i64 (if a=0 then(if b=0 then d else b)else a))/\w'=w:=by
 obtain⟨g,off,c,rfl,c0,c1,c2⟩:=RS hv
 clear hv
 by_cases h:a=0
 ·subst h
  rw[if_pos rfl]
  by_cases hb:b=0
  ·subst hb
   rw[if_pos rfl]
   by_cases hd:d=0
   ·subst hd
    go_enter Tryz.func46,Tryz.ntmps46
    go_wp2
    refine wp_loop_rounds 5 ?_
    rw[rounds_succ]
    go_wp2
    rw[rounds_succ]
    go_wp2
    rw[rounds_succ]
    go_wp2
    rw[rounds_succ]
    go_wp2
    go_ret
    exact⟨rfl,rfl⟩
   ·have hbn:(d != 0)=true:=by simpa using hd
    go_enter Tryz.func46,Tryz.ntmps46
    go_wp2
    refine wp_loop_rounds 5 ?_
    rw[rounds_succ]
    go_wp2
    rw[rounds_succ]
    go_wp2
    rw[rounds_succ]
    go_wp2
    go_ret
    exact⟨rfl,rfl⟩
  ·have hbn:(b != 0)=true:=by simpa using hb
   rw[if_neg hb]
   go_enter Tryz.func46,Tryz.ntmps46
   go_wp2
   refine wp_loop_rounds 5 ?_
   rw[rounds_succ]
   go_wp2
   rw[rounds_succ]
   go_wp2
   go_ret
   exact⟨rfl,rfl⟩
 ·have hbn:(a != 0)=true:=by simpa using h
  rw[if_neg h]
  go_enter Tryz.func46,Tryz.ntmps46
  go_wp2
  refine wp_loop_rounds 5 ?_
  rw[rounds_succ]
  go_wp2
  go_ret
  exact⟨rfl,rfl⟩
def tJ(h:Hd)(e ph s:Int):Int:=if h.e=e then(if h.v=s then(if mfB ph h.p=true then 0 else 10)else 9)else 1
theorem KU{h:Hd}{e ph s:Int}(hc:h.c=0)(hp:inB ph 1 5=true):tJ h e ph s=lnk h e ph s:=by
 have hok:=vZ hc
 have:mfB ph h.p=gu ph h.p:=by unfold mfB;rw[hp,iJ hok.p0 hok.p1];simp
 unfold tJ lnk
 rw[this]
theorem EH(e p o n v ep ph s:Int)(w:World):
  Calls Tryz.prog 152 #[hdV e p o n v,.int .i64 ep,.int .i64 ph,.int .i64 s] w fun x w'=>x = .returned (.int .i64 (tJ ⟨e,p,o,n,v⟩ ep ph s))/\Below w.heap.size w w':=by
 have hM:=fun w=>oZ ph p w
 unfold tJ hdV
 dsimp only
 by_cases h1:e=ep
 ·rw[if_pos h1]
  have g1:(e != ep)=false:=by simpa using h1
  by_cases h2:v=s
  ·rw[if_pos h2]
   have g2:(v != s)=false:=by simpa using h2
   clear h1 h2
   rcases Bool.eq_false_or_eq_true (mfB ph p)with h3 | h3
   ·rw[h3]at hM ⊢
    go_enter Tryz.func152,Tryz.ntmps152
    go_wp2_with fail
    refine(hM _).mono ?_
    rintro x wq ⟨rfl,rfl⟩
    go_wp2
    go_ret
    exact⟨rfl,aj _⟩
   ·rw[h3]at hM ⊢
    go_enter Tryz.func152,Tryz.ntmps152
    go_wp2_with fail
    refine(hM _).mono ?_
    rintro x wq ⟨rfl,rfl⟩
    go_wp2
    go_ret
    exact⟨rfl,aj _⟩
  ·rw[if_neg h2]
   have g2:(v != s)=true:=by simpa using h2
   clear h1 h2
   go_enter Tryz.func152,Tryz.ntmps152
   go_wp2
   go_ret
   exact⟨rfl,aj _⟩
 ·rw[if_neg h1]
  have g1:(e != ep)=true:=by simpa using h1
  clear h1
  go_enter Tryz.func152,Tryz.ntmps152
  go_wp2
  go_ret
  exact⟨rfl,aj _⟩
theorem xJ{w:World}{g:Nat}{a b:Int}{t:TypeId}(hg:g=w.heap.size):Ints .i64 (w.alloc (.cells #[.int .i64 a,.int .i64 b] t)) (.slice (some ⟨g,0,none⟩) 2 2) [a,b]:=by
 subst hg
 have hh:=heap_alloc_new w (.cells #[.int .i64 a,.int .i64 b] t)
 refine Or.inr ⟨w.heap.size,0,2,rfl,by simp,fun j hj=> ?_⟩
 have hj2:j<2:=hj
 rcases(show j=0∨j=1 by omega)with rfl | rfl<;>(unfold World.cell?;rw[hh];rfl)
theorem xO(x y:Int)(w:World):(Instr.field 122 (.agg #[.int .i64 x,.int .i64 y]) 1).run Tryz.prog w = .ok (.int .i64 y) w:=by kernel_rfl
theorem CS(b off c n:Nat)(l:Hdl)(w:World)(hn:n<=10)(hb:b<w.heap.size)(hc:∀j,j<n->HdS w b (off+j*5) (hAt l j)):
  Calls Tryz.prog 114 #[.slice (some ⟨b,off,none⟩) n c] w fun x w'=>x = .returned (.int .i64 (dF l n 0))/\Below w.heap.size w w':=by
 obtain⟨q,hq⟩:∃q,q=dF l n 0:=⟨_,rfl⟩
 have HQ:Hid (dF l n 0=q):=hq.symm
 rw[←hq]
 clear hq
 go_enter Tryz.func114,Tryz.ntmps114
 go_wp2
 go_loopw [3,4,13] (fun ph sm i wr=>∃k:Nat,k<=n/\i = .int .i64 k/\ph = .int .i64 (phA l k)/\sm = .int .i64 (smA l k)/\Hid (Below w.heap.size w wr)/\Hid (dF l (n - k) k=q)/\Hid (inB (phA l k) 1 5=true)) (fun _ _ i _=>n - (intOf i).toNat)
 case atStart=>exact⟨0,Nat.zero_le _,rfl,rfl,rfl,Below.refl _ _,HQ,(show inB 1 1 5=true by decide)⟩
 case round=>
  obtain⟨k,hk,rfl,rfl,rfl,hB,HS,HP⟩:=hrel
  by_cases hkn:k<n
  ·have hki:(k:Int)<(n:Int):=by omega
   obtain⟨d0,d1,d2,d3,d4⟩:=(hc k hkn).below hB.out hb
   have jM:Hid (n - k=(n - k - 1)+1):=(by omega:n - k=(n - k - 1)+1)
   have hw1:IntKind.i64.wrap ((k:Int)+1)=(k:Int)+1:=by rw[IntKind.wrap_i64];omega
   have hF:=fun w=>iU (hAt l k).e (hAt l k).p (hAt l k).o (hAt l k).n (hAt l k).v w
   have hL:=fun w=>EH (hAt l k).e (hAt l k).p (hAt l k).o (hAt l k).n (hAt l k).v ((k:Int)+1) (phA l k) (smA l k) w
   have Ub:=fun w=>qW (hAt l k).e (hAt l k).p (hAt l k).o (hAt l k).n (hAt l k).v w
   have e1:hdC (hAt l k).e (hAt l k).p (hAt l k).o (hAt l k).n (hAt l k).v=(hAt l k).c:=rfl
   have e2:tJ ⟨(hAt l k).e,(hAt l k).p,(hAt l k).o,(hAt l k).n,(hAt l k).v⟩ ((k:Int)+1) (phA l k) (smA l k)=tJ (hAt l k) ((k:Int)+1) (phA l k) (smA l k):=rfl
   rw[e1]at hF Ub
   rw[e2]at hL
   have hOr:=fun v w hv=>Fz (hAt l k).c (tJ (hAt l k) ((k:Int)+1) (phA l k) (smA l k)) v w hv
   obtain⟨r,hr⟩:∃r,r=(if(hAt l k).c=0 then tJ (hAt l k) ((k:Int)+1) (phA l k) (smA l k)else(hAt l k).c):=⟨_,rfl⟩
   rw[←hr]at hOr
   have HZ:Hid (r=0->(hAt l k).c=0/\dF l (n - k - 1) (k+1)=q/\Gl (hAt l k).e (hAt l k).p (hAt l k).o (hAt l k).n (hAt l k).v=smA l (k+1)/\inB (phA l (k+1)) 1 5=true):=by
    intro h0
    by_cases hc0:(hAt l k).c=0
    ·rw[if_pos hc0]at hr
     have hl0:jA l k=0:=by unfold jA;rw[←KU hc0 HP.out,←hr,h0]
     refine⟨hc0,by rw[←HS.out,jM.out];exact(BH hc0 hl0).symm, ?_, ?_⟩
     ·rw[CQ hc0];rfl
     ·have:=vZ hc0;exact iJ this.p0 this.p1
    ·rw[if_neg hc0]at hr
     exact absurd (hr.symm.trans h0) hc0
   have VL:Hid (¬r=0->q=r):=by
    intro h0
    rw[←HS.out,jM.out]
    by_cases hc0:(hAt l k).c=0
    ·rw[if_pos hc0]at hr
     have hl1:jA l k=r:=by unfold jA;rw[←KU hc0 HP.out,hr]
     rw[BG hc0 (by rw[hl1];exact h0),hl1]
    ·rw[if_neg hc0]at hr
     rw[yZ hc0,hr]
   have HA:Hid (phA l (k+1)=(hAt l k).p):=rfl
   generalize tJ (hAt l k) ((k:Int)+1) (phA l k) (smA l k)=lk at *
   generalize Gl (hAt l k).e (hAt l k).p (hAt l k).o (hAt l k).n (hAt l k).v=sv at *
   generalize (hAt l k).c=cz at *
   generalize (hAt l k).e=x0 at *
   generalize (hAt l k).p=x1 at *
   generalize (hAt l k).o=x2 at *
   generalize (hAt l k).n=x3 at *
   generalize (hAt l k).v=x4 at *
   generalize phA l k=ph at *
   generalize smA l k=sm at *
   obtain⟨W,hW⟩:∃W,W=wr.alloc (.cells #[.int .i64 x0,.int .i64 x1,.int .i64 x2,.int .i64 x3,.int .i64 x4] 114):=⟨_,rfl⟩
   have HW:Hid _:=hW.symm
   have Dz:Hid (Below w.heap.size w W):=(by rw[hW];exact hB.out.alloc hB.out.size _:Below w.heap.size w W)
   have vW:W.heap[wr.heap.size]? = some (.cells #[.int .i64 x0,.int .i64 x1,.int .i64 x2,.int .i64 x3,.int .i64 x4] 114):=by rw[hW];exact heap_alloc_new wr _
   have hbr:b<wr.heap.size:=Nat.lt_of_lt_of_le hb hB.out.size
   have aH:Hid (∀w',Below W.heap.size W w'->w'.cell? ⟨wr.heap.size,0,none⟩=some (.int .i64 x0)/\w'.cell? ⟨wr.heap.size,1,none⟩=some (.int .i64 x1)/\w'.cell? ⟨wr.heap.size,2,none⟩=some (.int .i64 x2)/\w'.cell? ⟨wr.heap.size,3,none⟩=some (.int .i64 x3)/\w'.cell? ⟨wr.heap.size,4,none⟩=some (.int .i64 x4)):=
    fun w' h=>fD ((h.block _ (Array.getElem?_eq_some_iff.1 vW).1).trans vW)
   have hcur:=Below.refl W.heap.size W
   obtain⟨g0,g1,g2,g3,g4⟩:=aH.out _ hcur
   unfold hdV at *
   clear hc hr e1 e2 hW vW HS jM HP
   go_wp2_with fail
   rw[HW.out]
   go_region_held3 (fun w'=>w'.cell? ⟨wr.heap.size,0,none⟩=some (.int .i64 x0)/\w'.cell? ⟨wr.heap.size,1,none⟩=some (.int .i64 x1)/\w'.cell? ⟨wr.heap.size,2,none⟩=some (.int .i64 x2)/\w'.cell? ⟨wr.heap.size,3,none⟩=some (.int .i64 x3)/\w'.cell? ⟨wr.heap.size,4,none⟩=some (.int .i64 x4))
    (first | with_reducible exact⟨g0,g1,g2,g3,g4⟩|with_reducible exact aH.out _ hcur | with_reducible exact aH.out _ hcur.drew | with_reducible exact aH.out _ (hcur.alloc hcur.size _))
    (first
     |(go_at_call 151;refine(hF _).mono ?_;rintro e w2 ⟨rfl,hb2⟩;have hcur:Below W.heap.size W w2:=(by first | exact ah hcur hb2 | exact ah hcur.drew hb2))
     |(go_at_call 152;refine(hL _).mono ?_;rintro e w3 ⟨rfl,hb3⟩;have hcur:Below W.heap.size W w3:=(by first | exact ah hcur hb3 | exact ah hcur.drew hb3))
     |(go_at_call 46;refine(hOr _ _ (xJ rfl)).mono ?_;rintro e w4 ⟨rfl,hw4⟩;have hcur:Below W.heap.size W w4:=(by rw[hw4];exact hcur.alloc hcur.size _);clear hw4))
   clear g0 g1 g2 g3 g4 hF hL hOr
   obtain⟨g0,g1,g2,g3,g4⟩:=aH.out _ hcur
   have HB4:Hid (Below w.heap.size w w4):=ah Dz.out hcur
   clear aH hcur HW Dz
   by_cases hr0:r=0
   ·subst hr0
    obtain⟨hz1,hz2,hz3,Az⟩:=HZ.out rfl
    have HZ2:Hid (dF l (n - k - 1) (k+1)=q):=hz2
    have HZ3:Hid (sv=smA l (k+1)):=hz3
    have ZN:Hid (inB (phA l (k+1)) 1 5=true):=Az
    have q0:=After.cell g0
    have q1:=After.cell g1
    have q2:=After.cell g2
    have q3:=After.cell g3
    have q4:=After.cell g4
    have hne:=After.ne w4
    have kf:=fun w=>xO cz sv w
    clear HZ VL hz1 hz2 hz3 Az g0 g1 g2 g3 g4
    go_wp2_with fail
    refine au (by kernel_rfl) (by kernel_rfl) ?_
    repeat(first | go_big_quiet_skip |(go_big_quiet_want;go_big_quiet_op;first | go_big_quiet_on | go_big_quiet_call (first |(go_at_call 116;refine(Ub _).mono ?_;rintro e wq ⟨rfl,hbq⟩;exact⟨rfl,aA (ah (After.b _) hbq)⟩))))
    refine wpQuiet_nil ?_
    rintro _ ⟨n6,rfl⟩
    have gI:Hid (Below w.heap.size w n6.w):=ah HB4.out n6.b
    generalize n6.w=w6 at *
    clear hne q0 q1 q2 q3 q4 kf Ub
    go_wp2
    go_roundw
    case rel=>exact⟨k+1,by omega,by go_num,by rw[HA.out],by rw[HZ3.out],gI,by rw[show n - (k+1)=n - k - 1 by omega];exact HZ2,ZN⟩
    case measure=>simp[intOf];omega
   ·have hr1:(r != 0)=true:=by simpa using hr0
    have HX:Hid (q=r):=VL.out hr0
    clear HZ VL hr0 Ub
    go_wp2
    go_ret
    exact⟨aC HX.out.symm,HB4.out⟩
  ·have hkn:k=n:=by omega
   subst hkn
   have e0:Hid (q=0):=(by rw[←HS.out,Nat.sub_self];rfl:q=0)
   clear hc
   go_wp2
   go_ret
   exact⟨aC e0.out.symm,hB.out⟩
theorem wB(v:Value)(l:Hdl)(w:World)(hv:Hds w v l)(hx:l.length<=1099511627776):
  Calls Tryz.prog 114 #[v] w fun e w'=>e = .returned (.int .i64 (chF l))/\Below w.heap.size w w':=by
 obtain⟨a,c,rfl⟩:=hv.shape
 by_cases h:10<l.length
 ·rw[zo h]
  generalize l.length=n at *
  clear hv
  go_enter Tryz.func114,Tryz.ntmps114
  go_wp2
  go_ret
  exact⟨rfl,Below.refl _ _⟩
 ·rw[zq h]
  by_cases h0:0<l.length
  ·obtain⟨_,b,off,rfl,hb,hc⟩:=hv.at h0
   exact CS b off c l.length l w (by omega) hb hc
  ·have e1:l=[]:=List.eq_nil_of_length_eq_zero (by omega)
   subst e1
   simp only[List.length_nil]
   have e2:dF [] 0 0=0:=rfl
   rw[e2]
   clear hv h0 hx h e2
   go_enter Tryz.func114,Tryz.ntmps114
   go_wp2
   refine wp_loop_rounds 1 ?_;rw[rounds_succ]
   go_wp2
   go_ret
   exact⟨rfl,Below.refl _ _⟩
def lkS(l:Hdl)(i:Nat):Int:=if(hAt l i).c=0 then jA l i else(hAt l i).c
theorem NH{l:Hdl}{i:Nat}(h:¬(hAt l i).c=0):lkS l i=(hAt l i).c:=if_neg h
theorem Uf{l:Hdl}{i:Nat}(h:(hAt l i).c=0):lkS l i=jA l i:=if_pos h
theorem Ti{l:Hdl}{f i:Nat}:dF l (f+1) i=if lkS l i=0 then dF l f (i+1)else lkS l i:=by
 by_cases h:(hAt l i).c=0
 ·rw[Uf h]
  by_cases h1:jA l i=0
  ·rw[if_pos h1,BH h h1]
  ·rw[if_neg h1,BG h h1]
 ·rw[NH h,if_neg h,yZ h]
theorem Js(b off c n k:Nat)(l:Hdl)(w:World)(hn:n<=10)(hb:b<w.heap.size)(hk:k<n)(hc:∀j,j<n->HdS w b (off+j*5) (hAt l j))(hp:0<k->(hAt l (k - 1)).c=0):
  Calls Tryz.prog 143 #[.slice (some ⟨b,off,none⟩) n c,.int .i64 k] w fun x w'=>x = .returned (.int .i64 (lkS l k))/\Below w.heap.size w w':=by
 have hki:(k:Int)<(n:Int):=by omega
 have hF:=GI b (off+k*5) (hAt l k).e (hAt l k).p (hAt l k).o (hAt l k).n (hAt l k).v w (hc k hk)
 have e1:hdC (hAt l k).e (hAt l k).p (hAt l k).o (hAt l k).n (hAt l k).v=(hAt l k).c:=rfl
 rw[e1]at hF
 have hR:=hc k hk
 by_cases h0:(hAt l k).c=0
 ·rw[Uf h0]
  rw[h0]at hF
  have hw1:IntKind.i64.wrap ((k:Int)+1)=(k:Int)+1:=by rw[IntKind.wrap_i64];omega
  have HE:Hid (¬(hAt l k).e=(k:Int)+1->jA l k=1):=fun h=>Xm h
  have HV:Hid ((hAt l k).e=(k:Int)+1->¬(hAt l k).v=smA l k->jA l k=9):=fun h h1=>Xo h h1
  have XM:Hid ((hAt l k).e=(k:Int)+1->(hAt l k).v=smA l k->gu (phA l k) (hAt l k).p=false->jA l k=10):=fun h h1 h2=>Xn h h1 h2
  have HK:Hid ((hAt l k).e=(k:Int)+1->(hAt l k).v=smA l k->gu (phA l k) (hAt l k).p=true->jA l k=0):=fun h h1 h2=>WM h h1 h2
  have lW:=fun w=>oO (phA l k) (hAt l k).p w
  generalize jA l k=q at *
  have E5:Hid (0<k->∀w',Below w.heap.size w w'->Calls Tryz.prog 109 #[.pointer (some ⟨b,off+(k - 1)*5,none⟩)] w' fun x w''=>x = .returned (.int .i64 (smA l k))/\Below w'.heap.size w' w''):=by
   intro h w' hb'
   have e2:smA l k=(hAt l (k - 1)).s:=by rcases k with _ | m;omega;rfl
   rw[e2]
   exact Ba b (off+(k - 1)*5) _ _ _ _ _ w' ((hc (k - 1) (by omega)).below hb' hb) (vZ (hp h))
  have VP:Hid (0<k->∀w',Below w.heap.size w w'->w'.cell? ⟨b,off+(k - 1)*5+1,none⟩=some (.int .i64 (phA l k))):=by
   intro h w' hb'
   have e2:phA l k=(hAt l (k - 1)).p:=by rcases k with _ | m;omega;rfl
   rw[e2]
   exact((hc (k - 1) (by omega)).below hb' hb).c1
  have HZ:Hid (k=0->smA l k=0/\phA l k=1):=fun h=>by subst h;exact⟨rfl,rfl⟩
  have Ox:Hid (∀w',Below w.heap.size w w'->w'.cell? ⟨b,off+k*5,none⟩=some (.int .i64 (hAt l k).e)/\w'.cell? ⟨b,off+k*5+1,none⟩=some (.int .i64 (hAt l k).p)/\w'.cell? ⟨b,off+k*5+4,none⟩=some (.int .i64 (hAt l k).v)):=
   fun w' h=>⟨(hR.below h hb).c0,(hR.below h hb).c1,(hR.below h hb).c4⟩
  generalize smA l k=sm at *
  generalize phA l k=ph at *
  generalize (hAt l k).e=x0 at *
  generalize (hAt l k).v=x4 at *
  generalize (hAt l k).p=x1 at *
  clear hc h0 e1 hR hp
  have hcase:∃B0 B1 B2:Bool,(x0 !=(k:Int)+1)=B0/\(x4 != sm)=B1/\gu ph x1=B2/\Hid (q=if B0=true then 1 else if B1=true then 9 else if B2=true then 0 else 10):=by
   refine⟨_,_,_,rfl,rfl,rfl, ?_⟩
   by_cases a1:x0=(k:Int)+1
   ·have g1:(x0 !=(k:Int)+1)=false:=by simpa using a1
    rw[g1]
    by_cases a2:x4=sm
    ·have g2:(x4 != sm)=false:=by simpa using a2
     rw[g2]
     rcases Bool.eq_false_or_eq_true (gu ph x1)with a3 | a3
     ·rw[a3];exact HK.out a1 a2 a3
     ·rw[a3];exact XM.out a1 a2 a3
    ·have g2:(x4 != sm)=true:=by simpa using a2
     rw[g2];exact HV.out a1 a2
   ·have g1:(x0 !=(k:Int)+1)=true:=by simpa using a1
    rw[g1];exact HE.out a1
  obtain⟨B0,B1,B2,g1,g2,g3,HX⟩:=hcase
  clear HE HV XM HK
  rw[g3]at lW
  clear g3
  rcases k with _ | m
  ·rcases B0 with _ | _<;>rcases B1 with _ | _<;>rcases B2 with _ | _
   all_goals (
    obtain⟨hz1,hz2⟩:=HZ.out rfl
    subst hz1 hz2
    have hg0:decide (((0:Nat):Int)>0)=false:=by simp
    simp only[Nat.zero_mul,Nat.add_zero]at hF Ox
    clear E5 VP HZ
    go_enter Tryz.func143,Tryz.ntmps143
    go_wp2_with fail
    refine hF.mono ?_
    rintro x w1 ⟨rfl,hb1⟩
    obtain⟨k0,k1,k4⟩:=Ox.out _ hb1
    clear hF Ox
    go_wp2_with (go_at_call 56;refine(lW _).mono ?_;rintro x wq ⟨rfl,rfl⟩)
    go_ret
    exact⟨aC HX.out.symm,hb1⟩)
  ·rcases B0 with _ | _<;>rcases B1 with _ | _<;>rcases B2 with _ | _
   all_goals (
    have hS1:=E5.out (by omega)
    have hP1:=VP.out (by omega)
    simp only[Nat.add_sub_cancel]at hS1 hP1
    have EX:Hid (∀w',Below w.heap.size w w'->w'.cell? ⟨b,off+m*5+1,none⟩=some (.int .i64 ph)):=hP1
    have hg0:decide (0<((m+1:Nat):Int))=true:=by simp
    have Yi:(m:Int)<(n:Int):=by omega
    clear E5 VP HZ hP1
    go_enter Tryz.func143,Tryz.ntmps143
    go_wp2_with fail
    refine hF.mono ?_
    rintro x w1 ⟨rfl,hb1⟩
    clear hF
    go_wp2_with fail
    refine(hS1 _ hb1).mono ?_
    rintro x w2 ⟨rfl,hb2⟩
    have hb2':=ah hb1 hb2
    obtain⟨k0,k1,k4⟩:=Ox.out _ hb2'
    have kp:=EX.out _ hb2'
    clear hS1 hb1 hb2 Ox EX
    go_wp2_with (go_at_call 56;refine(lW _).mono ?_;rintro x wq ⟨rfl,rfl⟩)
    go_ret
    exact⟨aC HX.out.symm,hb2'⟩)
 ·have h1:=jJ h0
  rw[NH h0]
  generalize (hAt l k).c=q at *
  clear hc h0 e1 hR hp
  go_enter Tryz.func143,Tryz.ntmps143
  go_wp2_with fail
  refine hF.mono ?_
  rintro x w1 ⟨rfl,hb1⟩
  clear hF
  go_wp2
  go_ret
  exact⟨rfl,hb1⟩
theorem EC(b off c n:Nat)(l:Hdl)(w:World)(hn:n<=10)(hb:b<w.heap.size)(hc:∀j,j<n->HdS w b (off+j*5) (hAt l j)):
  Calls Tryz.prog 107 #[.slice (some ⟨b,off,none⟩) n c] w fun x w'=>x = .returned (.int .i64 (dF l n 0))/\Below w.heap.size w w':=by
 obtain⟨q,hq⟩:∃q,q=dF l n 0:=⟨_,rfl⟩
 have HQ:Hid (dF l n 0=q):=hq.symm
 rw[←hq]
 clear hq
 have HC:Hid (∀k,k<n->(0<k->(hAt l (k - 1)).c=0)->∀w',Below w.heap.size w w'->Calls Tryz.prog 143 #[.slice (some ⟨b,off,none⟩) n c,.int .i64 k] w' fun x w''=>x = .returned (.int .i64 (lkS l k))/\Below w'.heap.size w' w''):=
  fun k hk hp w' h=>Js b off c n k l w' hn (Nat.lt_of_lt_of_le hb h.size) hk (fun j hj=>(hc j hj).below h hb) hp
 clear hc
 go_enter Tryz.func107,Tryz.ntmps107
 go_wp2
 go_loopw [3] (fun i wr=>∃k:Nat,k<=n/\i = .int .i64 k/\Hid (Below w.heap.size w wr)/\Hid (dF l (n - k) k=q)/\Hid (0<k->(hAt l (k - 1)).c=0)) (fun i _=>n - (intOf i).toNat)
 case atStart=>exact⟨0,Nat.zero_le _,rfl,Below.refl _ _,HQ,fun h=>absurd h (by omega)⟩
 case round=>
  obtain⟨k,hk,rfl,hB,HS,HP⟩:=hrel
  by_cases hkn:k<n
  ·have hki:(k:Int)<(n:Int):=by omega
   have hL:=HC.out k hkn HP.out _ hB.out
   have jM:Hid (n - k=(n - k - 1)+1):=(by omega:n - k=(n - k - 1)+1)
   have HL:Hid (q=if lkS l k=0 then dF l (n - k - 1) (k+1)else lkS l k):=(by rw[←HS.out,jM.out];exact Ti:q=if lkS l k=0 then dF l (n - k - 1) (k+1)else lkS l k)
   have HN:Hid (lkS l k=0->(hAt l k).c=0):=(fun h=>by
    by_cases h1:(hAt l k).c=0
    ·exact h1
    ·rw[NH h1]at h;exact h)
   generalize lkS l k=z at *
   by_cases hz:z=0
   ·subst hz
    have HX:Hid (dF l (n - k - 1) (k+1)=q):=(by have:=HL.out;rw[if_pos rfl]at this;exact this.symm:dF l (n - k - 1) (k+1)=q)
    have yL:Hid (0<k+1->(hAt l (k+1 - 1)).c=0):=fun _=>HN.out rfl
    clear HL HN
    go_wp2_with fail
    refine hL.mono ?_
    rintro x w1 ⟨rfl,hb1⟩
    have HB1:Hid (Below w.heap.size w w1):=ah hB.out hb1
    clear hL hb1
    go_wp2
    go_roundw
    case rel=>exact⟨k+1,by omega,by go_num,HB1,by rw[show n - (k+1)=n - k - 1 by omega];exact HX,yL⟩
    case measure=>simp[intOf];omega
   ·have hz1:(z != 0)=true:=by simpa using hz
    have HX:Hid (q=z):=(by have:=HL.out;rw[if_neg hz]at this;exact this:q=z)
    clear HL HN hz
    go_wp2_with fail
    refine hL.mono ?_
    rintro x w1 ⟨rfl,hb1⟩
    have HB1:Hid (Below w.heap.size w w1):=ah hB.out hb1
    clear hL hb1
    go_wp2
    go_ret
    exact⟨aC HX.out.symm,HB1.out⟩
  ·have hkn:k=n:=by omega
   subst hkn
   have e0:Hid (q=0):=(by rw[←HS.out,Nat.sub_self];rfl:q=0)
   go_wp2
   go_ret
   exact⟨aC e0.out.symm,hB.out⟩
theorem GH(v:Value)(l:Hdl)(w:World)(hv:Hds w v l)(hx:l.length<=1099511627776):
  Calls Tryz.prog 107 #[v] w fun e w'=>e = .returned (.int .i64 (chF l))/\Below w.heap.size w w':=by
 obtain⟨a,c,rfl⟩:=hv.shape
 by_cases h:10<l.length
 ·rw[zo h]
  generalize l.length=n at *
  clear hv
  go_enter Tryz.func107,Tryz.ntmps107
  go_wp2
  go_ret
  exact⟨rfl,Below.refl _ _⟩
 ·rw[zq h]
  by_cases h0:0<l.length
  ·obtain⟨_,b,off,rfl,hb,hc⟩:=hv.at h0
   exact EC b off c l.length l w (by omega) hb hc
  ·have e1:l=[]:=List.eq_nil_of_length_eq_zero (by omega)
   subst e1
   simp only[List.length_nil]
   have e2:dF [] 0 0=0:=rfl
   rw[e2]
   clear hv h0 hx h e2
   go_enter Tryz.func107,Tryz.ntmps107
   go_wp2
   refine wp_loop_rounds 1 ?_;rw[rounds_succ]
   go_wp2
   go_ret
   exact⟨rfl,Below.refl _ _⟩
end U
end Go.Proofs.YtmmcgjacojgeaaaGreat
