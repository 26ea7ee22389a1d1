/- Joined: what the texts behind it need. -/
import Derived.Test.YtmnfokgllcdiiaaGreatYZz
import Derived.WalkKit
import Derived.Test.YtmnfokgllcdiiaaGreatRows
import Derived.WalkSpells
import Derived.WalkLawsBesides
import Derived.Lib.Strings
import Derived.Lib.OthersKept
import Derived.Deep.QuietTactic
import Derived.BigQuiet
import Derived.Deep.RegionHeld3
import Derived.Deep.AppendLies
import Derived.Laws.IdiomStrings
import Derived.Lib.BufferRead
import Derived.Laws.AppendOwnNone
import Derived.Lib.AppendStr
import Derived.Deep.RegionLaw
import Derived.Deep.DrawnRows
import Derived.Laws.BitsAllLaws
import Derived.Laws.Bits128
set_option maxRecDepth 100000
set_option maxHeartbeats 4000000
namespace Go.Proofs.YtmnfokgllcdiiaaGreat
namespace U
def inB(v lo hi:Int):Bool:=decide (lo<=v/\v<=hi)
def jr(r:Int):Bool:=decide ((0<=r/\r<=1114111)/\¬(55296<=r/\r<=57343))
def jv(r:Int):Int:=if r<128 then 1 else if r<2048 then 2 else if r<65536 then 3 else 4
def eP(b:Int):Int:=if b<128 then 1 else if 192<=b/\b<224 then 2 else if 224<=b/\b<240 then 3 else if 240<=b/\b<248 then 4 else 0
def eU(b:Int):Int:=if b<128 then b else if 192<=b/\b<224 then b - 192 else if 224<=b/\b<240 then b - 224 else if 240<=b/\b<248 then b - 240 else 0
def bt(s:ByteArray)(i:Nat):Int:=((s.get! i).toNat:Int)
theorem MQ(s:ByteArray)(i:Nat)(h:i<s.size):bt s i=((s[i]'h).toNat:Int):=by
 have:=get_at s i h
 unfold bt
 rw[←this];rfl
theorem nY(s:ByteArray)(i:Nat):0<=bt s i/\bt s i<=255:=by
 unfold bt
 have:=(s.get! i).toNat_lt
 omega
def iU(s:ByteArray)(p:Nat):Bool:=decide (Utf8.decode s p≠(65533,1))
def acc(s:ByteArray)(p:Nat)(r0:Int):Nat->Int
 | 0=>r0
 | k+1=>64*acc s p r0 k+bt s (p+1+k) - 128
def tH(s:ByteArray)(p:Nat)(k:Nat):Prop:=∀j,j<k->128<=bt s (p+1+j)/\bt s (p+1+j)<=191
theorem MV(s:ByteArray)(p:Nat):tH s p 0:=fun _ h=>by omega
theorem MS{s:ByteArray}{p k:Nat}(h:tH s p k)(h1:128<=bt s (p+1+k))(h2:bt s (p+1+k)<=191):tH s p (k+1):=by
 intro j hj
 by_cases e:j=k
 ·subst e;exact⟨h1,h2⟩
 ·exact h j (by omega)
theorem VB{s:ByteArray}{p k:Nat}{r0:Int}(h:tH s p k)(h0:0<=r0)(h1:r0<128)(hk:k<=3):0<=acc s p r0 k/\acc s p r0 k<33554432:=by
 have a0:=h 0;have a1:=h 1;have a2:=h 2
 rcases(show k=0∨k=1∨k=2∨k=3 by omega)with rfl | rfl | rfl | rfl
 ·simp only[acc];omega
 ·have a0:=a0 (by omega);simp only[acc]at *;omega
 ·have a0:=a0 (by omega);have a1:=a1 (by omega);simp only[acc]at *;omega
 ·have a0:=a0 (by omega);have a1:=a1 (by omega);have a2:=a2 (by omega);simp only[acc]at *;omega
theorem Iy(b:Int):0<=eP b/\eP b<=4:=by unfold eP;repeat' split<;>try omega
theorem RG(b:Int)(h:0<=b):0<=eU b/\eU b<128:=by unfold eU;repeat' split<;>try omega
def jh(n b0 b1 b2 b3:Nat):Nat × Nat:=
 if b0<128 then(b0,1)
 else if b0/32=6/\1<n/\b1/64=2 then
  if 128<=(b0%32)*64+b1%64 then((b0%32)*64+b1%64,2)else(65533,1)
 else if b0/16=14/\(1<n/\b1/64=2)/\(2<n/\b2/64=2)then
  if 2048<=(b0%16)*4096+(b1%64)*64+b2%64/\¬(55296<=(b0%16)*4096+(b1%64)*64+b2%64/\(b0%16)*4096+(b1%64)*64+b2%64<=57343)then((b0%16)*4096+(b1%64)*64+b2%64,3)else(65533,1)
 else if b0/8=30/\(1<n/\b1/64=2)/\(2<n/\b2/64=2)/\(3<n/\b3/64=2)then
  if 65536<=(b0%8)*262144+(b1%64)*4096+(b2%64)*64+b3%64/\(b0%8)*262144+(b1%64)*4096+(b2%64)*64+b3%64<=1114111 then((b0%8)*262144+(b1%64)*4096+(b2%64)*64+b3%64,4)else(65533,1)
 else(65533,1)
theorem qM{α:Type}{c d:Prop}[Decidable c][Decidable d]{x y x' y':α}(h:c↔d)(h1:c->x=x')(h2:¬c->y=y'):(if c then x else y)=(if d then x' else y'):=by
 by_cases hc:c
 ·rw[if_pos hc,if_pos (h.1 hc)];exact h1 hc
 ·rw[if_neg hc,if_neg (fun hd=>hc (h.2 hd))];exact h2 hc
theorem oK(s:ByteArray)(p:Nat):Utf8.decode s p=jh (s.size - p) (s.get! p).toNat (s.get! (p+1)).toNat (s.get! (p+2)).toNat (s.get! (p+3)).toNat:=by
 have u0:=(s.get! p).toNat_lt;have u1:=(s.get! (p+1)).toNat_lt;have u2:=(s.get! (p+2)).toNat_lt;have u3:=(s.get! (p+3)).toNat_lt
 simp only[Utf8.decode,Nat.add_zero]
 unfold jh
 refine qM (by omega) (fun _=>rfl) (fun n0=> ?_)
 refine qM (by simp;omega) (fun _=>qM (by omega) (fun _=>rfl) (fun _=>rfl)) (fun n1=> ?_)
 refine qM (by simp;omega) (fun _=>qM (by simp[Utf8.valid];omega) (fun _=>rfl) (fun _=>rfl)) (fun n2=> ?_)
 refine qM (by simp;omega) (fun _=>qM (by simp[Utf8.valid];omega) (fun _=>rfl) (fun _=>rfl)) (fun _=>rfl)
theorem O7{n b0 b1 b2 b3:Nat}(h0:b0<256)(h:eP (b0:Int)=0):jh n b0 b1 b2 b3=(65533,1):=by
 unfold eP at h
 have h1:¬b0<128:=by intro h9;rw[if_pos (by omega)]at h;omega
 rw[if_neg (by omega)]at h
 have h2:¬(192<=(b0:Int)/\(b0:Int)<224):=by intro h9;rw[if_pos (by omega)]at h;omega
 rw[if_neg h2]at h
 have h3:¬(224<=(b0:Int)/\(b0:Int)<240):=by intro h9;rw[if_pos (by omega)]at h;omega
 rw[if_neg h3]at h
 have h4:¬(240<=(b0:Int)/\(b0:Int)<248):=by intro h9;rw[if_pos (by omega)]at h;omega
 unfold jh
 rw[if_neg h1,if_neg (by omega),if_neg (by omega),if_neg (by omega)]
theorem uI(b:Int):(b<128/\eP b=1/\eU b=b)∨(192<=b/\b<224/\eP b=2/\eU b=b - 192)∨(224<=b/\b<240/\eP b=3/\eU b=b - 224)∨(240<=b/\b<248/\eP b=4/\eU b=b - 240)∨eP b=0:=by
 unfold eP eU
 by_cases a:b<128
 ·left;simp[a]
 by_cases c:192<=b/\b<224
 ·right;left;simp[a,c]
 by_cases d:224<=b/\b<240
 ·right;right;left;simp[a,c,d]
 by_cases e:240<=b/\b<248
 ·right;right;right;left;simp[a,c,d,e]
 ·right;right;right;right;simp[a,c,d,e]
theorem Cb{s:ByteArray}{p:Nat}(h:Utf8.decode s p=(65533,1)):iU s p=false:=by simp[iU,h]
theorem Oe{s:ByteArray}{p:Nat}(hp:p<s.size)(h:eP (bt s p)=0∨(s.size:Int)<(p:Int)+eP (bt s p)):iU s p=false:=by
 apply Cb
 rw[oK]
 have hb:=nY s p
 rcases uI (bt s p)with⟨a,e,_⟩ |⟨a,a',e,_⟩ |⟨a,a',e,_⟩ |⟨a,a',e,_⟩|e
 ·rw[e]at h;omega
 ·rw[e]at h;unfold bt at a a';unfold jh
  rw[if_neg (by omega),if_neg (by omega),if_neg (by omega),if_neg (by omega)]
 ·rw[e]at h;unfold bt at a a';unfold jh
  rw[if_neg (by omega),if_neg (by omega),if_neg (by omega),if_neg (by omega)]
 ·rw[e]at h;unfold bt at a a';unfold jh
  rw[if_neg (by omega),if_neg (by omega),if_neg (by omega),if_neg (by omega)]
 ·exact O7 (s.get! p).toNat_lt e
theorem Ob{s:ByteArray}{p k:Nat}(hk:((k+1:Nat):Int)<eP (bt s p))(h:bt s (p+1+k)<128∨191<bt s (p+1+k)):iU s p=false:=by
 apply Cb
 rw[oK]
 have hb:=nY s p
 have u1:=(s.get! (p+1)).toNat_lt;have u2:=(s.get! (p+2)).toNat_lt;have u3:=(s.get! (p+3)).toNat_lt
 have e3:k<=2:=by have:=Iy (bt s p);omega
 have hd:(k=0/\((s.get! (p+1)).toNat<128∨191<(s.get! (p+1)).toNat))∨(k=1/\((s.get! (p+2)).toNat<128∨191<(s.get! (p+2)).toNat))∨(k=2/\((s.get! (p+3)).toNat<128∨191<(s.get! (p+3)).toNat)):=by
  rcases(show k=0∨k=1∨k=2 by omega)with rfl | rfl | rfl
  ·left;unfold bt at h;simp only[Nat.add_zero]at h;exact⟨rfl,by omega⟩
  ·right;left;unfold bt at h;simp only[Nat.add_assoc,Nat.reduceAdd]at h;exact⟨rfl,by omega⟩
  ·right;right;unfold bt at h;simp only[Nat.add_assoc,Nat.reduceAdd]at h;exact⟨rfl,by omega⟩
 clear h
 rcases uI (bt s p)with⟨a,e,_⟩ |⟨a,a',e,_⟩ |⟨a,a',e,_⟩ |⟨a,a',e,_⟩|e
 ·rw[e]at hk;omega
 ·rw[e]at hk;unfold bt at a a';unfold jh
  rw[if_neg (by omega),if_neg (by omega),if_neg (by omega),if_neg (by omega)]
 ·rw[e]at hk;unfold bt at a a';unfold jh
  rw[if_neg (by omega),if_neg (by omega),if_neg (by omega),if_neg (by omega)]
 ·rw[e]at hk;unfold bt at a a';unfold jh
  rw[if_neg (by omega),if_neg (by omega),if_neg (by omega),if_neg (by omega)]
 ·rw[e]at hk;omega
theorem zl(r:Int):(r<128/\jv r=1)∨(128<=r/\r<2048/\jv r=2)∨(2048<=r/\r<65536/\jv r=3)∨(65536<=r/\jv r=4):=by
 unfold jv
 by_cases a:r<128
 ·left;simp[a]
 by_cases b:r<2048
 ·right;left;simp[a,b];omega
 by_cases c:r<65536
 ·right;right;left;simp[a,b,c];omega
 ·right;right;right;simp[a,b,c];omega
theorem fin{D:Nat × Nat}{r:Int}{n:Nat}(hn:n≠1∨r<128)(h0:0<=r)(h:jr r=true/\jv r=n->D=(r.toNat,n))(h':¬(jr r=true/\jv r=n)->D=(65533,1)):
  decide (D≠(65533,1))=(jr r&&decide (jv r=n))/\(decide (D≠(65533,1))=true->r=(D.1:Int)/\(n:Int)=(D.2:Int)):=by
 by_cases hc:jr r=true/\jv r=n
 ·rw[h hc]
  have hne:((r.toNat,n):Nat × Nat)≠(65533,1):=by
   intro e
   rw[Prod.mk.injEq]at e
   omega
  refine⟨?_,fun _=>⟨by dsimp only;omega,rfl⟩⟩
  rw[decide_eq_true hne,hc.1,decide_eq_true hc.2];rfl
 ·rw[h' hc]
  refine⟨?_,fun h=>absurd h (by simp)⟩
  have:(jr r&&decide (jv r=n))=false:=by
   rcases Bool.eq_false_or_eq_true (jr r)with e | e
   ·rw[e,decide_eq_false (fun e2=>hc ⟨e,e2⟩)];rfl
   ·rw[e];rfl
  rw[this];simp
theorem Og{s:ByteArray}{p k:Nat}(hn:eP (bt s p)=(k+1:Nat))(hs:p+1+k<=s.size)(hc:tH s p k):
  iU s p=(jr (acc s p (eU (bt s p)) k)&&decide (jv (acc s p (eU (bt s p)) k)=(k+1:Nat)))/\
  (iU s p=true->acc s p (eU (bt s p)) k=((Utf8.decode s p).1:Int)/\((k+1:Nat):Int)=((Utf8.decode s p).2:Int)):=by
 have u1:=(s.get! (p+1)).toNat_lt;have u2:=(s.get! (p+2)).toNat_lt;have u3:=(s.get! (p+3)).toNat_lt
 have a0:=hc 0;have a1:=hc 1;have a2:=hc 2
 unfold iU
 rw[oK]
 have hsz:=zl (acc s p (eU (bt s p)) k)
 have jo:jr (acc s p (eU (bt s p)) k)=true↔((0<=acc s p (eU (bt s p)) k/\acc s p (eU (bt s p)) k<=1114111)/\¬(55296<=acc s p (eU (bt s p)) k/\acc s p (eU (bt s p)) k<=57343)):=by unfold jr;exact decide_eq_true_iff
 rcases uI (bt s p)with⟨a,e,er⟩ |⟨a,a',e,er⟩ |⟨a,a',e,er⟩ |⟨a,a',e,er⟩|e
 ·have hk:k=0:=by rw[e]at hn;omega
  subst hk
  rw[er]at hsz jo ⊢
  simp only[acc]at hsz jo ⊢
  have hb:=nY s p
  unfold bt at a hsz jo hb ⊢
  refine fin (by omega) (by omega) (fun h=> ?_) (fun h=> ?_)
  ·unfold jh;rw[if_pos (by omega)];rfl
  ·exfalso;apply h;rw[jo];omega
 ·have hk:k=1:=by rw[e]at hn;omega
  subst hk
  have a0:=a0 (by omega)
  rw[er]at hsz jo ⊢
  have er':acc s p (bt s p - 192) 1=64*(bt s p - 192)+bt s (p+1) - 128:=rfl
  generalize acc s p (bt s p - 192) 1=r at hsz jo er' ⊢
  simp only[Nat.add_zero]at a0
  unfold bt at a a' a0 er'
  refine fin (by omega) (by omega) (fun h=> ?_) (fun h=> ?_)
  ·rw[jo]at h
   unfold jh
   rw[if_neg (by omega),if_pos (by omega),if_pos (by omega),Prod.mk.injEq]
   exact⟨by omega,rfl⟩
  ·rw[jo]at h
   unfold jh
   rw[if_neg (by omega),if_pos (by omega),if_neg (by omega)]
 ·have hk:k=2:=by rw[e]at hn;omega
  subst hk
  have a0:=a0 (by omega)
  have a1:=a1 (by omega)
  rw[er]at hsz jo ⊢
  have er':acc s p (bt s p - 224) 2=64*(64*(bt s p - 224)+bt s (p+1) - 128)+bt s (p+2) - 128:=rfl
  generalize acc s p (bt s p - 224) 2=r at hsz jo er' ⊢
  simp only[Nat.add_zero,Nat.add_assoc,Nat.reduceAdd]at a0 a1
  unfold bt at a a' a0 a1 er'
  refine fin (by omega) (by omega) (fun h=> ?_) (fun h=> ?_)
  ·rw[jo]at h
   unfold jh
   rw[if_neg (by omega),if_neg (by omega),if_pos (by omega),if_pos (by omega),Prod.mk.injEq]
   exact⟨by omega,rfl⟩
  ·rw[jo]at h
   unfold jh
   rw[if_neg (by omega),if_neg (by omega),if_pos (by omega),if_neg (by omega)]
 ·have hk:k=3:=by rw[e]at hn;omega
  subst hk
  have a0:=a0 (by omega)
  have a1:=a1 (by omega)
  have a2:=a2 (by omega)
  rw[er]at hsz jo ⊢
  have er':acc s p (bt s p - 240) 3=64*(64*(64*(bt s p - 240)+bt s (p+1) - 128)+bt s (p+2) - 128)+bt s (p+3) - 128:=rfl
  generalize acc s p (bt s p - 240) 3=r at hsz jo er' ⊢
  simp only[Nat.add_zero,Nat.add_assoc,Nat.reduceAdd]at a0 a1 a2
  unfold bt at a a' a0 a1 a2 er'
  refine fin (by omega) (by omega) (fun h=> ?_) (fun h=> ?_)
  ·rw[jo]at h
   unfold jh
   rw[if_neg (by omega),if_neg (by omega),if_neg (by omega),if_pos (by omega),if_pos (by omega),Prod.mk.injEq]
   exact⟨by omega,rfl⟩
  ·rw[jo]at h
   unfold jh
   rw[if_neg (by omega),if_neg (by omega),if_neg (by omega),if_pos (by omega),if_neg (by omega)]
 ·rw[e]at hn;omega
theorem Qh{s:ByteArray}{p:Nat}(h:(Utf8.decode s p).1=65533):
  iU s p=decide (3<=s.size - p/\bt s p=239/\bt s (p+1)=191/\bt s (p+2)=189):=by
 have u0:=(s.get! p).toNat_lt;have u1:=(s.get! (p+1)).toNat_lt;have u2:=(s.get! (p+2)).toNat_lt;have u3:=(s.get! (p+3)).toNat_lt
 unfold iU bt
 rw[oK]at h ⊢
 unfold jh at h ⊢
 by_cases c1:(s.get! p).toNat<128
 ·rw[if_pos c1]at h;simp only at h;omega
 rw[if_neg c1]at h ⊢
 by_cases c2:(s.get! p).toNat/32=6/\1<s.size - p/\(s.get! (p+1)).toNat/64=2
 ·rw[if_pos c2]at h ⊢
  split at h
  ·simp only at h;omega
  ·rw[if_neg (by assumption)];simp;omega
 rw[if_neg c2]at h ⊢
 by_cases c3:(s.get! p).toNat/16=14/\(1<s.size - p/\(s.get! (p+1)).toNat/64=2)/\(2<s.size - p/\(s.get! (p+2)).toNat/64=2)
 ·rw[if_pos c3]at h ⊢
  split at h
  ·rw[if_pos (by assumption)]
   simp only at h
   simp;omega
  ·rw[if_neg (by assumption)];simp;omega
 rw[if_neg c3]at h ⊢
 by_cases c4:(s.get! p).toNat/8=30/\(1<s.size - p/\(s.get! (p+1)).toNat/64=2)/\(2<s.size - p/\(s.get! (p+2)).toNat/64=2)/\(3<s.size - p/\(s.get! (p+3)).toNat/64=2)
 ·rw[if_pos c4]at h ⊢
  split at h
  ·simp only at h;omega
  ·rw[if_neg (by assumption)];simp;omega
 rw[if_neg c4];simp;omega
theorem Oc{s:ByteArray}{p:Nat}(h:(Utf8.decode s p).1≠65533):iU s p=true:=by
 unfold iU
 rw[decide_eq_true_iff]
 intro e
 rw[e]at h
 exact h rfl
end U
end Go.Proofs.YtmnfokgllcdiiaaGreat
namespace Go.Proofs.YtmnfokgllcdiiaaGreat
open Go.RowKit
namespace U
theorem jd{v lo hi:Int}(h1:lo<=v)(h2:v<=hi):inB v lo hi=true:=by unfold inB;simp;omega
theorem lC{v lo hi:Int}(h:v<lo∨hi<v):inB v lo hi=false:=by unfold inB;simp;omega
theorem aO{a b:Bool}(h:a=b):Ending.returned (.bool a) = .returned (.bool b):=by rw[h]
theorem aG{k:IntKind}{a b:Int}(h:a=b):Ending.returned (.int k a) = .returned (.int k b):=by rw[h]
theorem bY(v lo hi:Int)(w:World):
  Calls Tryz.prog 98 #[.int .i64 v,.int .i64 lo,.int .i64 hi] w fun e w'=>e = .returned (.bool (inB v lo hi))/\w'=w:=by
 by_cases h1:lo<=v
 ·by_cases h2:v<=hi
  ·go_enter Tryz.func98,Tryz.ntmps98
   go_wp2
   go_ret
   exact⟨aO (jd h1 h2).symm,rfl⟩
  ·have h2:hi<v:=by omega
   go_enter Tryz.func98,Tryz.ntmps98
   go_wp2
   go_ret
   exact⟨aO (lC (Or.inr h2)).symm,rfl⟩
 ·have h1:v<lo:=by omega
  go_enter Tryz.func98,Tryz.ntmps98
  go_wp2
  go_ret
  exact⟨aO (lC (Or.inl h1)).symm,rfl⟩
theorem ug(r:Int)(w:World):
  Calls Tryz.prog 295 #[.int .i64 r] w fun e w'=>e = .returned (.int .i64 (jv r))/\w'=w:=by
 rcases zl r with⟨h,e⟩ |⟨h1,h,e⟩ |⟨h1,h,e⟩ |⟨h,e⟩
 all_goals
  rw[e];clear e
  go_enter Tryz.func295,Tryz.ntmps295
  go_wp2
  go_ret
  exact⟨rfl,rfl⟩
theorem UO{r:Int}(h:inB r 0 1114111=true)(h2:inB r 55296 57343=false):jr r=true:=by unfold jr inB at *;simp at *;omega
theorem MC{r:Int}(h:inB r 0 1114111=false∨inB r 55296 57343=true):jr r=false:=by unfold jr inB at *;simp at *;omega
theorem uf(r:Int)(w:World):
  Calls Tryz.prog 294 #[.int .i64 r] w fun e w'=>e = .returned (.bool (jr r))/\w'=w:=by
 rcases Bool.eq_false_or_eq_true (inB r 0 1114111)with h1 | h1
 ·rcases Bool.eq_false_or_eq_true (inB r 55296 57343)with h2 | h2
  ·rw[MC (Or.inr h2)]
   go_enter Tryz.func294,Tryz.ntmps294
   go_wp2_with (go_at_call 98;refine(bY _ _ _ _).mono ?_;rintro e w' ⟨rfl,rfl⟩)
   go_ret
   exact⟨rfl,rfl⟩
  ·rw[UO h1 h2]
   go_enter Tryz.func294,Tryz.ntmps294
   go_wp2_with (go_at_call 98;refine(bY _ _ _ _).mono ?_;rintro e w' ⟨rfl,rfl⟩)
   go_ret
   exact⟨rfl,rfl⟩
 ·rw[MC (Or.inl h1)]
  go_enter Tryz.func294,Tryz.ntmps294
  go_wp2_with (go_at_call 98;refine(bY _ _ _ _).mono ?_;rintro e w' ⟨rfl,rfl⟩)
  go_ret
  exact⟨rfl,rfl⟩
theorem KF(b:Int):(b<128/\eP b=1/\eU b=b)∨(192<=b/\b<224/\eP b=2/\eU b=b - 192)∨(224<=b/\b<240/\eP b=3/\eU b=b - 224)∨(240<=b/\b<248/\eP b=4/\eU b=b - 240)∨(128<=b/\b<192/\eP b=0/\eU b=0)∨(248<=b/\eP b=0/\eU b=0):=by
 unfold eP eU
 by_cases a:b<128
 ·left;simp[a]
 by_cases c:192<=b/\b<224
 ·right;left;simp[a,c]
 by_cases d:224<=b/\b<240
 ·right;right;left;simp[a,c,d]
 by_cases e:240<=b/\b<248
 ·right;right;right;left;simp[a,c,d,e]
 ·right;right;right;right;simp[a,c,d,e];omega
theorem NQ(b:Int)(w:World)(h0:0<=b)(h1:b<=255):
  Calls Tryz.prog 293 #[.int .i64 b] w fun e w'=>e = .returned (.tuple #[.int .i64 (eP b),.int .i64 (eU b)])/\w'=w:=by
 rcases KF b with⟨h,e,f⟩ |⟨h,h',e,f⟩ |⟨h,h',e,f⟩ |⟨h,h',e,f⟩ |⟨h,h',e,f⟩ |⟨h,e,f⟩
 all_goals
  rw[e,f];clear e f
  go_enter Tryz.func293,Tryz.ntmps293
  go_wp2
  go_ret2
  exact⟨rfl,rfl⟩
theorem Us(s:ByteArray)(p:Nat)(N R:Int)(w:World)(hp:p<s.size)(hs:s.size<=1048576)(hN0:0<=N)(Zd:N<=4)
  (hL:∀w,Calls Tryz.prog 293 #[.int .i64 (bt s p)] w fun e w'=>e = .returned (.tuple #[.int .i64 N,.int .i64 R])/\w'=w)
  (h:N=0∨(s.size:Int)<(p:Int)+N) :
  Calls Tryz.prog 258 #[.string s,.int .i64 p] w fun e w'=>e = .returned (.tuple #[.int .i64 0,.int .i64 0,.bool false])/\w'=w:=by
 have hb:=nY s p
 have hbt:((s[p]'hp).toNat:Int)=bt s p:=(MQ s p hp).symm
 by_cases h0:N=0
 ·subst h0
  go_enter Tryz.func258,Tryz.ntmps258
  go_wp2_with (go_at_call 293;refine(hL _).mono ?_;rintro e w' ⟨rfl,rfl⟩)
  go_ret3
  exact⟨rfl,rfl⟩
 ·have hn:(N==0)=false:=by simpa using h0
  have hlt:(s.size:Int)<(p:Int)+N:=by omega
  clear h h0
  go_enter Tryz.func258,Tryz.ntmps258
  go_wp2_with (go_at_call 293;refine(hL _).mono ?_;rintro e w' ⟨rfl,rfl⟩)
  go_ret3
  exact⟨rfl,rfl⟩
theorem PX(s:ByteArray)(p:Nat)(N R:Int)(w:World)(hp:p<s.size)(hs:s.size<=1048576)(hN0:1<=N)(Zd:N<=4)(hR0:0<=R)(hR1:R<128)
  (hL:∀w,Calls Tryz.prog 293 #[.int .i64 (bt s p)] w fun e w'=>e = .returned (.tuple #[.int .i64 N,.int .i64 R])/\w'=w)
  (h:(p:Int)+N<=(s.size:Int)) :
  Calls Tryz.prog 258 #[.string s,.int .i64 p] w fun e w'=>w'=w/\∃k:Nat,
   (((k:Int)+1<N/\(bt s (p+1+k)<128∨191<bt s (p+1+k))/\e = .returned (.tuple #[.int .i64 0,.int .i64 0,.bool false]))∨
   (N=(k+1:Nat)/\tH s p k/\e = .returned (.tuple #[.int .i64 (acc s p R k),.int .i64 N,.bool (jr (acc s p R k)&&decide (jv (acc s p R k)=N))]))):=by
 have hb:=nY s p
 have hbt:((s[p]'hp).toNat:Int)=bt s p:=(MQ s p hp).symm
 have hn:(N==0)=false:=by simp;omega
 go_enter Tryz.func258,Tryz.ntmps258
 go_wp2_with (go_at_call 293;refine(hL _).mono ?_;rintro e w' ⟨rfl,rfl⟩)
 go_loop [8,9] (fun r i=>∃q k:Nat,Hid (q=p+1+k)/\(k:Int)+1<=N/\i = .int .i64 q/\r = .int .i64 (acc s p R k)/\tH s p k) (fun _ i=>(p+4) - (intOf i).toNat)
 case atStart=>exact⟨p+1,0,rfl,by omega,by go_num,rfl,MV _ _⟩
 case round=>
  obtain⟨q,k,hq,hk,rfl,rfl,hc⟩:=hrel
  have hqp:p<q:=by have:=hq.out;omega
  have hbd:=VB hc hR0 hR1 (by omega)
  have hkq:(q:Int)=p+1+k:=by have:=hq.out;omega
  have HK:Hid ((q:Int)=p+1+k):=hkq
  by_cases hlt:(k:Int)+1<N
  ·have Yc:q<s.size:=by omega
   have hlt2:(q:Int)<(p:Int)+N:=by omega
   have hbq:=nY s q
   have ZV:((s[q]'Yc).toNat:Int)=bt s q:=(MQ s q Yc).symm
   clear hkq hlt
   by_cases h1:bt s q<128
   ·go_wp2
    go_ret3
    refine⟨rfl,k,Or.inl ⟨by have:=HK.out;omega, ?_,rfl⟩⟩
    rw[←hq.out];exact Or.inl h1
   ·by_cases h2:191<bt s q
    ·go_wp2
     go_ret3
     refine⟨rfl,k,Or.inl ⟨by have:=HK.out;omega, ?_,rfl⟩⟩
     rw[←hq.out];exact Or.inr h2
    ·go_wp2
     go_round
     case rel=>
      refine⟨q+1,k+1,(by have:=hq.out;show q+1=p+1+(k+1);omega),by have:=HK.out;omega,by go_num, ?_,MS hc (by rw[←hq.out];omega) (by rw[←hq.out];omega)⟩
      rw[show acc s p R (k+1)=64*acc s p R k+bt s q - 128 by rw[hq.out];rfl]
     case measure=>simp[intOf];omega
  ·have hN:N=(k+1:Nat):=by omega
   have HN:Hid (N=(k+1:Nat)):=hN
   have hge:(p:Int)+N<=(q:Int):=by omega
   clear hkq hlt hN
   rcases Bool.eq_false_or_eq_true (jr (acc s p R k))with h1 | h1
   ·rcases Bool.eq_false_or_eq_true (decide (jv (acc s p R k)=N))with h2 | h2
    ·have h3:(jv (acc s p R k)==N)=true:=by simpa using h2
     go_wp2_with (first |(go_at_call 294;refine(uf _ _).mono ?_;rintro e w' ⟨rfl,rfl⟩) |(go_at_call 295;refine(ug _ _).mono ?_;rintro e w' ⟨rfl,rfl⟩))
     go_ret3
     exact⟨rfl,k,Or.inr ⟨HN.out,hc,by rw[h1,h2];rfl⟩⟩
    ·have h3:(jv (acc s p R k)==N)=false:=by simpa using h2
     go_wp2_with (first |(go_at_call 294;refine(uf _ _).mono ?_;rintro e w' ⟨rfl,rfl⟩) |(go_at_call 295;refine(ug _ _).mono ?_;rintro e w' ⟨rfl,rfl⟩))
     go_ret3
     exact⟨rfl,k,Or.inr ⟨HN.out,hc,by rw[h1,h2];rfl⟩⟩
   ·go_wp2_with (first |(go_at_call 294;refine(uf _ _).mono ?_;rintro e w' ⟨rfl,rfl⟩) |(go_at_call 295;refine(ug _ _).mono ?_;rintro e w' ⟨rfl,rfl⟩))
    go_ret3
    exact⟨rfl,k,Or.inr ⟨HN.out,hc,by rw[h1];rfl⟩⟩
theorem Ii(s:ByteArray)(p:Nat)(w:World)(hp:p<s.size)(hs:s.size<=1048576):
  Calls Tryz.prog 258 #[.string s,.int .i64 p] w fun e w'=>w'=w/\∃r n:Int,e = .returned (.tuple #[.int .i64 r,.int .i64 n,.bool (iU s p)])/\(iU s p=true->r=((Utf8.decode s p).1:Int)/\n=((Utf8.decode s p).2:Int)):=by
 have hb:=nY s p
 have hN:=Iy (bt s p)
 have hR:=RG (bt s p) hb.1
 have hL:=fun w=>NQ (bt s p) w hb.1 hb.2
 by_cases hsh:eP (bt s p)=0∨(s.size:Int)<(p:Int)+eP (bt s p)
 ·have hok:=Oe hp hsh
  refine(Us s p _ _ w hp hs hN.1 hN.2 hL hsh).mono ?_
  rintro e w' ⟨rfl,rfl⟩
  exact⟨rfl,0,0,by rw[hok],fun h=>by rw[hok]at h;cases h⟩
 ·refine(PX s p _ _ w hp hs (by omega) hN.2 hR.1 hR.2 hL (by omega)).mono ?_
  rintro e w' ⟨rfl,k,⟨hk,hbr,rfl⟩ |⟨hk,hc,rfl⟩⟩
  ·have hok:=Ob (by omega) hbr
   exact⟨rfl,0,0,by rw[hok],fun h=>by rw[hok]at h;cases h⟩
  ·have hw:=Og hk (by omega) hc
   refine⟨rfl,acc s p (eU (bt s p)) k,eP (bt s p), ?_,fun h=>⟨(hw.2 h).1, ?_⟩⟩
   ·rw[hw.1,hk]
   ·rw[hk];exact(hw.2 h).2
theorem jQ(s:ByteArray)(i:Nat):bt s i=((s.data.toList.getD i 0).toNat:Int):=by
 unfold bt
 congr 2
 show s.data[i]! = _
 by_cases h:i<s.data.size
 ·rw[getElem!_pos s.data i h];simp only[List.getD_eq_getElem?_getD,Array.getElem?_toList,Array.getElem?_eq_getElem h,Option.getD_some]
 ·rw[getElem!_neg s.data i h];simp only[List.getD_eq_getElem?_getD,Array.getElem?_toList,Array.getElem?_eq_none (Nat.le_of_not_lt h),Option.getD_none];rfl
def xu(t:ByteArray):Bool:=decide (3<=t.size/\bt t 0=239/\bt t 1=191/\bt t 2=189)
theorem OB(a:UInt8)(n:Nat)(hn:n<256):(a==(UInt8.ofNat n))=decide ((a.toNat:Int)=(n:Int)):=by
 rw[Bool.eq_iff_iff,decide_eq_true_iff,beq_iff_eq,UInt8.toNat_inj.symm,UInt8.toNat_ofNat']
 omega
theorem Qn(L:List UInt8)(h:3<=L.length):(L.take 3==[239,191,189])=decide (((L.getD 0 0).toNat:Int)=239/\((L.getD 1 0).toNat:Int)=191/\((L.getD 2 0).toNat:Int)=189):=by
 match L,h with
 | a::b::c::r,_=>
  show((a==239)&&((b==191)&&((c==189)&&true)))=_
  rw[show(239:UInt8)=UInt8.ofNat 239 from rfl,show(191:UInt8)=UInt8.ofNat 191 from rfl,show(189:UInt8)=UInt8.ofNat 189 from rfl,OB a 239 (by omega),OB b 191 (by omega),OB c 189 (by omega)]
  rw[Bool.eq_iff_iff]
  simp
theorem UJ(t:ByteArray)(h:3<=t.size):((t.extract 0 3).toList==[239,191,189])=xu t:=by
 rw[Lib.extract_toList]
 have hl:=Lib.size_eq t
 simp only[List.drop_zero,Nat.sub_zero]
 rw[Qn _ (by omega)]
 unfold xu
 rw[jQ,jQ,jQ,Bool.eq_iff_iff,decide_eq_true_iff,decide_eq_true_iff]
 exact⟨fun x=>⟨h,x⟩,fun x=>x.2⟩
theorem EY(t:ByteArray)(w:World)(ht:t.size<=1048576):
  Calls Tryz.prog 296 #[.string t,.string ⟨#[239,191,189]⟩] w fun e w'=>e = .returned (.bool (xu t))/\w'=w:=by
 by_cases h:3<=t.size
 ·go_enter Tryz.func296,Tryz.ntmps296
  go_wp2
  go_ret
  exact⟨aO (UJ t h),rfl⟩
 ·go_enter Tryz.func296,Tryz.ntmps296
  go_wp2
  go_ret
  exact⟨aO (by unfold xu;simp;omega),rfl⟩
theorem nJ(t:ByteArray)(w:World)(ht:t.size<=1048576):
  Calls Tryz.prog 263 #[.string t,.string ⟨#[239,191,189]⟩] w fun e w'=>e = .returned (.bool (xu t))/\w'=w:=by
 go_enter Tryz.func263,Tryz.ntmps263
 go_wp2_with (go_at_call 296;refine(EY _ _ ht).mono ?_;rintro e w' ⟨rfl,rfl⟩)
 go_ret
 exact⟨rfl,rfl⟩
theorem Fg(t:ByteArray)(r:Int)(w:World)(ht:t.size<=1048576):
  Calls Tryz.prog 217 #[.string t,.int .i32 r] w fun e w'=>e = .returned (.bool ((r != 65533)||xu t))/\w'=w:=by
 rcases Bool.eq_false_or_eq_true (r != 65533)with h | h
 ·rw[h]
  go_enter Tryz.func217,Tryz.ntmps217
  go_wp2_with (go_at_call 263;refine(nJ _ _ ht).mono ?_;rintro e w' ⟨rfl,rfl⟩)
  go_ret
  exact⟨rfl,rfl⟩
 ·rw[h]
  go_enter Tryz.func217,Tryz.ntmps217
  go_wp2_with (go_at_call 263;refine(nJ _ _ ht).mono ?_;rintro e w' ⟨rfl,rfl⟩)
  go_ret
  exact⟨rfl,rfl⟩
theorem tu(s:ByteArray)(p j:Nat):bt (s.extract p s.size) j=bt s (p+j):=by
 rw[jQ,jQ,Lib.extract_data]
 congr 2
 have hl:=Lib.size_eq s
 simp only[List.getD_eq_getElem?_getD,List.getElem?_take,List.getElem?_drop]
 split
 ·rfl
 ·rw[List.getElem?_eq_none (by omega)]
theorem OC(s:ByteArray)(p:Nat):((((Utf8.decode s p).1:Int) != 65533)||xu (s.extract p s.size))=iU s p:=by
 by_cases h:(Utf8.decode s p).1=65533
 ·rw[Qh h,h]
  unfold xu
  rw[tu,tu,tu]
  have:(s.extract p s.size).size=s.size - p:=by simp
  rw[this]
  simp
 ·rw[Oc h]
  have:(((Utf8.decode s p).1:Int) != 65533)=true:=by simp;omega
  rw[this];rfl
theorem wQ(s:ByteArray)(p:Nat)(w:World)(hs:s.size<=1048576):
  Calls Tryz.prog 217 #[.string (s.extract p s.size),.int .i32 ((Utf8.decode s p).1:Int)] w fun e w'=>e = .returned (.bool (iU s p))/\w'=w:=by
 have h:=Fg (s.extract p s.size) ((Utf8.decode s p).1:Int) w (by simp;omega)
 rw[OC]at h
 exact h
def jf(s:ByteArray):Nat->Nat->Option (List Int)
 | 0,_=>some []
 | f+1,p=>if p<s.size then(if iU s p=true then(jf s f (p+(Utf8.decode s p).2)).map (((Utf8.decode s p).1:Int) :: ·)else none)else some []
def runes(s:ByteArray):Option (List Int):=jf s s.size 0
theorem MX(n b0 b1 b2 b3:Nat):1<=(jh n b0 b1 b2 b3).2/\(jh n b0 b1 b2 b3).2<=4:=by
 unfold jh
 repeat' split
 all_goals exact⟨by dsimp only;omega,by dsimp only;omega⟩
theorem width(s:ByteArray)(p:Nat):1<=(Utf8.decode s p).2/\(Utf8.decode s p).2<=4:=by rw[oK];exact MX _ _ _ _ _
theorem Cj{s:ByteArray}{f p:Nat}(h:¬p<s.size):jf s f p=some []:=by
 cases f with
 | zero=>rfl
 | succ f=>simp[jf,h]
theorem EH{s:ByteArray}{f p:Nat}(h:p<s.size)(hok:iU s p=false):jf s (f+1) p=none:=by
 simp[jf,h,hok]
theorem Cm{s:ByteArray}{f p:Nat}(h:p<s.size)(hok:iU s p=true):jf s (f+1) p=(jf s f (p+(Utf8.decode s p).2)).map (((Utf8.decode s p).1:Int) :: ·):=by
 simp[jf,h,hok]
def Rest(s:ByteArray)(p f:Nat)(acc:List Int):Prop:=s.size<=p+f/\acc.length<=p/\(jf s f p).map (acc ++ ·)=runes s
theorem Rest.start(s:ByteArray):Rest s 0 s.size []:=⟨by omega,by simp,by unfold runes;cases jf s s.size 0<;>rfl⟩
theorem Rest.fuel{s:ByteArray}{p f:Nat}{acc:List Int}(h:Rest s p f acc)(hp:p<s.size):∃g,f=g+1:=⟨f - 1,by have:=h.1;omega⟩
theorem Rest.no{s:ByteArray}{p f:Nat}{acc:List Int}(h:Rest s p f acc)(hp:p<s.size)(hok:iU s p=false):runes s=none:=by
 obtain⟨g,rfl⟩:=h.fuel hp
 rw[←h.2.2,EH hp hok];rfl
theorem Rest.done{s:ByteArray}{p f:Nat}{acc:List Int}(h:Rest s p f acc)(hp:¬p<s.size):runes s=some acc:=by
 rw[←h.2.2,Cj hp];simp
theorem Rest.step{s:ByteArray}{p f:Nat}{acc:List Int}(h:Rest s p f acc)(hp:p<s.size)(hok:iU s p=true):∃g,Rest s (p+(Utf8.decode s p).2) g (acc++[((Utf8.decode s p).1:Int)]):=by
 obtain⟨g,rfl⟩:=h.fuel hp
 have hw:=width s p
 refine⟨g,by have:=h.1;omega,by have:=h.2.1;simp;omega, ?_⟩
 rw[←h.2.2,Cm hp hok]
 cases jf s g (p+(Utf8.decode s p).2)<;>simp
theorem Et(xs:List Int)(x:Int):(xs++[x]).map (Value.int .i64)=xs.map (Value.int .i64)++[.int .i64 x]:=by simp
theorem Tryz.DL:(Tryz.prog.info? 2).map (fun i=>(i.zero,i.size,i.bytes))=some (some (.int .i64 0),1,8):=by kernel_rfl
theorem one_cell(k:IntKind)(x:Int):∀u∈[Value.int k x],u.oneCell'=true:=by
 intro u hu
 simp at hu;subst hu;rfl
theorem grown_below{B:Nat}{w wr w1:World}{e:TypeId}{size n:Nat}{v:Value}{xs:List Value}{o:Obj}(hb:Below B w wr)(hown:wr.ownsRow B e size v n xs)(hg:(wr.alloc o).grownBy w1 v.ownBlock)(hB:B<=wr.heap.size):Below B w w1:=
 (hb.alloc hB o).grown hg (by simp;omega) (fun k hk=>(hown.lt k hk).1)
theorem yV(s:ByteArray)(w:World)(hs:s.size<=1048576):
  Calls Tryz.prog 210 #[.string s] w fun e w'=>Below w.heap.size w w'/\((runes s=none/\e = .returned (.tuple #[.slice none 0 0,.bool false]))∨
   ∃xs v,runes s=some xs/\xs.length<=s.size+4/\e = .returned (.tuple #[v,.bool true])/\w'.ownsRow w.heap.size 2 1 v xs.length (xs.map (Value.int .i64))):=by
 obtain⟨i0,hi,hz0,hz1,hz2⟩:=info_parts Tryz.DL
 go_enter Tryz.func210,Tryz.ntmps210
 go_wp2
 go_loopw [4,5] (fun v i wr=>∃(p f:Nat)(acc:List Int),i = .int .i64 p/\p<=s.size+4/\Hid (Rest s p f acc)/\Below w.heap.size w wr/\wr.ownsRow w.heap.size 2 1 v acc.length (acc.map (Value.int .i64))) (fun _ i _=>s.size - (intOf i).toNat)
 case atStart=>
  exact⟨0,s.size,[],rfl,by omega,Rest.start s,(Below.refl _ _).alloc (Nat.le_refl _) _,World.ownsRow_lit w #[] 0 (Nat.le_refl _) (by decide) rfl⟩
 case round=>
  obtain⟨p,f,acc,rfl,Zk,hR,hbel,hown⟩:=hrel
  by_cases hp:p<s.size
  ·have hw:=width s p
   have hal:acc.length<=p:=hR.out.2.1
   rcases Bool.eq_false_or_eq_true (iU s p)with hok | hok
   ·go_wp2_with (first
     |(go_at_call 258;refine(Ii s p _ hp hs).mono ?_;rintro e w' ⟨rfl,r,n,rfl,hrn⟩;obtain⟨rfl,rfl⟩:=hrn hok;clear hrn)
     |(at_builtin;refine wpList_append_own _ rfl _ _ 61 rfl w.heap.size 2 i0 (.int .i64 0) 1 8 Tryz.underlying61 hi hz0 hz1 hz2 rfl (by decide) _ _ _ rfl (hown.alloc _) ⟨w'.heap.size,0,none⟩ 1 1 [.int .i64 ((Utf8.decode s p).1:Int)] rfl rfl (cell_one_new _ _ _) (one_cell _ _) (by unfold maxLen;omega) (by omega) (by have:=hbel.size;simp;omega) ?_))
    intro v' w1 hown' hgrow _
    have hb1:Below w.heap.size w w1:=grown_below hbel hown hgrow hbel.size
    clear hgrow
    go_wp2
    go_roundw
    case rel=>
     obtain⟨g,hg⟩:=hR.out.step hp hok
     exact⟨p+(Utf8.decode s p).2,g,acc++[((Utf8.decode s p).1:Int)],by go_num,by omega,hg,hb1,by rw[Et,List.length_append];exact hown'⟩
    case measure=>simp[intOf];omega
   ·go_wp2_with (first
     |(go_at_call 258;refine(Ii s p _ hp hs).mono ?_;rintro e w' ⟨rfl,r,n,rfl,hrn⟩;clear hrn))
    go_ret2
    exact⟨hbel,Or.inl ⟨hR.out.no hp hok,rfl⟩⟩
  ·go_wp2
   go_ret2
   exact⟨hbel,Or.inr ⟨acc,_,hR.out.done hp,by have:=hR.out.2.1;omega,rfl,hown⟩⟩
theorem aQ{w:World}{B n size:Nat}{e:TypeId}{v:Value}{xs:List Value}(h:w.ownsRow B e size v n xs):∃a c,v = .slice a n c:=by
 rcases h.2 with⟨rfl,rfl⟩ |⟨g,cap,cur,rfl,_⟩
 ·exact⟨none,0,rfl⟩
 ·exact⟨_,cap,rfl⟩
theorem Ij(s:ByteArray)(w:World)(hs:s.size<=1048576)(hr:runes s=none):
  Calls Tryz.prog 210 #[.string s] w fun e w'=>e = .returned (.tuple #[.slice none 0 0,.bool false])/\Below w.heap.size w w':=by
 refine(yV s w hs).mono ?_
 rintro e w' ⟨hb,⟨_,rfl⟩ |⟨xs,v,h2,_⟩⟩
 ·exact⟨rfl,hb⟩
 ·rw[hr]at h2;cases h2
theorem Ik(s:ByteArray)(w:World)(xs:List Int)(hs:s.size<=1048576)(hr:runes s=some xs):
  Calls Tryz.prog 210 #[.string s] w fun e w'=>∃a c,e = .returned (.tuple #[.slice a xs.length c,.bool true])/\Below w.heap.size w w'/\w'.ownsRow w.heap.size 2 1 (.slice a xs.length c) xs.length (xs.map (Value.int .i64)):=by
 refine(yV s w hs).mono ?_
 rintro e w' ⟨hb,⟨h2,rfl⟩ |⟨ys,v,h2,_,rfl,hown⟩⟩
 ·rw[hr]at h2;cases h2
 ·rw[hr]at h2;cases h2
  obtain⟨a,c,rfl⟩:=aQ hown
  exact⟨a,c,rfl,hb,hown⟩
theorem xG{s:ByteArray}{xs:List Int}(h:runes s=some xs):xs.length<=s.size:=by
 have key:∀f p (ys:List Int),jf s f p=some ys->ys.length<=s.size - p:=by
  intro f
  induction f with
  | zero=>intro p ys h;simp[jf]at h;subst h;simp
  | succ f ih=>
   intro p ys h
   by_cases hp:p<s.size
   ·rcases Bool.eq_false_or_eq_true (iU s p)with hok | hok
    ·rw[Cm hp hok]at h
     obtain⟨zs,hz,rfl⟩:=Option.map_eq_some_iff.1 h
     have:=ih _ _ hz
     have hw:=width s p
     simp;omega
    ·rw[EH hp hok]at h;cases h
   ·rw[Cj hp]at h;cases h;simp
 simpa using key _ _ _ h
def rP(s:ByteArray):Int × List Int:=if 200<s.size then(2,[])else match runes s with | none=>(5,[])|some xs=>(0,xs)
theorem MP{W w1:World}(hb:Below W.heap.size W w1):(∀b o,b<W.heap.size->w1.cell? ⟨b,o,none⟩=W.cell? ⟨b,o,none⟩)/\(∀b o,b<W.heap.size->w1.frozen? ⟨b,o,none⟩=W.frozen? ⟨b,o,none⟩):=
 ⟨fun b o h=>hb.cell (p:=⟨b,o,none⟩) h,fun b o h=>hb.frozen (p:=⟨b,o,none⟩) h⟩
def Di(w:World)(code:Int)(xs:List Int)(e:Ending)(w':World):Prop:=
 Below w.heap.size w w'/\∃v,e = .returned (.agg #[.int .i64 code,v])/\w'.ownsRow w.heap.size 2 1 v xs.length (xs.map (Value.int .i64))
theorem Ws{s:ByteArray}(h:200<s.size):rP s=(2,[]):=by simp[rP,h]
theorem L9{s:ByteArray}(h:¬ 200<s.size)(hr:runes s=none):rP s=(5,[]):=by simp[rP,h,hr]
theorem Mc{s:ByteArray}{xs:List Int}(h:¬ 200<s.size)(hr:runes s=some xs):rP s=(0,xs):=by simp[rP,h,hr]
theorem own_below{w w':World}{B n size:Nat}{e:TypeId}{v:Value}{xs:List Value}(h:w.ownsRow B e size v n xs)(hb:Below w.heap.size w w'):w'.ownsRow B e size v n xs:=by
 refine⟨h.1, ?_⟩
 rcases h.2 with h2 |⟨g,cap,cur,h2,h3,h4,h5⟩
 ·exact Or.inl h2
 ·exact Or.inr ⟨g,cap,cur,h2,h3,(hb.block g (Array.getElem?_eq_some_iff.1 h4).1).trans h4,h5⟩
theorem aS{w:World}{B B' n size:Nat}{e:TypeId}{v:Value}{xs:List Value}(h:w.ownsRow B' e size v n xs)(hB:B<=B'):w.ownsRow B e size v n xs:=by
 refine⟨h.1, ?_⟩
 rcases h.2 with h2 |⟨g,cap,cur,h2,h3,h4⟩
 ·exact Or.inl h2
 ·exact Or.inr ⟨g,cap,cur,h2,Nat.le_trans hB h3,h4⟩
theorem ak{w w1:World}{o:Obj}(hb:Below (w.alloc o).heap.size (w.alloc o) w1):Below w.heap.size w w1:=
 ((Below.refl _ w).alloc (Nat.le_refl _) o).trans (hb.mono (by simp))
theorem ah{w w1 w2:World}(h1:Below w.heap.size w w1)(h2:Below w1.heap.size w1 w2):Below w.heap.size w w2:=h1.trans (h2.mono h1.size)
theorem bQ{w:World}{b:Nat}{x y:Value}{t:TypeId}(h:w.heap[b]? = some (.cells #[x,y] t (0,0))):w.cell? ⟨b,0,none⟩=some x/\w.cell? ⟨b,1,none⟩=some y/\w.frozen? ⟨b,0,none⟩=false/\w.frozen? ⟨b,1,none⟩=false:=by
 simp[World.cell?,World.frozen?,h]
theorem BK(s:ByteArray)(w:World)(hs:s.size<=1048576):
  Calls Tryz.prog 159 #[.string s] w fun e w'=>Di w (rP s).1 (rP s).2 e w':=by
 by_cases h:200<s.size
 ·rw[Ws h]
  go_enter Tryz.func159,Tryz.ntmps159
  go_wp2
  refine bodyPost_ret (v:= .agg #[.int .i64 2,.slice none 0 0]) (by simp[results,Tryz.results159,go_sem]) rfl ⟨(Below.refl _ _).alloc (Nat.le_refl _) _,_,rfl,World.ownsRow_nil _ _ _ _⟩
 ·obtain⟨i0,hi,hz0,hz1,hz2⟩:=info_parts Tryz.DL
  go_enter Tryz.func159,Tryz.ntmps159
  go_wp2
  go_loopw [3] (fun v wr=>∃(p f:Nat)(acc:List Int),Hid (Rest s p f acc)/\p<=s.size+4/\wr.heap[w.heap.size+1]? = some (.stringIter s p)/\wr.heap[w.heap.size]? = some (.cells #[.int .i64 0,.slice none 0 0] 245 (0,0))/\Below w.heap.size w wr/\wr.ownsRow (w.heap.size+2) 2 1 v acc.length (acc.map (Value.int .i64))) (fun _ wr=>s.size - wr.iterPos (w.heap.size+1))
  case atStart=>
   refine⟨0,s.size,[],Rest.start s,by omega, ?_, ?_,((Below.refl _ _).alloc (Nat.le_refl _) _).alloc (by simp) _,World.ownsRow_nil _ _ _ _⟩
   ·have:=World.iter_heap (w.alloc (.cells #[.int .i64 0,.slice none 0 0] 245)) s 0
    simpa using this
   ·rw[World.iter,Below.heap_alloc _ _ _ (by simp)]
    exact heap_alloc_new w _
  case round=>
   obtain⟨p,f,acc,hR,Zk,hit,hres,hbel,hown⟩:=hrel
   have hsz:w.heap.size+1<wr.heap.size:=(Array.getElem?_eq_some_iff.1 hit).1
   by_cases hp:p<s.size
   ·have hnx:∀ty,(Instr.next (.pointer (some ⟨w.heap.size+1,0,none⟩)) true ty).run Tryz.prog wr=_:=fun ty=>Lib.run_next_any_at wr (w.heap.size+1) s p ty hit hp
    have hd1:=decode_le s p
    have hw:=width s p
    have hal:acc.length<=p:=hR.out.2.1
    have hit2:=Lib.iterAt_heap wr (w.heap.size+1) s p (p+(Utf8.decode s p).2) hit
    have hbw2:=Lib.below_iterAt hbel (k:=w.heap.size+1) (by omega) s (p+(Utf8.decode s p).2)
    have hres2:=(Lib.iterAt_other wr (w.heap.size+1) w.heap.size s (p+(Utf8.decode s p).2) (by omega)).trans hres
    have hsz2:w.heap.size+1<(wr.iterAt (w.heap.size+1) s (p+(Utf8.decode s p).2)).heap.size:=by rw[Lib.iterAt_size];exact hsz
    have hown2:=ownsRow_iterAt hown (show w.heap.size+1<w.heap.size+2 by omega) s (p+(Utf8.decode s p).2)
    rcases Bool.eq_false_or_eq_true (iU s p)with hok | hok
    ·go_wp2_with (first
      |(go_at_call 217;refine(wQ s p _ hs).mono ?_;rintro e w' ⟨rfl,rfl⟩)
      |(at_builtin;refine wpList_append_own _ rfl _ _ 61 rfl (w.heap.size+2) 2 i0 (.int .i64 0) 1 8 Tryz.underlying61 hi hz0 hz1 hz2 rfl (by decide) _ _ _ rfl (hown2.alloc _) ⟨_,0,none⟩ 1 1 [.int .i64 ((Utf8.decode s p).1:Int)] rfl rfl (cell_one_new _ _ _) (one_cell _ _) (by unfold maxLen;omega) (by omega) (by simp;omega) ?_))
     intro v' w1 hown' hgrow _
     have hb1:Below w.heap.size w w1:=(hbw2.alloc (by omega) _).grown hgrow (by simp;omega) (fun k hk=>Nat.le_trans (by omega) (hown2.lt k hk).1)
     have hk1:w1.heap[w.heap.size+1]? = some (.stringIter s (p+(Utf8.decode s p).2)):=(hgrow.block _ (by simp;omega) (fun e=>by have:=(hown2.lt _ e.symm).1;omega)).trans ((Below.heap_alloc _ _ _ hsz2).trans hit2)
     have hk2:w1.heap[w.heap.size]? = some (.cells #[.int .i64 0,.slice none 0 0] 245 (0,0)):=(hgrow.block _ (by simp;omega) (fun e=>by have:=(hown2.lt _ e.symm).1;omega)).trans ((Below.heap_alloc _ _ _ (by omega)).trans hres2)
     clear hgrow hown hown2 hres hres2 hbel hbw2
     go_wp2
     go_roundw
     case rel=>
      obtain⟨g,hg⟩:=hR.out.step hp hok
      exact⟨p+(Utf8.decode s p).2,g,acc++[((Utf8.decode s p).1:Int)],hg,by omega,hk1,hk2,hb1,by rw[Et,List.length_append];exact hown'⟩
     case measure=>
      simp only[World.iterPos,hk1,hit]
      omega
    ·obtain⟨hc0,hc1,hf0,hf1⟩:=bQ hres2
     go_wp2_with (go_at_call 217;refine(wQ s p _ hs).mono ?_;rintro e w' ⟨rfl,rfl⟩)
     exact bodyPost_ret (v:= .agg #[.int .i64 5,.slice none 0 0]) (by simp[results,Tryz.results159,go_sem,hc0,hc1]) rfl (by rw[L9 h (hR.out.no hp hok)];exact⟨(hbw2.setCell (Nat.le_refl _) _).setCell (Nat.le_refl _) _,_,rfl,World.ownsRow_nil _ _ _ _⟩)
   ·have hnx:∀ty,(Instr.next (.pointer (some ⟨w.heap.size+1,0,none⟩)) true ty).run Tryz.prog wr=_:=fun ty=>Lib.run_next_end_at wr (w.heap.size+1) s p ty hit hp
    obtain⟨a,c,rfl⟩:=aQ hown
    obtain⟨hc0,hc1,hf0,hf1⟩:=bQ hres
    go_wp2
    exact bodyPost_ret (v:= .agg #[.int .i64 0,.slice a acc.length c]) (by simp[results,Tryz.results159,go_sem,hc0,hc1]) rfl (by rw[Mc h (hR.out.done hp)];exact⟨(hbel.setCell (Nat.le_refl _) _).setCell (Nat.le_refl _) _,_,rfl,aS (ownsRow_setCell_below (ownsRow_setCell_below hown (by simp) _) (by simp) _) (by omega)⟩)
def Ints(k:IntKind)(w:World)(v:Value)(xs:List Int):Prop:=
 (xs=[]/\∃a c,v = .slice a 0 c)∨∃b off c,v = .slice (some ⟨b,off,none⟩) xs.length c/\b<w.heap.size/\∀j,j<xs.length->w.cell? ⟨b,off+j,none⟩=some (.int k (xs.getD j 0))
theorem Ints.below{k:IntKind}{w w':World}{v:Value}{xs:List Int}(h:Ints k w v xs)(hb:Below w.heap.size w w'):Ints k w' v xs:=by
 rcases h with h |⟨b,off,c,rfl,hlt,hc⟩
 ·exact Or.inl h
 ·exact Or.inr ⟨b,off,c,rfl,Nat.lt_of_lt_of_le hlt hb.size,fun j hj=>(hb.cell (p:=⟨b,off+j,none⟩) hlt).trans (hc j hj)⟩
theorem gZ{k:IntKind}{w:World}{B:Nat}{e:TypeId}{v:Value}{xs:List Int}(h:w.ownsRow B e 1 v xs.length (xs.map (Value.int k))):Ints k w v xs:=by
 have h0:=h
 rcases h.2 with⟨rfl,hn⟩ |⟨g,cap,cur,rfl,hB,hg,_⟩
 ·left;exact⟨List.eq_nil_of_length_eq_zero hn,none,0,rfl⟩
 ·right
  refine⟨g,0,cap,rfl,(Array.getElem?_eq_some_iff.1 hg).1,fun j hj=> ?_⟩
  rw[Nat.zero_add,h0.cellAt j (by omega)]
  simp[hj]
theorem Ints.shape{k:IntKind}{w:World}{v:Value}{xs:List Int}(h:Ints k w v xs):∃a c,v = .slice a xs.length c:=by
 rcases h with⟨rfl,a,c,rfl⟩ |⟨b,off,c,rfl,_⟩
 ·exact⟨a,c,rfl⟩
 ·exact⟨_,c,rfl⟩
theorem Ints.at{k:IntKind}{w:World}{a:Option Addr}{n c:Nat}{xs:List Int}(h:Ints k w (.slice a n c) xs)(h0:0<xs.length):n=xs.length/\∃b off,a=some ⟨b,off,none⟩/\b<w.heap.size/\∀j,j<xs.length->w.cell? ⟨b,off+j,none⟩=some (.int k (xs.getD j 0)):=by
 rcases h with⟨rfl,_⟩ |⟨b,off,c',e,h1,h2⟩
 ·simp at h0
 ·cases e
  exact⟨rfl,b,off,rfl,h1,h2⟩
theorem getD_eq{xs:List Int}{j:Nat}(h:j<xs.length):xs.getD j 0=xs[j]:=by simp[h]
def Agree(xs ys:List Int)(k:Nat):Prop:=∀j,j<k->xs.getD j 0=ys.getD j 0
theorem Agree.all{xs ys:List Int}(h:Agree xs ys xs.length)(hl:xs.length=ys.length):xs=ys:=by
 apply List.ext_getElem hl
 intro j h1 h2
 have:=h j h1
 simpa [h1,h2]using this
theorem Agree.succ{xs ys:List Int}{k:Nat}(h:Agree xs ys k)(h1:xs.getD k 0=ys.getD k 0):Agree xs ys (k+1):=by
 intro j hj
 by_cases e:j=k
 ·subst e;exact h1
 ·exact h j (by omega)
theorem ES(b off c b' off' c' n:Nat)(xs ys:List Int)(w:World)(hX:Hid (xs.length=n))(hY:Hid (ys.length=n))(hn:n<=1099511627776)
  (hc:∀j,j<n->w.cell? ⟨b,off+j,none⟩=some (.int .i64 (xs.getD j 0))) (hc':∀j,j<n->w.cell? ⟨b',off'+j,none⟩=some (.int .i64 (ys.getD j 0))) :
  Calls Tryz.prog 224 #[.slice (some ⟨b,off,none⟩) n c,.slice (some ⟨b',off',none⟩) n c'] w fun e w'=>e = .returned (.bool (decide (xs=ys)))/\∃n,w'=w.drewN n:=by
 go_enter Tryz.func224,Tryz.ntmps224
 go_wp2
 go_loopw [5] (fun i wr=>∃k:Nat,k<=n/\i = .int .i64 k/\Hid (Agree xs ys k)/\∃m,wr=w.drewN m) (fun i _=>n - (intOf i).toNat)
 case atStart=>exact⟨0,Nat.zero_le _,rfl,fun j hj=>by omega,0,rfl⟩
 case round=>
  obtain⟨k,hk,rfl,hA,m,rfl⟩:=hrel
  by_cases hkn:k<n
  ·have hx1:=hc k hkn
   have hy1:=hc' k hkn
   have hki:(k:Int)<(n:Int):=by omega
   clear hc hc'
   obtain⟨x,hx⟩:∃x,x=xs.getD k 0:=⟨_,rfl⟩
   obtain⟨y,hy⟩:∃y,y=ys.getD k 0:=⟨_,rfl⟩
   rw[←hx]at hx1
   rw[←hy]at hy1
   have HX:Hid (x=xs.getD k 0):=hx
   have HY:Hid (y=ys.getD k 0):=hy
   clear hx hy
   by_cases e:x=y
   ·have e1:(x != y)=false:=by simpa using e
    have E:Hid (x=y):=e
    clear e
    go_wp2
    go_quiet (fail)
    go_wp2
    go_roundw
    case rel=>exact⟨k+1,by omega,by go_num,hA.out.succ (by rw[←HX.out,←HY.out];exact E.out),_,rfl⟩
    case measure=>simp[intOf];omega
   ·have e1:(x != y)=true:=by simpa using e
    have E:Hid (¬x=y):=e
    clear e
    go_wp2
    go_quiet (fail)
    go_wp2
    go_ret
    refine⟨aO ?_,m+nq,by simp⟩
    symm
    rw[decide_eq_false_iff_not]
    intro e2
    exact E.out (by rw[HX.out,HY.out,e2])
  ·go_wp2
   go_ret
   refine⟨aO ?_,m,rfl⟩
   symm
   rw[decide_eq_true_iff]
   have hkn:k=n:=by omega
   subst hkn
   have hxl:=hX.out
   exact Agree.all (by rw[hxl];exact hA.out) (hX.out.trans hY.out.symm)
theorem GV(v u:Value)(xs ys:List Int)(w:World)(hv:Ints .i64 w v xs)(hu:Ints .i64 w u ys)(hx:xs.length<=1099511627776)(hy:ys.length<=1099511627776):
  Calls Tryz.prog 224 #[v,u] w fun e w'=>e = .returned (.bool (decide (xs=ys)))/\∃n,w'=w.drewN n:=by
 obtain⟨a,c,rfl⟩:=hv.shape
 obtain⟨a',c',rfl⟩:=hu.shape
 by_cases hl:xs.length=ys.length
 ·by_cases h0:0<xs.length
  ·obtain⟨_,b,off,rfl,hb,hc⟩:=hv.at h0
   obtain⟨_,b',off',rfl,hb',hc'⟩:=hu.at (by omega)
   rw[←hl]at hc' ⊢
   exact ES b off c b' off' c' xs.length xs ys w rfl hl.symm hx hc hc'
  ·have e1:xs=[]:=List.eq_nil_of_length_eq_zero (by omega)
   have e2:ys=[]:=List.eq_nil_of_length_eq_zero (by omega)
   subst e1 e2
   simp only[List.length_nil]
   clear hv hu hl h0 hx hy
   go_enter Tryz.func224,Tryz.ntmps224
   go_wp2
   refine wp_loop_rounds 1 ?_;rw[rounds_succ]
   go_wp2
   go_ret
   exact⟨rfl,0,rfl⟩
 ·have hne:decide (xs=ys)=false:=by rw[decide_eq_false_iff_not];intro e;exact hl (by rw[e])
  rw[hne]
  obtain⟨n,hn⟩:∃n,n=xs.length:=⟨_,rfl⟩
  obtain⟨m,hm⟩:∃m,m=ys.length:=⟨_,rfl⟩
  rw[←hn,←hm]at hl ⊢
  have h1:((n:Int) !=(m:Int))=true:=by simp;omega
  clear hv hu hl hne hn hm
  go_enter Tryz.func224,Tryz.ntmps224
  go_wp2
  go_ret
  exact⟨rfl,0,rfl⟩
def marks(k n:Nat):List Int:=(List.range n).map fun j=>((k+j:Nat):Int)
theorem kN(k n:Nat):(marks k n).length=n:=by simp[marks]
theorem RH(k n j:Nat)(h:j<n):(marks k n).getD j 0=((k+j:Nat):Int):=by simp[marks,h]
def half(xs:List Int)(k i:Nat):List Int:=marks k i++xs.drop i
theorem wC(xs:List Int)(k:Nat):half xs k 0=xs:=by simp[half,marks]
theorem zI(xs:List Int)(k:Nat):half xs k xs.length=marks k xs.length:=by simp[half]
theorem qI(xs:List Int)(k i:Nat)(h:i<xs.length):(half xs k i).set i ((k+i:Nat):Int)=half xs k (i+1):=by
 unfold half
 rw[List.set_append_right _ _ (by simp[marks])]
 simp only[kN,Nat.sub_self]
 rw[List.drop_eq_getElem_cons h,aaH]
 simp only[marks,List.range_succ,List.map_append,List.map_cons,List.map_nil,List.append_assoc,List.singleton_append]
theorem RS{w:World}{B g n cap:Nat}{e:TypeId}{xs:List Value}(h:w.ownsRow B e 1 (.slice (some ⟨g,0,none⟩) n cap) n xs){j:Nat}(hj:j<n):∃x,w.cell? ⟨g,j,none⟩=some x:=
 ⟨_,(h.cellAt j (by omega)).trans (List.getElem?_eq_getElem (by rw[h.1];omega))⟩
theorem bM{a b c:World}{row:Option Nat}(h:a.grownBy b row)(k:b.grownBy c row):a.grownBy c row:=
 ⟨k.os.trans h.os,k.tape.trans h.tape,k.output.trans h.output,Nat.le_trans h.size k.size,fun i hi hr=>(k.block i (Nat.lt_of_lt_of_le hi h.size) hr).trans (h.block i hi hr)⟩
theorem Dy(v:Value)(n k0:Nat)(w:World)(hv:Ints .i64 w v (marks k0 n))(hx:n<=1099511627776)(hk0:k0<=1099511627776):
  Calls Tryz.prog 228 #[v,.int .i64 k0] w fun e w'=>e = .returned (.int .i64 ((k0+n:Nat):Int))/\w'=w:=by
 obtain⟨a,c,rfl⟩:=hv.shape
 by_cases h0:n=0
 ·subst h0
  simp only[kN]
  clear hv
  go_enter Tryz.func228,Tryz.ntmps228
  go_wp2
  refine wp_loop_rounds 1 ?_;rw[rounds_succ]
  go_wp2
  go_ret
  exact⟨rfl,rfl⟩
 ·obtain⟨_,b,off,rfl,hb,hc⟩:=hv.at (by rw[kN];omega)
  have hcm:∀j,j<n->w.cell? ⟨b,off+j,none⟩=some (.int .i64 ((k0+j:Nat):Int)):=fun j hj=>by rw[hc j (by rw[kN];exact hj),RH _ _ _ hj]
  rw[kN]
  clear hv hc h0
  go_enter Tryz.func228,Tryz.ntmps228
  go_wp2
  go_loop [1,5] (fun k i=>∃j:Nat,j<=n/\i = .int .i64 j/\k = .int .i64 ((k0+j:Nat):Int)) (fun _ i=>n - (intOf i).toNat)
  case atStart=>exact⟨0,Nat.zero_le _,rfl,by simp⟩
  case round=>
   obtain⟨j,hj,rfl,rfl⟩:=hrel
   by_cases hjn:j<n
   ·have hji:(j:Int)<(n:Int):=by omega
    have hcj:=hcm j hjn
    clear hcm
    go_wp2
    go_round
    case rel=>exact⟨j+1,by omega,by go_num,by go_num⟩
    case measure=>simp[intOf];omega
   ·go_wp2
    go_ret
    have hjn:j=n:=by omega
    subst hjn
    exact⟨rfl,rfl⟩
theorem aA{w:World}(o o':Obj):Below w.heap.size w ((w.alloc o).alloc o'):=((Below.refl _ _).alloc (Nat.le_refl _) _).alloc (by simp) _
theorem aj{w:World}(o:Obj):Below w.heap.size w (w.alloc o):=(Below.refl _ _).alloc (Nat.le_refl _) _
theorem Di.use{w w':World}{code:Int}{xs:List Int}{e:Ending}(h:Di w code xs e w'):∃a c,e = .returned (.agg #[.int .i64 code,.slice a xs.length c])/\Below w.heap.size w w'/\w'.ownsRow w.heap.size 2 1 (.slice a xs.length c) xs.length (xs.map (Value.int .i64)):=by
 obtain⟨hb,v,rfl,ho⟩:=h
 obtain⟨a,c,rfl⟩:=aQ ho
 exact⟨a,c,rfl,hb,ho⟩
theorem Tryz.BM:(Tryz.prog.info? 5).map (fun i=>(i.zero,i.size,i.bytes))=some (some (.int .u8 0),1,1):=by kernel_rfl
theorem pX{xs:List Int}{k:Nat}(h:k<xs.length):xs.take (k+1)=xs.take k++[xs.getD k 0]:=by
 rw[List.take_succ_eq_append_getElem h,getD_eq h]
def copied(xs:List Int)(k:Nat):List Int:=xs.take k++List.replicate (xs.length - k) 0
theorem J5(xs:List Int):copied xs 0=List.replicate xs.length 0:=by simp[copied]
theorem MW(xs:List Int):copied xs xs.length=xs:=by simp[copied]
theorem Bc(xs:List Int)(k:Nat)(h:k<xs.length):(copied xs k).set k (xs.getD k 0)=copied xs (k+1):=by
 unfold copied
 have hl:(xs.take k).length=k:=by rw[List.length_take];omega
 rw[List.set_append_right _ _ (by omega),hl,Nat.sub_self,pX h,List.append_assoc]
 congr 1
 rw[show xs.length - k=(xs.length - (k+1))+1 by omega,List.replicate_succ,aaH]
 rfl
def Bts(bs:List Int):Prop:=∀b∈bs,0<=b/\b<=255
theorem Bts.at{bs:List Int}(h:Bts bs){k:Nat}(hk:k<bs.length):0<=bs.getD k 0/\bs.getD k 0<=255:=by
 rw[getD_eq hk];exact h _ (List.getElem_mem hk)
def sumF(n b:Int):Int:=(n*139+b+1)%65521
def bf(bs:List Int):Int:=bs.foldl sumF 13
def kC(bs:List Int)(k:Nat):Int:=bf (bs.take k)
theorem EM(bs:List Int):kC bs bs.length=bf bs:=by unfold kC;rw[List.take_length]
theorem CX{bs:List Int}{k:Nat}(h:k<bs.length):kC bs (k+1)=sumF (kC bs k) (bs.getD k 0):=by
 unfold kC bf
 rw[pX h,List.foldl_append]
 rfl
theorem Ox(bs:List Int):∀n:Int,0<=n->n<=65520->0<=bs.foldl sumF n/\bs.foldl sumF n<=65520:=by
 induction bs with
 | nil=>intro n h0 h1;exact⟨h0,h1⟩
 | cons b bs ih=>
  intro n _ _
  rw[List.foldl_cons]
  exact ih _ (by unfold sumF;omega) (by unfold sumF;omega)
theorem nV(bs:List Int):0<=bf bs/\bf bs<=65520:=Ox bs 13 (by omega) (by omega)
theorem JI(bs:List Int)(k:Nat):0<=kC bs k/\kC bs k<=65520:=nV _
theorem NR(b off c n:Nat)(bs:List Int)(w:World)(HN:Hid (bs.length=n))(hn:n<=1099511627776)(hB:Bts bs)
  (hc:∀j,j<n->w.cell? ⟨b,off+j,none⟩=some (.int .u8 (bs.getD j 0))) :
  Calls Tryz.prog 157 #[.slice (some ⟨b,off,none⟩) n c] w fun e w'=>e = .returned (.int .i64 (bf bs))/\w'=w:=by
 go_enter Tryz.func157,Tryz.ntmps157
 go_wp2
 go_loop [3,4] (fun s i=>∃k:Nat,k<=n/\i = .int .i64 k/\s = .int .i64 (kC bs k)) (fun _ i=>n - (intOf i).toNat)
 case atStart=>exact⟨0,Nat.zero_le _,rfl,rfl⟩
 case round=>
  obtain⟨k,hk,rfl,rfl⟩:=hrel
  by_cases hkn:k<n
  ·have hki:(k:Int)<(n:Int):=by omega
   have hkb:k<bs.length:=by have:=HN.out;omega
   have hcj:=hc k hkn
   have hx:=hB.at hkb
   have hs:=JI bs k
   obtain⟨x,hxx⟩:∃x,x=bs.getD k 0:=⟨_,rfl⟩
   obtain⟨s,hss⟩:∃s,s=kC bs k:=⟨_,rfl⟩
   have HS:Hid (kC bs (k+1)=(s*139+x+1)%65521):=by show _=_;rw[CX hkb,hxx,hss];rfl
   rw[←hxx]at hcj hx
   rw[←hss]at hs ⊢
   clear hxx hss hc hB
   go_wp2
   go_round
   case rel=>exact⟨k+1,by omega,by go_num,by rw[HS.out]⟩
   case measure=>simp[intOf];omega
  ·go_wp2
   go_ret
   have hkn:k=n:=by omega
   subst hkn
   rw[←HN.out,EM]
   exact⟨rfl,rfl⟩
theorem lX(v:Value)(bs:List Int)(w:World)(hv:Ints .u8 w v bs)(hB:Bts bs)(hx:bs.length<=1099511627776):
  Calls Tryz.prog 157 #[v] w fun e w'=>e = .returned (.int .i64 (bf bs))/\w'=w:=by
 obtain⟨a,c,rfl⟩:=hv.shape
 by_cases h0:0<bs.length
 ·obtain⟨_,b,off,rfl,hb,hc⟩:=hv.at h0
  exact NR b off c bs.length bs w rfl hx hB hc
 ·have e1:bs=[]:=List.eq_nil_of_length_eq_zero (by omega)
  subst e1
  simp only[List.length_nil]
  clear hv h0 hx hB
  go_enter Tryz.func157,Tryz.ntmps157
  go_wp2
  refine wp_loop_rounds 1 ?_;rw[rounds_succ]
  go_wp2
  go_ret
  exact⟨rfl,rfl⟩
def smC(bs:List Int):Int:=if 200<bs.length then 2 else 0
def smV(bs:List Int):Int:=if 200<bs.length then 0 else bf bs
theorem MG{bs:List Int}(h:200<bs.length):smC bs=2/\smV bs=0:=by simp[smC,smV,h]
theorem uQ{bs:List Int}(h:¬ 200<bs.length):smC bs=0/\smV bs=bf bs:=by simp[smC,smV,h]
def iO(w:World)(c v:Int)(e:Ending)(w':World):Prop:=e = .returned (.agg #[.int .i64 c,.int .i64 v])/\Below w.heap.size w w'
theorem KI(s x:Int)(w:World)(hs:0<=s/\s<=65520)(hx:0<=x/\x<=255):
  Calls Tryz.prog 223 #[.int .u32 s,.int .u8 x] w fun e w'=>e = .returned (.int .u32 ((s*139+x+1)%65521))/\w'=w:=by
 go_enter Tryz.func223,Tryz.ntmps223
 go_wp2
 go_ret
 exact⟨rfl,rfl⟩
theorem DJ(b off c n:Nat)(bs:List Int)(w:World)(HN:Hid (bs.length=n))(hn:n<=200)(hB:Bts bs)(hb:b<w.heap.size)
  (hc:∀j,j<n->w.cell? ⟨b,off+j,none⟩=some (.int .u8 (bs.getD j 0))) :
  Calls Tryz.prog 168 #[.slice (some ⟨b,off,none⟩) n c] w fun e w'=>iO w 0 (bf bs) e w':=by
 go_enter Tryz.func168,Tryz.ntmps168
 go_wp2
 go_loop [3,12] (fun s i=>∃k:Nat,k<=n/\i = .int .i64 k/\s = .int .u32 (kC bs k)) (fun _ i=>n - (intOf i).toNat)
 case atStart=>exact⟨0,Nat.zero_le _,rfl,rfl⟩
 case round=>
  obtain⟨k,hk,rfl,rfl⟩:=hrel
  have hs:=JI bs k
  by_cases hkn:k<n
  ·have hki:(k:Int)<(n:Int):=by omega
   have hkb:k<bs.length:=by have:=HN.out;omega
   have hcj:=((aj (.cells #[.int .i64 0,.int .i64 0] 89)).cell (p:=⟨b,off+k,none⟩) hb).trans (hc k hkn)
   have hx:=hB.at hkb
   obtain⟨x,hxx⟩:∃x,x=bs.getD k 0:=⟨_,rfl⟩
   obtain⟨s,hss⟩:∃s,s=kC bs k:=⟨_,rfl⟩
   have HS:Hid (kC bs (k+1)=(s*139+x+1)%65521):=by show _=_;rw[CX hkb,hxx,hss];rfl
   rw[←hxx]at hcj hx
   rw[←hss]at hs ⊢
   clear hxx hss hc hB
   go_wp2_with fail
   refine(KI s x _ hs hx).mono ?_
   rintro e w1 ⟨rfl,rfl⟩
   go_wp2
   go_round
   case rel=>exact⟨k+1,by omega,by go_num,by rw[HS.out]⟩
   case measure=>simp[intOf];omega
  ·have hkn:k=n:=by omega
   subst hkn
   have e1:kC bs k=bf bs:=by rw[←HN.out,EM]
   rw[e1]at hs ⊢
   obtain⟨s,hss⟩:∃s,s=bf bs:=⟨_,rfl⟩
   have HS:Hid (s=bf bs):=hss
   rw[←hss]at hs ⊢
   clear hc hB e1 HN hss
   go_wp2
   exact bodyPost_ret (v:= .agg #[.int .i64 0,.int .i64 s]) (by simp[results,Tryz.results168,go_sem]) rfl (by rw[←HS.out];exact⟨rfl,aj _⟩)
theorem iY(v:Value)(bs:List Int)(w:World)(hv:Ints .u8 w v bs)(hB:Bts bs)(hx:bs.length<=1099511627776):
  Calls Tryz.prog 168 #[v] w fun e w'=>iO w (smC bs) (smV bs) e w':=by
 obtain⟨a,c,rfl⟩:=hv.shape
 by_cases h:200<bs.length
 ·rw[(MG h).1,(MG h).2]
  generalize bs.length=n at *
  clear hv hB
  go_enter Tryz.func168,Tryz.ntmps168
  go_wp2
  exact bodyPost_ret (v:= .agg #[.int .i64 2,.int .i64 0]) (by simp[results,Tryz.results168,go_sem]) rfl ⟨rfl,aj _⟩
 ·rw[(uQ h).1,(uQ h).2]
  by_cases h0:0<bs.length
  ·obtain⟨_,b,off,rfl,hb,hc⟩:=hv.at h0
   exact DJ b off c bs.length bs w rfl (by omega) hB hb hc
  ·have e1:bs=[]:=List.eq_nil_of_length_eq_zero (by omega)
   subst e1
   simp only[List.length_nil]
   have e2:bf []=13:=rfl
   rw[e2]
   clear hv h0 hx hB h e2
   go_enter Tryz.func168,Tryz.ntmps168
   go_wp2
   refine wp_loop_rounds 1 ?_;rw[rounds_succ]
   go_wp2
   exact bodyPost_ret (v:= .agg #[.int .i64 0,.int .i64 13]) (by simp[results,Tryz.results168,go_sem]) rfl ⟨rfl,aj _⟩
def aJ(n:Int):Bool:=decide (0<=n/\n<=65520)
theorem bD(n:Int):aJ n=true↔(0<=n/\n<=65520):=by unfold aJ;exact decide_eq_true_iff
theorem SY(n:Int):aJ n=false↔(n<0∨65520<n):=by unfold aJ;rw[decide_eq_false_iff_not];omega
def pF(n:Int):List Int:=[n/256,n%256]
def jO(tag:Int)(xs:List Int)(k:Nat):List Int:=tag::(xs.take k).flatMap pF
def bg(tag:Int)(xs:List Int):List Int:=tag::xs.flatMap pF
theorem oZ(tag:Int)(xs:List Int):jO tag xs xs.length=bg tag xs:=by unfold jO bg;rw[List.take_length]
theorem Dc(tag:Int){xs:List Int}{k:Nat}(h:k<xs.length):jO tag xs (k+1)=jO tag xs k++[xs.getD k 0/256,xs.getD k 0%256]:=by
 unfold jO
 rw[pX h,List.flatMap_append]
 simp[pF]
theorem GZ(xs:List Int):(xs.flatMap pF).length=2*xs.length:=by
 induction xs with
 | nil=>rfl
 | cons x xs ih=>simp only[List.flatMap_cons,List.length_append,List.length_cons,ih];simp[pF];omega
theorem xM(tag:Int){xs:List Int}{k:Nat}(h:k<=xs.length):(jO tag xs k).length=1+2*k:=by
 unfold jO
 rw[List.length_cons,GZ,List.length_take]
 omega
theorem lT(tag:Int)(xs:List Int):(bg tag xs).length=1+2*xs.length:=by rw[←oZ,xM tag (Nat.le_refl _)]
theorem nX{tag:Int}{xs:List Int}(ht:0<=tag/\tag<=255)(h:xs.all aJ=true):Bts (bg tag xs):=by
 intro b hb
 unfold bg at hb
 rw[List.mem_cons,List.mem_flatMap]at hb
 rcases hb with rfl |⟨x,hx,hb⟩
 ·exact ht
 ·rw[List.all_eq_true]at h
  have:=(bD x).1 (h x hx)
  simp[pF]at hb
  omega
def tgC(tag:Int)(xs:List Int):Int:=if inB tag 1 9=false then 3 else if 20<xs.length then 2 else if xs.all aJ=true then 0 else 3
def tgL(tag:Int)(xs:List Int):List Int:=if inB tag 1 9=false then []else if 20<xs.length then []else if xs.all aJ=true then bg tag xs else []
theorem Qz{tag:Int}{xs:List Int}(h:inB tag 1 9=false):tgC tag xs=3/\tgL tag xs=[]:=by simp[tgC,tgL,h]
theorem MJ{tag:Int}{xs:List Int}(h:inB tag 1 9=true)(h2:20<xs.length):tgC tag xs=2/\tgL tag xs=[]:=by simp[tgC,tgL,h,h2]
theorem Xv{tag:Int}{xs:List Int}(h:inB tag 1 9=true)(h2:¬ 20<xs.length)(h3:xs.all aJ=false):tgC tag xs=3/\tgL tag xs=[]:=by simp[tgC,tgL,h,h2,h3]
theorem yt{tag:Int}{xs:List Int}(h:inB tag 1 9=true)(h2:¬ 20<xs.length)(h3:xs.all aJ=true):tgC tag xs=0/\tgL tag xs=bg tag xs:=by
 unfold tgC tgL;rw[if_neg (by rw[h];simp),if_neg h2,if_pos h3,if_neg (by rw[h];simp),if_neg h2,if_pos h3];exact⟨rfl,rfl⟩
theorem iw{tag lo hi:Int}(h:inB tag lo hi=true):lo<=tag/\tag<=hi:=by unfold inB at h;simpa using h
theorem BL{tag lo hi:Int}(h:inB tag lo hi=false):tag<lo∨hi<tag:=by unfold inB at h;simp at h;omega
theorem U2(tag:Int)(xs:List Int):(tgL tag xs).length<=41:=by
 unfold tgL
 split
 ·simp
 ·split
  ·simp
  ·split
   ·rw[lT];omega
   ·simp
theorem U1(tag:Int)(xs:List Int):Bts (tgL tag xs):=by
 have e0:Bts []:=fun b hb=>by cases hb
 unfold tgL
 split
 ·exact e0
 ·rename_i h
  split
  ·exact e0
  ·split
   ·rename_i h3
    exact nX (by have:=iw (by simpa using h:inB tag 1 9=true);omega) h3
   ·exact e0
def zx(xs:List Int)(k:Nat):Prop:=∀j,j<k->aJ (xs.getD j 0)=true
theorem zx.succ{xs:List Int}{k:Nat}(h:zx xs k)(h1:aJ (xs.getD k 0)=true):zx xs (k+1):=by
 intro j hj
 by_cases e:j=k
 ·subst e;exact h1
 ·exact h j (by omega)
theorem zx.all{xs:List Int}(h:zx xs xs.length):xs.all aJ=true:=by
 rw[List.all_eq_true]
 intro x hx
 obtain⟨j,hj,rfl⟩:=List.getElem_of_mem hx
 have:=h j hj
 rwa [getD_eq hj]at this
theorem Gt{xs:List Int}(h:xs.all aJ=true){k:Nat}(hk:k<xs.length):0<=xs.getD k 0/\xs.getD k 0<=65520:=by
 rw[getD_eq hk]
 rw[List.all_eq_true]at h
 exact(bD _).1 (h _ (List.getElem_mem hk))
theorem UZ{xs:List Int}{k:Nat}(hk:k<xs.length)(h:aJ (xs.getD k 0)=false):xs.all aJ=false:=by
 rw[getD_eq hk]at h
 rw[Bool.eq_false_iff]
 intro h2
 rw[List.all_eq_true]at h2
 rw[h2 _ (List.getElem_mem hk)]at h
 cases h
def qc(w:World)(code:Int)(bs:List Int)(e:Ending)(w':World):Prop:=
 Below w.heap.size w w'/\∃v,e = .returned (.agg #[.int .i64 code,v])/\w'.ownsRow w.heap.size 5 1 v bs.length (bs.map (Value.int .u8))
theorem qc.use{w w':World}{code:Int}{xs:List Int}{e:Ending}(h:qc w code xs e w'):∃a c,e = .returned (.agg #[.int .i64 code,.slice a xs.length c])/\Below w.heap.size w w'/\w'.ownsRow w.heap.size 5 1 (.slice a xs.length c) xs.length (xs.map (Value.int .u8)):=by
 obtain⟨hb,v,rfl,ho⟩:=h
 obtain⟨a,c,rfl⟩:=aQ ho
 exact⟨a,c,rfl,hb,ho⟩
theorem IX{w:World}{B:Nat}{e:TypeId}{k:IntKind}{v:Value}{zs:List Int}{b d:Int}(h:w.ownsRow B e 1 v (zs.length+2) (zs.map (Value.int k)++[.int k b,.int k d])):w.ownsRow B e 1 v (zs++[b,d]).length ((zs++[b,d]).map (Value.int k)):=by
 rw[List.map_append,List.length_append];exact h
theorem mG(x:Int)(h0:0<=x)(h1:x<256):IntKind.u8.wrap x=x:=by rw[IntKind.wrap_u8];omega
theorem gQ(n:Int)(w:World):Calls Tryz.prog 196 #[.int .i64 n] w fun e w'=>e = .returned (.bool (aJ n))/\w'=w:=by
 rcases Bool.eq_false_or_eq_true (aJ n)with h | h
 ·have h1:=(bD n).1 h
  rw[h]
  go_enter Tryz.func196,Tryz.ntmps196
  go_wp2
  go_ret
  exact⟨rfl,rfl⟩
 ·rw[h]
  rcases(SY n).1 h with h1 | h1
  ·go_enter Tryz.func196,Tryz.ntmps196
   go_wp2
   go_ret
   exact⟨rfl,rfl⟩
  ·go_enter Tryz.func196,Tryz.ntmps196
   go_wp2
   go_ret
   exact⟨aO (by simp;omega),rfl⟩
theorem yu(B:Nat)(v:Value)(a:Option Addr)(n c:Nat)(tag:Int)(xs:List Int)(w:World)(HN:Hid (n=xs.length))(hx:n<=1000)(hv:Hid (Ints .i64 w (.slice a n c) xs))(hs:Hid (xs.all aJ=true))
  (hown:w.ownsRow B 5 1 v 1 [.int .u8 tag]) (hB:B<=w.heap.size) (zL:Hid (∀b off,a=some ⟨b,off,none⟩->0<n->b<B)) :
  Calls Tryz.prog 274 #[v,.slice a n c] w fun e w'=>∃v',e = .returned v'/\w'.ownsRow B 5 1 v' (bg tag xs).length ((bg tag xs).map (Value.int .u8))/\Below B w w':=by
 obtain⟨i0,hi,hz0,hz1,hz2⟩:=info_parts Tryz.BM
 go_enter Tryz.func274,Tryz.ntmps274
 go_wp2
 go_loopw [0,9] (fun u i wr=>∃k:Nat,k<=n/\i = .int .i64 k/\Below B w wr/\wr.ownsRow B 5 1 u (jO tag xs k).length ((jO tag xs k).map (Value.int .u8))) (fun _ i _=>n - (intOf i).toNat)
 case atStart=>exact⟨0,Nat.zero_le _,rfl,Below.refl _ _,hown⟩
 case round=>
  obtain⟨k,hk,rfl,hb,ho⟩:=hrel
  by_cases hkn:k<n
  ·have hki:(k:Int)<(n:Int):=by omega
   have hkx:k<xs.length:=by have:=HN.out;omega
   obtain⟨-,b,off,rfl,hbl,hc⟩:=hv.out.at (by omega)
   have hbB:=zL.out b off rfl (by omega)
   have hcj:=(hb.cell (p:=⟨b,off+k,none⟩) hbB).trans (hc k hkx)
   have hxr:=Gt hs.out hkx
   have hlen:=xM tag (Nat.le_of_lt hkx)
   have hsc:=Dc tag hkx
   obtain⟨x,hxx⟩:∃x,x=xs.getD k 0:=⟨_,rfl⟩
   obtain⟨ys,hys⟩:∃ys,ys=jO tag xs k:=⟨_,rfl⟩
   rw[←hxx]at hcj hxr hsc
   rw[←hys]at ho hlen hsc
   have HS:Hid (jO tag xs (k+1)=ys++[x/256,x%256]):=hsc
   have hw1:=mG (x/256) (by omega) (by omega)
   have hw2:=IntKind.wrap_u8 x
   clear hxx hys hsc hc hown
   go_wp2_with (at_builtin;refine wpList_append_own _ rfl _ _ 243 rfl B 5 i0 (.int .u8 0) 1 1 Tryz.underlying243 hi hz0 hz1 hz2 rfl (by decide) _ _ _ rfl (ho.alloc _) ⟨wr.heap.size,0,none⟩ 2 2 [.int .u8 (x/256),.int .u8 (x%256)] rfl rfl (World.news_of_block (heap_alloc_new _ _)) (ints_oneCell .u8 [x/256,x%256]) (by unfold maxLen;omega) (by omega) (by have:=hb.size;simp;omega) ?_)
   intro v' w2 hown' hgrow _
   have hb2:Below B w w2:=(hb.alloc (by have:=hb.size;omega) _).grown hgrow (by have:=hb.size;simp;omega) (fun k hk=>(ho.lt k hk).1)
   rw[←hlen]at hown'
   have aN:=IX hown'
   clear hgrow hown' ho
   go_wp2
   go_roundw
   case rel=>exact⟨k+1,by omega,by go_num,hb2,by rw[HS.out];exact aN⟩
   case measure=>simp[intOf];omega
  ·have hkn:k=n:=by omega
   subst hkn
   obtain⟨a',c',rfl⟩:=aQ ho
   go_wp2
   go_ret
   rw[HN.out,oZ]at ho
   rw[HN.out,oZ]
   exact⟨_,rfl,ho,hb⟩
theorem LX(w:World)(x:Int):(w.alloc (.cells #[.int .u8 x] 5)).ownsRow w.heap.size 5 1 (.slice (some ⟨w.heap.size,0,none⟩) 1 1) 1 [.int .u8 x]:=by
 have:=World.ownsRow_lit (base:=w.heap.size) (e:=5) (size:=1) w #[.int .u8 x] 1 (by simp) (by decide) rfl
 simpa using this
theorem iQ(tag:Int)(v:Value)(xs:List Int)(w:World)(hv:Ints .i64 w v xs)(hx:xs.length<=1099511627776):
  Calls Tryz.prog 251 #[.int .i64 tag,v] w fun e w'=>qc w (tgC tag xs) (tgL tag xs) e w':=by
 obtain⟨a,c,rfl⟩:=hv.shape
 rcases Bool.eq_false_or_eq_true (inB tag 1 9)with ht | ht
 ·have htb:=iw ht
  by_cases h20:20<xs.length
  ·rw[(MJ ht h20).1,(MJ ht h20).2]
   generalize xs.length=n at *
   clear hv
   go_enter Tryz.func251,Tryz.ntmps251
   go_wp2
   exact bodyPost_ret (v:= .agg #[.int .i64 2,.slice none 0 0]) (by simp[results,Tryz.results251,go_sem]) rfl ⟨aj _,_,rfl,World.ownsRow_nil _ _ _ _⟩
  ·have HV:Hid (Ints .i64 w (.slice a xs.length c) xs):=hv
   have hno:=fun h=>Xv ht h20 (xs:=xs) h
   have hyes:=fun h=>yt ht h20 (xs:=xs) h
   have zL:Hid (∀b off,a=some ⟨b,off,none⟩->0<xs.length->b<w.heap.size+1):=fun b off e h0=>by
    obtain⟨_,b',off',e',hb',_⟩:=hv.at h0
    rw[e]at e'
    cases e'
    omega
   have fC:Hid (xs.all aJ=false->tgC tag xs=3/\tgL tag xs=[]):=hno
   have Vs:Hid (xs.all aJ=true->tgC tag xs=0/\tgL tag xs=bg tag xs):=hyes
   obtain⟨n,hn⟩:∃n,n=xs.length:=⟨_,rfl⟩
   have HN:Hid (n=xs.length):=hn
   rw[←hn]at h20 hx HV zL ⊢
   clear hn hv hno hyes
   have hw1:=mG tag (by omega) (by omega)
   go_enter Tryz.func251,Tryz.ntmps251
   go_wp2
   go_loop [20] (fun i=>∃k:Nat,k<=n/\i = .int .i64 k/\Hid (zx xs k)) (fun i=>n - (intOf i).toNat)
   case atStart=>exact⟨0,Nat.zero_le _,rfl,fun j hj=>by omega⟩
   case round=>
    obtain⟨k,hk,rfl,hA⟩:=hrel
    by_cases hkn:k<n
    ·have hki:(k:Int)<(n:Int):=by omega
     have hkx:k<xs.length:=by have:=HN.out;omega
     obtain⟨-,b,off,rfl,hbl,hc⟩:=HV.out.at (by omega)
     have hcj:=((aj (.cells #[.int .i64 0,.slice none 0 0] 300)).cell (p:=⟨b,off+k,none⟩) hbl).trans (hc k hkx)
     obtain⟨x,hxx⟩:∃x,x=xs.getD k 0:=⟨_,rfl⟩
     have HX:Hid (x=xs.getD k 0):=hxx
     rw[←hxx]at hcj
     clear hxx hc
     rcases Bool.eq_false_or_eq_true (aJ x)with hr | hr
     ·go_wp2_with fail
      refine(gQ x _).mono ?_
      rintro e w1 ⟨rfl,rfl⟩
      go_wp2
      go_round
      case rel=>exact⟨k+1,by omega,by go_num,hA.out.succ (by rw[←HX.out];exact hr)⟩
      case measure=>simp[intOf];omega
     ·have e:=fC.out (UZ hkx (by rw[←HX.out];exact hr))
      go_wp2_with fail
      refine(gQ x _).mono ?_
      rintro e w1 ⟨rfl,rfl⟩
      go_wp2
      exact bodyPost_ret (v:= .agg #[.int .i64 3,.slice none 0 0]) (by simp[results,Tryz.results251,go_sem]) rfl (by rw[e.1,e.2];exact⟨aj _,_,rfl,World.ownsRow_nil _ _ _ _⟩)
    ·have hkn:k=n:=by omega
     subst hkn
     have hall:xs.all aJ=true:=zx.all (by rw[←HN.out];exact hA.out)
     have HE:Hid (tgC tag xs=0/\tgL tag xs=bg tag xs):=Vs.out hall
     have Yj:Hid (xs.all aJ=true):=hall
     clear hall Vs fC
     go_wp2_with fail
     refine(yu (w.heap.size+1) _ a k c tag xs _ HN (by omega) (HV.out.below (aA _ _)) Yj (by simpa using LX (w.alloc (.cells #[.int .i64 0,.slice none 0 0] 300)) tag) (by simp) zL).mono ?_
     rintro e w1 ⟨v',rfl,ho1,hb1⟩
     obtain⟨a',c',rfl⟩:=aQ ho1
     obtain⟨hc0,hc1,hf0,hf1⟩:=bQ ((hb1.block w.heap.size (by omega)).trans ((Below.heap_alloc (w.alloc (.cells #[.int .i64 0,.slice none 0 0] 300)) (.cells #[.int .u8 tag] 5) w.heap.size (by simp)).trans (heap_alloc_new w _)))
     have hB1:Below w.heap.size w w1:=(aA _ _).trans (hb1.mono (by omega))
     have HO:Hid (w1.ownsRow (w.heap.size+1) 5 1 (.slice a' (bg tag xs).length c') (bg tag xs).length ((bg tag xs).map (Value.int .u8))):=ho1
     clear ho1 hb1
     generalize bg tag xs=ys at *
     go_wp2
     exact bodyPost_ret (v:= .agg #[.int .i64 0,.slice a' ys.length c']) (by simp[results,Tryz.results251,go_sem,hc0,hc1]) rfl (by rw[HE.out.1,HE.out.2];exact⟨(hB1.setCell (Nat.le_refl _) _).setCell (Nat.le_refl _) _,_,rfl,aS (ownsRow_setCell_below (ownsRow_setCell_below HO.out (by simp) _) (by simp) _) (by omega)⟩)
 ·have htb:=BL ht
  rw[(Qz ht).1,(Qz ht).2]
  generalize xs.length=n at *
  clear hv
  rcases htb with htb | htb
  ·go_enter Tryz.func251,Tryz.ntmps251
   go_wp2
   exact bodyPost_ret (v:= .agg #[.int .i64 3,.slice none 0 0]) (by simp[results,Tryz.results251,go_sem]) rfl ⟨aj _,_,rfl,World.ownsRow_nil _ _ _ _⟩
  ·have h0:¬tag<1:=by omega
   go_enter Tryz.func251,Tryz.ntmps251
   go_wp2
   exact bodyPost_ret (v:= .agg #[.int .i64 3,.slice none 0 0]) (by simp[results,Tryz.results251,go_sem]) rfl ⟨aj _,_,rfl,World.ownsRow_nil _ _ _ _⟩
theorem jU(tag:Int)(v:Value)(xs:List Int)(w:World)(hv:Ints .i64 w v xs)(hx:xs.length<=1000)(ht:0<=tag/\tag<=255)(hs:xs.all aJ=true):
  Calls Tryz.prog 259 #[.int .i64 tag,v] w fun e w'=>∃v',e = .returned v'/\w'.ownsRow w.heap.size 5 1 v' (bg tag xs).length ((bg tag xs).map (Value.int .u8))/\Below w.heap.size w w':=by
 obtain⟨a,c,rfl⟩:=hv.shape
 have HV:Hid (Ints .i64 w (.slice a xs.length c) xs):=hv
 obtain⟨n,hn⟩:∃n,n=xs.length:=⟨_,rfl⟩
 have HN:Hid (n=xs.length):=hn
 have Y3:Hid (xs.all aJ=true):=hs
 rw[←hn]at hx HV ⊢
 clear hn hv hs
 obtain⟨i0,hi,hz0,hz1,hz2⟩:=info_parts Tryz.BM
 have hw0:=mG tag (by omega) (by omega)
 go_enter Tryz.func259,Tryz.ntmps259
 go_wp2
 go_loopw [5,6] (fun u i wr=>∃k:Nat,k<=n/\i = .int .i64 k/\Below w.heap.size w wr/\wr.ownsRow w.heap.size 5 1 u (jO tag xs k).length ((jO tag xs k).map (Value.int .u8))) (fun _ i _=>n - (intOf i).toNat)
 case atStart=>exact⟨0,Nat.zero_le _,rfl,aj _,LX w tag⟩
 case round=>
  obtain⟨k,hk,rfl,hb,ho⟩:=hrel
  by_cases hkn:k<n
  ·have hki:(k:Int)<(n:Int):=by omega
   have hkx:k<xs.length:=by have:=HN.out;omega
   obtain⟨-,b,off,rfl,hbl,hc⟩:=HV.out.at (by omega)
   have hcj:=(hb.cell (p:=⟨b,off+k,none⟩) hbl).trans (hc k hkx)
   have hxr:=Gt Y3.out hkx
   have hlen:=xM tag (Nat.le_of_lt hkx)
   have hsc:=Dc tag hkx
   obtain⟨x,hxx⟩:∃x,x=xs.getD k 0:=⟨_,rfl⟩
   obtain⟨ys,hys⟩:∃ys,ys=jO tag xs k:=⟨_,rfl⟩
   rw[←hxx]at hcj hxr hsc
   rw[←hys]at ho hlen hsc
   have HS:Hid (jO tag xs (k+1)=ys++[x/256,x%256]):=hsc
   have hw1:=mG (x/256) (by omega) (by omega)
   have hw2:=mG (x%256) (by omega) (by omega)
   have hsz:=hb.size
   have hbr:b<wr.heap.size:=by omega
   obtain⟨a',c',rfl⟩:=aQ ho
   have hle:ys.length<=2001:=by omega
   have hq1:x.tdiv 256=x/256:=by rw[Int.tdiv_eq_ediv_of_nonneg (by omega)]
   have hq2:x.tmod 256=x%256:=by rw[Int.tmod_eq_emod_of_nonneg (by omega)]
   have hq3:IntKind.i64.wrap (x/256)=x/256:=by rw[IntKind.wrap_i64];omega
   clear hxx hys hsc hc hlen
   go_wp2
   go_region_held3 (fun w'=>w'.cell? ⟨b,off+k,none⟩=some (.int .i64 x)) (first | go_keep |(rw[hgrow.cell_far _ (by simp;omega) (fun e=>by have:=(ho.lt _ e.symm).1;dsimp only at this;omega)];assumption))
    ((refine step_append_lies _ (by rfl) _ _ _ (by rfl) w.heap.size 5 i0 _ 1 1 Tryz.underlying243 hi hz0 hz1 hz2 rfl (by omega) (.slice a' ys.length c') ys.length (ys.map (Value.int .u8)) (by rfl) ((ho.alloc _).drew) ⟨wr.heap.size,0,none⟩ 2 2 [.int .u8 (x/256),.int .u8 (x%256)] (by rfl) (by rfl) (World.news_of_block (cs:=#[.int .u8 (x/256),.int .u8 (x%256)]) (t:=5) (fr:=(0,0)) (heap_alloc_new wr _)) (ints_oneCell .u8 [x/256,x%256]) (by omega) (by unfold maxLen;omega) (by omega) (by simp;omega) (wr.heap.size+1) (by simp) ?_;intro g cap w1 hown1 hgrow hat hlt))
   have aN:=IX hown1
   have hb2:Below w.heap.size w w1:=(hb.alloc hsz _).drew.grown hgrow (by simp;omega) (fun k hk=>(ho.lt k hk).1)
   clear hown1 hgrow hat hlt ho
   go_wp2
   go_roundw
   case rel=>exact⟨k+1,by omega,by go_num,hb2,by rw[HS.out];simpa using aN⟩
   case measure=>simp[intOf];omega
  ·have hkn:k=n:=by omega
   subst hkn
   obtain⟨a',c',rfl⟩:=aQ ho
   go_wp2
   go_ret
   rw[HN.out,oZ]at ho
   rw[HN.out,oZ]
   exact⟨_,rfl,ho,hb⟩
def tsV(tag:Int)(xs:List Int):Int:=if tgC tag xs=0 then bf (tgL tag xs)else 0
theorem TS{tag:Int}{xs:List Int}(h:tgC tag xs=0):tsV tag xs=bf (tgL tag xs):=by simp[tsV,h]
theorem Xw{tag:Int}{xs:List Int}(h:¬tgC tag xs=0):tsV tag xs=0:=by simp[tsV,h]
theorem Qy(tag:Int)(xs:List Int):tgC tag xs=0∨tgC tag xs=2∨tgC tag xs=3:=by
 unfold tgC
 split
 ·simp
 ·split
  ·simp
  ·split<;>simp
theorem sW(tag:Int)(v:Value)(xs:List Int)(w:World)(hv:Ints .i64 w v xs)(hx:xs.length<=1099511627776):
  Calls Tryz.prog 194 #[.int .i64 tag,v] w fun e w'=>iO w (tgC tag xs) (tsV tag xs) e w':=by
 have hT:=fun o=>iQ tag v xs _ (hv.below (aj o)) hx
 have hlb:=U2 tag xs
 have hbt:=U1 tag xs
 have hcd:=Qy tag xs
 obtain⟨a,c,rfl⟩:=hv.shape
 generalize xs.length=n at *
 by_cases h0:tgC tag xs=0
 ·rw[TS h0,h0]
  rw[h0]at hT
  have hS:=fun u w1 hu=>iY u (tgL tag xs) w1 hu hbt (by omega)
  have hsm:=uQ (bs:=tgL tag xs) (by omega)
  rw[hsm.1,hsm.2]at hS
  generalize tgL tag xs=ys at *
  generalize bf ys=s at *
  clear hv hbt hcd h0 hsm
  go_enter Tryz.func194,Tryz.ntmps194
  go_wp2_with fail
  refine(hT _).mono ?_
  intro e w1 h1
  obtain⟨a1,c1,rfl,hb1,cZ⟩:=h1.use
  have i1:=(gZ cZ).below (aj (.cells #[.int .i64 0,.slice a1 ys.length c1] 300))
  have hB1:Below w.heap.size w (w1.alloc (.cells #[.int .i64 0,.slice a1 ys.length c1] 300)):=ah (ak hb1) (aj _)
  have hz1:w.heap.size<w1.heap.size:=by have:=hb1.size;simp at this;omega
  have R1:(w1.alloc (.cells #[.int .i64 0,.slice a1 ys.length c1] 300)).heap[w.heap.size]? = some (.cells #[.int .i64 0,.int .i64 0] 89 (0,0)):=(Below.heap_alloc _ _ _ hz1).trans ((hb1.block w.heap.size (by simp)).trans (heap_alloc_new w _))
  clear h1 cZ hb1 hT
  go_wp2_with fail
  refine(hS _ _ i1).mono ?_
  rintro e w2 ⟨rfl,hb2⟩
  have hB2:=ah hB1 hb2
  obtain⟨hc0,hc1,hf0,hf1⟩:=bQ ((hb2.block w.heap.size (by simp;omega)).trans R1)
  clear hS i1 R1 hb2 hB1
  go_wp2
  exact bodyPost_ret (v:= .agg #[.int .i64 0,.int .i64 s]) (by simp[results,Tryz.results194,go_sem,hc0,hc1]) rfl ⟨rfl,(hB2.setCell (Nat.le_refl _) _).setCell (Nat.le_refl _) _⟩
 ·rw[Xw h0]
  generalize tgL tag xs=ys at *
  generalize tgC tag xs=code at *
  clear hv hbt
  rcases hcd with rfl | rfl | rfl
  ·exact absurd rfl h0
  all_goals
   go_enter Tryz.func194,Tryz.ntmps194
   go_wp2_with fail
   refine(hT _).mono ?_
   intro e w1 h1
   obtain⟨a1,c1,rfl,hb1,cZ⟩:=h1.use
   have hB1:=ak hb1
   have hz1:w.heap.size<w1.heap.size:=by have:=hb1.size;simp at this;omega
   obtain⟨hc0,hc1,hf0,hf1⟩:=bQ ((hb1.block w.heap.size (by simp)).trans (heap_alloc_new w _))
   clear h1 cZ hb1 hT
   go_wp2
   exact bodyPost_ret (v:= .agg #[.int .i64 _,.int .i64 0]) (by simp[results,Tryz.results194,go_sem,hc0,hc1,hz1]) rfl ⟨rfl,((hB1.setCell (Nat.le_refl _) _).setCell (Nat.le_refl _) _).alloc (by simp;omega) _⟩
structure Hd where
 e:Int
 p:Int
 o:Int
 n:Int
 v:Int
abbrev Hdl:=List Hd
def hdZ:Hd:=⟨0,0,0,0,0⟩
def hAt(l:Hdl)(j:Nat):Hd:=l.getD j hdZ
theorem Bo{l:Hdl}{j:Nat}(h:j<l.length):hAt l j=l[j]:=by simp[hAt,List.getD_eq_getElem?_getD,List.getElem?_eq_getElem h]
def hdN(e p v:Int):Bool:=inB e 1 10&&(inB p 1 5&&aJ v)
def ny(p:Int):Bool:=p != 4
def kL(p:Int):Bool:=p==3||p==4
def hdR(e p o n v:Int):Bool:=hdN e p v&&(aJ o&&aJ n)
def hdF(p o n:Int):Bool:=(ny p||o==0)&&(kL p||n==0)
def hdC(e p o n v:Int):Int:=if hdR e p o n v=true then(if hdF p o n=true then 0 else 1)else 3
theorem Ep{e p o n v:Int}(h:hdR e p o n v=false):hdC e p o n v=3:=by unfold hdC;rw[h];rfl
theorem Hl{e p o n v:Int}(h:hdR e p o n v=true)(h1:hdF p o n=false):hdC e p o n v=1:=by unfold hdC;rw[h,h1];rfl
theorem Ho{e p o n v:Int}(h:hdR e p o n v=true)(h1:hdF p o n=true):hdC e p o n v=0:=by unfold hdC;rw[h,h1];rfl
structure tq(e p o n v:Int):Prop where
 e0:1<=e
 e1:e<=10
 p0:1<=p
 p1:p<=5
 o0:0<=o
 o1:o<=65520
 n0:0<=n
 n1:n<=65520
 v0:0<=v
 v1:v<=65520
 f:hdF p o n=true
theorem wE{e p o n v:Int}(h:hdC e p o n v=0):tq e p o n v:=by
 unfold hdC at h
 by_cases h1:hdR e p o n v=true
 ·rw[if_pos h1]at h
  by_cases h2:hdF p o n=true
  ·unfold hdR hdN at h1
   simp only[Bool.and_eq_true]at h1
   obtain⟨⟨a,b,c⟩,d,f⟩:=h1
   have a:=iw a
   have b:=iw b
   have c:=(bD v).1 c
   have d:=(bD o).1 d
   have f:=(bD n).1 f
   exact⟨a.1,a.2,b.1,b.2,d.1,d.2,f.1,f.2,c.1,c.2,h2⟩
  ·rw[if_neg h2]at h;omega
 ·rw[if_neg h1]at h;omega
theorem tq.c{e p o n v:Int}(h:tq e p o n v):hdC e p o n v=0:=by
 refine Ho ?_ h.f
 unfold hdR hdN
 rw[jd h.e0 h.e1,jd h.p0 h.p1,(bD v).2 ⟨h.v0,h.v1⟩,(bD o).2 ⟨h.o0,h.o1⟩,(bD n).2 ⟨h.n0,h.n1⟩]
 rfl
theorem tq.sums{e p o n v:Int}(h:tq e p o n v): [e,p,o,n,v].all aJ=true:=by
 have:=h.e0;have:=h.e1;have:=h.p0;have:=h.p1
 have h0:aJ e=true:=(bD e).2 ⟨by omega,by omega⟩
 have h1:aJ p=true:=(bD p).2 ⟨by omega,by omega⟩
 have h2:aJ o=true:=(bD o).2 ⟨h.o0,h.o1⟩
 have h3:aJ n=true:=(bD n).2 ⟨h.n0,h.n1⟩
 have h4:aJ v=true:=(bD v).2 ⟨h.v0,h.v1⟩
 simp[h0,h1,h2,h3,h4]
def hdB(e p o n v:Int):List Int:=bg 7 [e,p,o,n,v]
theorem LJ(e p o n v:Int):(hdB e p o n v).length=11:=by unfold hdB;rw[lT];rfl
theorem tq.bts{e p o n v:Int}(h:tq e p o n v):Bts (hdB e p o n v):=nX (by omega) h.sums
def hdL(e p o n v:Int):List Int:=if hdC e p o n v=0 then hdB e p o n v else []
theorem Px{e p o n v:Int}(h:hdC e p o n v=0):hdL e p o n v=hdB e p o n v:=if_pos h
theorem Pv{e p o n v:Int}(h:¬hdC e p o n v=0):hdL e p o n v=[]:=if_neg h
def hdS(e p o n v:Int):Int:=bf (hdB e p o n v)
def Hq(e p o n v:Int):Int:=if hdC e p o n v=0 then hdS e p o n v else 0
theorem Dx{e p o n v:Int}(h:hdC e p o n v=0):Hq e p o n v=hdS e p o n v:=if_pos h
theorem Un{e p o n v:Int}(h:¬hdC e p o n v=0):Hq e p o n v=0:=if_neg h
def iD(a b:Int):Bool:=if a=4 then b==4 else(a==1||b != 1)
def mfB(a b:Int):Bool:=inB a 1 5&&(inB b 1 5&&iD a b)
def hdV(e p o n v:Int):Value:= .agg #[.int .i64 e,.int .i64 p,.int .i64 o,.int .i64 n,.int .i64 v]
def hrV(c e p o n v:Int):Value:= .agg #[.int .i64 c,.int .i64 e,.int .i64 p,.int .i64 o,.int .i64 n,.int .i64 v]
structure HdS(w:World)(b off:Nat)(h:Hd):Prop where
 c0:w.cell? ⟨b,off,none⟩=some (.int .i64 h.e)
 c1:w.cell? ⟨b,off+1,none⟩=some (.int .i64 h.p)
 c2:w.cell? ⟨b,off+2,none⟩=some (.int .i64 h.o)
 c3:w.cell? ⟨b,off+3,none⟩=some (.int .i64 h.n)
 c4:w.cell? ⟨b,off+4,none⟩=some (.int .i64 h.v)
theorem HdS.below{w w':World}{b off N:Nat}{r:Hd}(h:HdS w b off r)(hb:Below N w w')(hlt:b<N):HdS w' b off r:=
 ⟨(hb.cell (p:=⟨b,off,none⟩) hlt).trans h.c0,(hb.cell (p:=⟨b,off+1,none⟩) hlt).trans h.c1,(hb.cell (p:=⟨b,off+2,none⟩) hlt).trans h.c2,(hb.cell (p:=⟨b,off+3,none⟩) hlt).trans h.c3,(hb.cell (p:=⟨b,off+4,none⟩) hlt).trans h.c4⟩
theorem HdS.grown{w w':World}{b off:Nat}{r:Hd}{row:Option Nat}(h:HdS w b off r)(hg:w.grownBy w' row)(hne:some b≠row):HdS w' b off r:=
 ⟨hg.cell h.c0 hne,hg.cell h.c1 hne,hg.cell h.c2 hne,hg.cell h.c3 hne,hg.cell h.c4 hne⟩
theorem HdS.lt{w:World}{b off:Nat}{r:Hd}(h:HdS w b off r):b<w.heap.size:=by
 rcases hh:w.heap[b]? with _ | o
 ·have:=h.c0;simp[World.cell?,hh]at this
 ·exact(Array.getElem?_eq_some_iff.1 hh).1
theorem HdS.new(w:World)(r:Hd)(t:TypeId):HdS (w.alloc (.cells #[.int .i64 r.e,.int .i64 r.p,.int .i64 r.o,.int .i64 r.n,.int .i64 r.v] t)) w.heap.size 0 r:=by
 have hh:=heap_alloc_new w (.cells #[.int .i64 r.e,.int .i64 r.p,.int .i64 r.o,.int .i64 r.n,.int .i64 r.v] t)
 constructor<;>(unfold World.cell?;rw[hh];rfl)
theorem vS{P:Program}(w:World)(src dst e:TypeId)(g off cap:Nat)(t:ByteArray)(hs:P.underlying src=some (.slice e))(he:P.underlying e=some (.int .u8))(hd:P.underlying dst=some .string)
  (hc:∀j,j<t.size->w.cell? ⟨g,off+j,none⟩=some (.int .u8 (bt t j))) :
  (convert src dst (.slice (some ⟨g,off,none⟩) t.size cap)).run P w = .ok (.string t) w:=by
 have hl:=Lib.size_eq t
 have h:=run_convert_bytes_back (P:=P) w src dst e ⟨g,off,none⟩ cap t.data.toList hs he hd (fun j hj=>by
  rw[Addr.add_lit,hc j (by omega),jQ]
  simp only[List.getD_eq_getElem?_getD,List.getElem?_eq_getElem hj,Option.getD_some])
 rw[←hl,Lib.mk_data]at h
 exact h
theorem qZ(w:World)(e:TypeId)(s:ByteArray)(cap:Nat)(fz:Nat × Nat)(hfz:s.size<=fz.1)(j:Nat)(hj:j<s.size):
  (w.alloc (.cells (bytesRow s cap) e fz)).cell? ⟨w.heap.size,j,none⟩=some (.int .u8 (bt s j))/\(w.alloc (.cells (bytesRow s cap) e fz)).frozen? ⟨w.heap.size,j,none⟩=false:=by
 have hh:=heap_alloc_new w (.cells (bytesRow s cap) e fz)
 have hl:=Lib.size_eq s
 have hr:(bytesRow s cap)[j]? = some (.int .u8 (bt s j)):=by
  unfold bytesRow
  rw[Array.getElem?_append_left (by simpa using hj),jQ]
  simp only[Array.getElem?_map,List.getD_eq_getElem?_getD,Array.getElem?_toList]
  have:j<s.data.size:=hj
  rw[Array.getElem?_eq_getElem this]
  rfl
 refine⟨?_, ?_⟩
 ·unfold World.cell?
  rw[hh]
  exact hr
 ·unfold World.frozen?
  rw[hh]
  simp
  omega
def bl(s:ByteArray):List Int:=s.data.toList.map fun b=>(b.toNat:Int)
theorem oI(s:ByteArray):(bl s).length=s.size:=by unfold bl;rw[List.length_map];exact(Lib.size_eq s).symm
theorem Tz(s:ByteArray){j:Nat}(h:j<s.size):(bl s).getD j 0=bt s j:=by
 have hl:j<s.data.toList.length:=by rw[←Lib.size_eq];exact h
 rw[jQ]
 unfold bl
 simp only[List.getD_eq_getElem?_getD,List.getElem?_map,List.getElem?_eq_getElem hl,Option.map_some,Option.getD_some]
theorem GI(s:ByteArray):Bts (bl s):=by
 intro b hb
 unfold bl at hb
 rw[List.mem_map]at hb
 obtain⟨x,_,rfl⟩:=hb
 have:=x.toNat_lt
 omega
theorem Ei(w:World)(s:ByteArray)(e:TypeId)(cap:Nat)(fz:Nat × Nat)(hfz:s.size<=fz.1):Ints .u8 (w.alloc (.cells (bytesRow s cap) e fz)) (.slice (some ⟨w.heap.size,0,none⟩) s.size cap) (bl s):=by
 refine Or.inr ⟨w.heap.size,0,cap,by rw[oI],by simp,fun j hj=> ?_⟩
 rw[oI]at hj
 rw[Nat.zero_add,Tz s hj]
 exact(qZ w e s cap fz hfz j hj).1
theorem Oz(s t:ByteArray):s.toList=t.toList↔s=t:=by
 constructor
 ·intro e
  apply ByteArray.ext
  apply Array.toList_inj.1
  rw[←Lib.toList_data,←Lib.toList_data,e]
 ·intro e;rw[e]
theorem QO{w:World}{b off:Nat}{bs:List Int}(hc:∀j,j<bs.length->w.cell? ⟨b,off+j,none⟩=some (.int .u8 (bs.getD j 0))):∀j u,(bs.map (Value.int .u8))[j]? = some u->w.cell? ((⟨b,off,none⟩:Addr).add j)=some u:=by
 intro j u h
 rw[List.getElem?_map]at h
 rcases hj:bs[j]? with _ | x
 ·rw[hj]at h;cases h
 ·rw[hj]at h
  cases h
  have hlt:j<bs.length:=(List.getElem?_eq_some_iff.1 hj).1
  rw[Addr.add_lit,hc j hlt]
  simp[hj]
def badR(r:Int):Bool:=decide (r<33)||inB r 127 160
def aH(s:ByteArray):Int:=if s.size=0 then 1 else if 12<s.size then 2 else match runes s with | none=>5 | some xs=>if xs.any badR=true then 5 else 0
theorem BO(s:ByteArray):s.toList.isEmpty=decide (s.size=0):=by
 rw[Lib.toList_data,Bool.eq_iff_iff,decide_eq_true_iff,List.isEmpty_iff_length_eq_zero,Lib.size_eq]
def Good(xs:List Int)(k:Nat):Prop:=∀j,j<k->badR (xs.getD j 0)=false
theorem Good.succ{xs:List Int}{k:Nat}(h:Good xs k)(h1:badR (xs.getD k 0)=false):Good xs (k+1):=by
 intro j hj
 by_cases e:j=k
 ·subst e;exact h1
 ·exact h j (by omega)
theorem Good.all{xs:List Int}(h:Good xs xs.length):xs.any badR=false:=by
 rw[List.any_eq_false]
 intro x hx
 obtain⟨j,hj,rfl⟩:=List.getElem_of_mem hx
 have:=h j hj
 rw[getD_eq hj]at this
 simp[this]
theorem xQ{xs:List Int}{k:Nat}(hk:k<xs.length)(h:badR (xs.getD k 0)=true):xs.any badR=true:=by
 rw[List.any_eq_true]
 rw[getD_eq hk]at h
 exact⟨_,List.getElem_mem hk,h⟩
theorem wS{s:ByteArray}(h:s.size=0):aH s=1:=by simp[aH,h]
theorem yX{s:ByteArray}(h:12<s.size):aH s=2:=by unfold aH;rw[if_neg (by omega),if_pos h]
theorem yY{s:ByteArray}(h0:¬s.size=0)(h:¬ 12<s.size)(hr:runes s=none):aH s=5:=by simp[aH,h0,h,hr]
theorem pV{s:ByteArray}{xs:List Int}(h0:¬s.size=0)(h:¬ 12<s.size)(hr:runes s=some xs)(hb:xs.any badR=true):aH s=5:=by simp[aH,h0,h,hr,hb]
theorem rQ{s:ByteArray}{xs:List Int}(h0:¬s.size=0)(h:¬ 12<s.size)(hr:runes s=some xs)(hb:xs.any badR=false):aH s=0:=by simp[aH,h0,h,hr,hb]
theorem Gy{r:Int}(h:r<33):badR r=true:=by unfold badR;simp[h]
theorem Gz{r:Int}(h:inB r 127 160=true):badR r=true:=by unfold badR;simp[h]
theorem Dn{r:Int}(h:33<=r)(h2:inB r 127 160=false):badR r=false:=by unfold badR;simp[h,h2]
theorem yU(s:ByteArray)(w:World)(hs:s.size<=1048576):
  Calls Tryz.prog 149 #[.string s] w fun e w'=>e = .returned (.int .i64 (aH s))/\Below w.heap.size w w':=by
 have hem:=BO s
 by_cases h0:s.size=0
 ·have h1:s.toList.isEmpty=true:=by rw[hem];simp[h0]
  rw[wS h0]
  clear hem
  go_enter Tryz.func149,Tryz.ntmps149
  go_wp2
  go_ret
  exact⟨rfl,Below.refl _ _⟩
 ·have h1:s.toList.isEmpty=false:=by rw[hem];simp[h0]
  clear hem
  by_cases h12:12<s.size
  ·rw[yX h12]
   go_enter Tryz.func149,Tryz.ntmps149
   go_wp2
   go_ret
   exact⟨rfl,Below.refl _ _⟩
  ·rcases hr:runes s with _ | xs
   ·rw[yY h0 h12 hr]
    go_enter Tryz.func149,Tryz.ntmps149
    go_wp2_with (go_at_call 210;refine(Ij s _ hs hr).mono ?_;rintro e w1 ⟨rfl,hb⟩)
    go_ret
    exact⟨rfl,hb⟩
   ·have hlen:=xG hr
    have H0:Hid (¬s.size=0):=h0
    have HR:Hid (runes s=some xs):=hr
    clear h0
    go_enter Tryz.func149,Tryz.ntmps149
    go_wp2_with (go_at_call 210;refine(Ik s _ xs hs hr).mono ?_;rintro e w1 ⟨a,c,rfl,hb,hown⟩)
    have hv:=gZ hown
    clear hown hr
    by_cases hz:0<xs.length
    ·obtain⟨_,b,off,rfl,_,hc⟩:=hv.at hz
     clear hv
     obtain⟨n,hn⟩:∃n,n=xs.length:=⟨_,rfl⟩
     have HN:Hid (n=xs.length):=hn
     rw[←hn]at hc hlen hz ⊢
     clear hn
     go_loop [5] (fun i=>∃k:Nat,k<=n/\i = .int .i64 k/\Hid (Good xs k)) (fun i=>n - (intOf i).toNat)
     case atStart=>exact⟨0,Nat.zero_le _,rfl,fun j hj=>by omega⟩
     case round=>
      obtain⟨k,hk,rfl,hG⟩:=hrel
      by_cases hkn:k<n
      ·have hki:(k:Int)<(n:Int):=by omega
       have hck:=hc k hkn
       clear hc
       obtain⟨x,hx⟩:∃x,x=xs.getD k 0:=⟨_,rfl⟩
       have HX:Hid (x=xs.getD k 0):=hx
       rw[←hx]at hck
       clear hx
       by_cases hx1:x<33
       ·go_wp2_with (go_at_call 98;refine(bY _ _ _ _).mono ?_;rintro e w' ⟨rfl,rfl⟩)
        go_ret
        exact⟨aG (by rw[pV H0.out h12 HR.out (xQ (by rw[←HN.out];exact hkn) (by rw[←HX.out];exact Gy hx1))]),hb⟩
       ·rcases Bool.eq_false_or_eq_true (inB x 127 160)with hx2 | hx2
        ·go_wp2_with (go_at_call 98;refine(bY _ _ _ _).mono ?_;rintro e w' ⟨rfl,rfl⟩)
         go_ret
         exact⟨aG (by rw[pV H0.out h12 HR.out (xQ (by rw[←HN.out];exact hkn) (by rw[←HX.out];exact Gz hx2))]),hb⟩
        ·go_wp2_with (go_at_call 98;refine(bY _ _ _ _).mono ?_;rintro e w' ⟨rfl,rfl⟩)
         go_round
         case rel=>exact⟨k+1,by omega,by go_num,hG.out.succ (by rw[←HX.out];exact Dn (by omega) hx2)⟩
         case measure=>simp[intOf];omega
      ·go_wp2
       go_ret
       have hkn:k=n:=by omega
       subst hkn
       exact⟨aG (by rw[rQ H0.out h12 HR.out (Good.all (by rw[←HN.out];exact hG.out))]),hb⟩
    ·have e:xs=[]:=List.eq_nil_of_length_eq_zero (by omega)
     subst e
     simp only[List.length_nil]
     clear hv
     refine wp_loop_rounds 1 ?_;rw[rounds_succ]
     go_wp2
     go_ret
     exact⟨aG (by rw[rQ H0.out h12 HR.out rfl]),hb⟩
theorem dW(s:ByteArray)(w:World)(hs:s.size<=1048576):
  Calls Tryz.prog 74 #[.string s] w fun e w'=>e = .returned (.int .i64 (aH s))/\Below w.heap.size w w':=by
 have hem:=BO s
 by_cases h0:s.size=0
 ·have h1:s.toList.isEmpty=true:=by rw[hem];simp[h0]
  rw[wS h0]
  clear hem
  go_enter Tryz.func74,Tryz.ntmps74
  go_wp2
  go_ret
  exact⟨rfl,Below.refl _ _⟩
 ·have h1:s.toList.isEmpty=false:=by rw[hem];simp[h0]
  clear hem
  by_cases h12:12<s.size
  ·rw[yX h12]
   go_enter Tryz.func74,Tryz.ntmps74
   go_wp2
   go_ret
   exact⟨rfl,Below.refl _ _⟩
  ·have hA:=fun w=>BK s w hs
   rcases hr:runes s with _ | xs
   ·rw[yY h0 h12 hr]
    rw[L9 (by omega) hr]at hA
    go_enter Tryz.func74,Tryz.ntmps74
    go_wp2_with (go_at_call 159;refine(hA _).mono ?_;intro e w1 h9;obtain⟨a,c,rfl,hb,_⟩:=h9.use)
    go_ret
    exact⟨rfl,hb.alloc hb.size _⟩
   ·rw[Mc (by omega) hr]at hA
    have hlen:=xG hr
    have H0:Hid (¬s.size=0):=h0
    have HR:Hid (runes s=some xs):=hr
    clear h0 hr
    go_enter Tryz.func74,Tryz.ntmps74
    go_wp2_with (go_at_call 159;refine(hA _).mono ?_;intro e w1 h9;obtain⟨a,c,rfl,hb,hown⟩:=h9.use;clear h9)
    have hv:=(gZ hown).below (aj (.cells #[.int .i64 0,.slice a xs.length c] 245))
    have hB:Below w.heap.size w (w1.alloc (.cells #[.int .i64 0,.slice a xs.length c] 245)):=hb.alloc hb.size _
    clear hown hA
    by_cases hz:0<xs.length
    ·obtain⟨_,b,off,rfl,_,hc⟩:=hv.at hz
     clear hv
     obtain⟨n,hn⟩:∃n,n=xs.length:=⟨_,rfl⟩
     have HN:Hid (n=xs.length):=hn
     rw[←hn]at hc hlen hz hB ⊢
     clear hn
     go_loop [21] (fun i=>∃k:Nat,k<=n/\i = .int .i64 k/\Hid (Good xs k)) (fun i=>n - (intOf i).toNat)
     case atStart=>exact⟨0,Nat.zero_le _,rfl,fun j hj=>by omega⟩
     case round=>
      obtain⟨k,hk,rfl,hG⟩:=hrel
      by_cases hkn:k<n
      ·have hki:(k:Int)<(n:Int):=by omega
       have hck:=hc k hkn
       clear hc
       obtain⟨x,hx⟩:∃x,x=xs.getD k 0:=⟨_,rfl⟩
       have HX:Hid (x=xs.getD k 0):=hx
       rw[←hx]at hck
       clear hx
       by_cases hx1:x<33
       ·go_wp2
        go_ret
        exact⟨aG (by rw[pV H0.out h12 HR.out (xQ (by rw[←HN.out];exact hkn) (by rw[←HX.out];exact Gy hx1))]),hB⟩
       ·by_cases hx2:127<=x
        ·by_cases hx3:x<=160
         ·go_wp2
          go_ret
          exact⟨aG (by rw[pV H0.out h12 HR.out (xQ (by rw[←HN.out];exact hkn) (by rw[←HX.out];exact Gz (jd hx2 hx3)))]),hB⟩
         ·go_wp2
          go_round
          case rel=>exact⟨k+1,by omega,by go_num,hG.out.succ (by rw[←HX.out];exact Dn (by omega) (lC (by omega)))⟩
          case measure=>simp[intOf];omega
        ·go_wp2
         go_round
         case rel=>exact⟨k+1,by omega,by go_num,hG.out.succ (by rw[←HX.out];exact Dn (by omega) (lC (by omega)))⟩
         case measure=>simp[intOf];omega
      ·go_wp2
       go_ret
       have hkn:k=n:=by omega
       subst hkn
       exact⟨aG (by rw[rQ H0.out h12 HR.out (Good.all (by rw[←HN.out];exact hG.out))]),hB⟩
    ·have e:xs=[]:=List.eq_nil_of_length_eq_zero (by omega)
     subst e
     simp only[List.length_nil]at hB ⊢
     clear hv
     refine wp_loop_rounds 1 ?_;rw[rounds_succ]
     go_wp2
     go_ret
     exact⟨aG (by rw[rQ H0.out h12 HR.out rfl]),hB⟩
def foldI(b:Int):Int:=if 65<=b/\b<=90 then b+32 else b
def dJ(s:ByteArray):ByteArray:=⟨s.data.map (fun b=>UInt8.ofNat (foldI b.toNat).toNat)⟩
theorem QX{b:Int}(h0:0<=b)(h1:b<=255):0<=foldI b/\foldI b<=255:=by unfold foldI;split<;>omega
theorem mY(s:ByteArray):(dJ s).size=s.size:=by show(s.data.map _).size=s.data.size;simp
theorem QL(s:ByteArray)(j:Nat)(h:j<s.size):bt (dJ s) j=foldI (bt s j):=by
 have hb:=nY s j
 rw[jQ]
 rw[jQ]at hb ⊢
 have hl:j<s.data.toList.length:=by rw[←Lib.size_eq];exact h
 have e:(dJ s).data.toList.getD j 0=UInt8.ofNat (foldI ((s.data.toList.getD j 0).toNat)).toNat:=by
  simp only[dJ,Array.toList_map,List.getD_eq_getElem?_getD,List.getElem?_map,List.getElem?_eq_getElem hl,Option.map_some,Option.getD_some]
 rw[e]
 have hb2:=QX hb.1 hb.2
 rw[UInt8.toNat_ofNat']
 omega
def wo(s:ByteArray)(k j:Nat):Int:=if j<k then foldI (bt s j)else bt s j
def gU(s:ByteArray)(g k:Nat)(w:World):Prop:=∀j,j<s.size->w.cell? ⟨g,j,none⟩=some (.int .u8 (wo s k j))/\w.frozen? ⟨g,j,none⟩=false
theorem kH{s:ByteArray}{k j:Nat}(h:j<k):wo s k j=foldI (bt s j):=by simp[wo,h]
theorem jH{s:ByteArray}{k j:Nat}(h:¬j<k):wo s k j=bt s j:=by simp[wo,h]
theorem gU.stay{s:ByteArray}{g k:Nat}{w:World}(h:gU s g k w)(he:foldI (bt s k)=bt s k):gU s g (k+1) w:=by
 intro j hj
 refine⟨(h j hj).1.trans ?_,(h j hj).2⟩
 by_cases e:j=k
 ·subst e;rw[jH (by omega),kH (by omega),he]
 ·by_cases e2:j<k
  ·rw[kH e2,kH (by omega)]
  ·rw[jH e2,jH (by omega)]
theorem gU.store{s:ByteArray}{g k:Nat}{w:World}(h:gU s g k w)(hk:k<s.size):gU s g (k+1) (w.setCell ⟨g,k,none⟩ (.int .u8 (foldI (bt s k)))):=by
 intro j hj
 by_cases e:j=k
 ·subst e
  refine⟨?_, ?_⟩
  ·rw[kH (by omega)];exact World.cell?_setCell_same _ _ _ (h j hj).1
  ·rw[World.frozen?_setCell];exact(h j hj).2
 ·have hne:(⟨g,k,none⟩:Addr)≠⟨g,j,none⟩:=by intro e2;cases e2;exact e rfl
  refine⟨?_, ?_⟩
  ·rw[World.cell?_setCell_other _ _ _ _ hne,(h j hj).1]
   by_cases e2:j<k
   ·rw[kH e2,kH (by omega)]
   ·rw[jH e2,jH (by omega)]
  ·rw[World.frozen?_setCell];exact(h j hj).2
theorem tN{b:Int}(h:b<65∨90<b):foldI b=b:=by unfold foldI;rw[if_neg (by omega)]
theorem Em{b:Int}(h1:65<=b)(h2:b<=90):foldI b=b+32:=by unfold foldI;rw[if_pos ⟨h1,h2⟩]
theorem gU.back{s:ByteArray}{g:Nat}{w:World}(h:gU s g s.size w):∀j,j<(dJ s).size->w.cell? ⟨g,0+j,none⟩=some (.int .u8 (bt (dJ s) j)):=by
 intro j hj
 rw[mY]at hj
 rw[Nat.zero_add,(h j hj).1,kH hj,QL s j hj]
theorem gU.start{s:ByteArray}(w:World)(e:TypeId)(cap:Nat)(fz:Nat × Nat)(hfz:s.size<=fz.1):gU s w.heap.size 0 (w.alloc (.cells (bytesRow s cap) e fz)):=by
 intro j hj
 rw[jH (by omega)]
 exact qZ w e s cap fz hfz j hj
theorem tZ(s:ByteArray)(w:World)(hs:s.size<=12):
  Calls Tryz.prog 158 #[.string s] w fun e w'=>e = .returned (.string (dJ s))/\Below w.heap.size w w':=by
 have kc:=fun (w:World)=>run_bytes_of_string (P:=Tryz.prog) w 9 243 5 s Tryz.underlying9 Tryz.underlying243 Tryz.underlying5
 go_enter Tryz.func158,Tryz.ntmps158
 go_wp2
 generalize grownCap w s.size 0 5=cap
 go_loopw [4] (fun i wr=>∃k:Nat,k<=s.size/\i = .int .i64 k/\Below w.heap.size w wr/\w.heap.size<wr.heap.size/\Hid (gU s w.heap.size k wr)) (fun i _=>s.size - (intOf i).toNat)
 case atStart=>exact⟨0,Nat.zero_le _,rfl,(aj _).drew,by simp,gU.start w _ _ _ (by simp[bytesRow])⟩
 case round=>
  obtain⟨k,hk,rfl,hB,hlt,hF⟩:=hrel
  by_cases hks:k<s.size
  ·have hki:(k:Int)<(s.size:Int):=by omega
   have hc:=(hF.out k hks).1
   have hf:=(hF.out k hks).2
   rw[jH (by omega)]at hc
   have hb:=nY s k
   obtain⟨b,hbb⟩:∃b,b=bt s k:=⟨_,rfl⟩
   have HB:Hid (b=bt s k):=hbb
   rw[←hbb]at hc hb
   clear hbb kc
   by_cases h1:65<=b
   ·by_cases h2:b<=90
    ·go_wp2
     go_roundw
     case rel=>
      refine⟨k+1,by omega,by go_num,hB.setCell (Nat.le_refl _) _,by simpa using hlt, ?_⟩
      have:=hF.out.store hks
      rw[←HB.out,Em h1 h2]at this
      exact this
     case measure=>simp[intOf];omega
    ·go_wp2
     go_roundw
     case rel=>exact⟨k+1,by omega,by go_num,hB,hlt,hF.out.stay (by rw[←HB.out];exact tN (by omega))⟩
     case measure=>simp[intOf];omega
   ·go_wp2
    go_roundw
    case rel=>exact⟨k+1,by omega,by go_num,hB,hlt,hF.out.stay (by rw[←HB.out];exact tN (by omega))⟩
    case measure=>simp[intOf];omega
  ·have hk2:k=s.size:=by omega
   have hcv:=vS (P:=Tryz.prog) wr 243 9 5 w.heap.size 0 cap (dJ s) Tryz.underlying243 Tryz.underlying5 Tryz.underlying9 (by have:=hF.out;rw[hk2]at this;exact this.back)
   rw[mY]at hcv
   clear hk2 kc
   go_wp2
   go_ret
   exact⟨rfl,hB⟩
def oh(s:ByteArray):ByteArray:=if aH s=0 then dJ s else⟨#[]⟩
theorem iT{s:ByteArray}(h:aH s=0):s.size<=12:=by
 unfold aH at h
 by_cases h0:s.size=0
 ·omega
 ·by_cases h1:12<s.size
  ·rw[if_neg h0,if_pos h1]at h;omega
  ·omega
theorem pJ(s:ByteArray)(w:World)(hs:s.size<=1048576):
  Calls Tryz.prog 167 #[.string s] w fun e w'=>e = .returned (.agg #[.int .i64 (aH s),.string (oh s)])/\Below w.heap.size w w':=by
 have hL:=fun w=>dW s w hs
 have hsm:=iT (s:=s)
 unfold oh
 generalize aH s=code at *
 by_cases h:code=0
 ·have h12:=hsm h
  subst h
  clear hsm
  rw[if_pos rfl]
  have kc:=fun (w:World)=>run_bytes_of_string (P:=Tryz.prog) w 9 243 5 s Tryz.underlying9 Tryz.underlying243 Tryz.underlying5
  go_enter Tryz.func167,Tryz.ntmps167
  go_wp2_with (go_at_call 74;refine(hL _).mono ?_;rintro e w1 ⟨rfl,hb1⟩)
  generalize grownCap w1 s.size 0 5=cap
  go_loopw [17] (fun i wr=>∃k:Nat,k<=s.size/\i = .int .i64 k/\Below w1.heap.size w1 wr/\w1.heap.size<wr.heap.size/\Hid (gU s w1.heap.size k wr)) (fun i _=>s.size - (intOf i).toNat)
  case atStart=>exact⟨0,Nat.zero_le _,rfl,(aj _).drew,by simp,gU.start w1 _ _ _ (by simp[bytesRow])⟩
  case round=>
   obtain⟨k,hk,rfl,hB,hlt,hF⟩:=hrel
   by_cases hks:k<s.size
   ·have hki:(k:Int)<(s.size:Int):=by omega
    have hc:=(hF.out k hks).1
    have hf:=(hF.out k hks).2
    rw[jH (by omega)]at hc
    have hb:=nY s k
    obtain⟨b,hbb⟩:∃b,b=bt s k:=⟨_,rfl⟩
    have HB:Hid (b=bt s k):=hbb
    rw[←hbb]at hc hb
    clear hbb kc hL
    by_cases h1:65<=b
    ·by_cases h2:b<=90
     ·go_wp2
      go_roundw
      case rel=>
       refine⟨k+1,by omega,by go_num,hB.setCell (Nat.le_refl _) _,by simpa using hlt, ?_⟩
       have:=hF.out.store hks
       rw[←HB.out,Em h1 h2,show b+32=b - 65+97 by omega]at this
       exact this
      case measure=>simp[intOf];omega
     ·go_wp2
      go_roundw
      case rel=>exact⟨k+1,by omega,by go_num,hB,hlt,hF.out.stay (by rw[←HB.out];exact tN (by omega))⟩
      case measure=>simp[intOf];omega
    ·go_wp2
     go_roundw
     case rel=>exact⟨k+1,by omega,by go_num,hB,hlt,hF.out.stay (by rw[←HB.out];exact tN (by omega))⟩
     case measure=>simp[intOf];omega
   ·have hk2:k=s.size:=by omega
    have hcv:=vS (P:=Tryz.prog) wr 243 9 5 w1.heap.size 0 cap (dJ s) Tryz.underlying243 Tryz.underlying5 Tryz.underlying9 (by have:=hF.out;rw[hk2]at this;exact this.back)
    rw[mY]at hcv
    have hb2:=ah hb1 hB
    obtain⟨hc,hf⟩:=MP hb2
    clear hk2 kc hL
    go_wp2
    exact bodyPost_ret (v:= .agg #[.int .i64 0,.string (dJ s)]) (by simp[results,Tryz.results167,go_sem,hc]) rfl ⟨rfl,((ak hb2).setCell (Nat.le_refl _) _).setCell (Nat.le_refl _) _⟩
 ·have h1:(code != 0)=true:=by simpa using h
  rw[if_neg h]
  clear h hsm
  go_enter Tryz.func167,Tryz.ntmps167
  go_wp2_with (go_at_call 74;refine(hL _).mono ?_;rintro e w1 ⟨rfl,hb1⟩;obtain⟨hc,hf⟩:=MP hb1)
  exact bodyPost_ret (v:= .agg #[.int .i64 code,.string ⟨#[]⟩]) (by simp[results,Tryz.results167,go_sem,hc]) rfl ⟨rfl,((ak hb1).setCell (Nat.le_refl _) _).setCell (Nat.le_refl _) _⟩
def gK(l:ByteArray):Bool:=(dJ l).toList==l.toList
theorem Na(l:ByteArray):gK l=true↔dJ l=l:=by unfold gK;rw[beq_iff_eq];exact Oz _ _
def jY(v o p:Int):Bool:=inB v 1 999&&(aJ o&&aJ p)
def recC(l:ByteArray)(v o p:Int):Int:=if aH l=0 then(if gK l=true then(if jY v o p=true then 0 else 3)else 1)else aH l
theorem Cc{l:ByteArray}{v o p:Int}(h:¬aH l=0):recC l v o p=aH l:=by unfold recC;rw[if_neg h]
theorem EF{l:ByteArray}{v o p:Int}(h:aH l=0)(h1:gK l=false):recC l v o p=1:=by unfold recC;rw[if_pos h,h1];rfl
theorem Ce{l:ByteArray}{v o p:Int}(h:aH l=0)(h1:gK l=true)(h2:jY v o p=false):recC l v o p=3:=by unfold recC;rw[if_pos h,h1,h2];rfl
theorem Md{l:ByteArray}{v o p:Int}(h:aH l=0)(h1:gK l=true)(h2:jY v o p=true):recC l v o p=0:=by unfold recC;rw[if_pos h,h1,h2];rfl
structure pO(l:ByteArray)(v o p:Int):Prop where
 lab:aH l=0
 fld:dJ l=l
 small:l.size<=12
 v0:1<=v
 v1:v<=999
 o0:0<=o
 o1:o<=65520
 p0:0<=p
 p1:p<=65520
theorem yh{l:ByteArray}{v o p:Int}(h:recC l v o p=0):pO l v o p:=by
 unfold recC at h
 by_cases h1:aH l=0
 ·rw[if_pos h1]at h
  by_cases h2:gK l=true
  ·rw[if_pos h2]at h
   by_cases h3:jY v o p=true
   ·unfold jY at h3
    rw[Bool.and_eq_true,Bool.and_eq_true]at h3
    obtain⟨a,b,c⟩:=h3
    have a:=iw a
    have b:=(bD o).1 b
    have c:=(bD p).1 c
    exact⟨h1,(Na l).1 h2,iT h1,a.1,a.2,b.1,b.2,c.1,c.2⟩
   ·rw[if_neg h3]at h;omega
  ·rw[if_neg h2]at h;omega
 ·rw[if_neg h1]at h;omega
theorem pO.sums{l:ByteArray}{v o p:Int}(h:pO l v o p): [v,o,p].all aJ=true:=by
 have h0:aJ v=true:=(bD v).2 ⟨by have:=h.v0;omega,by have:=h.v1;omega⟩
 have h1:aJ o=true:=(bD o).2 ⟨h.o0,h.o1⟩
 have h2:aJ p=true:=(bD p).2 ⟨h.p0,h.p1⟩
 simp[h0,h1,h2]
theorem pO.pos{l:ByteArray}{v o p:Int}(h:pO l v o p):0<l.size:=by
 have:=h.lab
 unfold aH at this
 by_cases h0:l.size=0
 ·rw[if_pos h0]at this;omega
 ·omega
def jB(zs xs:List Int)(k:Nat):List Int:=zs++(xs.take k).flatMap pF
def numsL(zs xs:List Int):List Int:=zs++xs.flatMap pF
theorem KL(zs xs:List Int):jB zs xs 0=zs:=by simp[jB]
theorem BZ(zs xs:List Int):jB zs xs xs.length=numsL zs xs:=by unfold jB numsL;rw[List.take_length]
theorem KJ(zs:List Int){xs:List Int}{k:Nat}(h:k<xs.length):jB zs xs (k+1)=jB zs xs k++[xs.getD k 0/256,xs.getD k 0%256]:=by
 unfold jB
 rw[pX h,List.flatMap_append]
 simp[pF]
theorem Oa(zs:List Int){xs:List Int}{k:Nat}(h:k<=xs.length):(jB zs xs k).length=zs.length+2*k:=by
 unfold jB
 rw[List.length_append,GZ,List.length_take]
 omega
def jJ(l:ByteArray):List Int:=1::(l.size:Int)::bl l
def dR(l:ByteArray)(v o p:Int):List Int:=jJ l++[v/256,v%256,o/256,o%256,p/256,p%256]
theorem Om(l:ByteArray)(v o p:Int):numsL (jJ l) [v,o,p]=dR l v o p:=by simp[numsL,dR,pF]
theorem wF(l:ByteArray):(jJ l).length=2+l.size:=by simp[jJ,oI];omega
theorem xq(l:ByteArray)(v o p:Int):(dR l v o p).length=8+l.size:=by unfold dR;rw[List.length_append,wF];simp;omega
theorem ED{l:ByteArray}{v o p:Int}(h:pO l v o p):Bts (dR l v o p):=by
 intro b hb
 obtain⟨-,-,hs,h1,h2,h3,h4,h5,h6⟩:=h
 unfold dR jJ at hb
 simp only[List.mem_append,List.mem_cons,List.not_mem_nil,or_false]at hb
 rcases hb with(rfl | rfl | hb)|hb
 ·omega
 ·omega
 ·exact GI l b hb
 ·omega
def pkL(l:ByteArray)(v o p:Int):List Int:=if recC l v o p=0 then dR l v o p else []
theorem TM{l:ByteArray}{v o p:Int}(h:recC l v o p=0):pkL l v o p=dR l v o p:=by unfold pkL;rw[if_pos h]
theorem TL{l:ByteArray}{v o p:Int}(h:¬recC l v o p=0):pkL l v o p=[]:=by unfold pkL;rw[if_neg h]
def dG(l:ByteArray)(v o p:Int):Value:= .agg #[.string l,.int .i64 v,.int .i64 o,.int .i64 p]
def After(W:World):Type:={w':World // Below W.heap.size W w'}
def After.w{W:World}(n:After W):World:=n.1
theorem After.b{W:World}(n:After W):Below W.heap.size W n.w:=n.2
theorem After.ne(W:World):Nonempty (After W):=⟨⟨W,Below.refl _ _⟩⟩
theorem bP{W w':World}(h:Below W.heap.size W w'):∃n:After W,w'=n.w:=⟨⟨w',h⟩,rfl⟩
theorem After.cell{W:World}{b i:Nat}{x:Value}(h:W.cell? ⟨b,i,none⟩=some x):∀n:After W,n.w.cell? ⟨b,i,none⟩=some x:=fun n=>by
 have hlt:b<W.heap.size:=by
  rcases hh:W.heap[b]? with _ | o
  ·simp[World.cell?,hh]at h
  ·exact(Array.getElem?_eq_some_iff.1 hh).1
 exact(n.b.cell (p:=⟨b,i,none⟩) hlt).trans h
theorem ay{P:Program}{id:Nat}{Q:Exit->Act->World->Prop}{a:Act}{w:World}{l:List Oper}(hm:P.follows .mixedOrders=true)(hB:Region.lexB .any l.toArray=true)
  (h:wpQuiet P l.toArray (fun w'=>∃n:After w,w'=n.w) (fun a'=>∀w',(∃n:After w,w'=n.w)->Q .normal a' w') l a):(Go.Code.region id l.toArray true).wp P Q a w:=
 wp_region_quiet (C:=fun w'=>∃n:After w,w'=n.w) hm hB (bP (Below.refl _ _).drew) (by simpa using h)
structure mQ(w:World)(g:Nat)(l:ByteArray)(v o p:Int):Prop where
 c0:w.cell? ⟨g,0,none⟩=some (.string l)
 c1:w.cell? ⟨g,1,none⟩=some (.int .i64 v)
 c2:w.cell? ⟨g,2,none⟩=some (.int .i64 o)
 c3:w.cell? ⟨g,3,none⟩=some (.int .i64 p)
theorem mQ.below{w w':World}{g:Nat}{l:ByteArray}{v o p:Int}(h:mQ w g l v o p)(hb:Below w.heap.size w w'):mQ w' g l v o p:=
 ⟨After.cell h.c0 ⟨w',hb⟩,After.cell h.c1 ⟨w',hb⟩,After.cell h.c2 ⟨w',hb⟩,After.cell h.c3 ⟨w',hb⟩⟩
theorem mQ.new(w:World)(l:ByteArray)(v o p:Int)(t:TypeId):mQ (w.alloc (.cells #[.string l,.int .i64 v,.int .i64 o,.int .i64 p] t)) w.heap.size l v o p:=by
 have hh:=heap_alloc_new w (.cells #[.string l,.int .i64 v,.int .i64 o,.int .i64 p] t)
 constructor<;>(unfold World.cell?;rw[hh];rfl)
theorem lK(n:Int)(w:World):Calls Tryz.prog 204 #[.int .i64 n] w fun e w'=>e = .returned (.bool (aJ n))/\w'=w:=by
 go_enter Tryz.func204,Tryz.ntmps204
 go_wp2_with (go_at_call 98;refine(bY _ _ _ _).mono ?_;rintro e w1 ⟨rfl,rfl⟩)
 go_ret
 exact⟨aO (by unfold aJ inB;simp),rfl⟩
theorem dA(i:Int):(i != i)=false:=by simp
theorem UL(s t:ByteArray)(v o p:Int)(w:World):(binOp .neq 46 (dG s v o p) (dG t v o p)).run Tryz.prog w = .ok (.bool (!(s.toList==t.toList))) w:=by
 unfold dG
 simp[go_sem]
 by_cases h:s.toList=t.toList
 ·rw[if_pos h];simp[h]
 ·rw[if_neg h];simp[h]
theorem blk4{w:World}{b:Nat}{x y z u:Value}{t:TypeId}(h:w.heap[b]? = some (.cells #[x,y,z,u] t (0,0))):w.cell? ⟨b,0,none⟩=some x/\w.cell? ⟨b,1,none⟩=some y/\w.cell? ⟨b,2,none⟩=some z/\w.cell? ⟨b,3,none⟩=some u/\w.frozen? ⟨b,0,none⟩=false/\w.frozen? ⟨b,1,none⟩=false/\w.frozen? ⟨b,2,none⟩=false/\w.frozen? ⟨b,3,none⟩=false:=by
 simp[World.cell?,World.frozen?,h]
theorem heap_alloc_old'(w:World)(o x:Obj){g:Nat}(h:w.heap[g]? = some x):(w.alloc o).heap[g]? = some x:=by
 have hlt:g<w.heap.size:=(Array.getElem?_eq_some_iff.1 h).1
 rw[(aj o).block g hlt,h]
theorem aU(w:World)(o o':Obj):((w.alloc o).alloc o').heap[w.heap.size+1]? = some o':=by
 have:=heap_alloc_new (w.alloc o) o'
 simpa using this
theorem Xk(x:Int)(s:ByteArray)(w:World):(Instr.field 249 (.agg #[.int .i64 x,.string s]) 1).run Tryz.prog w = .ok (.string s) w:=by kernel_rfl
theorem D9(l:ByteArray)(v o p:Int)(w:World)(hs:l.size<=1048576):
  Calls Tryz.prog 195 #[dG l v o p] w fun e w'=>e = .returned (dG (oh l) v o p)/\Below w.heap.size w w':=by
 have hI:=fun w=>pJ l w hs
 unfold dG
 generalize oh l=t at *
 generalize aH l=c at *
 go_enter Tryz.func195,Tryz.ntmps195
 go_wp2_with fail
 refine(hI _).mono ?_
 rintro e w1 ⟨rfl,hb1⟩
 have hB:Below w.heap.size w w1:=ak (ak hb1)
 have k0:=blk4 ((hb1.block w.heap.size (by simp;omega)).trans (heap_alloc_old' _ _ _ (heap_alloc_new w _)))
 have k1:=blk4 ((hb1.block (w.heap.size+1) (by simp)).trans (aU w _ _))
 go_split_ands
 clear hb1 hI
 have hft:=Xk
 go_wp2
 refine bodyPost_ret (v:=dG t v o p) (by simp[results,Tryz.results195,go_sem,dG, *]) rfl ⟨rfl, ?_⟩
 exact((((hB.setCell (Nat.le_refl _) _).setCell (Nat.le_succ _) _).setCell (Nat.le_succ _) _).setCell (Nat.le_succ _) _).setCell (Nat.le_succ _) _
theorem nN(l:ByteArray)(v o p:Int)(w:World)(hs:l.size<=1048576):
  Calls Tryz.prog 116 #[dG l v o p] w fun e w'=>e = .returned (.int .i64 (recC l v o p))/\Below w.heap.size w w':=by
 have hL:=fun w=>dW l w hs
 have hA:=Cc (l:=l) (v:=v) (o:=o) (p:=p)
 have hF:=EF (l:=l) (v:=v) (o:=o) (p:=p)
 have hR:=Ce (l:=l) (v:=v) (o:=o) (p:=p)
 have hK:=Md (l:=l) (v:=v) (o:=o) (p:=p)
 have hW:=fun w=>D9 l v o p w hs
 have hft:aH l=0->oh l=dJ l:=fun h=>by unfold oh;rw[if_pos h]
 unfold dG
 have h:=mQ.new w l v o p 46
 generalize recC l v o p=rc at *
 generalize aH l=c at *
 by_cases h0:c=0
 ·subst h0
  rw[hft rfl]at hW
  have HF:Hid (gK l=false->rc=1):=hF rfl
  have HR:Hid (gK l=true->jY v o p=false->rc=3):=hR rfl
  have HK:Hid (gK l=true->jY v o p=true->rc=0):=hK rfl
  have hne2:=UL (dJ l) l v o p
  have F6:Hid (((dJ l).toList==l.toList)=gK l):=rfl
  rw[F6.out]at hne2
  clear hF hR hK hA hft
  go_enter Tryz.func116,Tryz.ntmps116
  go_wp2_with fail
  refine(hL _).mono ?_
  rintro e w1 ⟨rfl,hb1⟩
  have h1:=h.below hb1
  have hB1:=ak hb1
  clear h hL hb1
  have hq0:=After.cell h1.c0
  have hq1:=After.cell h1.c1
  have hq2:=After.cell h1.c2
  have hq3:=After.cell h1.c3
  have hne:=After.ne w1
  rcases Bool.eq_false_or_eq_true (gK l)with hf | hf
  ·rw[hf]at hne2
   unfold dG at hne2 hW
   go_wp2_with fail
   refine ay (by kernel_rfl) (by kernel_rfl) ?_
   repeat(first | go_big_quiet_skip |(go_big_quiet_want;go_big_quiet_op;first | go_big_quiet_on | go_big_quiet_call (first |(go_at_call 195;refine(hW _).mono ?_;rintro e wq ⟨rfl,hbq⟩;exact⟨rfl,bP (ah (After.b _) hbq)⟩))))
   refine wpQuiet_nil ?_
   rintro _ ⟨n6,rfl⟩
   have hb6:=n6.b
   have h6:=h1.below hb6
   have jm:=ah hB1 hb6
   generalize n6.w=w6 at *
   clear h1 hq0 hq1 hq2 hq3 hne n6 hne2 F6 hW
   have hc1:=h6.c1
   have hc2:=h6.c2
   have hc3:=h6.c3
   by_cases hv1:v<1
   ·go_wp2_with (first |(go_at_call 196;refine(gQ _ _).mono ?_;rintro e wq ⟨rfl,rfl⟩))
    go_ret
    exact⟨aG (HR.out hf (by simp[jY,inB];omega)).symm,jm⟩
   ·by_cases hv2:999<v
    ·go_wp2_with (first |(go_at_call 196;refine(gQ _ _).mono ?_;rintro e wq ⟨rfl,rfl⟩))
     go_ret
     exact⟨aG (HR.out hf (by simp[jY,inB];omega)).symm,jm⟩
    ·have hv:inB v 1 999=true:=jd (by omega) (by omega)
     have Hv:Hid (inB v 1 999=true):=hv
     clear hv
     rcases Bool.eq_false_or_eq_true (aJ o)with ho | ho
     ·rcases Bool.eq_false_or_eq_true (aJ p)with hp | hp
      ·go_wp2_with (first |(go_at_call 196;refine(gQ _ _).mono ?_;rintro e wq ⟨rfl,rfl⟩))
       go_ret
       exact⟨aG (HK.out hf (by simp[jY,Hv.out,ho,hp])).symm,jm⟩
      ·go_wp2_with (first |(go_at_call 196;refine(gQ _ _).mono ?_;rintro e wq ⟨rfl,rfl⟩))
       go_ret
       exact⟨aG (HR.out hf (by simp[jY,ho,hp])).symm,jm⟩
     ·go_wp2_with (first |(go_at_call 196;refine(gQ _ _).mono ?_;rintro e wq ⟨rfl,rfl⟩))
      go_ret
      exact⟨aG (HR.out hf (by simp[jY,ho])).symm,jm⟩
  ·rw[hf]at hne2
   unfold dG at hne2 hW
   go_wp2_with fail
   refine ay (by kernel_rfl) (by kernel_rfl) ?_
   repeat(first | go_big_quiet_skip |(go_big_quiet_want;go_big_quiet_op;first | go_big_quiet_on | go_big_quiet_call (first |(go_at_call 195;refine(hW _).mono ?_;rintro e wq ⟨rfl,hbq⟩;exact⟨rfl,bP (ah (After.b _) hbq)⟩))))
   refine wpQuiet_nil ?_
   rintro _ ⟨n6,rfl⟩
   have hb6:=n6.b
   have jm:=ah hB1 hb6
   generalize n6.w=w6 at *
   clear h1 hq0 hq1 hq2 hq3 hne n6 hne2 F6 hW
   go_wp2
   go_ret
   exact⟨aG (HF.out hf).symm,jm⟩
 ·have h1:(c != 0)=true:=by simpa using h0
  have HA:Hid (rc=c):=hA h0
  clear hA hF hR hK h0 hft hW h
  go_enter Tryz.func116,Tryz.ntmps116
  go_wp2_with fail
  refine(hL _).mono ?_
  rintro e w1 ⟨rfl,hb1⟩
  go_wp2
  go_ret
  exact⟨aG HA.out.symm,ak hb1⟩
theorem Kr(n:Int)(w:World):Calls Tryz.prog 239 #[.int .i64 n] w fun e w'=>e = .returned (.bool (inB n 1 10))/\w'=w:=by
 by_cases h1:1<=n
 ·by_cases h2:n<=10
  ·rw[jd h1 h2]
   go_enter Tryz.func239,Tryz.ntmps239
   go_wp2
   go_ret
   exact⟨aO (by simp),rfl⟩
  ·rw[lC (Or.inr (by omega))]
   go_enter Tryz.func239,Tryz.ntmps239
   go_wp2
   go_ret
   exact⟨aO (by simp<;>omega),rfl⟩
 ·rw[lC (Or.inl (by omega))]
  go_enter Tryz.func239,Tryz.ntmps239
  go_wp2
  go_ret
  exact⟨aO (by simp<;>omega),rfl⟩
theorem fK(n:Int)(w:World):Calls Tryz.prog 108 #[.int .i64 n] w fun e w'=>e = .returned (.bool (inB n 1 5))/\w'=w:=by
 by_cases h1:1<=n
 ·by_cases h2:n<=5
  ·rw[jd h1 h2]
   go_enter Tryz.func108,Tryz.ntmps108
   go_wp2
   go_ret
   exact⟨aO (by simp),rfl⟩
  ·rw[lC (Or.inr (by omega))]
   go_enter Tryz.func108,Tryz.ntmps108
   go_wp2
   go_ret
   exact⟨aO (by simp<;>omega),rfl⟩
 ·rw[lC (Or.inl (by omega))]
  go_enter Tryz.func108,Tryz.ntmps108
  go_wp2
  go_ret
  exact⟨aO (by simp<;>omega),rfl⟩
theorem tY(p:Int)(w:World):Calls Tryz.prog 160 #[.int .i64 p] w fun e w'=>e = .returned (.bool (ny p))/\w'=w:=by
 go_enter Tryz.func160,Tryz.ntmps160
 go_wp2
 go_ret
 exact⟨rfl,rfl⟩
theorem tX(p:Int)(w:World):Calls Tryz.prog 163 #[.int .i64 p] w fun e w'=>e = .returned (.bool (kL p))/\w'=w:=by
 by_cases h:p=3
 ·subst h
  go_enter Tryz.func163,Tryz.ntmps163
  go_wp2
  go_ret
  exact⟨rfl,rfl⟩
 ·have h1:(p==3)=false:=by simpa using h
  go_enter Tryz.func163,Tryz.ntmps163
  go_wp2
  go_ret
  exact⟨aO (by simp[kL,h1]),rfl⟩
theorem pz(p:Int)(w:World):Calls Tryz.prog 150 #[.int .i64 p] w fun e w'=>e = .returned (.bool (ny p))/\w'=w:=by
 go_enter Tryz.func150,Tryz.ntmps150
 go_wp2
 go_ret
 exact⟨rfl,rfl⟩
theorem pq(p:Int)(w:World):Calls Tryz.prog 151 #[.int .i64 p] w fun e w'=>e = .returned (.bool (kL p))/\w'=w:=by
 by_cases h:p=3
 ·subst h
  go_enter Tryz.func151,Tryz.ntmps151
  go_wp2
  go_ret
  exact⟨rfl,rfl⟩
 ·have h1:(p==3)=false:=by simpa using h
  go_enter Tryz.func151,Tryz.ntmps151
  go_wp2
  go_ret
  exact⟨aO (by simp[kL,h1]),rfl⟩
def nG(p o:Int):Int:=if ny p=true then o else 0
def nD(p n:Int):Int:=if kL p=true then n else 0
def trV(o n:Int):Value:= .agg #[.int .i64 o,.int .i64 n]
theorem BP(o n p:Int)(w:World):Calls Tryz.prog 241 #[trV o n,.int .i64 p] w fun e w'=>e = .returned (trV (nG p o) (nD p n))/\Below w.heap.size w w':=by
 have hO:=fun w=>tY p w
 have hN:=fun w=>tX p w
 unfold nG nD trV
 rcases Bool.eq_false_or_eq_true (ny p)with ho | ho<;>rcases Bool.eq_false_or_eq_true (kL p)with hn | hn
 all_goals (
  rw[ho]at hO ⊢
  rw[hn]at hN ⊢
  simp only[if_true,if_false,Bool.false_eq_true]
  clear ho hn
  go_enter Tryz.func241,Tryz.ntmps241
  go_wp2_with fail
  refine(hO _).mono ?_
  rintro e w1 ⟨rfl,rfl⟩
  go_wp2_with fail
  refine(hN _).mono ?_
  rintro e w1 ⟨rfl,rfl⟩
  go_wp2
  refine bodyPost_ret (v:= .agg #[.int .i64 _,.int .i64 _]) (by simp[results,Tryz.results241,go_sem]) rfl ⟨rfl, ?_⟩
  exact aA _ _)
theorem JX(o n:Int)(w:World):Calls Tryz.prog 240 #[trV o n] w fun e w'=>e = .returned (.bool (aJ o&&aJ n))/\Below w.heap.size w w':=by
 have hO:=fun w=>gQ o w
 have hN:=fun w=>gQ n w
 unfold trV
 rcases Bool.eq_false_or_eq_true (aJ o)with ho | ho
 ·rw[ho]at hO ⊢
  go_enter Tryz.func240,Tryz.ntmps240
  go_wp2_with fail
  refine(hO _).mono ?_
  rintro e w1 ⟨rfl,rfl⟩
  go_wp2_with fail
  refine(hN _).mono ?_
  rintro e w1 ⟨rfl,rfl⟩
  go_wp2
  go_ret
  exact⟨aO (by simp),aj _⟩
 ·rw[ho]at hO ⊢
  go_enter Tryz.func240,Tryz.ntmps240
  go_wp2_with fail
  refine(hO _).mono ?_
  rintro e w1 ⟨rfl,rfl⟩
  go_wp2
  go_ret
  exact⟨aO (by simp),aj _⟩
theorem JA(e p o n v:Int)(w:World):Calls Tryz.prog 238 #[hdV e p o n v] w fun x w'=>x = .returned (hdV e p o n v)/\Below w.heap.size w w':=by
 unfold hdV
 go_enter Tryz.func238,Tryz.ntmps238
 go_wp2
 refine bodyPost_ret (v:= .agg #[.int .i64 e,.int .i64 p,.int .i64 o,.int .i64 n,.int .i64 v]) (by simp[results,Tryz.results238,go_sem]) rfl ⟨rfl, ?_⟩
 exact aA _ _
theorem zC(e p o n v:Int)(w:World):Calls Tryz.prog 249 #[hdV e p o n v] w fun x w'=>x = .returned (hdV e p o n v)/\Below w.heap.size w w':=by
 unfold hdV
 go_enter Tryz.func249,Tryz.ntmps249
 go_wp2
 refine bodyPost_ret (v:= .agg #[.int .i64 e,.int .i64 p,.int .i64 o,.int .i64 n,.int .i64 v]) (by simp[results,Tryz.results249,go_sem]) rfl ⟨rfl, ?_⟩
 exact aA _ _
theorem DU(e p v:Int)(w:World):Calls Tryz.prog 232 #[.int .i64 e,.int .i64 p,.int .i64 v] w fun x w'=>x = .returned (.bool (hdN e p v))/\w'=w:=by
 rcases Bool.eq_false_or_eq_true (inB e 1 10)with he | he<;>rcases Bool.eq_false_or_eq_true (inB p 1 5)with hp | hp
 all_goals (
  go_enter Tryz.func232,Tryz.ntmps232
  go_wp2_with (first |(go_at_call 98;refine(bY _ _ _ _).mono ?_;rintro e wq ⟨rfl,rfl⟩) |(go_at_call 204;refine(lK _ _).mono ?_;rintro e wq ⟨rfl,rfl⟩))
  go_ret
  exact⟨aO (by simp[hdN,he,hp]),rfl⟩)
theorem WL(a b c d:Int)(w:World):(binOp .neq 314 (trV a b) (trV c d)).run Tryz.prog w = .ok (.bool (!(a==c&&b==d))) w:=by
 unfold trV
 simp[go_sem]
 by_cases h1:a=c<;>by_cases h2:b=d<;>simp[h1,h2]
theorem Ia(b off:Nat)(e p o n v:Int)(w:World)(h:HdS w b off ⟨e,p,o,n,v⟩):
  Calls Tryz.prog 176 #[.pointer (some ⟨b,off,none⟩)] w fun x w'=>x = .returned (.int .i64 (hdC e p o n v))/\Below w.heap.size w w':=by
 obtain⟨c0,c1,c2,c3,c4⟩:=h
 have hq0:=After.cell c0
 have hq1:=After.cell c1
 have hq2:=After.cell c2
 have hq3:=After.cell c3
 have hq4:=After.cell c4
 dsimp only at c0 c1 c2 c3 c4 hq0 hq1 hq2 hq3 hq4
 have hne:=After.ne w
 have hN:=fun w=>DU e p v w
 have hO:=fun w=>lK o w
 have hW:=fun w=>lK n w
 have HR:Hid (hdN e p v=false∨aJ o=false∨aJ n=false->hdC e p o n v=3):=fun h=>Ep (by unfold hdR;rcases h with h | h | h<;>simp[h])
 have HF:Hid (hdN e p v=true->aJ o=true->aJ n=true->hdF p o n=false->hdC e p o n v=1):=fun a b c d=>Hl (by unfold hdR;simp[a,b,c]) d
 have HK:Hid (hdN e p v=true->aJ o=true->aJ n=true->hdF p o n=true->hdC e p o n v=0):=fun a b c d=>Ho (by unfold hdR;simp[a,b,c]) d
 generalize hdC e p o n v=q at *
 rcases Bool.eq_false_or_eq_true (hdN e p v)with h1 | h1
 ·rcases Bool.eq_false_or_eq_true (aJ o)with h2 | h2
  ·rcases Bool.eq_false_or_eq_true (aJ n)with h3 | h3
   ·have HF2:Hid (hdF p o n=false->q=1):=HF.out h1 h2 h3
    have XB:Hid (hdF p o n=true->q=0):=HK.out h1 h2 h3
    rw[h1]at hN
    rw[h2]at hO
    rw[h3]at hW
    have X6:=fun w=>pz p w
    have X5:=fun w=>pq p w
    clear h1 h2 h3 HR HF HK
    have Zp:(o != 0) = !(o==0):=rfl
    have hzn:(n != 0) = !(n==0):=rfl
    have HD:Hid (hdF p o n=((ny p||o==0)&&(kL p||n==0))):=rfl
    go_enter Tryz.func176,Tryz.ntmps176
    go_wp2_with fail
    refine ay (by kernel_rfl) (by kernel_rfl) ?_
    repeat(first | go_big_quiet_skip |(go_big_quiet_want;go_big_quiet_op;first | go_big_quiet_on | go_big_quiet_call (first |(go_at_call 232;refine(hN _).mono ?_;rintro e wq ⟨rfl,hbq⟩;exact⟨rfl,_,hbq⟩) |(go_at_call 204;refine(hO _).mono ?_;rintro e wq ⟨rfl,hbq⟩;exact⟨rfl,_,hbq⟩) |(go_at_call 204;refine(hW _).mono ?_;rintro e wq ⟨rfl,hbq⟩;exact⟨rfl,_,hbq⟩))))
    refine wpQuiet_nil ?_
    rintro _ ⟨n6,rfl⟩
    have hb6:=n6.b
    have k1:=hq1 n6
    have k2:=hq2 n6
    have k3:=hq3 n6
    generalize n6.w=w6 at *
    clear hq0 hq1 hq2 hq3 hq4 hne c0 c1 c2 c3 c4 hN hO hW
    rcases Bool.eq_false_or_eq_true (ny p)with a1 | a1<;>rcases Bool.eq_false_or_eq_true (o==0)with a2 | a2<;>rcases Bool.eq_false_or_eq_true (kL p)with a3 | a3<;>rcases Bool.eq_false_or_eq_true (n==0)with a4 | a4
    all_goals (
     rw[a1]at X6
     rw[a3]at X5
     rw[a2]at Zp
     rw[a4]at hzn
     have hd:=HD.out
     rw[a1,a2,a3,a4]at hd
     have HQ:=HF2.out
     have Vo:=XB.out
     rw[hd]at HQ Vo
     have HX:Hid (q=_):=(by first | exact HQ rfl | exact Vo rfl)
     clear HQ Vo hd HF2 XB HD a1 a2 a3 a4
     go_wp2_with (first |(go_at_call 150;refine(X6 _).mono ?_;rintro e wq ⟨rfl,rfl⟩) |(go_at_call 151;refine(X5 _).mono ?_;rintro e wq ⟨rfl,rfl⟩))
     go_ret
     exact⟨aG HX.out.symm,hb6⟩)
   ·have HX:Hid (q=3):=HR.out (Or.inr (Or.inr h3))
    rw[h1]at hN
    rw[h2]at hO
    rw[h3]at hW
    clear h1 h2 h3
    clear HR HF HK
    go_enter Tryz.func176,Tryz.ntmps176
    go_wp2_with fail
    refine ay (by kernel_rfl) (by kernel_rfl) ?_
    repeat(first | go_big_quiet_skip |(go_big_quiet_want;go_big_quiet_op;first | go_big_quiet_on | go_big_quiet_call (first |(go_at_call 232;refine(hN _).mono ?_;rintro e wq ⟨rfl,hbq⟩;exact⟨rfl,_,hbq⟩) |(go_at_call 204;refine(hO _).mono ?_;rintro e wq ⟨rfl,hbq⟩;exact⟨rfl,_,hbq⟩) |(go_at_call 204;refine(hW _).mono ?_;rintro e wq ⟨rfl,hbq⟩;exact⟨rfl,_,hbq⟩))))
    refine wpQuiet_nil ?_
    rintro _ ⟨n6,rfl⟩
    have hb6:=n6.b
    clear hq0 hq1 hq2 hq3 hq4 hne c0 c1 c2 c3 c4 hN hO hW
    go_wp2
    go_ret
    exact⟨aG HX.out.symm,hb6⟩
  ·have HX:Hid (q=3):=HR.out (Or.inr (Or.inl h2))
   rw[h1]at hN
   rw[h2]at hO
   clear h1 h2
   clear HR HF HK
   go_enter Tryz.func176,Tryz.ntmps176
   go_wp2_with fail
   refine ay (by kernel_rfl) (by kernel_rfl) ?_
   repeat(first | go_big_quiet_skip |(go_big_quiet_want;go_big_quiet_op;first | go_big_quiet_on | go_big_quiet_call (first |(go_at_call 232;refine(hN _).mono ?_;rintro e wq ⟨rfl,hbq⟩;exact⟨rfl,_,hbq⟩) |(go_at_call 204;refine(hO _).mono ?_;rintro e wq ⟨rfl,hbq⟩;exact⟨rfl,_,hbq⟩) |(go_at_call 204;refine(hW _).mono ?_;rintro e wq ⟨rfl,hbq⟩;exact⟨rfl,_,hbq⟩))))
   refine wpQuiet_nil ?_
   rintro _ ⟨n6,rfl⟩
   have hb6:=n6.b
   clear hq0 hq1 hq2 hq3 hq4 hne c0 c1 c2 c3 c4 hN hO hW
   go_wp2
   go_ret
   exact⟨aG HX.out.symm,hb6⟩
 ·have HX:Hid (q=3):=HR.out (Or.inl h1)
  rw[h1]at hN
  clear h1
  clear HR HF HK
  go_enter Tryz.func176,Tryz.ntmps176
  go_wp2_with fail
  refine ay (by kernel_rfl) (by kernel_rfl) ?_
  repeat(first | go_big_quiet_skip |(go_big_quiet_want;go_big_quiet_op;first | go_big_quiet_on | go_big_quiet_call (first |(go_at_call 232;refine(hN _).mono ?_;rintro e wq ⟨rfl,hbq⟩;exact⟨rfl,_,hbq⟩) |(go_at_call 204;refine(hO _).mono ?_;rintro e wq ⟨rfl,hbq⟩;exact⟨rfl,_,hbq⟩) |(go_at_call 204;refine(hW _).mono ?_;rintro e wq ⟨rfl,hbq⟩;exact⟨rfl,_,hbq⟩))))
  refine wpQuiet_nil ?_
  rintro _ ⟨n6,rfl⟩
  have hb6:=n6.b
  clear hq0 hq1 hq2 hq3 hq4 hne c0 c1 c2 c3 c4 hN hO hW
  go_wp2
  go_ret
  exact⟨aG HX.out.symm,hb6⟩
theorem gq{w:World}{b:Nat}{x0 x1 x2 x3 x4:Value}{t:TypeId}(h:w.heap[b]? = some (.cells #[x0,x1,x2,x3,x4] t (0,0))):w.cell? ⟨b,0,none⟩=some x0/\w.cell? ⟨b,1,none⟩=some x1/\w.cell? ⟨b,2,none⟩=some x2/\w.cell? ⟨b,3,none⟩=some x3/\w.cell? ⟨b,4,none⟩=some x4:=by
 simp[World.cell?,h]
theorem Ry(p o n:Int):((nG p o==o)&&(nD p n==n))=hdF p o n:=by
 unfold nG nD hdF
 rcases Bool.eq_false_or_eq_true (ny p)with h1 | h1<;>rcases Bool.eq_false_or_eq_true (kL p)with h2 | h2<;>simp[h1,h2]<;>(rw[Bool.eq_iff_iff];simp)<;>omega
theorem jq(e p o n v:Int)(w:World):
  Calls Tryz.prog 180 #[hdV e p o n v] w fun x w'=>x = .returned (.int .i64 (hdC e p o n v))/\Below w.heap.size w w':=by
 have nK:=fun w=>JA e p o n v w
 have hE:=fun w=>Kr e w
 have hP:=fun w=>fK p w
 have hS:=fun w=>JX o n w
 have hV:=fun w=>gQ v w
 have hK:=fun w=>BP o n p w
 have hne2:=WL (nG p o) (nD p n) o n
 rw[Ry]at hne2
 have HR:Hid (inB e 1 10=false∨inB p 1 5=false∨(aJ o&&aJ n)=false∨aJ v=false->hdC e p o n v=3):=fun h=>Ep (by unfold hdR hdN;rcases h with h | h | h | h<;>simp[h])
 have HF:Hid (inB e 1 10=true->inB p 1 5=true->(aJ o&&aJ n)=true->aJ v=true->hdF p o n=false->hdC e p o n v=1):=fun a b c d f=>Hl (by unfold hdR hdN;simp[a,b,c,d]) f
 have HK:Hid (inB e 1 10=true->inB p 1 5=true->(aJ o&&aJ n)=true->aJ v=true->hdF p o n=true->hdC e p o n v=0):=fun a b c d f=>Ho (by unfold hdR hdN;simp[a,b,c,d]) f
 generalize hdC e p o n v=q at *
 generalize (aJ o&&aJ n)=s at *
 generalize nG p o=ko at *
 generalize nD p n=kn at *
 have H0:=heap_alloc_new w (.cells #[.int .i64 e,.int .i64 p,.int .i64 o,.int .i64 n,.int .i64 v] 136)
 unfold hdV trV at *
 go_enter Tryz.func180,Tryz.ntmps180
 go_wp2_with fail
 refine(nK _).mono ?_
 rintro x w1 ⟨rfl,hb1⟩
 have B1:=(hb1.block w.heap.size (by simp)).trans H0
 have hlt:w.heap.size<w1.heap.size:=(Array.getElem?_eq_some_iff.1 B1).1
 obtain⟨W2,hW2⟩:∃W2,W2=w1.alloc (.cells #[.int .i64 e,.int .i64 p,.int .i64 o,.int .i64 n,.int .i64 v] 316):=⟨_,rfl⟩
 have HW2:Hid _:=hW2.symm
 have B2:W2.heap[w.heap.size]? = some (.cells #[.int .i64 e,.int .i64 p,.int .i64 o,.int .i64 n,.int .i64 v] 136):=by rw[hW2];exact((aj _).block w.heap.size hlt).trans B1
 have A2:W2.heap[w1.heap.size]? = some (.cells #[.int .i64 e,.int .i64 p,.int .i64 o,.int .i64 n,.int .i64 v] 316):=by rw[hW2];exact heap_alloc_new w1 _
 have HB2:Hid (Below w.heap.size w W2):=by rw[hW2];exact ah (ak hb1) (aj _)
 obtain⟨j0,j1,j2,j3,j4⟩:=gq B1
 clear hb1 H0 nK hW2
 go_wp2_with fail
 rw[HW2.out]
 clear j0 j1 j2 j3 j4 B1
 obtain⟨c0,c1,c2,c3,c4⟩:=gq B2
 obtain⟨d0,d1,d2,d3,d4⟩:=gq A2
 rcases Bool.eq_false_or_eq_true (inB e 1 10)with h1 | h1
 ·rcases Bool.eq_false_or_eq_true (inB p 1 5)with h2 | h2
  ·rcases Bool.eq_false_or_eq_true s with h3 | h3
   ·subst h3
    rw[h1]at hE
    rw[h2]at hP
    refine(hE _).mono ?_
    rintro x w5 ⟨rfl,rfl⟩
    go_wp2_with fail
    refine(hP _).mono ?_
    rintro x w5 ⟨rfl,rfl⟩
    go_wp2_with fail
    refine(hS _).mono ?_
    rintro x w3 ⟨rfl,hb3⟩
    have HB3:Hid (Below w.heap.size w w3):=ah HB2.out hb3
    have B3:=(hb3.block w.heap.size (Array.getElem?_eq_some_iff.1 B2).1).trans B2
    have A3:=(hb3.block w1.heap.size (Array.getElem?_eq_some_iff.1 A2).1).trans A2
    clear c0 c1 c2 c3 c4 d0 d1 d2 d3 d4 A2 B2 hb3 hE hP hS
    obtain⟨c0,c1,c2,c3,c4⟩:=gq B3
    obtain⟨d0,d1,d2,d3,d4⟩:=gq A3
    have q1:=After.cell c1
    have r2:=After.cell d2
    have r3:=After.cell d3
    have hne:=After.ne w3
    rcases Bool.eq_false_or_eq_true (aJ v)with h4 | h4
    ·rw[h4]at hV
     rcases Bool.eq_false_or_eq_true (hdF p o n)with h5 | h5
     ·have HX:Hid (q=0):=HK.out h1 h2 (by first | rfl | trivial) h4 h5
      rw[h5]at hne2
      clear HK HF HR h1 h2 h4 h5
      go_wp2_with fail
      refine(hV _).mono ?_
      rintro x w5 ⟨rfl,rfl⟩
      go_wp2_with fail
      refine ay (by kernel_rfl) (by kernel_rfl) ?_
      repeat(first | go_big_quiet_skip |(go_big_quiet_want;go_big_quiet_op;first | go_big_quiet_on | go_big_quiet_call (first |(go_at_call 241;refine(hK _).mono ?_;rintro e wq ⟨rfl,hbq⟩;exact⟨rfl,bP (ah (After.b _) hbq)⟩))))
      refine wpQuiet_nil ?_
      rintro _ ⟨n6,rfl⟩
      have hb6:=ah HB3.out n6.b
      clear q1 r2 r3 hne hK hne2
      go_wp2
      go_ret
      exact⟨aG HX.out.symm,hb6⟩
     ·have HX:Hid (q=1):=HF.out h1 h2 (by first | rfl | trivial) h4 h5
      rw[h5]at hne2
      clear HK HF HR h1 h2 h4 h5
      go_wp2_with fail
      refine(hV _).mono ?_
      rintro x w5 ⟨rfl,rfl⟩
      go_wp2_with fail
      refine ay (by kernel_rfl) (by kernel_rfl) ?_
      repeat(first | go_big_quiet_skip |(go_big_quiet_want;go_big_quiet_op;first | go_big_quiet_on | go_big_quiet_call (first |(go_at_call 241;refine(hK _).mono ?_;rintro e wq ⟨rfl,hbq⟩;exact⟨rfl,bP (ah (After.b _) hbq)⟩))))
      refine wpQuiet_nil ?_
      rintro _ ⟨n6,rfl⟩
      have hb6:=ah HB3.out n6.b
      clear q1 r2 r3 hne hK hne2
      go_wp2
      go_ret
      exact⟨aG HX.out.symm,hb6⟩
    ·have HX:Hid (q=3):=HR.out (Or.inr (Or.inr (Or.inr h4)))
     rw[h4]at hV
     clear HK HF HR h1 h2 h4
     go_wp2_with fail
     refine(hV _).mono ?_
     rintro x w5 ⟨rfl,rfl⟩
     go_wp2
     go_ret
     exact⟨aG HX.out.symm,HB3.out⟩
   ·subst h3
    have HX:Hid (q=3):=HR.out (Or.inr (Or.inr (Or.inl rfl)))
    rw[h1]at hE
    rw[h2]at hP
    clear HK HF HR h1 h2
    refine(hE _).mono ?_
    rintro x w5 ⟨rfl,rfl⟩
    go_wp2_with fail
    refine(hP _).mono ?_
    rintro x w5 ⟨rfl,rfl⟩
    go_wp2_with fail
    refine(hS _).mono ?_
    rintro x w3 ⟨rfl,hb3⟩
    have HB3:Hid (Below w.heap.size w w3):=ah HB2.out hb3
    clear hb3
    go_wp2
    go_ret
    exact⟨aG HX.out.symm,HB3.out⟩
  ·have HX:Hid (q=3):=HR.out (Or.inr (Or.inl h2))
   rw[h1]at hE
   rw[h2]at hP
   clear HK HF HR h1 h2
   refine(hE _).mono ?_
   rintro x w5 ⟨rfl,rfl⟩
   go_wp2_with fail
   refine(hP _).mono ?_
   rintro x w5 ⟨rfl,rfl⟩
   go_wp2
   go_ret
   exact⟨aG HX.out.symm,HB2.out⟩
 ·have HX:Hid (q=3):=HR.out (Or.inl h1)
  rw[h1]at hE
  clear HK HF HR h1
  refine(hE _).mono ?_
  rintro x w5 ⟨rfl,rfl⟩
  go_wp2
  go_ret
  exact⟨aG HX.out.symm,HB2.out⟩
def Pair(w:World)(b:Nat)(x y:Value):Prop:=b<w.heap.size/\w.cell? ⟨b,0,none⟩=some x/\w.cell? ⟨b,1,none⟩=some y
theorem Pair.below{w w':World}{b:Nat}{x y:Value}(h:Pair w b x y)(hb:Below w.heap.size w w'):Pair w' b x y:=
 ⟨Nat.lt_of_lt_of_le h.1 hb.size,(hb.cell (p:=⟨b,0,none⟩) h.1).trans h.2.1,(hb.cell (p:=⟨b,1,none⟩) h.1).trans h.2.2⟩
theorem Pair.grown{w w':World}{b:Nat}{x y:Value}{row:Option Nat}(h:Pair w b x y)(hg:w.grownBy w' row)(hne:some b≠row):Pair w' b x y:=
 ⟨Nat.lt_of_lt_of_le h.1 hg.size,hg.cell h.2.1 hne,hg.cell h.2.2 hne⟩
theorem Pair.new(w:World)(x y:Value)(t:TypeId):Pair (w.alloc (.cells #[x,y] t)) w.heap.size x y:=
 have h:=bQ (heap_alloc_new w (.cells #[x,y] t))
 ⟨by simp,h.1,h.2.1⟩
theorem Ints.grown{k:IntKind}{w w':World}{v:Value}{xs:List Int}{row:Option Nat}(h:Ints k w v xs)(hg:w.grownBy w' row)(hne:v.ownBlock=none∨v.ownBlock≠row):Ints k w' v xs:=by
 rcases h with h |⟨b,off,c,rfl,hlt,hc⟩
 ·exact Or.inl h
 ·refine Or.inr ⟨b,off,c,rfl,Nat.lt_of_lt_of_le hlt hg.size,fun j hj=>hg.cell (hc j hj) ?_⟩
  rcases hne with hne | hne
  ·simp[Value.ownBlock]at hne
  ·exact hne
theorem mQ.grown{w w':World}{g:Nat}{l:ByteArray}{v o p:Int}{row:Option Nat}(h:mQ w g l v o p)(hg:w.grownBy w' row)(hne:some g≠row):mQ w' g l v o p:=
 ⟨hg.cell h.c0 hne,hg.cell h.c1 hne,hg.cell h.c2 hne,hg.cell h.c3 hne⟩
theorem Aq(w:World)(x y:Int):(w.alloc (.cells #[.int .u8 x,.int .u8 y] 5)).ownsRow w.heap.size 5 1 (.slice (some ⟨w.heap.size,0,none⟩) 2 2) 2 [.int .u8 x,.int .u8 y]:=by
 have:=World.ownsRow_lit (base:=w.heap.size) (e:=5) (size:=1) w #[.int .u8 x,.int .u8 y] 2 (by simp) (by decide) rfl
 simpa using this
theorem JC{w:World}{g:Nat}{s:ByteArray}(h:∀j,j<s.size->w.cell? ⟨g,j,none⟩=some (.int .u8 (bt s j))):∀j u,((bl s).map (Value.int .u8))[j]? = some u->w.cell? ((⟨g,0,none⟩:Addr).add j)=some u:=
 QO (fun j hj=>by rw[oI]at hj;rw[Nat.zero_add,h j hj,Tz s hj])
def Sl(s:ByteArray)(cap:Nat)(e:TypeId):Obj:= .cells (bytesRow s cap) e ((bytesRow s cap).size,(bytesRow s cap).size+1)
theorem Qr(s:ByteArray)(cap:Nat):s.size<=(bytesRow s cap).size:=by simp[bytesRow]
theorem rowA(w:World)(o:Obj)(s:ByteArray)(cap:Nat)(e:TypeId):∀j,j<s.size->((w.alloc o).alloc (Sl s cap e)).drew.drew.cell? ⟨w.heap.size+1,j,none⟩=some (.int .u8 (bt s j)):=fun j hj=>by
 have:=(qZ (w.alloc o) e s cap ((bytesRow s cap).size,(bytesRow s cap).size+1) (Qr s cap) j hj).1
 rw[World.size_alloc]at this
 exact this
theorem rowB(w:World)(o:Obj)(s:ByteArray)(cap:Nat)(e:TypeId):∀j,j<s.size->((w.alloc (Sl s cap e)).alloc o).drew.drew.cell? ⟨w.heap.size,j,none⟩=some (.int .u8 (bt s j)):=fun j hj=>by
 have h:=(qZ w e s cap ((bytesRow s cap).size,(bytesRow s cap).size+1) (Qr s cap) j hj).1
 have h2:=(aj (w:=w.alloc (Sl s cap e)) o).cell (p:=⟨w.heap.size,j,none⟩) (by simp)
 exact h2.trans h
theorem ownB(w:World)(o:Obj)(x y:Int):((w.alloc o).alloc (.cells #[.int .u8 x,.int .u8 y] 5)).drew.drew.ownsRow w.heap.size 5 1 (.slice (some ⟨w.heap.size+1,0,none⟩) 2 2) 2 [.int .u8 x,.int .u8 y]:=by
 have:=aS (Aq (w.alloc o) x y) (B:=w.heap.size) (by simp)
 simpa using this.drew.drew
theorem RQ{w:World}{B n:Nat}{e:TypeId}{v:Value}{xs:List Value}(h:w.ownsRow B e 1 v n xs)(h0:0<n):
  ∃g cap,v = .slice (some ⟨g,0,none⟩) n cap/\n<=cap/\cap<=maxLen/\B<=g/\g<w.heap.size/\∀j,j<n->w.cell? ⟨g,j,none⟩=xs[j]?:=by
 rcases h.2 with⟨-,hn⟩ |⟨g,cap,cur,rfl,hB,hg,hc,hm,_⟩
 ·omega
 ·exact⟨g,cap,rfl,hc,hm,hB,(Array.getElem?_eq_some_iff.1 hg).1,fun j hj=>h.cellAt j (by omega)⟩
theorem wV(w:World)(x y z:Int)(t:TypeId):Ints .i64 (w.alloc (.cells #[.int .i64 x,.int .i64 y,.int .i64 z] t)) (.slice (some ⟨w.heap.size,0,none⟩) 3 3) [x,y,z]:=by
 refine Or.inr ⟨w.heap.size,0,3,rfl,by simp,fun j hj=> ?_⟩
 have hh:=heap_alloc_new w (.cells #[.int .i64 x,.int .i64 y,.int .i64 z] t)
 simp only[List.length_cons,List.length_nil]at hj
 rcases(show j=0∨j=1∨j=2 by omega)with rfl | rfl | rfl<;>(unfold World.cell?;rw[hh];rfl)
def six(v o p:Int):List Int:=[v/256,v%256,o/256,o%256,p/256,p%256]
theorem Rz(x:Value)(v o p:Int)(w:World)(hv:Ints .i64 w x [v,o,p])(hs : [v,o,p].all aJ=true):
  Calls Tryz.prog 259 #[.int .i64 0,x] w fun e w'=>∃g c,e = .returned (.slice (some ⟨g,0,none⟩) 7 c)/\7<=c/\w.heap.size<=g/\g<w'.heap.size/\(∀j u,((six v o p).map (Value.int .u8))[j]? = some u->w'.cell? ((⟨g,1,none⟩:Addr).add j)=some u)/\Below w.heap.size w w':=by
 refine(jU 0 x [v,o,p] w hv (by simp) (by omega) hs).mono ?_
 rintro e w' ⟨v',rfl,hown,hb⟩
 have hl:(bg 0 [v,o,p]).length=7:=by simp[bg,pF]
 rw[hl]at hown
 obtain⟨g,c,rfl,hc,-,hB,hg,hcell⟩:=RQ hown (by omega)
 refine⟨g,c,rfl,hc,hB,hg,fun j u hu=> ?_,hb⟩
 have hj:j<6:=by
  have:=(List.getElem?_eq_some_iff.1 hu).1
  simpa [six]using this
 rw[Addr.add_lit,hcell (1+j) (by omega)]
 have e1:bg 0 [v,o,p]=0::six v o p:=by simp[bg,pF,six]
 rw[e1,List.map_cons,Nat.add_comm,aaL]
 exact hu
attribute [local go_sem] Go.wp_at_zero Go.wp_at_succ
theorem Qj{w:World}{B:Nat}{e:TypeId}{k:IntKind}{v:Value}{zs:List Int}{b d:Int}(h:w.ownsRow B e 1 v (zs.length+2) (zs.map (Value.int k)++[.int k b,.int k d])):w.ownsRow B e 1 v (zs++[b,d]).length ((zs++[b,d]).map (Value.int k)):=by
 rw[List.map_append,List.length_append];exact h
def MO(w:World)(a:Option Addr)(n c:Nat)(xs:List Int)(u:Value):Prop:=Ints .i64 w (.slice a n c) xs/\∀b off,a=some ⟨b,off,none⟩->0<n->b<w.heap.size/\u.ownBlock≠some b
theorem yw(B:Nat)(v:Value)(a:Option Addr)(n c:Nat)(zs xs:List Int)(w:World)(HN:Hid (n=xs.length))(hx:n<=1000)(hzn:Hid (zs.length<=1000))(hv:Hid (MO w a n c xs v))(hs:Hid (xs.all aJ=true))
  (hown:w.ownsRow B 5 1 v zs.length (zs.map (Value.int .u8))) (hB:B<=w.heap.size) :
  Calls Tryz.prog 274 #[v,.slice a n c] w fun e w'=>∃v',e = .returned v'/\w'.ownsRow B 5 1 v' (numsL zs xs).length ((numsL zs xs).map (Value.int .u8))/\Below B w w':=by
 obtain⟨i0,hi,hz0,hz1,hz2⟩:=info_parts Tryz.BM
 go_enter Tryz.func274,Tryz.ntmps274
 go_wp2
 go_loopw [0,9] (fun u i wr=>∃k:Nat,k<=n/\i = .int .i64 k/\Below B w wr/\wr.ownsRow B 5 1 u (jB zs xs k).length ((jB zs xs k).map (Value.int .u8))/\Hid (MO wr a n c xs u)) (fun _ i _=>n - (intOf i).toNat)
 case atStart=>exact⟨0,Nat.zero_le _,rfl,Below.refl _ _,by rw[KL];exact hown,hv.out⟩
 case round=>
  obtain⟨k,hk,rfl,hb,ho,hst⟩:=hrel
  by_cases hkn:k<n
  ·have hki:(k:Int)<(n:Int):=by omega
   have hkx:k<xs.length:=by have:=HN.out;omega
   obtain⟨-,b,off,rfl,hbl,hc⟩:=hst.out.1.at (by omega)
   have zL:=(hst.out.2 b off rfl (by omega)).2
   have HC:Hid (Ints .i64 wr (.slice (some ⟨b,off,none⟩) n c) xs):=hst.out.1
   have hcj:=hc k hkx
   have hxr:=Gt hs.out hkx
   have hlen:=Oa zs (Nat.le_of_lt hkx)
   have hzl:=hzn.out
   have hsc:=KJ zs hkx
   obtain⟨x,hxx⟩:∃x,x=xs.getD k 0:=⟨_,rfl⟩
   obtain⟨ys,hys⟩:∃ys,ys=jB zs xs k:=⟨_,rfl⟩
   rw[←hxx]at hcj hxr hsc
   rw[←hys]at ho hlen hsc
   have HS:Hid (jB zs xs (k+1)=ys++[x/256,x%256]):=hsc
   have hyl:ys.length<=3000:=by omega
   have hw1:=mG (x/256) (by omega) (by omega)
   have hw2:=IntKind.wrap_u8 x
   have Vu:Hid (_≠some b):=zL
   clear hxx hys hsc hc hown hst zL hlen hzl
   go_wp2_with (at_builtin;refine wpList_append_lies _ rfl _ _ 243 rfl B 5 i0 (.int .u8 0) 1 1 Tryz.underlying243 hi hz0 hz1 hz2 rfl (by decide) _ _ _ rfl (ho.alloc _) ⟨wr.heap.size,0,none⟩ 2 2 [.int .u8 (x/256),.int .u8 (x%256)] rfl rfl (World.news_of_block (heap_alloc_new _ _)) (ints_oneCell .u8 [x/256,x%256]) (by omega) (by unfold maxLen;omega) (by omega) (by have:=hb.size;simp;omega) (wr.heap.size+1) (by simp) ?_)
   intro g' cap' w2 hown' hgrow hat hlt
   have hb2:Below B w w2:=(hb.alloc (by have:=hb.size;omega) _).grown hgrow (by have:=hb.size;simp;omega) (fun k hk=>(ho.lt k hk).1)
   have aN:=Qj hown'
   have hst2:MO w2 (some ⟨b,off,none⟩) n c xs (.slice (some ⟨g',0,none⟩) (ys.length+2) cap'):=by
    refine⟨(HC.out.below (aj _)).grown hgrow (Or.inr (fun e=>Vu.out e.symm)),fun b1 off1 e1 _=> ?_⟩
    cases e1
    refine⟨Nat.lt_of_lt_of_le hbl (Nat.le_trans (by simp) hgrow.size),fun e2=> ?_⟩
    have e3:g'=b:=by simpa [Value.ownBlock]using e2
    rcases hat with h | h
    ·exact Vu.out (by rw[h,e3])
    ·omega
   have HST:Hid (MO w2 (some ⟨b,off,none⟩) n c xs (.slice (some ⟨g',0,none⟩) (ys.length+2) cap')):=hst2
   clear hgrow hown' ho hst2 hat hlt
   go_wp2
   go_roundw
   case rel=>exact⟨k+1,by omega,by go_num,hb2,by rw[HS.out];exact aN,HST.out⟩
   case measure=>simp[intOf];omega
  ·have hkn:k=n:=by omega
   subst hkn
   obtain⟨a',c',rfl⟩:=aQ ho
   go_wp2
   go_ret
   rw[HN.out,BZ]at ho
   rw[HN.out,BZ]
   exact⟨_,rfl,ho,hb⟩
end U
end Go.Proofs.YtmnfokgllcdiiaaGreat
namespace Go.Proofs.YtmnfokgllcdiiaaGreat
open Go.RowKit
namespace U
theorem jR{c:Int}(h:¬c=0):(c != 0)=true:=by simpa using h
theorem IY{w w':World}{v:Value}{n:Nat}{xs:List Value}(h:w'.ownsRow (w.heap.size+2) 5 1 v n xs)(x y:Value):((w'.setCell ⟨w.heap.size+1,0,none⟩ x).setCell ⟨w.heap.size+1,1,none⟩ y).ownsRow w.heap.size 5 1 v n xs:=
 aS (ownsRow_setCell_below (ownsRow_setCell_below h (by simp) _) (by simp) _) (by omega)
theorem wJ(l:ByteArray)(v o p:Int)(w:World)(hs:l.size<=1048576):
  Calls Tryz.prog 222 #[dG l v o p] w fun e w'=>qc w (recC l v o p) (pkL l v o p) e w':=by
 obtain⟨i0,hi,hz0,hz1,hz2⟩:=info_parts Tryz.BM
 have R0:=(mQ.new w l v o p 46).below (aj (.cells #[.int .i64 0,.slice none 0 0] 300))
 have hF:=fun w=>nN l v o p w hs
 by_cases h:recC l v o p=0
 ·have hok:=yh h
  have hsm:=hok.small
  have hws:IntKind.u8.wrap (l.size:Int)=(l.size:Int):=mG _ (by omega) (by omega)
  have HS:Hid ([v,o,p].all aJ=true):=hok.sums
  rw[TM h]
  rw[h]at hF ⊢
  have HY:Hid (numsL (jJ l) [v,o,p]=dR l v o p):=Om l v o p
  generalize dR l v o p=ys at *
  unfold dG at *
  go_enter Tryz.func222,Tryz.ntmps222
  go_wp2_with fail
  refine(hF _).mono ?_
  rintro e w1 ⟨rfl,hb1⟩
  have R1:=R0.below hb1
  have hsz1:w.heap.size+2<=w1.heap.size:=by have:=hb1.size;simp at this;omega
  have pI:=(hb1.block (w.heap.size+1) (by simp)).trans (aU w _ _)
  have hB1:Below w.heap.size w w1:=ak (ak hb1)
  clear hb1 R0 hF
  have⟨c0,c1,c2,c3⟩:=R1
  have d0:=(R1.below (aj (.cells #[.int .u8 1,.int .u8 (l.size:Int)] 5))).c0
  go_wp2_with (at_builtin;(refine Lib.wpList_append_own_string _ rfl _ _ 243 9 rfl w1.heap.size 5 i0 Tryz.underlying243 Tryz.underlying9 hi hz0 hz1 hz2 (.slice (some ⟨w1.heap.size,0,none⟩) 2 2) 2 [.int .u8 1,.int .u8 (l.size:Int)] (by rfl) (Aq w1 1 l.size) l (by rfl) (by unfold maxLen;omega) (by omega) (by simp) ?_))
  intro v2 w2 aN hgrow2 _
  have hb2:Below w1.heap.size w1 w2:=(aj _).grown hgrow2 (by simp) (fun k hk=>by cases hk;exact Nat.le_refl _)
  have R2:=R1.below hb2
  have FW:w2.ownsRow w1.heap.size 5 1 v2 (jJ l).length ((jJ l).map (Value.int .u8)):=by rw[wF];simpa [jJ,bl,Lib.strCells,Function.comp_def]using aN
  clear aN hgrow2 c0 c1 c2 c3 d0
  have⟨c0,c1,c2,c3⟩:=R2
  obtain⟨a2,k2,rfl⟩:=aQ FW
  have hlt2:∀k,(Value.slice a2 (jJ l).length k2).ownBlock=some k->k<w2.heap.size:=fun k hk=>(FW.lt k hk).2
  have hB2:=ah hB1 hb2
  have WO:=(hb2.block (w.heap.size+1) (by omega)).trans pI
  have hsz2:=hb2.size
  clear hb2 R1 pI
  go_wp2_with fail
  refine(yw w1.heap.size _ _ 3 3 (jJ l) [v,o,p] _ rfl (by omega) (show(jJ l).length<=1000 by rw[wF];omega) ⟨wV w2 v o p _,fun b off e _=> ?_⟩ HS (own_below FW (aj _)) (by simp;omega)).mono ?_
  ·cases e
   exact⟨by simp,fun e2=>absurd (hlt2 _ e2) (Nat.lt_irrefl _)⟩
  rintro e w3 ⟨v3,rfl,ho3,hb3⟩
  rw[HY.out]at ho3
  obtain⟨a3,k3,rfl⟩:=aQ ho3
  have WQ:=(hb3.block (w.heap.size+1) (by omega)).trans ((Below.heap_alloc w2 _ (w.heap.size+1) (by omega)).trans WO)
  have hB3:Below w.heap.size w w3:=hB2.trans ((aj _).mono (by omega) |>.trans (hb3.mono (by omega)))
  obtain⟨hc0,hc1,hf0,hf1⟩:=bQ WQ
  have HO:Hid (w3.ownsRow (w.heap.size+2) 5 1 (.slice a3 ys.length k3) ys.length (ys.map (Value.int .u8))):=aS ho3 (by omega)
  clear ho3 hb3 hB2 WO WQ R2 FW hlt2
  go_wp2
  exact bodyPost_ret (v:= .agg #[.int .i64 0,.slice a3 ys.length k3]) (by simp[results,Tryz.results222,go_sem,hc0,hc1]) rfl ⟨(hB3.setCell (Nat.le_succ _) _).setCell (Nat.le_succ _) _,_,rfl,IY HO.out _ _⟩
 ·have h1:=jR h
  rw[TL h]
  generalize recC l v o p=c at *
  clear h
  unfold dG at *
  go_enter Tryz.func222,Tryz.ntmps222
  go_wp2_with fail
  refine(hF _).mono ?_
  rintro e w1 ⟨rfl,hb1⟩
  obtain⟨hc0,hc1,hf0,hf1⟩:=bQ ((hb1.block (w.heap.size+1) (by simp)).trans (aU w _ _))
  have hB1:Below w.heap.size w w1:=ak (ak hb1)
  clear hb1 R0 hF
  go_wp2
  exact bodyPost_ret (v:= .agg #[.int .i64 c,.slice none 0 0]) (by simp[results,Tryz.results222,go_sem,hc0,hc1]) rfl ⟨(hB1.setCell (Nat.le_succ _) _).setCell (Nat.le_succ _) _,_,rfl,World.ownsRow_nil _ _ _ _⟩
def rsV(l:ByteArray)(v o p:Int):Int:=if recC l v o p=0 then bf (dR l v o p)else 0
theorem FX{l:ByteArray}{v o p:Int}(h:recC l v o p=0):rsV l v o p=bf (dR l v o p):=by unfold rsV;rw[if_pos h]
theorem Xt{l:ByteArray}{v o p:Int}(h:¬recC l v o p=0):rsV l v o p=0:=by unfold rsV;rw[if_neg h]
theorem kW(l:ByteArray)(v o p:Int)(w:World)(hs:l.size<=1048576):
  Calls Tryz.prog 166 #[dG l v o p] w fun e w'=>iO w (recC l v o p) (rsV l v o p) e w':=by
 have hF:=fun w=>wJ l v o p w hs
 by_cases h:recC l v o p=0
 ·have hok:=yh h
  rw[FX h]
  rw[TM h]at hF
  rw[h]at hF ⊢
  have hbt:=ED hok
  have hln:(dR l v o p).length<=200:=by rw[xq];have:=hok.small;omega
  have hsm:=uQ (bs:=dR l v o p) (by omega)
  have Hg:=fun (u:Value) (w:World) hI=>iY u (dR l v o p) w hI hbt (by omega)
  rw[hsm.1,hsm.2]at Hg
  generalize bf (dR l v o p)=x at *
  generalize dR l v o p=ys at *
  clear hsm hbt
  unfold dG at *
  go_enter Tryz.func166,Tryz.ntmps166
  go_wp2_with fail
  refine(hF _).mono ?_
  intro e w1 h9
  obtain⟨a,c,rfl,hb1,ho1⟩:=h9.use
  have pI:=(hb1.block (w.heap.size+1) (by simp)).trans (aU w _ _)
  have hB1:Below w.heap.size w w1:=ak (ak hb1)
  have hsz1:w.heap.size+2<=w1.heap.size:=by have:=hb1.size;simp at this;omega
  have P1:=Pair.new w1 (.int .i64 0) (.slice a ys.length c) 300
  have hI:=(gZ ho1).below (aj (.cells #[.int .i64 0,.slice a ys.length c] 300))
  clear hF h9 ho1 hb1
  go_wp2_with fail
  refine(Hg _ _ hI).mono ?_
  rintro e w2 ⟨rfl,hb2⟩
  have hB2:Below w.heap.size w w2:=ah hB1 (ak hb2)
  obtain⟨hc0,hc1,hf0,hf1⟩:=bQ (((ak hb2).block (w.heap.size+1) (by omega)).trans pI)
  clear hb2 hI P1 pI Hg
  go_wp2
  exact bodyPost_ret (v:= .agg #[.int .i64 0,.int .i64 x]) (by simp[results,Tryz.results166,go_sem,hc0,hc1]) rfl ⟨rfl,(hB2.setCell (Nat.le_succ _) _).setCell (Nat.le_succ _) _⟩
 ·have h1:=jR h
  rw[Xt h]
  rw[TL h]at hF
  generalize recC l v o p=c at *
  clear h
  unfold dG at *
  go_enter Tryz.func166,Tryz.ntmps166
  go_wp2_with fail
  refine(hF _).mono ?_
  intro e w1 h9
  obtain⟨a,cc,rfl,hb1,ho1⟩:=h9.use
  simp only[List.length_nil]
  have pI:=(hb1.block (w.heap.size+1) (by simp)).trans (aU w _ _)
  have hB1:Below w.heap.size w w1:=ak (ak hb1)
  have hsz1:w.heap.size+2<=w1.heap.size:=by have:=hb1.size;simp at this;omega
  have hB2:=ah hB1 (aj (.cells #[.int .i64 c,.slice a 0 cc] 300))
  obtain⟨hc0,hc1,hf0,hf1⟩:=bQ (((aj (.cells #[.int .i64 c,.slice a 0 cc] 300)).block (w.heap.size+1) (by omega)).trans pI)
  clear hF h9 ho1 hb1
  go_wp2
  exact bodyPost_ret (v:= .agg #[.int .i64 c,.int .i64 0]) (by simp[results,Tryz.results166,go_sem,hc0,hc1]) rfl ⟨rfl,(hB2.setCell (Nat.le_succ _) _).setCell (Nat.le_succ _) _⟩
theorem wW(w:World)(x0 x1 x2 x3 x4:Int)(t:TypeId):Ints .i64 (w.alloc (.cells #[.int .i64 x0,.int .i64 x1,.int .i64 x2,.int .i64 x3,.int .i64 x4] t)) (.slice (some ⟨w.heap.size,0,none⟩) 5 5) [x0,x1,x2,x3,x4]:=by
 refine Or.inr ⟨w.heap.size,0,5,rfl,by simp,fun j hj=> ?_⟩
 have hh:=heap_alloc_new w (.cells #[.int .i64 x0,.int .i64 x1,.int .i64 x2,.int .i64 x3,.int .i64 x4] t)
 simp only[List.length_cons,List.length_nil]at hj
 rcases(show j=0∨j=1∨j=2∨j=3∨j=4 by omega)with rfl | rfl | rfl | rfl | rfl<;>(unfold World.cell?;rw[hh];rfl)
theorem Kv(b off:Nat)(e p o n v:Int)(w:World)(h:HdS w b off ⟨e,p,o,n,v⟩)(hok:tq e p o n v):
  Calls Tryz.prog 247 #[.pointer (some ⟨b,off,none⟩)] w fun x w'=>∃v',x = .returned v'/\w'.ownsRow w.heap.size 5 1 v' (hdB e p o n v).length ((hdB e p o n v).map (Value.int .u8))/\Below w.heap.size w w':=by
 obtain⟨c0,c1,c2,c3,c4⟩:=h
 dsimp only at c0 c1 c2 c3 c4
 have HB:Hid (∀(u:Value)(w:World),Ints .i64 w u [e,p,o,n,v]->Calls Tryz.prog 259 #[.int .i64 7,u] w fun x w'=>∃v',x = .returned v'/\w'.ownsRow w.heap.size 5 1 v' (hdB e p o n v).length ((hdB e p o n v).map (Value.int .u8))/\Below w.heap.size w w'):=
  fun u w hu=>jU 7 u [e,p,o,n,v] w hu (by simp) (by omega) hok.sums
 clear hok
 generalize hdB e p o n v=ys at *
 go_enter Tryz.func247,Tryz.ntmps247
 go_wp2
 go_region_held3 (fun w'=>w'.cell? ⟨b,off,none⟩=some (.int .i64 e)/\w'.cell? ⟨b,off+1,none⟩=some (.int .i64 p)/\w'.cell? ⟨b,off+2,none⟩=some (.int .i64 o)/\w'.cell? ⟨b,off+3,none⟩=some (.int .i64 n)/\w'.cell? ⟨b,off+4,none⟩=some (.int .i64 v))
  (first | exact⟨c0,c1,c2,c3,c4⟩|go_keep | exact⟨After.cell c0 ⟨_,hb2'⟩,After.cell c1 ⟨_,hb2'⟩,After.cell c2 ⟨_,hb2'⟩,After.cell c3 ⟨_,hb2'⟩,After.cell c4 ⟨_,hb2'⟩⟩)
  (first |(go_at_call 259;refine(HB.out _ _ ?_).mono ?_;(first | exact wW w e p o n v _ | exact wW w.drew e p o n v _);rintro x w2 ⟨v2,rfl,ho2,hb2⟩;have hb2':Below w.heap.size w w2:=(by first | exact ah (aj _).drew hb2 | exact ah (aj _) hb2);have aN:w2.ownsRow w.heap.size 5 1 v2 ys.length (ys.map (Value.int .u8)):=aS ho2 (by simp);obtain⟨a2,k2,rfl⟩:=aQ aN;clear hb2 ho2))
 go_wp2
 go_ret
 exact⟨_,rfl,aN,hb2'⟩
theorem fU{w w':World}{o o':Obj}(hb:Below ((w.alloc o).alloc o').heap.size ((w.alloc o).alloc o') w'):w'.heap[w.heap.size]? = some o/\w'.heap[w.heap.size+1]? = some o':=
 ⟨(hb.block w.heap.size (by simp;omega)).trans (heap_alloc_old' _ _ _ (heap_alloc_new w _)),(hb.block (w.heap.size+1) (by simp)).trans (aU w _ _)⟩
theorem HdS.of{w:World}{b:Nat}{e p o n v:Int}{t:TypeId}(h:w.heap[b]? = some (.cells #[.int .i64 e,.int .i64 p,.int .i64 o,.int .i64 n,.int .i64 v] t (0,0))):HdS w b 0 ⟨e,p,o,n,v⟩:=by
 obtain⟨h0,h1,h2,h3,h4⟩:=gq h
 exact⟨h0,h1,h2,h3,h4⟩
theorem Ai(e p o n v:Int)(w:World):
  Calls Tryz.prog 242 #[hdV e p o n v] w fun x w'=>qc w (hdC e p o n v) (hdL e p o n v) x w':=by
 have hF:=fun w=>jq e p o n v w
 by_cases h:hdC e p o n v=0
 ·have hok:=wE h
  rw[Px h]
  rw[h]at hF ⊢
  have ht:=yt (tag:=7) (xs:=[e,p,o,n,v]) (by decide) (by simp) hok.sums
  have hT:=fun (u:Value) (w:World) hu=>iQ 7 u [e,p,o,n,v] w hu (by simp)
  rw[ht.1,ht.2]at hT
  have e1:bg 7 [e,p,o,n,v]=hdB e p o n v:=rfl
  rw[e1]at hT
  generalize hdB e p o n v=ys at *
  unfold hdV at *
  clear h hok ht e1
  go_enter Tryz.func242,Tryz.ntmps242
  go_wp2_with fail
  refine(hF _).mono ?_
  rintro x w1 ⟨rfl,hb1⟩
  have Q1:=fU hb1
  have hsz1:w.heap.size+2<=w1.heap.size:=by have:=hb1.size;simp at this;omega
  have hB1:Below w.heap.size w w1:=ak (ak hb1)
  obtain⟨c0,c1,c2,c3,c4⟩:=gq Q1.1
  have Q2:=Q1.2
  clear hb1 hF Q1
  go_wp2_with fail
  refine(hT _ _ (wW w1 e p o n v _)).mono ?_
  intro x w2 h2
  obtain⟨a',c',rfl,hb2,ho2⟩:=h2.use
  have hb2':=ak hb2
  obtain⟨hc0,hc1,hf0,hf1⟩:=bQ ((hb2'.block (w.heap.size+1) (by omega)).trans Q2)
  have hB2:Below w.heap.size w w2:=ah hB1 hb2'
  have HO:Hid (w2.ownsRow (w.heap.size+2) 5 1 (.slice a' ys.length c') ys.length (ys.map (Value.int .u8))):=aS ho2 (by simp;omega)
  clear ho2 hb2 h2 hb2' hT Q2 hB1 c0 c1 c2 c3 c4
  go_wp2
  exact bodyPost_ret (v:= .agg #[.int .i64 0,.slice a' ys.length c']) (by simp[results,Tryz.results242,go_sem,hc0,hc1]) rfl ⟨(hB2.setCell (Nat.le_succ _) _).setCell (Nat.le_succ _) _,_,rfl,IY HO.out _ _⟩
 ·have h1:=jR h
  rw[Pv h]
  generalize hdC e p o n v=c at *
  clear h
  unfold hdV at *
  go_enter Tryz.func242,Tryz.ntmps242
  go_wp2_with fail
  refine(hF _).mono ?_
  rintro x w1 ⟨rfl,hb1⟩
  obtain⟨hc0,hc1,hf0,hf1⟩:=bQ (fU hb1).2
  have hB1:Below w.heap.size w w1:=ak (ak hb1)
  clear hb1 hF
  go_wp2
  exact bodyPost_ret (v:= .agg #[.int .i64 c,.slice none 0 0]) (by simp[results,Tryz.results242,go_sem,hc0,hc1]) rfl ⟨(hB1.setCell (Nat.le_succ _) _).setCell (Nat.le_succ _) _,_,rfl,World.ownsRow_nil _ _ _ _⟩
theorem BQ(b off:Nat)(e p o n v:Int)(w:World)(h:HdS w b off ⟨e,p,o,n,v⟩)(hok:tq e p o n v):
  Calls Tryz.prog 188 #[.pointer (some ⟨b,off,none⟩)] w fun x w'=>x = .returned (.int .i64 (hdS e p o n v))/\Below w.heap.size w w':=by
 have hbt:=hok.bts
 have hln:(hdB e p o n v).length<=1099511627776:=by rw[LJ];omega
 have hP:=Kv b off e p o n v w h hok
 unfold hdS
 generalize hdB e p o n v=ys at *
 clear h hok
 go_enter Tryz.func188,Tryz.ntmps188
 go_wp2_with fail
 refine hP.mono ?_
 rintro x w1 ⟨v',rfl,ho1,hb1⟩
 have hI:=gZ ho1
 obtain⟨a',c',rfl⟩:=aQ ho1
 clear ho1 hP
 go_wp2_with fail
 refine(lX _ ys _ hI hbt hln).mono ?_
 rintro x w2 ⟨rfl,rfl⟩
 go_wp2
 go_ret
 exact⟨rfl,hb1⟩
theorem rM(e p o n v:Int)(w:World):
  Calls Tryz.prog 182 #[hdV e p o n v] w fun x w'=>iO w (hdC e p o n v) (Hq e p o n v) x w':=by
 have hF:=fun w=>Ai e p o n v w
 by_cases h:hdC e p o n v=0
 ·have hok:=wE h
  rw[Dx h]
  rw[Px h]at hF
  rw[h]at hF ⊢
  have hbt:=hok.bts
  have hln:(hdB e p o n v).length<=200:=by rw[LJ];omega
  have hsm:=uQ (bs:=hdB e p o n v) (by omega)
  have Hg:=fun (u:Value) (w:World) hI=>iY u (hdB e p o n v) w hI hbt (by omega)
  rw[hsm.1,hsm.2]at Hg
  unfold hdS
  generalize bf (hdB e p o n v)=s at *
  generalize hdB e p o n v=ys at *
  clear hsm hbt h hok
  unfold hdV at *
  go_enter Tryz.func182,Tryz.ntmps182
  go_wp2_with fail
  refine(hF _).mono ?_
  intro x w1 h9
  obtain⟨a,c,rfl,hb1,ho1⟩:=h9.use
  have pI:=(fU hb1).2
  have hB1:Below w.heap.size w w1:=ak (ak hb1)
  have hsz1:w.heap.size+2<=w1.heap.size:=by have:=hb1.size;simp at this;omega
  have P1:=Pair.new w1 (.int .i64 0) (.slice a ys.length c) 300
  have hI:=(gZ ho1).below (aj (.cells #[.int .i64 0,.slice a ys.length c] 300))
  clear hF h9 ho1 hb1
  go_wp2_with fail
  refine(Hg _ _ hI).mono ?_
  rintro x w2 ⟨rfl,hb2⟩
  have hB2:Below w.heap.size w w2:=ah hB1 (ak hb2)
  obtain⟨hc0,hc1,hf0,hf1⟩:=bQ (((ak hb2).block (w.heap.size+1) (by omega)).trans pI)
  clear hb2 hI P1 pI Hg
  go_wp2
  exact bodyPost_ret (v:= .agg #[.int .i64 0,.int .i64 s]) (by simp[results,Tryz.results182,go_sem,hc0,hc1]) rfl ⟨rfl,(hB2.setCell (Nat.le_succ _) _).setCell (Nat.le_succ _) _⟩
 ·have h1:=jR h
  rw[Un h]
  rw[Pv h]at hF
  generalize hdC e p o n v=c at *
  clear h
  unfold hdV at *
  go_enter Tryz.func182,Tryz.ntmps182
  go_wp2_with fail
  refine(hF _).mono ?_
  intro x w1 h9
  obtain⟨a,cc,rfl,hb1,ho1⟩:=h9.use
  simp only[List.length_nil]
  have pI:=(fU hb1).2
  have hB1:Below w.heap.size w w1:=ak (ak hb1)
  have hsz1:w.heap.size+2<=w1.heap.size:=by have:=hb1.size;simp at this;omega
  have hB2:=ah hB1 (aj (.cells #[.int .i64 c,.slice a 0 cc] 300))
  obtain⟨hc0,hc1,hf0,hf1⟩:=bQ (((aj (.cells #[.int .i64 c,.slice a 0 cc] 300)).block (w.heap.size+1) (by omega)).trans pI)
  clear hF h9 ho1 hb1
  go_wp2
  exact bodyPost_ret (v:= .agg #[.int .i64 c,.int .i64 0]) (by simp[results,Tryz.results182,go_sem,hc0,hc1]) rfl ⟨rfl,(hB2.setCell (Nat.le_succ _) _).setCell (Nat.le_succ _) _⟩
theorem o9(a b:Int)(w:World):Calls Tryz.prog 103 #[.int .i64 a,.int .i64 b] w fun x w'=>x = .returned (.bool (iD a b))/\w'=w:=by
 unfold iD
 by_cases h:a=4
 ·subst h
  go_enter Tryz.func103,Tryz.ntmps103
  go_wp2
  go_ret
  exact⟨rfl,rfl⟩
 ·have h1:(a==4)=false:=by simpa using h
  rw[if_neg h]
  by_cases h2:a=1
  ·subst h2
   go_enter Tryz.func103,Tryz.ntmps103
   go_wp2
   go_ret
   exact⟨rfl,rfl⟩
  ·have h3:(a==1)=false:=by simpa using h2
   rw[h3]
   go_enter Tryz.func103,Tryz.ntmps103
   go_wp2
   go_ret
   exact⟨aO (by simp),rfl⟩
theorem pK(a b:Int)(w:World):Calls Tryz.prog 114 #[.int .i64 a,.int .i64 b] w fun x w'=>x = .returned (.bool (mfB a b))/\w'=w:=by
 have hA:=fun w=>fK a w
 have hB:=fun w=>fK b w
 unfold mfB
 rcases Bool.eq_false_or_eq_true (inB a 1 5)with ha | ha
 ·rw[ha]at hA ⊢
  rcases Bool.eq_false_or_eq_true (inB b 1 5)with hb | hb
  ·rw[hb]at hB ⊢
   unfold iD
   by_cases h:a=4
   ·subst h
    go_enter Tryz.func114,Tryz.ntmps114
    go_wp2_with fail
    refine(hA _).mono ?_
    rintro x wq ⟨rfl,rfl⟩
    go_wp2_with fail
    refine(hB _).mono ?_
    rintro x wq ⟨rfl,rfl⟩
    go_wp2
    go_ret
    exact⟨rfl,rfl⟩
   ·have h1:(a==4)=false:=by simpa using h
    rw[if_neg h]
    by_cases h2:a=1
    ·subst h2
     go_enter Tryz.func114,Tryz.ntmps114
     go_wp2_with fail
     refine(hA _).mono ?_
     rintro x wq ⟨rfl,rfl⟩
     go_wp2_with fail
     refine(hB _).mono ?_
     rintro x wq ⟨rfl,rfl⟩
     go_wp2
     go_ret
     exact⟨rfl,rfl⟩
    ·have h3:(a==1)=false:=by simpa using h2
     rw[h3]
     go_enter Tryz.func114,Tryz.ntmps114
     go_wp2_with fail
     refine(hA _).mono ?_
     rintro x wq ⟨rfl,rfl⟩
     go_wp2_with fail
     refine(hB _).mono ?_
     rintro x wq ⟨rfl,rfl⟩
     go_wp2
     go_ret
     exact⟨aO (by simp),rfl⟩
  ·rw[hb]at hB ⊢
   go_enter Tryz.func114,Tryz.ntmps114
   go_wp2_with fail
   refine(hA _).mono ?_
   rintro x wq ⟨rfl,rfl⟩
   go_wp2_with fail
   refine(hB _).mono ?_
   rintro x wq ⟨rfl,rfl⟩
   go_wp2
   go_ret
   exact⟨rfl,rfl⟩
 ·rw[ha]at hA ⊢
  go_enter Tryz.func114,Tryz.ntmps114
  go_wp2_with fail
  refine(hA _).mono ?_
  rintro x wq ⟨rfl,rfl⟩
  go_wp2
  go_ret
  exact⟨rfl,rfl⟩
end U
end Go.Proofs.YtmnfokgllcdiiaaGreat
namespace Go.Proofs.YtmnfokgllcdiiaaGreat
namespace U
end U
end Go.Proofs.YtmnfokgllcdiiaaGreat
namespace Go.Proofs.YtmnfokgllcdiiaaGreat
open Go.RowKit
namespace U
theorem CS{w:World}{b:Nat}{x0 x1 x2 x3 x4 x5:Value}{t:TypeId}(h:w.heap[b]? = some (.cells #[x0,x1,x2,x3,x4,x5] t (0,0))):(w.cell? ⟨b,0,none⟩=some x0/\w.cell? ⟨b,1,none⟩=some x1/\w.cell? ⟨b,2,none⟩=some x2/\w.cell? ⟨b,3,none⟩=some x3/\w.cell? ⟨b,4,none⟩=some x4/\w.cell? ⟨b,5,none⟩=some x5)/\
  (w.frozen? ⟨b,0,none⟩=false/\w.frozen? ⟨b,1,none⟩=false/\w.frozen? ⟨b,2,none⟩=false/\w.frozen? ⟨b,3,none⟩=false/\w.frozen? ⟨b,4,none⟩=false/\w.frozen? ⟨b,5,none⟩=false):=by
 simp[World.cell?,World.frozen?,h]
def lu:Obj:= .cells #[.int .i64 0,.int .i64 0,.int .i64 0,.int .i64 0,.int .i64 0,.int .i64 0] 272
def Hds(w:World)(v:Value)(l:Hdl):Prop:=
 (l=[]/\∃a c,v = .slice a 0 c)∨∃b off c,v = .slice (some ⟨b,off,none⟩) l.length c/\b<w.heap.size/\∀j,j<l.length->HdS w b (off+j*5) (hAt l j)
theorem Hds.below{w w':World}{v:Value}{l:Hdl}(h:Hds w v l)(hb:Below w.heap.size w w'):Hds w' v l:=by
 rcases h with h |⟨b,off,c,rfl,hlt,hc⟩
 ·exact Or.inl h
 ·exact Or.inr ⟨b,off,c,rfl,Nat.lt_of_lt_of_le hlt hb.size,fun j hj=>(hc j hj).below hb hlt⟩
theorem Hds.shape{w:World}{v:Value}{l:Hdl}(h:Hds w v l):∃a c,v = .slice a l.length c:=by
 rcases h with⟨rfl,a,c,rfl⟩ |⟨b,off,c,rfl,_⟩
 ·exact⟨a,c,rfl⟩
 ·exact⟨_,c,rfl⟩
theorem Hds.at{w:World}{a:Option Addr}{n c:Nat}{l:Hdl}(h:Hds w (.slice a n c) l)(h0:0<l.length):n=l.length/\∃b off,a=some ⟨b,off,none⟩/\b<w.heap.size/\∀j,j<l.length->HdS w b (off+j*5) (hAt l j):=by
 rcases h with⟨rfl,_⟩ |⟨b,off,c',e,h1,h2⟩
 ·simp at h0
 ·cases e
  exact⟨rfl,b,off,rfl,h1,h2⟩
theorem Hds.nil(w:World)(a:Option Addr)(c:Nat):Hds w (.slice a 0 c) []:=Or.inl ⟨rfl,a,c,rfl⟩
def flH(l:Hdl):List Value:=l.flatMap fun r=>[.int .i64 r.e,.int .i64 r.p,.int .i64 r.o,.int .i64 r.n,.int .i64 r.v]
theorem Uk(l:Hdl):(flH l).length=l.length*5:=by
 unfold flH
 induction l with
 | nil=>rfl
 | cons p t ih=>rw[List.flatMap_cons,List.length_append,ih];simp;omega
theorem Ph(l:Hdl):∀(j:Nat),j<l.length->(flH l)[j*5]? = some (.int .i64 (hAt l j).e)/\(flH l)[j*5+1]? = some (.int .i64 (hAt l j).p)/\(flH l)[j*5+2]? = some (.int .i64 (hAt l j).o)/\(flH l)[j*5+3]? = some (.int .i64 (hAt l j).n)/\(flH l)[j*5+4]? = some (.int .i64 (hAt l j).v):=by
 induction l with
 | nil=>intro j h;simp at h
 | cons p t ih=>
  intro j h
  unfold flH
  rw[List.flatMap_cons]
  cases j with
  | zero=>simp[hAt]
  | succ j=>
   have:=ih j (by simpa using h)
   unfold flH at this
   rw[show(j+1)*5=j*5+1+1+1+1+1 by omega]
   simpa [hAt]using this
theorem UH{w:World}{B:Nat}{e:TypeId}{v:Value}{l:Hdl}(h:w.ownsRow B e 5 v l.length (flH l)):Hds w v l:=by
 rcases h.2 with⟨rfl,hn⟩ |⟨g,cap,cur,rfl,hB,hg,hc,hm,_⟩
 ·have:l=[]:=List.eq_nil_of_length_eq_zero hn
  subst this
  exact Hds.nil _ _ _
 ·refine Or.inr ⟨g,0,cap,rfl,(Array.getElem?_eq_some_iff.1 hg).1,fun j hj=> ?_⟩
  have h5:=Ph l j hj
  have q:=fun i (hi:i<l.length*5)=>h.cellAt i (by omega)
  refine⟨?_, ?_, ?_, ?_, ?_⟩
  ·rw[Nat.zero_add,q _ (by omega)];exact h5.1
  ·rw[Nat.zero_add,q _ (by omega)];exact h5.2.1
  ·rw[Nat.zero_add,q _ (by omega)];exact h5.2.2.1
  ·rw[Nat.zero_add,q _ (by omega)];exact h5.2.2.2.1
  ·rw[Nat.zero_add,q _ (by omega)];exact h5.2.2.2.2
def Hd.c(h:Hd):Int:=hdC h.e h.p h.o h.n h.v
def Hd.s(h:Hd):Int:=hdS h.e h.p h.o h.n h.v
def phA(l:Hdl):Nat->Int
 | 0=>1
 | j+1=>(hAt l j).p
def smA(l:Hdl):Nat->Int
 | 0=>0
 | j+1=>(hAt l j).s
def lnk(h:Hd)(e ph s:Int):Int:=if h.e=e then(if h.v=s then(if iD ph h.p=true then 0 else 10)else 9)else 1
theorem Xo{h:Hd}{e ph s:Int}(h1:¬h.e=e):lnk h e ph s=1:=if_neg h1
theorem Xq{h:Hd}{e ph s:Int}(h1:h.e=e)(h2:¬h.v=s):lnk h e ph s=9:=by unfold lnk;rw[if_pos h1,if_neg h2]
theorem Xp{h:Hd}{e ph s:Int}(h1:h.e=e)(h2:h.v=s)(h3:iD ph h.p=false):lnk h e ph s=10:=by unfold lnk;rw[if_pos h1,if_pos h2,h3];rfl
theorem V9{h:Hd}{e ph s:Int}(h1:h.e=e)(h2:h.v=s)(h3:iD ph h.p=true):lnk h e ph s=0:=by unfold lnk;rw[if_pos h1,if_pos h2,h3];rfl
def jK(l:Hdl)(i:Nat):Int:=lnk (hAt l i) ((i:Int)+1) (phA l i) (smA l i)
def dK(l:Hdl):Nat->Nat->Int
 | 0,_=>0
 | f+1,i=>if(hAt l i).c=0 then(if jK l i=0 then dK l f (i+1)else jK l i)else(hAt l i).c
theorem zf{l:Hdl}{f i:Nat}(h:¬(hAt l i).c=0):dK l (f+1) i=(hAt l i).c:=by rw[dK,if_neg h]
theorem CB{l:Hdl}{f i:Nat}(h:(hAt l i).c=0)(h1:¬jK l i=0):dK l (f+1) i=jK l i:=by rw[dK,if_pos h,if_neg h1]
theorem CG{l:Hdl}{f i:Nat}(h:(hAt l i).c=0)(h1:jK l i=0):dK l (f+1) i=dK l f (i+1):=by rw[dK,if_pos h,if_pos h1]
def chF(l:Hdl):Int:=if 10<l.length then 2 else dK l l.length 0
theorem tC{l:Hdl}(h:10<l.length):chF l=2:=if_pos h
theorem zB{l:Hdl}(h:¬ 10<l.length):chF l=dK l l.length 0:=if_neg h
theorem Rx{v:Value}{a b:Int}{w:World}(hv:Ints .i64 w v [a,b]):∃g off c,v = .slice (some ⟨g,off,none⟩) 2 c/\w.cell? ⟨g,off,none⟩=some (.int .i64 a)/\w.cell? ⟨g,off+1,none⟩=some (.int .i64 b):=by
 rcases hv with⟨h,-⟩ |⟨g,off,c,rfl,-,h⟩
 ·cases h
 ·exact⟨g,off,c,rfl,h 0 (by simp),h 1 (by simp)⟩
theorem oJ(a b:Int)(v:Value)(w:World)(hv:Ints .i64 w v [a,b]):
  Calls Tryz.prog 65 #[v] w fun e w'=>e = .returned (.int .i64 (if a=0 then b else a))/\w'=w:=by
 obtain⟨g,off,c,rfl,c0,c1⟩:=Rx hv
 clear hv
 by_cases h:a=0
 ·subst h
  rw[if_pos rfl]
  by_cases hb:b=0
  ·subst hb
   go_enter Tryz.func65,Tryz.ntmps65
   go_wp2
   refine wp_loop_rounds 4 ?_
   rw[rounds_succ]
   go_wp2
   rw[rounds_succ]
   go_wp2
   rw[rounds_succ]
   go_wp2
   go_ret
   exact⟨rfl,rfl⟩
  ·have hbn:(b != 0)=true:=by simpa using hb
   go_enter Tryz.func65,Tryz.ntmps65
   go_wp2
   refine wp_loop_rounds 4 ?_
   rw[rounds_succ]
   go_wp2
   rw[rounds_succ]
   go_wp2
   go_ret
   exact⟨rfl,rfl⟩
 ·have hbn:(a != 0)=true:=by simpa using h
  rw[if_neg h]
  go_enter Tryz.func65,Tryz.ntmps65
  go_wp2
  refine wp_loop_rounds 4 ?_
  rw[rounds_succ]
  go_wp2
  go_ret
  exact⟨rfl,rfl⟩
def uJ(h:Hd)(e ph s:Int):Int:=if h.e=e then(if h.v=s then(if mfB ph h.p=true then 0 else 10)else 9)else 1
theorem LZ{h:Hd}{e ph s:Int}(hc:h.c=0)(hp:inB ph 1 5=true):uJ h e ph s=lnk h e ph s:=by
 have hok:=wE hc
 have:mfB ph h.p=iD ph h.p:=by unfold mfB;rw[hp,jd hok.p0 hok.p1];simp
 unfold uJ lnk
 rw[this]
theorem Fz(e p o n v ep ph s:Int)(w:World):
  Calls Tryz.prog 181 #[hdV e p o n v,.int .i64 ep,.int .i64 ph,.int .i64 s] w fun x w'=>x = .returned (.int .i64 (uJ ⟨e,p,o,n,v⟩ ep ph s))/\Below w.heap.size w w':=by
 have hM:=fun w=>pK ph p w
 unfold uJ hdV
 dsimp only
 by_cases h1:e=ep
 ·rw[if_pos h1]
  have g1:(e != ep)=false:=by simpa using h1
  by_cases h2:v=s
  ·rw[if_pos h2]
   have g2:(v != s)=false:=by simpa using h2
   clear h1 h2
   rcases Bool.eq_false_or_eq_true (mfB ph p)with h3 | h3
   ·rw[h3]at hM ⊢
    go_enter Tryz.func181,Tryz.ntmps181
    go_wp2_with fail
    refine(hM _).mono ?_
    rintro x wq ⟨rfl,rfl⟩
    go_wp2
    go_ret
    exact⟨rfl,aj _⟩
   ·rw[h3]at hM ⊢
    go_enter Tryz.func181,Tryz.ntmps181
    go_wp2_with fail
    refine(hM _).mono ?_
    rintro x wq ⟨rfl,rfl⟩
    go_wp2
    go_ret
    exact⟨rfl,aj _⟩
  ·rw[if_neg h2]
   have g2:(v != s)=true:=by simpa using h2
   clear h1 h2
   go_enter Tryz.func181,Tryz.ntmps181
   go_wp2
   go_ret
   exact⟨rfl,aj _⟩
 ·rw[if_neg h1]
  have g1:(e != ep)=true:=by simpa using h1
  clear h1
  go_enter Tryz.func181,Tryz.ntmps181
  go_wp2
  go_ret
  exact⟨rfl,aj _⟩
theorem xO{w:World}{g:Nat}{a b:Int}{t:TypeId}(hg:g=w.heap.size):Ints .i64 (w.alloc (.cells #[.int .i64 a,.int .i64 b] t)) (.slice (some ⟨g,0,none⟩) 2 2) [a,b]:=by
 subst hg
 have hh:=heap_alloc_new w (.cells #[.int .i64 a,.int .i64 b] t)
 refine Or.inr ⟨w.heap.size,0,2,rfl,by simp,fun j hj=> ?_⟩
 have hj2:j<2:=hj
 rcases(show j=0∨j=1 by omega)with rfl | rfl<;>(unfold World.cell?;rw[hh];rfl)
theorem xU(x y:Int)(w:World):(Instr.field 89 (.agg #[.int .i64 x,.int .i64 y]) 1).run Tryz.prog w = .ok (.int .i64 y) w:=by kernel_rfl
theorem Dz(b off c n:Nat)(l:Hdl)(w:World)(hn:n<=10)(hb:b<w.heap.size)(hc:∀j,j<n->HdS w b (off+j*5) (hAt l j)):
  Calls Tryz.prog 93 #[.slice (some ⟨b,off,none⟩) n c] w fun x w'=>x = .returned (.int .i64 (dK l n 0))/\Below w.heap.size w w':=by
 obtain⟨q,hq⟩:∃q,q=dK l n 0:=⟨_,rfl⟩
 have HQ:Hid (dK l n 0=q):=hq.symm
 rw[←hq]
 clear hq
 go_enter Tryz.func93,Tryz.ntmps93
 go_wp2
 go_loopw [3,4,13] (fun ph sm i wr=>∃k:Nat,k<=n/\i = .int .i64 k/\ph = .int .i64 (phA l k)/\sm = .int .i64 (smA l k)/\Hid (Below w.heap.size w wr)/\Hid (dK l (n - k) k=q)/\Hid (inB (phA l k) 1 5=true)) (fun _ _ i _=>n - (intOf i).toNat)
 case atStart=>exact⟨0,Nat.zero_le _,rfl,rfl,rfl,Below.refl _ _,HQ,(show inB 1 1 5=true by decide)⟩
 case round=>
  obtain⟨k,hk,rfl,rfl,rfl,hB,HS,HP⟩:=hrel
  by_cases hkn:k<n
  ·have hki:(k:Int)<(n:Int):=by omega
   obtain⟨d0,d1,d2,d3,d4⟩:=(hc k hkn).below hB.out hb
   have ku:Hid (n - k=(n - k - 1)+1):=(by omega:n - k=(n - k - 1)+1)
   have hw1:IntKind.i64.wrap ((k:Int)+1)=(k:Int)+1:=by rw[IntKind.wrap_i64];omega
   have hF:=fun w=>jq (hAt l k).e (hAt l k).p (hAt l k).o (hAt l k).n (hAt l k).v w
   have hL:=fun w=>Fz (hAt l k).e (hAt l k).p (hAt l k).o (hAt l k).n (hAt l k).v ((k:Int)+1) (phA l k) (smA l k) w
   have TA:=fun w=>rM (hAt l k).e (hAt l k).p (hAt l k).o (hAt l k).n (hAt l k).v w
   have e1:hdC (hAt l k).e (hAt l k).p (hAt l k).o (hAt l k).n (hAt l k).v=(hAt l k).c:=rfl
   have e2:uJ ⟨(hAt l k).e,(hAt l k).p,(hAt l k).o,(hAt l k).n,(hAt l k).v⟩ ((k:Int)+1) (phA l k) (smA l k)=uJ (hAt l k) ((k:Int)+1) (phA l k) (smA l k):=rfl
   rw[e1]at hF TA
   rw[e2]at hL
   have hOr:=fun v w hv=>oJ (hAt l k).c (uJ (hAt l k) ((k:Int)+1) (phA l k) (smA l k)) v w hv
   obtain⟨r,hr⟩:∃r,r=(if(hAt l k).c=0 then uJ (hAt l k) ((k:Int)+1) (phA l k) (smA l k)else(hAt l k).c):=⟨_,rfl⟩
   rw[←hr]at hOr
   have HZ:Hid (r=0->(hAt l k).c=0/\dK l (n - k - 1) (k+1)=q/\Hq (hAt l k).e (hAt l k).p (hAt l k).o (hAt l k).n (hAt l k).v=smA l (k+1)/\inB (phA l (k+1)) 1 5=true):=by
    intro h0
    by_cases hc0:(hAt l k).c=0
    ·rw[if_pos hc0]at hr
     have hl0:jK l k=0:=by unfold jK;rw[←LZ hc0 HP.out,←hr,h0]
     refine⟨hc0,by rw[←HS.out,ku.out];exact(CG hc0 hl0).symm, ?_, ?_⟩
     ·rw[Dx hc0];rfl
     ·have:=wE hc0;exact jd this.p0 this.p1
    ·rw[if_neg hc0]at hr
     exact absurd (hr.symm.trans h0) hc0
   have Vh:Hid (¬r=0->q=r):=by
    intro h0
    rw[←HS.out,ku.out]
    by_cases hc0:(hAt l k).c=0
    ·rw[if_pos hc0]at hr
     have hl1:jK l k=r:=by unfold jK;rw[←LZ hc0 HP.out,hr]
     rw[CB hc0 (by rw[hl1];exact h0),hl1]
    ·rw[if_neg hc0]at hr
     rw[zf hc0,hr]
   have HA:Hid (phA l (k+1)=(hAt l k).p):=rfl
   generalize uJ (hAt l k) ((k:Int)+1) (phA l k) (smA l k)=lk at *
   generalize Hq (hAt l k).e (hAt l k).p (hAt l k).o (hAt l k).n (hAt l k).v=sv at *
   generalize (hAt l k).c=cz at *
   generalize (hAt l k).e=x0 at *
   generalize (hAt l k).p=x1 at *
   generalize (hAt l k).o=x2 at *
   generalize (hAt l k).n=x3 at *
   generalize (hAt l k).v=x4 at *
   generalize phA l k=ph at *
   generalize smA l k=sm at *
   obtain⟨W,hW⟩:∃W,W=wr.alloc (.cells #[.int .i64 x0,.int .i64 x1,.int .i64 x2,.int .i64 x3,.int .i64 x4] 136):=⟨_,rfl⟩
   have HW:Hid _:=hW.symm
   have Ec:Hid (Below w.heap.size w W):=(by rw[hW];exact hB.out.alloc hB.out.size _:Below w.heap.size w W)
   have wB:W.heap[wr.heap.size]? = some (.cells #[.int .i64 x0,.int .i64 x1,.int .i64 x2,.int .i64 x3,.int .i64 x4] 136):=by rw[hW];exact heap_alloc_new wr _
   have hbr:b<wr.heap.size:=Nat.lt_of_lt_of_le hb hB.out.size
   have aZ:Hid (∀w',Below W.heap.size W w'->w'.cell? ⟨wr.heap.size,0,none⟩=some (.int .i64 x0)/\w'.cell? ⟨wr.heap.size,1,none⟩=some (.int .i64 x1)/\w'.cell? ⟨wr.heap.size,2,none⟩=some (.int .i64 x2)/\w'.cell? ⟨wr.heap.size,3,none⟩=some (.int .i64 x3)/\w'.cell? ⟨wr.heap.size,4,none⟩=some (.int .i64 x4)):=
    fun w' h=>gq ((h.block _ (Array.getElem?_eq_some_iff.1 wB).1).trans wB)
   have hcur:=Below.refl W.heap.size W
   obtain⟨g0,g1,g2,g3,g4⟩:=aZ.out _ hcur
   unfold hdV at *
   clear hc hr e1 e2 hW wB HS ku HP
   go_wp2_with fail
   rw[HW.out]
   go_region_held3 (fun w'=>w'.cell? ⟨wr.heap.size,0,none⟩=some (.int .i64 x0)/\w'.cell? ⟨wr.heap.size,1,none⟩=some (.int .i64 x1)/\w'.cell? ⟨wr.heap.size,2,none⟩=some (.int .i64 x2)/\w'.cell? ⟨wr.heap.size,3,none⟩=some (.int .i64 x3)/\w'.cell? ⟨wr.heap.size,4,none⟩=some (.int .i64 x4))
    (first | with_reducible exact⟨g0,g1,g2,g3,g4⟩|with_reducible exact aZ.out _ hcur | with_reducible exact aZ.out _ hcur.drew | with_reducible exact aZ.out _ (hcur.alloc hcur.size _))
    (first
     |(go_at_call 180;refine(hF _).mono ?_;rintro e w2 ⟨rfl,hb2⟩;have hcur:Below W.heap.size W w2:=(by first | exact ah hcur hb2 | exact ah hcur.drew hb2))
     |(go_at_call 181;refine(hL _).mono ?_;rintro e w3 ⟨rfl,hb3⟩;have hcur:Below W.heap.size W w3:=(by first | exact ah hcur hb3 | exact ah hcur.drew hb3))
     |(go_at_call 65;refine(hOr _ _ (xO rfl)).mono ?_;rintro e w4 ⟨rfl,hw4⟩;have hcur:Below W.heap.size W w4:=(by rw[hw4];exact hcur.alloc hcur.size _);clear hw4))
   clear g0 g1 g2 g3 g4 hF hL hOr
   obtain⟨g0,g1,g2,g3,g4⟩:=aZ.out _ hcur
   have HB4:Hid (Below w.heap.size w w4):=ah Ec.out hcur
   clear aZ hcur HW Ec
   by_cases hr0:r=0
   ·subst hr0
    obtain⟨hz1,hz2,hz3,yS⟩:=HZ.out rfl
    have HZ2:Hid (dK l (n - k - 1) (k+1)=q):=hz2
    have HZ3:Hid (sv=smA l (k+1)):=hz3
    have Y9:Hid (inB (phA l (k+1)) 1 5=true):=yS
    have q0:=After.cell g0
    have q1:=After.cell g1
    have q2:=After.cell g2
    have q3:=After.cell g3
    have q4:=After.cell g4
    have hne:=After.ne w4
    have kf:=fun w=>xU cz sv w
    clear HZ Vh hz1 hz2 hz3 yS g0 g1 g2 g3 g4
    go_wp2_with fail
    refine ay (by kernel_rfl) (by kernel_rfl) ?_
    repeat(first | go_big_quiet_skip |(go_big_quiet_want;go_big_quiet_op;first | go_big_quiet_on | go_big_quiet_call (first |(go_at_call 182;refine(TA _).mono ?_;rintro e wq ⟨rfl,hbq⟩;exact⟨rfl,bP (ah (After.b _) hbq)⟩))))
    refine wpQuiet_nil ?_
    rintro _ ⟨n6,rfl⟩
    have iE:Hid (Below w.heap.size w n6.w):=ah HB4.out n6.b
    generalize n6.w=w6 at *
    clear hne q0 q1 q2 q3 q4 kf TA
    go_wp2
    go_roundw
    case rel=>exact⟨k+1,by omega,by go_num,by rw[HA.out],by rw[HZ3.out],iE,by rw[show n - (k+1)=n - k - 1 by omega];exact HZ2,Y9⟩
    case measure=>simp[intOf];omega
   ·have hr1:(r != 0)=true:=by simpa using hr0
    have HX:Hid (q=r):=Vh.out hr0
    clear HZ Vh hr0 TA
    go_wp2
    go_ret
    exact⟨aG HX.out.symm,HB4.out⟩
  ·have hkn:k=n:=by omega
   subst hkn
   have e0:Hid (q=0):=(by rw[←HS.out,Nat.sub_self];rfl:q=0)
   clear hc
   go_wp2
   go_ret
   exact⟨aG e0.out.symm,hB.out⟩
theorem wI(v:Value)(l:Hdl)(w:World)(hv:Hds w v l)(hx:l.length<=1099511627776):
  Calls Tryz.prog 93 #[v] w fun e w'=>e = .returned (.int .i64 (chF l))/\Below w.heap.size w w':=by
 obtain⟨a,c,rfl⟩:=hv.shape
 by_cases h:10<l.length
 ·rw[tC h]
  generalize l.length=n at *
  clear hv
  go_enter Tryz.func93,Tryz.ntmps93
  go_wp2
  go_ret
  exact⟨rfl,Below.refl _ _⟩
 ·rw[zB h]
  by_cases h0:0<l.length
  ·obtain⟨_,b,off,rfl,hb,hc⟩:=hv.at h0
   exact Dz b off c l.length l w (by omega) hb hc
  ·have e1:l=[]:=List.eq_nil_of_length_eq_zero (by omega)
   subst e1
   simp only[List.length_nil]
   have e2:dK [] 0 0=0:=rfl
   rw[e2]
   clear hv h0 hx h e2
   go_enter Tryz.func93,Tryz.ntmps93
   go_wp2
   refine wp_loop_rounds 1 ?_;rw[rounds_succ]
   go_wp2
   go_ret
   exact⟨rfl,Below.refl _ _⟩
def lkS(l:Hdl)(i:Nat):Int:=if(hAt l i).c=0 then jK l i else(hAt l i).c
theorem NZ{l:Hdl}{i:Nat}(h:¬(hAt l i).c=0):lkS l i=(hAt l i).c:=if_neg h
theorem TJ{l:Hdl}{i:Nat}(h:(hAt l i).c=0):lkS l i=jK l i:=if_pos h
theorem SE{l:Hdl}{f i:Nat}:dK l (f+1) i=if lkS l i=0 then dK l f (i+1)else lkS l i:=by
 by_cases h:(hAt l i).c=0
 ·rw[TJ h]
  by_cases h1:jK l i=0
  ·rw[if_pos h1,CG h h1]
  ·rw[if_neg h1,CB h h1]
 ·rw[NZ h,if_neg h,zf h]
theorem Ku(b off c n k:Nat)(l:Hdl)(w:World)(hn:n<=10)(hb:b<w.heap.size)(hk:k<n)(hc:∀j,j<n->HdS w b (off+j*5) (hAt l j))(hp:0<k->(hAt l (k - 1)).c=0):
  Calls Tryz.prog 175 #[.slice (some ⟨b,off,none⟩) n c,.int .i64 k] w fun x w'=>x = .returned (.int .i64 (lkS l k))/\Below w.heap.size w w':=by
 have hki:(k:Int)<(n:Int):=by omega
 have hF:=Ia b (off+k*5) (hAt l k).e (hAt l k).p (hAt l k).o (hAt l k).n (hAt l k).v w (hc k hk)
 have e1:hdC (hAt l k).e (hAt l k).p (hAt l k).o (hAt l k).n (hAt l k).v=(hAt l k).c:=rfl
 rw[e1]at hF
 have hR:=hc k hk
 by_cases h0:(hAt l k).c=0
 ·rw[TJ h0]
  rw[h0]at hF
  have hw1:IntKind.i64.wrap ((k:Int)+1)=(k:Int)+1:=by rw[IntKind.wrap_i64];omega
  have HE:Hid (¬(hAt l k).e=(k:Int)+1->jK l k=1):=fun h=>Xo h
  have HV:Hid ((hAt l k).e=(k:Int)+1->¬(hAt l k).v=smA l k->jK l k=9):=fun h h1=>Xq h h1
  have qX:Hid ((hAt l k).e=(k:Int)+1->(hAt l k).v=smA l k->iD (phA l k) (hAt l k).p=false->jK l k=10):=fun h h1 h2=>Xp h h1 h2
  have HK:Hid ((hAt l k).e=(k:Int)+1->(hAt l k).v=smA l k->iD (phA l k) (hAt l k).p=true->jK l k=0):=fun h h1 h2=>V9 h h1 h2
  have mZ:=fun w=>o9 (phA l k) (hAt l k).p w
  generalize jK l k=q at *
  have Gi:Hid (0<k->∀w',Below w.heap.size w w'->Calls Tryz.prog 188 #[.pointer (some ⟨b,off+(k - 1)*5,none⟩)] w' fun x w''=>x = .returned (.int .i64 (smA l k))/\Below w'.heap.size w' w''):=by
   intro h w' hb'
   have e2:smA l k=(hAt l (k - 1)).s:=by rcases k with _ | m;omega;rfl
   rw[e2]
   exact BQ b (off+(k - 1)*5) _ _ _ _ _ w' ((hc (k - 1) (by omega)).below hb' hb) (wE (hp h))
  have Vk:Hid (0<k->∀w',Below w.heap.size w w'->w'.cell? ⟨b,off+(k - 1)*5+1,none⟩=some (.int .i64 (phA l k))):=by
   intro h w' hb'
   have e2:phA l k=(hAt l (k - 1)).p:=by rcases k with _ | m;omega;rfl
   rw[e2]
   exact((hc (k - 1) (by omega)).below hb' hb).c1
  have HZ:Hid (k=0->smA l k=0/\phA l k=1):=fun h=>by subst h;exact⟨rfl,rfl⟩
  have OO:Hid (∀w',Below w.heap.size w w'->w'.cell? ⟨b,off+k*5,none⟩=some (.int .i64 (hAt l k).e)/\w'.cell? ⟨b,off+k*5+1,none⟩=some (.int .i64 (hAt l k).p)/\w'.cell? ⟨b,off+k*5+4,none⟩=some (.int .i64 (hAt l k).v)):=
   fun w' h=>⟨(hR.below h hb).c0,(hR.below h hb).c1,(hR.below h hb).c4⟩
  generalize smA l k=sm at *
  generalize phA l k=ph at *
  generalize (hAt l k).e=x0 at *
  generalize (hAt l k).v=x4 at *
  generalize (hAt l k).p=x1 at *
  clear hc h0 e1 hR hp
  have hcase:∃B0 B1 B2:Bool,(x0 !=(k:Int)+1)=B0/\(x4 != sm)=B1/\iD ph x1=B2/\Hid (q=if B0=true then 1 else if B1=true then 9 else if B2=true then 0 else 10):=by
   refine⟨_,_,_,rfl,rfl,rfl, ?_⟩
   by_cases a1:x0=(k:Int)+1
   ·have g1:(x0 !=(k:Int)+1)=false:=by simpa using a1
    rw[g1]
    by_cases a2:x4=sm
    ·have g2:(x4 != sm)=false:=by simpa using a2
     rw[g2]
     rcases Bool.eq_false_or_eq_true (iD ph x1)with a3 | a3
     ·rw[a3];exact HK.out a1 a2 a3
     ·rw[a3];exact qX.out a1 a2 a3
    ·have g2:(x4 != sm)=true:=by simpa using a2
     rw[g2];exact HV.out a1 a2
   ·have g1:(x0 !=(k:Int)+1)=true:=by simpa using a1
    rw[g1];exact HE.out a1
  obtain⟨B0,B1,B2,g1,g2,g3,HX⟩:=hcase
  clear HE HV qX HK
  rw[g3]at mZ
  clear g3
  rcases k with _ | m
  ·rcases B0 with _ | _<;>rcases B1 with _ | _<;>rcases B2 with _ | _
   all_goals (
    obtain⟨hz1,hz2⟩:=HZ.out rfl
    subst hz1 hz2
    have hg0:decide (((0:Nat):Int)>0)=false:=by simp
    simp only[Nat.zero_mul,Nat.add_zero]at hF OO
    clear Gi Vk HZ
    go_enter Tryz.func175,Tryz.ntmps175
    go_wp2_with fail
    refine hF.mono ?_
    rintro x w1 ⟨rfl,hb1⟩
    obtain⟨k0,k1,k4⟩:=OO.out _ hb1
    clear hF OO
    go_wp2_with (go_at_call 103;refine(mZ _).mono ?_;rintro x wq ⟨rfl,rfl⟩)
    go_ret
    exact⟨aG HX.out.symm,hb1⟩)
  ·rcases B0 with _ | _<;>rcases B1 with _ | _<;>rcases B2 with _ | _
   all_goals (
    have hS1:=Gi.out (by omega)
    have hP1:=Vk.out (by omega)
    simp only[Nat.add_sub_cancel]at hS1 hP1
    have Gg:Hid (∀w',Below w.heap.size w w'->w'.cell? ⟨b,off+m*5+1,none⟩=some (.int .i64 ph)):=hP1
    have hg0:decide (0<((m+1:Nat):Int))=true:=by simp
    have Ya:(m:Int)<(n:Int):=by omega
    clear Gi Vk HZ hP1
    go_enter Tryz.func175,Tryz.ntmps175
    go_wp2_with fail
    refine hF.mono ?_
    rintro x w1 ⟨rfl,hb1⟩
    clear hF
    go_wp2_with fail
    refine(hS1 _ hb1).mono ?_
    rintro x w2 ⟨rfl,hb2⟩
    have hb2':=ah hb1 hb2
    obtain⟨k0,k1,k4⟩:=OO.out _ hb2'
    have kp:=Gg.out _ hb2'
    clear hS1 hb1 hb2 OO Gg
    go_wp2_with (go_at_call 103;refine(mZ _).mono ?_;rintro x wq ⟨rfl,rfl⟩)
    go_ret
    exact⟨aG HX.out.symm,hb2'⟩)
 ·have h1:=jR h0
  rw[NZ h0]
  generalize (hAt l k).c=q at *
  clear hc h0 e1 hR hp
  go_enter Tryz.func175,Tryz.ntmps175
  go_wp2_with fail
  refine hF.mono ?_
  rintro x w1 ⟨rfl,hb1⟩
  clear hF
  go_wp2
  go_ret
  exact⟨rfl,hb1⟩
theorem Fh(b off c n:Nat)(l:Hdl)(w:World)(hn:n<=10)(hb:b<w.heap.size)(hc:∀j,j<n->HdS w b (off+j*5) (hAt l j)):
  Calls Tryz.prog 88 #[.slice (some ⟨b,off,none⟩) n c] w fun x w'=>x = .returned (.int .i64 (dK l n 0))/\Below w.heap.size w w':=by
 obtain⟨q,hq⟩:∃q,q=dK l n 0:=⟨_,rfl⟩
 have HQ:Hid (dK l n 0=q):=hq.symm
 rw[←hq]
 clear hq
 have HC:Hid (∀k,k<n->(0<k->(hAt l (k - 1)).c=0)->∀w',Below w.heap.size w w'->Calls Tryz.prog 175 #[.slice (some ⟨b,off,none⟩) n c,.int .i64 k] w' fun x w''=>x = .returned (.int .i64 (lkS l k))/\Below w'.heap.size w' w''):=
  fun k hk hp w' h=>Ku b off c n k l w' hn (Nat.lt_of_lt_of_le hb h.size) hk (fun j hj=>(hc j hj).below h hb) hp
 clear hc
 go_enter Tryz.func88,Tryz.ntmps88
 go_wp2
 go_loopw [3] (fun i wr=>∃k:Nat,k<=n/\i = .int .i64 k/\Hid (Below w.heap.size w wr)/\Hid (dK l (n - k) k=q)/\Hid (0<k->(hAt l (k - 1)).c=0)) (fun i _=>n - (intOf i).toNat)
 case atStart=>exact⟨0,Nat.zero_le _,rfl,Below.refl _ _,HQ,fun h=>absurd h (by omega)⟩
 case round=>
  obtain⟨k,hk,rfl,hB,HS,HP⟩:=hrel
  by_cases hkn:k<n
  ·have hki:(k:Int)<(n:Int):=by omega
   have hL:=HC.out k hkn HP.out _ hB.out
   have ku:Hid (n - k=(n - k - 1)+1):=(by omega:n - k=(n - k - 1)+1)
   have HL:Hid (q=if lkS l k=0 then dK l (n - k - 1) (k+1)else lkS l k):=(by rw[←HS.out,ku.out];exact SE:q=if lkS l k=0 then dK l (n - k - 1) (k+1)else lkS l k)
   have HN:Hid (lkS l k=0->(hAt l k).c=0):=(fun h=>by
    by_cases h1:(hAt l k).c=0
    ·exact h1
    ·rw[NZ h1]at h;exact h)
   generalize lkS l k=z at *
   by_cases hz:z=0
   ·subst hz
    have HX:Hid (dK l (n - k - 1) (k+1)=q):=(by have:=HL.out;rw[if_pos rfl]at this;exact this.symm:dK l (n - k - 1) (k+1)=q)
    have yP:Hid (0<k+1->(hAt l (k+1 - 1)).c=0):=fun _=>HN.out rfl
    clear HL HN
    go_wp2_with fail
    refine hL.mono ?_
    rintro x w1 ⟨rfl,hb1⟩
    have HB1:Hid (Below w.heap.size w w1):=ah hB.out hb1
    clear hL hb1
    go_wp2
    go_roundw
    case rel=>exact⟨k+1,by omega,by go_num,HB1,by rw[show n - (k+1)=n - k - 1 by omega];exact HX,yP⟩
    case measure=>simp[intOf];omega
   ·have hz1:(z != 0)=true:=by simpa using hz
    have HX:Hid (q=z):=(by have:=HL.out;rw[if_neg hz]at this;exact this:q=z)
    clear HL HN hz
    go_wp2_with fail
    refine hL.mono ?_
    rintro x w1 ⟨rfl,hb1⟩
    have HB1:Hid (Below w.heap.size w w1):=ah hB.out hb1
    clear hL hb1
    go_wp2
    go_ret
    exact⟨aG HX.out.symm,HB1.out⟩
  ·have hkn:k=n:=by omega
   subst hkn
   have e0:Hid (q=0):=(by rw[←HS.out,Nat.sub_self];rfl:q=0)
   go_wp2
   go_ret
   exact⟨aG e0.out.symm,hB.out⟩
theorem H9(v:Value)(l:Hdl)(w:World)(hv:Hds w v l)(hx:l.length<=1099511627776):
  Calls Tryz.prog 88 #[v] w fun e w'=>e = .returned (.int .i64 (chF l))/\Below w.heap.size w w':=by
 obtain⟨a,c,rfl⟩:=hv.shape
 by_cases h:10<l.length
 ·rw[tC h]
  generalize l.length=n at *
  clear hv
  go_enter Tryz.func88,Tryz.ntmps88
  go_wp2
  go_ret
  exact⟨rfl,Below.refl _ _⟩
 ·rw[zB h]
  by_cases h0:0<l.length
  ·obtain⟨_,b,off,rfl,hb,hc⟩:=hv.at h0
   exact Fh b off c l.length l w (by omega) hb hc
  ·have e1:l=[]:=List.eq_nil_of_length_eq_zero (by omega)
   subst e1
   simp only[List.length_nil]
   have e2:dK [] 0 0=0:=rfl
   rw[e2]
   clear hv h0 hx h e2
   go_enter Tryz.func88,Tryz.ntmps88
   go_wp2
   refine wp_loop_rounds 1 ?_;rw[rounds_succ]
   go_wp2
   go_ret
   exact⟨rfl,Below.refl _ _⟩
end U
end Go.Proofs.YtmnfokgllcdiiaaGreat
