/- An operation done with a state, as mathematics. -/
import Derived.Test.YtmmcgjacojgeaaaGreatGBK
import Derived.Test.YtmmcgjacojgeaaaGreatGUs2
import Derived.Test.YtmmcgjacojgeaaaGreatGImW
import Derived.Test.YtmmcgjacojgeaaaGreatGIm6M
import Derived.Test.YtmmcgjacojgeaaaGreatGClM
import Derived.Test.YtmmcgjacojgeaaaGreatGUs3
import Derived.Test.YtmmcgjacojgeaaaGreatGSt7
namespace Go.Proofs.YtmmcgjacojgeaaaGreat
open Go.RowKit
namespace U
def dnC(R:Rt)(s:St)(k:Int)(r:Rc)(x n:Int):Int:=
 if k=1 then usF R s r x else if k=2 then phF R s (s.ph==1||s.ph==5)else if k=3 then cpF R s n else if k=4 then phF R s (s.ph==2||s.ph==3)else if k=5 then phF R s (s.ph==3)else clF R s
def dnT(R:Rt)(s:St)(k:Int)(r:Rc)(x n:Int):St:=
 if k=1 then usT s r x else if k=2 then⟨2,s.cu,s.d,s.n,s.h,s.p⟩else if k=3 then csT s n else if k=4 then⟨5,0,s.d,[],s.h,s.p⟩else if k=5 then⟨4,s.cu,s.d,s.n,s.h,s.p⟩else clT R s
def doC(R:Rt)(s:St)(k:Int)(r:Rc)(x n:Int):Int:=
 if stF R s=0 then(if dF k r.l r.v r.o r.p x n=0 then dnC R s k r x n else dF k r.l r.v r.o r.p x n)else stF R s
theorem StC.LG{w:World}{b g:Nat}{s:St}{v:Sv}(h:StC w b s v)(hq:b≠g)(x0 x1 x2 x3 x4 x5 x6:Value):StC (((((((w.setCell ⟨g,0,none⟩ x0).setCell ⟨g,1,none⟩ x1).setCell ⟨g,2,none⟩ x2).setCell ⟨g,3,none⟩ x3).setCell ⟨g,4,none⟩ x4).setCell ⟨g,5,none⟩ x5).setCell ⟨g,6,none⟩ x6) b s v:=
 ⟨by simpa using h.lt,(fD hq _ _ _ _ _ _ _).trans h.c0,(fD hq _ _ _ _ _ _ _).trans h.c1,(fD hq _ _ _ _ _ _ _).trans h.c2,(fD hq _ _ _ _ _ _ _).trans h.c3,(fD hq _ _ _ _ _ _ _).trans h.c4,(fD hq _ _ _ _ _ _ _).trans h.c5⟩
theorem dL.LG{w:World}{b g:Nat}{k:Int}{l:ByteArray}{v o p s n:Int}(h:dL w b k l v o p s n)(hq:b≠g)(x0 x1 x2 x3 x4 x5 x6:Value):dL (((((((w.setCell ⟨g,0,none⟩ x0).setCell ⟨g,1,none⟩ x1).setCell ⟨g,2,none⟩ x2).setCell ⟨g,3,none⟩ x3).setCell ⟨g,4,none⟩ x4).setCell ⟨g,5,none⟩ x5).setCell ⟨g,6,none⟩ x6) b k l v o p s n:=
 ⟨(fD hq _ _ _ _ _ _ _).trans h.c0,(fD hq _ _ _ _ _ _ _).trans h.c1,(fD hq _ _ _ _ _ _ _).trans h.c2,(fD hq _ _ _ _ _ _ _).trans h.c3,(fD hq _ _ _ _ _ _ _).trans h.c4,(fD hq _ _ _ _ _ _ _).trans h.c5,(fD hq _ _ _ _ _ _ _).trans h.c6⟩
structure Dos(w0 w:World)(s:St)(v:Sv)(k:Int)(l:ByteArray)(a o p x n:Int):Prop where
 b:Below w0.heap.size w0 w
 s:StC w w0.heap.size s v
 o:dL w (w0.heap.size+1) k l a o p x n
theorem Dos.below{w0 w w':World}{s:St}{v:Sv}{k:Int}{l:ByteArray}{a o p x n:Int}(h:Dos w0 w s v k l a o p x n)(hb:Below w.heap.size w w'):Dos w0 w' s v k l a o p x n:=⟨ah h.b hb,h.s.below hb h.s.lt,h.o.below hb⟩
theorem Dos.LG{w0 w:World}{g:Nat}{s:St}{v:Sv}{k:Int}{l:ByteArray}{a o p x n:Int}(h:Dos w0 w s v k l a o p x n)(hg:w0.heap.size<=g)(h1:w0.heap.size≠g)(h2:w0.heap.size+1≠g)(x0 x1 x2 x3 x4 x5 x6:Value):Dos w0 (((((((w.setCell ⟨g,0,none⟩ x0).setCell ⟨g,1,none⟩ x1).setCell ⟨g,2,none⟩ x2).setCell ⟨g,3,none⟩ x3).setCell ⟨g,4,none⟩ x4).setCell ⟨g,5,none⟩ x5).setCell ⟨g,6,none⟩ x6) s v k l a o p x n:=
 ⟨eu h.b hg _ _ _ _ _ _ _,h.s.LG h1 _ _ _ _ _ _ _,h.o.LG h2 _ _ _ _ _ _ _⟩
theorem VZ{R:Rt}{s:St}{k:Int}{r:Rc}{x n:Int}(h:doC R s k r x n=0):stF R s=0/\dF k r.l r.v r.o r.p x n=0/\dnC R s k r x n=0:=by
 unfold doC at h
 by_cases h0:stF R s=0
 ·rw[if_pos h0]at h
  by_cases h1:dF k r.l r.v r.o r.p x n=0
  ·rw[if_pos h1]at h
   exact⟨h0,h1,h⟩
  ·rw[if_neg h1]at h
   exact absurd h h1
 ·rw[if_neg h0]at h
  exact absurd h h0
theorem Yr{R:Rt}{s:St}{k:Int}{r:Rc}{x n:Int}(hB:StB s)(h:doC R s k r x n=0):StB (dnT R s k r x n):=by
 obtain⟨h0,-,h2⟩:=VZ h
 clear h
 unfold dnC at h2
 unfold dnT
 by_cases k1:k=1
 ·rw[if_pos k1]at h2 ⊢
  exact Zw hB h2
 rw[if_neg k1]at h2 ⊢
 by_cases k2:k=2
 ·rw[if_pos k2]
  exact⟨hB.d,hB.dl,hB.n,hB.h,hB.p,hB.pd,hB.t⟩
 rw[if_neg k2]at h2 ⊢
 by_cases k3:k=3
 ·rw[if_pos k3]
  have h1:=mZ s.d (csN s n)
  have h2:=hB.d
  exact⟨hB.d,hB.dl,Nat.le_trans h1 h2,hB.h,hB.p,hB.pd,hB.t⟩
 rw[if_neg k3]at h2 ⊢
 by_cases k4:k=4
 ·rw[if_pos k4]
  exact⟨hB.d,hB.dl,Nat.zero_le _,hB.h,hB.p,hB.pd,hB.t⟩
 rw[if_neg k4]at h2 ⊢
 by_cases k5:k=5
 ·rw[if_pos k5]
  exact⟨hB.d,hB.dl,hB.n,hB.h,hB.p,hB.pd,hB.t⟩
 rw[if_neg k5]
 exact Ym h0 hB
end U
end Go.Proofs.YtmmcgjacojgeaaaGreat
