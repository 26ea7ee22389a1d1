/- The model's six operations on a right state, at pointers, told alike. -/
import Derived.Test.YtmmcgjacojgeaaaGreatGDnM
import Derived.Test.YtmmcgjacojgeaaaGreatGIm2
import Derived.Test.YtmmcgjacojgeaaaGreatGIm3
import Derived.Test.YtmmcgjacojgeaaaGreatGIm6
import Derived.Test.YtmmcgjacojgeaaaGreatGCl2
namespace Go.Proofs.YtmmcgjacojgeaaaGreat
open Go.RowKit
namespace U
theorem Ih(R:Rt)(lo hi g p po:Nat)(s:St)(v:Sv)(aT:List Value)(r:Rc)(x:Int)(w:World)(hso:aG lo hi w v aT s)(hB:StB s)(hs:StC w g s v)(h:stF R s=0)(hp:p<w.heap.size)(hr:dV w p po r)(hrs:r.l.size<=1048576):
  Calls Tryz.prog 26 #[.pointer (some ⟨g,0,none⟩),.pointer (some ⟨p,po,none⟩),.int .i64 x] w fun e w'=>aQ w (usF R s r x) (if usF R s r x=0 then usT s r x else stZ) e w':=by
 have e:usF R s r x=u9C s.d r x:=by unfold usF;rw[if_pos h]
 rw[e]
 by_cases hu:u9C s.d r x=0
 ·rw[if_pos hu,hu]
  exact Ko lo hi g p po s v aT r x w hso hB hs (fP h).d hp hr hrs (fP h).cu hu
 ·rw[if_neg hu]
  exact J9 lo hi g p po s v aT r x w hso hB hs (fP h).d hp hr hrs hu
theorem Nz(R:Rt)(lo hi g:Nat)(s:St)(v:Sv)(aT:List Value)(w:World)(hso:aG lo hi w v aT s)(hB:StB s)(hs:StC w g s v)(h:stF R s=0):
  Calls Tryz.prog 93 #[.pointer (some ⟨g,0,none⟩)] w fun e w'=>aQ w (phF R s (s.ph==1||s.ph==5)) (if phF R s (s.ph==1||s.ph==5)=0 then(⟨2,s.cu,s.d,s.n,s.h,s.p⟩:St)else stZ) e w':=by
 by_cases hp:s.ph=1∨s.ph=5
 ·have hq:(s.ph==1||s.ph==5)=true:=by simpa using hp
  rw[hq,zL h,if_pos rfl]
  have hok:=fP h
  have ig:s.cu=0:=by
   have:=hok.cu
   unfold cuB at this
   rcases hp with hp | hp<;>rw[hp]at this<;>simpa using this
  have e:(⟨2,s.cu,s.d,s.n,s.h,s.p⟩:St)=(⟨2,0,s.d,newL s.d 0,s.h,s.p⟩:St):=by rw[hok.n,ig]
  rw[e]
  exact hp.elim (fun hp=>Uy lo hi g s v aT w hso hB hs (fP h).d hp) (fun hp=>Uz lo hi g s v aT w hso hB hs (fP h).d hp)
 ·have hq:(s.ph==1||s.ph==5)=false:=by simpa using hp
  rw[hq,vS h,if_neg (by decide)]
  exact QW g s v w hs (fun k=>hp (Or.inl k)) (fun k=>hp (Or.inr k))
theorem ND(R:Rt)(lo hi g:Nat)(s:St)(v:Sv)(aT:List Value)(n:Int)(w:World)(hso:aG lo hi w v aT s)(hB:StB s)(hs:StC w g s v)(h:stF R s=0):
  Calls Tryz.prog 94 #[.pointer (some ⟨g,0,none⟩),.int .i64 n] w fun e w'=>aQ w (cpF R s n) (if cpF R s n=0 then csT s n else stZ) e w':=by
 by_cases hp:s.ph=2
 ·have hq:(s.ph==2)=true:=by simpa using hp
  have h0:phF R s (s.ph==2)=0:=by rw[hq,zL h]
  rcases Bool.eq_false_or_eq_true (inB n 1 256)with h1 | h1
  ·rw[Tz h0 h1,if_pos rfl]
   exact QY lo hi g s v aT n w hso hB hs (fP h).d hp (vY h hp) (eF h1)
  ·rw[Jd h0 h1,if_neg (by decide)]
   exact NG g s v n w hs hp h1
 ·have hq:(s.ph==2)=false:=by simpa using hp
  have h0:phF R s (s.ph==2)=10:=by rw[hq,vS h]
  rw[Fe (by rw[h0];decide),h0,if_neg (by decide)]
  exact QZ g s v n w hs hp
theorem Nu(R:Rt)(lo hi g:Nat)(s:St)(v:Sv)(aT:List Value)(w:World)(hso:aG lo hi w v aT s)(hB:StB s)(hs:StC w g s v)(h:stF R s=0):
  Calls Tryz.prog 95 #[.pointer (some ⟨g,0,none⟩)] w fun e w'=>aQ w (phF R s (s.ph==2||s.ph==3)) (if phF R s (s.ph==2||s.ph==3)=0 then(⟨5,0,s.d,[],s.h,s.p⟩:St)else stZ) e w':=by
 by_cases hp:s.ph=2∨s.ph=3
 ·have hq:(s.ph==2||s.ph==3)=true:=by simpa using hp
  rw[hq,zL h,if_pos rfl]
  have e:(⟨5,0,s.d,[],s.h,s.p⟩:St)=(⟨5,0,s.d,newL s.d 0,s.h,s.p⟩:St):=by rw[GZ]
  rw[e]
  exact hp.elim (fun hp=>Uw lo hi g s v aT w hso hB hs (fP h).d hp) (fun hp=>Ux lo hi g s v aT w hso hB hs (fP h).d hp)
 ·have hq:(s.ph==2||s.ph==3)=false:=by simpa using hp
  rw[hq,vS h,if_neg (by decide)]
  exact QI g s v w hs (fun k=>hp (Or.inl k)) (fun k=>hp (Or.inr k))
theorem NC(R:Rt)(lo hi g:Nat)(s:St)(v:Sv)(aT:List Value)(w:World)(hso:aG lo hi w v aT s)(hB:StB s)(hs:StC w g s v)(h:stF R s=0):
  Calls Tryz.prog 96 #[.pointer (some ⟨g,0,none⟩)] w fun e w'=>aQ w (phF R s (s.ph==3)) (if phF R s (s.ph==3)=0 then(⟨4,s.cu,s.d,s.n,s.h,s.p⟩:St)else stZ) e w':=by
 by_cases hp:s.ph=3
 ·have hq:(s.ph==3)=true:=by simpa using hp
  rw[hq,zL h,if_pos rfl]
  have hok:=fP h
  have ig:s.cu=256:=by
   have:=hok.cu
   unfold cuB at this
   rw[hp]at this;simpa using this
  have e:(⟨4,s.cu,s.d,s.n,s.h,s.p⟩:St)=(⟨4,256,s.d,newL s.d 256,s.h,s.p⟩:St):=by rw[hok.n,ig]
  rw[e]
  exact UA lo hi g s v aT w hso hB hs (fP h).d hp
 ·have hq:(s.ph==3)=false:=by simpa using hp
  rw[hq,vS h,if_neg (by decide)]
  exact QX g s v w hs hp
theorem JZ(R:Rt)(hR:bK R)(lo hi g:Nat)(s:St)(v:Sv)(aT:List Value)(w:World)(hso:aG lo hi w v aT s)(hB:StB s)(hs:StC w g s v)(h:stF R s=0):
  Calls Tryz.prog 97 #[.pointer (some ⟨g,0,none⟩)] w fun e w'=>aQ w (clF R s) (if clF R s=0 then clT R s else stZ) e w':=by
 by_cases h1:s.h.length=10
 ·rw[Jc h h1,if_neg (by decide)]
  exact Ie g s v w hso.sts.h hs h1
 ·rw[Tj h h1,if_pos rfl]
  exact Nv R hR lo hi g s v aT w hso hB hs h h1
end U
end Go.Proofs.YtmmcgjacojgeaaaGreat
