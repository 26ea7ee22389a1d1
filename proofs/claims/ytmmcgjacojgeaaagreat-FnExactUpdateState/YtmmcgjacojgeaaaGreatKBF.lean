/- Joined: what the texts behind it need. -/
import Derived.Test.YtmmcgjacojgeaaaGreatKBD
import Derived.Test.YtmmcgjacojgeaaaGreatKBC
import Derived.Test.YtmmcgjacojgeaaaGreatKBB
set_option maxRecDepth 100000
set_option maxHeartbeats 4000000
namespace Go.Proofs.YtmmcgjacojgeaaaGreat
open Go.RowKit
namespace U
def prB(p q:Int × Int):Bool:=(p.1==q.1)&&(p.2==q.2)
theorem xZ(p q:Int × Int):prB p q=true↔p=q:=by
 obtain⟨a,b⟩:=p
 obtain⟨c,d⟩:=q
 unfold prB
 simp only[Bool.and_eq_true,beq_iff_eq,Prod.mk.injEq]
theorem xB(p q:Int × Int)(w:World):(binOp .neq 110 (.agg #[.int .i64 p.1,.int .i64 p.2]) (.agg #[.int .i64 q.1,.int .i64 q.2])).run Tryz.prog w = .ok (.bool (!prB p q)) w:=by
 unfold prB
 simp[go_sem]
 by_cases h:p.1=q.1<;>by_cases h1:p.2=q.2<;>simp[h,h1]
def PrC(w:World)(b off n:Nat)(l:Prl):Prop:=∀j,j<n->w.cell? ⟨b,off+j*2,none⟩=some (.int .i64 (pAt l j).1)/\w.cell? ⟨b,off+j*2+1,none⟩=some (.int .i64 (pAt l j).2)
theorem QE(b off c b' off' c' n:Nat)(l m:Prl)(w:World)(HN:Hid (n=l.length/\n=m.length))(hx:n<=1048576)(hb:b<w.heap.size)(hb':b'<w.heap.size)(hc:PrC w b off n l)(hc':PrC w b' off' n m):
  Calls Tryz.prog 65 #[.slice (some ⟨b,off,none⟩) n c,.slice (some ⟨b',off',none⟩) n c'] w fun e w'=>e = .returned (.bool (eqP l m))/\Below w.heap.size w w':=by
 have hnn:=cZ
 go_enter Tryz.func65,Tryz.ntmps65
 go_wp2
 go_loopw [13] (fun i wr=>∃k:Nat,k<=n/\i = .int .i64 k/\Hid (Below w.heap.size w wr)/\Hid (∀j,j<k->prB (pAt l j) (pAt m j)=true)) (fun i _=>n - (intOf i).toNat)
 case atStart=>exact⟨0,Nat.zero_le _,rfl,Below.refl _ _,fun j hj=>by omega⟩
 case round=>
  obtain⟨k,hk,rfl,hB,HA⟩:=hrel
  by_cases hkn:k<n
  ·have hki:(k:Int)<(n:Int):=by omega
   obtain⟨e0,e1⟩:=hc k hkn
   obtain⟨e0',e1'⟩:=hc' k hkn
   have d0:=(hB.out.cell (p:=⟨b,off+k*2,none⟩) hb).trans e0
   have d1:=(hB.out.cell (p:=⟨b,off+k*2+1,none⟩) hb).trans e1
   have d0':=(hB.out.cell (p:=⟨b',off'+k*2,none⟩) hb').trans e0'
   have d1':=(hB.out.cell (p:=⟨b',off'+k*2+1,none⟩) hb').trans e1'
   have hE:=xB (pAt l k) (pAt m k)
   have yK:Hid (prB (pAt l k) (pAt m k)=false->eqP l m=false):=(fun h=>Pg (k:=k) (fun e=>by rw[(xZ _ _).2 e]at h;cases h):prB (pAt l k) (pAt m k)=false->eqP l m=false)
   have Fa:Hid (prB (pAt l k) (pAt m k)=true->∀j,j<k+1->prB (pAt l j) (pAt m j)=true):=(fun h j hj=>by
    by_cases e:j=k
    ·subst e;exact h
    ·exact HA.out j (by omega):prB (pAt l k) (pAt m k)=true->∀j,j<k+1->prB (pAt l j) (pAt m j)=true)
   generalize prB (pAt l k) (pAt m k)=rb at *
   generalize (pAt l k).1=x0 at *
   generalize (pAt l k).2=x1 at *
   generalize (pAt m k).1=y0 at *
   generalize (pAt m k).2=y1 at *
   clear hc hc' e0 e1 e0' e1'
   cases rb
   ·have HQ:Hid (eqP l m=false):=yK.out rfl
    clear yK Fa
    go_wp2
    go_quiet (fail)
    go_wp2
    go_ret
    exact⟨aU HQ.out.symm,below_drewN hB.out _⟩
   ·have HQ:Hid (∀j,j<k+1->prB (pAt l j) (pAt m j)=true):=Fa.out rfl
    clear yK Fa
    go_wp2
    go_quiet (fail)
    go_wp2
    go_roundw
    case rel=>exact⟨k+1,by omega,by go_num,below_drewN hB.out _,HQ⟩
    case measure=>simp[intOf];omega
  ·have hkn:k=n:=by omega
   subst hkn
   have HQ:Hid (eqP l m=true):=KF (by rw[←HN.out.1,←HN.out.2]) (fun j hj=>(xZ _ _).1 (HA.out j (by rw[HN.out.1];exact hj)))
   clear hc hc'
   go_wp2
   go_ret
   exact⟨aU HQ.out.symm,hB.out⟩
theorem uj(v u:Value)(l m:Prl)(w:World)(hv:Prs w v l)(hu:Prs w u m)(hx:l.length<=1048576)(hy:m.length<=1048576):
  Calls Tryz.prog 65 #[v,u] w fun e w'=>e = .returned (.bool (eqP l m))/\Below w.heap.size w w':=by
 obtain⟨a,c,rfl⟩:=hv.shape
 obtain⟨a',c',rfl⟩:=hu.shape
 by_cases hlm:l.length=m.length
 ·rw[←hlm]at hu ⊢
  by_cases h0:0<l.length
  ·obtain⟨_,b,off,rfl,hb,hc⟩:=hv.at h0
   obtain⟨_,b',off',rfl,hb',hc'⟩:=hu.at (by omega)
   exact QE b off c b' off' c' l.length l m w ⟨rfl,hlm⟩ hx hb hb' hc (fun j hj=>hc' j (by omega))
  ·have e1:l=[]:=List.eq_nil_of_length_eq_zero (by omega)
   have e2:m=[]:=List.eq_nil_of_length_eq_zero (by omega)
   subst e1 e2
   have e3:eqP [] []=true:=rfl
   rw[e3]
   simp only[List.length_nil]at *
   clear hv hu h0 hlm
   go_enter Tryz.func65,Tryz.ntmps65
   go_wp2
   refine wp_loop_rounds 1 ?_;rw[rounds_succ]
   go_wp2
   go_ret
   exact⟨rfl,Below.refl _ _⟩
 ·rw[KE hlm]
  have hnb:(((l.length:Nat):Int) !=((m.length:Nat):Int))=true:=by simp;omega
  generalize l.length=n at *
  generalize m.length=k at *
  clear hv hu hlm
  go_enter Tryz.func65,Tryz.ntmps65
  go_wp2
  go_ret
  exact⟨rfl,Below.refl _ _⟩
theorem yE(b off c b' off' c' n:Nat)(l m:Prl)(w:World)(HN:Hid (n=l.length/\n=m.length))(hx:n<=1048576)(hb:b<w.heap.size)(hb':b'<w.heap.size)(hc:PrC w b off n l)(hc':PrC w b' off' n m):
  Calls Tryz.prog 105 #[.slice (some ⟨b,off,none⟩) n c,.slice (some ⟨b',off',none⟩) n c'] w fun e w'=>e = .returned (.bool (eqP l m))/\Below w.heap.size w w':=by
 have hnn:=cZ
 go_enter Tryz.func105,Tryz.ntmps105
 go_wp2
 go_loopw [5] (fun i wr=>∃k:Nat,k<=n/\i = .int .i64 k/\Hid (Below w.heap.size w wr)/\Hid (∀j,j<k->prB (pAt l j) (pAt m j)=true)) (fun i _=>n - (intOf i).toNat)
 case atStart=>exact⟨0,Nat.zero_le _,rfl,Below.refl _ _,fun j hj=>by omega⟩
 case round=>
  obtain⟨k,hk,rfl,hB,HA⟩:=hrel
  by_cases hkn:k<n
  ·have hki:(k:Int)<(n:Int):=by omega
   obtain⟨e0,e1⟩:=hc k hkn
   obtain⟨e0',e1'⟩:=hc' k hkn
   have d0:=(hB.out.cell (p:=⟨b,off+k*2,none⟩) hb).trans e0
   have d1:=(hB.out.cell (p:=⟨b,off+k*2+1,none⟩) hb).trans e1
   have d0':=(hB.out.cell (p:=⟨b',off'+k*2,none⟩) hb').trans e0'
   have d1':=(hB.out.cell (p:=⟨b',off'+k*2+1,none⟩) hb').trans e1'
   have hE:=xB (pAt l k) (pAt m k)
   have yK:Hid (prB (pAt l k) (pAt m k)=false->eqP l m=false):=(fun h=>Pg (k:=k) (fun e=>by rw[(xZ _ _).2 e]at h;cases h):prB (pAt l k) (pAt m k)=false->eqP l m=false)
   have Fa:Hid (prB (pAt l k) (pAt m k)=true->∀j,j<k+1->prB (pAt l j) (pAt m j)=true):=(fun h j hj=>by
    by_cases e:j=k
    ·subst e;exact h
    ·exact HA.out j (by omega):prB (pAt l k) (pAt m k)=true->∀j,j<k+1->prB (pAt l j) (pAt m j)=true)
   generalize prB (pAt l k) (pAt m k)=rb at *
   generalize (pAt l k).1=x0 at *
   generalize (pAt l k).2=x1 at *
   generalize (pAt m k).1=y0 at *
   generalize (pAt m k).2=y1 at *
   clear hc hc' e0 e1 e0' e1'
   cases rb
   ·have HQ:Hid (eqP l m=false):=yK.out rfl
    clear yK Fa
    go_wp2
    go_quiet (fail)
    go_wp2
    go_ret
    exact⟨aU HQ.out.symm,below_drewN hB.out _⟩
   ·have HQ:Hid (∀j,j<k+1->prB (pAt l j) (pAt m j)=true):=Fa.out rfl
    clear yK Fa
    go_wp2
    go_quiet (fail)
    go_wp2
    go_roundw
    case rel=>exact⟨k+1,by omega,by go_num,below_drewN hB.out _,HQ⟩
    case measure=>simp[intOf];omega
  ·have hkn:k=n:=by omega
   subst hkn
   have HQ:Hid (eqP l m=true):=KF (by rw[←HN.out.1,←HN.out.2]) (fun j hj=>(xZ _ _).1 (HA.out j (by rw[HN.out.1];exact hj)))
   clear hc hc'
   go_wp2
   go_ret
   exact⟨aU HQ.out.symm,hB.out⟩
theorem zN(v u:Value)(l m:Prl)(w:World)(hv:Prs w v l)(hu:Prs w u m)(hx:l.length<=1048576)(hy:m.length<=1048576):
  Calls Tryz.prog 105 #[v,u] w fun e w'=>e = .returned (.bool (eqP l m))/\Below w.heap.size w w':=by
 obtain⟨a,c,rfl⟩:=hv.shape
 obtain⟨a',c',rfl⟩:=hu.shape
 by_cases hlm:l.length=m.length
 ·rw[←hlm]at hu ⊢
  by_cases h0:0<l.length
  ·obtain⟨_,b,off,rfl,hb,hc⟩:=hv.at h0
   obtain⟨_,b',off',rfl,hb',hc'⟩:=hu.at (by omega)
   exact yE b off c b' off' c' l.length l m w ⟨rfl,hlm⟩ hx hb hb' hc (fun j hj=>hc' j (by omega))
  ·have e1:l=[]:=List.eq_nil_of_length_eq_zero (by omega)
   have e2:m=[]:=List.eq_nil_of_length_eq_zero (by omega)
   subst e1 e2
   have e3:eqP [] []=true:=rfl
   rw[e3]
   simp only[List.length_nil]at *
   clear hv hu h0 hlm
   go_enter Tryz.func105,Tryz.ntmps105
   go_wp2
   refine wp_loop_rounds 1 ?_;rw[rounds_succ]
   go_wp2
   go_ret
   exact⟨rfl,Below.refl _ _⟩
 ·rw[KE hlm]
  have hnb:(((l.length:Nat):Int) !=((m.length:Nat):Int))=true:=by simp;omega
  generalize l.length=n at *
  generalize m.length=k at *
  clear hv hu hlm
  go_enter Tryz.func105,Tryz.ntmps105
  go_wp2
  go_ret
  exact⟨rfl,Below.refl _ _⟩
structure Rt where
 o:Prl->Int
 n:Prl->Int
def iZ(R:Rt):Prop:=∀l,slF l=0->lG l (R.o l) (R.n l)
theorem Xr:∃R,iZ R:=by
 have h1:∀l:Prl,∃q:Int × Int,slF l=0->lG l q.1 q.2:=fun l=>by
  by_cases h:slF l=0
  ·obtain⟨o,n,hr⟩:=SS l h
   exact⟨(o,n),fun _=>hr⟩
  ·exact⟨(0,0),fun h'=>absurd h' h⟩
 refine⟨⟨fun l=>(Classical.choose (h1 l)).1,fun l=>(Classical.choose (h1 l)).2⟩,fun l h=>Classical.choose_spec (h1 l) h⟩
def newL(d:Rcl)(cu:Int):Prl:=cut (bU d) 0 cu
def cuB(ph cu:Int):Bool:=if ph=1 then cu==0 else if ph=5 then cu==0 else if ph=2 then inB cu 0 255 else cu==256
theorem Qi(d:Rcl):newL d 0=[]:=by
 unfold newL cut
 rw[List.filter_eq_nil_iff]
 intro p _
 simp only[Bool.and_eq_true,decide_eq_true_eq]
 omega
theorem nO(d:Rcl)(cu:Int):(newL d cu).length<=d.length:=by
 unfold newL
 have:=jc (bU d) 0 cu
 rw[vJ]at this
 exact this
theorem vH{ph cu:Int}(h:cuB ph cu=true):0<=cu/\cu<=256:=by
 unfold cuB at h
 split at h
 ·have:cu=0:=by simpa using h
  omega
 ·split at h
  ·have:cu=0:=by simpa using h
   omega
  ·split at h
   ·have:=jd h
    omega
   ·have:cu=256:=by simpa using h
    omega
def ML(R:Rt)(l:Rcl)(e p v:Int):Hd:=⟨e,p,mM p (R.o (bU l)),mJ p (R.n (bU l)),v⟩
def jX(R:Rt)(l:Rcl)(h:Hd):Hd:=ML R l h.e h.p h.v
def dW(R:Rt)(h:Hdl)(p:Pst):Nat->Nat->Int
 | 0,_=>0
 | f+1,i=>if aB (dAt p i)=0 then(if hdQ (jX R (dAt p i) (hAt h i)) (hAt h i)=true then dW R h p f (i+1)else 9)else aB (dAt p i)
theorem y7{R:Rt}{h:Hdl}{p:Pst}{f i:Nat}(h0:¬aB (dAt p i)=0):dW R h p (f+1) i=aB (dAt p i):=by rw[dW,if_neg h0]
theorem y8{R:Rt}{h:Hdl}{p:Pst}{f i:Nat}(h0:aB (dAt p i)=0)(h1:hdQ (jX R (dAt p i) (hAt h i)) (hAt h i)=false):dW R h p (f+1) i=9:=by rw[dW,if_pos h0,h1];rfl
theorem BI{R:Rt}{h:Hdl}{p:Pst}{f i:Nat}(h0:aB (dAt p i)=0)(h1:hdQ (jX R (dAt p i) (hAt h i)) (hAt h i)=true):dW R h p (f+1) i=dW R h p f (i+1):=by rw[dW,if_pos h0,if_pos h1]
def eY(R:Rt)(h:Hdl)(p:Pst):Int:=if chF h=0 then(if p.length=h.length then dW R h p p.length 0 else 2)else chF h
def phL(h:Hdl):Int:=phA h h.length
def smL(h:Hdl):Int:=smA h h.length
def stN(s:St):Bool:=cuB s.ph s.cu&&eqP s.n (newL s.d s.cu)
def stF(R:Rt)(s:St):Int:=if inB s.ph 1 5=true then(if aB s.d=0 then(if stN s=true then(if eY R s.h s.p=0 then(if gu (phL s.h) s.ph=true then 0 else 10)else eY R s.h s.p)else 1)else aB s.d)else 3
theorem IZ{R:Rt}{s:St}(h:inB s.ph 1 5=false):stF R s=3:=by unfold stF;rw[h];rfl
theorem Dk{R:Rt}{s:St}(h:inB s.ph 1 5=true)(h1:¬aB s.d=0):stF R s=aB s.d:=by unfold stF;rw[if_pos h,if_neg h1]
theorem uo{R:Rt}{s:St}(h:inB s.ph 1 5=true)(h1:aB s.d=0)(h2:stN s=false):stF R s=1:=by unfold stF;rw[if_pos h,if_pos h1,h2];rfl
theorem Dn{R:Rt}{s:St}(h:inB s.ph 1 5=true)(h1:aB s.d=0)(h2:stN s=true)(h3:¬eY R s.h s.p=0):stF R s=eY R s.h s.p:=by unfold stF;rw[if_pos h,if_pos h1,if_pos h2,if_neg h3]
theorem Dl{R:Rt}{s:St}(h:inB s.ph 1 5=true)(h1:aB s.d=0)(h2:stN s=true)(h3:eY R s.h s.p=0)(h4:gu (phL s.h) s.ph=false):stF R s=10:=by unfold stF;rw[if_pos h,if_pos h1,if_pos h2,if_pos h3,h4];rfl
theorem IY{R:Rt}{s:St}(h:inB s.ph 1 5=true)(h1:aB s.d=0)(h2:stN s=true)(h3:eY R s.h s.p=0)(h4:gu (phL s.h) s.ph=true):stF R s=0:=by unfold stF;rw[if_pos h,if_pos h1,if_pos h2,if_pos h3,if_pos h4]
structure YA(R:Rt)(s:St):Prop where
 ph:inB s.ph 1 5=true
 d:aB s.d=0
 cu:cuB s.ph s.cu=true
 n:s.n=newL s.d s.cu
 his:eY R s.h s.p=0
 fol:gu (phL s.h) s.ph=true
theorem mV{R:Rt}{s:St}(h:stF R s=0):YA R s:=by
 rcases Bool.eq_false_or_eq_true (inB s.ph 1 5)with h1 | h1
 ·by_cases h2:aB s.d=0
  ·rcases Bool.eq_false_or_eq_true (stN s)with h3 | h3
   ·by_cases h4:eY R s.h s.p=0
    ·rcases Bool.eq_false_or_eq_true (gu (phL s.h) s.ph)with h5 | h5
     ·have h6:=h3
      unfold stN at h6
      rw[Bool.and_eq_true]at h6
      exact⟨h1,h2,h6.1,UG.1 h6.2,h4,h5⟩
     ·rw[Dl h1 h2 h3 h4 h5]at h;omega
    ·rw[Dn h1 h2 h3 h4]at h;exact absurd h h4
   ·rw[uo h1 h2 h3]at h;omega
  ·rw[Dk h1 h2]at h;exact absurd h h2
 ·rw[IZ h1]at h;omega
theorem Ee{l:Hdl}:∀f i,dF l f i=0->∀j,i<=j->j<i+f->(hAt l j).c=0/\jA l j=0
 | 0,i,_,j,h1,h2=>by omega
 | f+1,i,h,j,h1,h2=>by
  rw[dF]at h
  by_cases hc:(hAt l i).c=0
  ·rw[if_pos hc]at h
   by_cases hk:jA l i=0
   ·rw[if_pos hk]at h
    by_cases hj:j=i
    ·subst hj;exact⟨hc,hk⟩
    ·exact Ee f (i+1) h j (by omega) (by omega)
   ·rw[if_neg hk]at h;exact absurd h hk
  ·rw[if_neg hc]at h;exact absurd h hc
theorem pI{l:Hdl}(h:chF l=0):l.length<=10/\∀j,j<l.length->(hAt l j).c=0:=by
 by_cases h1:10<l.length
 ·rw[zo h1]at h;omega
 ·rw[zq h1]at h
  exact⟨by omega,fun j hj=>(Ee _ _ h j (Nat.zero_le _) (by omega)).1⟩
theorem xQ{R:Rt}{h:Hdl}{p:Pst}(h0:eY R h p=0):chF h=0/\p.length=h.length:=by
 unfold eY at h0
 by_cases h1:chF h=0
 ·rw[if_pos h1]at h0
  by_cases h2:p.length=h.length
  ·exact⟨h1,h2⟩
  ·rw[if_neg h2]at h0;omega
 ·rw[if_neg h1]at h0;exact absurd h0 h1
theorem Qs{h:Hdl}(h0:chF h=0):inB (phL h) 1 5=true:=by
 obtain⟨h1,h2⟩:=pI h0
 unfold phL
 rcases hn:h.length with _ | k
 ·rfl
 ·have:=vZ (h2 k (by omega))
  exact iJ this.p0 this.p1
theorem CZ(ph cu:Int)(w:World):Calls Tryz.prog 64 #[.int .i64 ph,.int .i64 cu] w fun e w'=>e = .returned (.bool (cuB ph cu))/\w'=w:=by
 unfold cuB
 by_cases h1:ph=1
 ·subst h1
  rw[if_pos rfl]
  go_enter Tryz.func64,Tryz.ntmps64
  go_wp2
  go_ret
  exact⟨rfl,rfl⟩
 ·rw[if_neg h1]
  by_cases h5:ph=5
  ·subst h5
   rw[if_pos rfl]
   go_enter Tryz.func64,Tryz.ntmps64
   go_wp2
   go_ret
   exact⟨rfl,rfl⟩
  ·rw[if_neg h5]
   by_cases h2:ph=2
   ·subst h2
    rw[if_pos rfl]
    by_cases k1:0<=cu
    ·by_cases k2:cu<=255
     ·rw[iJ k1 k2]
      go_enter Tryz.func64,Tryz.ntmps64
      go_wp2
      go_ret
      exact⟨aU (by simp;omega),rfl⟩
     ·rw[nV (Or.inr (by omega))]
      go_enter Tryz.func64,Tryz.ntmps64
      go_wp2
      go_ret
      exact⟨aU (by simp<;>omega),rfl⟩
    ·rw[nV (Or.inl (by omega))]
     go_enter Tryz.func64,Tryz.ntmps64
     go_wp2
     go_ret
     exact⟨aU (by simp<;>omega),rfl⟩
   ·rw[if_neg h2]
    go_enter Tryz.func64,Tryz.ntmps64
    go_wp2
    go_ret
    exact⟨rfl,rfl⟩
theorem UD{l:Prl}{a b:Int}(h:slF l=0)(h1:sK a b=true):csL l a b=cut l a b:=by unfold csL;rw[if_pos ⟨h,h1⟩]
theorem OZ{cu:Int}(h:0<=cu/\cu<=256):sK 0 cu=true:=by
 unfold sK
 rw[iJ (by omega) (by omega),iJ h.1 h.2]
 rfl
theorem kF(u:Value)(l:Rcl)(cu:Int)(w:World)(hv:Rcs w u l)(h0:aB l=0)(jW:0<=cu/\cu<=256):
  Calls Tryz.prog 34 #[.agg #[u],.int .i64 cu] w fun e w'=>∃a c,e = .returned (.slice a (newL l cu).length c)/\Below w.heap.size w w'/\w'.ownsRow w.heap.size 110 2 (.slice a (newL l cu).length c) (newL l cu).length ((fl (newL l cu)).map (Value.int .i64)):=by
 have hok:=dR h0
 have hlen:=hok.len
 have hS:=fun o=>qY u l (w.alloc o) (hv.below (aj _)) hok.lbs (by omega)
 have e1:sfL l=bU l:=by unfold sfL;rw[if_pos h0]
 rw[e1,h0]at hS
 have hsl:=zx hok
 have hC:=fun v w' (hp:Prs w' v (bU l)) (ho:Okv v)=>zH v (bU l) 0 cu w' hp ho (by rw[vJ];omega)
 rw[UD hsl (OZ jW)]at hC
 have e2:cut (bU l) 0 cu=newL l cu:=rfl
 rw[e2]at hC
 generalize csC (bU l) 0 cu=cc at *
 generalize newL l cu=nl at *
 obtain⟨a,c,rfl⟩:=hv.shape
 generalize bU l=m at *
 generalize l.length=k at *
 clear hv h0 e1 hok e2 hsl
 go_enter Tryz.func34,Tryz.ntmps34
 go_wp2_with fail
 refine(hS _).mono ?_
 intro x w1 h1
 obtain⟨hb1,v1,rfl,o1⟩:=h1
 obtain⟨a1,c1,rfl⟩:=kS o1
 have p1:=bK o1
 have k1:=KZ o1
 have kf:=fun w=>CG 0 (.slice a1 m.length c1) w ⟨_,_,_,rfl⟩
 have hB1:Below w.heap.size w w1:=ak hb1
 have ql:=hC _ _ p1 k1
 generalize m.length=mn at *
 clear o1 k1 p1 hb1 hS hC
 go_wp2_with fail
 refine ql.mono ?_
 intro x w2 h2
 obtain⟨hb2,v2,rfl,o2⟩:=h2
 obtain⟨a2,c2,rfl⟩:=kS o2
 have kg:=fun w=>CG cc (.slice a2 nl.length c2) w ⟨_,_,_,rfl⟩
 have hB2:Below w.heap.size w w2:=ah hB1 hb2
 have HO:Hid (w2.ownsRow w.heap.size 110 2 (.slice a2 nl.length c2) nl.length ((fl nl).map (Value.int .i64))):=aF o2 hB1.size
 clear o2 hb2 ql kf
 go_wp2
 go_ret
 exact⟨a2,c2,rfl,hB2,HO.out⟩
theorem Ar(a b:Hd)(w:World):(binOp .neq 114 (.agg #[.int .i64 a.e,.int .i64 a.p,.int .i64 a.o,.int .i64 a.n,.int .i64 a.v]) (.agg #[.int .i64 b.e,.int .i64 b.p,.int .i64 b.o,.int .i64 b.n,.int .i64 b.v])).run Tryz.prog w = .ok (.bool (!hdQ a b)) w:=by
 unfold hdQ
 simp[go_sem]
 by_cases h:a.e=b.e<;>by_cases h1:a.p=b.p<;>by_cases h2:a.o=b.o<;>by_cases h3:a.n=b.n<;>by_cases h4:a.v=b.v<;>simp[h,h1,h2,h3,h4]
theorem rM{w:World}{b:Nat}{x0 x1 x2 x3 x4:Value}{t:TypeId}(h:w.heap[b]? = some (.cells #[x0,x1,x2,x3,x4] t)):w.cell? ⟨b,0,none⟩=some x0/\w.cell? ⟨b,1,none⟩=some x1/\w.cell? ⟨b,2,none⟩=some x2/\w.cell? ⟨b,3,none⟩=some x3/\w.cell? ⟨b,4,none⟩=some x4:=by
 simp[World.cell?,h]
theorem vF(v:Value)(l:Hdl)(w:World)(hv:Hds w v l)(hc:∀j,j<l.length->(hAt l j).c=0)(hx:l.length<=1048576):
  Calls Tryz.prog 67 #[v] w fun e w'=>e = .returned (.tuple #[.int .i64 (phL l),.int .i64 (smL l)])/\Below w.heap.size w w':=by
 obtain⟨a,c,rfl⟩:=hv.shape
 unfold phL smL
 rcases hn:l.length with _ | k
 ·have e1:l=[]:=List.eq_nil_of_length_eq_zero hn
  subst e1
  clear hv hc hx
  have e2:phA [] 0=1:=rfl
  have e3:smA [] 0=0:=rfl
  rw[e2,e3]
  go_enter Tryz.func67,Tryz.ntmps67
  go_wp2
  go_ret2
  exact⟨rfl,Below.refl _ _⟩
 ·rw[hn]at hv
  obtain⟨-,b,off,rfl,hb,hcc⟩:=hv.at (by omega)
  have hk:=hcc k (by omega)
  have e1:phA l (k+1)=(hAt l k).p:=rfl
  have e2:smA l (k+1)=(hAt l k).s:=rfl
  rw[e1,e2]
  have h0:=hc k (by omega)
  have hS:=fun w=>qW (hAt l k).e (hAt l k).p (hAt l k).o (hAt l k).n (hAt l k).v w
  have e3:hdC (hAt l k).e (hAt l k).p (hAt l k).o (hAt l k).n (hAt l k).v=0:=h0
  rw[CQ e3,e3]at hS
  have e4:hdS (hAt l k).e (hAt l k).p (hAt l k).o (hAt l k).n (hAt l k).v=(hAt l k).s:=rfl
  rw[e4]at hS
  obtain⟨d0,d1,d2,d3,d4⟩:=hk
  have hkl:k<=1048576:=by omega
  generalize (hAt l k).s=sm at *
  unfold hdV at hS
  generalize (hAt l k).e=x0 at *
  generalize (hAt l k).p=x1 at *
  generalize (hAt l k).o=x2 at *
  generalize (hAt l k).n=x3 at *
  generalize (hAt l k).v=x4 at *
  obtain⟨W,hW⟩:∃W,W=w.alloc (.cells #[.int .i64 x0,.int .i64 x1,.int .i64 x2,.int .i64 x3,.int .i64 x4] 114):=⟨_,rfl⟩
  have HW:Hid _:=hW.symm
  have HB:Hid (Below w.heap.size w W):=(by rw[hW];exact aj _:Below w.heap.size w W)
  have hH:W.heap[w.heap.size]? = some (.cells #[.int .i64 x0,.int .i64 x1,.int .i64 x2,.int .i64 x3,.int .i64 x4] 114):=by rw[hW];exact heap_alloc_new w _
  obtain⟨g0,g1,g2,g3,g4⟩:=rM hH
  have q0:=After.cell g0
  have q1:=After.cell g1
  have q2:=After.cell g2
  have q3:=After.cell g3
  have q4:=After.cell g4
  have hne:=After.ne W
  have kf:=fun w=>xO 0 sm w
  clear hv hcc hn hc hx h0 e1 e2 e3 e4 hW hH g0 g1 g2 g3 g4
  go_enter Tryz.func67,Tryz.ntmps67
  go_wp2_with fail
  rw[HW.out]
  refine au (by kernel_rfl) (by kernel_rfl) ?_
  repeat(first | go_big_quiet_skip |(go_big_quiet_want;go_big_quiet_op;first | go_big_quiet_on | go_big_quiet_call (first |(go_at_call 116;refine(hS _).mono ?_;rintro e wq ⟨rfl,hbq⟩;exact⟨rfl,aA (ah (After.b _) hbq)⟩))))
  refine wpQuiet_nil ?_
  rintro _ ⟨n6,rfl⟩
  have gI:Hid (Below w.heap.size w n6.w):=ah HB.out n6.b
  generalize n6.w=w6 at *
  clear hne q0 q1 q2 q3 q4 n6 hS HW
  go_wp2
  go_ret2
  exact⟨rfl,gI.out⟩
theorem WE{h:Hd}(hc:h.c=0):hdN h.e h.p h.v=true:=by
 have hok:=vZ hc
 unfold hdN
 rw[iJ hok.e0 hok.e1,iJ hok.p0 hok.p1,(bC h.v).2 ⟨hok.v0,hok.v1⟩]
 rfl
theorem zI(R:Rt)(hR:iZ R)(b off c b' off' c' n:Nat)(h:Hdl)(p:Pst)(w:World)(HN:Hid (n=h.length/\n=p.length))(hx:n<=1048576)(hb:b<w.heap.size)(hb':b'<w.heap.size)(hch:chF h=0)
  (hc:∀j,j<n->HdS w b (off+j*5) (hAt h j)) (hp:∀j,j<n->∃u,w.cell? ⟨b',off'+j,none⟩=some u/\Rcs w u (dAt p j)) (dZ:∀j,j<n->(dAt p j).length<=1048576/\Lbs (dAt p j))
  (hC:∀w',Below w.heap.size w w'->Calls Tryz.prog 114 #[.slice (some ⟨b,off,none⟩) n c] w' fun e w''=>e = .returned (.int .i64 0)/\Below w'.heap.size w' w'') :
  Calls Tryz.prog 66 #[.slice (some ⟨b,off,none⟩) n c,.slice (some ⟨b',off',none⟩) n c'] w fun e w'=>e = .returned (.int .i64 (dW R h p n 0))/\Below w.heap.size w w':=by
 obtain⟨q,hq⟩:∃q,q=dW R h p n 0:=⟨_,rfl⟩
 have HQ:Hid (dW R h p n 0=q):=hq.symm
 rw[←hq]
 clear hq
 have hC0:=hC w (Below.refl _ _)
 clear hC
 go_enter Tryz.func66,Tryz.ntmps66
 go_wp2_with fail
 refine hC0.mono ?_
 rintro e w0 ⟨rfl,hb0⟩
 clear hC0
 go_wp2
 go_loopw [22] (fun i wr=>∃k:Nat,k<=n/\i = .int .i64 k/\Hid (Below w.heap.size w wr)/\Hid (dW R h p (n - k) k=q)) (fun i _=>n - (intOf i).toNat)
 case atStart=>exact⟨0,Nat.zero_le _,rfl,hb0,HQ⟩
 case round=>
  obtain⟨k,hk,rfl,hB,HS⟩:=hrel
  clear hb0
  by_cases hkn:k<n
  ·have hki:(k:Int)<(n:Int):=by omega
   obtain⟨u,hu,hr⟩:=hp k hkn
   have d:=(hB.out.cell (p:=⟨b',off'+k,none⟩) hb').trans hu
   obtain⟨d0,d1,d2,d3,d4⟩:=(hc k hkn).below hB.out hb
   have hbr:b<wr.heap.size:=Nat.lt_of_lt_of_le hb hB.out.size
   have MJ:b'<wr.heap.size:=Nat.lt_of_lt_of_le hb' hB.out.size
   obtain⟨hx1,hl1⟩:=dZ k hkn
   have Yh:(hAt h k).c=0:=(pI hch).2 k (by have:=HN.out;omega)
   have hN1:=WE Yh
   have jM:Hid (n - k=(n - k - 1)+1):=(by omega:n - k=(n - k - 1)+1)
   have HF:Hid (¬aB (dAt p k)=0->q=aB (dAt p k)):=(fun h0=>by rw[←HS.out,jM.out];exact y7 h0:¬aB (dAt p k)=0->q=aB (dAt p k))
   have HO:Hid (aB (dAt p k)=0->hdQ (jX R (dAt p k) (hAt h k)) (hAt h k)=false->q=9):=(fun h0 h1=>by rw[←HS.out,jM.out];exact y8 h0 h1:aB (dAt p k)=0->hdQ (jX R (dAt p k) (hAt h k)) (hAt h k)=false->q=9)
   have HT:Hid (aB (dAt p k)=0->hdQ (jX R (dAt p k) (hAt h k)) (hAt h k)=true->dW R h p (n - k - 1) (k+1)=q):=(fun h0 h1=>by rw[←HS.out,jM.out];exact(BI h0 h1).symm:aB (dAt p k)=0->hdQ (jX R (dAt p k) (hAt h k)) (hAt h k)=true->dW R h p (n - k - 1) (k+1)=q)
   have hE:=Ar (jX R (dAt p k) (hAt h k)) (hAt h k)
   have hrw:=hr.below hB.out
   obtain⟨ua,uc,rfl⟩:=hr.shape
   obtain⟨W,hW⟩:∃W,W=(wr.alloc (.cells #[.slice ua (dAt p k).length uc] 36)).alloc (.cells #[.int .i64 (hAt h k).e,.int .i64 (hAt h k).p,.int .i64 (hAt h k).o,.int .i64 (hAt h k).n,.int .i64 (hAt h k).v] 114):=⟨_,rfl⟩
   have hBW:Below wr.heap.size wr W:=by rw[hW];exact aN _ _
   have vW:W.heap[wr.heap.size+1]? = some (.cells #[.int .i64 (hAt h k).e,.int .i64 (hAt h k).p,.int .i64 (hAt h k).o,.int .i64 (hAt h k).n,.int .i64 (hAt h k).v] 114):=by
    have h1:=heap_alloc_new (wr.alloc (.cells #[.slice ua (dAt p k).length uc] 36)) (.cells #[.int .i64 (hAt h k).e,.int .i64 (hAt h k).p,.int .i64 (hAt h k).o,.int .i64 (hAt h k).n,.int .i64 (hAt h k).v] 114)
    rw[World.size_alloc]at h1
    rw[hW]
    exact h1
   have hA:=fun h0=>AB _ (dAt p k) (hAt h k).e (hAt h k).p (hAt h k).v W (hrw.below hBW) hl1 (by omega) h0
   have hO:=fun h0=>CU _ (dAt p k) (hAt h k).e (hAt h k).p (hAt h k).v _ _ W (hrw.below hBW) hl1 (by omega) h0 hN1 (hR (bU (dAt p k)) (zx (dR h0)))
   have hfd:=fun h0=>UN (l:=dAt p k) (e:=(hAt h k).e) (p:=(hAt h k).p) (v:=(hAt h k).v) h0
   have bH:Hid (Below w.heap.size w W):=ah hB.out hBW
   have HW:Hid _:=hW.symm
   have DC:Hid (W.heap[wr.heap.size+1]? = some (.cells #[.int .i64 (hAt h k).e,.int .i64 (hAt h k).p,.int .i64 (hAt h k).o,.int .i64 (hAt h k).n,.int .i64 (hAt h k).v] 114)):=vW
   generalize hdQ (jX R (dAt p k) (hAt h k)) (hAt h k)=rb at *
   unfold jX ML at hE
   unfold hrV at hA hO
   dsimp only at hE
   generalize mM (hAt h k).p (R.o (bU (dAt p k)))=ko at *
   generalize mJ (hAt h k).p (R.n (bU (dAt p k)))=kn at *
   obtain⟨df,hdf⟩:∃df,df=aB (dAt p k):=⟨_,rfl⟩
   rw[←hdf]at HF HO HT hfd hO
   generalize (hAt h k).e=x0 at *
   generalize (hAt h k).p=x1 at *
   generalize (hAt h k).o=x2 at *
   generalize (hAt h k).n=x3 at *
   generalize (hAt h k).v=x4 at *
   generalize hfC (dAt p k) x0 x1 x4=fc at *
   generalize (dAt p k).length=m at *
   clear hW vW hc hp dZ hr hrw hu hdf Yh hN1 hBW
   by_cases h0:df=0
   ·subst h0
    have F6:=hO rfl
    have gY:=HO.out rfl
    have HT1:=HT.out rfl
    clear hA hO HO HT HF hfd
    cases rb
    ·have fK:Hid (q=9):=gY rfl
     clear HT1 gY
     go_wp2_with fail
     rw[HW.out]
     refine F6.mono ?_
     rintro e w1 ⟨rfl,hb1⟩
     have hlt:wr.heap.size+1<W.heap.size:=(Array.getElem?_eq_some_iff.1 DC.out).1
     have hlt1:wr.heap.size+1<w1.heap.size:=Nat.lt_of_lt_of_le hlt hb1.size
     obtain⟨j0,j1,j2,j3,j4⟩:=rM (((aj (.cells #[.int .i64 0,.int .i64 x0,.int .i64 x1,.int .i64 ko,.int .i64 kn,.int .i64 x4] 172)).block (wr.heap.size+1) hlt1).trans ((hb1.block (wr.heap.size+1) hlt).trans DC.out))
     have HB1:Hid (Below w.heap.size w w1):=ah bH.out hb1
     clear F6 hb1
     go_wp2
     go_ret
     exact⟨aC fK.out.symm,HB1.out.alloc HB1.out.size _⟩
    ·have fK:Hid (dW R h p (n - k - 1) (k+1)=q):=HT1 rfl
     clear HT1 gY
     go_wp2_with fail
     rw[HW.out]
     refine F6.mono ?_
     rintro e w1 ⟨rfl,hb1⟩
     have hlt:wr.heap.size+1<W.heap.size:=(Array.getElem?_eq_some_iff.1 DC.out).1
     have hlt1:wr.heap.size+1<w1.heap.size:=Nat.lt_of_lt_of_le hlt hb1.size
     obtain⟨j0,j1,j2,j3,j4⟩:=rM (((aj (.cells #[.int .i64 0,.int .i64 x0,.int .i64 x1,.int .i64 ko,.int .i64 kn,.int .i64 x4] 172)).block (wr.heap.size+1) hlt1).trans ((hb1.block (wr.heap.size+1) hlt).trans DC.out))
     have HB1:Hid (Below w.heap.size w w1):=ah bH.out hb1
     clear F6 hb1
     go_wp2
     go_roundw
     case rel=>exact⟨k+1,by omega,by go_num,HB1.out.alloc HB1.out.size _,by rw[show n - (k+1)=n - k - 1 by omega];exact fK⟩
     case measure=>simp[intOf];omega
   ·have e1:=hfd h0
    subst e1
    have hA1:=hA h0
    have fK:Hid (q=fc):=HF.out h0
    have hnz:(fc != 0)=true:=by simpa using h0
    clear hA hO HO HT HF h0 hfd
    go_wp2_with fail
    rw[HW.out]
    refine hA1.mono ?_
    rintro e w1 ⟨rfl,hb1⟩
    have HB1:Hid (Below w.heap.size w w1):=ah bH.out hb1
    clear hA1 hb1
    go_wp2
    go_ret
    exact⟨aC fK.out.symm,HB1.out.alloc HB1.out.size _⟩
  ·have hkn:k=n:=by omega
   subst hkn
   have e0:Hid (q=0):=(by rw[←HS.out,Nat.sub_self];rfl:q=0)
   clear hc hp dZ
   go_wp2
   go_ret
   exact⟨aC e0.out.symm,hB.out⟩
theorem mD(R:Rt)(hR:iZ R)(vh vp:Value)(h:Hdl)(p:Pst)(w:World)(hh:Hds w vh h)(hp:Dss w vp p)(hx:h.length<=1048576)(hy:p.length<=1048576)(dZ:∀j,j<p.length->(dAt p j).length<=1048576/\Lbs (dAt p j)):
  Calls Tryz.prog 66 #[vh,vp] w fun e w'=>e = .returned (.int .i64 (eY R h p))/\Below w.heap.size w w':=by
 have hC:=fun w' hb=>wB vh h w' (hh.below (w':=w') hb) (by omega)
 unfold eY
 by_cases h0:chF h=0
 ·rw[if_pos h0]
  obtain⟨a,c,rfl⟩:=hh.shape
  obtain⟨a',c',rfl⟩:=hp.shape
  by_cases h1:p.length=h.length
  ·rw[if_pos h1]
   by_cases h2:0<p.length
   ·obtain⟨_,b,off,rfl,hb,hc⟩:=hh.at (by omega)
    obtain⟨_,b',off',rfl,hb',hc'⟩:=hp.at h2
    rw[h0,←h1]at hC
    rw[←h1]
    exact zI R hR b off c b' off' c' p.length h p w ⟨h1,rfl⟩ hy hb hb' h0 (fun j hj=>hc j (by omega)) hc' dZ hC
   ·have e1:p=[]:=List.eq_nil_of_length_eq_zero (by omega)
    have e2:h=[]:=List.eq_nil_of_length_eq_zero (by omega)
    subst e1 e2
    have hC0:=hC w (Below.refl _ _)
    rw[h0]at hC0
    have e3:dW R [] [] ([]:Pst).length 0=0:=rfl
    rw[e3]
    simp only[List.length_nil]at *
    clear hC dZ hh hp h0 h1 h2 e3
    go_enter Tryz.func66,Tryz.ntmps66
    go_wp2_with fail
    refine hC0.mono ?_
    rintro e w0 ⟨rfl,hb0⟩
    clear hC0
    go_wp2
    refine wp_loop_rounds 1 ?_;rw[rounds_succ]
    go_wp2
    go_ret
    exact⟨rfl,hb0⟩
  ·rw[if_neg h1]
   have hC0:=hC w (Below.refl _ _)
   rw[h0]at hC0
   have hnb:(((p.length:Nat):Int) !=((h.length:Nat):Int))=true:=by simp;omega
   generalize p.length=n at *
   generalize h.length=k at *
   clear hC dZ hh hp h0 h1
   go_enter Tryz.func66,Tryz.ntmps66
   go_wp2_with fail
   refine hC0.mono ?_
   rintro e w0 ⟨rfl,hb0⟩
   clear hC0
   go_wp2
   go_ret
   exact⟨rfl,hb0⟩
 ·rw[if_neg h0]
  have hC0:=hC w (Below.refl _ _)
  have hnz:(chF h != 0)=true:=by simpa using h0
  obtain⟨a,c,rfl⟩:=hh.shape
  obtain⟨a',c',rfl⟩:=hp.shape
  generalize p.length=n at *
  generalize h.length=k at *
  generalize chF h=q at *
  clear hC dZ hh hp h0
  go_enter Tryz.func66,Tryz.ntmps66
  go_wp2_with fail
  refine hC0.mono ?_
  rintro e w0 ⟨rfl,hb0⟩
  clear hC0
  go_wp2
  go_ret
  exact⟨rfl,hb0⟩
end U
end Go.Proofs.YtmmcgjacojgeaaaGreat
