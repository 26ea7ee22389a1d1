/- Joined: what the texts behind it need. -/
import Derived.Test.YtmnfokgllcdiiaaGreatYBD
import Derived.Test.YtmnfokgllcdiiaaGreatYBC
import Derived.Test.YtmnfokgllcdiiaaGreatYBB
set_option maxRecDepth 100000
set_option maxHeartbeats 4000000
namespace Go.Proofs.YtmnfokgllcdiiaaGreat
open Go.RowKit
namespace U
def prB(p q:Int × Int):Bool:=(p.1==q.1)&&(p.2==q.2)
theorem yc(p q:Int × Int):prB p q=true↔p=q:=by
 obtain⟨a,b⟩:=p
 obtain⟨c,d⟩:=q
 unfold prB
 simp only[Bool.and_eq_true,beq_iff_eq,Prod.mk.injEq]
theorem xJ(p q:Int × Int)(w:World):(binOp .neq 63 (.agg #[.int .i64 p.1,.int .i64 p.2]) (.agg #[.int .i64 q.1,.int .i64 q.2])).run Tryz.prog w = .ok (.bool (!prB p q)) w:=by
 unfold prB
 simp[go_sem]
 by_cases h:p.1=q.1<;>by_cases h1:p.2=q.2<;>simp[h,h1]
def PrC(w:World)(b off n:Nat)(l:Prl):Prop:=∀j,j<n->w.cell? ⟨b,off+j*2,none⟩=some (.int .i64 (pAt l j).1)/\w.cell? ⟨b,off+j*2+1,none⟩=some (.int .i64 (pAt l j).2)
theorem Qv(b off c b' off' c' n:Nat)(l m:Prl)(w:World)(HN:Hid (n=l.length/\n=m.length))(hx:n<=1048576)(hb:b<w.heap.size)(hb':b'<w.heap.size)(hc:PrC w b off n l)(hc':PrC w b' off' n m):
  Calls Tryz.prog 111 #[.slice (some ⟨b,off,none⟩) n c,.slice (some ⟨b',off',none⟩) n c'] w fun e w'=>e = .returned (.bool (eqP l m))/\Below w.heap.size w w':=by
 have hnn:=dA
 go_enter Tryz.func111,Tryz.ntmps111
 go_wp2
 go_loopw [13] (fun i wr=>∃k:Nat,k<=n/\i = .int .i64 k/\Hid (Below w.heap.size w wr)/\Hid (∀j,j<k->prB (pAt l j) (pAt m j)=true)) (fun i _=>n - (intOf i).toNat)
 case atStart=>exact⟨0,Nat.zero_le _,rfl,Below.refl _ _,fun j hj=>by omega⟩
 case round=>
  obtain⟨k,hk,rfl,hB,HA⟩:=hrel
  by_cases hkn:k<n
  ·have hki:(k:Int)<(n:Int):=by omega
   obtain⟨e0,e1⟩:=hc k hkn
   obtain⟨e0',e1'⟩:=hc' k hkn
   have d0:=(hB.out.cell (p:=⟨b,off+k*2,none⟩) hb).trans e0
   have d1:=(hB.out.cell (p:=⟨b,off+k*2+1,none⟩) hb).trans e1
   have d0':=(hB.out.cell (p:=⟨b',off'+k*2,none⟩) hb').trans e0'
   have d1':=(hB.out.cell (p:=⟨b',off'+k*2+1,none⟩) hb').trans e1'
   have hE:=xJ (pAt l k) (pAt m k)
   have fC:Hid (prB (pAt l k) (pAt m k)=false->eqP l m=false):=(fun h=>O9 (k:=k) (fun e=>by rw[(yc _ _).2 e]at h;cases h):prB (pAt l k) (pAt m k)=false->eqP l m=false)
   have Gl:Hid (prB (pAt l k) (pAt m k)=true->∀j,j<k+1->prB (pAt l j) (pAt m j)=true):=(fun h j hj=>by
    by_cases e:j=k
    ·subst e;exact h
    ·exact HA.out j (by omega):prB (pAt l k) (pAt m k)=true->∀j,j<k+1->prB (pAt l j) (pAt m j)=true)
   generalize prB (pAt l k) (pAt m k)=rb at *
   generalize (pAt l k).1=x0 at *
   generalize (pAt l k).2=x1 at *
   generalize (pAt m k).1=y0 at *
   generalize (pAt m k).2=y1 at *
   clear hc hc' e0 e1 e0' e1'
   cases rb
   ·have HQ:Hid (eqP l m=false):=fC.out rfl
    clear fC Gl
    go_wp2
    go_quiet (fail)
    go_wp2
    go_ret
    exact⟨aO HQ.out.symm,below_drewN hB.out _⟩
   ·have HQ:Hid (∀j,j<k+1->prB (pAt l j) (pAt m j)=true):=Gl.out rfl
    clear fC Gl
    go_wp2
    go_quiet (fail)
    go_wp2
    go_roundw
    case rel=>exact⟨k+1,by omega,by go_num,below_drewN hB.out _,HQ⟩
    case measure=>simp[intOf];omega
  ·have hkn:k=n:=by omega
   subst hkn
   have HQ:Hid (eqP l m=true):=Lr (by rw[←HN.out.1,←HN.out.2]) (fun j hj=>(yc _ _).1 (HA.out j (by rw[HN.out.1];exact hj)))
   clear hc hc'
   go_wp2
   go_ret
   exact⟨aO HQ.out.symm,hB.out⟩
theorem uP(v u:Value)(l m:Prl)(w:World)(hv:Prs w v l)(hu:Prs w u m)(hx:l.length<=1048576)(hy:m.length<=1048576):
  Calls Tryz.prog 111 #[v,u] w fun e w'=>e = .returned (.bool (eqP l m))/\Below w.heap.size w w':=by
 obtain⟨a,c,rfl⟩:=hv.shape
 obtain⟨a',c',rfl⟩:=hu.shape
 by_cases hlm:l.length=m.length
 ·rw[←hlm]at hu ⊢
  by_cases h0:0<l.length
  ·obtain⟨_,b,off,rfl,hb,hc⟩:=hv.at h0
   obtain⟨_,b',off',rfl,hb',hc'⟩:=hu.at (by omega)
   exact Qv b off c b' off' c' l.length l m w ⟨rfl,hlm⟩ hx hb hb' hc (fun j hj=>hc' j (by omega))
  ·have e1:l=[]:=List.eq_nil_of_length_eq_zero (by omega)
   have e2:m=[]:=List.eq_nil_of_length_eq_zero (by omega)
   subst e1 e2
   have e3:eqP [] []=true:=rfl
   rw[e3]
   simp only[List.length_nil]at *
   clear hv hu h0 hlm
   go_enter Tryz.func111,Tryz.ntmps111
   go_wp2
   refine wp_loop_rounds 1 ?_;rw[rounds_succ]
   go_wp2
   go_ret
   exact⟨rfl,Below.refl _ _⟩
 ·rw[Lp hlm]
  have hnb:(((l.length:Nat):Int) !=((m.length:Nat):Int))=true:=by simp;omega
  generalize l.length=n at *
  generalize m.length=k at *
  clear hv hu hlm
  go_enter Tryz.func111,Tryz.ntmps111
  go_wp2
  go_ret
  exact⟨rfl,Below.refl _ _⟩
theorem yI(b off c b' off' c' n:Nat)(l m:Prl)(w:World)(HN:Hid (n=l.length/\n=m.length))(hx:n<=1048576)(hb:b<w.heap.size)(hb':b'<w.heap.size)(hc:PrC w b off n l)(hc':PrC w b' off' n m):
  Calls Tryz.prog 185 #[.slice (some ⟨b,off,none⟩) n c,.slice (some ⟨b',off',none⟩) n c'] w fun e w'=>e = .returned (.bool (eqP l m))/\Below w.heap.size w w':=by
 have hnn:=dA
 go_enter Tryz.func185,Tryz.ntmps185
 go_wp2
 go_loopw [5] (fun i wr=>∃k:Nat,k<=n/\i = .int .i64 k/\Hid (Below w.heap.size w wr)/\Hid (∀j,j<k->prB (pAt l j) (pAt m j)=true)) (fun i _=>n - (intOf i).toNat)
 case atStart=>exact⟨0,Nat.zero_le _,rfl,Below.refl _ _,fun j hj=>by omega⟩
 case round=>
  obtain⟨k,hk,rfl,hB,HA⟩:=hrel
  by_cases hkn:k<n
  ·have hki:(k:Int)<(n:Int):=by omega
   obtain⟨e0,e1⟩:=hc k hkn
   obtain⟨e0',e1'⟩:=hc' k hkn
   have d0:=(hB.out.cell (p:=⟨b,off+k*2,none⟩) hb).trans e0
   have d1:=(hB.out.cell (p:=⟨b,off+k*2+1,none⟩) hb).trans e1
   have d0':=(hB.out.cell (p:=⟨b',off'+k*2,none⟩) hb').trans e0'
   have d1':=(hB.out.cell (p:=⟨b',off'+k*2+1,none⟩) hb').trans e1'
   have hE:=xJ (pAt l k) (pAt m k)
   have fC:Hid (prB (pAt l k) (pAt m k)=false->eqP l m=false):=(fun h=>O9 (k:=k) (fun e=>by rw[(yc _ _).2 e]at h;cases h):prB (pAt l k) (pAt m k)=false->eqP l m=false)
   have Gl:Hid (prB (pAt l k) (pAt m k)=true->∀j,j<k+1->prB (pAt l j) (pAt m j)=true):=(fun h j hj=>by
    by_cases e:j=k
    ·subst e;exact h
    ·exact HA.out j (by omega):prB (pAt l k) (pAt m k)=true->∀j,j<k+1->prB (pAt l j) (pAt m j)=true)
   generalize prB (pAt l k) (pAt m k)=rb at *
   generalize (pAt l k).1=x0 at *
   generalize (pAt l k).2=x1 at *
   generalize (pAt m k).1=y0 at *
   generalize (pAt m k).2=y1 at *
   clear hc hc' e0 e1 e0' e1'
   cases rb
   ·have HQ:Hid (eqP l m=false):=fC.out rfl
    clear fC Gl
    go_wp2
    go_quiet (fail)
    go_wp2
    go_ret
    exact⟨aO HQ.out.symm,below_drewN hB.out _⟩
   ·have HQ:Hid (∀j,j<k+1->prB (pAt l j) (pAt m j)=true):=Gl.out rfl
    clear fC Gl
    go_wp2
    go_quiet (fail)
    go_wp2
    go_roundw
    case rel=>exact⟨k+1,by omega,by go_num,below_drewN hB.out _,HQ⟩
    case measure=>simp[intOf];omega
  ·have hkn:k=n:=by omega
   subst hkn
   have HQ:Hid (eqP l m=true):=Lr (by rw[←HN.out.1,←HN.out.2]) (fun j hj=>(yc _ _).1 (HA.out j (by rw[HN.out.1];exact hj)))
   clear hc hc'
   go_wp2
   go_ret
   exact⟨aO HQ.out.symm,hB.out⟩
theorem Am(v u:Value)(l m:Prl)(w:World)(hv:Prs w v l)(hu:Prs w u m)(hx:l.length<=1048576)(hy:m.length<=1048576):
  Calls Tryz.prog 185 #[v,u] w fun e w'=>e = .returned (.bool (eqP l m))/\Below w.heap.size w w':=by
 obtain⟨a,c,rfl⟩:=hv.shape
 obtain⟨a',c',rfl⟩:=hu.shape
 by_cases hlm:l.length=m.length
 ·rw[←hlm]at hu ⊢
  by_cases h0:0<l.length
  ·obtain⟨_,b,off,rfl,hb,hc⟩:=hv.at h0
   obtain⟨_,b',off',rfl,hb',hc'⟩:=hu.at (by omega)
   exact yI b off c b' off' c' l.length l m w ⟨rfl,hlm⟩ hx hb hb' hc (fun j hj=>hc' j (by omega))
  ·have e1:l=[]:=List.eq_nil_of_length_eq_zero (by omega)
   have e2:m=[]:=List.eq_nil_of_length_eq_zero (by omega)
   subst e1 e2
   have e3:eqP [] []=true:=rfl
   rw[e3]
   simp only[List.length_nil]at *
   clear hv hu h0 hlm
   go_enter Tryz.func185,Tryz.ntmps185
   go_wp2
   refine wp_loop_rounds 1 ?_;rw[rounds_succ]
   go_wp2
   go_ret
   exact⟨rfl,Below.refl _ _⟩
 ·rw[Lp hlm]
  have hnb:(((l.length:Nat):Int) !=((m.length:Nat):Int))=true:=by simp;omega
  generalize l.length=n at *
  generalize m.length=k at *
  clear hv hu hlm
  go_enter Tryz.func185,Tryz.ntmps185
  go_wp2
  go_ret
  exact⟨rfl,Below.refl _ _⟩
structure Rt where
 o:Prl->Int
 n:Prl->Int
def gJ(R:Rt):Prop:=∀l,slF l=0->lU l (R.o l) (R.n l)
theorem Xu:∃R,gJ R:=by
 have h1:∀l:Prl,∃q:Int × Int,slF l=0->lU l q.1 q.2:=fun l=>by
  by_cases h:slF l=0
  ·obtain⟨o,n,hr⟩:=Sj l h
   exact⟨(o,n),fun _=>hr⟩
  ·exact⟨(0,0),fun h'=>absurd h' h⟩
 refine⟨⟨fun l=>(Classical.choose (h1 l)).1,fun l=>(Classical.choose (h1 l)).2⟩,fun l h=>Classical.choose_spec (h1 l) h⟩
def newL(d:Rcl)(cu:Int):Prl:=cut (aB d) 0 cu
def cuB(ph cu:Int):Bool:=if ph=1 then cu==0 else if ph=5 then cu==0 else if ph=2 then inB cu 0 255 else cu==256
theorem Qe(d:Rcl):newL d 0=[]:=by
 unfold newL cut
 rw[List.filter_eq_nil_iff]
 intro p _
 simp only[Bool.and_eq_true,decide_eq_true_eq]
 omega
theorem qQ(d:Rcl)(cu:Int):(newL d cu).length<=d.length:=by
 unfold newL
 have:=eu (aB d) 0 cu
 rw[vV]at this
 exact this
theorem Bd{ph cu:Int}(h:cuB ph cu=true):0<=cu/\cu<=256:=by
 unfold cuB at h
 split at h
 ·have:cu=0:=by simpa using h
  omega
 ·split at h
  ·have:cu=0:=by simpa using h
   omega
  ·split at h
   ·have:=iw h
    omega
   ·have:cu=256:=by simpa using h
    omega
def Np(R:Rt)(l:Rcl)(e p v:Int):Hd:=⟨e,p,nG p (R.o (aB l)),nD p (R.n (aB l)),v⟩
def jZ(R:Rt)(l:Rcl)(h:Hd):Hd:=Np R l h.e h.p h.v
def eF(R:Rt)(h:Hdl)(p:Pst):Nat->Nat->Int
 | 0,_=>0
 | f+1,i=>if aI (dAt p i)=0 then(if hdQ (jZ R (dAt p i) (hAt h i)) (hAt h i)=true then eF R h p f (i+1)else 9)else aI (dAt p i)
theorem zh{R:Rt}{h:Hdl}{p:Pst}{f i:Nat}(h0:¬aI (dAt p i)=0):eF R h p (f+1) i=aI (dAt p i):=by rw[eF,if_neg h0]
theorem zi{R:Rt}{h:Hdl}{p:Pst}{f i:Nat}(h0:aI (dAt p i)=0)(h1:hdQ (jZ R (dAt p i) (hAt h i)) (hAt h i)=false):eF R h p (f+1) i=9:=by rw[eF,if_pos h0,h1];rfl
theorem CJ{R:Rt}{h:Hdl}{p:Pst}{f i:Nat}(h0:aI (dAt p i)=0)(h1:hdQ (jZ R (dAt p i) (hAt h i)) (hAt h i)=true):eF R h p (f+1) i=eF R h p f (i+1):=by rw[eF,if_pos h0,if_pos h1]
def eX(R:Rt)(h:Hdl)(p:Pst):Int:=if chF h=0 then(if p.length=h.length then eF R h p p.length 0 else 2)else chF h
def phL(h:Hdl):Int:=phA h h.length
def smL(h:Hdl):Int:=smA h h.length
def stN(s:St):Bool:=cuB s.ph s.cu&&eqP s.n (newL s.d s.cu)
def stF(R:Rt)(s:St):Int:=if inB s.ph 1 5=true then(if aI s.d=0 then(if stN s=true then(if eX R s.h s.p=0 then(if iD (phL s.h) s.ph=true then 0 else 10)else eX R s.h s.p)else 1)else aI s.d)else 3
theorem JH{R:Rt}{s:St}(h:inB s.ph 1 5=false):stF R s=3:=by unfold stF;rw[h];rfl
theorem DY{R:Rt}{s:St}(h:inB s.ph 1 5=true)(h1:¬aI s.d=0):stF R s=aI s.d:=by unfold stF;rw[if_pos h,if_neg h1]
theorem uS{R:Rt}{s:St}(h:inB s.ph 1 5=true)(h1:aI s.d=0)(h2:stN s=false):stF R s=1:=by unfold stF;rw[if_pos h,if_pos h1,h2];rfl
theorem D5{R:Rt}{s:St}(h:inB s.ph 1 5=true)(h1:aI s.d=0)(h2:stN s=true)(h3:¬eX R s.h s.p=0):stF R s=eX R s.h s.p:=by unfold stF;rw[if_pos h,if_pos h1,if_pos h2,if_neg h3]
theorem DZ{R:Rt}{s:St}(h:inB s.ph 1 5=true)(h1:aI s.d=0)(h2:stN s=true)(h3:eX R s.h s.p=0)(h4:iD (phL s.h) s.ph=false):stF R s=10:=by unfold stF;rw[if_pos h,if_pos h1,if_pos h2,if_pos h3,h4];rfl
theorem JG{R:Rt}{s:St}(h:inB s.ph 1 5=true)(h1:aI s.d=0)(h2:stN s=true)(h3:eX R s.h s.p=0)(h4:iD (phL s.h) s.ph=true):stF R s=0:=by unfold stF;rw[if_pos h,if_pos h1,if_pos h2,if_pos h3,if_pos h4]
structure Gs(R:Rt)(s:St):Prop where
 ph:inB s.ph 1 5=true
 d:aI s.d=0
 cu:cuB s.ph s.cu=true
 n:s.n=newL s.d s.cu
 his:eX R s.h s.p=0
 fol:iD (phL s.h) s.ph=true
theorem uT{R:Rt}{s:St}(h:stF R s=0):Gs R s:=by
 rcases Bool.eq_false_or_eq_true (inB s.ph 1 5)with h1 | h1
 ·by_cases h2:aI s.d=0
  ·rcases Bool.eq_false_or_eq_true (stN s)with h3 | h3
   ·by_cases h4:eX R s.h s.p=0
    ·rcases Bool.eq_false_or_eq_true (iD (phL s.h) s.ph)with h5 | h5
     ·have h6:=h3
      unfold stN at h6
      rw[Bool.and_eq_true]at h6
      exact⟨h1,h2,h6.1,Ug.1 h6.2,h4,h5⟩
     ·rw[DZ h1 h2 h3 h4 h5]at h;omega
    ·rw[D5 h1 h2 h3 h4]at h;exact absurd h h4
   ·rw[uS h1 h2 h3]at h;omega
  ·rw[DY h1 h2]at h;exact absurd h h2
 ·rw[JH h1]at h;omega
theorem EI{l:Hdl}:∀f i,dK l f i=0->∀j,i<=j->j<i+f->(hAt l j).c=0/\jK l j=0
 | 0,i,_,j,h1,h2=>by omega
 | f+1,i,h,j,h1,h2=>by
  rw[dK]at h
  by_cases hc:(hAt l i).c=0
  ·rw[if_pos hc]at h
   by_cases hk:jK l i=0
   ·rw[if_pos hk]at h
    by_cases hj:j=i
    ·subst hj;exact⟨hc,hk⟩
    ·exact EI f (i+1) h j (by omega) (by omega)
   ·rw[if_neg hk]at h;exact absurd h hk
  ·rw[if_neg hc]at h;exact absurd h hc
theorem pY{l:Hdl}(h:chF l=0):l.length<=10/\∀j,j<l.length->(hAt l j).c=0:=by
 by_cases h1:10<l.length
 ·rw[tC h1]at h;omega
 ·rw[zB h1]at h
  exact⟨by omega,fun j hj=>(EI _ _ h j (Nat.zero_le _) (by omega)).1⟩
theorem sU{R:Rt}{h:Hdl}{p:Pst}(h0:eX R h p=0):chF h=0/\p.length=h.length:=by
 unfold eX at h0
 by_cases h1:chF h=0
 ·rw[if_pos h1]at h0
  by_cases h2:p.length=h.length
  ·exact⟨h1,h2⟩
  ·rw[if_neg h2]at h0;omega
 ·rw[if_neg h1]at h0;exact absurd h0 h1
theorem Ql{h:Hdl}(h0:chF h=0):inB (phL h) 1 5=true:=by
 obtain⟨h1,h2⟩:=pY h0
 unfold phL
 rcases hn:h.length with _ | k
 ·rfl
 ·have:=wE (h2 k (by omega))
  exact jd this.p0 this.p1
theorem EJ{R:Rt}{h:Hdl}{p:Pst}:∀f i,eF R h p f i=0->∀j,i<=j->j<i+f->aI (dAt p j)=0
 | 0,i,_,j,h1,h2=>by omega
 | f+1,i,h0,j,h1,h2=>by
  rw[eF]at h0
  by_cases hc:aI (dAt p i)=0
  ·rw[if_pos hc]at h0
   by_cases hk:hdQ (jZ R (dAt p i) (hAt h i)) (hAt h i)=true
   ·rw[if_pos hk]at h0
    by_cases hj:j=i
    ·subst hj;exact hc
    ·exact EJ f (i+1) h0 j (by omega) (by omega)
   ·rw[if_neg hk]at h0;omega
  ·rw[if_neg hc]at h0;exact absurd h0 hc
theorem PE{R:Rt}{h:Hdl}{p:Pst}(h0:eX R h p=0):∀j,j<p.length->aI (dAt p j)=0:=by
 obtain⟨h1,h2⟩:=sU h0
 unfold eX at h0
 rw[if_pos h1,if_pos h2]at h0
 exact fun j hj=>EJ _ _ h0 j (Nat.zero_le _) (by omega)
theorem DR(ph cu:Int)(w:World):Calls Tryz.prog 110 #[.int .i64 ph,.int .i64 cu] w fun e w'=>e = .returned (.bool (cuB ph cu))/\w'=w:=by
 unfold cuB
 by_cases h1:ph=1
 ·subst h1
  rw[if_pos rfl]
  go_enter Tryz.func110,Tryz.ntmps110
  go_wp2
  go_ret
  exact⟨rfl,rfl⟩
 ·rw[if_neg h1]
  by_cases h5:ph=5
  ·subst h5
   rw[if_pos rfl]
   go_enter Tryz.func110,Tryz.ntmps110
   go_wp2
   go_ret
   exact⟨rfl,rfl⟩
  ·rw[if_neg h5]
   by_cases h2:ph=2
   ·subst h2
    rw[if_pos rfl]
    by_cases k1:0<=cu
    ·by_cases k2:cu<=255
     ·rw[jd k1 k2]
      go_enter Tryz.func110,Tryz.ntmps110
      go_wp2
      go_ret
      exact⟨aO (by simp;omega),rfl⟩
     ·rw[lC (Or.inr (by omega))]
      go_enter Tryz.func110,Tryz.ntmps110
      go_wp2
      go_ret
      exact⟨aO (by simp<;>omega),rfl⟩
    ·rw[lC (Or.inl (by omega))]
     go_enter Tryz.func110,Tryz.ntmps110
     go_wp2
     go_ret
     exact⟨aO (by simp<;>omega),rfl⟩
   ·rw[if_neg h2]
    go_enter Tryz.func110,Tryz.ntmps110
    go_wp2
    go_ret
    exact⟨rfl,rfl⟩
theorem Ue{l:Prl}{a b:Int}(h:slF l=0)(h1:tJ a b=true):csL l a b=cut l a b:=by unfold csL;rw[if_pos ⟨h,h1⟩]
theorem OZ{cu:Int}(h:0<=cu/\cu<=256):tJ 0 cu=true:=by
 unfold tJ
 rw[jd (by omega) (by omega),jd h.1 h.2]
 rfl
theorem nI(u:Value)(l:Rcl)(cu:Int)(w:World)(hv:Rcs w u l)(h0:aI l=0)(rH:0<=cu/\cu<=256):
  Calls Tryz.prog 54 #[.agg #[u],.int .i64 cu] w fun e w'=>∃a c,e = .returned (.slice a (newL l cu).length c)/\Below w.heap.size w w'/\w'.ownsRow w.heap.size 63 2 (.slice a (newL l cu).length c) (newL l cu).length ((fl (newL l cu)).map (Value.int .i64)):=by
 have hok:=dP h0
 have hlen:=hok.len
 have hS:=fun o=>gW u l (w.alloc o) (hv.below (aj _)) hok.lbs (by omega)
 have e1:sfL l=aB l:=by unfold sfL;rw[if_pos h0]
 rw[e1,h0]at hS
 have hsl:=nR hok
 have hC:=fun v w' (hp:Prs w' v (aB l)) (ho:Okv v)=>Ag v (aB l) 0 cu w' hp ho (by rw[vV];omega)
 rw[Ue hsl (OZ rH)]at hC
 have e2:cut (aB l) 0 cu=newL l cu:=rfl
 rw[e2]at hC
 generalize csC (aB l) 0 cu=cc at *
 generalize newL l cu=nl at *
 obtain⟨a,c,rfl⟩:=hv.shape
 generalize aB l=m at *
 generalize l.length=k at *
 clear hv h0 e1 hok e2 hsl
 go_enter Tryz.func54,Tryz.ntmps54
 go_wp2_with fail
 refine(hS _).mono ?_
 intro x w1 h1
 obtain⟨hb1,v1,rfl,o1⟩:=h1
 obtain⟨a1,c1,rfl⟩:=lg o1
 have p1:=aP o1
 have k1:=jW o1
 have kf:=fun w=>Du 0 (.slice a1 m.length c1) w ⟨_,_,_,rfl⟩
 have hB1:Below w.heap.size w w1:=ak hb1
 have Bv:=hC _ _ p1 k1
 generalize m.length=mn at *
 clear o1 k1 p1 hb1 hS hC
 go_wp2_with fail
 refine Bv.mono ?_
 intro x w2 h2
 obtain⟨hb2,v2,rfl,o2⟩:=h2
 obtain⟨a2,c2,rfl⟩:=lg o2
 have kg:=fun w=>Du cc (.slice a2 nl.length c2) w ⟨_,_,_,rfl⟩
 have hB2:Below w.heap.size w w2:=ah hB1 hb2
 have HO:Hid (w2.ownsRow w.heap.size 63 2 (.slice a2 nl.length c2) nl.length ((fl nl).map (Value.int .i64))):=aS o2 hB1.size
 clear o2 hb2 Bv kf
 go_wp2
 go_ret
 exact⟨a2,c2,rfl,hB2,HO.out⟩
theorem BA(a b:Hd)(w:World):(binOp .neq 136 (.agg #[.int .i64 a.e,.int .i64 a.p,.int .i64 a.o,.int .i64 a.n,.int .i64 a.v]) (.agg #[.int .i64 b.e,.int .i64 b.p,.int .i64 b.o,.int .i64 b.n,.int .i64 b.v])).run Tryz.prog w = .ok (.bool (!hdQ a b)) w:=by
 unfold hdQ
 simp[go_sem]
 by_cases h:a.e=b.e<;>by_cases h1:a.p=b.p<;>by_cases h2:a.o=b.o<;>by_cases h3:a.n=b.n<;>by_cases h4:a.v=b.v<;>simp[h,h1,h2,h3,h4]
theorem su{w:World}{b:Nat}{x0 x1 x2 x3 x4:Value}{t:TypeId}(h:w.heap[b]? = some (.cells #[x0,x1,x2,x3,x4] t)):w.cell? ⟨b,0,none⟩=some x0/\w.cell? ⟨b,1,none⟩=some x1/\w.cell? ⟨b,2,none⟩=some x2/\w.cell? ⟨b,3,none⟩=some x3/\w.cell? ⟨b,4,none⟩=some x4:=by
 simp[World.cell?,h]
theorem vP(v:Value)(l:Hdl)(w:World)(hv:Hds w v l)(hc:∀j,j<l.length->(hAt l j).c=0)(hx:l.length<=1048576):
  Calls Tryz.prog 113 #[v] w fun e w'=>e = .returned (.tuple #[.int .i64 (phL l),.int .i64 (smL l)])/\Below w.heap.size w w':=by
 obtain⟨a,c,rfl⟩:=hv.shape
 unfold phL smL
 rcases hn:l.length with _ | k
 ·have e1:l=[]:=List.eq_nil_of_length_eq_zero hn
  subst e1
  clear hv hc hx
  have e2:phA [] 0=1:=rfl
  have e3:smA [] 0=0:=rfl
  rw[e2,e3]
  go_enter Tryz.func113,Tryz.ntmps113
  go_wp2
  go_ret2
  exact⟨rfl,Below.refl _ _⟩
 ·rw[hn]at hv
  obtain⟨-,b,off,rfl,hb,hcc⟩:=hv.at (by omega)
  have hk:=hcc k (by omega)
  have e1:phA l (k+1)=(hAt l k).p:=rfl
  have e2:smA l (k+1)=(hAt l k).s:=rfl
  rw[e1,e2]
  have h0:=hc k (by omega)
  have hS:=fun w=>rM (hAt l k).e (hAt l k).p (hAt l k).o (hAt l k).n (hAt l k).v w
  have e3:hdC (hAt l k).e (hAt l k).p (hAt l k).o (hAt l k).n (hAt l k).v=0:=h0
  rw[Dx e3,e3]at hS
  have e4:hdS (hAt l k).e (hAt l k).p (hAt l k).o (hAt l k).n (hAt l k).v=(hAt l k).s:=rfl
  rw[e4]at hS
  obtain⟨d0,d1,d2,d3,d4⟩:=hk
  have hkl:k<=1048576:=by omega
  generalize (hAt l k).s=sm at *
  unfold hdV at hS
  generalize (hAt l k).e=x0 at *
  generalize (hAt l k).p=x1 at *
  generalize (hAt l k).o=x2 at *
  generalize (hAt l k).n=x3 at *
  generalize (hAt l k).v=x4 at *
  obtain⟨W,hW⟩:∃W,W=w.alloc (.cells #[.int .i64 x0,.int .i64 x1,.int .i64 x2,.int .i64 x3,.int .i64 x4] 136):=⟨_,rfl⟩
  have HW:Hid _:=hW.symm
  have HB:Hid (Below w.heap.size w W):=(by rw[hW];exact aj _:Below w.heap.size w W)
  have hH:W.heap[w.heap.size]? = some (.cells #[.int .i64 x0,.int .i64 x1,.int .i64 x2,.int .i64 x3,.int .i64 x4] 136):=by rw[hW];exact heap_alloc_new w _
  obtain⟨g0,g1,g2,g3,g4⟩:=su hH
  have q0:=After.cell g0
  have q1:=After.cell g1
  have q2:=After.cell g2
  have q3:=After.cell g3
  have q4:=After.cell g4
  have hne:=After.ne W
  have kf:=fun w=>xU 0 sm w
  clear hv hcc hn hc hx h0 e1 e2 e3 e4 hW hH g0 g1 g2 g3 g4
  go_enter Tryz.func113,Tryz.ntmps113
  go_wp2_with fail
  rw[HW.out]
  refine ay (by kernel_rfl) (by kernel_rfl) ?_
  repeat(first | go_big_quiet_skip |(go_big_quiet_want;go_big_quiet_op;first | go_big_quiet_on | go_big_quiet_call (first |(go_at_call 182;refine(hS _).mono ?_;rintro e wq ⟨rfl,hbq⟩;exact⟨rfl,bP (ah (After.b _) hbq)⟩))))
  refine wpQuiet_nil ?_
  rintro _ ⟨n6,rfl⟩
  have iE:Hid (Below w.heap.size w n6.w):=ah HB.out n6.b
  generalize n6.w=w6 at *
  clear hne q0 q1 q2 q3 q4 n6 hS HW
  go_wp2
  go_ret2
  exact⟨rfl,iE.out⟩
theorem VY{h:Hd}(hc:h.c=0):hdN h.e h.p h.v=true:=by
 have hok:=wE hc
 unfold hdN
 rw[jd hok.e0 hok.e1,jd hok.p0 hok.p1,(bD h.v).2 ⟨hok.v0,hok.v1⟩]
 rfl
theorem Ah(R:Rt)(hR:gJ R)(b off c b' off' c' n:Nat)(h:Hdl)(p:Pst)(w:World)(HN:Hid (n=h.length/\n=p.length))(hx:n<=1048576)(hb:b<w.heap.size)(hb':b'<w.heap.size)(hch:chF h=0)
  (hc:∀j,j<n->HdS w b (off+j*5) (hAt h j)) (hp:∀j,j<n->∃u,w.cell? ⟨b',off'+j,none⟩=some u/\Rcs w u (dAt p j)) (fE:∀j,j<n->(dAt p j).length<=1048576/\Lbs (dAt p j))
  (hC:∀w',Below w.heap.size w w'->Calls Tryz.prog 93 #[.slice (some ⟨b,off,none⟩) n c] w' fun e w''=>e = .returned (.int .i64 0)/\Below w'.heap.size w' w'') :
  Calls Tryz.prog 112 #[.slice (some ⟨b,off,none⟩) n c,.slice (some ⟨b',off',none⟩) n c'] w fun e w'=>e = .returned (.int .i64 (eF R h p n 0))/\Below w.heap.size w w':=by
 obtain⟨q,hq⟩:∃q,q=eF R h p n 0:=⟨_,rfl⟩
 have HQ:Hid (eF R h p n 0=q):=hq.symm
 rw[←hq]
 clear hq
 have hC0:=hC w (Below.refl _ _)
 clear hC
 go_enter Tryz.func112,Tryz.ntmps112
 go_wp2_with fail
 refine hC0.mono ?_
 rintro e w0 ⟨rfl,hb0⟩
 clear hC0
 go_wp2
 go_loopw [22] (fun i wr=>∃k:Nat,k<=n/\i = .int .i64 k/\Hid (Below w.heap.size w wr)/\Hid (eF R h p (n - k) k=q)) (fun i _=>n - (intOf i).toNat)
 case atStart=>exact⟨0,Nat.zero_le _,rfl,hb0,HQ⟩
 case round=>
  obtain⟨k,hk,rfl,hB,HS⟩:=hrel
  clear hb0
  by_cases hkn:k<n
  ·have hki:(k:Int)<(n:Int):=by omega
   obtain⟨u,hu,hr⟩:=hp k hkn
   have d:=(hB.out.cell (p:=⟨b',off'+k,none⟩) hb').trans hu
   obtain⟨d0,d1,d2,d3,d4⟩:=(hc k hkn).below hB.out hb
   have hbr:b<wr.heap.size:=Nat.lt_of_lt_of_le hb hB.out.size
   have Nk:b'<wr.heap.size:=Nat.lt_of_lt_of_le hb' hB.out.size
   obtain⟨hx1,hl1⟩:=fE k hkn
   have X9:(hAt h k).c=0:=(pY hch).2 k (by have:=HN.out;omega)
   have hN1:=VY X9
   have ku:Hid (n - k=(n - k - 1)+1):=(by omega:n - k=(n - k - 1)+1)
   have HF:Hid (¬aI (dAt p k)=0->q=aI (dAt p k)):=(fun h0=>by rw[←HS.out,ku.out];exact zh h0:¬aI (dAt p k)=0->q=aI (dAt p k))
   have HO:Hid (aI (dAt p k)=0->hdQ (jZ R (dAt p k) (hAt h k)) (hAt h k)=false->q=9):=(fun h0 h1=>by rw[←HS.out,ku.out];exact zi h0 h1:aI (dAt p k)=0->hdQ (jZ R (dAt p k) (hAt h k)) (hAt h k)=false->q=9)
   have HT:Hid (aI (dAt p k)=0->hdQ (jZ R (dAt p k) (hAt h k)) (hAt h k)=true->eF R h p (n - k - 1) (k+1)=q):=(fun h0 h1=>by rw[←HS.out,ku.out];exact(CJ h0 h1).symm:aI (dAt p k)=0->hdQ (jZ R (dAt p k) (hAt h k)) (hAt h k)=true->eF R h p (n - k - 1) (k+1)=q)
   have hE:=BA (jZ R (dAt p k) (hAt h k)) (hAt h k)
   have hrw:=hr.below hB.out
   obtain⟨ua,uc,rfl⟩:=hr.shape
   obtain⟨W,hW⟩:∃W,W=(wr.alloc (.cells #[.slice ua (dAt p k).length uc] 36)).alloc (.cells #[.int .i64 (hAt h k).e,.int .i64 (hAt h k).p,.int .i64 (hAt h k).o,.int .i64 (hAt h k).n,.int .i64 (hAt h k).v] 136):=⟨_,rfl⟩
   have hBW:Below wr.heap.size wr W:=by rw[hW];exact aA _ _
   have wB:W.heap[wr.heap.size+1]? = some (.cells #[.int .i64 (hAt h k).e,.int .i64 (hAt h k).p,.int .i64 (hAt h k).o,.int .i64 (hAt h k).n,.int .i64 (hAt h k).v] 136):=by
    have h1:=heap_alloc_new (wr.alloc (.cells #[.slice ua (dAt p k).length uc] 36)) (.cells #[.int .i64 (hAt h k).e,.int .i64 (hAt h k).p,.int .i64 (hAt h k).o,.int .i64 (hAt h k).n,.int .i64 (hAt h k).v] 136)
    rw[World.size_alloc]at h1
    rw[hW]
    exact h1
   have hA:=fun h0=>BG _ (dAt p k) (hAt h k).e (hAt h k).p (hAt h k).v W (hrw.below hBW) hl1 (by omega) h0
   have hO:=fun h0=>DC _ (dAt p k) (hAt h k).e (hAt h k).p (hAt h k).v _ _ W (hrw.below hBW) hl1 (by omega) h0 hN1 (hR (aB (dAt p k)) (nR (dP h0)))
   have hfd:=fun h0=>Uo (l:=dAt p k) (e:=(hAt h k).e) (p:=(hAt h k).p) (v:=(hAt h k).v) h0
   have fB:Hid (Below w.heap.size w W):=ah hB.out hBW
   have HW:Hid _:=hW.symm
   have Ed:Hid (W.heap[wr.heap.size+1]? = some (.cells #[.int .i64 (hAt h k).e,.int .i64 (hAt h k).p,.int .i64 (hAt h k).o,.int .i64 (hAt h k).n,.int .i64 (hAt h k).v] 136)):=wB
   generalize hdQ (jZ R (dAt p k) (hAt h k)) (hAt h k)=rb at *
   unfold jZ Np at hE
   unfold hrV at hA hO
   dsimp only at hE
   generalize nG (hAt h k).p (R.o (aB (dAt p k)))=ko at *
   generalize nD (hAt h k).p (R.n (aB (dAt p k)))=kn at *
   obtain⟨df,hdf⟩:∃df,df=aI (dAt p k):=⟨_,rfl⟩
   rw[←hdf]at HF HO HT hfd hO
   generalize (hAt h k).e=x0 at *
   generalize (hAt h k).p=x1 at *
   generalize (hAt h k).o=x2 at *
   generalize (hAt h k).n=x3 at *
   generalize (hAt h k).v=x4 at *
   generalize hfC (dAt p k) x0 x1 x4=fc at *
   generalize (dAt p k).length=m at *
   clear hW wB hc hp fE hr hrw hu hdf X9 hN1 hBW
   by_cases h0:df=0
   ·subst h0
    have jy:=hO rfl
    have jF:=HO.out rfl
    have HT1:=HT.out rfl
    clear hA hO HO HT HF hfd
    cases rb
    ·have gG:Hid (q=9):=jF rfl
     clear HT1 jF
     go_wp2_with fail
     rw[HW.out]
     refine jy.mono ?_
     rintro e w1 ⟨rfl,hb1⟩
     have hlt:wr.heap.size+1<W.heap.size:=(Array.getElem?_eq_some_iff.1 Ed.out).1
     have hlt1:wr.heap.size+1<w1.heap.size:=Nat.lt_of_lt_of_le hlt hb1.size
     obtain⟨j0,j1,j2,j3,j4⟩:=su (((aj (.cells #[.int .i64 0,.int .i64 x0,.int .i64 x1,.int .i64 ko,.int .i64 kn,.int .i64 x4] 272)).block (wr.heap.size+1) hlt1).trans ((hb1.block (wr.heap.size+1) hlt).trans Ed.out))
     have HB1:Hid (Below w.heap.size w w1):=ah fB.out hb1
     clear jy hb1
     go_wp2
     go_ret
     exact⟨aG gG.out.symm,HB1.out.alloc HB1.out.size _⟩
    ·have gG:Hid (eF R h p (n - k - 1) (k+1)=q):=HT1 rfl
     clear HT1 jF
     go_wp2_with fail
     rw[HW.out]
     refine jy.mono ?_
     rintro e w1 ⟨rfl,hb1⟩
     have hlt:wr.heap.size+1<W.heap.size:=(Array.getElem?_eq_some_iff.1 Ed.out).1
     have hlt1:wr.heap.size+1<w1.heap.size:=Nat.lt_of_lt_of_le hlt hb1.size
     obtain⟨j0,j1,j2,j3,j4⟩:=su (((aj (.cells #[.int .i64 0,.int .i64 x0,.int .i64 x1,.int .i64 ko,.int .i64 kn,.int .i64 x4] 272)).block (wr.heap.size+1) hlt1).trans ((hb1.block (wr.heap.size+1) hlt).trans Ed.out))
     have HB1:Hid (Below w.heap.size w w1):=ah fB.out hb1
     clear jy hb1
     go_wp2
     go_roundw
     case rel=>exact⟨k+1,by omega,by go_num,HB1.out.alloc HB1.out.size _,by rw[show n - (k+1)=n - k - 1 by omega];exact gG⟩
     case measure=>simp[intOf];omega
   ·have e1:=hfd h0
    subst e1
    have hA1:=hA h0
    have gG:Hid (q=fc):=HF.out h0
    have hnz:(fc != 0)=true:=by simpa using h0
    clear hA hO HO HT HF h0 hfd
    go_wp2_with fail
    rw[HW.out]
    refine hA1.mono ?_
    rintro e w1 ⟨rfl,hb1⟩
    have HB1:Hid (Below w.heap.size w w1):=ah fB.out hb1
    clear hA1 hb1
    go_wp2
    go_ret
    exact⟨aG gG.out.symm,HB1.out.alloc HB1.out.size _⟩
  ·have hkn:k=n:=by omega
   subst hkn
   have e0:Hid (q=0):=(by rw[←HS.out,Nat.sub_self];rfl:q=0)
   clear hc hp fE
   go_wp2
   go_ret
   exact⟨aG e0.out.symm,hB.out⟩
theorem nC(R:Rt)(hR:gJ R)(vh vp:Value)(h:Hdl)(p:Pst)(w:World)(hh:Hds w vh h)(hp:Dss w vp p)(hx:h.length<=1048576)(hy:p.length<=1048576)(fE:∀j,j<p.length->(dAt p j).length<=1048576/\Lbs (dAt p j)):
  Calls Tryz.prog 112 #[vh,vp] w fun e w'=>e = .returned (.int .i64 (eX R h p))/\Below w.heap.size w w':=by
 have hC:=fun w' hb=>wI vh h w' (hh.below (w':=w') hb) (by omega)
 unfold eX
 by_cases h0:chF h=0
 ·rw[if_pos h0]
  obtain⟨a,c,rfl⟩:=hh.shape
  obtain⟨a',c',rfl⟩:=hp.shape
  by_cases h1:p.length=h.length
  ·rw[if_pos h1]
   by_cases h2:0<p.length
   ·obtain⟨_,b,off,rfl,hb,hc⟩:=hh.at (by omega)
    obtain⟨_,b',off',rfl,hb',hc'⟩:=hp.at h2
    rw[h0,←h1]at hC
    rw[←h1]
    exact Ah R hR b off c b' off' c' p.length h p w ⟨h1,rfl⟩ hy hb hb' h0 (fun j hj=>hc j (by omega)) hc' fE hC
   ·have e1:p=[]:=List.eq_nil_of_length_eq_zero (by omega)
    have e2:h=[]:=List.eq_nil_of_length_eq_zero (by omega)
    subst e1 e2
    have hC0:=hC w (Below.refl _ _)
    rw[h0]at hC0
    have e3:eF R [] [] ([]:Pst).length 0=0:=rfl
    rw[e3]
    simp only[List.length_nil]at *
    clear hC fE hh hp h0 h1 h2 e3
    go_enter Tryz.func112,Tryz.ntmps112
    go_wp2_with fail
    refine hC0.mono ?_
    rintro e w0 ⟨rfl,hb0⟩
    clear hC0
    go_wp2
    refine wp_loop_rounds 1 ?_;rw[rounds_succ]
    go_wp2
    go_ret
    exact⟨rfl,hb0⟩
  ·rw[if_neg h1]
   have hC0:=hC w (Below.refl _ _)
   rw[h0]at hC0
   have hnb:(((p.length:Nat):Int) !=((h.length:Nat):Int))=true:=by simp;omega
   generalize p.length=n at *
   generalize h.length=k at *
   clear hC fE hh hp h0 h1
   go_enter Tryz.func112,Tryz.ntmps112
   go_wp2_with fail
   refine hC0.mono ?_
   rintro e w0 ⟨rfl,hb0⟩
   clear hC0
   go_wp2
   go_ret
   exact⟨rfl,hb0⟩
 ·rw[if_neg h0]
  have hC0:=hC w (Below.refl _ _)
  have hnz:(chF h != 0)=true:=by simpa using h0
  obtain⟨a,c,rfl⟩:=hh.shape
  obtain⟨a',c',rfl⟩:=hp.shape
  generalize p.length=n at *
  generalize h.length=k at *
  generalize chF h=q at *
  clear hC fE hh hp h0
  go_enter Tryz.func112,Tryz.ntmps112
  go_wp2_with fail
  refine hC0.mono ?_
  rintro e w0 ⟨rfl,hb0⟩
  clear hC0
  go_wp2
  go_ret
  exact⟨rfl,hb0⟩
end U
end Go.Proofs.YtmnfokgllcdiiaaGreat
