/- The history of a state and its fault, by the model. -/
import Derived.Test.YtmnfokgllcdiiaaGreatYSt4
set_option maxRecDepth 100000
set_option maxHeartbeats 4000000
namespace Go.Proofs.YtmnfokgllcdiiaaGreat
open Go.RowKit
namespace U
theorem yT(g:Nat)(v:Value)(l:Hdl)(w:World)(hD:w.cell? ⟨g,4,none⟩=some v)(hv:Hds w v l)(hc:∀j,j<l.length->(hAt l j).c=0)(hx:l.length<=1048576):
  Calls Tryz.prog 102 #[.pointer (some ⟨g,0,none⟩)] w fun e w'=>e = .returned (.tuple #[.int .i64 (phL l),.int .i64 (smL l)])/\Below w.heap.size w w':=by
 obtain⟨a,c,rfl⟩:=hv.shape
 unfold phL smL
 rcases hn:l.length with _ | k
 ·rw[hn]at hD
  have e1:l=[]:=List.eq_nil_of_length_eq_zero hn
  subst e1
  clear hv hc hx
  have e2:phA [] 0=1:=rfl
  have e3:smA [] 0=0:=rfl
  rw[e2,e3]
  go_enter Tryz.func102,Tryz.ntmps102
  go_wp2
  go_ret2
  exact⟨rfl,Below.refl _ _⟩
 ·rw[hn]at hv hD
  obtain⟨-,b,off,rfl,hb,hcc⟩:=hv.at (by omega)
  have hk:=hcc k (by omega)
  have e1:phA l (k+1)=(hAt l k).p:=rfl
  have e2:smA l (k+1)=(hAt l k).s:=rfl
  rw[e1,e2]
  have h0:=hc k (by omega)
  have hS:=fun w' (hb':Below w.heap.size w w')=>BQ b (off+k*5) (hAt l k).e (hAt l k).p (hAt l k).o (hAt l k).n (hAt l k).v w' (hk.below hb' hb) (wE h0)
  have e4:hdS (hAt l k).e (hAt l k).p (hAt l k).o (hAt l k).n (hAt l k).v=(hAt l k).s:=rfl
  rw[e4]at hS
  have d1:=hk.c1
  have hkl:k<=1048576:=by omega
  generalize (hAt l k).s=sm at *
  generalize (hAt l k).p=x1 at *
  have q0:=After.cell hD
  have q1:=After.cell d1
  have hne:=After.ne w
  clear hv hcc hn hc hx h0 e1 e2 e4 hk d1
  go_enter Tryz.func102,Tryz.ntmps102
  go_wp2_with fail
  refine ay (by kernel_rfl) (by kernel_rfl) ?_
  repeat(first | go_big_quiet_skip |(go_big_quiet_want;go_big_quiet_op;first | go_big_quiet_on | go_big_quiet_call (first |(go_at_call 188;refine(hS _ (After.b _)).mono ?_;rintro e wq ⟨rfl,hbq⟩;exact⟨rfl,bP (ah (After.b _) hbq)⟩))))
  refine wpQuiet_nil ?_
  rintro _ ⟨n6,rfl⟩
  have iE:Hid (Below w.heap.size w n6.w):=n6.b
  generalize n6.w=w6 at *
  clear hne q0 q1 n6 hS hD
  go_wp2
  go_ret2
  exact⟨rfl,iE.out⟩
theorem Ih(R:Rt)(hR:gJ R)(g b off c b' off' c' n:Nat)(h:Hdl)(p:Pst)(w:World)(HN:Hid (n=h.length/\n=p.length))(hx:n<=1048576)(hg:g<w.heap.size)(hb:b<w.heap.size)(hb':b'<w.heap.size)
  (k4:w.cell? ⟨g,4,none⟩=some (.slice (some ⟨b,off,none⟩) n c)) (k5:w.cell? ⟨g,5,none⟩=some (.slice (some ⟨b',off',none⟩) n c'))
  (hc:∀j,j<n->HdS w b (off+j*5) (hAt h j)) (hp:∀j,j<n->∃u,w.cell? ⟨b',off'+j,none⟩=some u/\Rcs w u (dAt p j)) (fE:∀j,j<n->(dAt p j).length<=1048576/\Lbs (dAt p j))
  (hC:Calls Tryz.prog 88 #[.slice (some ⟨b,off,none⟩) n c] w fun e w''=>e = .returned (.int .i64 0)/\Below w.heap.size w w'') :
  Calls Tryz.prog 101 #[.pointer (some ⟨g,0,none⟩)] w fun e w'=>e = .returned (.int .i64 (eF R h p n 0))/\Below w.heap.size w w':=by
 have hnn:=dA
 obtain⟨q,hq⟩:∃q,q=eF R h p n 0:=⟨_,rfl⟩
 have HQ:Hid (eF R h p n 0=q):=hq.symm
 rw[←hq]
 clear hq
 have HK:Hid (∀w',Below w.heap.size w w'->w'.cell? ⟨g,4,none⟩=some (.slice (some ⟨b,off,none⟩) n c)/\w'.cell? ⟨g,5,none⟩=some (.slice (some ⟨b',off',none⟩) n c')):=fun w' hb=>⟨(hb.cell (p:=⟨g,4,none⟩) hg).trans k4,(hb.cell (p:=⟨g,5,none⟩) hg).trans k5⟩
 go_enter Tryz.func101,Tryz.ntmps101
 go_wp2_with fail
 refine hC.mono ?_
 rintro e w0 ⟨rfl,hb0⟩
 obtain⟨j4,j5⟩:=HK.out _ hb0
 clear hC k4 k5
 go_wp2
 go_quiet (fail)
 go_wp2
 clear j4 j5
 go_loopw [4] (fun i wr=>∃k:Nat,k<=n/\i = .int .i64 k/\Hid (Below w.heap.size w wr)/\Hid (eF R h p (n - k) k=q)) (fun i _=>n - (intOf i).toNat)
 case atStart=>exact⟨0,Nat.zero_le _,rfl,below_drewN hb0 _,HQ⟩
 case round=>
  obtain⟨k,hk,rfl,hB,HS⟩:=hrel
  clear hb0
  obtain⟨j4,j5⟩:=HK.out _ hB.out
  by_cases hkn:k<n
  ·have hki:(k:Int)<(n:Int):=by omega
   obtain⟨u,hu,hr⟩:=hp k hkn
   have d:=(hB.out.cell (p:=⟨b',off'+k,none⟩) hb').trans hu
   have hhd:=(hc k hkn)
   have hbr:b<wr.heap.size:=Nat.lt_of_lt_of_le hb hB.out.size
   have Nk:b'<wr.heap.size:=Nat.lt_of_lt_of_le hb' hB.out.size
   obtain⟨hx1,hl1⟩:=fE k hkn
   have ku:Hid (n - k=(n - k - 1)+1):=(by omega:n - k=(n - k - 1)+1)
   have HF:Hid (¬aI (dAt p k)=0->q=aI (dAt p k)):=(fun h0=>by rw[←HS.out,ku.out];exact zh h0:¬aI (dAt p k)=0->q=aI (dAt p k))
   have HO:Hid (aI (dAt p k)=0->hdQ (jZ R (dAt p k) (hAt h k)) (hAt h k)=false->q=9):=(fun h0 h1=>by rw[←HS.out,ku.out];exact zi h0 h1:aI (dAt p k)=0->hdQ (jZ R (dAt p k) (hAt h k)) (hAt h k)=false->q=9)
   have HT:Hid (aI (dAt p k)=0->hdQ (jZ R (dAt p k) (hAt h k)) (hAt h k)=true->eF R h p (n - k - 1) (k+1)=q):=(fun h0 h1=>by rw[←HS.out,ku.out];exact(CJ h0 h1).symm:aI (dAt p k)=0->hdQ (jZ R (dAt p k) (hAt h k)) (hAt h k)=true->eF R h p (n - k - 1) (k+1)=q)
   have hE:=BA (jZ R (dAt p k) (hAt h k)) (hAt h k)
   have hrw:=hr.below hB.out
   have hF:=ji b' (off'+k) u (dAt p k) wr Nk d hrw hl1 (by omega)
   have Vd:Hid (∀w',Below wr.heap.size wr w'->w'.cell? ⟨g,4,none⟩=some (.slice (some ⟨b,off,none⟩) n c)/\w'.cell? ⟨g,5,none⟩=some (.slice (some ⟨b',off',none⟩) n c')/\HdS w' b (off+k*5) (hAt h k)):=fun w' hb2=>⟨(HK.out _ (ah hB.out hb2)).1,(HK.out _ (ah hB.out hb2)).2,hhd.below (ah hB.out hb2) hb⟩
   have hHd:=fun h0 w' (hb2:Below wr.heap.size wr w')=>Kt b' (off'+k) u (dAt p k) (hAt h k).e (hAt h k).p (hAt h k).v _ _ w' (Nat.lt_of_lt_of_le Nk hb2.size) ((hb2.cell (p:=⟨b',off'+k,none⟩) Nk).trans d) (hrw.below hb2) (dP h0) (hR (aB (dAt p k)) (nR (dP h0)))
   generalize hdQ (jZ R (dAt p k) (hAt h k)) (hAt h k)=rb at *
   unfold jZ Np at hE
   unfold hdV at hHd
   dsimp only at hE
   generalize nG (hAt h k).p (R.o (aB (dAt p k)))=ko at *
   generalize nD (hAt h k).p (R.n (aB (dAt p k)))=kn at *
   generalize aI (dAt p k)=df at *
   clear hc hp fE hr hrw hu d hhd
   by_cases h0:df=0
   ·subst h0
    have jy:=hHd rfl
    have jF:=HO.out rfl
    have HT1:=HT.out rfl
    clear hHd HO HT HF
    go_wp2_with fail
    refine hF.mono ?_
    rintro e w1 ⟨rfl,hb1⟩
    obtain⟨j4,j5,⟨d0,d1,d2,d3,d4⟩⟩:=Vd.out _ hb1
    have hO2:=fun w' (h:Below w1.heap.size w1 w')=>jy w' (ah hb1 h)
    have HB1:Hid (Below w.heap.size w w1):=ah hB.out hb1
    generalize (hAt h k).e=x0 at *
    generalize (hAt h k).p=x1 at *
    generalize (hAt h k).o=x2 at *
    generalize (hAt h k).n=x3 at *
    generalize (hAt h k).v=x4 at *
    clear hF jy Vd hb1
    have ZU:b<w1.heap.size:=Nat.lt_of_lt_of_le hb HB1.out.size
    have ZT:b'<w1.heap.size:=Nat.lt_of_lt_of_le hb' HB1.out.size
    have q4:=After.cell j4
    have q5:=After.cell j5
    have p0:=After.cell d0
    have p1:=After.cell d1
    have p2:=After.cell d2
    have p3:=After.cell d3
    have p4:=After.cell d4
    have hne:=After.ne w1
    cases rb
    ·have gG:Hid (q=9):=jF rfl
     clear HT1 jF
     go_wp2_with fail
     clear d0 d1 d2 d3 d4 j4 j5
     refine ay (by kernel_rfl) (by kernel_rfl) ?_
     repeat(first | go_big_quiet_skip |(go_big_quiet_want;go_big_quiet_op;first | go_big_quiet_on | go_big_quiet_call (first |(go_at_call 187;refine(hO2 _ (After.b _)).mono ?_;rintro e wq ⟨rfl,hbq⟩;exact⟨rfl,bP (ah (After.b _) hbq)⟩))))
     refine wpQuiet_nil ?_
     rintro _ ⟨n6,rfl⟩
     have iE:Hid (Below w.heap.size w n6.w):=ah HB1.out n6.b
     generalize n6.w=w6 at *
     clear hne q4 q5 p0 p1 p2 p3 p4 n6 hO2
     go_wp2
     go_ret
     exact⟨aG gG.out.symm,iE.out⟩
    ·have gG:Hid (eF R h p (n - k - 1) (k+1)=q):=HT1 rfl
     clear HT1 jF
     go_wp2_with fail
     clear d0 d1 d2 d3 d4 j4 j5
     refine ay (by kernel_rfl) (by kernel_rfl) ?_
     repeat(first | go_big_quiet_skip |(go_big_quiet_want;go_big_quiet_op;first | go_big_quiet_on | go_big_quiet_call (first |(go_at_call 187;refine(hO2 _ (After.b _)).mono ?_;rintro e wq ⟨rfl,hbq⟩;exact⟨rfl,bP (ah (After.b _) hbq)⟩))))
     refine wpQuiet_nil ?_
     rintro _ ⟨n6,rfl⟩
     have iE:Hid (Below w.heap.size w n6.w):=ah HB1.out n6.b
     generalize n6.w=w6 at *
     clear hne q4 q5 p0 p1 p2 p3 p4 n6 hO2
     go_wp2
     go_roundw
     case rel=>exact⟨k+1,by omega,by go_num,iE,by rw[show n - (k+1)=n - k - 1 by omega];exact gG⟩
     case measure=>simp[intOf];omega
   ·have gG:Hid (q=df):=HF.out h0
    have hnz:(df != 0)=true:=by simpa using h0
    clear hHd HO HT HF h0 Vd
    go_wp2_with fail
    refine hF.mono ?_
    rintro e w1 ⟨rfl,hb1⟩
    have HB1:Hid (Below w.heap.size w w1):=ah hB.out hb1
    clear hF hb1
    go_wp2
    go_ret
    exact⟨aG gG.out.symm,HB1.out⟩
  ·have hkn:k=n:=by omega
   subst hkn
   have e0:Hid (q=0):=(by rw[←HS.out,Nat.sub_self];rfl:q=0)
   clear hc hp fE
   go_wp2
   go_ret
   exact⟨aG e0.out.symm,hB.out⟩
theorem sD(R:Rt)(hR:gJ R)(g:Nat)(vh vp:Value)(h:Hdl)(p:Pst)(w:World)(hg:g<w.heap.size)(k4:w.cell? ⟨g,4,none⟩=some vh)(k5:w.cell? ⟨g,5,none⟩=some vp)(hh:Hds w vh h)(hp:Dss w vp p)(hx:h.length<=1048576)(hy:p.length<=1048576)(fE:∀j,j<p.length->(dAt p j).length<=1048576/\Lbs (dAt p j)):
  Calls Tryz.prog 101 #[.pointer (some ⟨g,0,none⟩)] w fun e w'=>e = .returned (.int .i64 (eX R h p))/\Below w.heap.size w w':=by
 have hC:=H9 vh h w hh (by omega)
 have hnn:=dA
 have HK:Hid (∀w',Below w.heap.size w w'->w'.cell? ⟨g,4,none⟩=some vh/\w'.cell? ⟨g,5,none⟩=some vp):=fun w' hb=>⟨(hb.cell (p:=⟨g,4,none⟩) hg).trans k4,(hb.cell (p:=⟨g,5,none⟩) hg).trans k5⟩
 unfold eX
 by_cases h0:chF h=0
 ·rw[if_pos h0]
  rw[h0]at hC
  obtain⟨a,c,rfl⟩:=hh.shape
  obtain⟨a',c',rfl⟩:=hp.shape
  by_cases h1:p.length=h.length
  ·rw[if_pos h1]
   by_cases h2:0<p.length
   ·obtain⟨_,b,off,rfl,hb,hc⟩:=hh.at (by omega)
    obtain⟨_,b',off',rfl,hb',hc'⟩:=hp.at h2
    rw[←h1]at hC k4
    exact Ih R hR g b off c b' off' c' p.length h p w ⟨h1,rfl⟩ hy hg hb hb' k4 k5 (fun j hj=>hc j (by omega)) hc' fE hC
   ·have e1:p=[]:=List.eq_nil_of_length_eq_zero (by omega)
    have e2:h=[]:=List.eq_nil_of_length_eq_zero (by omega)
    subst e1 e2
    have e3:eF R [] [] ([]:Pst).length 0=0:=rfl
    rw[e3]
    simp only[List.length_nil]at *
    clear fE hh hp h0 h1 h2 e3
    go_enter Tryz.func101,Tryz.ntmps101
    go_wp2_with fail
    refine hC.mono ?_
    rintro e w0 ⟨rfl,hb0⟩
    obtain⟨j4,j5⟩:=HK.out _ hb0
    clear hC k4 k5
    go_wp2
    go_quiet (fail)
    go_wp2
    refine wp_loop_rounds 1 ?_;rw[rounds_succ]
    go_wp2
    go_ret
    exact⟨rfl,below_drewN hb0 _⟩
  ·rw[if_neg h1]
   have hnb:(((p.length:Nat):Int) !=((h.length:Nat):Int))=true:=by simp;omega
   generalize p.length=n at *
   generalize h.length=k at *
   clear fE hh hp h0 h1
   go_enter Tryz.func101,Tryz.ntmps101
   go_wp2_with fail
   refine hC.mono ?_
   rintro e w0 ⟨rfl,hb0⟩
   obtain⟨j4,j5⟩:=HK.out _ hb0
   clear hC k4 k5
   go_wp2
   go_quiet (fail)
   go_wp2
   go_ret
   exact⟨rfl,below_drewN hb0 _⟩
 ·rw[if_neg h0]
  have hnz:(chF h != 0)=true:=by simpa using h0
  obtain⟨a,c,rfl⟩:=hh.shape
  obtain⟨a',c',rfl⟩:=hp.shape
  generalize p.length=n at *
  generalize h.length=k at *
  generalize chF h=q at *
  clear fE hh hp h0
  go_enter Tryz.func101,Tryz.ntmps101
  go_wp2_with fail
  refine hC.mono ?_
  rintro e w0 ⟨rfl,hb0⟩
  clear hC k4 k5
  go_wp2
  go_ret
  exact⟨rfl,hb0⟩
end U
end Go.Proofs.YtmnfokgllcdiiaaGreat
