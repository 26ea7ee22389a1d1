/- Joined: what the texts behind it need. -/
import Derived.Test.YtmmcgjacojgeaaaGreatKBA
import Derived.Deep.RegionHeld3
import Derived.Deep.AppendLies
set_option maxRecDepth 100000
set_option maxHeartbeats 4000000
namespace Go.Proofs.YtmmcgjacojgeaaaGreat
open Go.RowKit
namespace U
def aS(s:ByteArray):Int:=bn (bl (dD s))%256
def Gz(s:ByteArray):Int:=if aV s=0 then aS s else 0
theorem KR{s:ByteArray}(h:aV s=0):Gz s=aS s:=by simp[Gz,h]
theorem UR{s:ByteArray}(h:¬aV s=0):Gz s=0:=by simp[Gz,h]
theorem pK(s:ByteArray):0<=aS s/\aS s<256:=by unfold aS;omega
theorem Ak(x y:Int)(w:World):(Instr.field 122 (.agg #[.int .i64 x,.int .i64 y]) 1).run Tryz.prog w = .ok (.int .i64 y) w:=by kernel_rfl
theorem Hy(s:ByteArray):aV s=0∨aV s=1∨aV s=2∨aV s=5:=by
 unfold aV
 split
 ·simp
 ·split
  ·simp
  ·split
   ·simp
   ·split<;>simp
theorem ku(s:ByteArray)(w:World)(hs:s.size<=12):
  Calls Tryz.prog 104 #[.string s] w fun e w'=>e = .returned (.int .i64 (aS s))/\Below w.heap.size w w':=by
 have kc:=fun (w:World)=>run_bytes_of_string (P:=Tryz.prog) w 9 192 5 (dD s) Tryz.underlying9 Tryz.underlying192 Tryz.underlying5
 have hS:=fun v w h=>kC v (bl (dD s)) w h (Fv _) (by rw[ou,lV];omega)
 have hsb:=nR (bl (dD s))
 unfold aS
 have HF:=fun w=>sZ s w hs
 generalize dD s=t at *
 obtain⟨x,hx⟩:∃x,x=bn (bl t):=⟨_,rfl⟩
 rw[←hx]at hS hsb ⊢
 clear hx
 go_enter Tryz.func104,Tryz.ntmps104
 go_wp2_with fail
 refine(HF _).mono ?_
 rintro e w1 ⟨rfl,hb1⟩
 clear HF
 go_wp2_with fail
 generalize grownCap w1 t.size 0 5=cap
 have hfz:t.size<=(bytesRow t cap).size:=by simp[bytesRow]
 generalize (bytesRow t cap).size=bz at *
 have hci:=fun fz hfz=>(DN w1 t 5 cap fz hfz).below ((Below.refl _ _).drew)
 refine(hS _ _ (hci _ hfz)).mono ?_
 rintro e w2 ⟨rfl,rfl⟩
 go_wp2
 go_ret
 exact⟨rfl,ah hb1 (aj _).drew⟩
theorem Ey(s:ByteArray)(w:World)(hs:s.size<=1048576):
  Calls Tryz.prog 121 #[.string s] w fun e w'=>jF w (aV s) (Gz s) e w':=by
 have hL:=fun w=>oW s w hs
 by_cases h:aV s=0
 ·have hfs:nU s=dD s:=by unfold nU;rw[if_pos h]
  have hle:(dD s).size<=12:=by rw[lV];exact kE h
  rw[KR h,h]
  rw[h,hfs]at hL
  unfold aS
  have kc:=fun (w:World)=>run_bytes_of_string (P:=Tryz.prog) w 9 192 5 (dD s) Tryz.underlying9 Tryz.underlying192 Tryz.underlying5
  have hsm:=um (bs:=bl (dD s)) (by rw[ou];omega)
  have hS:=fun v w h=>iF v (bl (dD s)) w h (Fv _) (by rw[ou];omega)
  rw[hsm.1,hsm.2]at hS
  have hsb:=nR (bl (dD s))
  generalize dD s=t at *
  obtain⟨x,hx⟩:∃x,x=bn (bl t):=⟨_,rfl⟩
  rw[←hx]at hS hsb ⊢
  have hfi:=Ak
  clear hx h hfs hsm
  go_enter Tryz.func121,Tryz.ntmps121
  go_wp2_with fail
  refine(hL _).mono ?_
  rintro e w1 ⟨rfl,hb1⟩
  obtain⟨hc1,hf1⟩:=LQ hb1
  have hz1:w.heap.size<w1.heap.size:=by have:=hb1.size;simp at this;omega
  have R1:w1.heap[w.heap.size]? = some (.cells #[.int .i64 0,.int .i64 0] 122 (0,0)):=(hb1.block w.heap.size (by simp)).trans (heap_alloc_new w _)
  have hB1:=ak hb1
  clear hL hb1
  go_wp2_with fail
  generalize grownCap (w1.alloc (.cells #[.int .i64 0,.string t] 216)) t.size 0 5=cap
  have hfz:t.size<=(bytesRow t cap).size:=by simp[bytesRow]
  generalize (bytesRow t cap).size=bz at *
  have hci:=fun fz hfz=>(DN (w1.alloc (.cells #[.int .i64 0,.string t] 216)) t 5 cap fz hfz).below ((Below.refl _ _).drew)
  simp only[World.size_alloc]at hci
  refine(hS _ _ (hci _ hfz)).mono ?_
  rintro e w2 ⟨rfl,hb2⟩
  have hz2:w.heap.size<(w1.alloc (.cells #[.int .i64 0,.string t] 216)).heap.size:=by simp;omega
  have hN:=((aj (w:=w1.alloc (.cells #[.int .i64 0,.string t] 216)) (.cells (bytesRow t cap) 5 (bz,bz+1)))).drew
  have Wy:=ah hN hb2
  obtain⟨hc0,hc1,hf0,hf1⟩:=aG ((Wy.block w.heap.size hz2).trans ((Below.heap_alloc w1 (.cells #[.int .i64 0,.string t] 216) _ hz1).trans R1))
  have hB2:=ah (ah hB1 (aj _)) Wy
  clear hS hci hb2 hN Wy R1 hB1
  go_wp2
  exact bodyPost_ret (v:= .agg #[.int .i64 0,.int .i64 (x%256)]) (by simp[results,Tryz.results121,go_sem,hc0,hc1]) rfl ⟨rfl,(hB2.setCell (Nat.le_refl _) _).setCell (Nat.le_refl _) _⟩
 ·rw[UR h]
  have hfs:nU s=⟨#[]⟩:=by unfold nU;rw[if_neg h]
  rw[hfs]at hL
  have hcd:=Hy s
  generalize aV s=code at *
  rcases hcd with rfl | rfl | rfl | rfl
  ·exact absurd rfl h
  all_goals
   go_enter Tryz.func121,Tryz.ntmps121
   go_wp2_with fail
   refine(hL _).mono ?_
   rintro e w1 ⟨rfl,hb1⟩
   have hz1:w.heap.size<w1.heap.size:=by have:=hb1.size;simp at this;omega
   obtain⟨hc0,hc1,hf0,hf1⟩:=aG ((hb1.block w.heap.size (by simp)).trans (heap_alloc_new w _))
   have hB1:=ak hb1
   clear hL hb1
   go_wp2
   exact bodyPost_ret (v:= .agg #[.int .i64 _,.int .i64 0]) (by simp[results,Tryz.results121,go_sem,hc0,hc1,hz1]) rfl ⟨rfl,((hB1.setCell (Nat.le_refl _) _).setCell (Nat.le_refl _) _).alloc (by simp;omega) _⟩
structure Rc where
 l:ByteArray
 v:Int
 o:Int
 p:Int
abbrev Rcl:=List Rc
def rcZ:Rc:=⟨⟨#[]⟩,0,0,0⟩
def rAt(l:Rcl)(j:Nat):Rc:=l.getD j rcZ
theorem fA{l:Rcl}{j:Nat}(h:j<l.length):rAt l j=l[j]:=by simp[rAt,List.getD_eq_getElem?_getD,List.getElem?_eq_getElem h]
theorem x9{l:Rcl}{j:Nat}(h:j<l.length):rAt l j∈l:=by rw[fA h];exact List.getElem_mem h
def Rc.c(r:Rc):Int:=recC r.l r.v r.o r.p
def Rc.k(r:Rc):Int:=aS r.l
theorem Rc.kbd(r:Rc):0<=r.k/\r.k<256:=pK r.l
def gZ(l:Rcl):Nat->Int
 | 0=>-1
 | j+1=>(rAt l j).k
def dh(l:Rcl):Nat->Nat->Int
 | 0,_=>0
 | f+1,i=>if(rAt l i).c=0 then(if(rAt l i).k<=gZ l i then 1 else dh l f (i+1))else(rAt l i).c
theorem y9{l:Rcl}{f i:Nat}(h:¬(rAt l i).c=0):dh l (f+1) i=(rAt l i).c:=by rw[dh,if_neg h]
theorem BJ{l:Rcl}{f i:Nat}(h:(rAt l i).c=0)(h1:(rAt l i).k<=gZ l i):dh l (f+1) i=1:=by rw[dh,if_pos h,if_pos h1]
theorem ug{l:Rcl}{f i:Nat}(h:(rAt l i).c=0)(h1:¬(rAt l i).k<=gZ l i):dh l (f+1) i=dh l f (i+1):=by rw[dh,if_pos h,if_neg h1]
def aB(l:Rcl):Int:=if 12<l.length then 2 else dh l l.length 0
theorem vI{l:Rcl}(h:12<l.length):aB l=2:=if_pos h
theorem qM{l:Rcl}(h:¬ 12<l.length):aB l=dh l l.length 0:=if_neg h
structure bM(l:Rcl):Prop where
 len:l.length<=12
 ok:∀j,j<l.length->(rAt l j).c=0
 up:∀j,j<l.length->gZ l j<(rAt l j).k
theorem zY{l:Rcl}:∀f i,dh l f i=0->∀j,i<=j->j<i+f->(rAt l j).c=0/\gZ l j<(rAt l j).k
 | 0,i,_,j,h1,h2=>by omega
 | f+1,i,h,j,h1,h2=>by
  rw[dh]at h
  by_cases hc:(rAt l i).c=0
  ·rw[if_pos hc]at h
   by_cases hk:(rAt l i).k<=gZ l i
   ·rw[if_pos hk]at h;omega
   ·rw[if_neg hk]at h
    by_cases hj:j=i
    ·subst hj;exact⟨hc,by omega⟩
    ·exact zY f (i+1) h j (by omega) (by omega)
  ·rw[if_neg hc]at h;omega
theorem dR{l:Rcl}(h:aB l=0):bM l:=by
 by_cases h1:12<l.length
 ·rw[vI h1]at h;omega
 ·rw[qM h1]at h
  exact⟨by omega,fun j hj=>(zY _ _ h j (Nat.zero_le _) (by omega)).1,fun j hj=>(zY _ _ h j (Nat.zero_le _) (by omega)).2⟩
theorem bM.rise{l:Rcl}(h:bM l):∀j,j<l.length->∀i,i<j->(rAt l i).k<(rAt l j).k:=by
 intro j
 induction j with
 | zero=>intro _ i hi;omega
 | succ j ih=>
  intro hj i hi
  have h1:(rAt l j).k<(rAt l (j+1)).k:=h.up (j+1) hj
  by_cases e:i=j
  ·subst e;exact h1
  ·have:=ih (by omega) i (by omega)
   omega
theorem bM.WV{l:Rcl}(h:bM l){j:Nat}(hj:j<l.length):o7 (rAt l j).l (rAt l j).v (rAt l j).o (rAt l j).p:=nZ (h.ok j hj)
theorem Rc.jm{r:Rc}(h:r.c=0):aV r.l=0:=(nZ h).lab
theorem Rc.jC{r:Rc}(h:r.c=0):r.l.size<=12:=(nZ h).small
structure dG(w:World)(b off:Nat)(r:Rc):Prop where
 c0:w.cell? ⟨b,off,none⟩=some (.string r.l)
 c1:w.cell? ⟨b,off+1,none⟩=some (.int .i64 r.v)
 c2:w.cell? ⟨b,off+2,none⟩=some (.int .i64 r.o)
 c3:w.cell? ⟨b,off+3,none⟩=some (.int .i64 r.p)
theorem dG.below{w w':World}{b off N:Nat}{r:Rc}(h:dG w b off r)(hb:Below N w w')(hlt:b<N):dG w' b off r:=
 ⟨(hb.cell (p:=⟨b,off,none⟩) hlt).trans h.c0,(hb.cell (p:=⟨b,off+1,none⟩) hlt).trans h.c1,(hb.cell (p:=⟨b,off+2,none⟩) hlt).trans h.c2,(hb.cell (p:=⟨b,off+3,none⟩) hlt).trans h.c3⟩
theorem dG.lt{w:World}{b off:Nat}{r:Rc}(h:dG w b off r):b<w.heap.size:=by
 rcases hh:w.heap[b]? with _ | o
 ·have:=h.c0;simp[World.cell?,hh]at this
 ·exact(Array.getElem?_eq_some_iff.1 hh).1
theorem dG.new(w:World)(r:Rc)(t:TypeId):dG (w.alloc (.cells #[.string r.l,.int .i64 r.v,.int .i64 r.o,.int .i64 r.p] t)) w.heap.size 0 r:=by
 have hh:=heap_alloc_new w (.cells #[.string r.l,.int .i64 r.v,.int .i64 r.o,.int .i64 r.p] t)
 constructor<;>(unfold World.cell?;rw[hh];rfl)
def Rcs(w:World)(v:Value)(l:Rcl):Prop:=
 (l=[]/\∃a c,v = .slice a 0 c)∨∃b off c,v = .slice (some ⟨b,off,none⟩) l.length c/\b<w.heap.size/\∀j,j<l.length->dG w b (off+j*4) (rAt l j)
theorem Rcs.below{w w':World}{v:Value}{l:Rcl}(h:Rcs w v l)(hb:Below w.heap.size w w'):Rcs w' v l:=by
 rcases h with h |⟨b,off,c,rfl,hlt,hc⟩
 ·exact Or.inl h
 ·exact Or.inr ⟨b,off,c,rfl,Nat.lt_of_lt_of_le hlt hb.size,fun j hj=>(hc j hj).below hb hlt⟩
theorem Rcs.shape{w:World}{v:Value}{l:Rcl}(h:Rcs w v l):∃a c,v = .slice a l.length c:=by
 rcases h with⟨rfl,a,c,rfl⟩ |⟨b,off,c,rfl,_⟩
 ·exact⟨a,c,rfl⟩
 ·exact⟨_,c,rfl⟩
theorem Rcs.at{w:World}{a:Option Addr}{n c:Nat}{l:Rcl}(h:Rcs w (.slice a n c) l)(h0:0<l.length):n=l.length/\∃b off,a=some ⟨b,off,none⟩/\b<w.heap.size/\∀j,j<l.length->dG w b (off+j*4) (rAt l j):=by
 rcases h with⟨rfl,_⟩ |⟨b,off,c',e,h1,h2⟩
 ·simp at h0
 ·cases e
  exact⟨rfl,b,off,rfl,h1,h2⟩
theorem Rcs.nil(w:World)(a:Option Addr)(c:Nat):Rcs w (.slice a 0 c) []:=Or.inl ⟨rfl,a,c,rfl⟩
def flR(l:Rcl):List Value:=l.flatMap fun r=>[.string r.l,.int .i64 r.v,.int .i64 r.o,.int .i64 r.p]
theorem pJ(l:Rcl):(flR l).length=l.length*4:=by
 unfold flR
 induction l with
 | nil=>rfl
 | cons p t ih=>rw[List.flatMap_cons,List.length_append,ih];simp;omega
theorem nJ(l m:Rcl):flR (l++m)=flR l++flR m:=by unfold flR;rw[List.flatMap_append]
theorem FK(l:Rcl):∀(j:Nat),j<l.length->(flR l)[j*4]? = some (.string (rAt l j).l)/\(flR l)[j*4+1]? = some (.int .i64 (rAt l j).v)/\(flR l)[j*4+2]? = some (.int .i64 (rAt l j).o)/\(flR l)[j*4+3]? = some (.int .i64 (rAt l j).p):=by
 induction l with
 | nil=>intro j h;simp at h
 | cons p t ih=>
  intro j h
  unfold flR
  rw[List.flatMap_cons]
  cases j with
  | zero=>simp[rAt]
  | succ j=>
   have:=ih j (by simpa using h)
   unfold flR at this
   rw[show(j+1)*4=j*4+1+1+1+1 by omega]
   simpa [rAt]using this
theorem pO{w:World}{B:Nat}{e:TypeId}{v:Value}{l:Rcl}(h:w.ownsRow B e 4 v l.length (flR l)):Rcs w v l:=by
 have h0:=h
 rcases h.2 with⟨rfl,hn⟩ |⟨g,cap,cur,rfl,hB,hg,_⟩
 ·left;exact⟨List.eq_nil_of_length_eq_zero hn,none,0,rfl⟩
 ·right
  refine⟨g,0,cap,rfl,(Array.getElem?_eq_some_iff.1 hg).1,fun j hj=> ?_⟩
  have:=FK l j hj
  rw[Nat.zero_add]
  exact⟨(h0.cellAt (j*4) (by omega)).trans this.1,(h0.cellAt (j*4+1) (by omega)).trans this.2.1,(h0.cellAt (j*4+2) (by omega)).trans this.2.2.1,(h0.cellAt (j*4+3) (by omega)).trans this.2.2.2⟩
theorem SL{w:World}{B n:Nat}{e:TypeId}{a:Option Addr}{c:Nat}{l:Rcl}(h:w.ownsRow B e 4 (.slice a n c) n (flR l)):Rcs w (.slice a n c) l:=by
 have h1:=h.1
 rw[pJ]at h1
 have:n=l.length:=by omega
 subst this
 exact pO h
theorem bI{w:World}{g:Nat}{x y z u:Value}{t:TypeId}(h:w.heap[g]? = some (.cells #[x,y,z,u] t)):w.cell? ⟨g,0,none⟩=some x/\w.cell? ⟨g,1,none⟩=some y/\w.cell? ⟨g,2,none⟩=some z/\w.cell? ⟨g,3,none⟩=some u:=by
 refine⟨?_, ?_, ?_, ?_⟩<;>(unfold World.cell?;rw[h];rfl)
def Lbs(l:Rcl):Prop:=∀r∈l,r.l.size<=1048576
theorem Lbs.at{l:Rcl}(h:Lbs l){j:Nat}(hj:j<l.length):(rAt l j).l.size<=1048576:=h _ (x9 hj)
theorem bM.lbs{l:Rcl}(h:bM l):Lbs l:=fun r hr=>by
 obtain⟨j,hj,rfl⟩:=List.mem_iff_getElem.1 hr
 have:=(h.WV hj).small
 rw[fA hj]at this
 omega
theorem eX(l:ByteArray)(v o p:Int)(w:World)(h:aV l=0):
  Calls Tryz.prog 72 #[bP l v o p] w fun e w'=>e = .returned (.int .i64 (aS l))/\Below w.heap.size w w':=by
 have hs:=kE h
 have hK:=fun w=>Ey l w (by omega)
 rw[KR h,h]at hK
 have hf:=Ak
 unfold bP
 generalize aS l=z at *
 clear h hs
 go_enter Tryz.func72,Tryz.ntmps72
 go_wp2_with fail
 refine(hK _).mono ?_
 rintro e w1 ⟨rfl,hb1⟩
 clear hK
 go_wp2
 go_ret
 exact⟨rfl,ak hb1⟩
theorem qI(b off c n:Nat)(l:Rcl)(w:World)(hn:n<=12)(hb:b<w.heap.size)(hl:∀j,j<n->(rAt l j).l.size<=1048576)
  (hc:∀j,j<n->dG w b (off+j*4) (rAt l j)) :
  Calls Tryz.prog 63 #[.agg #[.slice (some ⟨b,off,none⟩) n c]] w fun e w'=>e = .returned (.int .i64 (dh l n 0))/\Below w.heap.size w w':=by
 obtain⟨q,hq⟩:∃q,q=dh l n 0:=⟨_,rfl⟩
 have HQ:Hid (dh l n 0=q):=hq.symm
 rw[←hq]
 clear hq
 go_enter Tryz.func63,Tryz.ntmps63
 go_wp2
 go_loopw [3,15] (fun u i wr=>∃k:Nat,k<=n/\i = .int .i64 k/\u = .int .i64 (gZ l k)/\Hid (Below w.heap.size w wr)/\Hid (dh l (n - k) k=q)) (fun _ i _=>n - (intOf i).toNat)
 case atStart=>exact⟨0,Nat.zero_le _,rfl,rfl,aj _,HQ⟩
 case round=>
  obtain⟨k,hk,rfl,rfl,hB,HS⟩:=hrel
  by_cases hkn:k<n
  ·have hki:(k:Int)<(n:Int):=by omega
   have hr:=(hc k hkn).below hB.out hb
   have hI:=fun w=>bZ (rAt l k).l (rAt l k).v (rAt l k).o (rAt l k).p w (hl k hkn)
   have jM:Hid (n - k=(n - k - 1)+1):=(by omega:n - k=(n - k - 1)+1)
   have HF:Hid (¬(rAt l k).c=0->q=(rAt l k).c):=(fun h=>by rw[←HS.out,jM.out];exact y9 h:¬(rAt l k).c=0->q=(rAt l k).c)
   have HO:Hid ((rAt l k).c=0->(rAt l k).k<=gZ l k->q=1):=(fun h h1=>by rw[←HS.out,jM.out];exact BJ h h1:(rAt l k).c=0->(rAt l k).k<=gZ l k->q=1)
   have HT:Hid ((rAt l k).c=0->¬(rAt l k).k<=gZ l k->dh l (n - k - 1) (k+1)=q):=(fun h h1=>by rw[←HS.out,jM.out];exact(ug h h1).symm:(rAt l k).c=0->¬(rAt l k).k<=gZ l k->dh l (n - k - 1) (k+1)=q)
   have eP:=fun (h:(rAt l k).c=0) w=>eX (rAt l k).l (rAt l k).v (rAt l k).o (rAt l k).p w (Rc.jm h)
   have HA:Hid (gZ l (k+1)=(rAt l k).k):=rfl
   have e1:recC (rAt l k).l (rAt l k).v (rAt l k).o (rAt l k).p=(rAt l k).c:=rfl
   have e2:aS (rAt l k).l=(rAt l k).k:=rfl
   rw[e1]at hI
   rw[e2]at eP
   obtain⟨d0,d1,d2,d3⟩:=hr
   unfold bP at *
   obtain⟨cz,hcz⟩:∃cz,cz=(rAt l k).c:=⟨_,rfl⟩
   rw[←hcz]at hI eP HF HO HT
   generalize (rAt l k).k=kz at *
   generalize gZ l k=az at *
   generalize (rAt l k).l=x0 at *
   generalize (rAt l k).v=x1 at *
   generalize (rAt l k).o=x2 at *
   generalize (rAt l k).p=x3 at *
   clear hc e1 e2 hcz hl
   obtain⟨W,hW⟩:∃W,W=wr.alloc (.cells #[.string x0,.int .i64 x1,.int .i64 x2,.int .i64 x3] 46):=⟨_,rfl⟩
   have HW:Hid _:=hW.symm
   have Dz:Hid (Below w.heap.size w W):=(by rw[hW];exact hB.out.alloc hB.out.size _:Below w.heap.size w W)
   have DC:Hid (W.heap[wr.heap.size]? = some (.cells #[.string x0,.int .i64 x1,.int .i64 x2,.int .i64 x3] 46)):=(by rw[hW];exact heap_alloc_new wr _:W.heap[wr.heap.size]? = some (.cells #[.string x0,.int .i64 x1,.int .i64 x2,.int .i64 x3] 46))
   obtain⟨g0,g1,g2,g3⟩:=bI DC.out
   have hbr:b<wr.heap.size:=Nat.lt_of_lt_of_le hb hB.out.size
   clear hW
   by_cases hc0:cz=0
   ·subst hc0
    have hK2:=eP rfl
    have kN:Hid (kz<=az->q=1):=HO.out rfl
    have HT2:Hid (¬kz<=az->dh l (n - k - 1) (k+1)=q):=HT.out rfl
    clear HF HO HT eP
    go_wp2_with fail
    rw[HW.out]
    refine(hI _).mono ?_
    rintro e w1 ⟨rfl,hb1⟩
    have hlt:wr.heap.size<W.heap.size:=(Array.getElem?_eq_some_iff.1 DC.out).1
    obtain⟨j0,j1,j2,j3⟩:=bI ((hb1.block wr.heap.size hlt).trans DC.out)
    have HB1:Hid (Below w.heap.size w w1):=ah Dz.out hb1
    clear hI hb1
    go_wp2_with fail
    refine(hK2 _).mono ?_
    rintro e w2 ⟨rfl,hb2⟩
    have HB2:Hid (Below w.heap.size w w2):=ah HB1.out hb2
    clear hK2 hb2
    by_cases hle:kz<=az
    ·have XO:=kN.out hle
     have fK:Hid (q=1):=XO
     clear XO
     go_wp2
     go_ret
     exact⟨aC fK.out.symm,HB2.out⟩
    ·have fK:Hid (dh l (n - k - 1) (k+1)=q):=HT2.out (by omega)
     go_wp2
     go_roundw
     case rel=>exact⟨k+1,by omega,by go_num,by rw[HA.out],HB2,by rw[show n - (k+1)=n - k - 1 by omega];exact fK⟩
     case measure=>simp[intOf];omega
   ·have hcn:(cz != 0)=true:=by simpa using hc0
    have fK:Hid (q=cz):=HF.out hc0
    clear HF HO HT eP hc0
    go_wp2_with fail
    rw[HW.out]
    refine(hI _).mono ?_
    rintro e w1 ⟨rfl,hb1⟩
    have HB1:Hid (Below w.heap.size w w1):=ah Dz.out hb1
    clear hI hb1
    go_wp2
    go_ret
    exact⟨aC fK.out.symm,HB1.out⟩
  ·have hkn:k=n:=by omega
   subst hkn
   have e0:Hid (q=0):=(by rw[←HS.out,Nat.sub_self];rfl:q=0)
   clear hc
   go_wp2
   go_ret
   exact⟨aC e0.out.symm,hB.out⟩
theorem aJ(v:Value)(l:Rcl)(w:World)(hv:Rcs w v l)(hl:Lbs l)(hx:l.length<=1099511627776):
  Calls Tryz.prog 63 #[.agg #[v]] w fun e w'=>e = .returned (.int .i64 (aB l))/\Below w.heap.size w w':=by
 obtain⟨a,c,rfl⟩:=hv.shape
 by_cases h:12<l.length
 ·rw[vI h]
  generalize l.length=n at *
  clear hv
  go_enter Tryz.func63,Tryz.ntmps63
  go_wp2
  go_ret
  exact⟨rfl,aj _⟩
 ·rw[qM h]
  by_cases h0:0<l.length
  ·obtain⟨_,b,off,rfl,hb,hc⟩:=hv.at h0
   exact qI b off c l.length l w (by omega) hb (fun j hj=>hl.at hj) hc
  ·have e1:l=[]:=List.eq_nil_of_length_eq_zero (by omega)
   subst e1
   simp only[List.length_nil]
   have e2:dh [] 0 0=0:=rfl
   rw[e2]
   clear hv h0 hx h e2
   go_enter Tryz.func63,Tryz.ntmps63
   go_wp2
   refine wp_loop_rounds 1 ?_;rw[rounds_succ]
   go_wp2
   go_ret
   exact⟨rfl,aj _⟩
theorem Bf(g off:Nat)(l:ByteArray)(v o p:Int)(w:World)(h:dG w g off ⟨l,v,o,p⟩)(hs:l.size<=1048576):
  Calls Tryz.prog 92 #[.pointer (some ⟨g,off,none⟩)] w fun e w'=>e = .returned (.int .i64 (recC l v o p))/\Below w.heap.size w w':=by
 have hL:=fun w=>Jy l w hs
 have hA:=Bq (l:=l) (v:=v) (o:=o) (p:=p)
 have hF:=Eb (l:=l) (v:=v) (o:=o) (p:=p)
 have hR:=Bv (l:=l) (v:=v) (o:=o) (p:=p)
 have hK:=Le (l:=l) (v:=v) (o:=o) (p:=p)
 have hsm:=kE (s:=l)
 generalize recC l v o p=rc at *
 generalize aV l=c at *
 by_cases h0:c=0
 ·subst h0
  have h12:=hsm rfl
  have HF:Hid (fM l=false->rc=1):=hF rfl
  have HR:Hid (fM l=true->jL v o p=false->rc=3):=hR rfl
  have HK:Hid (fM l=true->jL v o p=true->rc=0):=hK rfl
  have ER:Hid (((dD l).toList==l.toList)=fM l):=rfl
  clear hsm hF hR hK hA
  have hc0:w.cell? ⟨g,off,none⟩=some (.string l):=h.c0
  go_enter Tryz.func92,Tryz.ntmps92
  go_wp2_with fail
  refine(hL _).mono ?_
  rintro e w1 ⟨rfl,hb1⟩
  have h1:=h.below hb1 h.lt
  clear h hc0 hL
  have hc0:w1.cell? ⟨g,off,none⟩=some (.string l):=h1.c0
  have hq0:=After.cell hc0
  have hne:=After.ne w1
  rcases Bool.eq_false_or_eq_true (fM l)with hf | hf
  ·have hfb:=ER.out
   rw[hf]at hfb
   go_wp2_with fail
   refine au (by kernel_rfl) (by kernel_rfl) ?_
   repeat(first | go_big_quiet_skip |(go_big_quiet_want;go_big_quiet_op;first | go_big_quiet_on | go_big_quiet_call (first |(go_at_call 133;refine(sZ l _ h12).mono ?_;rintro e wq ⟨rfl,hbq⟩;exact⟨rfl,aA (ah (After.b _) hbq)⟩))))
   refine wpQuiet_nil ?_
   rintro _ ⟨n6,rfl⟩
   have hb6:=n6.b
   have h6:=h1.below hb6 h1.lt
   have iT:=ah hb1 hb6
   generalize n6.w=w6 at *
   clear h1 hc0 hq0 hne n6
   have hc1:w6.cell? ⟨g,off+1,none⟩=some (.int .i64 v):=h6.c1
   have hc2:w6.cell? ⟨g,off+2,none⟩=some (.int .i64 o):=h6.c2
   have hc3:w6.cell? ⟨g,off+3,none⟩=some (.int .i64 p):=h6.c3
   clear hfb ER
   rcases Bool.eq_false_or_eq_true (inB v 1 999)with hv | hv
   ·rcases Bool.eq_false_or_eq_true (aP o)with ho | ho
    ·rcases Bool.eq_false_or_eq_true (aP p)with hp | hp
     ·go_wp2_with (first |(go_at_call 51;refine(bg _ _ _ _).mono ?_;rintro e wq ⟨rfl,rfl⟩) |(go_at_call 134;refine(lg _ _).mono ?_;rintro e wq ⟨rfl,rfl⟩))
      go_ret
      exact⟨aC (HK.out hf (by simp[jL,hv,ho,hp])).symm,iT⟩
     ·go_wp2_with (first |(go_at_call 51;refine(bg _ _ _ _).mono ?_;rintro e wq ⟨rfl,rfl⟩) |(go_at_call 134;refine(lg _ _).mono ?_;rintro e wq ⟨rfl,rfl⟩))
      go_ret
      exact⟨aC (HR.out hf (by simp[jL,hv,ho,hp])).symm,iT⟩
    ·go_wp2_with (first |(go_at_call 51;refine(bg _ _ _ _).mono ?_;rintro e wq ⟨rfl,rfl⟩) |(go_at_call 134;refine(lg _ _).mono ?_;rintro e wq ⟨rfl,rfl⟩))
     go_ret
     exact⟨aC (HR.out hf (by simp[jL,hv,ho])).symm,iT⟩
   ·go_wp2_with (first |(go_at_call 51;refine(bg _ _ _ _).mono ?_;rintro e wq ⟨rfl,rfl⟩) |(go_at_call 134;refine(lg _ _).mono ?_;rintro e wq ⟨rfl,rfl⟩))
    go_ret
    exact⟨aC (HR.out hf (by simp[jL,hv])).symm,iT⟩
  ·have hfb:=ER.out
   rw[hf]at hfb
   go_wp2_with fail
   refine au (by kernel_rfl) (by kernel_rfl) ?_
   repeat(first | go_big_quiet_skip |(go_big_quiet_want;go_big_quiet_op;first | go_big_quiet_on | go_big_quiet_call (first |(go_at_call 133;refine(sZ l _ h12).mono ?_;rintro e wq ⟨rfl,hbq⟩;exact⟨rfl,aA (ah (After.b _) hbq)⟩))))
   refine wpQuiet_nil ?_
   rintro _ ⟨n6,rfl⟩
   have hb6:=n6.b
   have iT:=ah hb1 hb6
   generalize n6.w=w6 at *
   clear h1 hc0 hq0 hne n6
   go_wp2
   go_ret
   exact⟨aC (HF.out hf).symm,iT⟩
 ·have h1:(c != 0)=true:=by simpa using h0
  have HA:Hid (rc=c):=hA h0
  clear hA hF hR hK hsm h0
  have hc0:w.cell? ⟨g,off,none⟩=some (.string l):=h.c0
  go_enter Tryz.func92,Tryz.ntmps92
  go_wp2_with fail
  refine(hL _).mono ?_
  rintro e w1 ⟨rfl,hb1⟩
  go_wp2
  go_ret
  exact⟨aC HA.out.symm,hb1⟩
structure LK(l:ByteArray)(k:Int):Prop where
 c:∀w,Calls Tryz.prog 104 #[.string l] w fun e w'=>e = .returned (.int .i64 k)/\Below w.heap.size w w'
theorem Ut{l:Rcl}{k:Nat}{x:Int}(h0:0<=x)(h:k=0):gZ l k<x:=by subst h;show -1<x;omega
theorem Ht(g og b off c n:Nat)(l:Rcl)(w:World)(hn:n<=12)(hg:g<w.heap.size)(hb:b<w.heap.size)(hl:∀j,j<n->(rAt l j).l.size<=1048576)
  (hD:w.cell? ⟨g,og,none⟩=some (.slice (some ⟨b,off,none⟩) n c)) (hc:∀j,j<n->dG w b (off+j*4) (rAt l j)) :
  Calls Tryz.prog 52 #[.pointer (some ⟨g,og,none⟩)] w fun e w'=>e = .returned (.int .i64 (dh l n 0))/\Below w.heap.size w w':=by
 obtain⟨q,hq⟩:∃q,q=dh l n 0:=⟨_,rfl⟩
 have HQ:Hid (dh l n 0=q):=hq.symm
 rw[←hq]
 clear hq
 have hD0:=hD
 have HD:Hid (∀w',Below w.heap.size w w'->w'.cell? ⟨g,og,none⟩=some (.slice (some ⟨b,off,none⟩) n c)):=fun w' h=>(h.cell (p:=⟨g,og,none⟩) hg).trans hD
 go_enter Tryz.func52,Tryz.ntmps52
 go_wp2
 go_loopw [3] (fun i wr=>∃k:Nat,k<=n/\i = .int .i64 k/\Hid (Below w.heap.size w wr)/\Hid (dh l (n - k) k=q)/\Hid (0<k->(rAt l (k - 1)).c=0)) (fun i _=>n - (intOf i).toNat)
 case atStart=>exact⟨0,Nat.zero_le _,rfl,Below.refl _ _,HQ,fun h=>absurd h (by omega)⟩
 case round=>
  obtain⟨k,hk,rfl,hB,HS,HP⟩:=hrel
  have Ap:=HD.out _ hB.out
  by_cases hkn:k<n
  ·have hki:(k:Int)<(n:Int):=by omega
   have hr:=(hc k hkn).below hB.out hb
   have hI:=fun w' h=>Bf b (off+k*4) (rAt l k).l (rAt l k).v (rAt l k).o (rAt l k).p w' h (hl k hkn)
   have jM:Hid (n - k=(n - k - 1)+1):=(by omega:n - k=(n - k - 1)+1)
   have HF:Hid (¬(rAt l k).c=0->q=(rAt l k).c):=(fun h=>by rw[←HS.out,jM.out];exact y9 h:¬(rAt l k).c=0->q=(rAt l k).c)
   have HO:Hid ((rAt l k).c=0->(rAt l k).k<=gZ l k->q=1):=(fun h h1=>by rw[←HS.out,jM.out];exact BJ h h1:(rAt l k).c=0->(rAt l k).k<=gZ l k->q=1)
   have HT:Hid ((rAt l k).c=0->¬(rAt l k).k<=gZ l k->dh l (n - k - 1) (k+1)=q):=(fun h h1=>by rw[←HS.out,jM.out];exact(ug h h1).symm:(rAt l k).c=0->¬(rAt l k).k<=gZ l k->dh l (n - k - 1) (k+1)=q)
   have HI:=hI wr hr
   have e1:recC (rAt l k).l (rAt l k).v (rAt l k).o (rAt l k).p=(rAt l k).c:=rfl
   rw[e1]at HI
   have E5:Hid ((rAt l k).c=0->(rAt l k).l.size<=12):=fun h=>Rc.jC h
   have HN:Hid (0<=(rAt l k).k):=(rAt l k).kbd.1
   have HR:Hid (dG wr b (off+k*4) (rAt l k)):=hr
   clear hI hr e1
   by_cases hc0:(rAt l k).c=0
   ·rw[hc0]at HI
    have kN:=HO.out hc0
    have HT2:=HT.out hc0
    have iY:Hid ((rAt l k).k<=gZ l k->q=1):=kN
    have HT3:Hid (¬(rAt l k).k<=gZ l k->dh l (n - k - 1) (k+1)=q):=HT2
    have hsm:=E5.out hc0
    have yL:Hid (0<k+1->(rAt l (k+1 - 1)).c=0):=fun _=>hc0
    clear kN HT2 HO HT HF E5
    go_wp2_with fail
    refine HI.mono ?_
    rintro e w1 ⟨rfl,hb1⟩
    have HB1:Hid (Below w.heap.size w w1):=ah hB.out hb1
    have hbr:b<wr.heap.size:=Nat.lt_of_lt_of_le hb hB.out.size
    have r1:=(HR.out.below hb1 hbr).c0
    have hD1:=HD.out _ HB1.out
    clear HI hb1 Ap
    rcases k with _ | m
    ·have hg0:decide (((0:Nat):Int)>0)=false:=by simp
     have HT4:Hid (dh l (n - 0 - 1) (0+1)=q):=HT3.out (Ut HN.out rfl)
     clear hc iY HT3 HR
     go_wp2
     go_quiet (fail)
     go_wp2
     go_roundw
     case rel=>exact⟨1,by omega,by go_num,below_drewN HB1.out _,HT4,yL⟩
     case measure=>simp[intOf];omega
    ·have hp0:(rAt l m).c=0:=HP.out (by omega)
     have r2:=((hc m (by omega)).below HB1.out hb).c0
     have WH:=Rc.jC hp0
     have hK1:LK (rAt l (m+1)).l (aS (rAt l (m+1)).l):=⟨fun w=>ku (rAt l (m+1)).l w hsm⟩
     have hK2:LK (rAt l m).l (aS (rAt l m).l):=⟨fun w=>ku (rAt l m).l w WH⟩
     have e2:aS (rAt l (m+1)).l=(rAt l (m+1)).k:=rfl
     have e3:aS (rAt l m).l=gZ l (m+1):=rfl
     rw[e2]at hK1
     rw[e3]at hK2
     have hkg:decide (0<((m+1:Nat):Int))=true:=by simp
     have Yi:(m:Int)<(n:Int):=by omega
     have hq1:=After.cell r1
     have hq2:=After.cell r2
     have hqD:=After.cell hD1
     have hne:=After.ne w1
     generalize (rAt l (m+1)).k=kz at *
     generalize gZ l (m+1)=az at *
     generalize (rAt l (m+1)).l=x0 at *
     generalize (rAt l m).l=y0 at *
     clear hc HR HP hp0 e2 e3 hl hsm WH HS HN
     by_cases hle:kz<=az
     ·have fK:Hid (q=1):=iY.out hle
      have hd:decide (kz<=az)=true:=by simpa using hle
      clear iY HT3 hle
      go_wp2_with fail
      refine au (by kernel_rfl) (by kernel_rfl) ?_
      repeat(first | go_big_quiet_skip |(go_big_quiet_want;go_big_quiet_op;first | go_big_quiet_on | go_big_quiet_call (first |(go_at_call 104;refine(LK.c (by assumption) _).mono ?_;rintro e wq ⟨rfl,hbq⟩;exact⟨rfl,aA (ah (After.b _) hbq)⟩))))
      refine wpQuiet_nil ?_
      rintro _ ⟨n6,rfl⟩
      have gI:Hid (Below w.heap.size w n6.w):=ah HB1.out n6.b
      go_wp2
      go_ret
      exact⟨aC fK.out.symm,gI.out⟩
     ·have fK:Hid (dh l (n - (m+1) - 1) (m+1+1)=q):=HT3.out (by omega)
      have hd:decide (kz<=az)=false:=by simpa using hle
      clear iY HT3 hle
      go_wp2_with fail
      refine au (by kernel_rfl) (by kernel_rfl) ?_
      repeat(first | go_big_quiet_skip |(go_big_quiet_want;go_big_quiet_op;first | go_big_quiet_on | go_big_quiet_call (first |(go_at_call 104;refine(LK.c (by assumption) _).mono ?_;rintro e wq ⟨rfl,hbq⟩;exact⟨rfl,aA (ah (After.b _) hbq)⟩))))
      refine wpQuiet_nil ?_
      rintro _ ⟨n6,rfl⟩
      have gI:Hid (Below w.heap.size w n6.w):=ah HB1.out n6.b
      generalize n6.w=w6 at *
      clear hne hq1 hq2 hqD
      go_wp2
      go_roundw
      case rel=>exact⟨m+1+1,by omega,by go_num,gI,by rw[show n - (m+1+1)=n - (m+1) - 1 by omega];exact fK,yL⟩
      case measure=>simp[intOf];omega
   ·have hcn:((rAt l k).c != 0)=true:=by simpa using hc0
    have fK:Hid (q=(rAt l k).c):=HF.out hc0
    generalize (rAt l k).c=cz at *
    clear HF HO HT hc0 E5 hc HR HN
    go_wp2_with fail
    refine HI.mono ?_
    rintro e w1 ⟨rfl,hb1⟩
    have HB1:Hid (Below w.heap.size w w1):=ah hB.out hb1
    clear HI hb1
    go_wp2
    go_ret
    exact⟨aC fK.out.symm,HB1.out⟩
  ·have hkn:k=n:=by omega
   subst hkn
   have e0:Hid (q=0):=(by rw[←HS.out,Nat.sub_self];rfl:q=0)
   clear hc
   go_wp2
   go_ret
   exact⟨aC e0.out.symm,hB.out⟩
theorem iQ(g og:Nat)(v:Value)(l:Rcl)(w:World)(hg:g<w.heap.size)(hD:w.cell? ⟨g,og,none⟩=some v)(hv:Rcs w v l)(hl:Lbs l)(hx:l.length<=1099511627776):
  Calls Tryz.prog 52 #[.pointer (some ⟨g,og,none⟩)] w fun e w'=>e = .returned (.int .i64 (aB l))/\Below w.heap.size w w':=by
 obtain⟨a,c,rfl⟩:=hv.shape
 by_cases h:12<l.length
 ·rw[vI h]
  generalize l.length=n at *
  clear hv
  go_enter Tryz.func52,Tryz.ntmps52
  go_wp2
  go_ret
  exact⟨rfl,Below.refl _ _⟩
 ·rw[qM h]
  by_cases h0:0<l.length
  ·obtain⟨_,b,off,rfl,hb,hc⟩:=hv.at h0
   exact Ht g og b off c l.length l w (by omega) hg hb (fun j hj=>hl.at hj) hD hc
  ·have e1:l=[]:=List.eq_nil_of_length_eq_zero (by omega)
   subst e1
   simp only[List.length_nil]at *
   have e2:dh [] 0 0=0:=rfl
   rw[e2]
   clear hv h0 hx h e2
   go_enter Tryz.func52,Tryz.ntmps52
   go_wp2
   refine wp_loop_rounds 1 ?_;rw[rounds_succ]
   go_wp2
   go_ret
   exact⟨rfl,Below.refl _ _⟩
structure pW(w:World)(g off:Nat)(l:ByteArray)(v o p:Int):Prop where
 c0:w.cell? ⟨g,off,none⟩=some (.string l)
 c1:w.cell? ⟨g,off+1,none⟩=some (.int .i64 v)
 c2:w.cell? ⟨g,off+2,none⟩=some (.int .i64 o)
 c3:w.cell? ⟨g,off+3,none⟩=some (.int .i64 p)
theorem pW.below{w w':World}{g off:Nat}{l:ByteArray}{v o p:Int}(h:pW w g off l v o p)(hb:Below w.heap.size w w'):pW w' g off l v o p:=
 ⟨After.cell h.c0 ⟨w',hb⟩,After.cell h.c1 ⟨w',hb⟩,After.cell h.c2 ⟨w',hb⟩,After.cell h.c3 ⟨w',hb⟩⟩
theorem dG.t{w:World}{b off:Nat}{r:Rc}(h:dG w b off r):pW w b off r.l r.v r.o r.p:=⟨h.c0,h.c1,h.c2,h.c3⟩
theorem pW.grown{w w':World}{g off:Nat}{l:ByteArray}{v o p:Int}{row:Option Nat}(h:pW w g off l v o p)(hg:w.grownBy w' row)(hne:some g≠row):pW w' g off l v o p:=
 ⟨hg.cell h.c0 hne,hg.cell h.c1 hne,hg.cell h.c2 hne,hg.cell h.c3 hne⟩
theorem PX(g off:Nat)(l:ByteArray)(v o p:Int)(w:World)(h:pW w g off l v o p)(hsm:l.size<=12)(hl0:0<l.size)(hSS : [v,o,p].all aP=true)(hg:g<w.heap.size):
  Calls Tryz.prog 195 #[.pointer (some ⟨g,off,none⟩)] w fun e w'=>∃v',e = .returned v'/\w'.ownsRow w.heap.size 5 1 v' (dI l v o p).length ((dI l v o p).map (Value.int .u8))/\Below w.heap.size w w':=by
 obtain⟨i0,hi,hz0,hz1,hz2⟩:=info_parts Tryz.AU
 have hws:IntKind.u8.wrap (l.size:Int)=(l.size:Int):=lM _ (by omega) (by omega)
 have kc:=fun (w:World)=>run_bytes_of_string (P:=Tryz.prog) w 9 192 5 l Tryz.underlying9 Tryz.underlying192 Tryz.underlying5
 have hc0:=h.c0
 obtain⟨n,hn⟩:∃n,n=l.size:=⟨_,rfl⟩
 have hbn:=ou l
 go_enter Tryz.func195,Tryz.ntmps195
 go_wp2
 go_region_law (first
  |(refine step_append_lies _ (by rfl) _ _ _ (by rfl) w.heap.size 5 i0 _ 1 1 Tryz.underlying192 hi hz0 hz1 hz2 rfl (by omega) (.slice (some ⟨w.heap.size,0,none⟩) 2 2) 2 [.int .u8 1,.int .u8 (l.size:Int)] (by rfl) ((((zO w 1 l.size).alloc _).drew).drew) ⟨w.heap.size+1,0,none⟩ l.size _ ((bl l).map (Value.int .u8)) (by rfl) (by simp[hbn]) (IL (rowA w _ l _ _)) (ints_oneCell .u8 (bl l)) (by omega) (by unfold maxLen;omega) (by omega) (by simp;try omega) (w.heap.size+2) (by simp) ?_;intro g1 cap1 w1 hown1 hgrow hat hlt)
  |(refine step_append_lies _ (by rfl) _ _ _ (by rfl) w.heap.size 5 i0 _ 1 1 Tryz.underlying192 hi hz0 hz1 hz2 rfl (by omega) (.slice (some ⟨w.heap.size+1,0,none⟩) 2 2) 2 [.int .u8 1,.int .u8 (l.size:Int)] (by rfl) (ownB w _ 1 l.size) ⟨w.heap.size,0,none⟩ l.size _ ((bl l).map (Value.int .u8)) (by rfl) (by simp[hbn]) (IL (rowB w _ l _ _)) (ints_oneCell .u8 (bl l)) (by omega) (by unfold maxLen;omega) (by omega) (by simp;try omega) (w.heap.size+2) (by simp) ?_;intro g1 cap1 w1 hown1 hgrow hat hlt))
 all_goals (
  have hb1:Below w.heap.size w w1:=((aN _ _).drew.drew).grown hgrow (by simp;try omega) (fun k hk=>by simp[Value.ownBlock]at hk;omega)
  have bG:w1.ownsRow w.heap.size 5 1 (.slice (some ⟨g1,0,none⟩) (2+l.size) cap1) (2+l.size) ((jy l).map (Value.int .u8)):=hown1
  have abe:w.heap.size<=g1:=(bG.lt g1 rfl).1
  clear hgrow hown1 hat
  have R1:=h.below hb1
  have hg1:g<w1.heap.size:=Nat.lt_of_lt_of_le hg hb1.size
  have⟨c0,c1,c2,c3⟩:=R1
  have hS:=hSS
  have HS:Hid ([v,o,p].all aP=true):=hS
  clear hS hc0 kc
  have h6:(six v o p).length=6:=rfl
  go_wp2
  go_region_held3 (fun w'=>w'.cell? ⟨g,off+1,none⟩=some (.int .i64 v)/\w'.cell? ⟨g,off+2,none⟩=some (.int .i64 o)/\w'.cell? ⟨g,off+3,none⟩=some (.int .i64 p)) (first | go_keep |(have R2:=R1.below hb2';exact⟨R2.c1,R2.c2,R2.c3⟩) |(have R3:=(R1.below hb2').grown hgrow3 (by simp[Value.ownBlock];omega);exact⟨R3.c1,R3.c2,R3.c3⟩)|exact True.intro) (first
   |(go_at_call 174;refine(RV _ v o p _ ?_ HS.out).mono ?_;(first | exact wS w1 v o p _ | exact wS w1.drew v o p _ |(trace_state;fail));rintro e w2 ⟨g2,cap2,rfl,hcap2,hg2,abd,PD,hb2⟩;have hb2':Below w1.heap.size w1 w2:=(by first | exact ah (aj _).drew hb2 | exact ah (aj _) hb2);have dA:=own_below bG hb2';clear hb2)
   |(refine step_append_lies _ (by rfl) _ _ _ (by rfl) w.heap.size 5 i0 _ 1 1 Tryz.underlying192 hi hz0 hz1 hz2 rfl (by omega) (.slice (some ⟨g1,0,none⟩) (2+l.size) cap1) (2+l.size) ((jy l).map (Value.int .u8)) (by rfl) dA ⟨g2,1,none⟩ 6 (cap2 - 1) ((six v o p).map (Value.int .u8)) (by simp[Act.eval];omega) (by simp[h6]) PD (ints_oneCell .u8 (six v o p)) (by omega) (by unfold maxLen;omega) (by omega) (by have q1:=hb1.size;have q2:=hb2'.size;simp;omega) w2.heap.size (by simp) ?_;intro g3 cap3 w3 hown3 hgrow3 YD hlt3))
  have hb3:Below w.heap.size w w3:=(ah hb1 hb2').grown hgrow3 (by have q1:=hb1.size;have q2:=hb2'.size;omega) (fun k hk=>by simp[Value.ownBlock]at hk;omega)
  clear hgrow3 YD dA bG hb2' PD R1 c0 c1 c2 c3
  go_wp2
  go_ret
  refine⟨_,rfl, ?_,hb3⟩
  have e1:dI l v o p=jy l++six v o p:=rfl
  have e2:(dI l v o p).length=2+l.size+6:=by rw[xg];omega
  rw[e2,e1,List.map_append]
  exact hown3)
theorem Np(g off:Nat)(l:ByteArray)(v o p:Int)(w:World)(h:pW w g off l v o p)(hR:o7 l v o p)(hg:g<w.heap.size):
  Calls Tryz.prog 195 #[.pointer (some ⟨g,off,none⟩)] w fun e w'=>∃v',e = .returned v'/\w'.ownsRow w.heap.size 5 1 v' (dI l v o p).length ((dI l v o p).map (Value.int .u8))/\Below w.heap.size w w':=PX g off l v o p w h hR.small hR.pos hR.sums hg
theorem RX(g off:Nat)(l:ByteArray)(v o p:Int)(w:World)(h:pW w g off l v o p)(hR:o7 l v o p)(hg:g<w.heap.size):
  Calls Tryz.prog 170 #[.pointer (some ⟨g,off,none⟩)] w fun e w'=>e = .returned (.int .i64 (bn (dI l v o p)))/\Below w.heap.size w w':=by
 have hbt:=D9 hR
 have hln:(dI l v o p).length<=1099511627776:=by rw[xg];have:=hR.small;omega
 have hP:=Np g off l v o p w h hR hg
 generalize dI l v o p=ys at *
 go_enter Tryz.func170,Tryz.ntmps170
 go_wp2_with fail
 refine hP.mono ?_
 rintro e w1 ⟨v',rfl,ho1,hb1⟩
 have hI:=gq ho1
 obtain⟨a',c',rfl⟩:=aW ho1
 clear ho1 hP
 go_wp2_with fail
 refine(kC _ ys _ hI hbt hln).mono ?_
 rintro e w2 ⟨rfl,rfl⟩
 go_wp2
 go_ret
 exact⟨rfl,hb1⟩
end U
end Go.Proofs.YtmmcgjacojgeaaaGreat
namespace Go.Proofs.YtmmcgjacojgeaaaGreat
namespace U
abbrev Prl:=List (Int × Int)
def t2(a b:Int):Int:=bn (aZ 2 [a,b])
def l3(p:Int × Int):Int:=bn (aZ 3 [p.1,p.2])
def emp:Nat->Int
 | 0=>13
 | n+1=>t2 (emp n) (emp n)
theorem Ul(a b:Int):0<=t2 a b/\t2 a b<=65520:=nR _
theorem Xl(p:Int × Int):0<=l3 p/\l3 p<=65520:=nR _
theorem Aj(n:Nat):0<=emp n/\emp n<=65520:=by
 cases n with
 | zero=>simp[emp]
 | succ n=>exact Ul _ _
abbrev has(l:Prl)(n:Nat)(q:Int):Prop:=∃p∈l,p.1/(2^n:Nat)=q
def nd(l:Prl):Nat->Int->Int
 | 0,q=>match l.find? (fun p=>p.1==q)with | some p=>l3 p | none=>13
 | n+1,q=>if has l (n+1) q then t2 (nd l n (2*q)) (nd l n (2*q+1))else emp (n+1)
theorem iD(l:Prl)(n:Nat)(q:Int):0<=nd l n q/\nd l n q<=65520:=by
 cases n with
 | zero=>
  unfold nd
  split
  ·exact Xl _
  ·omega
 | succ n=>
  unfold nd
  split
  ·exact Ul _ _
  ·exact Aj _
theorem iG{l:Prl}{n:Nat}{q:Int}(h:¬has l n q):nd l n q=emp n:=by
 cases n with
 | zero=>
  unfold nd emp
  have:l.find? (fun p=>p.1==q)=none:=by
   rw[List.find?_eq_none]
   intro p hp e
   exact h ⟨p,hp,by have:=(beq_iff_eq).1 e;simp[this]⟩
  rw[this]
 | succ n=>unfold nd;rw[if_neg h]
theorem ig(x:Int)(n:Nat):x/(2^(n+1):Nat)=x/(2^n:Nat)/2:=by
 rw[Nat.pow_succ,Int.natCast_mul,Int.ediv_ediv_of_nonneg (Int.natCast_nonneg _)]
 rfl
theorem RF(l:Prl)(n:Nat)(q:Int):has l (n+1) q↔has l n (2*q)∨has l n (2*q+1):=by
 unfold has
 constructor
 ·rintro⟨p,hp,e⟩
  rw[ig]at e
  rcases(by omega:p.1/(2^n:Nat)=2*q∨p.1/(2^n:Nat)=2*q+1)with h | h
  ·exact Or.inl ⟨p,hp,h⟩
  ·exact Or.inr ⟨p,hp,h⟩
 ·rintro(⟨p,hp,e⟩ |⟨p,hp,e⟩)
  ·exact⟨p,hp,by rw[ig];omega⟩
  ·exact⟨p,hp,by rw[ig];omega⟩
theorem xX(l:Prl)(n:Nat)(q:Int):nd l (n+1) q=if has l (n+1) q then t2 (nd l n (2*q)) (nd l n (2*q+1))else emp (n+1):=by rw[nd]
def Ris(l:Prl):Prop:=l.Pairwise fun a b=>a.1<b.1
def abv(e:Int):Prl->Prl
 | []=>[]
 | [(q,s)]=>[(q/2,if q%2=1 then t2 e s else t2 s e)]
 |(q,s)::(q',s')::r=>
  if q%2=1 then(q/2,t2 e s)::abv e ((q',s')::r)
  else if q'=q+1 then(q/2,t2 s s')::abv e r
  else(q/2,t2 s e)::abv e ((q',s')::r)
def plc(r:Prl)(x:Int):Prop:=∃s,(x,s)∈r
structure Row(N:Int->Int)(e b:Int)(r:Prl):Prop where
 ris:Ris r
 lo:∀p∈r,2*b<=p.1
 val:∀p∈r,p.2=N p.1
 none:∀x,2*b<=x->¬plc r x->N x=e
structure Abv(N:Int->Int)(b:Int)(r a:Prl):Prop where
 ris:Ris a
 lo:∀p∈a,b<=p.1
 val:∀p∈a,p.2=t2 (N (2*p.1)) (N (2*p.1+1))
 pl:∀x,b<=x->(plc a x↔plc r (2*x)∨plc r (2*x+1))
theorem bY{q s x:Int}{r:Prl}:plc ((q,s)::r) x↔x=q∨plc r x:=by
 unfold plc
 simp only[List.mem_cons,Prod.mk.injEq]
 constructor
 ·rintro⟨t,(⟨h,_⟩|h)⟩
  ·exact Or.inl h
  ·exact Or.inr ⟨t,h⟩
 ·rintro(h |⟨t,h⟩)
  ·exact⟨s,Or.inl ⟨h,rfl⟩⟩
  ·exact⟨t,Or.inr h⟩
theorem jg{x:Int}:¬plc [] x:=by rintro⟨s,h⟩;cases h
theorem Abv.step{N:Int->Int}{b q:Int}{r r' a:Prl}(hb:2*b<=q)(h:Abv N (q/2+1) r' a)
  (h1:∀x,2*b<=x->(plc r x↔(x/2=q/2/\plc r x)∨plc r' x)) (h2:plc r q) (h3:∀x,plc r' x->q/2<x/2) :
  Abv N b r ((q/2,t2 (N (2*(q/2))) (N (2*(q/2)+1)))::a):=by
 refine⟨List.pairwise_cons.2 ⟨fun p hp=> ?_,h.ris⟩, ?_, ?_, ?_⟩
 ·have:=h.lo p hp
  show q/2<p.1
  omega
 ·intro p hp
  rcases List.mem_cons.1 hp with rfl | hp
  ·show b<=q/2
   omega
  ·have:=h.lo p hp
   omega
 ·intro p hp
  rcases List.mem_cons.1 hp with rfl | hp
  ·rfl
  ·exact h.val p hp
 ·intro x hx
  rw[bY]
  by_cases e:x=q/2
  ·constructor
   ·intro _
    rcases(by omega:q=2*x∨q=2*x+1)with e2 | e2
    ·left;rw[←e2];exact h2
    ·right;rw[←e2];exact h2
   ·intro _;exact Or.inl e
  ·constructor
   ·rintro(h' | h')
    ·exact absurd h' e
    ·have hx2:q/2+1<=x:=by obtain⟨s,hs⟩:=h';exact h.lo _ hs
     rcases(h.pl x hx2).1 h' with h4 | h4
     ·exact Or.inl ((h1 _ (by omega)).2 (Or.inr h4))
     ·exact Or.inr ((h1 _ (by omega)).2 (Or.inr h4))
   ·rintro(h' | h')
    ·rcases(h1 _ (by omega)).1 h' with h4 | h4
     ·exact absurd h4.1 (by omega)
     ·have:=h3 _ h4
      exact Or.inr ((h.pl x (by omega)).2 (Or.inl h4))
    ·rcases(h1 _ (by omega)).1 h' with h4 | h4
     ·exact absurd h4.1 (by omega)
     ·have:=h3 _ h4
      exact Or.inr ((h.pl x (by omega)).2 (Or.inr h4))
theorem BA{q s:Int}{r:Prl}(h:Ris ((q,s)::r)){x:Int}(hx:plc r x):q<x:=by
 obtain⟨t,ht⟩:=hx
 exact(List.pairwise_cons.1 h).1 _ ht
theorem Us(N:Int->Int)(e:Int):∀(k:Nat)(r:Prl)(b:Int),r.length<=k->Row N e b r->Abv N b r (abv e r):=by
 intro k
 induction k with
 | zero=>
  intro r b hk h
  have:r=[]:=List.eq_nil_of_length_eq_zero (by omega)
  subst this
  refine⟨List.Pairwise.nil,(fun p hp=>by cases hp),(fun p hp=>by cases hp),fun x _=>⟨fun hh=>absurd hh jg,fun hh=> ?_⟩⟩
  rcases hh with hh | hh<;>exact absurd hh jg
 | succ k ih=>
  intro r b hk h
  match r,h,hk with
  | [],h,hk=>
   refine⟨List.Pairwise.nil,(fun p hp=>by cases hp),(fun p hp=>by cases hp),fun x _=>⟨fun hh=>absurd hh jg,fun hh=> ?_⟩⟩
   rcases hh with hh | hh<;>exact absurd hh jg
  | [(q,s)],h,hk=>
   have hq:=h.lo (q,s) (by simp)
   have hv:=h.val (q,s) (by simp)
   dsimp only at hq hv
   have e0:Abv N (q/2+1) [] []:=⟨List.Pairwise.nil,(fun p hp=>by cases hp),(fun p hp=>by cases hp),fun x _=>⟨fun hh=>absurd hh jg,fun hh=>by rcases hh with hh | hh<;>exact absurd hh jg⟩⟩
   have st:=Abv.step (r:=[(q,s)]) hq e0 (fun x _=>by
    rw[bY]
    constructor
    ·rintro(rfl | h)
     ·exact Or.inl ⟨rfl,Or.inl rfl⟩
     ·exact absurd h jg
    ·rintro(⟨_,h⟩|h)
     ·exact h
     ·exact absurd h jg) (bY.2 (Or.inl rfl)) (fun x hx=>absurd hx jg)
   unfold abv
   by_cases h1:q%2=1
   ·rw[if_pos h1]
    have e1:N (2*(q/2))=e:=h.none _ (by omega) (fun hh=>(bY.1 hh).elim (fun hh=>by omega) (fun hh=>absurd hh jg))
    rw[e1,(by omega:2*(q/2)+1=q),←hv]at st
    exact st
   ·rw[if_neg h1]
    have e1:N (2*(q/2)+1)=e:=h.none _ (by omega) (fun hh=>(bY.1 hh).elim (fun hh=>by omega) (fun hh=>absurd hh jg))
    rw[e1,(by omega:2*(q/2)=q),←hv]at st
    exact st
  |(q,s)::(q',s')::r,h,hk=>
   have hq:=h.lo (q,s) (by simp)
   have hv:=h.val (q,s) (by simp)
   have hv':=h.val (q',s') (by simp)
   have hqq:q<q':=BA h.ris (bY.2 (Or.inl rfl))
   dsimp only at hq hv hv'
   have Aw:Ris ((q',s')::r):=(List.pairwise_cons.1 h.ris).2
   have hge:∀x,plc ((q',s')::r) x->q'<=x:=fun x hx=>by
    rcases bY.1 hx with hx | hx
    ·omega
    ·have:=BA Aw hx;omega
   have tail:∀b',(∀x,plc ((q',s')::r) x->2*b'<=x)->2*b<=2*b'->q<2*b'->Row N e b' ((q',s')::r):=fun b' h1 h2 h3=>
    ⟨Aw,fun p hp=>h1 p.1 ⟨p.2,hp⟩,fun p hp=>h.val p (List.mem_cons_of_mem _ hp),fun x hx hn=>h.none x (by omega) (fun hh=>by
     rcases bY.1 hh with hh | hh
     ·omega
     ·exact hn hh)⟩
   have sp:∀x,2*b<=x->(plc ((q,s)::(q',s')::r) x↔(x/2=q/2/\plc ((q,s)::(q',s')::r) x)∨plc ((q',s')::r) x):=fun x _=>by
    constructor
    ·intro hh
     rcases bY.1 hh with h1 | h1
     ·exact Or.inl ⟨by rw[h1],hh⟩
     ·exact Or.inr h1
    ·rintro(⟨_,hh⟩|hh)
     ·exact hh
     ·exact bY.2 (Or.inr hh)
   unfold abv
   by_cases h1:q%2=1
   ·rw[if_pos h1]
    have t:=ih ((q',s')::r) (q/2+1) (by simp at hk ⊢;omega) (tail _ (fun x hx=>by have:=hge x hx;omega) (by omega) (by omega))
    have st:=Abv.step hq t sp (bY.2 (Or.inl rfl)) (fun x hx=>by have:=hge x hx;omega)
    have e1:N (2*(q/2))=e:=h.none _ (by omega) (fun hh=>by
     rcases bY.1 hh with hh | hh
     ·omega
     ·have:=hge _ hh;omega)
    rw[e1,(by omega:2*(q/2)+1=q),←hv]at st
    exact st
   ·rw[if_neg h1]
    by_cases h2:q'=q+1
    ·rw[if_pos h2]
     have hr:Row N e (q/2+1) r:=⟨(List.pairwise_cons.1 Aw).2,fun p hp=>by have:=BA Aw (x:=p.1) ⟨p.2,hp⟩;omega,fun p hp=>h.val p (List.mem_cons_of_mem _ (List.mem_cons_of_mem _ hp)),fun x hx hn=>h.none x (by omega) (fun hh=>by
      rcases bY.1 hh with hh | hh
      ·omega
      ·rcases bY.1 hh with hh | hh
       ·omega
       ·exact hn hh)⟩
     have t:=ih r (q/2+1) (by simp at hk ⊢;omega) hr
     have st:=Abv.step (r:=(q,s)::(q',s')::r) hq t (fun x _=>by
      constructor
      ·intro hh
       rcases bY.1 hh with h3 | h3
       ·exact Or.inl ⟨by rw[h3],hh⟩
       ·rcases bY.1 h3 with h4 | h4
        ·exact Or.inl ⟨by omega,hh⟩
        ·exact Or.inr h4
      ·rintro(⟨_,hh⟩|hh)
       ·exact hh
       ·exact bY.2 (Or.inr (bY.2 (Or.inr hh)))) (bY.2 (Or.inl rfl)) (fun x hx=>by have:=BA Aw hx;omega)
     rw[(by omega:2*(q/2)+1=q'),(by omega:2*(q/2)=q),←hv,←hv']at st
     exact st
    ·rw[if_neg h2]
     have t:=ih ((q',s')::r) (q/2+1) (by simp at hk ⊢;omega) (tail _ (fun x hx=>by have:=hge x hx;omega) (by omega) (by omega))
     have st:=Abv.step hq t sp (bY.2 (Or.inl rfl)) (fun x hx=>by have:=hge x hx;omega)
     have e1:N (2*(q/2)+1)=e:=h.none _ (by omega) (fun hh=>by
      rcases bY.1 hh with hh | hh
      ·omega
      ·have:=hge _ hh;omega)
     rw[e1,(by omega:2*(q/2)=q),←hv]at st
     exact st
def rows(l:Prl):Nat->Prl
 | 0=>l.map fun p=>(p.1,l3 p)
 | n+1=>abv (emp n) (rows l n)
theorem rows_row{l:Prl}(h:Ris l)(h0:∀p∈l,0<=p.1)(n:Nat):Row (nd l n) (emp n) 0 (rows l n)/\∀x,plc (rows l n) x↔has l n x:=by
 induction n with
 | zero=>
  have hp:∀x,plc (rows l 0) x↔has l 0 x:=by
   intro x
   unfold plc rows has
   simp only[List.mem_map,Prod.mk.injEq]
   constructor
   ·rintro⟨s,p,hp,e,_⟩
    exact⟨p,hp,by simpa using e⟩
   ·rintro⟨p,hp,e⟩
    exact⟨l3 p,p,hp,by simpa using e,rfl⟩
  refine⟨⟨?_, ?_, ?_,fun x _ hn=>iG (fun hh=>hn ((hp x).2 hh))⟩,hp⟩
  ·show List.Pairwise _ (l.map _)
   rw[List.pairwise_map]
   exact h
  ·intro p hp
   obtain⟨p',hp',rfl⟩:=List.mem_map.1 hp
   have:=h0 p' hp'
   dsimp only
   omega
  ·intro p hp
   obtain⟨p',hp',rfl⟩:=List.mem_map.1 hp
   dsimp only
   unfold nd
   rcases hf:l.find? (fun p=>p.1==p'.1)with _ | p2
   ·rw[List.find?_eq_none]at hf
    exact absurd (by simp) (hf p' hp')
   ·have h1:=List.mem_of_find?_eq_some hf
    have h2:p2.1=p'.1:=by have:=List.find?_some hf;simpa using this
    have:p2=p':=by
     rcases List.mem_iff_getElem.1 h1 with⟨i,hi,rfl⟩
     rcases List.mem_iff_getElem.1 hp' with⟨j,hj,rfl⟩
     have hh:=List.pairwise_iff_getElem.1 h
     rcases Nat.lt_trichotomy i j with c | c | c
     ·have:=hh i j hi hj c;omega
     ·subst c;rfl
     ·have:=hh j i hj hi c;omega
    rw[hf,this]
 | succ n ih=>
  have a:=Us (nd l n) (emp n) _ _ 0 (Nat.le_refl _) ih.1
  have hp:∀x,plc (rows l (n+1)) x↔has l (n+1) x:=by
   intro x
   rw[RF,←ih.2,←ih.2]
   by_cases hx:0<=x
   ·exact a.pl x hx
   ·constructor
    ·rintro⟨s,hs⟩
     exact absurd (a.lo _ hs) hx
    ·rintro(⟨s,hs⟩ |⟨s,hs⟩)
     ·have:=ih.1.lo _ hs;dsimp only at this;omega
     ·have:=ih.1.lo _ hs;dsimp only at this;omega
  refine⟨⟨a.ris,fun p hp=>by have:=a.lo p hp;omega,fun p hp'=> ?_,fun x _ hn=>iG (fun hh=>hn ((hp x).2 hh))⟩,hp⟩
  rw[xX,if_pos ((hp p.1).1 ⟨p.2,hp'⟩)]
  exact a.val p hp'
theorem Vf{l:Prl}(h:Ris l)(h0:∀p∈l,0<=p.1)(n:Nat):∀p∈rows l n,0<=p.1/\0<=p.2/\p.2<=65520:=by
 intro p hp
 have h1:=(rows_row h h0 n).1
 have h2:=h1.lo p hp
 rw[h1.val p hp]
 exact⟨by omega,iD _ _ _⟩
theorem S9{l:Prl}(h:Ris l)(h0:∀p∈l,0<=p.1){n:Nat}{q:Int}(hq:∀p∈l,p.1/(2^n:Nat)=q)(hne:l≠[]):rows l n=[(q,nd l n q)]:=by
 have h1:=rows_row h h0 n
 have hm:∀p∈rows l n,p.1=q:=fun p hp=>by
  obtain⟨p',hp',e⟩:=(h1.2 p.1).1 ⟨p.2,hp⟩
  rw[←e,hq p' hp']
 obtain⟨p0,t,rfl⟩:=List.exists_cons_of_ne_nil hne
 have hx:has (p0::t) n q:=⟨p0,by simp,hq p0 (by simp)⟩
 obtain⟨s,hs⟩:=(h1.2 q).2 hx
 rcases hr:rows (p0::t) n with _ |⟨a,_ |⟨b,r⟩⟩
 ·rw[hr]at hs;cases hs
 ·have e1:=hm a (by rw[hr];simp)
  have e2:=h1.1.val a (by rw[hr];simp)
  obtain⟨a1,a2⟩:=a
  dsimp only at e1 e2
  rw[e2,e1]
 ·have e1:=hm a (by rw[hr];simp)
  have e2:=hm b (by rw[hr];simp)
  have:=h1.1.ris
  rw[hr]at this
  have:=(List.pairwise_cons.1 this).1 b (by simp)
  omega
theorem SY(n:Nat):rows [] n=[]:=by
 induction n with
 | zero=>rfl
 | succ n ih=>unfold rows;rw[ih];rfl
theorem Ur(e:Int):∀(k:Nat)(r:Prl),r.length<=k->(abv e r).length<=r.length:=by
 intro k
 induction k with
 | zero=>
  intro r hk
  have:r=[]:=List.eq_nil_of_length_eq_zero (by omega)
  subst this
  simp[abv]
 | succ k ih=>
  intro r hk
  match r,hk with
  | [],_=>simp[abv]
  | [(q,s)],_=>simp[abv]
  |(q,s)::(q',s')::r,hk=>
   have h1:=ih ((q',s')::r) (by simp at hk ⊢;omega)
   have h2:=ih r (by simp at hk ⊢;omega)
   simp only[List.length_cons]at h1 hk ⊢
   unfold abv
   split
   ·simp only[List.length_cons];omega
   ·split
    ·simp only[List.length_cons];omega
    ·simp only[List.length_cons];omega
theorem SX(l:Prl)(n:Nat):(rows l n).length<=l.length:=by
 induction n with
 | zero=>simp[rows]
 | succ n ih=>
  have:=Ur (emp n) _ (rows l n) (Nat.le_refl _)
  unfold rows
  omega
def cut(l:Prl)(a b:Int):Prl:=l.filter fun p=>decide (a<=p.1)&&decide (p.1<b)
theorem UE{l:Prl}{a b:Int}{p:Int × Int}:p∈cut l a b↔p∈l/\a<=p.1/\p.1<b:=by
 unfold cut;rw[List.mem_filter];simp
theorem pow_pos(n:Nat):(0:Int)<(2^n:Nat):=by have:=Nat.two_pow_pos n;omega
theorem UO{x q:Int}{n:Nat}:x/(2^n:Nat)=q↔q*(2^n:Nat)<=x/\x<q*(2^n:Nat)+(2^n:Nat):=by
 have hp:=pow_pos n
 constructor
 ·rintro rfl
  exact⟨Int.ediv_mul_le _ (by omega),by have:=Int.lt_ediv_add_one_mul_self x hp;rw[Int.add_mul]at this;omega⟩
 ·rintro⟨h1,h2⟩
  have a1:q<=x/(2^n:Nat):=(Int.le_ediv_iff_mul_le hp).2 h1
  have a2:x/(2^n:Nat)<q+1:=(Int.ediv_lt_iff_lt_mul hp).2 (by rw[Int.add_mul];omega)
  omega
theorem SB{l l':Prl}:∀(n:Nat)(q:Int),(l.filter fun p=>decide (p.1/(2^n:Nat)=q))=(l'.filter fun p=>decide (p.1/(2^n:Nat)=q))->nd l n q=nd l' n q:=by
 intro n
 induction n with
 | zero=>
  intro q h
  unfold nd
  have:∀m:Prl,m.find? (fun p=>p.1==q)=(m.filter fun p=>decide (p.1/(2^0:Nat)=q)).head?:=by
   intro m
   rw[List.head?_filter]
   congr 1
   funext p
   rw[Nat.pow_zero,Int.natCast_one,Int.ediv_one]
   rfl
  rw[this,this,h]
 | succ n ih=>
  intro q h
  have hm:∀x:Int,x/2=q->(l.filter fun p=>decide (p.1/(2^n:Nat)=x))=(l'.filter fun p=>decide (p.1/(2^n:Nat)=x)):=by
   intro x hx
   have e:∀m:Prl,(m.filter fun p=>decide (p.1/(2^n:Nat)=x))=((m.filter fun p=>decide (p.1/(2^(n+1):Nat)=q)).filter fun p=>decide (p.1/(2^n:Nat)=x)):=by
    intro m
    rw[List.filter_filter]
    congr 1
    funext p
    rw[ig]
    generalize p.1/(2^n:Nat)=y
    by_cases h1:y=x
    ·subst h1;simp[hx]
    ·simp[h1]
   rw[e l,e l',h]
  have hh:has l (n+1) q↔has l' (n+1) q:=by
   have e:∀m:Prl,has m (n+1) q↔(m.filter fun p=>decide (p.1/(2^(n+1):Nat)=q))≠[]:=by
    intro m
    unfold has
    constructor
    ·rintro⟨p,hp,e⟩ h0
     have:=(List.filter_eq_nil_iff.1 h0) p hp
     exact this (decide_eq_true e)
    ·intro h0
     obtain⟨p,t,ht⟩:=List.exists_cons_of_ne_nil h0
     have hp:p∈(m.filter fun p=>decide (p.1/(2^(n+1):Nat)=q)):=by rw[ht];simp
     rw[List.mem_filter]at hp
     exact⟨p,hp.1,of_decide_eq_true hp.2⟩
   rw[e l,e l',h]
  rw[xX,xX,ih _ (hm (2*q) (by omega)),ih _ (hm (2*q+1) (by omega))]
  by_cases hx:has l (n+1) q
  ·rw[if_pos hx,if_pos (hh.1 hx)]
  ·rw[if_neg hx,if_neg (fun h=>hx (hh.2 h))]
theorem zu(l:Prl)(n:Nat)(q:Int):cut l (q*(2^n:Nat)) (q*(2^n:Nat)+(2^n:Nat))=l.filter fun p=>decide (p.1/(2^n:Nat)=q):=by
 unfold cut
 congr 1
 funext p
 have:=UO (x:=p.1) (q:=q) (n:=n)
 by_cases h:p.1/(2^n:Nat)=q
 ·have h2:=this.1 h
  rw[decide_eq_true h,decide_eq_true h2.1,decide_eq_true h2.2];rfl
 ·simp only[h,decide_false]
  have:¬(q*(2^n:Nat)<=p.1/\p.1<q*(2^n:Nat)+(2^n:Nat)):=fun hh=>h (this.2 hh)
  simp only[Bool.and_eq_false_iff,decide_eq_false_iff_not]
  omega
theorem jc(l:Prl)(a b:Int):(cut l a b).length<=l.length:=List.length_filter_le _ _
def prt(l:Prl)(n:Nat):Int:=match rows l n with | []=>emp n | p::_=>p.2
theorem WT{l:Prl}(h:Ris l)(h0:∀p∈l,0<=p.1){n:Nat}{q:Int}(hq:∀p∈l,p.1/(2^n:Nat)=q):prt l n=nd l n q:=by
 unfold prt
 by_cases hne:l=[]
 ·subst hne
  rw[SY,iG]
  rintro⟨p,hp,_⟩
  cases hp
 ·rw[S9 h h0 hq hne]
def fine(p:Int × Int):Bool:=inB p.1 0 255&&aP p.2
theorem kK{p:Int × Int}(h:fine p=true):(0<=p.1/\p.1<=255)/\0<=p.2/\p.2<=65520:=by
 unfold fine at h
 rw[Bool.and_eq_true]at h
 exact⟨jd h.1,(bC _).1 h.2⟩
def pAt(l:Prl)(i:Nat):Int × Int:=l.getD i (0,0)
theorem dY{l:Prl}{i:Nat}(h:i<l.length):pAt l i=l[i]:=by simp[pAt,h]
def scan(l:Prl):Nat->Nat->Int
 | 0,_=>0
 | f+1,i=>if fine (pAt l i)=false then 3 else if 0<i/\(pAt l i).1<=(pAt l (i - 1)).1 then 1 else scan l f (i+1)
def slF(l:Prl):Int:=if 12<l.length then 2 else scan l l.length 0
theorem scan_ok{l:Prl}:∀(f i:Nat),scan l f i=0->∀j,i<=j->j<i+f->fine (pAt l j)=true/\(0<j->(pAt l (j - 1)).1<(pAt l j).1):=by
 intro f
 induction f with
 | zero=>intro i _ j h1 h2;omega
 | succ f ih=>
  intro i h j h1 h2
  unfold scan at h
  split at h
  ·cases h
  ·split at h
   ·cases h
   ·rename_i g1 g2
    by_cases e:j=i
    ·subst e
     exact⟨by simpa using g1,fun h0=>by omega⟩
    ·exact ih (i+1) h j (by omega) (by omega)
theorem Tj{l:Prl}:∀(f i:Nat),(∀j,i<=j->j<i+f->fine (pAt l j)=true/\(0<j->(pAt l (j - 1)).1<(pAt l j).1))->scan l f i=0:=by
 intro f
 induction f with
 | zero=>intro i _;rfl
 | succ f ih=>
  intro i h
  have h0:=h i (Nat.le_refl _) (by omega)
  unfold scan
  rw[if_neg (by rw[h0.1];simp),if_neg (by intro hh;have:=h0.2 hh.1;omega)]
  exact ih (i+1) fun j h1 h2=>h j (by omega) (by omega)
structure Sls(l:Prl):Prop where
 len:l.length<=12
 ris:Ris l
 fin:∀p∈l,fine p=true
theorem WW{l:Prl}(h:∀j,j<l.length->0<j->(pAt l (j - 1)).1<(pAt l j).1):Ris l:=by
 have h2:∀d i,i+d+1<l.length->(pAt l i).1<(pAt l (i+d+1)).1:=by
  intro d
  induction d with
  | zero=>intro i hi;exact h (i+0+1) hi (by omega)
  | succ d ih=>
   intro i hi
   have h3:=ih i (by omega)
   have h4:=h (i+d+1+1) hi (by omega)
   simp only[Nat.add_sub_cancel]at h4
   rw[show i+(d+1)+1=i+d+1+1 by omega]
   omega
 unfold Ris
 rw[List.pairwise_iff_getElem]
 intro i j hi hj hij
 have:=h2 (j - i - 1) i (by omega)
 rw[show i+(j - i - 1)+1=j by omega,dY hi,dY hj]at this
 exact this
theorem BL{l:Prl}(h:slF l=0):Sls l:=by
 unfold slF at h
 split at h
 ·cases h
 ·rename_i h12
  have hs:=scan_ok _ _ h
  refine⟨by omega,WW fun j hj h0=>(hs j (Nat.zero_le _) (by omega)).2 h0,fun p hp=> ?_⟩
  obtain⟨j,hj,rfl⟩:=List.mem_iff_getElem.1 hp
  have:=(hs j (Nat.zero_le _) (by omega)).1
  rwa [dY hj]at this
theorem Sls.at{l:Prl}(h:Sls l){i:Nat}(hi:i<l.length):(0<=(pAt l i).1/\(pAt l i).1<=255)/\0<=(pAt l i).2/\(pAt l i).2<=65520:=by
 rw[dY hi];exact kK (h.fin _ (List.getElem_mem _))
theorem Sls.pos{l:Prl}(h:Sls l):∀p∈l,0<=p.1:=fun p hp=>(kK (h.fin p hp)).1.1
theorem xw{l:Prl}(h:Ris l){i j:Nat}(hij:i<j)(hj:j<l.length):(pAt l i).1<(pAt l j).1:=by
 rw[dY hj,dY (by omega:i<l.length)]
 exact(List.pairwise_iff_getElem.1 h) i j (by omega) hj hij
def low(l:Prl)(k:Int):Nat:=l.countP fun p=>decide (p.1<k)
theorem P8(l:Prl)(k:Int):low l k<=l.length:=List.countP_le_length
theorem qA{l:Prl}(h:Ris l)(k:Int):(l.filter fun p=>decide (p.1<k))=l.take (low l k):=by
 induction l with
 | nil=>rfl
 | cons p t ih=>
  have ht:=List.pairwise_cons.1 h
  unfold low
  by_cases hp:p.1<k
  ·rw[List.filter_cons_of_pos (by simpa using hp),List.countP_cons_of_pos (by simpa using hp),List.take_succ_cons]
   rw[ih ht.2]
   rfl
  ·have h0:t.filter (fun p=>decide (p.1<k))=[]:=by
    rw[List.filter_eq_nil_iff]
    intro x hx
    have:=ht.1 x hx
    simp
    omega
   rw[List.filter_cons_of_neg (by simpa using hp),List.countP_cons_of_neg (by simpa using hp),h0]
   rw[List.countP_eq_length_filter,h0]
   rfl
theorem zQ{l:Prl}(h:Ris l)(k:Int):(l.filter fun p=>decide (k<=p.1))=l.drop (low l k):=by
 induction l with
 | nil=>rfl
 | cons p t ih=>
  have ht:=List.pairwise_cons.1 h
  unfold low
  by_cases hp:p.1<k
  ·rw[List.filter_cons_of_neg (by simp;omega),List.countP_cons_of_pos (by simpa using hp),List.drop_succ_cons]
   rw[ih ht.2]
   rfl
  ·have h0:t.filter (fun p=>decide (p.1<k))=[]:=by
    rw[List.filter_eq_nil_iff]
    intro x hx
    have:=ht.1 x hx
    simp
    omega
   have h1:t.filter (fun p=>decide (k<=p.1))=t:=by
    rw[List.filter_eq_self]
    intro x hx
    have:=ht.1 x hx
    simp
    omega
   rw[List.filter_cons_of_pos (by simp;omega),List.countP_cons_of_neg (by simpa using hp),h1]
   rw[List.countP_eq_length_filter,h0]
   rfl
theorem UW{l:Prl}(h:Ris l)(k:Int){i:Nat}(hi:i<l.length):(pAt l i).1<k↔i<low l k:=by
 have h1:=qA h k
 have h2:=zQ h k
 rw[dY hi]
 constructor
 ·intro hk
  by_cases hc:i<low l k
  ·exact hc
  ·have hm:l[i]∈l.drop (low l k):=by
    rw[List.mem_drop_iff_getElem]
    exact⟨i - low l k,by omega,by congr 1;omega⟩
   rw[←h2,List.mem_filter]at hm
   have:=hm.2
   simp at this
   omega
 ·intro hc
  have hm:l[i]∈l.take (low l k):=by
   rw[List.mem_take_iff_getElem]
   exact⟨i,by omega,rfl⟩
  rw[←h1,List.mem_filter]at hm
  simpa using hm.2
theorem low_mono(l:Prl){a b:Int}(h:a<=b):low l a<=low l b:=by
 unfold low
 apply List.countP_mono_left
 intro x _ hx
 simp at hx ⊢
 omega
theorem Wi{l:Prl}(h:Ris l)(a b:Int):cut l a b=(l.take (low l b)).drop (low l a):=by
 have e1:cut l a b=(l.filter fun p=>decide (p.1<b)).filter fun p=>decide (a<=p.1):=by
  unfold cut
  rw[List.filter_filter]
 have h2:Ris (l.filter fun p=>decide (p.1<b)):=List.Pairwise.filter _ h
 rw[e1,zQ h2,qA h]
 by_cases hab:a<=b
 ·have:low (l.take (low l b)) a=low l a:=by
   rw[←qA h b]
   unfold low
   rw[List.countP_filter]
   congr 1
   funext p
   by_cases hp:p.1<a
   ·simp[hp];omega
   ·simp[hp]
  rw[this]
 ·have e2:low (l.take (low l b)) a=(l.take (low l b)).length:=by
   rw[←qA h b]
   unfold low
   rw[List.countP_eq_length]
   intro p hp
   rw[List.mem_filter]at hp
   have:=hp.2
   simp at this ⊢
   omega
  have e3:=low_mono l (by omega:b<=a)
  rw[e2,List.drop_length,List.drop_eq_nil_of_le]
  rw[List.length_take]
  omega
def thr(l:Prl)(k:Int):Bool:=decide (low l k<l.length)&&decide ((pAt l (low l k)).1=k)
def put(l:Prl)(s:Int × Int):Prl:=l.take (low l s.1)++[s]++l.drop (if thr l s.1=true then low l s.1+1 else low l s.1)
end U
end Go.Proofs.YtmmcgjacojgeaaaGreat
namespace Go.Proofs.YtmmcgjacojgeaaaGreat
open Go.RowKit
namespace U
def Prs(w:World)(v:Value)(l:Prl):Prop:=
 (l=[]/\∃a c,v = .slice a 0 c)∨∃b off c,v = .slice (some ⟨b,off,none⟩) l.length c/\b<w.heap.size/\∀j,j<l.length->w.cell? ⟨b,off+j*2,none⟩=some (.int .i64 (pAt l j).1)/\w.cell? ⟨b,off+j*2+1,none⟩=some (.int .i64 (pAt l j).2)
theorem Prs.below{w w':World}{v:Value}{l:Prl}(h:Prs w v l)(hb:Below w.heap.size w w'):Prs w' v l:=by
 rcases h with h |⟨b,off,c,rfl,hlt,hc⟩
 ·exact Or.inl h
 ·exact Or.inr ⟨b,off,c,rfl,Nat.lt_of_lt_of_le hlt hb.size,fun j hj=>⟨(hb.cell (p:=⟨b,off+j*2,none⟩) hlt).trans (hc j hj).1,(hb.cell (p:=⟨b,off+j*2+1,none⟩) hlt).trans (hc j hj).2⟩⟩
theorem Prs.shape{w:World}{v:Value}{l:Prl}(h:Prs w v l):∃a c,v = .slice a l.length c:=by
 rcases h with⟨rfl,a,c,rfl⟩ |⟨b,off,c,rfl,_⟩
 ·exact⟨a,c,rfl⟩
 ·exact⟨_,c,rfl⟩
theorem Prs.at{w:World}{a:Option Addr}{n c:Nat}{l:Prl}(h:Prs w (.slice a n c) l)(h0:0<l.length):n=l.length/\∃b off,a=some ⟨b,off,none⟩/\b<w.heap.size/\∀j,j<l.length->w.cell? ⟨b,off+j*2,none⟩=some (.int .i64 (pAt l j).1)/\w.cell? ⟨b,off+j*2+1,none⟩=some (.int .i64 (pAt l j).2):=by
 rcases h with⟨rfl,_⟩ |⟨b,off,c',e,h1,h2⟩
 ·simp at h0
 ·cases e
  exact⟨rfl,b,off,rfl,h1,h2⟩
def fl(l:Prl):List Int:=l.flatMap fun p=>[p.1,p.2]
theorem kR(l:Prl):(fl l).length=l.length*2:=by
 unfold fl
 induction l with
 | nil=>rfl
 | cons p t ih=>rw[List.flatMap_cons,List.length_append,ih];simp;omega
theorem Pj(l m:Prl):fl (l++m)=fl l++fl m:=by unfold fl;rw[List.flatMap_append]
theorem EN(l:Prl):∀(j:Nat),j<l.length->(fl l)[j*2]? = some (pAt l j).1/\(fl l)[j*2+1]? = some (pAt l j).2:=by
 induction l with
 | nil=>intro j h;simp at h
 | cons p t ih=>
  intro j h
  unfold fl
  rw[List.flatMap_cons]
  cases j with
  | zero=>simp[pAt]
  | succ j=>
   have:=ih j (by simpa using h)
   unfold fl at this
   rw[show(j+1)*2=j*2+1+1 by omega]
   simpa [pAt]using this
theorem bK{w:World}{B:Nat}{e:TypeId}{v:Value}{l:Prl}(h:w.ownsRow B e 2 v l.length ((fl l).map (Value.int .i64))):Prs w v l:=by
 have h0:=h
 rcases h.2 with⟨rfl,hn⟩ |⟨g,cap,cur,rfl,hB,hg,_⟩
 ·left;exact⟨List.eq_nil_of_length_eq_zero hn,none,0,rfl⟩
 ·right
  refine⟨g,0,cap,rfl,(Array.getElem?_eq_some_iff.1 hg).1,fun j hj=> ?_⟩
  rw[Nat.zero_add,h0.cellAt (j*2) (by omega),h0.cellAt (j*2+1) (by omega)]
  have:=EN l j hj
  rw[List.getElem?_map,List.getElem?_map,this.1,this.2]
  exact⟨rfl,rfl⟩
theorem Ii{w:World}{B n:Nat}{e:TypeId}{a:Option Addr}{c:Nat}{l:Prl}(h:w.ownsRow B e 2 (.slice a n c) n ((fl l).map (Value.int .i64))):Prs w (.slice a n c) l:=by
 have h1:=h.1
 rw[List.length_map,kR]at h1
 have:n=l.length:=by omega
 subst this
 exact bK h
theorem PO(n:Int)(w:World):Calls Tryz.prog 189 #[.int .i64 n] w fun e w'=>e = .returned (.bool (inB n 0 255))/\w'=w:=by
 rcases Bool.eq_false_or_eq_true (inB n 0 255)with h | h
 ·have h1:=jd h
  rw[h]
  go_enter Tryz.func189,Tryz.ntmps189
  go_wp2
  go_ret
  exact⟨aU (by simp;omega),rfl⟩
 ·rw[h]
  rcases wK h with h1 | h1
  ·go_enter Tryz.func189,Tryz.ntmps189
   go_wp2
   go_ret
   exact⟨aU (by first | rfl |(simp;omega)),rfl⟩
  ·go_enter Tryz.func189,Tryz.ntmps189
   go_wp2
   go_ret
   exact⟨aU (by first | rfl |(simp;omega)),rfl⟩
theorem MQ(p:Int × Int)(w:World):Calls Tryz.prog 165 #[.agg #[.int .i64 p.1,.int .i64 p.2]] w fun e w'=>e = .returned (.bool (fine p))/\Below w.heap.size w w':=by
 obtain⟨k,v⟩:=p
 unfold fine
 have HK:=fun w=>PO k w
 have HV:=fun w=>fO v w
 dsimp only
 generalize aP v=y at *
 generalize inB k 0 255=x at *
 cases x
 ·go_enter Tryz.func165,Tryz.ntmps165
  go_wp2_with fail
  refine(HK _).mono ?_
  rintro e w1 ⟨rfl,rfl⟩
  clear HK HV
  go_wp2
  go_ret
  exact⟨rfl,aj _⟩
 ·go_enter Tryz.func165,Tryz.ntmps165
  go_wp2_with fail
  refine(HK _).mono ?_
  rintro e w1 ⟨rfl,rfl⟩
  clear HK
  go_wp2_with fail
  refine(HV _).mono ?_
  rintro e w1 ⟨rfl,rfl⟩
  clear HV
  go_wp2
  go_ret
  exact⟨rfl,aj _⟩
theorem fG{w:World}{g:Nat}{x y:Value}{t:TypeId}(h:w.heap[g]? = some (.cells #[x,y] t)):w.cell? ⟨g,0,none⟩=some x/\w.cell? ⟨g,1,none⟩=some y/\w.frozen? ⟨g,0,none⟩=false/\w.frozen? ⟨g,1,none⟩=false:=by
 refine⟨?_, ?_, ?_, ?_⟩
 ·unfold World.cell?;rw[h];rfl
 ·unfold World.cell?;rw[h];rfl
 ·unfold World.frozen?;rw[h];rfl
 ·unfold World.frozen?;rw[h];rfl
theorem Ef{l:Prl}{f i:Nat}(h:fine (pAt l i)=true)(h2:0<i->(pAt l (i - 1)).1<(pAt l i).1):scan l (f+1) i=scan l f (i+1):=by
 rw[scan,if_neg (by rw[h];simp),if_neg (by intro hh;have:=h2 hh.1;omega)]
theorem N7{l:Prl}{f i:Nat}(h:fine (pAt l i)=false):scan l (f+1) i=3:=by rw[scan,if_pos h]
theorem QC{l:Prl}{f i:Nat}(h:fine (pAt l i)=true)(h1:0<i)(h2:(pAt l i).1<=(pAt l (i - 1)).1):scan l (f+1) i=1:=by
 rw[scan,if_neg (by rw[h];simp),if_pos ⟨h1,h2⟩]
theorem uK(b off c n:Nat)(l:Prl)(w:World)(hn:n<=12)(hb:b<w.heap.size)
  (hc:∀j,j<n->w.cell? ⟨b,off+j*2,none⟩=some (.int .i64 (pAt l j).1)/\w.cell? ⟨b,off+j*2+1,none⟩=some (.int .i64 (pAt l j).2)) :
  Calls Tryz.prog 126 #[.slice (some ⟨b,off,none⟩) n c] w fun e w'=>e = .returned (.int .i64 (scan l n 0))/\Below w.heap.size w w':=by
 go_enter Tryz.func126,Tryz.ntmps126
 go_wp2
 go_loopw [10] (fun i wr=>∃k:Nat,k<=n/\i = .int .i64 k/\Below w.heap.size w wr/\Hid (scan l (n - k) k=scan l n 0)) (fun i _=>n - (intOf i).toNat)
 case atStart=>exact⟨0,Nat.zero_le _,rfl,Below.refl _ _,rfl⟩
 case round=>
  obtain⟨k,hk,rfl,hB,HS⟩:=hrel
  by_cases hkn:k<n
  ·have hki:(k:Int)<(n:Int):=by omega
   have hc1:=(hB.cell (p:=⟨b,off+k*2,none⟩) hb).trans (hc k hkn).1
   have hc2:=(hB.cell (p:=⟨b,off+k*2+1,none⟩) hb).trans (hc k hkn).2
   have HC:Hid (∀j,j<n->w.cell? ⟨b,off+j*2,none⟩=some (.int .i64 (pAt l j).1)/\w.cell? ⟨b,off+j*2+1,none⟩=some (.int .i64 (pAt l j).2)):=hc
   have hI:=fun w=>MQ (pAt l k) w
   obtain⟨x,hx⟩:∃x,x=(pAt l k).1:=⟨_,rfl⟩
   obtain⟨y,hy⟩:∃y,y=(pAt l k).2:=⟨_,rfl⟩
   obtain⟨f,hf⟩:∃f,f=fine (pAt l k):=⟨_,rfl⟩
   have HX:Hid (x=(pAt l k).1):=hx
   have HF:Hid (f=fine (pAt l k)):=hf
   rw[←hx]at hc1 hI
   rw[←hy]at hc2 hI
   rw[←hf]at hI
   have hbr:b<wr.heap.size:=Nat.lt_of_lt_of_le hb hB.size
   clear hx hy hf hc
   go_wp2_with fail
   refine(hI _).mono ?_
   rintro e w1 ⟨rfl,hb1⟩
   clear hI
   have hB1:Below w.heap.size w w1:=ah (hB.alloc hB.size _) hb1
   have hwr:wr.heap.size<w1.heap.size:=by have:=hb1.size;simp at this;omega
   obtain⟨g0,g1,-,-⟩:=fG ((hb1.block wr.heap.size (by simp)).trans (heap_alloc_new wr _))
   have HB1:Hid (Below w.heap.size w w1):=hB1
   have hbw:=hB1.size
   cases f
   ·have e3:Hid (scan l n 0=3):=by show _=_;rw[←HS.out,show n - k=(n - k - 1)+1 by omega];exact N7 HF.out.symm
    clear hB1 hb1 hB
    go_wp2
    go_ret
    exact⟨aC e3.out.symm,HB1.out⟩
   ·by_cases hk0:k=0
    ·subst hk0
     have HS2:Hid (scan l (n - 1) 1=scan l n 0):=by
      show _=_
      rw[show n=(n - 1)+1 by omega]
      exact(Ef HF.out.symm (by omega)).symm
     clear hB1 hb1 hB HS
     go_wp2
     go_quiet (fail)
     go_wp2
     go_roundw
     case rel=>exact⟨1,by omega,by go_num,below_drewN HB1.out _,HS2⟩
     case measure=>simp[intOf];omega
    ·have hk1:0<k:=by omega
     have hkp:=(hB1.cell (p:=⟨b,off+(k - 1)*2,none⟩) hb).trans (HC.out (k - 1) (by omega)).1
     obtain⟨z,hz⟩:∃z,z=(pAt l (k - 1)).1:=⟨_,rfl⟩
     have HZ:Hid (z=(pAt l (k - 1)).1):=hz
     rw[←hz]at hkp
     obtain⟨m,rfl⟩:∃m,k=m+1:=⟨k - 1,by omega⟩
     simp only[Nat.add_sub_cancel]at hkp
     have hkg:decide (0<((m+1:Nat):Int))=true:=by simp
     clear hz hB1 hb1 hB
     by_cases hle:x<=z
     ·have hd:decide (x<=z)=true:=by simpa using hle
      have e1:Hid (scan l n 0=1):=by
       show _=_
       rw[←HS.out,show n - (m+1)=(n - (m+1) - 1)+1 by omega]
       exact QC HF.out.symm hk1 (by rw[←HX.out,←HZ.out];exact hle)
      go_wp2
      go_quiet (fail)
      go_wp2
      go_ret
      exact⟨aC e1.out.symm,below_drewN HB1.out _⟩
     ·have hd:decide (x<=z)=false:=by simpa using hle
      have HS2:Hid (scan l (n - (m+1) - 1) (m+1+1)=scan l n 0):=by
       show _=_
       rw[←HS.out,show n - (m+1)=(n - (m+1) - 1)+1 by omega]
       exact(Ef HF.out.symm (fun _=>by rw[←HX.out,←HZ.out];omega)).symm
      go_wp2
      go_quiet (fail)
      go_wp2
      go_roundw
      case rel=>exact⟨m+1+1,by omega,by go_num,below_drewN HB1.out _,by rw[show n - (m+1+1)=n - (m+1) - 1 by omega];exact HS2⟩
      case measure=>simp[intOf];omega
  ·have hkn:k=n:=by omega
   subst hkn
   have e0:Hid (scan l k 0=0):=by show _=_;rw[←HS.out,Nat.sub_self];rfl
   clear hc
   go_wp2
   go_ret
   exact⟨aC e0.out.symm,hB⟩
theorem Tv{l:Prl}(h:12<l.length):slF l=2:=by unfold slF;rw[if_pos h]
theorem Tz{l:Prl}(h:¬ 12<l.length):slF l=scan l l.length 0:=by unfold slF;rw[if_neg h]
theorem jY(v:Value)(l:Prl)(w:World)(hv:Prs w v l)(hx:l.length<=1099511627776):
  Calls Tryz.prog 126 #[v] w fun e w'=>e = .returned (.int .i64 (slF l))/\Below w.heap.size w w':=by
 obtain⟨a,c,rfl⟩:=hv.shape
 by_cases h:12<l.length
 ·rw[Tv h]
  generalize l.length=n at *
  clear hv
  go_enter Tryz.func126,Tryz.ntmps126
  go_wp2
  go_ret
  exact⟨rfl,Below.refl _ _⟩
 ·rw[Tz h]
  by_cases h0:0<l.length
  ·obtain⟨_,b,off,rfl,hb,hc⟩:=hv.at h0
   exact uK b off c l.length l w (by omega) hb hc
  ·have e1:l=[]:=List.eq_nil_of_length_eq_zero (by omega)
   subst e1
   simp only[List.length_nil]
   have e2:scan [] 0 0=0:=rfl
   rw[e2]
   clear hv h0 hx h e2
   go_enter Tryz.func126,Tryz.ntmps126
   go_wp2
   refine wp_loop_rounds 1 ?_;rw[rounds_succ]
   go_wp2
   go_ret
   exact⟨rfl,Below.refl _ _⟩
def lT(x k:Int):Int:=if x<k then -1 else if k<x then 1 else 0
theorem PS(x:Int)(w:World):Calls Tryz.prog 216 #[.int .i64 x] w fun e w'=>e = .returned (.bool false)/\∃n,w'=w.drewN n:=by
 go_enter Tryz.func216,Tryz.ntmps216
 go_wp2
 go_ret
 exact⟨aU (by simp),0,rfl⟩
theorem Jl(x k:Int)(w:World):Calls Tryz.prog 192 #[.int .i64 x,.int .i64 k] w fun e w'=>e = .returned (.int .i64 (lT x k))/\∃n,w'=w.drewN n:=by
 have hN:=fun x w=>PS x w
 unfold lT
 by_cases h1:x<k
 ·rw[if_pos h1]
  go_enter Tryz.func192,Tryz.ntmps192
  go_wp2_with (go_at_call 216;refine(hN _ _).mono ?_;rintro e w1 ⟨rfl,n1,rfl⟩)
  go_ret
  exact⟨rfl,_,rfl⟩
 ·rw[if_neg h1]
  by_cases h2:k<x
  ·rw[if_pos h2]
   go_enter Tryz.func192,Tryz.ntmps192
   go_wp2_with (go_at_call 216;refine(hN _ _).mono ?_;rintro e w1 ⟨rfl,n1,rfl⟩)
   go_ret
   exact⟨rfl,_,rfl⟩
  ·rw[if_neg h2]
   go_enter Tryz.func192,Tryz.ntmps192
   go_wp2_with (go_at_call 216;refine(hN _ _).mono ?_;rintro e w1 ⟨rfl,n1,rfl⟩)
   go_ret
   exact⟨rfl,_,rfl⟩
theorem Iy(x y k:Int)(w:World):Calls Tryz.prog 191 #[.agg #[.int .i64 x,.int .i64 y],.int .i64 k] w fun e w'=>e = .returned (.int .i64 (lT x k))/\Below w.heap.size w w':=by
 have hC:=fun w=>Jl x k w
 generalize lT x k=c at *
 go_enter Tryz.func191,Tryz.ntmps191
 go_wp2_with fail
 refine(hC _).mono ?_
 rintro e w1 ⟨rfl,n1,rfl⟩
 clear hC
 go_wp2
 go_ret
 exact⟨rfl,below_drewN (aj _) _⟩
theorem yj(b off c n:Nat)(l:Prl)(k:Int)(w:World)(HN:Hid (n=l.length))(hn:n<=12)(hb:b<w.heap.size)(HR:Hid (Ris l))
  (hc:∀j,j<n->w.cell? ⟨b,off+j*2,none⟩=some (.int .i64 (pAt l j).1)/\w.cell? ⟨b,off+j*2+1,none⟩=some (.int .i64 (pAt l j).2)) :
  Calls Tryz.prog 190 #[.slice (some ⟨b,off,none⟩) n c,.int .i64 k,.func (.func 191) #[] #[]] w fun e w'=>e = .returned (.tuple #[.int .i64 (low l k:Nat),.bool (thr l k)])/\Below w.heap.size w w':=by
 have hll:low l k<=n:=by have:=P8 l k;have:=HN.out;omega
 have HI:Hid (∀i,i<n->((pAt l i).1<k↔i<low l k)):=fun i hi=>UW HR.out k (by have:=HN.out;omega)
 have HC:Hid (∀j,j<n->w.cell? ⟨b,off+j*2,none⟩=some (.int .i64 (pAt l j).1)/\w.cell? ⟨b,off+j*2+1,none⟩=some (.int .i64 (pAt l j).2)):=hc
 have HT:Hid (thr l k=(decide (low l k<n)&&decide ((pAt l (low l k)).1=k))):=by show _=_;rw[HN.out];rfl
 have HCM:=fun x y w=>Iy x y k w
 generalize thr l k=th at *
 generalize low l k=lo at *
 clear hc
 go_enter Tryz.func190,Tryz.ntmps190
 go_wp2
 go_loopw [9,10] (fun a z wr=>∃i j:Nat,a = .int .i64 i/\z = .int .i64 j/\i<=lo/\lo<=j/\j<=n/\Below w.heap.size w wr) (fun a z _=>(intOf z).toNat - (intOf a).toNat)
 case atStart=>exact⟨0,n,rfl,rfl,by omega,hll,by omega,Below.refl _ _⟩
 case round=>
  obtain⟨i,j,rfl,rfl,hi,hj,hjn,hB⟩:=hrel
  by_cases hij:i<j
  ·have YJ:(i:Int)<(j:Int):=by omega
   obtain⟨h,hh⟩:∃h,h=(i+j)/2:=⟨_,rfl⟩
   have h1:i<=h:=by omega
   have h2:h<j:=by omega
   have h3:h<n:=by omega
   obtain⟨c0,c1⟩:=HC.out h h3
   have c0:=(hB.cell (p:=⟨b,off+h*2,none⟩) hb).trans c0
   have c1:=(hB.cell (p:=⟨b,off+h*2+1,none⟩) hb).trans c1
   have hM:=fun w=>HCM (pAt l h).1 (pAt l h).2 w
   have HX:=HI.out h h3
   generalize (pAt l h).1=x at *
   generalize (pAt l h).2=y at *
   have e1:IntKind.u64.wrap ((i:Int)+(j:Int))=(i:Int)+(j:Int):=by rw[IntKind.wrap_u64];omega
   have e2:((i:Int)+(j:Int))/2=(h:Int):=by omega
   have hhn:(h:Int)<(n:Int):=by omega
   have HH:Hid (h=(i+j)/2):=hh
   clear hh
   go_wp2_with fail
   refine(hM _).mono ?_
   rintro e w1 ⟨rfl,hb1⟩
   have hB1:=ah hB hb1
   clear hM hb1 HCM
   by_cases hx:x<k
   ·have hlt:=HX.1 hx
    have ec:lT x k = -1:=by unfold lT;rw[if_pos hx]
    rw[ec]
    clear HX ec
    go_wp2
    go_roundw
    case rel=>exact⟨h+1,j,by go_num,rfl,by omega,hj,hjn,hB1⟩
    case measure=>simp[intOf];omega
   ·have hge:lo<=h:=Nat.le_of_not_lt fun hh=>hx (HX.2 hh)
    have ec:0<=lT x k/\lT x k<=1:=by unfold lT;rw[if_neg hx];split<;>omega
    generalize lT x k=cc at *
    clear HX
    go_wp2
    go_roundw
    case rel=>exact⟨i,h,rfl,rfl,hi,hge,by omega,hB1⟩
    case measure=>simp[intOf];omega
  ·have e0:i=lo:=by omega
   subst e0
   have YJ:¬(i:Int)<(j:Int):=by omega
   by_cases hin:i<n
   ·have YK:(i:Int)<(n:Int):=by omega
    obtain⟨c0,c1⟩:=HC.out i hin
    have c0:=(hB.cell (p:=⟨b,off+i*2,none⟩) hb).trans c0
    have c1:=(hB.cell (p:=⟨b,off+i*2+1,none⟩) hb).trans c1
    have hM:=fun w=>HCM (pAt l i).1 (pAt l i).2 w
    have HX:=HI.out i hin
    have ht:=HT.out
    rw[decide_eq_true hin,Bool.true_and]at ht
    generalize (pAt l i).1=x at *
    generalize (pAt l i).2=y at *
    have hxk:¬x<k:=fun hh=>by have:=HX.1 hh;omega
    have ec:(lT x k==0)=decide (x=k):=by
     unfold lT
     rw[if_neg hxk]
     by_cases e:x=k
     ·subst e;simp
     ·rw[if_pos (by omega),decide_eq_false e];rfl
    rw[←ht]at ec
    have ET:Hid ((lT x k==0)=th):=ec
    generalize lT x k=cc at *
    clear HCM HX HT HI ht ec
    go_wp2_with fail
    refine(hM _).mono ?_
    rintro e w1 ⟨rfl,hb1⟩
    have hB1:=ah hB hb1
    clear hM hb1
    go_wp2
    go_ret2
    exact⟨by have:=ET.out;subst this;rfl,hB1⟩
   ·have YK:¬(i:Int)<(n:Int):=by omega
    have ht:=HT.out
    rw[decide_eq_false hin,Bool.false_and]at ht
    subst ht
    clear HCM HI HT
    go_wp2
    go_ret2
    exact⟨rfl,hB⟩
theorem Vs(k:Int):thr [] k=false:=rfl
theorem UY(k:Int):low [] k=0:=rfl
theorem zl(v:Value)(l:Prl)(k:Int)(w:World)(hv:Prs w v l)(hl:l.length<=12)(hr:Ris l):
  Calls Tryz.prog 190 #[v,.int .i64 k,.func (.func 191) #[] #[]] w fun e w'=>e = .returned (.tuple #[.int .i64 (low l k:Nat),.bool (thr l k)])/\Below w.heap.size w w':=by
 obtain⟨a,c,rfl⟩:=hv.shape
 by_cases h0:0<l.length
 ·obtain⟨_,b,off,rfl,hb,hc⟩:=hv.at h0
  exact yj b off c l.length l k w rfl hl hb hr hc
 ·have e1:l=[]:=List.eq_nil_of_length_eq_zero (by omega)
  subst e1
  rw[Vs,UY]
  simp only[List.length_nil]
  clear hv h0 hl hr
  go_enter Tryz.func190,Tryz.ntmps190
  go_wp2
  refine wp_loop_rounds 1 ?_;rw[rounds_succ]
  go_wp2
  go_ret2
  exact⟨rfl,Below.refl _ _⟩
theorem rV(v:Value)(l:Prl)(k:Int)(w:World)(hv:Prs w v l)(hl:l.length<=12)(hr:Ris l):
  Calls Tryz.prog 166 #[v,.int .i64 k] w fun e w'=>e = .returned (.tuple #[.int .i64 (low l k:Nat),.bool (thr l k)])/\Below w.heap.size w w':=by
 have hB:=zl v l k w hv hl hr
 obtain⟨a,c,rfl⟩:=hv.shape
 generalize thr l k=th at *
 generalize low l k=lo at *
 generalize l.length=n at *
 clear hv hr
 go_enter Tryz.func166,Tryz.ntmps166
 go_wp2_with fail
 refine hB.mono ?_
 rintro e w1 ⟨rfl,hb1⟩
 clear hB
 go_wp2
 go_ret2
 exact⟨rfl,hb1⟩
theorem Tryz.mG:(Tryz.prog.info? 110).map (fun i=>(i.zero,i.size,i.bytes))=some (some (.agg #[.int .i64 0,.int .i64 0]),2,16):=by kernel_rfl
theorem Og(x y:Int)(w:World):
  Calls Tryz.prog 60 #[.agg #[.int .i64 x,.int .i64 y]] w fun e w'=>e = .returned (.agg #[.int .i64 x,.int .i64 y])/\Below w.heap.size w w':=by
 go_enter Tryz.func60,Tryz.ntmps60
 go_wp2
 refine bodyPost_ret (v:= .agg #[.int .i64 x,.int .i64 y]) (by simp[results,Tryz.results60,go_sem]) rfl ⟨rfl, ?_⟩
 exact(aN _ _).alloc (by simp;omega) _
theorem H8(n:Nat):(madeCells #[Value.int .i64 0,Value.int .i64 0] n).toList=List.replicate n (Value.int .i64 0):=by
 apply List.ext_getElem
 ·simp[madeCells]
 ·intro i h1 h2
  simp only[madeCells,Array.toList_map,List.getElem_map,List.getElem_replicate]
  rcases(by omega:(Array.range n).toList[i]'(by simpa [madeCells]using h1)%2=0∨(Array.range n).toList[i]'(by simpa [madeCells]using h1)%2=1)with h | h<;>(show #[Value.int .i64 0,Value.int .i64 0][_%2]! = _;rw[h];rfl)
theorem NI{w1 w:World}{n:Nat}{l:Prl}(HN:n=l.length)(h:w1.ownsRow w.heap.size 110 2 (.slice (some ⟨w.heap.size,0,none⟩) n n) n (madeCells #[Value.int .i64 0,Value.int .i64 0] (n*2)).toList):
  w1.ownsRow w.heap.size 110 2 (.slice (some ⟨w.heap.size,0,none⟩) n n) n ((copied (fl l) 0).map (Value.int .i64)):=by
 rw[Jm,kR,←HN,List.map_replicate,←H8]
 exact h
theorem rG{w:World}{B g n cap:Nat}{e:TypeId}{xs:List Value}(h:w.ownsRow B e 2 (.slice (some ⟨g,0,none⟩) n cap) n xs){j:Nat}(hj:j<n*2):∃x,w.cell? ⟨g,j,none⟩=some x:=
 ⟨_,(h.cellAt j (by omega)).trans (List.getElem?_eq_getElem (by rw[h.1];omega))⟩
theorem KJ(l:Prl){j:Nat}(h:j<l.length):(fl l).getD (j*2) 0=(pAt l j).1/\(fl l).getD (j*2+1) 0=(pAt l j).2:=by
 have:=EN l j h
 rw[List.getD_eq_getElem?_getD,List.getD_eq_getElem?_getD,this.1,this.2]
 exact⟨rfl,rfl⟩
theorem Vt(l:Prl){k:Nat}(h:k<l.length):((copied (fl l) (k*2)).set (k*2) (pAt l k).1).set (k*2+1) (pAt l k).2=copied (fl l) ((k+1)*2):=by
 have hl:=kR l
 rw[←(KJ l h).1,Ah _ _ (by omega),←(KJ l h).2,Ah _ _ (by omega)]
 congr 1
 omega
theorem Je(b off c n:Nat)(l:Prl)(w:World)(HN:Hid (n=l.length))(hx:n<=1048576)(hb:b<w.heap.size)
  (hc:∀j,j<n->w.cell? ⟨b,off+j*2,none⟩=some (.int .i64 (pAt l j).1)/\w.cell? ⟨b,off+j*2+1,none⟩=some (.int .i64 (pAt l j).2)) :
  Calls Tryz.prog 28 #[.slice (some ⟨b,off,none⟩) n c] w fun e w'=>e = .returned (.slice (some ⟨w.heap.size,0,none⟩) n n)/\Below w.heap.size w w'/\w'.ownsRow w.heap.size 110 2 (.slice (some ⟨w.heap.size,0,none⟩) n n) n ((fl l).map (Value.int .i64)):=by
 obtain⟨i0,hi,hz0,hz1,hz2⟩:=info_parts Tryz.mG
 go_enter Tryz.func28,Tryz.ntmps28
 go_wp2_with (at_make;refine wpList_make_full _ rfl _ _ 37 rfl w.heap.size 110 i0 (.agg #[.int .i64 0,.int .i64 0]) 2 Tryz.underlying37 hi hz0 hz1 _ _ _ _ n rfl rfl rfl rfl (by rw[hz2];omega) (by unfold maxLen;omega) (Nat.le_refl _) ?_)
 intro w1 hown1 hg1
 have bG:=NI HN.out hown1
 have hB1:Below w.heap.size w w1:=(Below.refl _ _).grown hg1 (Nat.le_refl _) (fun k hk=>by cases hk)
 clear hown1 hg1
 go_wp2
 go_loopw [4] (fun i wr=>∃k:Nat,k<=n/\i = .int .i64 k/\Below w.heap.size w wr/\w.heap.size<wr.heap.size/\wr.ownsRow w.heap.size 110 2 (.slice (some ⟨w.heap.size,0,none⟩) n n) n ((copied (fl l) (k*2)).map (Value.int .i64))) (fun i _=>n - (intOf i).toNat)
 case atStart=>exact⟨0,Nat.zero_le _,rfl,hB1,(bG.lt _ rfl).2,bG⟩
 case round=>
  obtain⟨k,hk,rfl,hB,hsz,ho⟩:=hrel
  by_cases hkn:k<n
  ·have hki:(k:Int)<(n:Int):=by omega
   have hc1:=(hB.cell (p:=⟨b,off+k*2,none⟩) hb).trans (hc k hkn).1
   have hc2:=(hB.cell (p:=⟨b,off+k*2+1,none⟩) hb).trans (hc k hkn).2
   have hlk:k<l.length:=by have:=HN.out;omega
   have hts:=Vt l hlk
   obtain⟨x,hx⟩:∃x,x=(pAt l k).1:=⟨_,rfl⟩
   obtain⟨y,hy⟩:∃y,y=(pAt l k).2:=⟨_,rfl⟩
   rw[←hx]at hc1 hts
   rw[←hy]at hc2 hts
   have HT:Hid (((copied (fl l) (k*2)).set (k*2) x).set (k*2+1) y=copied (fl l) ((k+1)*2)):=hts
   have HB:Hid (Below w.heap.size w wr):=hB
   have HO:Hid (wr.ownsRow w.heap.size 110 2 (.slice (some ⟨w.heap.size,0,none⟩) n n) n ((copied (fl l) (k*2)).map (Value.int .i64))):=ho
   clear hx hy hc hts bG hB1 ho hB
   go_wp2_with fail
   refine(Og x y _).mono ?_
   rintro e w2 ⟨rfl,hb2⟩
   have ho2:=own_below HO.out hb2
   have f0:=ho2.frozenAt (k*2)
   have f1:=ho2.frozenAt (k*2+1)
   obtain⟨z0,g0⟩:=rG ho2 (j:=k*2) (by omega)
   obtain⟨z1,g1⟩:=rG ho2 (j:=k*2+1) (by omega)
   have s1:=(ho2.stored (k*2) (.int .i64 x)).1
   have s2:=(s1.stored (k*2+1) (.int .i64 y)).1
   rw[←List.map_set,←List.map_set,HT.out]at s2
   have hB2:Below w.heap.size w ((w2.setCell ⟨w.heap.size,k*2,none⟩ (.int .i64 x)).setCell ⟨w.heap.size,k*2+1,none⟩ (.int .i64 y)):=((ah HB.out hb2).setCell (Nat.le_refl _) _).setCell (Nat.le_refl _) _
   have hsz2:w.heap.size<w2.heap.size:=by have:=hb2.size;omega
   have HB2:Hid (Below w.heap.size w ((w2.setCell ⟨w.heap.size,k*2,none⟩ (.int .i64 x)).setCell ⟨w.heap.size,k*2+1,none⟩ (.int .i64 y))):=hB2
   have HS2:Hid (((w2.setCell ⟨w.heap.size,k*2,none⟩ (.int .i64 x)).setCell ⟨w.heap.size,k*2+1,none⟩ (.int .i64 y)).ownsRow w.heap.size 110 2 (.slice (some ⟨w.heap.size,0,none⟩) n n) n ((copied (fl l) ((k+1)*2)).map (Value.int .i64))):=s2
   clear ho2 s1 s2 hB2 hb2
   go_wp2
   go_roundw
   case rel=>exact⟨k+1,by omega,by go_num,HB2.out,by simp;omega,HS2.out⟩
   case measure=>simp[intOf];omega
  ·have hkn:k=n:=by omega
   subst hkn
   have e1:copied (fl l) (k*2)=fl l:=by rw[HN.out,←kR];exact LZ _
   rw[e1]at ho
   go_wp2
   go_ret
   exact⟨rfl,hB,ho⟩
theorem JY(v:Value)(l:Prl)(w:World)(hv:Prs w v l)(hx:l.length<=1048576):
  Calls Tryz.prog 28 #[v] w fun e w'=>∃a c,e = .returned (.slice a l.length c)/\Below w.heap.size w w'/\w'.ownsRow w.heap.size 110 2 (.slice a l.length c) l.length ((fl l).map (Value.int .i64)):=by
 obtain⟨a,c,rfl⟩:=hv.shape
 by_cases h0:0<l.length
 ·obtain⟨_,b,off,rfl,hb,hc⟩:=hv.at h0
  refine(Je b off c l.length l w rfl hx hb hc).mono ?_
  rintro e w' ⟨rfl,hB,ho⟩
  exact⟨_,_,rfl,hB,ho⟩
 ·have e1:l=[]:=List.eq_nil_of_length_eq_zero (by omega)
  subst e1
  obtain⟨i0,hi,hz0,hz1,hz2⟩:=info_parts Tryz.mG
  simp only[List.length_nil]
  clear hv h0 hx
  go_enter Tryz.func28,Tryz.ntmps28
  go_wp2_with (at_make;refine wpList_make_full _ rfl _ _ 37 rfl w.heap.size 110 i0 (.agg #[.int .i64 0,.int .i64 0]) 2 Tryz.underlying37 hi hz0 hz1 _ _ _ _ 0 rfl rfl rfl rfl (by rw[hz2];omega) (by unfold maxLen;omega) (Nat.le_refl _) ?_)
  intro w1 hown1 hg1
  have hB1:Below w.heap.size w w1:=(Below.refl _ _).grown hg1 (Nat.le_refl _) (fun k hk=>by cases hk)
  have HO:Hid (w1.ownsRow w.heap.size 110 2 (.slice (some ⟨w.heap.size,0,none⟩) 0 0) 0 []):=by
   have:=hown1
   rw[H8]at this
   exact this
  clear hown1 hg1
  go_wp2
  refine wp_loop_rounds 1 ?_;rw[rounds_succ]
  go_wp2
  go_ret
  exact⟨_,_,rfl,hB1,HO.out⟩
theorem L9(x y x' y':Int)(w:World):
  Calls Tryz.prog 84 #[.agg #[.int .i64 x,.int .i64 y],.agg #[.int .i64 x',.int .i64 y']] w fun e w'=>e = .returned (.bool (decide ((x,y)=(x',y'))))/\Below w.heap.size w w':=by
 by_cases h1:x=x'
 ·by_cases h2:y=y'
  ·subst h1 h2
   rw[decide_eq_true rfl]
   go_enter Tryz.func84,Tryz.ntmps84
   go_wp2
   go_ret
   exact⟨rfl,aN _ _⟩
  ·subst h1
   have e1:(y != y')=true:=by simpa using h2
   rw[decide_eq_false (fun h=>h2 (by cases h;rfl))]
   clear h2
   go_enter Tryz.func84,Tryz.ntmps84
   go_wp2
   go_ret
   exact⟨rfl,aN _ _⟩
 ·have e1:(x != x')=true:=by simpa using h1
  rw[decide_eq_false (fun h=>h1 (by cases h;rfl))]
  clear h1
  go_enter Tryz.func84,Tryz.ntmps84
  go_wp2
  go_ret
  exact⟨rfl,aN _ _⟩
def pR(l m:Prl)(k:Nat):Prop:=∀j,j<k->pAt l j=pAt m j
theorem pR.all{l m:Prl}(h:pR l m l.length)(hl:l.length=m.length):l=m:=by
 apply List.ext_getElem hl
 intro j h1 h2
 have:=h j h1
 rwa [dY h1,dY h2]at this
theorem pR.succ{l m:Prl}{k:Nat}(h:pR l m k)(h1:pAt l k=pAt m k):pR l m (k+1):=by
 intro j hj
 by_cases e:j=k
 ·subst e;exact h1
 ·exact h j (by omega)
theorem FH(b off c b' off' c' n:Nat)(l m:Prl)(w:World)(HL:Hid (l.length=n))(HM:Hid (m.length=n))(hn:n<=1099511627776)(hb:b<w.heap.size)(hb':b'<w.heap.size)
  (hc:∀j,j<n->w.cell? ⟨b,off+j*2,none⟩=some (.int .i64 (pAt l j).1)/\w.cell? ⟨b,off+j*2+1,none⟩=some (.int .i64 (pAt l j).2))
  (hc':∀j,j<n->w.cell? ⟨b',off'+j*2,none⟩=some (.int .i64 (pAt m j).1)/\w.cell? ⟨b',off'+j*2+1,none⟩=some (.int .i64 (pAt m j).2)) :
  Calls Tryz.prog 36 #[.slice (some ⟨b,off,none⟩) n c,.slice (some ⟨b',off',none⟩) n c'] w fun e w'=>e = .returned (.bool (decide (l=m)))/\Below w.heap.size w w':=by
 go_enter Tryz.func36,Tryz.ntmps36
 go_wp2
 go_loopw [5] (fun i wr=>∃k:Nat,k<=n/\i = .int .i64 k/\Hid (pR l m k)/\Below w.heap.size w wr) (fun i _=>n - (intOf i).toNat)
 case atStart=>exact⟨0,Nat.zero_le _,rfl,fun j hj=>by omega,Below.refl _ _⟩
 case round=>
  obtain⟨k,hk,rfl,hA,hB⟩:=hrel
  by_cases hkn:k<n
  ·have hki:(k:Int)<(n:Int):=by omega
   have c1:=After.cell ((hB.cell (p:=⟨b,off+k*2,none⟩) hb).trans (hc k hkn).1)
   have c2:=After.cell ((hB.cell (p:=⟨b,off+k*2+1,none⟩) hb).trans (hc k hkn).2)
   have c3:=After.cell ((hB.cell (p:=⟨b',off'+k*2,none⟩) hb').trans (hc' k hkn).1)
   have c4:=After.cell ((hB.cell (p:=⟨b',off'+k*2+1,none⟩) hb').trans (hc' k hkn).2)
   have hne:=After.ne wr
   have hE:=fun w=>L9 (pAt l k).1 (pAt l k).2 (pAt m k).1 (pAt m k).2 w
   have HL2:Hid (l.length=n):=HL
   generalize hx:(pAt l k).1=x at *
   generalize hy:(pAt l k).2=y at *
   generalize hx':(pAt m k).1=x' at *
   generalize hy':(pAt m k).2=y' at *
   have HP:Hid (pAt l k=(x,y)/\pAt m k=(x',y')):=⟨by rw[←hx,←hy],by rw[←hx',←hy']⟩
   obtain⟨d,hd⟩:∃d,d=decide ((x,y)=(x',y')):=⟨_,rfl⟩
   have HD:Hid (d=decide ((x,y)=(x',y'))):=hd
   rw[←hd]at hE
   have HB:Hid (Below w.heap.size w wr):=hB
   clear hx hy hx' hy' hc hc' hd hB
   go_wp2
   refine au (by kernel_rfl) (by kernel_rfl) ?_
   repeat(first | go_big_quiet_skip |(go_big_quiet_want;go_big_quiet_op;first | go_big_quiet_on | go_big_quiet_call (first |(go_at_call 84;refine(hE _).mono ?_;rintro e wq ⟨rfl,hbq⟩;exact⟨rfl,aA (ah (After.b _) hbq)⟩))))
   refine wpQuiet_nil ?_
   rintro _ ⟨n2,rfl⟩
   have hB2:Below w.heap.size w n2.w:=ah HB.out n2.b
   cases d
   ·have e1:Hid (¬l=m):=fun e=>by
     have:=HD.out.symm
     rw[decide_eq_false_iff_not]at this
     exact this (by rw[←HP.out.1,←HP.out.2,e])
    go_wp2
    go_ret
    exact⟨aU (by symm;rw[decide_eq_false_iff_not];exact e1.out),hB2⟩
   ·go_wp2
    go_roundw
    case rel=>exact⟨k+1,by omega,by go_num,hA.out.succ (by rw[HP.out.1,HP.out.2];exact of_decide_eq_true HD.out.symm),hB2⟩
    case measure=>simp[intOf];omega
  ·clear hc hc'
   go_wp2
   go_ret
   refine⟨aU ?_,hB⟩
   symm
   rw[decide_eq_true_iff]
   have hkn:k=n:=by omega
   subst hkn
   have hxl:=HL.out
   exact pR.all (by rw[hxl];exact hA.out) (HL.out.trans HM.out.symm)
theorem Jp(v u:Value)(l m:Prl)(w:World)(hv:Prs w v l)(hu:Prs w u m)(hx:l.length<=1099511627776)(hy:m.length<=1099511627776):
  Calls Tryz.prog 36 #[v,u] w fun e w'=>e = .returned (.bool (decide (l=m)))/\Below w.heap.size w w':=by
 obtain⟨a,c,rfl⟩:=hv.shape
 obtain⟨a',c',rfl⟩:=hu.shape
 by_cases hl:l.length=m.length
 ·by_cases h0:0<l.length
  ·obtain⟨_,b,off,rfl,hb,hc⟩:=hv.at h0
   obtain⟨_,b',off',rfl,hb',hc'⟩:=hu.at (by omega)
   rw[←hl]at hc' ⊢
   exact FH b off c b' off' c' l.length l m w rfl hl.symm hx hb hb' hc hc'
  ·have e1:l=[]:=List.eq_nil_of_length_eq_zero (by omega)
   have e2:m=[]:=List.eq_nil_of_length_eq_zero (by omega)
   subst e1 e2
   simp only[List.length_nil]
   clear hv hu hl h0 hx hy
   go_enter Tryz.func36,Tryz.ntmps36
   go_wp2
   refine wp_loop_rounds 1 ?_;rw[rounds_succ]
   go_wp2
   go_ret
   exact⟨rfl,Below.refl _ _⟩
 ·have hne:decide (l=m)=false:=by rw[decide_eq_false_iff_not];intro e;exact hl (by rw[e])
  rw[hne]
  obtain⟨n,hn⟩:∃n,n=l.length:=⟨_,rfl⟩
  obtain⟨k,hk⟩:∃n,n=m.length:=⟨_,rfl⟩
  rw[←hn,←hk]at hl ⊢
  have h1:((n:Int) !=(k:Int))=true:=by simp;omega
  clear hv hu hl hne hn hk
  go_enter Tryz.func36,Tryz.ntmps36
  go_wp2
  go_ret
  exact⟨rfl,Below.refl _ _⟩
theorem Ik{tag a b:Int}(ht:1<=tag/\tag<=9)(ha:0<=a/\a<=65520)(hb:0<=b/\b<=65520):tgC tag [a,b]=0/\tsV tag [a,b]=bn (aZ tag [a,b]):=by
 have h1:inB tag 1 9=true:=iJ ht.1 ht.2
 have h3 : [a,b].all aP=true:=by simp[bC,ha,hb]
 have h2:¬ 20<[a,b].length:=by simp
 have:=uq h1 h2 h3
 exact⟨this.1,by rw[Oi this.1,this.2]⟩
theorem fC(w:World)(a b:Int)(t:TypeId):Ints .i64 (w.alloc (.cells #[.int .i64 a,.int .i64 b] t)) (.slice (some ⟨w.heap.size,0,none⟩) 2 2) [a,b]:=by
 refine Or.inr ⟨w.heap.size,0,2,rfl,by simp,fun j hj=> ?_⟩
 have hh:=heap_alloc_new w (.cells #[.int .i64 a,.int .i64 b] t)
 have hj2:j<2:=hj
 rcases(by omega:j=0∨j=1)with rfl | rfl<;>(unfold World.cell?;rw[hh];rfl)
theorem zi{w:World}{g:Nat}{a b:Int}{t:TypeId}(hg:g=w.heap.size):Ints .i64 (w.alloc (.cells #[.int .i64 a,.int .i64 b] t)) (.slice (some ⟨g,0,none⟩) 2 2) [a,b]:=by subst hg;exact fC w a b t
theorem qO(x y:Int)(w:World):(Instr.field 122 (.agg #[.int .i64 x,.int .i64 y]) 1).run Tryz.prog w = .ok (.int .i64 y) w:=by kernel_rfl
theorem nY(a b:Int)(w:World)(ha:0<=a/\a<=65520)(hb:0<=b/\b<=65520):
  Calls Tryz.prog 223 #[.int .i64 a,.int .i64 b] w fun e w'=>e = .returned (.int .i64 (t2 a b))/\Below w.heap.size w w':=by
 have hT:=fun (w:World) hv=>nM 2 (.slice (some ⟨w.heap.size,0,none⟩) 2 2) [a,b] (w.alloc (.cells #[.int .i64 a,.int .i64 b] 2)) hv (by simp)
 have hp:=Ik (tag:=2) (by omega) ha hb
 rw[hp.1,hp.2]at hT
 have e0:bn (aZ 2 [a,b])=t2 a b:=rfl
 rw[e0]at hT
 generalize t2 a b=s at *
 clear hp e0
 have kf:=fun w=>qO 0 s w
 go_enter Tryz.func223,Tryz.ntmps223
 go_wp2_with fail
 refine(hT _ (fC _ _ _ _)).mono ?_
 rintro e w1 ⟨rfl,hb1⟩
 clear hT
 go_wp2
 go_ret
 exact⟨rfl,ak hb1⟩
theorem fE(tag a b:Int)(u:Value)(w:World)(ht:0<=tag/\tag<=255)(hu:Ints .i64 w u [a,b])(ha:0<=a/\a<=65520)(hb:0<=b/\b<=65520):
  Calls Tryz.prog 175 #[.int .i64 tag,u] w fun e w'=>e = .returned (.int .i64 (bn (aZ tag [a,b])))/\Below w.heap.size w w':=by
 have h3 : [a,b].all aP=true:=by simp[bC,ha,hb]
 have hB:=fun w h=>iP tag u [a,b] w h (by simp) ht h3
 have hS:=fun v w h=>kC v (aZ tag [a,b]) w h (lD ht h3) (by rw[jE];simp)
 have hl:(aZ tag [a,b]).length=5:=by rw[jE];rfl
 have HU:Hid (Ints .i64 w u [a,b]):=hu
 obtain⟨a',c',hu2⟩:=hu.shape
 have hu3:u = .slice a' 2 c':=hu2
 subst hu3
 clear hu2
 rw[hl]at hB
 have HL:Hid ((aZ tag [a,b]).length=5):=hl
 generalize bn (aZ tag [a,b])=s at *
 generalize aZ tag [a,b]=ys at *
 clear hu hl h3 ha hb ht
 go_enter Tryz.func175,Tryz.ntmps175
 go_wp2_with fail
 refine(hB _ HU.out).mono ?_
 rintro e w1 ⟨v',rfl,bG,hb1⟩
 rw[←HL.out]at bG
 have HI:Hid (Ints .u8 w1 v' ys):=gq bG
 obtain⟨a1,c1,rfl⟩:=aW bG
 rw[HL.out]at HI ⊢
 clear hB bG
 go_wp2_with fail
 refine(hS _ _ HI.out).mono ?_
 rintro e w2 ⟨rfl,rfl⟩
 clear hS
 go_wp2
 go_ret
 exact⟨rfl,hb1⟩
theorem fF(n:Nat)(w:World)(hn:n<=1000):
  Calls Tryz.prog 197 #[.int .i64 (n:Int)] w fun e w'=>e = .returned (.int .i64 (emp n))/\Below w.heap.size w w':=by
 have hS:=fun w=>kC (.slice none 0 0) [] w (Or.inl ⟨rfl,_,_,rfl⟩) (fun b hb=>by cases hb) (by simp)
 have e0:bn []=13:=rfl
 rw[e0]at hS
 go_enter Tryz.func197,Tryz.ntmps197
 go_wp2_with fail
 refine(hS _).mono ?_
 rintro e w1 ⟨rfl,rfl⟩
 clear hS e0
 go_wp2
 go_loopw [0,3] (fun i s wr=>∃k:Nat,k<=n/\i = .int .i64 k/\s = .int .i64 (emp (n - k))/\Below w1.heap.size w1 wr) (fun i _ _=>(intOf i).toNat)
 case atStart=>exact⟨n,Nat.le_refl _,rfl,by rw[Nat.sub_self];rfl,Below.refl _ _⟩
 case round=>
  obtain⟨k,hk,rfl,rfl,hB⟩:=hrel
  by_cases h0:0<k
  ·have hi0:(0:Int)<(k:Int):=by omega
   have hbd:=Aj (n - k)
   have he:Hid (emp (n - (k - 1))=bn (aZ 2 [emp (n - k),emp (n - k)])):=by
    show _=_
    rw[show n - (k - 1)=(n - k)+1 by omega]
    rfl
   generalize emp (n - k)=x at *
   have hT:=fun w u hu=>fE 2 x x u w (by omega) hu hbd hbd
   generalize bn (aZ 2 [x,x])=y at *
   go_wp2_with fail
   refine(hT _ _ (fC _ _ _ _)).mono ?_
   rintro e w2 ⟨rfl,hb2⟩
   have hB2:=ah hB (ak hb2)
   clear hT hb2 hB
   go_wp2
   go_roundw
   case rel=>exact⟨k - 1,by omega,by go_num,by rw[he.out],hB2⟩
   case measure=>simp[intOf];omega
  ·have:k=0:=by omega
   subst this
   go_wp2
   go_ret
   exact⟨rfl,hB⟩
def cutAt(l:Prl)(a b:Int)(k:Nat):Prl:=cut (l.take k) a b
theorem OU(l:Prl)(a b:Int):cutAt l a b l.length=cut l a b:=by unfold cutAt;rw[List.take_length]
theorem BR{l:Prl}{k:Nat}(h:k<l.length):l.take (k+1)=l.take k++[pAt l k]:=by
 rw[List.take_succ_eq_append_getElem h,dY h]
theorem Rl{l:Prl}{a b:Int}{k:Nat}(h:k<l.length)(h1:a<=(pAt l k).1)(h2:(pAt l k).1<b):cutAt l a b (k+1)=cutAt l a b k++[pAt l k]:=by
 unfold cutAt cut
 rw[BR h,List.filter_append,List.filter_cons_of_pos (by simp[h1,h2])]
 rfl
theorem OY{l:Prl}{a b:Int}{k:Nat}(h:k<l.length)(h1:¬(a<=(pAt l k).1/\(pAt l k).1<b)):cutAt l a b (k+1)=cutAt l a b k:=by
 unfold cutAt cut
 rw[BR h,List.filter_append,List.filter_cons_of_neg (by simp;omega)]
 simp
theorem OW(l:Prl)(a b:Int)(k:Nat):(cutAt l a b k).length<=l.length:=by
 have h1:=jc (l.take k) a b
 rw[List.length_take]at h1
 unfold cutAt
 omega
theorem tZ{w:World}{B:Nat}{e:TypeId}{v:Value}{l:Prl}{x y:Int}(h:w.ownsRow B e 2 v (l.length+1) ((fl l).map (Value.int .i64)++[.int .i64 x,.int .i64 y])):w.ownsRow B e 2 v (l++[(x,y)]).length ((fl (l++[(x,y)])).map (Value.int .i64)):=by
 rw[Pj,List.map_append,List.length_append]
 exact h
theorem gG{w:World}{B n:Nat}{e:TypeId}{v:Value}{xs:List Value}(h:w.ownsRow B e 2 v n xs):∃a c,v = .slice a n c:=by
 rcases h.2 with⟨rfl,hn⟩ |⟨g,cap,cur,rfl,_⟩
 ·exact⟨none,0,by rw[hn]⟩
 ·exact⟨_,_,rfl⟩
theorem qB(w:World)(e:TypeId)(B:Nat)(hB:B<=w.heap.size):(w.alloc (.cells #[] e)).ownsRow B e 2 (.slice (some ⟨w.heap.size,0,none⟩) 0 0) 0 []:=
 World.ownsRow_made w #[] 0 hB (by decide) rfl
theorem Nq(ad:Option Addr)(n c:Nat)(l:Prl)(a b:Int)(w:World)(HN:Hid (n=l.length))(hn:n<=1048576)(HV:Hid (Prs w (.slice ad n c) l)):
  Calls Tryz.prog 141 #[.slice ad n c,.int .i64 a,.int .i64 b] w fun e w'=>∃v',e = .returned v'/\w'.ownsRow w.heap.size 110 2 v' (cut l a b).length ((fl (cut l a b)).map (Value.int .i64))/\Below w.heap.size w w':=by
 obtain⟨i0,hi,hz0,hz1,hz2⟩:=info_parts Tryz.mG
 go_enter Tryz.func141,Tryz.ntmps141
 go_wp2
 go_loopw [7,8] (fun u i wr=>∃k:Nat,k<=n/\i = .int .i64 k/\Hid (Below w.heap.size w wr)/\Hid (wr.ownsRow w.heap.size 110 2 u (cutAt l a b k).length ((fl (cutAt l a b k)).map (Value.int .i64)))) (fun _ i _=>n - (intOf i).toNat)
 case atStart=>exact⟨0,Nat.zero_le _,rfl,aj _,qB w _ _ (Nat.le_refl _)⟩
 case round=>
  obtain⟨k,hk,rfl,hB,ho⟩:=hrel
  obtain⟨a',c',rfl⟩:=gG ho.out
  by_cases hkn:k<n
  ·have hki:(k:Int)<(n:Int):=by omega
   have hkl:k<l.length:=by have:=HN.out;omega
   obtain⟨-,bk,off,rfl,hbk,hc⟩:=HV.out.at (by omega)
   have hc1:=(hB.out.cell (p:=⟨bk,off+k*2,none⟩) hbk).trans (hc k hkl).1
   have hc2:=(hB.out.cell (p:=⟨bk,off+k*2+1,none⟩) hbk).trans (hc k hkl).2
   have HI:Hid (a<=(pAt l k).1->(pAt l k).1<b->cutAt l a b (k+1)=cutAt l a b k++[((pAt l k).1,(pAt l k).2)]):=Rl hkl
   have HO:Hid (¬(a<=(pAt l k).1/\(pAt l k).1<b)->cutAt l a b (k+1)=cutAt l a b k):=OY hkl
   have hlen:=OW l a b k
   rw[←HN.out]at hlen
   generalize (pAt l k).1=x at *
   generalize (pAt l k).2=y at *
   generalize cutAt l a b k=m at *
   clear hc
   by_cases h1:a<=x
   ·by_cases h2:x<b
    ·have HI2:=HI.out h1 h2
     have HS:Hid (cutAt l a b (k+1)=m++[(x,y)]):=HI2
     have ho2:=ho.out
     have hsz:=hB.out.size
     clear HI HO HI2
     go_wp2_with (at_builtin;refine wpList_append_own _ rfl _ _ 37 rfl w.heap.size 110 i0 (.agg #[.int .i64 0,.int .i64 0]) 2 16 Tryz.underlying37 hi hz0 hz1 hz2 rfl (by decide) _ _ _ rfl (ho2.alloc _) ⟨wr.heap.size,0,none⟩ 1 1 [.int .i64 x,.int .i64 y] rfl rfl (World.news_of_block (heap_alloc_new _ _)) (ints_oneCell .i64 [x,y]) (by unfold maxLen;omega) (by omega) (by simp;omega) ?_)
     intro v' w2 hown' hgrow _
     have hb2:Below w.heap.size w w2:=(hB.out.alloc (by omega) _).grown hgrow (by simp;omega) (fun k hk=>(ho.out.lt k hk).1)
     have dA:=tZ hown'
     clear hgrow hown' ho2 ho
     go_wp2
     go_roundw
     case rel=>exact⟨k+1,by omega,by go_num,hb2,by rw[HS.out];exact dA⟩
     case measure=>simp[intOf];omega
    ·have HS:Hid (cutAt l a b (k+1)=m):=HO.out (fun h=>h2 h.2)
     clear HI HO
     go_wp2
     go_roundw
     case rel=>exact⟨k+1,by omega,by go_num,hB,by rw[HS.out];exact ho⟩
     case measure=>simp[intOf];omega
   ·have HS:Hid (cutAt l a b (k+1)=m):=HO.out (fun h=>h1 h.1)
    clear HI HO
    go_wp2
    go_roundw
    case rel=>exact⟨k+1,by omega,by go_num,hB,by rw[HS.out];exact ho⟩
    case measure=>simp[intOf];omega
  ·have hkn:k=n:=by omega
   subst hkn
   have e1:cutAt l a b k=cut l a b:=by rw[HN.out];exact OU _ _ _
   rw[e1]at ho ⊢
   go_wp2
   go_ret
   exact⟨_,rfl,ho.out,hB.out⟩
theorem gK(v:Value)(l:Prl)(a b:Int)(w:World)(hv:Prs w v l)(hn:l.length<=1048576):
  Calls Tryz.prog 141 #[v,.int .i64 a,.int .i64 b] w fun e w'=>∃a' c',e = .returned (.slice a' (cut l a b).length c')/\w'.ownsRow w.heap.size 110 2 (.slice a' (cut l a b).length c') (cut l a b).length ((fl (cut l a b)).map (Value.int .i64))/\Below w.heap.size w w':=by
 obtain⟨ad,c,rfl⟩:=hv.shape
 refine(Nq ad l.length c l a b w rfl hn hv).mono ?_
 rintro e w' ⟨v',rfl,ho,hb⟩
 obtain⟨a',c',rfl⟩:=gG ho
 exact⟨a',c',rfl,ho,hb⟩
def mkP(k n:Nat):Prl:=(List.range n).map fun j=>(((k+j*2:Nat):Int),((k+(j*2+1):Nat):Int))
theorem kL(k n:Nat):(mkP k n).length=n:=by simp[mkP]
theorem Qg(k n j:Nat)(h:j<n):pAt (mkP k n) j=(((k+j*2:Nat):Int),((k+(j*2+1):Nat):Int)):=by
 rw[dY (by rw[kL];exact h)]
 simp[mkP]
theorem Wq(k n:Nat):fl (mkP k n)=marks k (n*2):=by
 apply List.ext_getElem?
 intro i
 by_cases h:i<n*2
 ·have h1:=EN (mkP k n) (i/2) (by rw[kL];omega)
  rw[Qg k n (i/2) (by omega)]at h1
  have e:(marks k (n*2))[i]? = some ((k+i:Nat):Int):=by simp[marks,h]
  rw[e]
  rcases(by omega:i=i/2*2∨i=i/2*2+1)with hh | hh
  ·rw[hh,h1.1]
  ·rw[hh,h1.2]
 ·rw[List.getElem?_eq_none (by rw[kR,kL];omega),List.getElem?_eq_none (by rw[D7];omega)]
theorem Prs.grown{w w':World}{v:Value}{l:Prl}{row:Option Nat}(h:Prs w v l)(hg:w.grownBy w' row)(hne:v.ownBlock=none∨v.ownBlock≠row):Prs w' v l:=by
 rcases h with h |⟨b,off,c,rfl,hlt,hc⟩
 ·exact Or.inl h
 ·have hnb:some b≠row:=by
   rcases hne with hh | hh
   ·simp[Value.ownBlock]at hh
   ·exact hh
  exact Or.inr ⟨b,off,c,rfl,Nat.lt_of_lt_of_le hlt hg.size,fun j hj=>⟨hg.cell (hc j hj).1 hnb,hg.cell (hc j hj).2 hnb⟩⟩
theorem Qq{w:World}{B n:Nat}{e:TypeId}{v:Value}{l:Prl}(HN:n=l.length)(h:w.ownsRow B e 2 v n ((fl l).map (Value.int .i64))):Prs w v l:=by
 subst HN;exact bK h
theorem EJ(B:Nat)(v:Value)(l:Prl)(k0:Nat)(w:World)(hown:w.ownsRow B 110 2 v l.length ((fl l).map (Value.int .i64)))(hx:l.length<=1099511627776)(hk0:k0<=1099511627776):
  Calls Tryz.prog 40 #[v,.int .i64 k0] w fun e w'=>e = .returned (.int .i64 ((k0+l.length*2:Nat):Int))/\w.grownBy w' v.ownBlock/\w'.ownsRow B 110 2 v l.length ((fl (mkP k0 l.length)).map (Value.int .i64)):=by
 by_cases h0:l.length=0
 ·have e1:l=[]:=List.eq_nil_of_length_eq_zero h0
  subst e1
  obtain⟨a,c,rfl⟩:∃a c,v = .slice a 0 c:=by
   rcases hown.2 with⟨rfl,hn⟩ |⟨g,cap,cur,rfl,_⟩
   ·exact⟨none,0,rfl⟩
   ·exact⟨_,_,rfl⟩
  simp only[List.length_nil]at *
  go_enter Tryz.func40,Tryz.ntmps40
  go_wp2
  refine wp_loop_rounds 1 ?_;rw[rounds_succ]
  go_wp2
  go_ret
  exact⟨rfl,World.grownBy.refl _ _,hown⟩
 ·rcases hown.2 with⟨_,h⟩ |⟨g,cap,cur,rfl,hB,hg,_⟩
  ·exact absurd h h0
  have hgs:g<w.heap.size:=(Array.getElem?_eq_some_iff.1 hg).1
  have hfl:=kR l
  have hml:fl (mkP k0 l.length)=marks k0 (fl l).length:=by rw[Wq,hfl]
  rw[hml]
  clear hg hB hml
  obtain⟨n,hn⟩:∃n,n=l.length:=⟨_,rfl⟩
  have HN:Hid ((fl l).length=n*2):=by show _=_;rw[hn];exact hfl
  rw[←hn]at hown hx h0 ⊢
  generalize fl l=xs at *
  clear hn h0 hfl
  go_enter Tryz.func40,Tryz.ntmps40
  go_wp2
  go_loopw [1,5] (fun k i wr=>∃j:Nat,j<=n/\i = .int .i64 j/\k = .int .i64 ((k0+j*2:Nat):Int)/\w.grownBy wr (some g)/\wr.ownsRow B 110 2 (.slice (some ⟨g,0,none⟩) n cap) n ((half xs k0 (j*2)).map (Value.int .i64))) (fun _ i _=>n - (intOf i).toNat)
  case atStart=>exact⟨0,Nat.zero_le _,rfl,by simp,World.grownBy.refl _ _,by rw[Nat.zero_mul,Po];exact hown⟩
  case round=>
   obtain⟨j,hj,rfl,rfl,hgr,ho⟩:=hrel
   by_cases hjn:j<n
   ·have hji:(j:Int)<(n:Int):=by omega
    have f0:=ho.frozenAt (j*2)
    have f1:=ho.frozenAt (j*2+1)
    obtain⟨x,c0⟩:=rG ho (j:=j*2) (by omega)
    obtain⟨y,c1⟩:=rG ho (j:=j*2+1) (by omega)
    obtain⟨s1,s2⟩:=ho.stored (j*2) (.int .i64 ((k0+j*2:Nat):Int))
    obtain⟨s3,s4⟩:=s1.stored (j*2+1) (.int .i64 ((k0+(j*2+1):Nat):Int))
    have s5:=bJ (bJ hgr s2) s4
    rw[←List.map_set,Gf xs k0 (j*2) (by have:=HN.out;omega),←List.map_set,Gf xs k0 (j*2+1) (by have:=HN.out;omega)]at s3
    have e5:(((k0+j*2:Nat):Int)+1)=((k0+(j*2+1):Nat):Int):=by omega
    have H3:Hid (((wr.setCell ⟨g,j*2,none⟩ (.int .i64 ((k0+j*2:Nat):Int))).setCell ⟨g,j*2+1,none⟩ (.int .i64 ((k0+(j*2+1):Nat):Int))).ownsRow B 110 2 (.slice (some ⟨g,0,none⟩) n cap) n ((half xs k0 (j*2+1+1)).map (Value.int .i64))/\w.grownBy ((wr.setCell ⟨g,j*2,none⟩ (.int .i64 ((k0+j*2:Nat):Int))).setCell ⟨g,j*2+1,none⟩ (.int .i64 ((k0+(j*2+1):Nat):Int))) (some g)):=⟨s3,s5⟩
    rw[←e5]at H3
    clear ho hown hgr s1 s2 s3 s4 s5 e5
    go_wp2
    go_roundw
    case rel=>
     exact⟨j+1,by omega,by go_num,by go_num,by simpa using H3.out.2,by rw[show(j+1)*2=j*2+1+1 by omega];simpa using H3.out.1⟩
    case measure=>simp[intOf];omega
   ·have hjn:j=n:=by omega
    subst hjn
    rw[←HN.out,RD]at ho
    go_wp2
    go_ret
    exact⟨rfl,hgr,ho⟩
theorem Eu(v:Value)(n k0:Nat)(w:World)(hv:Prs w v (mkP k0 n))(hx:n<=1099511627776)(hk0:k0<=1099511627776):
  Calls Tryz.prog 88 #[v,.int .i64 k0] w fun e w'=>e = .returned (.int .i64 ((k0+n*2:Nat):Int))/\w'=w:=by
 obtain⟨a,c,rfl⟩:=hv.shape
 by_cases h0:n=0
 ·subst h0
  simp only[kL]
  clear hv
  go_enter Tryz.func88,Tryz.ntmps88
  go_wp2
  refine wp_loop_rounds 1 ?_;rw[rounds_succ]
  go_wp2
  go_ret
  exact⟨rfl,rfl⟩
 ·obtain⟨_,b,off,rfl,hb,hc⟩:=hv.at (by rw[kL];omega)
  have hcm:∀j,j<n->w.cell? ⟨b,off+j*2,none⟩=some (.int .i64 ((k0+j*2:Nat):Int))/\w.cell? ⟨b,off+j*2+1,none⟩=some (.int .i64 (((k0+j*2:Nat):Int)+1)):=fun j hj=>by
   have h1:=hc j (by rw[kL];exact hj)
   rw[Qg _ _ _ hj]at h1
   refine⟨h1.1,h1.2.trans ?_⟩
   congr 2
  rw[kL]
  clear hv hc h0
  go_enter Tryz.func88,Tryz.ntmps88
  go_wp2
  go_loop [1,5] (fun k i=>∃j:Nat,j<=n/\i = .int .i64 j/\k = .int .i64 ((k0+j*2:Nat):Int)) (fun _ i=>n - (intOf i).toNat)
  case atStart=>exact⟨0,Nat.zero_le _,rfl,by simp⟩
  case round=>
   obtain⟨j,hj,rfl,rfl⟩:=hrel
   by_cases hjn:j<n
   ·have hji:(j:Int)<(n:Int):=by omega
    obtain⟨c0,c1⟩:=hcm j hjn
    have HQ:Hid (((k0+j*2:Nat):Int)+1+1=((k0+(j+1)*2:Nat):Int)):=by show _=_;omega
    have hq:(k0+j*2:Nat)<=4398046511104:=by omega
    generalize k0+j*2=q at *
    clear hcm
    go_wp2
    go_round
    case rel=>exact⟨j+1,by omega,by go_num,by rw[←HQ.out]⟩
    case measure=>simp[intOf];omega
   ·have hjn:j=n:=by omega
    subst hjn
    clear hcm
    go_wp2
    go_ret
    exact⟨rfl,rfl⟩
def sG(w:World)(code:Int)(l:Prl)(e:Ending)(w':World):Prop:=
 Below w.heap.size w w'/\∃v,e = .returned (.agg #[.int .i64 code,v])/\w'.ownsRow w.heap.size 110 2 v l.length ((fl l).map (Value.int .i64))
theorem sG.use{w w':World}{code:Int}{l:Prl}{e:Ending}(h:sG w code l e w'):∃a c,e = .returned (.agg #[.int .i64 code,.slice a l.length c])/\Below w.heap.size w w'/\w'.ownsRow w.heap.size 110 2 (.slice a l.length c) l.length ((fl l).map (Value.int .i64)):=by
 obtain⟨hb,v,rfl,ho⟩:=h
 obtain⟨a,c,rfl⟩:=gG ho
 exact⟨a,c,rfl,hb,ho⟩
def Okv(v:Value):Prop:=∀a n c,v = .slice a n c->n<=c/\(a=none->c=0)
theorem KZ{w:World}{B:Nat}{e:TypeId}{v:Value}{m:Nat}{xs:List Value}(h:w.ownsRow B e 2 v m xs):Okv v:=by
 intro a n c hv
 subst hv
 rcases h.2 with⟨h1,_⟩ |⟨g,cap,cur,h1,_,_,hc,_⟩
 ·cases h1;exact⟨by omega,fun _=>rfl⟩
 ·cases h1;exact⟨hc,fun h=>by cases h⟩
theorem zV{w:World}{b off n c i j:Nat}{l:Prl}(hn:n=l.length)(hb:b<w.heap.size)(hij:i<=j)(hj:j<=n)
  (hc:∀j,j<n->w.cell? ⟨b,off+j*2,none⟩=some (.int .i64 (pAt l j).1)/\w.cell? ⟨b,off+j*2+1,none⟩=some (.int .i64 (pAt l j).2)) :
  Prs w (.slice (some ⟨b,off+i*2,none⟩) (j - i) c) ((l.take j).drop i):=by
 right
 have hl:((l.take j).drop i).length=j - i:=by rw[List.length_drop,List.length_take];omega
 refine⟨b,off+i*2,c,by rw[hl],hb,fun k hk=> ?_⟩
 rw[hl]at hk
 have h1:=hc (i+k) (by omega)
 have e:pAt ((l.take j).drop i) k=pAt l (i+k):=by
  unfold pAt
  rw[List.getD_eq_getElem?_getD,List.getD_eq_getElem?_getD,List.getElem?_drop,List.getElem?_take,if_pos (by omega)]
 rw[e,show off+i*2+k*2=off+(i+k)*2 by omega]
 exact h1
theorem zZ(v:Value)(l:Prl)(a b:Int)(w:World)(hv:Prs w v l)(hcap:Okv v)(hl:l.length<=12)(hr:Ris l)(hab:a<=b):
  Calls Tryz.prog 127 #[v,.int .i64 a,.int .i64 b] w fun e w'=>(∃ad c,e = .returned (.slice ad (cut l a b).length c)/\Prs w (.slice ad (cut l a b).length c) (cut l a b)/\Okv (.slice ad (cut l a b).length c))/\Below w.heap.size w w':=by
 have hP1:=fun w' h=>rV v l a w' (hv.below h) hl hr
 have hP2:=fun w' h=>rV v l b w' (hv.below h) hl hr
 have hm:=low_mono l hab
 have hle:=P8 l b
 have hce:=Wi hr a b
 have hlen:(cut l a b).length=low l b - low l a:=by rw[hce,List.length_drop,List.length_take];omega
 obtain⟨ad,c,rfl⟩:=hv.shape
 have hcp:=(hcap _ _ _ rfl).1
 have XH:Hid (ad=none->c=0):=(hcap _ _ _ rfl).2
 have HV:Hid (Prs w (.slice ad l.length c) l):=hv
 have VQ:Hid (∀bk off cc,ad=some ⟨bk,off,none⟩->0<l.length->Prs w (.slice (some ⟨bk,off+low l a*2,none⟩) (low l b - low l a) cc) (cut l a b)):=fun bk off cc e h0=>by
  subst e
  obtain⟨_,b',off',e',hb',hc'⟩:=hv.at h0
  cases e'
  rw[hce]
  exact zV rfl hb' hm hle hc'
 have HL:Hid ((cut l a b).length=low l b - low l a):=hlen
 have HN:Hid (low l b - low l a=0->cut l a b=[]):=fun h=>List.eq_nil_of_length_eq_zero (by rw[hlen];exact h)
 have Rz:0<l.length->∃bk off,ad=some ⟨bk,off,none⟩:=fun h0=>by
  obtain⟨_,b',off',e',_⟩:=hv.at h0
  exact⟨b',off',e'⟩
 rw[hlen]
 generalize cut l a b=m at *
 generalize low l b=j at *
 generalize low l a=i at *
 generalize thr l a=t1 at *
 generalize thr l b=t2 at *
 generalize l.length=n at *
 clear hv hr hcap hce hlen hab
 have hij:(i:Int)<=(j:Int):=by omega
 have hjc:(j:Int)<=(c:Int):=by omega
 have hjn:(j:Int)<=(n:Int):=by omega
 by_cases h0:0<n
 ·obtain⟨bk,off,rfl⟩:=Rz h0
  clear Rz
  by_cases hci:c=i
  ·have hji:j - i=0:=by omega
   have HM:Hid (m=[]):=HN.out hji
   have hij2:j=i:=by omega
   subst hij2 hci
   go_enter Tryz.func127,Tryz.ntmps127
   go_wp2_with fail
   refine(hP1 _ (Below.refl _ _)).mono ?_
   rintro e w1 ⟨rfl,hb1⟩
   clear hP1
   go_wp2_with fail
   refine(hP2 _ hb1).mono ?_
   rintro e w2 ⟨rfl,hb2⟩
   have hB2:=ah hb1 hb2
   clear hP2 hb1 hb2
   go_wp2
   go_ret
   exact⟨⟨_,_,by rw[Nat.sub_self];rfl,Or.inl ⟨HM.out,_,_,by rw[Nat.sub_self]⟩,fun _ _ _ h=>by cases h;exact⟨by omega,fun h=>by cases h⟩⟩,hB2⟩
  ·have VR:=VQ.out bk off (c - i) rfl h0
   have VR:Hid (Prs w (.slice (some ⟨bk,off+i*2,none⟩) (j - i) (c - i)) m):=VR
   clear VQ
   go_enter Tryz.func127,Tryz.ntmps127
   go_wp2_with fail
   refine(hP1 _ (Below.refl _ _)).mono ?_
   rintro e w1 ⟨rfl,hb1⟩
   clear hP1
   go_wp2_with fail
   refine(hP2 _ hb1).mono ?_
   rintro e w2 ⟨rfl,hb2⟩
   have hB2:=ah hb1 hb2
   clear hP2 hb1 hb2
   go_wp2
   go_ret
   exact⟨⟨_,_,rfl,VR.out,fun _ _ _ h=>by cases h;exact⟨by omega,fun h=>by cases h⟩⟩,hB2⟩
 ·have hj0:j=0:=by omega
  have hi0:i=0:=by omega
  have hn0:n=0:=by omega
  subst hj0 hi0 hn0
  have HM:Hid (m=[]):=HN.out rfl
  clear Rz VQ HN HV
  rcases ad with _ | ad
  ·have hc0:=XH.out rfl
   subst hc0
   clear XH
   go_enter Tryz.func127,Tryz.ntmps127
   go_wp2_with fail
   refine(hP1 _ (Below.refl _ _)).mono ?_
   rintro e w1 ⟨rfl,hb1⟩
   clear hP1
   go_wp2_with fail
   refine(hP2 _ hb1).mono ?_
   rintro e w2 ⟨rfl,hb2⟩
   have hB2:=ah hb1 hb2
   clear hP2 hb1 hb2
   go_wp2
   go_ret
   exact⟨⟨_,_,rfl,Or.inl ⟨HM.out,_,_,rfl⟩,fun _ _ _ h=>by cases h;exact⟨by omega,fun _=>rfl⟩⟩,hB2⟩
  ·go_enter Tryz.func127,Tryz.ntmps127
   go_wp2_with fail
   refine(hP1 _ (Below.refl _ _)).mono ?_
   rintro e w1 ⟨rfl,hb1⟩
   clear hP1
   go_wp2_with fail
   refine(hP2 _ hb1).mono ?_
   rintro e w2 ⟨rfl,hb2⟩
   have hB2:=ah hb1 hb2
   clear hP2 hb1 hb2
   go_wp2
   go_ret
   exact⟨⟨_,_,rfl,Or.inl ⟨HM.out,_,_,rfl⟩,fun _ _ _ h=>by cases h;exact⟨by omega,fun h=>by cases h⟩⟩,hB2⟩
def sK(a b:Int):Bool:=inB a 0 256&&inB b a 256
def csC(l:Prl)(a b:Int):Int:=if slF l=0 then(if sK a b=true then 0 else 3)else slF l
def csL(l:Prl)(a b:Int):Prl:=if slF l=0/\sK a b=true then cut l a b else []
theorem zU{w:World}{ad:Addr}{m c:Nat}{l:Prl}(h:Prs w (.slice (some ad) m c) l):∀j u,((fl l).map (Value.int .i64))[j]? = some u->w.cell? (ad.add j)=some u:=by
 intro j u hu
 have hj:j<l.length*2:=by
  have:=(List.getElem?_eq_some_iff.1 hu).1
  rwa [List.length_map,kR]at this
 obtain⟨_,b,off,e,hb,hc⟩:=h.at (by omega)
 cases e
 have h1:=hc (j/2) (by omega)
 have h2:=EN l (j/2) (by omega)
 rw[List.getElem?_map]at hu
 rw[Go.WideShapes.add_plain]
 rcases(by omega:j=j/2*2∨j=j/2*2+1)with e | e
 ·rw[e,h2.1]at hu
  rw[show off+j=off+j/2*2 by omega,h1.1]
  exact hu
 ·rw[e,h2.2]at hu
  rw[show off+j=off+j/2*2+1 by omega,h1.2]
  exact hu
theorem zH(v:Value)(l:Prl)(a b:Int)(w:World)(hv:Prs w v l)(hcap:Okv v)(hx:l.length<=1099511627776):
  Calls Tryz.prog 81 #[v,.int .i64 a,.int .i64 b] w fun e w'=>sG w (csC l a b) (csL l a b) e w':=by
 have hF:=fun w' h=>jY v l w' (hv.below h) hx
 unfold csC csL
 by_cases h0:slF l=0
 ·have hs:=BL h0
  rw[if_pos h0]
  rw[h0]at hF
  by_cases hc:sK a b=true
  ·rw[if_pos hc,if_pos ⟨h0,hc⟩]
   have hcb:=hc
   unfold sK at hcb
   rw[Bool.and_eq_true]at hcb
   have ha:=jd hcb.1
   have hb:=jd hcb.2
   have hP:=fun w' h=>zZ v l a b w' (hv.below h) hcap hs.len hs.ris hb.1
   have hcl:=jc l a b
   have hln:=hs.len
   have hlm:(cut l a b).length<=12:=by omega
   obtain⟨i0,hi,hz0,hz1,hz2⟩:=info_parts Tryz.mG
   obtain⟨ad,c,rfl⟩:=hv.shape
   have i1:¬a<0:=by omega
   have i2:¬ 256<a:=by omega
   have i3:¬b<a:=by omega
   have i4:¬ 256<b:=by omega
   generalize cut l a b=m at *
   generalize l.length=n at *
   clear hv h0 hs hc hcb hcap
   go_enter Tryz.func81,Tryz.ntmps81
   go_wp2_with fail
   refine(hF _ (aj _)).mono ?_
   rintro e w1 ⟨rfl,hb1⟩
   clear hF
   go_wp2_with fail
   refine(hP _ (ak hb1)).mono ?_
   rintro e w2 ⟨⟨V9,c2,rfl,hp2,hc2⟩,hb2⟩
   have hp2:=hp2.below hb2
   have hb2':=ah hb1 hb2
   have hB2:=ak hb2'
   obtain⟨g0,g1,f0,f1⟩:=fG ((hb2'.block w.heap.size (by simp)).trans (heap_alloc_new w _))
   have hz2:w.heap.size<w2.heap.size:=by have:=hb2'.size;simp at this;omega
   have hok:=hc2 _ _ _ rfl
   clear hP hb1 hb2 hc2
   rcases V9 with _ | V9
   ·have hc0:c2=0:=hok.2 rfl
    subst hc0
    have hm0:m.length=0:=by have:=hok.1;omega
    rw[hm0]
    have HM:Hid (m=[]):=List.eq_nil_of_length_eq_zero hm0
    clear hok hp2 hm0 hb2'
    go_wp2_with (at_builtin;refine wpList_append_own_none rfl _ _ 37 rfl w2.heap.size 110 i0 2 Tryz.underlying37 hi (.slice none 0 0) 0 [] rfl (World.ownsRow_nil _ _ _ _) rfl ?_)
    go_wp2
    refine bodyPost_ret (v:= .agg #[.int .i64 0,.slice none 0 0]) (by simp[results,Tryz.results81,go_sem, *]) rfl ⟨(hB2.setCell (by simp) _).setCell (by simp) _,_,rfl, ?_⟩
    rw[HM.out]
    exact World.ownsRow_nil _ _ _ _
   ·have hnw:=zU hp2
    go_wp2_with (at_builtin;refine wpList_append_own _ rfl _ _ 37 rfl w2.heap.size 110 i0 (.agg #[.int .i64 0,.int .i64 0]) 2 16 Tryz.underlying37 hi hz0 hz1 (by assumption) rfl (by decide) (.slice none 0 0) 0 [] rfl (World.ownsRow_nil _ _ _ _) V9 m.length c2 ((fl m).map (Value.int .i64)) rfl (by rw[List.length_map,kR]) hnw (ints_oneCell .i64 (fl m)) (by unfold maxLen;omega) (by omega) (Nat.le_refl _) ?_)
    intro v3 w3 hown hgrow _
    have hown:w3.ownsRow w2.heap.size 110 2 v3 m.length ((fl m).map (Value.int .i64)):=by simpa using hown
    obtain⟨a3,c3,rfl⟩:=gG hown
    have hb3:Below w2.heap.size w2 w3:=(Below.refl _ _).grown hgrow (Nat.le_refl _) (fun k hk=>by cases hk)
    have hB3:=ah hB2 hb3
    obtain⟨g0,g1,f0,f1⟩:=fG (((hb3.block w.heap.size (by omega)).trans (hb2'.block w.heap.size (by simp))).trans (heap_alloc_new w _))
    have HO:Hid (w3.ownsRow w2.heap.size 110 2 (.slice a3 m.length c3) m.length ((fl m).map (Value.int .i64))):=hown
    clear hgrow hown hb3 hb2' hp2 hnw hok
    go_wp2
    refine bodyPost_ret (v:= .agg #[.int .i64 0,.slice a3 m.length c3]) (by simp[results,Tryz.results81,go_sem, *]) rfl ⟨(hB3.setCell (by simp) _).setCell (by simp) _,_,rfl, ?_⟩
    exact aF (ownsRow_setCell_below (ownsRow_setCell_below HO.out (by simpa using hz2) _) (by simpa using hz2) _) (Nat.le_of_lt hz2)
  ·rw[if_neg hc,if_neg (fun h=>hc h.2)]
   obtain⟨ad,c,rfl⟩:=hv.shape
   have hcb:a<0∨256<a∨b<a∨256<b:=by
    have h1:sK a b=false:=by simpa using hc
    unfold sK at h1
    rw[Bool.and_eq_false_iff]at h1
    rcases h1 with h1 | h1
    ·rcases wK h1 with h | h
     ·exact Or.inl h
     ·exact Or.inr (Or.inl h)
    ·rcases wK h1 with h | h
     ·exact Or.inr (Or.inr (Or.inl h))
     ·exact Or.inr (Or.inr (Or.inr h))
   have hg:decide (a<0)=true∨decide (a<0)=false/\(decide (256<a)=true∨decide (256<a)=false/\(decide (b<a)=true∨decide (b<a)=false/\decide (256<b)=true)):=by
    simp only[decide_eq_true_eq,decide_eq_false_iff_not]
    omega
   generalize l.length=n at *
   clear hv h0 hs hc hcap hcb
   go_enter Tryz.func81,Tryz.ntmps81
   go_wp2_with fail
   refine(hF _ (aj _)).mono ?_
   rintro e w1 ⟨rfl,hb1⟩
   have hB1:=ak hb1
   obtain⟨g0,g1,f0,f1⟩:=fG ((hb1.block w.heap.size (by simp)).trans (heap_alloc_new w _))
   clear hF hb1
   rcases hg with hg |⟨hg,hg2 |⟨hg2,hg3 |⟨hg3,hg4⟩⟩⟩
   all_goals (
    try have i1:=of_decide_eq_true hg
    try have i1:=of_decide_eq_false hg
    try have i2:=of_decide_eq_true hg2
    try have i2:=of_decide_eq_false hg2
    try have i3:=of_decide_eq_true hg3
    try have i3:=of_decide_eq_false hg3
    try have i4:=of_decide_eq_true hg4
    go_wp2
    exact bodyPost_ret (v:= .agg #[.int .i64 3,.slice none 0 0]) (by simp[results,Tryz.results81,go_sem, *]) rfl ⟨(hB1.setCell (by simp) _).setCell (by simp) _,_,rfl,World.ownsRow_nil _ _ _ _⟩)
 ·rw[if_neg h0,if_neg (fun h=>h0 h.1)]
  obtain⟨ad,c,rfl⟩:=hv.shape
  generalize slF l=f at *
  generalize l.length=n at *
  have hfn:(f != 0)=true:=by simpa using h0
  clear hv h0 hcap
  go_enter Tryz.func81,Tryz.ntmps81
  go_wp2_with fail
  refine(hF _ (aj _)).mono ?_
  rintro e w1 ⟨rfl,hb1⟩
  obtain⟨g0,g1,f0,f1⟩:=fG ((hb1.block w.heap.size (by simp)).trans (heap_alloc_new w _))
  have hB1:=ak hb1
  clear hF hb1
  go_wp2
  exact bodyPost_ret (v:= .agg #[.int .i64 f,.slice none 0 0]) (by simp[results,Tryz.results81,go_sem, *]) rfl ⟨(hB1.setCell (by simp) _).setCell (by simp) _,_,rfl,World.ownsRow_nil _ _ _ _⟩
def Rc.s(r:Rc):Int:=bn (dI r.l r.v r.o r.p)
theorem Rc.sbd(r:Rc):0<=r.s/\r.s<=65520:=nR _
def iR(l:Rcl):Nat->Prl
 | 0=>[]
 | k+1=>iR l k++[((rAt l k).k,(rAt l k).s)]
theorem kG(l:Rcl):∀k,(iR l k).length=k
 | 0=>rfl
 | k+1=>by show(iR l k++_).length=_;rw[List.length_append,kG l k];rfl
def bU(l:Rcl):Prl:=iR l l.length
def sfL(l:Rcl):Prl:=if aB l=0 then bU l else []
theorem iM{P:Program}{w:World}{ops:Array Oper}{o:Oper}{a:Act}{K:Act->World->Prop}{Q:Exit->Act->World->Prop}{E:Prop}(hgd:o.guard=none)(s x:Operand)(t:TypeId)
  (ho:o.op = .call {callee:= .builtin .append,args:=#[s,x],argTypes:=#[t,t]})
  (base:Nat) (e:TypeId) (i:TypeInfo) (z:Value) (size bytes:Nat) (ht:P.underlying t=some (.slice e)) (hi:P.info? e=some i) (hz:i.zero=some z)
  (hsize:i.size=size) (hby:i.bytes=bytes) (hzs:z.cells.size=size) (hsz:0<size)
  (v:Value) (n:Nat) (xs:List Value) (hs:a.eval s=v) (hown:w.ownsRow base e size v n xs)
  (ad:Addr) (c:Nat) (news:List Value) (hx:a.eval x = .slice (some ad) 1 c) (hl:news.length=1*size) (hnews:∀j u,news[j]? = some u->w.cell? (ad.add j)=some u) (h1:∀u∈news,u.oneCell'=true)
  (h63:n+1<=maxLen) (hbytes:(n+1)*bytes<=140737488355328) (hbase:base<=w.heap.size)
  (h:∀g c' w',w'.ownsRow base e size (.slice (some ⟨g,0,none⟩) (n+1) c') (n+1) (xs++news)->w.grownBy w' v.ownBlock->K (a.put o.dst (.slice (some ⟨g,0,none⟩) (n+1) c')) w') :
  if Region.wanted o (yielded ops a.tmps)=true then Oper.wp P o a w K Q else E:=by
 have hw:Region.wanted o (yielded ops a.tmps)=true:=by simp[Region.wanted,hgd]
 rw[if_pos hw]
 refine wp_append_own w s x t ho base e i z size bytes ht hi hz hsize hby hzs hsz v n xs hs hown ad 1 c news hx hl hnews h1 h63 hbytes hbase fun v' w' h2 h3 _=> ?_
 rcases h2.2 with⟨rfl,hn⟩ |⟨g,cap,cur,rfl,_⟩
 ·omega
 ·exact h g cap w' h2 h3
theorem D8{w:World}{B:Nat}{v:Value}{m:Prl}{x y:Int}{n:Nat}(h:w.ownsRow B 110 2 v (n+1) ((fl m).map (Value.int .i64)++[.int .i64 x,.int .i64 y])):w.ownsRow B 110 2 v (n+1) ((fl (m++[(x,y)])).map (Value.int .i64)):=by
 rw[Pj,List.map_append]
 exact h
theorem Ph(x y:Int)(w:World):(Instr.field 122 (.agg #[.int .i64 x,.int .i64 y]) 1).run Tryz.prog w = .ok (.int .i64 y) w:=by kernel_rfl
theorem kS{w:World}{B e size n:Nat}{v:Value}{xs:List Value}(h:w.ownsRow B e size v n xs):∃a c,v = .slice a n c:=by
 rcases h.2 with⟨rfl,rfl⟩ |⟨g,cap,cur,rfl,_⟩
 ·exact⟨none,0,rfl⟩
 ·exact⟨_,_,rfl⟩
theorem zK(b off c n:Nat)(l:Rcl)(w:World)(hn:n<=12)(hb:b<w.heap.size)(hok:∀j,j<n->(rAt l j).c=0)(hc:∀j,j<n->dG w b (off+j*4) (rAt l j))
  (hF:∀w',Below w.heap.size w w'->Calls Tryz.prog 63 #[.agg #[.slice (some ⟨b,off,none⟩) n c]] w' fun e w''=>e = .returned (.int .i64 0)/\Below w'.heap.size w' w'') :
  Calls Tryz.prog 82 #[.agg #[.slice (some ⟨b,off,none⟩) n c]] w fun e w'=>∃u,e = .returned (.agg #[.int .i64 0,u])/\Below w.heap.size w w'/\w'.ownsRow w.heap.size 110 2 u n ((fl (iR l n)).map (Value.int .i64)):=by
 obtain⟨i0,hi,hz0,hz1,hz2⟩:=info_parts Tryz.mG
 obtain⟨W,hW⟩:∃W,W=(w.alloc (.cells #[.slice (some ⟨b,off,none⟩) n c] 36)).alloc (.cells #[.int .i64 0,.slice none 0 0] 138):=⟨_,rfl⟩
 have HW:Hid _:=hW.symm
 have hB:Below w.heap.size w W:=by rw[hW];exact aN _ _
 have h1:W.heap[w.heap.size+1]? = some (.cells #[.int .i64 0,.slice none 0 0] 138):=by rw[hW];exact bQ w _ _
 have h2:W.heap[w.heap.size]? = some (.cells #[.slice (some ⟨b,off,none⟩) n c] 36):=by rw[hW];exact heap_alloc_old' _ _ _ (heap_alloc_new w _)
 have hF:=hF W hB
 clear hW
 go_enter Tryz.func82,Tryz.ntmps82
 go_wp2_with fail
 rw[HW.out]
 refine hF.mono ?_
 rintro e w1 ⟨rfl,hb1⟩
 have hB1:=ah hB hb1
 have h1:=(hb1.block _ (Array.getElem?_eq_some_iff.1 h1).1).trans h1
 have h2:=(hb1.block _ (Array.getElem?_eq_some_iff.1 h2).1).trans h2
 have k2:w1.cell? ⟨w.heap.size,0,none⟩=some (.slice (some ⟨b,off,none⟩) n c):=by unfold World.cell?;rw[h2];rfl
 have hlt1:w.heap.size+1<w1.heap.size:=(Array.getElem?_eq_some_iff.1 h1).1
 have HH:Hid (w1.heap[w.heap.size+1]? = some (.cells #[.int .i64 0,.slice none 0 0] 138)):=h1
 have HC:Hid (∀j,j<n->dG w1 b (off+j*4) (rAt l j)):=fun j hj=>(hc j hj).below hB1 hb
 have hb1':b<w1.heap.size:=Nat.lt_of_lt_of_le hb hB1.size
 have HB1:Hid (Below w.heap.size w w1):=hB1
 clear hF hb1 hB h1 h2 hc hB1
 go_wp2
 go_loopw [4,16] (fun u i wr=>∃k:Nat,k<=n/\i = .int .i64 k/\Hid (Below w1.heap.size w1 wr)/\Hid (wr.ownsRow w1.heap.size 110 2 u k ((fl (iR l k)).map (Value.int .i64)))) (fun _ i _=>n - (intOf i).toNat)
 case atStart=>exact⟨0,Nat.zero_le _,rfl,Below.refl _ _,World.ownsRow_nil _ _ _ _⟩
 case round=>
  obtain⟨k,hk,rfl,hB,ho⟩:=hrel
  obtain⟨a',c',rfl⟩:=kS ho.out
  by_cases hkn:k<n
  ·have hki:(k:Int)<(n:Int):=by omega
   have hr:=(HC.out k hkn).below hB.out hb1'
   have hc0:=hok k hkn
   have eP:=fun w=>eX (rAt l k).l (rAt l k).v (rAt l k).o (rAt l k).p w (Rc.jm hc0)
   have hRs:=fun w=>yx (rAt l k).l (rAt l k).v (rAt l k).o (rAt l k).p w (by have:=Rc.jC hc0;omega)
   have e1:recC (rAt l k).l (rAt l k).v (rAt l k).o (rAt l k).p=0:=hc0
   rw[Uj e1,e1]at hRs
   have e2:aS (rAt l k).l=(rAt l k).k:=rfl
   have e3:bn (dI (rAt l k).l (rAt l k).v (rAt l k).o (rAt l k).p)=(rAt l k).s:=rfl
   rw[e2]at eP
   rw[e3]at hRs
   have HG:Hid (iR l (k+1)=iR l k++[((rAt l k).k,(rAt l k).s)]):=rfl
   obtain⟨d0,d1,d2,d3⟩:=hr
   unfold bP at eP hRs
   generalize (rAt l k).k=kz at *
   generalize (rAt l k).s=sz at *
   generalize (rAt l k).l=x0 at *
   generalize (rAt l k).v=x1 at *
   generalize (rAt l k).o=x2 at *
   generalize (rAt l k).p=x3 at *
   have hfx:=Ph
   have WC:b<wr.heap.size:=Nat.lt_of_lt_of_le hb1' hB.out.size
   obtain⟨V,hV⟩:∃V,V=wr.alloc (.cells #[.string x0,.int .i64 x1,.int .i64 x2,.int .i64 x3] 46):=⟨_,rfl⟩
   have HV:Hid _:=hV.symm
   have Uc:Below wr.heap.size wr V:=by rw[hV];exact aj _
   have qR:V.heap[wr.heap.size]? = some (.cells #[.string x0,.int .i64 x1,.int .i64 x2,.int .i64 x3] 46):=by rw[hV];exact heap_alloc_new wr _
   have hlt:=(Array.getElem?_eq_some_iff.1 qR).1
   have uz:Hid (∀w',Below V.heap.size V w'->w'.cell? ⟨wr.heap.size,0,none⟩=some (.string x0)/\w'.cell? ⟨wr.heap.size,1,none⟩=some (.int .i64 x1)/\w'.cell? ⟨wr.heap.size,2,none⟩=some (.int .i64 x2)/\w'.cell? ⟨wr.heap.size,3,none⟩=some (.int .i64 x3)):=fun w' h=>bI ((h.block wr.heap.size hlt).trans qR)
   have HOW:Hid (∀w',Below V.heap.size V w'->w'.ownsRow w1.heap.size 110 2 (.slice a' k c') k ((fl (iR l k)).map (Value.int .i64))):=fun w' h=>own_below (own_below ho.out Uc) h
   have KO:∀j,(Value.slice a' k c').ownBlock=some j->w1.heap.size<=j/\j<wr.heap.size:=fun j hj=>ho.out.lt j hj
   obtain⟨g0,g1,g2,g3⟩:=bI qR
   have hbr:=Below.refl V.heap.size V
   have VZ:Hid (w1.heap.size<=wr.heap.size):=hB.out.size
   have ZM:Hid (wr.heap.size<=V.heap.size):=Uc.size
   have ZL:Hid (Below wr.heap.size wr V):=Uc
   clear hc0 e1 e2 e3 hV qR Uc
   go_wp2_with fail
   rw[HV.out]
   go_region_held3 (fun w'=>w'.cell? ⟨wr.heap.size,0,none⟩=some (.string x0)/\w'.cell? ⟨wr.heap.size,1,none⟩=some (.int .i64 x1)/\w'.cell? ⟨wr.heap.size,2,none⟩=some (.int .i64 x2)/\w'.cell? ⟨wr.heap.size,3,none⟩=some (.int .i64 x3))
    (first | with_reducible exact⟨g0,g1,g2,g3⟩|with_reducible exact uz.out _ hbr | with_reducible exact uz.out _ hbr.drew | with_reducible exact uz.out _ (hbr.alloc hbr.size _)|with_reducible exact hlast)
    (first
     |(go_at_call 72;refine(eP _).mono ?_;rintro e w5 ⟨rfl,hb5⟩;have hbr:Below V.heap.size V w5:=(by first | exact ah hbr hb5 | exact ah hbr.drew hb5))
     |(go_at_call 128;refine(hRs _).mono ?_;rintro e w6 ⟨rfl,hb6⟩;have hbr:Below V.heap.size V w6:=(by first | exact ah hbr hb6 | exact ah hbr.drew hb6))
     |(refine iM (by rfl) _ _ _ (by rfl) w1.heap.size 110 i0 (.agg #[.int .i64 0,.int .i64 0]) 2 16 Tryz.underlying37 hi hz0 hz1 hz2 rfl (by decide) (.slice a' k c') k _ (by rfl) (HOW.out _ (hbr.alloc hbr.size _)) ⟨w6.heap.size,0,none⟩ 1 [.int .i64 kz,.int .i64 sz] (by rfl) (by rfl) (World.news_of_block (heap_alloc_new _ _)) (ints_oneCell .i64 [kz,sz]) (by unfold maxLen;omega) (by omega) (by have:=VZ.out;have:=ZM.out;have:=hbr.size;simp;omega) ?_;intro g7 c7 w7 PE mZ;have hlast:w7.cell? ⟨wr.heap.size,0,none⟩=some (.string x0)/\w7.cell? ⟨wr.heap.size,1,none⟩=some (.int .i64 x1)/\w7.cell? ⟨wr.heap.size,2,none⟩=some (.int .i64 x2)/\w7.cell? ⟨wr.heap.size,3,none⟩=some (.int .i64 x3):=(by
       have hne:some wr.heap.size≠(Value.slice a' k c').ownBlock:=(fun e=>by have:=KO _ e.symm;omega)
       have q:=uz.out _ (hbr.alloc hbr.size (.cells #[.int .i64 kz,.int .i64 sz] 110))
       exact⟨mZ.cell q.1 hne,mZ.cell q.2.1 hne,mZ.cell q.2.2.1 hne,mZ.cell q.2.2.2 hne⟩)))
   have Ae:Hid (w7.ownsRow w1.heap.size 110 2 (.slice (some ⟨g7,0,none⟩) (k+1) c7) (k+1) ((fl (iR l (k+1))).map (Value.int .i64))):=(by rw[HG.out];exact D8 PE:w7.ownsRow w1.heap.size 110 2 (.slice (some ⟨g7,0,none⟩) (k+1) c7) (k+1) ((fl (iR l (k+1))).map (Value.int .i64)))
   have Gg:Below w1.heap.size w1 (w6.alloc (.cells #[.int .i64 kz,.int .i64 sz] 110)):=ah hB.out (ah ZL.out (hbr.alloc hbr.size _))
   have uS:Hid (Below w1.heap.size w1 w7):=Gg.grown mZ Gg.size (fun j hj=>(KO j hj).1)
   clear Gg mZ PE hlast HOW uz
   go_wp2
   go_roundw
   case rel=>exact⟨k+1,by omega,by go_num,uS,Ae⟩
   case measure=>simp[intOf];omega
  ·have hkn:k=n:=by omega
   subst hkn
   have hh:=(hB.out.block _ hlt1).trans HH.out
   obtain⟨c0,c1,f0,f1⟩:=aG hh
   have gJ:Hid (Below w.heap.size w wr):=ah HB1.out hB.out
   have TP:Hid (w.heap.size<=w1.heap.size):=HB1.out.size
   clear hh HC
   go_wp2
   refine bodyPost_ret (v:= .agg #[.int .i64 0,.slice a' k c']) (by simp[results,Tryz.results82,go_sem,c0,c1]) rfl ⟨.slice a' k c',rfl,(gJ.out.setCell (Nat.le_succ _) _).setCell (Nat.le_succ _) _, ?_⟩
   exact aF (ownsRow_setCell_below (ownsRow_setCell_below ho.out (by show w.heap.size+1<w1.heap.size;exact hlt1) _) (by show w.heap.size+1<w1.heap.size;exact hlt1) _) TP.out
theorem qY(v:Value)(l:Rcl)(w:World)(hv:Rcs w v l)(hl:Lbs l)(hx:l.length<=1048576):
  Calls Tryz.prog 82 #[.agg #[v]] w fun e w'=>sG w (aB l) (sfL l) e w':=by
 have hF:=fun w' hb=>aJ v l w' (hv.below (w':=w') hb) hl (by omega)
 obtain⟨a,c,rfl⟩:=hv.shape
 by_cases h0:aB l=0
 ·have hok:=dR h0
  have e1:sfL l=iR l l.length:=by unfold sfL;rw[if_pos h0];rfl
  rw[h0]at hF ⊢
  rw[e1]
  by_cases hl0:0<l.length
  ·obtain⟨_,b,off,rfl,hb,hc⟩:=hv.at hl0
   refine(zK b off c l.length l w hok.len hb hok.ok hc hF).mono ?_
   rintro e w' ⟨u,rfl,hB,ho⟩
   exact⟨hB,u,rfl,by rw[kG];exact ho⟩
  ·have e2:l=[]:=List.eq_nil_of_length_eq_zero (by omega)
   subst e2
   simp only[List.length_nil]at *
   have hF:=fun o o'=>hF ((w.alloc o).alloc o') (aN _ _)
   clear hv hl0 hok e1 h0 hl
   go_enter Tryz.func82,Tryz.ntmps82
   go_wp2_with fail
   refine(hF _ _).mono ?_
   rintro e w1 ⟨rfl,hb1⟩
   obtain⟨c0,c1,f0,f1⟩:=aG ((hb1.block (w.heap.size+1) (by simp)).trans (bQ w _ _))
   have k2:w1.cell? ⟨w.heap.size,0,none⟩=some (.slice a 0 c):=by unfold World.cell?;rw[(hb1.block w.heap.size (by simp;omega)).trans (heap_alloc_old' _ _ _ (heap_alloc_new w _))];rfl
   have hB1:Below w.heap.size w w1:=ak (ak hb1)
   clear hF hb1
   go_wp2
   refine wp_loop_rounds 1 ?_;rw[rounds_succ]
   go_wp2
   exact bodyPost_ret (v:= .agg #[.int .i64 0,.slice none 0 0]) (by simp[results,Tryz.results82,go_sem,c0,c1]) rfl ⟨(hB1.setCell (Nat.le_succ _) _).setCell (Nat.le_succ _) _,_,rfl,World.ownsRow_nil _ _ _ _⟩
 ·have e1:sfL l=[]:=by unfold sfL;rw[if_neg h0]
  have PG:(aB l != 0)=true:=by simpa using h0
  rw[e1]
  have hF:=fun o o'=>hF ((w.alloc o).alloc o') (aN _ _)
  generalize aB l=q at *
  generalize l.length=n at *
  clear hv e1 h0
  go_enter Tryz.func82,Tryz.ntmps82
  go_wp2_with fail
  refine(hF _ _).mono ?_
  rintro e w1 ⟨rfl,hb1⟩
  obtain⟨c0,c1,f0,f1⟩:=aG ((hb1.block (w.heap.size+1) (by simp)).trans (bQ w _ _))
  have hB1:Below w.heap.size w w1:=ak (ak hb1)
  clear hF hb1
  go_wp2
  exact bodyPost_ret (v:= .agg #[.int .i64 q,.slice none 0 0]) (by simp[results,Tryz.results82,go_sem,c0,c1]) rfl ⟨(hB1.setCell (Nat.le_succ _) _).setCell (Nat.le_succ _) _,_,rfl,World.ownsRow_nil _ _ _ _⟩
theorem Ls(l:Rcl):∀k j,j<k->pAt (iR l k) j=((rAt l j).k,(rAt l j).s)
 | 0,j,h=>absurd h (by omega)
 | k+1,j,h=>by
  show pAt (iR l k++[((rAt l k).k,(rAt l k).s)]) j=_
  by_cases hj:j<k
  ·rw[←Ls l k j hj]
   unfold pAt
   rw[List.getD_eq_getElem?_getD,List.getD_eq_getElem?_getD,List.getElem?_append_left (by rw[kG];exact hj)]
  ·have:j=k:=by omega
   subst this
   unfold pAt
   rw[List.getD_eq_getElem?_getD,List.getElem?_append_right (by rw[kG];omega),kG]
   simp
theorem zx{l:Rcl}(h:bM l):slF (bU l)=0:=by
 have hlen:(bU l).length=l.length:=kG l _
 have:=h.len
 unfold slF
 rw[if_neg (by omega),hlen]
 apply Tj
 intro j _ hj
 have hj:j<l.length:=by omega
 have e:∀i,i<l.length->pAt (bU l) i=((rAt l i).k,(rAt l i).s):=fun i hi=>Ls l _ i hi
 rw[e j hj]
 refine⟨?_,fun h0=> ?_⟩
 ·unfold fine
  have k1:=(rAt l j).kbd
  have k2:=(rAt l j).sbd
  rw[iJ k1.1 (by show(rAt l j).k<=255;omega),(bC _).2 k2]
  rfl
 ·rw[e (j - 1) (by omega)]
  have:=h.up j hj
  rcases j with _ | m
  ·omega
  ·exact this
theorem vJ(l:Rcl):(bU l).length=l.length:=kG l _
theorem Hw(g og b off c n:Nat)(l:Rcl)(w:World)(hn:n<=12)(hg:g<w.heap.size)(hb:b<w.heap.size)(hok:∀j,j<n->(rAt l j).c=0)(hD:w.cell? ⟨g,og,none⟩=some (.slice (some ⟨b,off,none⟩) n c))(hc:∀j,j<n->dG w b (off+j*4) (rAt l j)):
  Calls Tryz.prog 142 #[.pointer (some ⟨g,og,none⟩)] w fun e w'=>∃u,e = .returned u/\Below w.heap.size w w'/\w'.ownsRow w.heap.size 110 2 u n ((fl (iR l n)).map (Value.int .i64)):=by
 obtain⟨i0,hi,hz0,hz1,hz2⟩:=info_parts Tryz.mG
 have HD:Hid (∀w',Below w.heap.size w w'->w'.cell? ⟨g,og,none⟩=some (.slice (some ⟨b,off,none⟩) n c)):=fun w' h=>(h.cell (p:=⟨g,og,none⟩) hg).trans hD
 go_enter Tryz.func142,Tryz.ntmps142
 go_wp2
 go_loopw [3,4] (fun u i wr=>∃k:Nat,k<=n/\i = .int .i64 k/\Hid (Below w.heap.size w wr)/\Hid (wr.ownsRow w.heap.size 110 2 u k ((fl (iR l k)).map (Value.int .i64)))) (fun _ i _=>n - (intOf i).toNat)
 case atStart=>exact⟨0,Nat.zero_le _,rfl,aj _,qB w 110 w.heap.size (Nat.le_refl _)⟩
 case round=>
  obtain⟨k,hk,rfl,hB,ho⟩:=hrel
  obtain⟨a',c',rfl⟩:=kS ho.out
  have Ap:=HD.out _ hB.out
  by_cases hkn:k<n
  ·have hki:(k:Int)<(n:Int):=by omega
   have hc0:=hok k hkn
   have eP:=fun w=>ku (rAt l k).l w (Rc.jC hc0)
   have VU:Hid (∀w',Below w.heap.size w w'->pW w' b (off+k*4) (rAt l k).l (rAt l k).v (rAt l k).o (rAt l k).p):=fun w' h=>((hc k hkn).below h hb).t
   have hRs:=fun w' (h:Below w.heap.size w w')=>RX b (off+k*4) (rAt l k).l (rAt l k).v (rAt l k).o (rAt l k).p w' (VU.out w' h) (nZ hc0) (Nat.lt_of_lt_of_le hb h.size)
   have e2:aS (rAt l k).l=(rAt l k).k:=rfl
   have e3:bn (dI (rAt l k).l (rAt l k).v (rAt l k).o (rAt l k).p)=(rAt l k).s:=rfl
   rw[e2]at eP
   rw[e3]at hRs
   have HG:Hid (iR l (k+1)=iR l k++[((rAt l k).k,(rAt l k).s)]):=rfl
   generalize (rAt l k).k=kz at *
   generalize (rAt l k).s=sz at *
   generalize (rAt l k).l=x0 at *
   generalize (rAt l k).v=x1 at *
   generalize (rAt l k).o=x2 at *
   generalize (rAt l k).p=x3 at *
   have uz:Hid (∀w',Below wr.heap.size wr w'->w'.cell? ⟨g,og,none⟩=some (.slice (some ⟨b,off,none⟩) n c)/\w'.cell? ⟨b,off+k*4,none⟩=some (.string x0)):=fun w' h=>⟨HD.out _ (ah hB.out h),(VU.out _ (ah hB.out h)).c0⟩
   have ZG:Hid (∀w',Below wr.heap.size wr w'->Calls Tryz.prog 170 #[.pointer (some ⟨b,off+k*4,none⟩)] w' fun e w''=>e = .returned (.int .i64 sz)/\Below w'.heap.size w' w''):=fun w' h=>hRs w' (ah hB.out h)
   have HOW:Hid (∀w',Below wr.heap.size wr w'->w'.ownsRow w.heap.size 110 2 (.slice a' k c') k ((fl (iR l k)).map (Value.int .i64))):=fun w' h=>own_below ho.out h
   have KO:∀j,(Value.slice a' k c').ownBlock=some j->w.heap.size<=j/\j<wr.heap.size:=fun j hj=>ho.out.lt j hj
   obtain⟨g0,g1⟩:=uz.out wr (Below.refl _ _)
   have hbr:=Below.refl wr.heap.size wr
   have hgb:some g≠(Value.slice a' k c').ownBlock:=fun e=>by have:=KO _ e.symm;omega
   have hbb:some b≠(Value.slice a' k c').ownBlock:=fun e=>by have:=KO _ e.symm;omega
   have VZ:Hid (w.heap.size<=wr.heap.size):=hB.out.size
   clear hc0 e2 e3 hc hRs hok VU
   go_wp2_with fail
   go_region_held3 (fun w'=>w'.cell? ⟨g,og,none⟩=some (.slice (some ⟨b,off,none⟩) n c)/\w'.cell? ⟨b,off+k*4,none⟩=some (.string x0))
    (first | with_reducible exact⟨g0,g1⟩|with_reducible exact uz.out _ hbr | with_reducible exact uz.out _ hbr.drew | with_reducible exact uz.out _ (hbr.alloc hbr.size _)|with_reducible exact hlast)
    (first
     |(go_at_call 104;refine(eP _).mono ?_;rintro e w5 ⟨rfl,hb5⟩;have hbr:Below wr.heap.size wr w5:=(by first | exact ah hbr hb5 | exact ah hbr.drew hb5))
     |(go_at_call 170;refine(ZG.out _ (by first | exact hbr | exact hbr.drew)).mono ?_;rintro e w6 ⟨rfl,hb6⟩;have hbr:Below wr.heap.size wr w6:=(by first | exact ah hbr hb6 | exact ah hbr.drew hb6))
     |(refine iM (by rfl) _ _ _ (by rfl) w.heap.size 110 i0 (.agg #[.int .i64 0,.int .i64 0]) 2 16 Tryz.underlying37 hi hz0 hz1 hz2 rfl (by decide) (.slice a' k c') k _ (by rfl) (HOW.out _ (hbr.alloc hbr.size _)) ⟨w6.heap.size,0,none⟩ 1 [.int .i64 kz,.int .i64 sz] (by rfl) (by rfl) (World.news_of_block (heap_alloc_new _ _)) (ints_oneCell .i64 [kz,sz]) (by unfold maxLen;omega) (by omega) (by have:=VZ.out;have:=hbr.size;simp;omega) ?_;intro g7 c7 w7 PE mZ;have hlast:w7.cell? ⟨g,og,none⟩=some (.slice (some ⟨b,off,none⟩) n c)/\w7.cell? ⟨b,off+k*4,none⟩=some (.string x0):=(by
       have q:=uz.out _ (hbr.alloc hbr.size (.cells #[.int .i64 kz,.int .i64 sz] 110))
       exact⟨mZ.cell q.1 hgb,mZ.cell q.2 hbb⟩)))
   have Ae:Hid (w7.ownsRow w.heap.size 110 2 (.slice (some ⟨g7,0,none⟩) (k+1) c7) (k+1) ((fl (iR l (k+1))).map (Value.int .i64))):=(by rw[HG.out];exact D8 PE:w7.ownsRow w.heap.size 110 2 (.slice (some ⟨g7,0,none⟩) (k+1) c7) (k+1) ((fl (iR l (k+1))).map (Value.int .i64)))
   have Gg:Below w.heap.size w (w6.alloc (.cells #[.int .i64 kz,.int .i64 sz] 110)):=ah hB.out (hbr.alloc hbr.size _)
   have uS:Hid (Below w.heap.size w w7):=Gg.grown mZ Gg.size (fun j hj=>(KO j hj).1)
   clear Gg mZ PE hlast HOW uz
   go_wp2
   go_roundw
   case rel=>exact⟨k+1,by omega,by go_num,uS,Ae⟩
   case measure=>simp[intOf];omega
  ·have hkn:k=n:=by omega
   subst hkn
   clear hc hok
   go_wp2
   go_ret
   exact⟨_,rfl,hB.out,ho.out⟩
theorem yS(g og:Nat)(v:Value)(l:Rcl)(w:World)(hg:g<w.heap.size)(hD:w.cell? ⟨g,og,none⟩=some v)(hv:Rcs w v l)(hok:bM l):
  Calls Tryz.prog 142 #[.pointer (some ⟨g,og,none⟩)] w fun e w'=>∃u,e = .returned u/\Below w.heap.size w w'/\w'.ownsRow w.heap.size 110 2 u (bU l).length ((fl (bU l)).map (Value.int .i64)):=by
 obtain⟨a,c,rfl⟩:=hv.shape
 have e1:(bU l).length=l.length:=kG l _
 rw[e1]
 by_cases h0:0<l.length
 ·obtain⟨_,b,off,rfl,hb,hc⟩:=hv.at h0
  exact Hw g og b off c l.length l w hok.len hg hb hok.ok hD hc
 ·have e2:l=[]:=List.eq_nil_of_length_eq_zero (by omega)
  subst e2
  have e3:fl (bU [])=[]:=rfl
  rw[e3]
  simp only[List.length_nil]at *
  clear hv h0 hok e1 e3
  have HN:Hid ((w.alloc (.cells #[] 110)).ownsRow w.heap.size 110 2 (.slice (some ⟨w.heap.size,0,none⟩) 0 0) 0 []):=qB w 110 w.heap.size (Nat.le_refl _)
  have abh:g≠w.heap.size:=by omega
  go_enter Tryz.func142,Tryz.ntmps142
  go_wp2
  refine wp_loop_rounds 1 ?_;rw[rounds_succ]
  go_wp2
  go_ret
  exact⟨_,rfl,aj _,HN.out⟩
theorem dX{l:Prl}{n:Nat}{q:Int}:cut l (q*(2^n:Nat)) (q*(2^n:Nat)+(2^n:Nat))=[]↔¬has l n q:=by
 rw[zu,List.filter_eq_nil_iff]
 unfold has
 constructor
 ·rintro h ⟨p,hp,e⟩
  exact h p hp (decide_eq_true e)
 ·intro h p hp e
  exact h ⟨p,hp,of_decide_eq_true e⟩
theorem U5{l:Prl}{q:Int}{p:Int × Int}{t:Prl}(h:cut l (q*(2^0:Nat)) (q*(2^0:Nat)+(2^0:Nat))=p::t):nd l 0 q=l3 p:=by
 rw[zu]at h
 unfold nd
 have:l.find? (fun p=>p.1==q)=some p:=by
  have e:l.find? (fun p=>p.1==q)=(l.filter fun p=>decide (p.1/(2^0:Nat)=q)).head?:=by
   rw[List.head?_filter]
   congr 1
   funext p
   rw[Nat.pow_zero,Int.natCast_one,Int.ediv_one]
   rfl
  rw[e,h]
  rfl
 rw[this]
theorem KW{l:Prl}{n:Nat}{q x:Int}(hx:x/2=q):nd (cut l (q*(2^(n+1):Nat)) (q*(2^(n+1):Nat)+(2^(n+1):Nat))) n x=nd l n x:=by
 rw[zu]
 apply SB
 rw[List.filter_filter]
 congr 1
 funext p
 rw[ig]
 generalize p.1/(2^n:Nat)=y
 by_cases h1:y=x
 ·subst h1;simp[hx]
 ·simp[h1]
theorem oJ{l:Prl}{n:Nat}{q:Int}(h:has l (n+1) q):nd l (n+1) q=t2 (nd (cut l (q*(2^(n+1):Nat)) (q*(2^(n+1):Nat)+(2^(n+1):Nat))) n (2*q)) (nd (cut l (q*(2^(n+1):Nat)) (q*(2^(n+1):Nat)+(2^(n+1):Nat))) n (2*q+1)):=by
 rw[xX,if_pos h,KW (by omega),KW (by omega)]
theorem jv{l:Prl}{a b:Int}(h:∀p∈l,fine p=true):∀p∈cut l a b,fine p=true:=fun p hp=>h p (UE.1 hp).1
theorem Jz(v:Value)(l:Prl)(q:Int)(w:World)(hv:Prs w v l)(hl:l.length<=1048576)(hf:∀p∈l,fine p=true)(hq:0<=q/\q+1<=1024):
  Calls Tryz.prog 172 #[v,.int .i64 q,.int .i64 0] w fun e w'=>e = .returned (.int .i64 (nd l 0 q))/\Below w.heap.size w w':=by
 have hC:=fun w h=>gK v l q (q+1) w h hl
 have HV:Hid (Prs w v l):=hv
 obtain⟨ad,c,rfl⟩:=hv.shape
 have HF:=jv (a:=q) (b:=q+1) hf
 have hE:=fun w=>fF 0 w (by omega)
 have hN:cut l q (q+1)=[]->nd l 0 q=emp 0:=fun h=>iG (dX.1 (by simpa using h))
 have hP:∀p t,cut l q (q+1)=p::t->nd l 0 q=l3 p:=fun p t h=>U5 (by simpa using h)
 generalize nd l 0 q=r at *
 generalize cut l q (q+1)=m at *
 generalize l.length=n at *
 clear hv hf
 rcases m with _ |⟨⟨x,y⟩,t⟩
 ·have e0:=hN rfl
  subst e0
  simp only[List.length_nil]at hC
  generalize emp 0=z at *
  clear hN hP HF
  go_enter Tryz.func172,Tryz.ntmps172
  go_wp2_with fail
  refine(hC _ HV.out).mono ?_
  rintro e w1 ⟨a1,c1,rfl,-,hb1⟩
  clear hC
  go_wp2_with fail
  refine(hE _).mono ?_
  rintro e w2 ⟨rfl,hb2⟩
  clear hE
  go_wp2
  go_ret
  exact⟨rfl,ah hb1 hb2⟩
 ·have e0:=hP _ _ rfl
  subst e0
  have hfx:=kK (HF (x,y) (by simp))
  dsimp only at hfx
  have hT:=fun w u hu=>fE 3 x y u w (by omega) hu (by omega) hfx.2
  have e1:bn (aZ 3 [x,y])=l3 (x,y):=rfl
  rw[e1]at hT
  generalize l3 (x,y)=z at *
  clear hN hP HF e1 hE
  go_enter Tryz.func172,Tryz.ntmps172
  go_wp2_with fail
  refine(hC _ HV.out).mono ?_
  rintro e w1 ⟨a1,c1,rfl,ho,hb1⟩
  obtain⟨-,b,off,rfl,hb,hc⟩:=(bK ho).at (by simp)
  obtain⟨g0,g1⟩:=hc 0 (by simp)
  simp only[pAt,List.getD_cons_zero,Nat.zero_mul,Nat.add_zero]at g0 g1
  simp only[List.length_cons]at *
  have HB1:Hid (Below w.heap.size w w1):=hb1
  clear hC ho hc hb1
  have hlen:¬((t.length+1:Nat):Int)=0:=by omega
  generalize t.length+1=k at *
  have hk0:(0:Int)<(k:Int):=by omega
  have hk1:0<k:=by omega
  go_wp2
  go_region_held3 (fun w'=>w'.cell? ⟨b,off,none⟩=some (.int .i64 x)/\w'.cell? ⟨b,off+1,none⟩=some (.int .i64 y)) (first | go_keep | exact⟨(hbr.cell (p:=⟨b,off,none⟩) hb).trans g0,(hbr.cell (p:=⟨b,off+1,none⟩) hb).trans g1⟩)
   (first |(go_at_call 175;refine(hT _ _ ((fC _ _ _ _).below ((Below.refl _ _).drew))).mono ?_;rintro e wq ⟨rfl,hbq⟩;have hbr:Below w1.heap.size w1 wq:=ah ((aj _).drew) hbq;clear hbq))
  have HB2:=ah HB1.out hbr
  go_wp2
  go_ret
  exact⟨rfl,HB2⟩
theorem G5(v:Value)(l:Prl)(f q:Int)(w:World)(hv:Prs w v l)(hl:l.length<=1048576)(hf:∀p∈l,fine p=true)(HF:Hid (f=q*1))(hq:0<=f/\f+1<=1024):
  Calls Tryz.prog 172 #[v,.int .i64 f,.int .i64 0] w fun e w'=>e = .returned (.int .i64 (nd l 0 q))/\Below w.heap.size w w':=by
 have e:=HF.out
 rw[Int.mul_one]at e
 subst e
 exact Jz v l f w hv hl hf hq
theorem G7(v:Value)(l:Prl)(f q:Int)(w:World)(hv:Prs w v l)(hl:l.length<=1048576)(hf:∀p∈l,fine p=true)(HF:Hid (f=q*2))(hq:0<=f/\f+2<=1024):
  Calls Tryz.prog 172 #[v,.int .i64 f,.int .i64 1] w fun e w'=>e = .returned (.int .i64 (nd l 1 q))/\Below w.heap.size w w':=by
 have hC:=fun w h=>gK v l f (f+2) w h hl
 have HV:Hid (Prs w v l):=hv
 obtain⟨ad,c,rfl⟩:=hv.shape
 have gW:=jv (a:=f) (b:=f+2) hf
 have hE:=fun w=>fF 1 w (by omega)
 have eS:((2^(0+1):Nat):Int)=2:=rfl
 have hN:cut l f (f+2)=[]->nd l 1 q=emp 1:=fun h=>iG (n:=0+1) (dX.1 (by rw[eS,←HF.out];exact h))
 have hP:cut l f (f+2)≠[]->nd l 1 q=t2 (nd (cut l f (f+2)) 0 (2*q)) (nd (cut l f (f+2)) 0 (2*q+1)):=fun h=>by
  have h2:=oJ (l:=l) (n:=0) (q:=q) (Classical.byContradiction fun hn=>h (by have:=dX.2 hn;rw[eS,←HF.out]at this;exact this))
  rw[eS,←HF.out]at h2
  exact h2
 have hlm:=jc l f (f+2)
 generalize nd l 1 q=r at *
 generalize cut l f (f+2)=m at *
 have hR1:=fun u w hu=>G5 u m f (2*q) w hu (by omega) gW (by show _=_;have:=HF.out;omega) (by omega)
 have hR2:=fun u w hu=>G5 u m (f+1) (2*q+1) w hu (by omega) gW (by show _=_;have:=HF.out;omega)
 have hd1:=iD m 0 (2*q)
 have hd2:=iD m 0 (2*q+1)
 generalize nd m 0 (2*q)=x at *
 generalize nd m 0 (2*q+1)=y at *
 generalize l.length=n at *
 clear hv hf gW eS
 by_cases hm:m=[]
 ·have e0:=hN hm
  subst hm e0
  simp only[List.length_nil]at hC
  generalize emp 1=z at *
  clear hN hP hR1 hR2
  go_enter Tryz.func172,Tryz.ntmps172
  go_wp2_with fail
  refine(hC _ HV.out).mono ?_
  rintro e w1 ⟨a1,c1,rfl,-,hb1⟩
  clear hC
  go_wp2_with fail
  refine(hE _).mono ?_
  rintro e w2 ⟨rfl,hb2⟩
  clear hE
  go_wp2
  go_ret
  exact⟨rfl,ah hb1 hb2⟩
 ·have e0:=hP hm
  subst e0
  have hT:=fun w u hu=>fE 2 x y u w (by omega) hu hd1 hd2
  have e1:bn (aZ 2 [x,y])=t2 x y:=rfl
  rw[e1]at hT
  generalize t2 x y=z at *
  have hml:¬(m.length:Int)=0:=fun h=>hm (List.eq_nil_of_length_eq_zero (by omega))
  clear hN hP e1 hE hm
  go_enter Tryz.func172,Tryz.ntmps172
  go_wp2_with fail
  refine(hC _ HV.out).mono ?_
  rintro e w1 ⟨a1,c1,rfl,ho,hb1⟩
  have hP1:=bK ho
  have HP:Hid (∀w',Below w1.heap.size w1 w'->Prs w' (.slice a1 m.length c1) m):=fun w' h=>hP1.below h
  have HB1:Hid (Below w.heap.size w w1):=hb1
  clear hC ho hb1 hP1
  generalize m.length=k at *
  go_wp2_with fail
  refine(hR1 _ _ (HP.out _ (Below.refl _ _))).mono ?_
  rintro e w2 ⟨rfl,hb2⟩
  clear hR1
  go_wp2_with fail
  refine(hR2 _ _ (HP.out _ hb2) (by omega)).mono ?_
  rintro e w3 ⟨rfl,hb3⟩
  have hb4:=ah hb2 hb3
  clear hR2 hb2 hb3
  go_wp2_with fail
  refine(hT _ _ (fC _ _ _ _)).mono ?_
  rintro e w4 ⟨rfl,hb5⟩
  have hb6:=ah HB1.out (ah hb4 (ak hb5))
  clear hT hb5
  go_wp2
  go_ret
  exact⟨rfl,hb6⟩
theorem G8(v:Value)(l:Prl)(f q:Int)(w:World)(hv:Prs w v l)(hl:l.length<=1048576)(hf:∀p∈l,fine p=true)(HF:Hid (f=q*4))(hq:0<=f/\f+4<=1024):
  Calls Tryz.prog 172 #[v,.int .i64 f,.int .i64 2] w fun e w'=>e = .returned (.int .i64 (nd l 2 q))/\Below w.heap.size w w':=by
 have hC:=fun w h=>gK v l f (f+4) w h hl
 have HV:Hid (Prs w v l):=hv
 obtain⟨ad,c,rfl⟩:=hv.shape
 have gW:=jv (a:=f) (b:=f+4) hf
 have hE:=fun w=>fF 2 w (by omega)
 have eS:((2^(1+1):Nat):Int)=4:=rfl
 have hN:cut l f (f+4)=[]->nd l 2 q=emp 2:=fun h=>iG (n:=1+1) (dX.1 (by rw[eS,←HF.out];exact h))
 have hP:cut l f (f+4)≠[]->nd l 2 q=t2 (nd (cut l f (f+4)) 1 (2*q)) (nd (cut l f (f+4)) 1 (2*q+1)):=fun h=>by
  have h2:=oJ (l:=l) (n:=1) (q:=q) (Classical.byContradiction fun hn=>h (by have:=dX.2 hn;rw[eS,←HF.out]at this;exact this))
  rw[eS,←HF.out]at h2
  exact h2
 have hlm:=jc l f (f+4)
 generalize nd l 2 q=r at *
 generalize cut l f (f+4)=m at *
 have hR1:=fun u w hu=>G7 u m f (2*q) w hu (by omega) gW (by show _=_;have:=HF.out;omega) (by omega)
 have hR2:=fun u w hu=>G7 u m (f+2) (2*q+1) w hu (by omega) gW (by show _=_;have:=HF.out;omega)
 have hd1:=iD m 1 (2*q)
 have hd2:=iD m 1 (2*q+1)
 generalize nd m 1 (2*q)=x at *
 generalize nd m 1 (2*q+1)=y at *
 generalize l.length=n at *
 clear hv hf gW eS
 by_cases hm:m=[]
 ·have e0:=hN hm
  subst hm e0
  simp only[List.length_nil]at hC
  generalize emp 2=z at *
  clear hN hP hR1 hR2
  go_enter Tryz.func172,Tryz.ntmps172
  go_wp2_with fail
  refine(hC _ HV.out).mono ?_
  rintro e w1 ⟨a1,c1,rfl,-,hb1⟩
  clear hC
  go_wp2_with fail
  refine(hE _).mono ?_
  rintro e w2 ⟨rfl,hb2⟩
  clear hE
  go_wp2
  go_ret
  exact⟨rfl,ah hb1 hb2⟩
 ·have e0:=hP hm
  subst e0
  have hT:=fun w u hu=>fE 2 x y u w (by omega) hu hd1 hd2
  have e1:bn (aZ 2 [x,y])=t2 x y:=rfl
  rw[e1]at hT
  generalize t2 x y=z at *
  have hml:¬(m.length:Int)=0:=fun h=>hm (List.eq_nil_of_length_eq_zero (by omega))
  clear hN hP e1 hE hm
  go_enter Tryz.func172,Tryz.ntmps172
  go_wp2_with fail
  refine(hC _ HV.out).mono ?_
  rintro e w1 ⟨a1,c1,rfl,ho,hb1⟩
  have hP1:=bK ho
  have HP:Hid (∀w',Below w1.heap.size w1 w'->Prs w' (.slice a1 m.length c1) m):=fun w' h=>hP1.below h
  have HB1:Hid (Below w.heap.size w w1):=hb1
  clear hC ho hb1 hP1
  generalize m.length=k at *
  go_wp2_with fail
  refine(hR1 _ _ (HP.out _ (Below.refl _ _))).mono ?_
  rintro e w2 ⟨rfl,hb2⟩
  clear hR1
  go_wp2_with fail
  refine(hR2 _ _ (HP.out _ hb2) (by omega)).mono ?_
  rintro e w3 ⟨rfl,hb3⟩
  have hb4:=ah hb2 hb3
  clear hR2 hb2 hb3
  go_wp2_with fail
  refine(hT _ _ (fC _ _ _ _)).mono ?_
  rintro e w4 ⟨rfl,hb5⟩
  have hb6:=ah HB1.out (ah hb4 (ak hb5))
  clear hT hb5
  go_wp2
  go_ret
  exact⟨rfl,hb6⟩
theorem G9(v:Value)(l:Prl)(f q:Int)(w:World)(hv:Prs w v l)(hl:l.length<=1048576)(hf:∀p∈l,fine p=true)(HF:Hid (f=q*8))(hq:0<=f/\f+8<=1024):
  Calls Tryz.prog 172 #[v,.int .i64 f,.int .i64 3] w fun e w'=>e = .returned (.int .i64 (nd l 3 q))/\Below w.heap.size w w':=by
 have hC:=fun w h=>gK v l f (f+8) w h hl
 have HV:Hid (Prs w v l):=hv
 obtain⟨ad,c,rfl⟩:=hv.shape
 have gW:=jv (a:=f) (b:=f+8) hf
 have hE:=fun w=>fF 3 w (by omega)
 have eS:((2^(2+1):Nat):Int)=8:=rfl
 have hN:cut l f (f+8)=[]->nd l 3 q=emp 3:=fun h=>iG (n:=2+1) (dX.1 (by rw[eS,←HF.out];exact h))
 have hP:cut l f (f+8)≠[]->nd l 3 q=t2 (nd (cut l f (f+8)) 2 (2*q)) (nd (cut l f (f+8)) 2 (2*q+1)):=fun h=>by
  have h2:=oJ (l:=l) (n:=2) (q:=q) (Classical.byContradiction fun hn=>h (by have:=dX.2 hn;rw[eS,←HF.out]at this;exact this))
  rw[eS,←HF.out]at h2
  exact h2
 have hlm:=jc l f (f+8)
 generalize nd l 3 q=r at *
 generalize cut l f (f+8)=m at *
 have hR1:=fun u w hu=>G8 u m f (2*q) w hu (by omega) gW (by show _=_;have:=HF.out;omega) (by omega)
 have hR2:=fun u w hu=>G8 u m (f+4) (2*q+1) w hu (by omega) gW (by show _=_;have:=HF.out;omega)
 have hd1:=iD m 2 (2*q)
 have hd2:=iD m 2 (2*q+1)
 generalize nd m 2 (2*q)=x at *
 generalize nd m 2 (2*q+1)=y at *
 generalize l.length=n at *
 clear hv hf gW eS
 by_cases hm:m=[]
 ·have e0:=hN hm
  subst hm e0
  simp only[List.length_nil]at hC
  generalize emp 3=z at *
  clear hN hP hR1 hR2
  go_enter Tryz.func172,Tryz.ntmps172
  go_wp2_with fail
  refine(hC _ HV.out).mono ?_
  rintro e w1 ⟨a1,c1,rfl,-,hb1⟩
  clear hC
  go_wp2_with fail
  refine(hE _).mono ?_
  rintro e w2 ⟨rfl,hb2⟩
  clear hE
  go_wp2
  go_ret
  exact⟨rfl,ah hb1 hb2⟩
 ·have e0:=hP hm
  subst e0
  have hT:=fun w u hu=>fE 2 x y u w (by omega) hu hd1 hd2
  have e1:bn (aZ 2 [x,y])=t2 x y:=rfl
  rw[e1]at hT
  generalize t2 x y=z at *
  have hml:¬(m.length:Int)=0:=fun h=>hm (List.eq_nil_of_length_eq_zero (by omega))
  clear hN hP e1 hE hm
  go_enter Tryz.func172,Tryz.ntmps172
  go_wp2_with fail
  refine(hC _ HV.out).mono ?_
  rintro e w1 ⟨a1,c1,rfl,ho,hb1⟩
  have hP1:=bK ho
  have HP:Hid (∀w',Below w1.heap.size w1 w'->Prs w' (.slice a1 m.length c1) m):=fun w' h=>hP1.below h
  have HB1:Hid (Below w.heap.size w w1):=hb1
  clear hC ho hb1 hP1
  generalize m.length=k at *
  go_wp2_with fail
  refine(hR1 _ _ (HP.out _ (Below.refl _ _))).mono ?_
  rintro e w2 ⟨rfl,hb2⟩
  clear hR1
  go_wp2_with fail
  refine(hR2 _ _ (HP.out _ hb2) (by omega)).mono ?_
  rintro e w3 ⟨rfl,hb3⟩
  have hb4:=ah hb2 hb3
  clear hR2 hb2 hb3
  go_wp2_with fail
  refine(hT _ _ (fC _ _ _ _)).mono ?_
  rintro e w4 ⟨rfl,hb5⟩
  have hb6:=ah HB1.out (ah hb4 (ak hb5))
  clear hT hb5
  go_wp2
  go_ret
  exact⟨rfl,hb6⟩
theorem He(v:Value)(l:Prl)(f q:Int)(w:World)(hv:Prs w v l)(hl:l.length<=1048576)(hf:∀p∈l,fine p=true)(HF:Hid (f=q*16))(hq:0<=f/\f+16<=1024):
  Calls Tryz.prog 172 #[v,.int .i64 f,.int .i64 4] w fun e w'=>e = .returned (.int .i64 (nd l 4 q))/\Below w.heap.size w w':=by
 have hC:=fun w h=>gK v l f (f+16) w h hl
 have HV:Hid (Prs w v l):=hv
 obtain⟨ad,c,rfl⟩:=hv.shape
 have gW:=jv (a:=f) (b:=f+16) hf
 have hE:=fun w=>fF 4 w (by omega)
 have eS:((2^(3+1):Nat):Int)=16:=rfl
 have hN:cut l f (f+16)=[]->nd l 4 q=emp 4:=fun h=>iG (n:=3+1) (dX.1 (by rw[eS,←HF.out];exact h))
 have hP:cut l f (f+16)≠[]->nd l 4 q=t2 (nd (cut l f (f+16)) 3 (2*q)) (nd (cut l f (f+16)) 3 (2*q+1)):=fun h=>by
  have h2:=oJ (l:=l) (n:=3) (q:=q) (Classical.byContradiction fun hn=>h (by have:=dX.2 hn;rw[eS,←HF.out]at this;exact this))
  rw[eS,←HF.out]at h2
  exact h2
 have hlm:=jc l f (f+16)
 generalize nd l 4 q=r at *
 generalize cut l f (f+16)=m at *
 have hR1:=fun u w hu=>G9 u m f (2*q) w hu (by omega) gW (by show _=_;have:=HF.out;omega) (by omega)
 have hR2:=fun u w hu=>G9 u m (f+8) (2*q+1) w hu (by omega) gW (by show _=_;have:=HF.out;omega)
 have hd1:=iD m 3 (2*q)
 have hd2:=iD m 3 (2*q+1)
 generalize nd m 3 (2*q)=x at *
 generalize nd m 3 (2*q+1)=y at *
 generalize l.length=n at *
 clear hv hf gW eS
 by_cases hm:m=[]
 ·have e0:=hN hm
  subst hm e0
  simp only[List.length_nil]at hC
  generalize emp 4=z at *
  clear hN hP hR1 hR2
  go_enter Tryz.func172,Tryz.ntmps172
  go_wp2_with fail
  refine(hC _ HV.out).mono ?_
  rintro e w1 ⟨a1,c1,rfl,-,hb1⟩
  clear hC
  go_wp2_with fail
  refine(hE _).mono ?_
  rintro e w2 ⟨rfl,hb2⟩
  clear hE
  go_wp2
  go_ret
  exact⟨rfl,ah hb1 hb2⟩
 ·have e0:=hP hm
  subst e0
  have hT:=fun w u hu=>fE 2 x y u w (by omega) hu hd1 hd2
  have e1:bn (aZ 2 [x,y])=t2 x y:=rfl
  rw[e1]at hT
  generalize t2 x y=z at *
  have hml:¬(m.length:Int)=0:=fun h=>hm (List.eq_nil_of_length_eq_zero (by omega))
  clear hN hP e1 hE hm
  go_enter Tryz.func172,Tryz.ntmps172
  go_wp2_with fail
  refine(hC _ HV.out).mono ?_
  rintro e w1 ⟨a1,c1,rfl,ho,hb1⟩
  have hP1:=bK ho
  have HP:Hid (∀w',Below w1.heap.size w1 w'->Prs w' (.slice a1 m.length c1) m):=fun w' h=>hP1.below h
  have HB1:Hid (Below w.heap.size w w1):=hb1
  clear hC ho hb1 hP1
  generalize m.length=k at *
  go_wp2_with fail
  refine(hR1 _ _ (HP.out _ (Below.refl _ _))).mono ?_
  rintro e w2 ⟨rfl,hb2⟩
  clear hR1
  go_wp2_with fail
  refine(hR2 _ _ (HP.out _ hb2) (by omega)).mono ?_
  rintro e w3 ⟨rfl,hb3⟩
  have hb4:=ah hb2 hb3
  clear hR2 hb2 hb3
  go_wp2_with fail
  refine(hT _ _ (fC _ _ _ _)).mono ?_
  rintro e w4 ⟨rfl,hb5⟩
  have hb6:=ah HB1.out (ah hb4 (ak hb5))
  clear hT hb5
  go_wp2
  go_ret
  exact⟨rfl,hb6⟩
theorem Hf(v:Value)(l:Prl)(f q:Int)(w:World)(hv:Prs w v l)(hl:l.length<=1048576)(hf:∀p∈l,fine p=true)(HF:Hid (f=q*32))(hq:0<=f/\f+32<=1024):
  Calls Tryz.prog 172 #[v,.int .i64 f,.int .i64 5] w fun e w'=>e = .returned (.int .i64 (nd l 5 q))/\Below w.heap.size w w':=by
 have hC:=fun w h=>gK v l f (f+32) w h hl
 have HV:Hid (Prs w v l):=hv
 obtain⟨ad,c,rfl⟩:=hv.shape
 have gW:=jv (a:=f) (b:=f+32) hf
 have hE:=fun w=>fF 5 w (by omega)
 have eS:((2^(4+1):Nat):Int)=32:=rfl
 have hN:cut l f (f+32)=[]->nd l 5 q=emp 5:=fun h=>iG (n:=4+1) (dX.1 (by rw[eS,←HF.out];exact h))
 have hP:cut l f (f+32)≠[]->nd l 5 q=t2 (nd (cut l f (f+32)) 4 (2*q)) (nd (cut l f (f+32)) 4 (2*q+1)):=fun h=>by
  have h2:=oJ (l:=l) (n:=4) (q:=q) (Classical.byContradiction fun hn=>h (by have:=dX.2 hn;rw[eS,←HF.out]at this;exact this))
  rw[eS,←HF.out]at h2
  exact h2
 have hlm:=jc l f (f+32)
 generalize nd l 5 q=r at *
 generalize cut l f (f+32)=m at *
 have hR1:=fun u w hu=>He u m f (2*q) w hu (by omega) gW (by show _=_;have:=HF.out;omega) (by omega)
 have hR2:=fun u w hu=>He u m (f+16) (2*q+1) w hu (by omega) gW (by show _=_;have:=HF.out;omega)
 have hd1:=iD m 4 (2*q)
 have hd2:=iD m 4 (2*q+1)
 generalize nd m 4 (2*q)=x at *
 generalize nd m 4 (2*q+1)=y at *
 generalize l.length=n at *
 clear hv hf gW eS
 by_cases hm:m=[]
 ·have e0:=hN hm
  subst hm e0
  simp only[List.length_nil]at hC
  generalize emp 5=z at *
  clear hN hP hR1 hR2
  go_enter Tryz.func172,Tryz.ntmps172
  go_wp2_with fail
  refine(hC _ HV.out).mono ?_
  rintro e w1 ⟨a1,c1,rfl,-,hb1⟩
  clear hC
  go_wp2_with fail
  refine(hE _).mono ?_
  rintro e w2 ⟨rfl,hb2⟩
  clear hE
  go_wp2
  go_ret
  exact⟨rfl,ah hb1 hb2⟩
 ·have e0:=hP hm
  subst e0
  have hT:=fun w u hu=>fE 2 x y u w (by omega) hu hd1 hd2
  have e1:bn (aZ 2 [x,y])=t2 x y:=rfl
  rw[e1]at hT
  generalize t2 x y=z at *
  have hml:¬(m.length:Int)=0:=fun h=>hm (List.eq_nil_of_length_eq_zero (by omega))
  clear hN hP e1 hE hm
  go_enter Tryz.func172,Tryz.ntmps172
  go_wp2_with fail
  refine(hC _ HV.out).mono ?_
  rintro e w1 ⟨a1,c1,rfl,ho,hb1⟩
  have hP1:=bK ho
  have HP:Hid (∀w',Below w1.heap.size w1 w'->Prs w' (.slice a1 m.length c1) m):=fun w' h=>hP1.below h
  have HB1:Hid (Below w.heap.size w w1):=hb1
  clear hC ho hb1 hP1
  generalize m.length=k at *
  go_wp2_with fail
  refine(hR1 _ _ (HP.out _ (Below.refl _ _))).mono ?_
  rintro e w2 ⟨rfl,hb2⟩
  clear hR1
  go_wp2_with fail
  refine(hR2 _ _ (HP.out _ hb2) (by omega)).mono ?_
  rintro e w3 ⟨rfl,hb3⟩
  have hb4:=ah hb2 hb3
  clear hR2 hb2 hb3
  go_wp2_with fail
  refine(hT _ _ (fC _ _ _ _)).mono ?_
  rintro e w4 ⟨rfl,hb5⟩
  have hb6:=ah HB1.out (ah hb4 (ak hb5))
  clear hT hb5
  go_wp2
  go_ret
  exact⟨rfl,hb6⟩
theorem Hg(v:Value)(l:Prl)(f q:Int)(w:World)(hv:Prs w v l)(hl:l.length<=1048576)(hf:∀p∈l,fine p=true)(HF:Hid (f=q*64))(hq:0<=f/\f+64<=1024):
  Calls Tryz.prog 172 #[v,.int .i64 f,.int .i64 6] w fun e w'=>e = .returned (.int .i64 (nd l 6 q))/\Below w.heap.size w w':=by
 have hC:=fun w h=>gK v l f (f+64) w h hl
 have HV:Hid (Prs w v l):=hv
 obtain⟨ad,c,rfl⟩:=hv.shape
 have gW:=jv (a:=f) (b:=f+64) hf
 have hE:=fun w=>fF 6 w (by omega)
 have eS:((2^(5+1):Nat):Int)=64:=rfl
 have hN:cut l f (f+64)=[]->nd l 6 q=emp 6:=fun h=>iG (n:=5+1) (dX.1 (by rw[eS,←HF.out];exact h))
 have hP:cut l f (f+64)≠[]->nd l 6 q=t2 (nd (cut l f (f+64)) 5 (2*q)) (nd (cut l f (f+64)) 5 (2*q+1)):=fun h=>by
  have h2:=oJ (l:=l) (n:=5) (q:=q) (Classical.byContradiction fun hn=>h (by have:=dX.2 hn;rw[eS,←HF.out]at this;exact this))
  rw[eS,←HF.out]at h2
  exact h2
 have hlm:=jc l f (f+64)
 generalize nd l 6 q=r at *
 generalize cut l f (f+64)=m at *
 have hR1:=fun u w hu=>Hf u m f (2*q) w hu (by omega) gW (by show _=_;have:=HF.out;omega) (by omega)
 have hR2:=fun u w hu=>Hf u m (f+32) (2*q+1) w hu (by omega) gW (by show _=_;have:=HF.out;omega)
 have hd1:=iD m 5 (2*q)
 have hd2:=iD m 5 (2*q+1)
 generalize nd m 5 (2*q)=x at *
 generalize nd m 5 (2*q+1)=y at *
 generalize l.length=n at *
 clear hv hf gW eS
 by_cases hm:m=[]
 ·have e0:=hN hm
  subst hm e0
  simp only[List.length_nil]at hC
  generalize emp 6=z at *
  clear hN hP hR1 hR2
  go_enter Tryz.func172,Tryz.ntmps172
  go_wp2_with fail
  refine(hC _ HV.out).mono ?_
  rintro e w1 ⟨a1,c1,rfl,-,hb1⟩
  clear hC
  go_wp2_with fail
  refine(hE _).mono ?_
  rintro e w2 ⟨rfl,hb2⟩
  clear hE
  go_wp2
  go_ret
  exact⟨rfl,ah hb1 hb2⟩
 ·have e0:=hP hm
  subst e0
  have hT:=fun w u hu=>fE 2 x y u w (by omega) hu hd1 hd2
  have e1:bn (aZ 2 [x,y])=t2 x y:=rfl
  rw[e1]at hT
  generalize t2 x y=z at *
  have hml:¬(m.length:Int)=0:=fun h=>hm (List.eq_nil_of_length_eq_zero (by omega))
  clear hN hP e1 hE hm
  go_enter Tryz.func172,Tryz.ntmps172
  go_wp2_with fail
  refine(hC _ HV.out).mono ?_
  rintro e w1 ⟨a1,c1,rfl,ho,hb1⟩
  have hP1:=bK ho
  have HP:Hid (∀w',Below w1.heap.size w1 w'->Prs w' (.slice a1 m.length c1) m):=fun w' h=>hP1.below h
  have HB1:Hid (Below w.heap.size w w1):=hb1
  clear hC ho hb1 hP1
  generalize m.length=k at *
  go_wp2_with fail
  refine(hR1 _ _ (HP.out _ (Below.refl _ _))).mono ?_
  rintro e w2 ⟨rfl,hb2⟩
  clear hR1
  go_wp2_with fail
  refine(hR2 _ _ (HP.out _ hb2) (by omega)).mono ?_
  rintro e w3 ⟨rfl,hb3⟩
  have hb4:=ah hb2 hb3
  clear hR2 hb2 hb3
  go_wp2_with fail
  refine(hT _ _ (fC _ _ _ _)).mono ?_
  rintro e w4 ⟨rfl,hb5⟩
  have hb6:=ah HB1.out (ah hb4 (ak hb5))
  clear hT hb5
  go_wp2
  go_ret
  exact⟨rfl,hb6⟩
theorem Hl(v:Value)(l:Prl)(f q:Int)(w:World)(hv:Prs w v l)(hl:l.length<=1048576)(hf:∀p∈l,fine p=true)(HF:Hid (f=q*128))(hq:0<=f/\f+128<=1024):
  Calls Tryz.prog 172 #[v,.int .i64 f,.int .i64 7] w fun e w'=>e = .returned (.int .i64 (nd l 7 q))/\Below w.heap.size w w':=by
 have hC:=fun w h=>gK v l f (f+128) w h hl
 have HV:Hid (Prs w v l):=hv
 obtain⟨ad,c,rfl⟩:=hv.shape
 have gW:=jv (a:=f) (b:=f+128) hf
 have hE:=fun w=>fF 7 w (by omega)
 have eS:((2^(6+1):Nat):Int)=128:=rfl
 have hN:cut l f (f+128)=[]->nd l 7 q=emp 7:=fun h=>iG (n:=6+1) (dX.1 (by rw[eS,←HF.out];exact h))
 have hP:cut l f (f+128)≠[]->nd l 7 q=t2 (nd (cut l f (f+128)) 6 (2*q)) (nd (cut l f (f+128)) 6 (2*q+1)):=fun h=>by
  have h2:=oJ (l:=l) (n:=6) (q:=q) (Classical.byContradiction fun hn=>h (by have:=dX.2 hn;rw[eS,←HF.out]at this;exact this))
  rw[eS,←HF.out]at h2
  exact h2
 have hlm:=jc l f (f+128)
 generalize nd l 7 q=r at *
 generalize cut l f (f+128)=m at *
 have hR1:=fun u w hu=>Hg u m f (2*q) w hu (by omega) gW (by show _=_;have:=HF.out;omega) (by omega)
 have hR2:=fun u w hu=>Hg u m (f+64) (2*q+1) w hu (by omega) gW (by show _=_;have:=HF.out;omega)
 have hd1:=iD m 6 (2*q)
 have hd2:=iD m 6 (2*q+1)
 generalize nd m 6 (2*q)=x at *
 generalize nd m 6 (2*q+1)=y at *
 generalize l.length=n at *
 clear hv hf gW eS
 by_cases hm:m=[]
 ·have e0:=hN hm
  subst hm e0
  simp only[List.length_nil]at hC
  generalize emp 7=z at *
  clear hN hP hR1 hR2
  go_enter Tryz.func172,Tryz.ntmps172
  go_wp2_with fail
  refine(hC _ HV.out).mono ?_
  rintro e w1 ⟨a1,c1,rfl,-,hb1⟩
  clear hC
  go_wp2_with fail
  refine(hE _).mono ?_
  rintro e w2 ⟨rfl,hb2⟩
  clear hE
  go_wp2
  go_ret
  exact⟨rfl,ah hb1 hb2⟩
 ·have e0:=hP hm
  subst e0
  have hT:=fun w u hu=>fE 2 x y u w (by omega) hu hd1 hd2
  have e1:bn (aZ 2 [x,y])=t2 x y:=rfl
  rw[e1]at hT
  generalize t2 x y=z at *
  have hml:¬(m.length:Int)=0:=fun h=>hm (List.eq_nil_of_length_eq_zero (by omega))
  clear hN hP e1 hE hm
  go_enter Tryz.func172,Tryz.ntmps172
  go_wp2_with fail
  refine(hC _ HV.out).mono ?_
  rintro e w1 ⟨a1,c1,rfl,ho,hb1⟩
  have hP1:=bK ho
  have HP:Hid (∀w',Below w1.heap.size w1 w'->Prs w' (.slice a1 m.length c1) m):=fun w' h=>hP1.below h
  have HB1:Hid (Below w.heap.size w w1):=hb1
  clear hC ho hb1 hP1
  generalize m.length=k at *
  go_wp2_with fail
  refine(hR1 _ _ (HP.out _ (Below.refl _ _))).mono ?_
  rintro e w2 ⟨rfl,hb2⟩
  clear hR1
  go_wp2_with fail
  refine(hR2 _ _ (HP.out _ hb2) (by omega)).mono ?_
  rintro e w3 ⟨rfl,hb3⟩
  have hb4:=ah hb2 hb3
  clear hR2 hb2 hb3
  go_wp2_with fail
  refine(hT _ _ (fC _ _ _ _)).mono ?_
  rintro e w4 ⟨rfl,hb5⟩
  have hb6:=ah HB1.out (ah hb4 (ak hb5))
  clear hT hb5
  go_wp2
  go_ret
  exact⟨rfl,hb6⟩
theorem RY(v:Value)(l:Prl)(f q:Int)(w:World)(hv:Prs w v l)(hl:l.length<=1048576)(hf:∀p∈l,fine p=true)(HF:Hid (f=q*256))(hq:0<=f/\f+256<=1024):
  Calls Tryz.prog 172 #[v,.int .i64 f,.int .i64 8] w fun e w'=>e = .returned (.int .i64 (nd l 8 q))/\Below w.heap.size w w':=by
 have hC:=fun w h=>gK v l f (f+256) w h hl
 have HV:Hid (Prs w v l):=hv
 obtain⟨ad,c,rfl⟩:=hv.shape
 have gW:=jv (a:=f) (b:=f+256) hf
 have hE:=fun w=>fF 8 w (by omega)
 have eS:((2^(7+1):Nat):Int)=256:=rfl
 have hN:cut l f (f+256)=[]->nd l 8 q=emp 8:=fun h=>iG (n:=7+1) (dX.1 (by rw[eS,←HF.out];exact h))
 have hP:cut l f (f+256)≠[]->nd l 8 q=t2 (nd (cut l f (f+256)) 7 (2*q)) (nd (cut l f (f+256)) 7 (2*q+1)):=fun h=>by
  have h2:=oJ (l:=l) (n:=7) (q:=q) (Classical.byContradiction fun hn=>h (by have:=dX.2 hn;rw[eS,←HF.out]at this;exact this))
  rw[eS,←HF.out]at h2
  exact h2
 have hlm:=jc l f (f+256)
 generalize nd l 8 q=r at *
 generalize cut l f (f+256)=m at *
 have hR1:=fun u w hu=>Hl u m f (2*q) w hu (by omega) gW (by show _=_;have:=HF.out;omega) (by omega)
 have hR2:=fun u w hu=>Hl u m (f+128) (2*q+1) w hu (by omega) gW (by show _=_;have:=HF.out;omega)
 have hd1:=iD m 7 (2*q)
 have hd2:=iD m 7 (2*q+1)
 generalize nd m 7 (2*q)=x at *
 generalize nd m 7 (2*q+1)=y at *
 generalize l.length=n at *
 clear hv hf gW eS
 by_cases hm:m=[]
 ·have e0:=hN hm
  subst hm e0
  simp only[List.length_nil]at hC
  generalize emp 8=z at *
  clear hN hP hR1 hR2
  go_enter Tryz.func172,Tryz.ntmps172
  go_wp2_with fail
  refine(hC _ HV.out).mono ?_
  rintro e w1 ⟨a1,c1,rfl,-,hb1⟩
  clear hC
  go_wp2_with fail
  refine(hE _).mono ?_
  rintro e w2 ⟨rfl,hb2⟩
  clear hE
  go_wp2
  go_ret
  exact⟨rfl,ah hb1 hb2⟩
 ·have e0:=hP hm
  subst e0
  have hT:=fun w u hu=>fE 2 x y u w (by omega) hu hd1 hd2
  have e1:bn (aZ 2 [x,y])=t2 x y:=rfl
  rw[e1]at hT
  generalize t2 x y=z at *
  have hml:¬(m.length:Int)=0:=fun h=>hm (List.eq_nil_of_length_eq_zero (by omega))
  clear hN hP e1 hE hm
  go_enter Tryz.func172,Tryz.ntmps172
  go_wp2_with fail
  refine(hC _ HV.out).mono ?_
  rintro e w1 ⟨a1,c1,rfl,ho,hb1⟩
  have hP1:=bK ho
  have HP:Hid (∀w',Below w1.heap.size w1 w'->Prs w' (.slice a1 m.length c1) m):=fun w' h=>hP1.below h
  have HB1:Hid (Below w.heap.size w w1):=hb1
  clear hC ho hb1 hP1
  generalize m.length=k at *
  go_wp2_with fail
  refine(hR1 _ _ (HP.out _ (Below.refl _ _))).mono ?_
  rintro e w2 ⟨rfl,hb2⟩
  clear hR1
  go_wp2_with fail
  refine(hR2 _ _ (HP.out _ hb2) (by omega)).mono ?_
  rintro e w3 ⟨rfl,hb3⟩
  have hb4:=ah hb2 hb3
  clear hR2 hb2 hb3
  go_wp2_with fail
  refine(hT _ _ (fC _ _ _ _)).mono ?_
  rintro e w4 ⟨rfl,hb5⟩
  have hb6:=ah HB1.out (ah hb4 (ak hb5))
  clear hT hb5
  go_wp2
  go_ret
  exact⟨rfl,hb6⟩
structure cO(w:World)(g:Nat)(f:Nat->Int):Prop where
 c:∀j,j<9->w.cell? ⟨g,j,none⟩=some (.int .i64 (f j))
 z:∀j,j<9->w.frozen? ⟨g,j,none⟩=false
def nH(f:Nat->Int):Array Value:=#[.int .i64 (f 0),.int .i64 (f 1),.int .i64 (f 2),.int .i64 (f 3),.int .i64 (f 4),.int .i64 (f 5),.int .i64 (f 6),.int .i64 (f 7),.int .i64 (f 8)]
theorem lt9{j:Nat}(h:j<9):j=0∨j=1∨j=2∨j=3∨j=4∨j=5∨j=6∨j=7∨j=8:=by omega
theorem cO.of{w:World}{g:Nat}{f:Nat->Int}{t:TypeId}(h:w.heap[g]? = some (.cells (nH f) t)):cO w g f:=by
 constructor
 ·intro j hj
  rcases lt9 hj with rfl | rfl | rfl | rfl | rfl | rfl | rfl | rfl | rfl<;>(unfold World.cell?;rw[h];rfl)
 ·intro j hj
  rcases lt9 hj with rfl | rfl | rfl | rfl | rfl | rfl | rfl | rfl | rfl<;>(unfold World.frozen?;rw[h];rfl)
theorem cO.below{w w':World}{g B:Nat}{f:Nat->Int}(h:cO w g f)(hb:Below B w w')(hg:g<B):cO w' g f:=
 ⟨fun j hj=>(hb.cell (p:=⟨g,j,none⟩) hg).trans (h.c j hj),fun j hj=>(hb.frozen (p:=⟨g,j,none⟩) hg).trans (h.z j hj)⟩
theorem cO.set{w:World}{g k:Nat}{f:Nat->Int}(h:cO w g f)(hk:k<9)(x:Int):cO (w.setCell ⟨g,k,none⟩ (.int .i64 x)) g (fun j=>if j=k then x else f j):=by
 refine⟨fun j hj=> ?_,fun j hj=>(World.frozen?_setCell _ _ _ _).trans (h.z j hj)⟩
 by_cases e:j=k
 ·subst e
  rw[if_pos rfl]
  exact World.cell?_setCell_same _ _ _ (h.c j hj)
 ·rw[if_neg e]
  exact(World.cell?_setCell_other _ _ _ _ (by simp)).trans (h.c j hj)
theorem cO.other{w:World}{g k b:Nat}{f:Nat->Int}(h:cO w g f)(hb:b≠g)(x:Value):cO (w.setCell ⟨b,k,none⟩ x) g f:=
 ⟨fun j hj=>(World.cell?_setCell_other _ _ _ _ (by simp)).trans (h.c j hj),fun j hj=>(World.frozen?_setCell _ _ _ _).trans (h.z j hj)⟩
theorem cO.cells{w:World}{g:Nat}{f:Nat->Int}(h:cO w g f):w.cell? ⟨g,0,none⟩=some (.int .i64 (f 0))/\w.cell? ⟨g,1,none⟩=some (.int .i64 (f 1))/\w.cell? ⟨g,2,none⟩=some (.int .i64 (f 2))/\w.cell? ⟨g,3,none⟩=some (.int .i64 (f 3))/\w.cell? ⟨g,4,none⟩=some (.int .i64 (f 4))/\w.cell? ⟨g,5,none⟩=some (.int .i64 (f 5))/\w.cell? ⟨g,6,none⟩=some (.int .i64 (f 6))/\w.cell? ⟨g,7,none⟩=some (.int .i64 (f 7))/\w.cell? ⟨g,8,none⟩=some (.int .i64 (f 8)):=
 ⟨h.c 0 (by omega),h.c 1 (by omega),h.c 2 (by omega),h.c 3 (by omega),h.c 4 (by omega),h.c 5 (by omega),h.c 6 (by omega),h.c 7 (by omega),h.c 8 (by omega)⟩
theorem cO.YB{w:World}{g:Nat}{f:Nat->Int}(h:cO w g f):w.frozen? ⟨g,0,none⟩=false/\w.frozen? ⟨g,1,none⟩=false/\w.frozen? ⟨g,2,none⟩=false/\w.frozen? ⟨g,3,none⟩=false/\w.frozen? ⟨g,4,none⟩=false/\w.frozen? ⟨g,5,none⟩=false/\w.frozen? ⟨g,6,none⟩=false/\w.frozen? ⟨g,7,none⟩=false/\w.frozen? ⟨g,8,none⟩=false:=
 ⟨h.z 0 (by omega),h.z 1 (by omega),h.z 2 (by omega),h.z 3 (by omega),h.z 4 (by omega),h.z 5 (by omega),h.z 6 (by omega),h.z 7 (by omega),h.z 8 (by omega)⟩
theorem cO.congr{w:World}{g:Nat}{f f':Nat->Int}(h:cO w g f)(e:∀j,j<9->f j=f' j):cO w g f':=⟨fun j hj=>by rw[←e j hj];exact h.c j hj,h.z⟩
def pre(k j:Nat):Int:=if j<=k then emp j else 0
theorem Em(w:World):
  Calls Tryz.prog 201 #[] w fun e w'=>e = .returned (.agg (nH emp))/\Below w.heap.size w w':=by
 have hS:=fun w=>iF (.slice none 0 0) [] w (Or.inl ⟨rfl,_,_,rfl⟩) (fun b hb=>by cases hb) (by simp)
 have e0:smC []=0/\smV []=13:=⟨rfl,rfl⟩
 rw[e0.1,e0.2]at hS
 have kf:=fun w=>qO 0 13 w
 clear e0
 go_enter Tryz.func201,Tryz.ntmps201
 go_wp2_with fail
 refine(hS _).mono ?_
 rintro e w1 ⟨rfl,hb1⟩
 have Z1:cO w1 w.heap.size (fun _=>0):=cO.of (f:=fun _=>0) ((hb1.block w.heap.size (by simp)).trans (heap_alloc_new w _))
 have hB1:=ak hb1
 have hsz1:w.heap.size<w1.heap.size:=by have:=hb1.size;simp at this;omega
 clear hS hb1
 go_wp2_with fail
 have A1:cO (w1.alloc (.cells (nH (pre 0)) 251)) w1.heap.size (pre 0):=cO.of (heap_alloc_new _ _)
 have Z2:cO (w1.alloc (.cells (nH (pre 0)) 251)) w.heap.size (fun _=>0):=Z1.below (aj _) hsz1
 have hB2:Below w.heap.size w (w1.alloc (.cells (nH (pre 0)) 251)):=hB1.alloc (Nat.le_of_lt hsz1) _
 have HA1:Hid (cO (w1.alloc (.cells (nH (pre 0)) 251)) w1.heap.size (pre 0)):=A1
 have HZ2:Hid (cO (w1.alloc (.cells (nH (pre 0)) 251)) w.heap.size (fun _=>0)):=Z2
 have HB2:Hid (Below w.heap.size w (w1.alloc (.cells (nH (pre 0)) 251))):=hB2
 clear A1 Z2 hB2 Z1 hB1 kf
 go_loopw [6] (fun i wr=>∃k:Nat,k<=8/\i = .int .i64 k/\w1.heap.size<wr.heap.size/\Hid (Below w.heap.size w wr)/\Hid (cO wr w1.heap.size (pre k))/\Hid (cO wr w.heap.size (fun _=>0))) (fun i _=>8 - (intOf i).toNat)
 case atStart=>exact⟨0,by omega,rfl,by simp,HB2,HA1,HZ2⟩
 case round=>
  obtain⟨k,hk,rfl,hsz,HB,HA,HZ⟩:=hrel
  by_cases hk8:k<8
  ·have hki:(k:Int)<8:=by omega
   have ck:=HA.out.c k (by omega)
   have e1:pre k k=emp k:=by unfold pre;rw[if_pos (Nat.le_refl _)]
   rw[e1]at ck
   have hbd:=Aj k
   have HE:Hid (∀j,j<9->(fun j=>if j=k+1 then t2 (emp k) (emp k)else pre k j) j=pre (k+1) j):=fun j hj=>by
    show(if j=k+1 then t2 (emp k) (emp k)else pre k j)=pre (k+1) j
    unfold pre
    by_cases e:j=k+1
    ·subst e
     rw[if_pos rfl,if_pos (Nat.le_refl _)]
     rfl
    ·rw[if_neg e]
     by_cases e2:j<=k
     ·rw[if_pos e2,if_pos (by omega)]
     ·rw[if_neg e2,if_neg (by omega)]
   have hP:=fun w=>nY (emp k) (emp k) w hbd hbd
   generalize t2 (emp k) (emp k)=y at *
   generalize emp k=x at *
   have hmk:Hid (∀w',Below wr.heap.size wr w'->cO w' w1.heap.size (pre k)):=fun w' h=>HA.out.below h hsz
   clear e1
   have hk0:(0:Int)<=(k:Int):=by omega
   have hk9:(k:Int)<9:=by omega
   have hk10:(0:Int)<=(k:Int)+1:=by omega
   have abg:(k:Int)+1<9:=by omega
   have hkw:IntKind.i64.wrap ((k:Int)+1)=(k:Int)+1:=by rw[IntKind.wrap_i64];omega
   go_wp2
   go_region_held3 (fun w'=>w'.cell? ⟨w1.heap.size,k,none⟩=some (.int .i64 x))
    (first | exact ck | exact(hbr.cell (p:=⟨w1.heap.size,k,none⟩) hsz).trans ck | exact(World.cell?_setCell_other _ _ _ _ (by simp)).trans ((hbr.cell (p:=⟨w1.heap.size,k,none⟩) hsz).trans ck))
    (first |(go_at_call 223;refine(hP _).mono ?_;rintro e wq ⟨rfl,hbq⟩;have hbr:Below wr.heap.size wr wq:=ah (Below.refl _ _).drew hbq;have hk1:=(hmk.out _ hbr).c (k+1) (by omega);have hz1:=(hmk.out _ hbr).z (k+1) (by omega);clear hbq))
   have hbs:Below w.heap.size w (wq.setCell ⟨w1.heap.size,k+1,none⟩ (.int .i64 y)):=(ah HB.out hbr).setCell (Nat.le_of_lt hsz1) _
   have hA2:=((hmk.out _ hbr).set (k:=k+1) (by omega) y).congr HE.out
   have hZ2:=(HZ.out.below hbr (by omega)).other (k:=k+1) (b:=w1.heap.size) (by omega) (.int .i64 y)
   have hsz2:=hbr.size
   have lQ:Hid (Below w.heap.size w (wq.setCell ⟨w1.heap.size,k+1,none⟩ (.int .i64 y))):=hbs
   have Zv:Hid (cO (wq.setCell ⟨w1.heap.size,k+1,none⟩ (.int .i64 y)) w1.heap.size (pre (k+1))):=hA2
   have Zx:Hid (cO (wq.setCell ⟨w1.heap.size,k+1,none⟩ (.int .i64 y)) w.heap.size (fun _=>0)):=hZ2
   clear hbs hA2 hZ2 hmk hP hbr hk1 hz1 ck
   go_wp2
   go_roundw
   case rel=>exact⟨k+1,by omega,by go_num,by simp;omega,lQ,Zv,Zx⟩
   case measure=>simp[intOf];omega
  ·have hk8:k=8:=by omega
   have hki:¬(k:Int)<8:=by omega
   obtain⟨c0,c1,c2,c3,c4,c5,c6,c7,c8⟩:=(HA.out.congr (f':=emp) (fun j hj=>by unfold pre;rw[if_pos (by omega)])).cells
   obtain⟨d0,d1,d2,d3,d4,d5,d6,d7,d8⟩:=HZ.out.cells
   obtain⟨z0,z1,z2,z3,z4,z5,z6,z7,z8⟩:=HZ.out.YB
   clear hk8
   go_wp2
   have hB:=HB.out
   exact bodyPost_ret (v:= .agg (nH emp)) (by simp[results,Tryz.results201,go_sem,nH,d0,d1,d2,d3,d4,d5,d6,d7,d8]) rfl ⟨rfl,((((((((hB.setCell (Nat.le_refl _) _).setCell (Nat.le_refl _) _).setCell (Nat.le_refl _) _).setCell (Nat.le_refl _) _).setCell (Nat.le_refl _) _).setCell (Nat.le_refl _) _).setCell (Nat.le_refl _) _).setCell (Nat.le_refl _) _).setCell (Nat.le_refl _) _⟩
theorem Tryz.PN:(Tryz.prog.info? 273).map (fun i=>(i.zero,i.size,i.bytes))=some (some (.agg #[.int .i64 0,.int .i64 0]),2,16):=by kernel_rfl
def leaves(l:Prl)(k:Nat):Prl:=(l.take k).map fun p=>(p.1,l3 p)
theorem ND(l:Prl):leaves l l.length=rows l 0:=by unfold leaves rows;rw[List.take_length]
theorem JJ{l:Prl}{k:Nat}(h:k<l.length):leaves l (k+1)=leaves l k++[((pAt l k).1,l3 (pAt l k))]:=by
 unfold leaves
 rw[BR h,List.map_append]
 rfl
theorem NG{l:Prl}{k:Nat}(h:k<=l.length):(leaves l k).length=k:=by unfold leaves;rw[List.length_map,List.length_take];omega
theorem JI(v:Value)(l:Prl)(w:World)(hv:Prs w v l)(hn:l.length<=12)(hf:∀p∈l,fine p=true):
  Calls Tryz.prog 221 #[v] w fun e w'=>∃v',e = .returned v'/\w'.ownsRow w.heap.size 273 2 v' (rows l 0).length ((fl (rows l 0)).map (Value.int .i64))/\Below w.heap.size w w':=by
 obtain⟨i0,hi,hz0,hz1,hz2⟩:=info_parts Tryz.PN
 have HV:Hid (Prs w v l):=hv
 obtain⟨ad,c,rfl⟩:=hv.shape
 obtain⟨n,hnl⟩:∃n,n=l.length:=⟨_,rfl⟩
 have HN:Hid (n=l.length):=hnl
 have HF:Hid (∀p∈l,fine p=true):=hf
 rw[←hnl]at hn HV ⊢
 clear hv hnl hf
 go_enter Tryz.func221,Tryz.ntmps221
 go_wp2
 go_loopw [3,9] (fun u i wr=>∃k:Nat,k<=n/\i = .int .i64 k/\Hid (Below w.heap.size w wr)/\Hid (wr.ownsRow w.heap.size 273 2 u (leaves l k).length ((fl (leaves l k)).map (Value.int .i64)))) (fun _ i _=>n - (intOf i).toNat)
 case atStart=>exact⟨0,Nat.zero_le _,rfl,Below.refl _ _,World.ownsRow_nil _ _ _ _⟩
 case round=>
  obtain⟨k,hk,rfl,hB,ho⟩:=hrel
  obtain⟨a',c',rfl⟩:=gG ho.out
  by_cases hkn:k<n
  ·have hki:(k:Int)<(n:Int):=by omega
   have hkl:k<l.length:=by have:=HN.out;omega
   obtain⟨-,bk,off,rfl,hbk,hc⟩:=HV.out.at (by omega)
   have hc1:=(hB.out.cell (p:=⟨bk,off+k*2,none⟩) hbk).trans (hc k hkl).1
   have hc2:=(hB.out.cell (p:=⟨bk,off+k*2+1,none⟩) hbk).trans (hc k hkl).2
   have hfx:=kK (HF.out (pAt l k) (by rw[dY hkl];exact List.getElem_mem _))
   have hS:=JJ hkl
   have hlen:(leaves l k).length<=12:=by rw[NG (Nat.le_of_lt hkl)];omega
   have hp:=Ik (tag:=3) (by omega) (a:=(pAt l k).1) (b:=(pAt l k).2) (by omega) hfx.2
   have e0:bn (aZ 3 [(pAt l k).1,(pAt l k).2])=l3 (pAt l k):=rfl
   rw[e0]at hp
   have hT:=fun v w hv=>nM 3 v [(pAt l k).1,(pAt l k).2] w hv (by simp)
   rw[hp.1,hp.2]at hT
   generalize l3 (pAt l k)=z at *
   generalize (pAt l k).1=x at *
   generalize (pAt l k).2=y at *
   have HS:Hid (leaves l (k+1)=leaves l k++[(x,z)]):=hS
   generalize leaves l k=m at *
   have kf:=fun w=>qO 0 z w
   have hbs:bk<wr.heap.size:=Nat.lt_of_lt_of_le hbk hB.out.size
   clear hc hfx hp e0 hS
   go_wp2_with fail
   refine(hT _ _ (zi (by simp))).mono ?_
   rintro e w1 ⟨rfl,hb1⟩
   clear hT
   have hb1':=ak hb1
   obtain⟨g0,g1,-,-⟩:=fG ((hb1'.block wr.heap.size (by simp)).trans (heap_alloc_new wr _))
   have hB1:=ah (hB.out.alloc hB.out.size _) hb1'
   have ho1:=own_below (ho.out.alloc _) hb1'
   have hsz:wr.heap.size<w1.heap.size:=by have:=hb1'.size;simp at this;omega
   have hwz:=hB1.size
   clear hb1 hb1' ho hc1 hc2
   go_wp2_with (at_builtin;refine wpList_append_own _ rfl _ _ 269 rfl w.heap.size 273 i0 (.agg #[.int .i64 0,.int .i64 0]) 2 16 Tryz.underlying269 hi hz0 hz1 hz2 rfl (by decide) _ _ _ rfl (ho1.alloc _) ⟨w1.heap.size,0,none⟩ 1 1 [.int .i64 x,.int .i64 z] rfl rfl (World.news_of_block (heap_alloc_new _ _)) (ints_oneCell .i64 [x,z]) (by unfold maxLen;omega) (by omega) (by simp;omega) ?_)
   intro v' w2 hown' hgrow _
   have hb2:Below w.heap.size w w2:=(hB1.alloc (by omega) _).grown hgrow (by simp;omega) (fun k hk=>(ho1.lt k hk).1)
   have dA:=tZ hown'
   clear hgrow hown' ho1
   go_wp2
   go_roundw
   case rel=>exact⟨k+1,by omega,by go_num,hb2,by rw[HS.out];exact dA⟩
   case measure=>simp[intOf];omega
  ·have hkn:k=n:=by omega
   subst hkn
   have e1:leaves l k=rows l 0:=by rw[HN.out];exact ND _
   rw[e1]at ho ⊢
   go_wp2
   go_ret
   exact⟨_,rfl,ho.out,hB.out⟩
def fp(e:Int):Prl->Int × Nat
 | []=>(0,1)
 | [(q,s)]=>(if q%2=1 then t2 e s else t2 s e,1)
 |(q,s)::(q',s')::_=>if q%2=1 then(t2 e s,1)else if q'=q+1 then(t2 s s',2)else(t2 s e,1)
theorem V7(e:Int){r:Prl}(h:0<r.length):abv e r=((pAt r 0).1/2,(fp e r).1)::abv e (r.drop (fp e r).2)/\1<=(fp e r).2/\(fp e r).2<=r.length:=by
 match r,h with
 | [(q,s)],_=>refine⟨?_,by simp[fp],by simp[fp]⟩;simp[abv,fp,pAt]
 |(q,s)::(q',s')::t,_=>
  by_cases h1:q%2=1
  ·have e1:fp e ((q,s)::(q',s')::t)=(t2 e s,1):=by simp[fp,h1]
   rw[e1]
   refine⟨?_,by simp,by simp⟩
   rw[abv,if_pos h1]
   simp[pAt]
  ·by_cases h2:q'=q+1
   ·have e1:fp e ((q,s)::(q',s')::t)=(t2 s s',2):=by simp[fp,h1,h2]
    rw[e1]
    refine⟨?_,by simp,by simp⟩
    rw[abv,if_neg h1,if_pos h2]
    simp[pAt]
   ·have e1:fp e ((q,s)::(q',s')::t)=(t2 s e,1):=by simp[fp,h1,h2]
    rw[e1]
    refine⟨?_,by simp,by simp⟩
    rw[abv,if_neg h1,if_neg h2]
    simp[pAt]
theorem Ws(e:Int){r:Prl}(h:0<r.length)(h1:(pAt r 0).1%2=1):fp e r=(t2 e (pAt r 0).2,1):=by
 match r,h with
 | [(q,s)],_=>simp[pAt]at h1;simp[fp,pAt,h1]
 |(q,s)::(q',s')::t,_=>simp[pAt]at h1;simp[fp,pAt,h1]
theorem UL(e:Int){r:Prl}(h:1<r.length)(h1:¬(pAt r 0).1%2=1)(h2:(pAt r 1).1=(pAt r 0).1+1):fp e r=(t2 (pAt r 0).2 (pAt r 1).2,2):=by
 match r,h with
 |(q,s)::(q',s')::t,_=>simp[pAt]at h1 h2;simp[fp,pAt,h1,h2]
theorem Wu(e:Int){r:Prl}(h:0<r.length)(h1:¬(pAt r 0).1%2=1)(h2:¬(1<r.length/\(pAt r 1).1=(pAt r 0).1+1)):fp e r=(t2 (pAt r 0).2 e,1):=by
 match r,h with
 | [(q,s)],_=>simp[pAt]at h1;simp[fp,pAt,h1]
 |(q,s)::(q',s')::t,_=>simp[pAt]at h1 h2;simp[fp,pAt,h1,h2]
def Pls(r:Prl):Prop:=∀p∈r,(0<=p.1/\p.1<=255)/\0<=p.2/\p.2<=65520
theorem Pls.at{r:Prl}(h:Pls r){k:Nat}(hk:k<r.length):(0<=(pAt r k).1/\(pAt r k).1<=255)/\0<=(pAt r k).2/\(pAt r k).2<=65520:=by
 rw[dY hk];exact h _ (List.getElem_mem _)
theorem Eo(b off c n:Nat)(r:Prl)(e:Int)(w:World)(HN:Hid (n=r.length))(hn0:0<n)(hn:n<=12)(hb:b<w.heap.size)(he:0<=e/\e<=65520)(HR:Hid (Pls r))
  (hc:∀j,j<n->w.cell? ⟨b,off+j*2,none⟩=some (.int .i64 (pAt r j).1)/\w.cell? ⟨b,off+j*2+1,none⟩=some (.int .i64 (pAt r j).2)) :
  Calls Tryz.prog 231 #[.slice (some ⟨b,off,none⟩) n c,.int .i64 e] w fun en w'=>en = .returned (.tuple #[.int .i64 (fp e r).1,.int .i64 (fp e r).2])/\Below w.heap.size w w':=by
 have hr0:0<r.length:=by have:=HN.out;omega
 obtain⟨c0,d0⟩:=hc 0 hn0
 simp only[Nat.zero_mul,Nat.add_zero]at c0 d0
 have hb0:=HR.out.at hr0
 have hni:(0:Int)<(n:Int):=by omega
 have h1i:∀h:1<n,1<r.length:=fun h=>by have:=HN.out;omega
 have HO:Hid ((pAt r 0).1%2=1->fp e r=(t2 e (pAt r 0).2,1)):=Ws e hr0
 have HP:Hid (1<n->¬(pAt r 0).1%2=1->(pAt r 1).1=(pAt r 0).1+1->fp e r=(t2 (pAt r 0).2 (pAt r 1).2,2)):=fun h=>UL e (h1i h)
 have HU:Hid (¬(pAt r 0).1%2=1->¬(1<n/\(pAt r 1).1=(pAt r 0).1+1)->fp e r=(t2 (pAt r 0).2 e,1)):=fun h h2=>Wu e hr0 h (by have:=HN.out;intro hh;exact h2 ⟨by omega,hh.2⟩)
 have J9:Hid (1<n->w.cell? ⟨b,off+1*2,none⟩=some (.int .i64 (pAt r 1).1)/\w.cell? ⟨b,off+1*2+1,none⟩=some (.int .i64 (pAt r 1).2)):=hc 1
 have HB1:Hid (1<n->(0<=(pAt r 1).1/\(pAt r 1).1<=255)/\0<=(pAt r 1).2/\(pAt r 1).2<=65520):=fun h=>HR.out.at (h1i h)
 generalize fp e r=F at *
 generalize (pAt r 0).1=q at *
 generalize (pAt r 0).2=s at *
 generalize (pAt r 1).1=q' at *
 generalize (pAt r 1).2=s' at *
 have hq1:q.tmod 2=q%2:=by rw[Int.tmod_eq_emod_of_nonneg (by omega)]
 clear hc h1i hr0
 by_cases h1:q%2=1
 ·have hF:=HO.out h1
  subst hF
  have hS:=fun w=>nY e s w he hb0.2
  generalize t2 e s=z at *
  have h1b:(q%2==1)=true:=by simpa using h1
  clear HO HP HU J9 HB1
  go_enter Tryz.func231,Tryz.ntmps231
  go_wp2_with fail
  refine(hS _).mono ?_
  rintro en w1 ⟨rfl,hb1⟩
  clear hS
  go_wp2
  go_ret2
  exact⟨rfl,ak hb1⟩
 ·have h1b:(q%2==1)=false:=by simpa using h1
  by_cases h2:1<n/\q'=q+1
  ·have hF:=HP.out h2.1 h1 h2.2
   subst hF
   obtain⟨c1,d1⟩:=J9.out h2.1
   have hb1:=HB1.out h2.1
   simp only[Nat.one_mul]at c1 d1
   have hS:=fun w=>nY s s' w hb0.2 hb1.2
   generalize t2 s s'=z at *
   have h21:1<n:=h2.1
   have h22:(1:Int)<(n:Int):=by omega
   have h2b:(q'==q+1)=true:=by simpa using h2.2
   have X7:decide ((1:Int)<(n:Int))=true:=by simpa using h22
   have Ym:IntKind.i64.wrap (q+1)=q+1:=by rw[IntKind.wrap_i64];omega
   clear HO HP HU J9 HB1 h2
   go_enter Tryz.func231,Tryz.ntmps231
   go_wp2
   go_quiet (fail)
   go_wp2
   have W0:Below w.heap.size w ((w.alloc (.cells #[.int .i64 q,.int .i64 s] 273)).drewN nq):=below_drewN (aj _) _
   have a1:=After.cell (W:=(w.alloc (.cells #[.int .i64 q,.int .i64 s] 273)).drewN nq) (fG (heap_alloc_new w (.cells #[.int .i64 q,.int .i64 s] 273))).2.1
   have a2:=After.cell ((W0.cell (p:=⟨b,off+2+1,none⟩) hb).trans d1)
   have a3:∀n:After ((w.alloc (.cells #[.int .i64 q,.int .i64 s] 273)).drewN nq),n.w.cell? ⟨b,off+3,none⟩=some (.int .i64 s'):=a2
   have hne:=After.ne ((w.alloc (.cells #[.int .i64 q,.int .i64 s] 273)).drewN nq)
   have HW0:Hid (Below w.heap.size w ((w.alloc (.cells #[.int .i64 q,.int .i64 s] 273)).drewN nq)):=W0
   clear W0
   refine au (by kernel_rfl) (by kernel_rfl) ?_
   repeat(first | go_big_quiet_skip |(go_big_quiet_want;go_big_quiet_op;first | go_big_quiet_on | go_big_quiet_call (first |(go_at_call 223;refine(hS _).mono ?_;rintro e wq ⟨rfl,hbq⟩;exact⟨rfl,aA (ah (After.b _) hbq)⟩))))
   refine wpQuiet_nil ?_
   rintro _ ⟨n2,rfl⟩
   have hB2:Below w.heap.size w n2.w:=ah HW0.out n2.b
   go_wp2
   go_ret2
   exact⟨rfl,hB2⟩
  ·have hF:=HU.out h1 h2
   subst hF
   have hS:=fun w=>nY s e w hb0.2 he
   generalize t2 s e=z at *
   by_cases h21:1<n
   ·obtain⟨c1,d1⟩:=J9.out h21
    simp only[Nat.one_mul]at c1 d1
    have h22:(1:Int)<(n:Int):=by omega
    have h2b:(q'==q+1)=false:=by simpa using fun h=>h2 ⟨h21,h⟩
    have X7:decide ((1:Int)<(n:Int))=true:=by simpa using h22
    have Ym:IntKind.i64.wrap (q+1)=q+1:=by rw[IntKind.wrap_i64];omega
    clear HO HP HU J9 HB1 h2 d1
    go_enter Tryz.func231,Tryz.ntmps231
    go_wp2
    go_quiet (fail)
    go_wp2_with fail
    refine(hS _).mono ?_
    rintro en w1 ⟨rfl,hb1⟩
    clear hS
    go_wp2
    go_ret2
    exact⟨rfl,ah (below_drewN (aj _) _) hb1⟩
   ·have h22:¬(1:Int)<(n:Int):=by omega
    have X7:decide ((1:Int)<(n:Int))=false:=by simpa using h22
    clear HO HP HU J9 HB1 h2
    go_enter Tryz.func231,Tryz.ntmps231
    go_wp2
    go_quiet (fail)
    go_wp2_with fail
    refine(hS _).mono ?_
    rintro en w1 ⟨rfl,hb1⟩
    clear hS
    go_wp2
    go_ret2
    exact⟨rfl,ah (below_drewN (aj _) _) hb1⟩
theorem drop_at{r:Prl}{j k:Nat}:pAt (r.drop j) k=pAt r (j+k):=by
 unfold pAt
 rw[List.getD_eq_getElem?_getD,List.getD_eq_getElem?_getD,List.getElem?_drop]
theorem Pls.drop{r:Prl}(h:Pls r)(j:Nat):Pls (r.drop j):=fun p hp=>h p (List.mem_of_mem_drop hp)
theorem IK(v:Value)(r:Prl)(e:Int)(w:World)(hv:Prs w v r)(hcap:∀a n c,v = .slice a n c->n<=c)(hn:r.length<=12)(he:0<=e/\e<=65520)(hR:Pls r):
  Calls Tryz.prog 222 #[v,.int .i64 e] w fun en w'=>∃v',en = .returned v'/\w'.ownsRow w.heap.size 273 2 v' (abv e r).length ((fl (abv e r)).map (Value.int .i64))/\Below w.heap.size w w':=by
 obtain⟨i0,hi,hz0,hz1,hz2⟩:=info_parts Tryz.PN
 have HV:Hid (Prs w v r):=hv
 obtain⟨ad,c,rfl⟩:=hv.shape
 have hcp:=hcap _ _ _ rfl
 have HR:Hid (Pls r):=hR
 have HC:Hid (r.length<=c):=hcp
 have Zm:Hid ([]++abv e (r.drop 0)=abv e r):=by show _=_;simp
 have HN:Hid (r.length<=12):=hn
 have ZK:Hid (Prs w (.slice ad r.length c) (r.drop 0)):=hv
 have e0:Hid ((r.drop 0).length=r.length):=by show _=_;simp
 generalize r.length=n at *
 clear hv hcap hR hcp HV hn
 go_enter Tryz.func222,Tryz.ntmps222
 go_wp2
 go_loopw [0,5] (fun u a wr=>∃(j:Nat)(ac:Prl)(ad:Option Addr)(m c:Nat),u = .slice ad m c/\m<=c/\Hid ((r.drop j).length=m)/\m<=12/\Hid (Prs w u (r.drop j))/\Hid (ac++abv e (r.drop j)=abv e r)/\ac.length+m<=12/\Hid (Below w.heap.size w wr)/\Hid (wr.ownsRow w.heap.size 273 2 a ac.length ((fl ac).map (Value.int .i64)))) (fun u _ _=>(match u with | .slice _ m _=>m | _=>0))
 case atStart=>exact⟨0,[],ad,n,c,rfl,HC.out,e0,HN.out,ZK,Zm,by have:=HN.out;simp;omega,Below.refl _ _,World.ownsRow_nil _ _ _ _⟩
 case round=>
  obtain⟨j,ac,ad,m,c,rfl,hmc,HM,hm,HP,HA,hac,HB,HO⟩:=hrel
  obtain⟨a',c',rfl⟩:=gG HO.out
  by_cases hm0:0<m
  ·have Yi:(0:Int)<(m:Int):=by omega
   obtain⟨-,b,off,rfl,hb,hc⟩:=HP.out.at (by rw[HM.out];exact hm0)
   rw[HM.out]at hc
   obtain⟨HA1,hu1,hu2⟩:=V7 e (r:=r.drop j) (by rw[HM.out];exact hm0)
   rw[HM.out]at hu2
   have hF:=fun w' h=>Eo b off c m (r.drop j) e w' HM.out.symm hm0 hm (Nat.lt_of_lt_of_le hb (Below.size (B:=w.heap.size) h)) he (HR.out.drop j) (fun k hk=>⟨(h.cell (p:=⟨b,off+k*2,none⟩) hb).trans (hc k hk).1,(h.cell (p:=⟨b,off+k*2+1,none⟩) hb).trans (hc k hk).2⟩)
   have hb0:=(HR.out.drop j).at (k:=0) (by rw[HM.out];exact hm0)
   have c0:∀w',Below w.heap.size w w'->w'.cell? ⟨b,off,none⟩=some (.int .i64 (pAt (r.drop j) 0).1):=fun w' h=>by
    have:=(h.cell (p:=⟨b,off+0*2,none⟩) hb).trans (hc 0 hm0).1
    simpa using this
   have aH:Hid (∀k,k<m->w.cell? ⟨b,off+k*2,none⟩=some (.int .i64 (pAt (r.drop j) k).1)/\w.cell? ⟨b,off+k*2+1,none⟩=some (.int .i64 (pAt (r.drop j) k).2)):=hc
   generalize (fp e (r.drop j)).1=z at *
   generalize (fp e (r.drop j)).2=u at *
   generalize (pAt (r.drop j) 0).1=q at *
   have HA2:Hid ((ac++[(q/2,z)])++abv e (r.drop (j+u))=abv e r):=by
    show _=_
    rw[←HA.out,HA1,List.drop_drop,List.append_assoc]
    rfl
   have hq1:q.tdiv 2=q/2:=by rw[Int.tdiv_eq_ediv_of_nonneg (by omega)]
   have Ym:IntKind.i64.wrap (q/2)=q/2:=by rw[IntKind.wrap_i64];omega
   clear hc HA1
   go_wp2_with fail
   refine(hF _ HB.out).mono ?_
   rintro en w1 ⟨rfl,hb1⟩
   have hB1:=ah HB.out hb1
   have hc0:=c0 _ hB1
   have ho1:=own_below HO.out hb1
   have hwz:=hB1.size
   have aa8:b<w1.heap.size:=by omega
   clear hF c0 hb1 HO
   have hui:(u:Int)<=(m:Int):=by omega
   have hu0:(0:Int)<=(u:Int):=by omega
   have hcl:ac.length<=12:=by omega
   go_wp2_with (at_builtin;refine wpList_append_own _ rfl _ _ 269 rfl w.heap.size 273 i0 (.agg #[.int .i64 0,.int .i64 0]) 2 16 Tryz.underlying269 hi hz0 hz1 hz2 rfl (by decide) _ _ _ rfl (ho1.alloc _) ⟨w1.heap.size,0,none⟩ 1 1 [.int .i64 (q/2),.int .i64 z] rfl rfl (World.news_of_block (heap_alloc_new _ _)) (ints_oneCell .i64 [q/2,z]) (by unfold maxLen;omega) (by omega) (by simp;omega) ?_)
   intro v' w2 hown' hgrow _
   have hb2:Below w.heap.size w w2:=(hB1.alloc (by omega) _).grown hgrow (by simp;omega) (fun k hk=>(ho1.lt k hk).1)
   have dA:=tZ hown'
   clear hgrow hown' ho1
   have ZF:Hid (Prs w (.slice (if c=u then some ⟨b,off,none⟩else some ⟨b,off+u*2,none⟩) (m - u) (c - u)) (r.drop (j+u))):=by
    have hl:(r.drop (j+u)).length=m - u:=by rw[←List.drop_drop,List.length_drop,HM.out]
    by_cases hmu:m=u
    ·left
     exact⟨List.eq_nil_of_length_eq_zero (by rw[hl];omega),_,_,by rw[hmu,Nat.sub_self]⟩
    ·right
     rw[if_neg (by omega)]
     refine⟨b,off+u*2,c - u,by rw[hl],hb,fun k hk=> ?_⟩
     rw[hl]at hk
     have h3:=aH.out (u+k) (by omega)
     rw[drop_at]at h3
     rw[drop_at,Nat.add_assoc j u k,show off+u*2+k*2=off+(u+k)*2 by omega]
     exact h3
   have ZA:Hid ((r.drop (j+u)).length=m - u):=by show _=_;rw[←List.drop_drop,List.length_drop,HM.out]
   go_wp2
   go_roundw
   case rel=>exact⟨j+u,ac++[(q/2,z)],_,m - u,c - u,rfl,by omega,ZA,by omega,ZF,HA2,by simp;omega,hb2,dA⟩
   case measure=>show m - u<m;omega
  ·have hm0:m=0:=by omega
   subst hm0
   have e1:ac=abv e r:=by
    have:=HA.out
    rw[List.eq_nil_of_length_eq_zero HM.out]at this
    simpa [abv]using this
   subst e1
   go_wp2
   go_ret
   exact⟨_,rfl,HO.out,HB.out⟩
end U
end Go.Proofs.YtmmcgjacojgeaaaGreat
