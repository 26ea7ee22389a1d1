/- Joined: what the texts behind it need. -/
import Derived.Test.YtmnfokgllcdiiaaGreatYBA
import Derived.Deep.RegionHeld3
import Derived.Deep.AppendLies
set_option maxRecDepth 100000
set_option maxHeartbeats 4000000
namespace Go.Proofs.YtmnfokgllcdiiaaGreat
open Go.RowKit
namespace U
def dY(s:ByteArray):Int:=bf (bl (dJ s))%256
def H8(s:ByteArray):Int:=if aH s=0 then dY s else 0
theorem xX{s:ByteArray}(h:aH s=0):H8 s=dY s:=by simp[H8,h]
theorem Ur{s:ByteArray}(h:¬aH s=0):H8 s=0:=by simp[H8,h]
theorem LV(s:ByteArray):0<=dY s/\dY s<256:=by unfold dY;omega
theorem Bh(x y:Int)(w:World):(Instr.field 89 (.agg #[.int .i64 x,.int .i64 y]) 1).run Tryz.prog w = .ok (.int .i64 y) w:=by kernel_rfl
theorem Iw(s:ByteArray):aH s=0∨aH s=1∨aH s=2∨aH s=5:=by
 unfold aH
 split
 ·simp
 ·split
  ·simp
  ·split
   ·simp
   ·split<;>simp
theorem lW(s:ByteArray)(w:World)(hs:s.size<=12):
  Calls Tryz.prog 72 #[.string s] w fun e w'=>e = .returned (.int .i64 (dY s))/\Below w.heap.size w w':=by
 have kc:=fun (w:World)=>run_bytes_of_string (P:=Tryz.prog) w 9 243 5 (dJ s) Tryz.underlying9 Tryz.underlying243 Tryz.underlying5
 have hS:=fun v w h=>lX v (bl (dJ s)) w h (GI _) (by rw[oI,mY];omega)
 have hsb:=nV (bl (dJ s))
 unfold dY
 have HF:=fun w=>tZ s w hs
 generalize dJ s=t at *
 obtain⟨x,hx⟩:∃x,x=bf (bl t):=⟨_,rfl⟩
 rw[←hx]at hS hsb ⊢
 clear hx
 go_enter Tryz.func72,Tryz.ntmps72
 go_wp2_with fail
 refine(HF _).mono ?_
 rintro e w1 ⟨rfl,hb1⟩
 clear HF
 go_wp2_with fail
 generalize grownCap w1 t.size 0 5=cap
 have hfz:t.size<=(bytesRow t cap).size:=by simp[bytesRow]
 generalize (bytesRow t cap).size=bz at *
 have hci:=fun fz hfz=>(Ei w1 t 5 cap fz hfz).below ((Below.refl _ _).drew)
 refine(hS _ _ (hci _ hfz)).mono ?_
 rintro e w2 ⟨rfl,rfl⟩
 go_wp2
 go_ret
 exact⟨rfl,ah hb1 (aj _).drew⟩
theorem o8(s:ByteArray)(w:World)(hs:s.size<=1048576):
  Calls Tryz.prog 77 #[.string s] w fun e w'=>iO w (aH s) (H8 s) e w':=by
 have hL:=fun w=>pJ s w hs
 by_cases h:aH s=0
 ·have hfs:oh s=dJ s:=by unfold oh;rw[if_pos h]
  have hle:(dJ s).size<=12:=by rw[mY];exact iT h
  rw[xX h,h]
  rw[h,hfs]at hL
  unfold dY
  have kc:=fun (w:World)=>run_bytes_of_string (P:=Tryz.prog) w 9 243 5 (dJ s) Tryz.underlying9 Tryz.underlying243 Tryz.underlying5
  have hsm:=uQ (bs:=bl (dJ s)) (by rw[oI];omega)
  have hS:=fun v w h=>iY v (bl (dJ s)) w h (GI _) (by rw[oI];omega)
  rw[hsm.1,hsm.2]at hS
  have hsb:=nV (bl (dJ s))
  generalize dJ s=t at *
  obtain⟨x,hx⟩:∃x,x=bf (bl t):=⟨_,rfl⟩
  rw[←hx]at hS hsb ⊢
  have hfi:=Bh
  clear hx h hfs hsm
  go_enter Tryz.func77,Tryz.ntmps77
  go_wp2_with fail
  refine(hL _).mono ?_
  rintro e w1 ⟨rfl,hb1⟩
  obtain⟨hc1,hf1⟩:=MP hb1
  have hz1:w.heap.size<w1.heap.size:=by have:=hb1.size;simp at this;omega
  have R1:w1.heap[w.heap.size]? = some (.cells #[.int .i64 0,.int .i64 0] 89 (0,0)):=(hb1.block w.heap.size (by simp)).trans (heap_alloc_new w _)
  have hB1:=ak hb1
  clear hL hb1
  go_wp2_with fail
  generalize grownCap (w1.alloc (.cells #[.int .i64 0,.string t] 249)) t.size 0 5=cap
  have hfz:t.size<=(bytesRow t cap).size:=by simp[bytesRow]
  generalize (bytesRow t cap).size=bz at *
  have hci:=fun fz hfz=>(Ei (w1.alloc (.cells #[.int .i64 0,.string t] 249)) t 5 cap fz hfz).below ((Below.refl _ _).drew)
  simp only[World.size_alloc]at hci
  refine(hS _ _ (hci _ hfz)).mono ?_
  rintro e w2 ⟨rfl,hb2⟩
  have hz2:w.heap.size<(w1.alloc (.cells #[.int .i64 0,.string t] 249)).heap.size:=by simp;omega
  have hN:=((aj (w:=w1.alloc (.cells #[.int .i64 0,.string t] 249)) (.cells (bytesRow t cap) 5 (bz,bz+1)))).drew
  have VQ:=ah hN hb2
  obtain⟨hc0,hc1,hf0,hf1⟩:=bQ ((VQ.block w.heap.size hz2).trans ((Below.heap_alloc w1 (.cells #[.int .i64 0,.string t] 249) _ hz1).trans R1))
  have hB2:=ah (ah hB1 (aj _)) VQ
  clear hS hci hb2 hN VQ R1 hB1
  go_wp2
  exact bodyPost_ret (v:= .agg #[.int .i64 0,.int .i64 (x%256)]) (by simp[results,Tryz.results77,go_sem,hc0,hc1]) rfl ⟨rfl,(hB2.setCell (Nat.le_refl _) _).setCell (Nat.le_refl _) _⟩
 ·rw[Ur h]
  have hfs:oh s=⟨#[]⟩:=by unfold oh;rw[if_neg h]
  rw[hfs]at hL
  have hcd:=Iw s
  generalize aH s=code at *
  rcases hcd with rfl | rfl | rfl | rfl
  ·exact absurd rfl h
  all_goals
   go_enter Tryz.func77,Tryz.ntmps77
   go_wp2_with fail
   refine(hL _).mono ?_
   rintro e w1 ⟨rfl,hb1⟩
   have hz1:w.heap.size<w1.heap.size:=by have:=hb1.size;simp at this;omega
   obtain⟨hc0,hc1,hf0,hf1⟩:=bQ ((hb1.block w.heap.size (by simp)).trans (heap_alloc_new w _))
   have hB1:=ak hb1
   clear hL hb1
   go_wp2
   exact bodyPost_ret (v:= .agg #[.int .i64 _,.int .i64 0]) (by simp[results,Tryz.results77,go_sem,hc0,hc1,hz1]) rfl ⟨rfl,((hB1.setCell (Nat.le_refl _) _).setCell (Nat.le_refl _) _).alloc (by simp;omega) _⟩
structure Rc where
 l:ByteArray
 v:Int
 o:Int
 p:Int
abbrev Rcl:=List Rc
def rcZ:Rc:=⟨⟨#[]⟩,0,0,0⟩
def rAt(l:Rcl)(j:Nat):Rc:=l.getD j rcZ
theorem qU{l:Rcl}{j:Nat}(h:j<l.length):rAt l j=l[j]:=by simp[rAt,List.getD_eq_getElem?_getD,List.getElem?_eq_getElem h]
theorem sZ{l:Rcl}{j:Nat}(h:j<l.length):rAt l j∈l:=by rw[qU h];exact List.getElem_mem h
def Rc.c(r:Rc):Int:=recC r.l r.v r.o r.p
def Rc.k(r:Rc):Int:=dY r.l
theorem Rc.kbd(r:Rc):0<=r.k/\r.k<256:=LV r.l
def iW(l:Rcl):Nat->Int
 | 0=>-1
 | j+1=>(rAt l j).k
def dH(l:Rcl):Nat->Nat->Int
 | 0,_=>0
 | f+1,i=>if(rAt l i).c=0 then(if(rAt l i).k<=iW l i then 1 else dH l f (i+1))else(rAt l i).c
theorem zk{l:Rcl}{f i:Nat}(h:¬(rAt l i).c=0):dH l (f+1) i=(rAt l i).c:=by rw[dH,if_neg h]
theorem CO{l:Rcl}{f i:Nat}(h:(rAt l i).c=0)(h1:(rAt l i).k<=iW l i):dH l (f+1) i=1:=by rw[dH,if_pos h,if_pos h1]
theorem CP{l:Rcl}{f i:Nat}(h:(rAt l i).c=0)(h1:¬(rAt l i).k<=iW l i):dH l (f+1) i=dH l f (i+1):=by rw[dH,if_pos h,if_neg h1]
def aI(l:Rcl):Int:=if 12<l.length then 2 else dH l l.length 0
theorem vT{l:Rcl}(h:12<l.length):aI l=2:=if_pos h
theorem vU{l:Rcl}(h:¬ 12<l.length):aI l=dH l l.length 0:=if_neg h
structure iZ(l:Rcl):Prop where
 len:l.length<=12
 ok:∀j,j<l.length->(rAt l j).c=0
 up:∀j,j<l.length->iW l j<(rAt l j).k
theorem Az{l:Rcl}:∀f i,dH l f i=0->∀j,i<=j->j<i+f->(rAt l j).c=0/\iW l j<(rAt l j).k
 | 0,i,_,j,h1,h2=>by omega
 | f+1,i,h,j,h1,h2=>by
  rw[dH]at h
  by_cases hc:(rAt l i).c=0
  ·rw[if_pos hc]at h
   by_cases hk:(rAt l i).k<=iW l i
   ·rw[if_pos hk]at h;omega
   ·rw[if_neg hk]at h
    by_cases hj:j=i
    ·subst hj;exact⟨hc,by omega⟩
    ·exact Az f (i+1) h j (by omega) (by omega)
  ·rw[if_neg hc]at h;omega
theorem dP{l:Rcl}(h:aI l=0):iZ l:=by
 by_cases h1:12<l.length
 ·rw[vT h1]at h;omega
 ·rw[vU h1]at h
  exact⟨by omega,fun j hj=>(Az _ _ h j (Nat.zero_le _) (by omega)).1,fun j hj=>(Az _ _ h j (Nat.zero_le _) (by omega)).2⟩
theorem iZ.rise{l:Rcl}(h:iZ l):∀j,j<l.length->∀i,i<j->(rAt l i).k<(rAt l j).k:=by
 intro j
 induction j with
 | zero=>intro _ i hi;omega
 | succ j ih=>
  intro hj i hi
  have h1:(rAt l j).k<(rAt l (j+1)).k:=h.up (j+1) hj
  by_cases e:i=j
  ·subst e;exact h1
  ·have:=ih (by omega) i (by omega)
   omega
theorem iZ.RZ{l:Rcl}(h:iZ l){j:Nat}(hj:j<l.length):pO (rAt l j).l (rAt l j).v (rAt l j).o (rAt l j).p:=yh (h.ok j hj)
theorem Rc.wU{r:Rc}(h:r.c=0):aH r.l=0:=(yh h).lab
theorem Rc.nU{r:Rc}(h:r.c=0):r.l.size<=12:=(yh h).small
structure fP(w:World)(b off:Nat)(r:Rc):Prop where
 c0:w.cell? ⟨b,off,none⟩=some (.string r.l)
 c1:w.cell? ⟨b,off+1,none⟩=some (.int .i64 r.v)
 c2:w.cell? ⟨b,off+2,none⟩=some (.int .i64 r.o)
 c3:w.cell? ⟨b,off+3,none⟩=some (.int .i64 r.p)
theorem fP.below{w w':World}{b off N:Nat}{r:Rc}(h:fP w b off r)(hb:Below N w w')(hlt:b<N):fP w' b off r:=
 ⟨(hb.cell (p:=⟨b,off,none⟩) hlt).trans h.c0,(hb.cell (p:=⟨b,off+1,none⟩) hlt).trans h.c1,(hb.cell (p:=⟨b,off+2,none⟩) hlt).trans h.c2,(hb.cell (p:=⟨b,off+3,none⟩) hlt).trans h.c3⟩
theorem fP.lt{w:World}{b off:Nat}{r:Rc}(h:fP w b off r):b<w.heap.size:=by
 rcases hh:w.heap[b]? with _ | o
 ·have:=h.c0;simp[World.cell?,hh]at this
 ·exact(Array.getElem?_eq_some_iff.1 hh).1
theorem fP.new(w:World)(r:Rc)(t:TypeId):fP (w.alloc (.cells #[.string r.l,.int .i64 r.v,.int .i64 r.o,.int .i64 r.p] t)) w.heap.size 0 r:=by
 have hh:=heap_alloc_new w (.cells #[.string r.l,.int .i64 r.v,.int .i64 r.o,.int .i64 r.p] t)
 constructor<;>(unfold World.cell?;rw[hh];rfl)
def Rcs(w:World)(v:Value)(l:Rcl):Prop:=
 (l=[]/\∃a c,v = .slice a 0 c)∨∃b off c,v = .slice (some ⟨b,off,none⟩) l.length c/\b<w.heap.size/\∀j,j<l.length->fP w b (off+j*4) (rAt l j)
theorem Rcs.below{w w':World}{v:Value}{l:Rcl}(h:Rcs w v l)(hb:Below w.heap.size w w'):Rcs w' v l:=by
 rcases h with h |⟨b,off,c,rfl,hlt,hc⟩
 ·exact Or.inl h
 ·exact Or.inr ⟨b,off,c,rfl,Nat.lt_of_lt_of_le hlt hb.size,fun j hj=>(hc j hj).below hb hlt⟩
theorem Rcs.shape{w:World}{v:Value}{l:Rcl}(h:Rcs w v l):∃a c,v = .slice a l.length c:=by
 rcases h with⟨rfl,a,c,rfl⟩ |⟨b,off,c,rfl,_⟩
 ·exact⟨a,c,rfl⟩
 ·exact⟨_,c,rfl⟩
theorem Rcs.at{w:World}{a:Option Addr}{n c:Nat}{l:Rcl}(h:Rcs w (.slice a n c) l)(h0:0<l.length):n=l.length/\∃b off,a=some ⟨b,off,none⟩/\b<w.heap.size/\∀j,j<l.length->fP w b (off+j*4) (rAt l j):=by
 rcases h with⟨rfl,_⟩ |⟨b,off,c',e,h1,h2⟩
 ·simp at h0
 ·cases e
  exact⟨rfl,b,off,rfl,h1,h2⟩
theorem Rcs.nil(w:World)(a:Option Addr)(c:Nat):Rcs w (.slice a 0 c) []:=Or.inl ⟨rfl,a,c,rfl⟩
def flR(l:Rcl):List Value:=l.flatMap fun r=>[.string r.l,.int .i64 r.v,.int .i64 r.o,.int .i64 r.p]
theorem Ul(l:Rcl):(flR l).length=l.length*4:=by
 unfold flR
 induction l with
 | nil=>rfl
 | cons p t ih=>rw[List.flatMap_cons,List.length_append,ih];simp;omega
theorem Pj(l:Rcl):∀(j:Nat),j<l.length->(flR l)[j*4]? = some (.string (rAt l j).l)/\(flR l)[j*4+1]? = some (.int .i64 (rAt l j).v)/\(flR l)[j*4+2]? = some (.int .i64 (rAt l j).o)/\(flR l)[j*4+3]? = some (.int .i64 (rAt l j).p):=by
 induction l with
 | nil=>intro j h;simp at h
 | cons p t ih=>
  intro j h
  unfold flR
  rw[List.flatMap_cons]
  cases j with
  | zero=>simp[rAt]
  | succ j=>
   have:=ih j (by simpa using h)
   unfold flR at this
   rw[show(j+1)*4=j*4+1+1+1+1 by omega]
   simpa [rAt]using this
theorem L8{w:World}{B:Nat}{e:TypeId}{v:Value}{l:Rcl}(h:w.ownsRow B e 4 v l.length (flR l)):Rcs w v l:=by
 have h0:=h
 rcases h.2 with⟨rfl,hn⟩ |⟨g,cap,cur,rfl,hB,hg,_⟩
 ·left;exact⟨List.eq_nil_of_length_eq_zero hn,none,0,rfl⟩
 ·right
  refine⟨g,0,cap,rfl,(Array.getElem?_eq_some_iff.1 hg).1,fun j hj=> ?_⟩
  have:=Pj l j hj
  rw[Nat.zero_add]
  exact⟨(h0.cellAt (j*4) (by omega)).trans this.1,(h0.cellAt (j*4+1) (by omega)).trans this.2.1,(h0.cellAt (j*4+2) (by omega)).trans this.2.2.1,(h0.cellAt (j*4+3) (by omega)).trans this.2.2.2⟩
theorem jT{w:World}{g:Nat}{x y z u:Value}{t:TypeId}(h:w.heap[g]? = some (.cells #[x,y,z,u] t)):w.cell? ⟨g,0,none⟩=some x/\w.cell? ⟨g,1,none⟩=some y/\w.cell? ⟨g,2,none⟩=some z/\w.cell? ⟨g,3,none⟩=some u:=by
 refine⟨?_, ?_, ?_, ?_⟩<;>(unfold World.cell?;rw[h];rfl)
def Lbs(l:Rcl):Prop:=∀r∈l,r.l.size<=1048576
theorem Lbs.at{l:Rcl}(h:Lbs l){j:Nat}(hj:j<l.length):(rAt l j).l.size<=1048576:=h _ (sZ hj)
theorem iZ.lbs{l:Rcl}(h:iZ l):Lbs l:=fun r hr=>by
 obtain⟨j,hj,rfl⟩:=List.mem_iff_getElem.1 hr
 have:=(h.RZ hj).small
 rw[qU hj]at this
 omega
theorem pG(l:ByteArray)(v o p:Int)(w:World)(h:aH l=0):
  Calls Tryz.prog 118 #[dG l v o p] w fun e w'=>e = .returned (.int .i64 (dY l))/\Below w.heap.size w w':=by
 have hs:=iT h
 have hK:=fun w=>o8 l w (by omega)
 rw[xX h,h]at hK
 have hf:=Bh
 unfold dG
 generalize dY l=z at *
 clear h hs
 go_enter Tryz.func118,Tryz.ntmps118
 go_wp2_with fail
 refine(hK _).mono ?_
 rintro e w1 ⟨rfl,hb1⟩
 clear hK
 go_wp2
 go_ret
 exact⟨rfl,ak hb1⟩
theorem qW(b off c n:Nat)(l:Rcl)(w:World)(hn:n<=12)(hb:b<w.heap.size)(hl:∀j,j<n->(rAt l j).l.size<=1048576)
  (hc:∀j,j<n->fP w b (off+j*4) (rAt l j)) :
  Calls Tryz.prog 109 #[.agg #[.slice (some ⟨b,off,none⟩) n c]] w fun e w'=>e = .returned (.int .i64 (dH l n 0))/\Below w.heap.size w w':=by
 obtain⟨q,hq⟩:∃q,q=dH l n 0:=⟨_,rfl⟩
 have HQ:Hid (dH l n 0=q):=hq.symm
 rw[←hq]
 clear hq
 go_enter Tryz.func109,Tryz.ntmps109
 go_wp2
 go_loopw [3,15] (fun u i wr=>∃k:Nat,k<=n/\i = .int .i64 k/\u = .int .i64 (iW l k)/\Hid (Below w.heap.size w wr)/\Hid (dH l (n - k) k=q)) (fun _ i _=>n - (intOf i).toNat)
 case atStart=>exact⟨0,Nat.zero_le _,rfl,rfl,aj _,HQ⟩
 case round=>
  obtain⟨k,hk,rfl,rfl,hB,HS⟩:=hrel
  by_cases hkn:k<n
  ·have hki:(k:Int)<(n:Int):=by omega
   have hr:=(hc k hkn).below hB.out hb
   have hI:=fun w=>nN (rAt l k).l (rAt l k).v (rAt l k).o (rAt l k).p w (hl k hkn)
   have ku:Hid (n - k=(n - k - 1)+1):=(by omega:n - k=(n - k - 1)+1)
   have HF:Hid (¬(rAt l k).c=0->q=(rAt l k).c):=(fun h=>by rw[←HS.out,ku.out];exact zk h:¬(rAt l k).c=0->q=(rAt l k).c)
   have HO:Hid ((rAt l k).c=0->(rAt l k).k<=iW l k->q=1):=(fun h h1=>by rw[←HS.out,ku.out];exact CO h h1:(rAt l k).c=0->(rAt l k).k<=iW l k->q=1)
   have HT:Hid ((rAt l k).c=0->¬(rAt l k).k<=iW l k->dH l (n - k - 1) (k+1)=q):=(fun h h1=>by rw[←HS.out,ku.out];exact(CP h h1).symm:(rAt l k).c=0->¬(rAt l k).k<=iW l k->dH l (n - k - 1) (k+1)=q)
   have gV:=fun (h:(rAt l k).c=0) w=>pG (rAt l k).l (rAt l k).v (rAt l k).o (rAt l k).p w (Rc.wU h)
   have HA:Hid (iW l (k+1)=(rAt l k).k):=rfl
   have e1:recC (rAt l k).l (rAt l k).v (rAt l k).o (rAt l k).p=(rAt l k).c:=rfl
   have e2:dY (rAt l k).l=(rAt l k).k:=rfl
   rw[e1]at hI
   rw[e2]at gV
   obtain⟨d0,d1,d2,d3⟩:=hr
   unfold dG at *
   obtain⟨cz,hcz⟩:∃cz,cz=(rAt l k).c:=⟨_,rfl⟩
   rw[←hcz]at hI gV HF HO HT
   generalize (rAt l k).k=kz at *
   generalize iW l k=az at *
   generalize (rAt l k).l=x0 at *
   generalize (rAt l k).v=x1 at *
   generalize (rAt l k).o=x2 at *
   generalize (rAt l k).p=x3 at *
   clear hc e1 e2 hcz hl
   obtain⟨W,hW⟩:∃W,W=wr.alloc (.cells #[.string x0,.int .i64 x1,.int .i64 x2,.int .i64 x3] 46):=⟨_,rfl⟩
   have HW:Hid _:=hW.symm
   have Ec:Hid (Below w.heap.size w W):=(by rw[hW];exact hB.out.alloc hB.out.size _:Below w.heap.size w W)
   have Ed:Hid (W.heap[wr.heap.size]? = some (.cells #[.string x0,.int .i64 x1,.int .i64 x2,.int .i64 x3] 46)):=(by rw[hW];exact heap_alloc_new wr _:W.heap[wr.heap.size]? = some (.cells #[.string x0,.int .i64 x1,.int .i64 x2,.int .i64 x3] 46))
   obtain⟨g0,g1,g2,g3⟩:=jT Ed.out
   have hbr:b<wr.heap.size:=Nat.lt_of_lt_of_le hb hB.out.size
   clear hW
   by_cases hc0:cz=0
   ·subst hc0
    have hK2:=gV rfl
    have kZ:Hid (kz<=az->q=1):=HO.out rfl
    have HT2:Hid (¬kz<=az->dH l (n - k - 1) (k+1)=q):=HT.out rfl
    clear HF HO HT gV
    go_wp2_with fail
    rw[HW.out]
    refine(hI _).mono ?_
    rintro e w1 ⟨rfl,hb1⟩
    have hlt:wr.heap.size<W.heap.size:=(Array.getElem?_eq_some_iff.1 Ed.out).1
    obtain⟨j0,j1,j2,j3⟩:=jT ((hb1.block wr.heap.size hlt).trans Ed.out)
    have HB1:Hid (Below w.heap.size w w1):=ah Ec.out hb1
    clear hI hb1
    go_wp2_with fail
    refine(hK2 _).mono ?_
    rintro e w2 ⟨rfl,hb2⟩
    have HB2:Hid (Below w.heap.size w w2):=ah HB1.out hb2
    clear hK2 hb2
    by_cases hle:kz<=az
    ·have XL:=kZ.out hle
     have gG:Hid (q=1):=XL
     clear XL
     go_wp2
     go_ret
     exact⟨aG gG.out.symm,HB2.out⟩
    ·have gG:Hid (dH l (n - k - 1) (k+1)=q):=HT2.out (by omega)
     go_wp2
     go_roundw
     case rel=>exact⟨k+1,by omega,by go_num,by rw[HA.out],HB2,by rw[show n - (k+1)=n - k - 1 by omega];exact gG⟩
     case measure=>simp[intOf];omega
   ·have hcn:(cz != 0)=true:=by simpa using hc0
    have gG:Hid (q=cz):=HF.out hc0
    clear HF HO HT gV hc0
    go_wp2_with fail
    rw[HW.out]
    refine(hI _).mono ?_
    rintro e w1 ⟨rfl,hb1⟩
    have HB1:Hid (Below w.heap.size w w1):=ah Ec.out hb1
    clear hI hb1
    go_wp2
    go_ret
    exact⟨aG gG.out.symm,HB1.out⟩
  ·have hkn:k=n:=by omega
   subst hkn
   have e0:Hid (q=0):=(by rw[←HS.out,Nat.sub_self];rfl:q=0)
   clear hc
   go_wp2
   go_ret
   exact⟨aG e0.out.symm,hB.out⟩
theorem aY(v:Value)(l:Rcl)(w:World)(hv:Rcs w v l)(hl:Lbs l)(hx:l.length<=1099511627776):
  Calls Tryz.prog 109 #[.agg #[v]] w fun e w'=>e = .returned (.int .i64 (aI l))/\Below w.heap.size w w':=by
 obtain⟨a,c,rfl⟩:=hv.shape
 by_cases h:12<l.length
 ·rw[vT h]
  generalize l.length=n at *
  clear hv
  go_enter Tryz.func109,Tryz.ntmps109
  go_wp2
  go_ret
  exact⟨rfl,aj _⟩
 ·rw[vU h]
  by_cases h0:0<l.length
  ·obtain⟨_,b,off,rfl,hb,hc⟩:=hv.at h0
   exact qW b off c l.length l w (by omega) hb (fun j hj=>hl.at hj) hc
  ·have e1:l=[]:=List.eq_nil_of_length_eq_zero (by omega)
   subst e1
   simp only[List.length_nil]
   have e2:dH [] 0 0=0:=rfl
   rw[e2]
   clear hv h0 hx h e2
   go_enter Tryz.func109,Tryz.ntmps109
   go_wp2
   refine wp_loop_rounds 1 ?_;rw[rounds_succ]
   go_wp2
   go_ret
   exact⟨rfl,aj _⟩
theorem NS(g off:Nat)(l:ByteArray)(v o p:Int)(w:World)(h:fP w g off ⟨l,v,o,p⟩)(hs:l.size<=1048576):
  Calls Tryz.prog 137 #[.pointer (some ⟨g,off,none⟩)] w fun e w'=>e = .returned (.int .i64 (recC l v o p))/\Below w.heap.size w w':=by
 have hL:=fun w=>yU l w hs
 have hA:=Cc (l:=l) (v:=v) (o:=o) (p:=p)
 have hF:=EF (l:=l) (v:=v) (o:=o) (p:=p)
 have hR:=Ce (l:=l) (v:=v) (o:=o) (p:=p)
 have hK:=Md (l:=l) (v:=v) (o:=o) (p:=p)
 have hsm:=iT (s:=l)
 generalize recC l v o p=rc at *
 generalize aH l=c at *
 by_cases h0:c=0
 ·subst h0
  have h12:=hsm rfl
  have HF:Hid (gK l=false->rc=1):=hF rfl
  have HR:Hid (gK l=true->jY v o p=false->rc=3):=hR rfl
  have HK:Hid (gK l=true->jY v o p=true->rc=0):=hK rfl
  have F6:Hid (((dJ l).toList==l.toList)=gK l):=rfl
  clear hsm hF hR hK hA
  have hc0:w.cell? ⟨g,off,none⟩=some (.string l):=h.c0
  go_enter Tryz.func137,Tryz.ntmps137
  go_wp2_with fail
  refine(hL _).mono ?_
  rintro e w1 ⟨rfl,hb1⟩
  have h1:=h.below hb1 h.lt
  clear h hc0 hL
  have hc0:w1.cell? ⟨g,off,none⟩=some (.string l):=h1.c0
  have hq0:=After.cell hc0
  have hne:=After.ne w1
  rcases Bool.eq_false_or_eq_true (gK l)with hf | hf
  ·have hfb:=F6.out
   rw[hf]at hfb
   go_wp2_with fail
   refine ay (by kernel_rfl) (by kernel_rfl) ?_
   repeat(first | go_big_quiet_skip |(go_big_quiet_want;go_big_quiet_op;first | go_big_quiet_on | go_big_quiet_call (first |(go_at_call 158;refine(tZ l _ h12).mono ?_;rintro e wq ⟨rfl,hbq⟩;exact⟨rfl,bP (ah (After.b _) hbq)⟩))))
   refine wpQuiet_nil ?_
   rintro _ ⟨n6,rfl⟩
   have hb6:=n6.b
   have h6:=h1.below hb6 h1.lt
   have jm:=ah hb1 hb6
   generalize n6.w=w6 at *
   clear h1 hc0 hq0 hne n6
   have hc1:w6.cell? ⟨g,off+1,none⟩=some (.int .i64 v):=h6.c1
   have hc2:w6.cell? ⟨g,off+2,none⟩=some (.int .i64 o):=h6.c2
   have hc3:w6.cell? ⟨g,off+3,none⟩=some (.int .i64 p):=h6.c3
   clear hfb F6
   rcases Bool.eq_false_or_eq_true (inB v 1 999)with hv | hv
   ·rcases Bool.eq_false_or_eq_true (aJ o)with ho | ho
    ·rcases Bool.eq_false_or_eq_true (aJ p)with hp | hp
     ·go_wp2_with (first |(go_at_call 98;refine(bY _ _ _ _).mono ?_;rintro e wq ⟨rfl,rfl⟩) |(go_at_call 204;refine(lK _ _).mono ?_;rintro e wq ⟨rfl,rfl⟩))
      go_ret
      exact⟨aG (HK.out hf (by simp[jY,hv,ho,hp])).symm,jm⟩
     ·go_wp2_with (first |(go_at_call 98;refine(bY _ _ _ _).mono ?_;rintro e wq ⟨rfl,rfl⟩) |(go_at_call 204;refine(lK _ _).mono ?_;rintro e wq ⟨rfl,rfl⟩))
      go_ret
      exact⟨aG (HR.out hf (by simp[jY,hv,ho,hp])).symm,jm⟩
    ·go_wp2_with (first |(go_at_call 98;refine(bY _ _ _ _).mono ?_;rintro e wq ⟨rfl,rfl⟩) |(go_at_call 204;refine(lK _ _).mono ?_;rintro e wq ⟨rfl,rfl⟩))
     go_ret
     exact⟨aG (HR.out hf (by simp[jY,hv,ho])).symm,jm⟩
   ·go_wp2_with (first |(go_at_call 98;refine(bY _ _ _ _).mono ?_;rintro e wq ⟨rfl,rfl⟩) |(go_at_call 204;refine(lK _ _).mono ?_;rintro e wq ⟨rfl,rfl⟩))
    go_ret
    exact⟨aG (HR.out hf (by simp[jY,hv])).symm,jm⟩
  ·have hfb:=F6.out
   rw[hf]at hfb
   go_wp2_with fail
   refine ay (by kernel_rfl) (by kernel_rfl) ?_
   repeat(first | go_big_quiet_skip |(go_big_quiet_want;go_big_quiet_op;first | go_big_quiet_on | go_big_quiet_call (first |(go_at_call 158;refine(tZ l _ h12).mono ?_;rintro e wq ⟨rfl,hbq⟩;exact⟨rfl,bP (ah (After.b _) hbq)⟩))))
   refine wpQuiet_nil ?_
   rintro _ ⟨n6,rfl⟩
   have hb6:=n6.b
   have jm:=ah hb1 hb6
   generalize n6.w=w6 at *
   clear h1 hc0 hq0 hne n6
   go_wp2
   go_ret
   exact⟨aG (HF.out hf).symm,jm⟩
 ·have h1:(c != 0)=true:=by simpa using h0
  have HA:Hid (rc=c):=hA h0
  clear hA hF hR hK hsm h0
  have hc0:w.cell? ⟨g,off,none⟩=some (.string l):=h.c0
  go_enter Tryz.func137,Tryz.ntmps137
  go_wp2_with fail
  refine(hL _).mono ?_
  rintro e w1 ⟨rfl,hb1⟩
  go_wp2
  go_ret
  exact⟨aG HA.out.symm,hb1⟩
structure MN(l:ByteArray)(k:Int):Prop where
 c:∀w,Calls Tryz.prog 72 #[.string l] w fun e w'=>e = .returned (.int .i64 k)/\Below w.heap.size w w'
theorem TV{l:Rcl}{k:Nat}{x:Int}(h0:0<=x)(h:k=0):iW l k<x:=by subst h;show -1<x;omega
theorem Ir(g og b off c n:Nat)(l:Rcl)(w:World)(hn:n<=12)(hg:g<w.heap.size)(hb:b<w.heap.size)(hl:∀j,j<n->(rAt l j).l.size<=1048576)
  (hD:w.cell? ⟨g,og,none⟩=some (.slice (some ⟨b,off,none⟩) n c)) (hc:∀j,j<n->fP w b (off+j*4) (rAt l j)) :
  Calls Tryz.prog 99 #[.pointer (some ⟨g,og,none⟩)] w fun e w'=>e = .returned (.int .i64 (dH l n 0))/\Below w.heap.size w w':=by
 obtain⟨q,hq⟩:∃q,q=dH l n 0:=⟨_,rfl⟩
 have HQ:Hid (dH l n 0=q):=hq.symm
 rw[←hq]
 clear hq
 have hD0:=hD
 have HD:Hid (∀w',Below w.heap.size w w'->w'.cell? ⟨g,og,none⟩=some (.slice (some ⟨b,off,none⟩) n c)):=fun w' h=>(h.cell (p:=⟨g,og,none⟩) hg).trans hD
 go_enter Tryz.func99,Tryz.ntmps99
 go_wp2
 go_loopw [3] (fun i wr=>∃k:Nat,k<=n/\i = .int .i64 k/\Hid (Below w.heap.size w wr)/\Hid (dH l (n - k) k=q)/\Hid (0<k->(rAt l (k - 1)).c=0)) (fun i _=>n - (intOf i).toNat)
 case atStart=>exact⟨0,Nat.zero_le _,rfl,Below.refl _ _,HQ,fun h=>absurd h (by omega)⟩
 case round=>
  obtain⟨k,hk,rfl,hB,HS,HP⟩:=hrel
  have VP:=HD.out _ hB.out
  by_cases hkn:k<n
  ·have hki:(k:Int)<(n:Int):=by omega
   have hr:=(hc k hkn).below hB.out hb
   have hI:=fun w' h=>NS b (off+k*4) (rAt l k).l (rAt l k).v (rAt l k).o (rAt l k).p w' h (hl k hkn)
   have ku:Hid (n - k=(n - k - 1)+1):=(by omega:n - k=(n - k - 1)+1)
   have HF:Hid (¬(rAt l k).c=0->q=(rAt l k).c):=(fun h=>by rw[←HS.out,ku.out];exact zk h:¬(rAt l k).c=0->q=(rAt l k).c)
   have HO:Hid ((rAt l k).c=0->(rAt l k).k<=iW l k->q=1):=(fun h h1=>by rw[←HS.out,ku.out];exact CO h h1:(rAt l k).c=0->(rAt l k).k<=iW l k->q=1)
   have HT:Hid ((rAt l k).c=0->¬(rAt l k).k<=iW l k->dH l (n - k - 1) (k+1)=q):=(fun h h1=>by rw[←HS.out,ku.out];exact(CP h h1).symm:(rAt l k).c=0->¬(rAt l k).k<=iW l k->dH l (n - k - 1) (k+1)=q)
   have HI:=hI wr hr
   have e1:recC (rAt l k).l (rAt l k).v (rAt l k).o (rAt l k).p=(rAt l k).c:=rfl
   rw[e1]at HI
   have Gi:Hid ((rAt l k).c=0->(rAt l k).l.size<=12):=fun h=>Rc.nU h
   have HN:Hid (0<=(rAt l k).k):=(rAt l k).kbd.1
   have HR:Hid (fP wr b (off+k*4) (rAt l k)):=hr
   clear hI hr e1
   by_cases hc0:(rAt l k).c=0
   ·rw[hc0]at HI
    have kZ:=HO.out hc0
    have HT2:=HT.out hc0
    have qh:Hid ((rAt l k).k<=iW l k->q=1):=kZ
    have HT3:Hid (¬(rAt l k).k<=iW l k->dH l (n - k - 1) (k+1)=q):=HT2
    have hsm:=Gi.out hc0
    have yP:Hid (0<k+1->(rAt l (k+1 - 1)).c=0):=fun _=>hc0
    clear kZ HT2 HO HT HF Gi
    go_wp2_with fail
    refine HI.mono ?_
    rintro e w1 ⟨rfl,hb1⟩
    have HB1:Hid (Below w.heap.size w w1):=ah hB.out hb1
    have hbr:b<wr.heap.size:=Nat.lt_of_lt_of_le hb hB.out.size
    have r1:=(HR.out.below hb1 hbr).c0
    have hD1:=HD.out _ HB1.out
    clear HI hb1 VP
    rcases k with _ | m
    ·have hg0:decide (((0:Nat):Int)>0)=false:=by simp
     have HT4:Hid (dH l (n - 0 - 1) (0+1)=q):=HT3.out (TV HN.out rfl)
     clear hc qh HT3 HR
     go_wp2
     go_quiet (fail)
     go_wp2
     go_roundw
     case rel=>exact⟨1,by omega,by go_num,below_drewN HB1.out _,HT4,yP⟩
     case measure=>simp[intOf];omega
    ·have hp0:(rAt l m).c=0:=HP.out (by omega)
     have r2:=((hc m (by omega)).below HB1.out hb).c0
     have V4:=Rc.nU hp0
     have hK1:MN (rAt l (m+1)).l (dY (rAt l (m+1)).l):=⟨fun w=>lW (rAt l (m+1)).l w hsm⟩
     have hK2:MN (rAt l m).l (dY (rAt l m).l):=⟨fun w=>lW (rAt l m).l w V4⟩
     have e2:dY (rAt l (m+1)).l=(rAt l (m+1)).k:=rfl
     have e3:dY (rAt l m).l=iW l (m+1):=rfl
     rw[e2]at hK1
     rw[e3]at hK2
     have hkg:decide (0<((m+1:Nat):Int))=true:=by simp
     have Ya:(m:Int)<(n:Int):=by omega
     have hq1:=After.cell r1
     have hq2:=After.cell r2
     have Zn:=After.cell hD1
     have hne:=After.ne w1
     generalize (rAt l (m+1)).k=kz at *
     generalize iW l (m+1)=az at *
     generalize (rAt l (m+1)).l=x0 at *
     generalize (rAt l m).l=y0 at *
     clear hc HR HP hp0 e2 e3 hl hsm V4 HS HN
     by_cases hle:kz<=az
     ·have gG:Hid (q=1):=qh.out hle
      have hd:decide (kz<=az)=true:=by simpa using hle
      clear qh HT3 hle
      go_wp2_with fail
      refine ay (by kernel_rfl) (by kernel_rfl) ?_
      repeat(first | go_big_quiet_skip |(go_big_quiet_want;go_big_quiet_op;first | go_big_quiet_on | go_big_quiet_call (first |(go_at_call 72;refine(MN.c (by assumption) _).mono ?_;rintro e wq ⟨rfl,hbq⟩;exact⟨rfl,bP (ah (After.b _) hbq)⟩))))
      refine wpQuiet_nil ?_
      rintro _ ⟨n6,rfl⟩
      have iE:Hid (Below w.heap.size w n6.w):=ah HB1.out n6.b
      go_wp2
      go_ret
      exact⟨aG gG.out.symm,iE.out⟩
     ·have gG:Hid (dH l (n - (m+1) - 1) (m+1+1)=q):=HT3.out (by omega)
      have hd:decide (kz<=az)=false:=by simpa using hle
      clear qh HT3 hle
      go_wp2_with fail
      refine ay (by kernel_rfl) (by kernel_rfl) ?_
      repeat(first | go_big_quiet_skip |(go_big_quiet_want;go_big_quiet_op;first | go_big_quiet_on | go_big_quiet_call (first |(go_at_call 72;refine(MN.c (by assumption) _).mono ?_;rintro e wq ⟨rfl,hbq⟩;exact⟨rfl,bP (ah (After.b _) hbq)⟩))))
      refine wpQuiet_nil ?_
      rintro _ ⟨n6,rfl⟩
      have iE:Hid (Below w.heap.size w n6.w):=ah HB1.out n6.b
      generalize n6.w=w6 at *
      clear hne hq1 hq2 Zn
      go_wp2
      go_roundw
      case rel=>exact⟨m+1+1,by omega,by go_num,iE,by rw[show n - (m+1+1)=n - (m+1) - 1 by omega];exact gG,yP⟩
      case measure=>simp[intOf];omega
   ·have hcn:((rAt l k).c != 0)=true:=by simpa using hc0
    have gG:Hid (q=(rAt l k).c):=HF.out hc0
    generalize (rAt l k).c=cz at *
    clear HF HO HT hc0 Gi hc HR HN
    go_wp2_with fail
    refine HI.mono ?_
    rintro e w1 ⟨rfl,hb1⟩
    have HB1:Hid (Below w.heap.size w w1):=ah hB.out hb1
    clear HI hb1
    go_wp2
    go_ret
    exact⟨aG gG.out.symm,HB1.out⟩
  ·have hkn:k=n:=by omega
   subst hkn
   have e0:Hid (q=0):=(by rw[←HS.out,Nat.sub_self];rfl:q=0)
   clear hc
   go_wp2
   go_ret
   exact⟨aG e0.out.symm,hB.out⟩
theorem ji(g og:Nat)(v:Value)(l:Rcl)(w:World)(hg:g<w.heap.size)(hD:w.cell? ⟨g,og,none⟩=some v)(hv:Rcs w v l)(hl:Lbs l)(hx:l.length<=1099511627776):
  Calls Tryz.prog 99 #[.pointer (some ⟨g,og,none⟩)] w fun e w'=>e = .returned (.int .i64 (aI l))/\Below w.heap.size w w':=by
 obtain⟨a,c,rfl⟩:=hv.shape
 by_cases h:12<l.length
 ·rw[vT h]
  generalize l.length=n at *
  clear hv
  go_enter Tryz.func99,Tryz.ntmps99
  go_wp2
  go_ret
  exact⟨rfl,Below.refl _ _⟩
 ·rw[vU h]
  by_cases h0:0<l.length
  ·obtain⟨_,b,off,rfl,hb,hc⟩:=hv.at h0
   exact Ir g og b off c l.length l w (by omega) hg hb (fun j hj=>hl.at hj) hD hc
  ·have e1:l=[]:=List.eq_nil_of_length_eq_zero (by omega)
   subst e1
   simp only[List.length_nil]at *
   have e2:dH [] 0 0=0:=rfl
   rw[e2]
   clear hv h0 hx h e2
   go_enter Tryz.func99,Tryz.ntmps99
   go_wp2
   refine wp_loop_rounds 1 ?_;rw[rounds_succ]
   go_wp2
   go_ret
   exact⟨rfl,Below.refl _ _⟩
structure lG(w:World)(g off:Nat)(l:ByteArray)(v o p:Int):Prop where
 c0:w.cell? ⟨g,off,none⟩=some (.string l)
 c1:w.cell? ⟨g,off+1,none⟩=some (.int .i64 v)
 c2:w.cell? ⟨g,off+2,none⟩=some (.int .i64 o)
 c3:w.cell? ⟨g,off+3,none⟩=some (.int .i64 p)
theorem lG.below{w w':World}{g off:Nat}{l:ByteArray}{v o p:Int}(h:lG w g off l v o p)(hb:Below w.heap.size w w'):lG w' g off l v o p:=
 ⟨After.cell h.c0 ⟨w',hb⟩,After.cell h.c1 ⟨w',hb⟩,After.cell h.c2 ⟨w',hb⟩,After.cell h.c3 ⟨w',hb⟩⟩
theorem fP.t{w:World}{b off:Nat}{r:Rc}(h:fP w b off r):lG w b off r.l r.v r.o r.p:=⟨h.c0,h.c1,h.c2,h.c3⟩
theorem lG.grown{w w':World}{g off:Nat}{l:ByteArray}{v o p:Int}{row:Option Nat}(h:lG w g off l v o p)(hg:w.grownBy w' row)(hne:some g≠row):lG w' g off l v o p:=
 ⟨hg.cell h.c0 hne,hg.cell h.c1 hne,hg.cell h.c2 hne,hg.cell h.c3 hne⟩
theorem PY(g off:Nat)(l:ByteArray)(v o p:Int)(w:World)(h:lG w g off l v o p)(hsm:l.size<=12)(hl0:0<l.size)(hSS : [v,o,p].all aJ=true)(hg:g<w.heap.size):
  Calls Tryz.prog 211 #[.pointer (some ⟨g,off,none⟩)] w fun e w'=>∃v',e = .returned v'/\w'.ownsRow w.heap.size 5 1 v' (dR l v o p).length ((dR l v o p).map (Value.int .u8))/\Below w.heap.size w w':=by
 obtain⟨i0,hi,hz0,hz1,hz2⟩:=info_parts Tryz.BM
 have hws:IntKind.u8.wrap (l.size:Int)=(l.size:Int):=mG _ (by omega) (by omega)
 have kc:=fun (w:World)=>run_bytes_of_string (P:=Tryz.prog) w 9 243 5 l Tryz.underlying9 Tryz.underlying243 Tryz.underlying5
 have hc0:=h.c0
 obtain⟨n,hn⟩:∃n,n=l.size:=⟨_,rfl⟩
 have hbn:=oI l
 go_enter Tryz.func211,Tryz.ntmps211
 go_wp2
 go_region_law (first
  |(refine step_append_lies _ (by rfl) _ _ _ (by rfl) w.heap.size 5 i0 _ 1 1 Tryz.underlying243 hi hz0 hz1 hz2 rfl (by omega) (.slice (some ⟨w.heap.size,0,none⟩) 2 2) 2 [.int .u8 1,.int .u8 (l.size:Int)] (by rfl) ((((Aq w 1 l.size).alloc _).drew).drew) ⟨w.heap.size+1,0,none⟩ l.size _ ((bl l).map (Value.int .u8)) (by rfl) (by simp[hbn]) (JC (rowA w _ l _ _)) (ints_oneCell .u8 (bl l)) (by omega) (by unfold maxLen;omega) (by omega) (by simp;try omega) (w.heap.size+2) (by simp) ?_;intro g1 cap1 w1 hown1 hgrow hat hlt)
  |(refine step_append_lies _ (by rfl) _ _ _ (by rfl) w.heap.size 5 i0 _ 1 1 Tryz.underlying243 hi hz0 hz1 hz2 rfl (by omega) (.slice (some ⟨w.heap.size+1,0,none⟩) 2 2) 2 [.int .u8 1,.int .u8 (l.size:Int)] (by rfl) (ownB w _ 1 l.size) ⟨w.heap.size,0,none⟩ l.size _ ((bl l).map (Value.int .u8)) (by rfl) (by simp[hbn]) (JC (rowB w _ l _ _)) (ints_oneCell .u8 (bl l)) (by omega) (by unfold maxLen;omega) (by omega) (by simp;try omega) (w.heap.size+2) (by simp) ?_;intro g1 cap1 w1 hown1 hgrow hat hlt))
 all_goals (
  have hb1:Below w.heap.size w w1:=((aA _ _).drew.drew).grown hgrow (by simp;try omega) (fun k hk=>by simp[Value.ownBlock]at hk;omega)
  have cZ:w1.ownsRow w.heap.size 5 1 (.slice (some ⟨g1,0,none⟩) (2+l.size) cap1) (2+l.size) ((jJ l).map (Value.int .u8)):=hown1
  have ZY:w.heap.size<=g1:=(cZ.lt g1 rfl).1
  clear hgrow hown1 hat
  have R1:=h.below hb1
  have hg1:g<w1.heap.size:=Nat.lt_of_lt_of_le hg hb1.size
  have⟨c0,c1,c2,c3⟩:=R1
  have hS:=hSS
  have HS:Hid ([v,o,p].all aJ=true):=hS
  clear hS hc0 kc
  have h6:(six v o p).length=6:=rfl
  go_wp2
  go_region_held3 (fun w'=>w'.cell? ⟨g,off+1,none⟩=some (.int .i64 v)/\w'.cell? ⟨g,off+2,none⟩=some (.int .i64 o)/\w'.cell? ⟨g,off+3,none⟩=some (.int .i64 p)) (first | go_keep |(have R2:=R1.below hb2';exact⟨R2.c1,R2.c2,R2.c3⟩) |(have R3:=(R1.below hb2').grown hgrow3 (by simp[Value.ownBlock];omega);exact⟨R3.c1,R3.c2,R3.c3⟩)|exact True.intro) (first
   |(go_at_call 259;refine(Rz _ v o p _ ?_ HS.out).mono ?_;(first | exact wV w1 v o p _ | exact wV w1.drew v o p _ |(trace_state;fail));rintro e w2 ⟨g2,cap2,rfl,hcap2,hg2,ZX,PG,hb2⟩;have hb2':Below w1.heap.size w1 w2:=(by first | exact ah (aj _).drew hb2 | exact ah (aj _) hb2);have aN:=own_below cZ hb2';clear hb2)
   |(refine step_append_lies _ (by rfl) _ _ _ (by rfl) w.heap.size 5 i0 _ 1 1 Tryz.underlying243 hi hz0 hz1 hz2 rfl (by omega) (.slice (some ⟨g1,0,none⟩) (2+l.size) cap1) (2+l.size) ((jJ l).map (Value.int .u8)) (by rfl) aN ⟨g2,1,none⟩ 6 (cap2 - 1) ((six v o p).map (Value.int .u8)) (by simp[Act.eval];omega) (by simp[h6]) PG (ints_oneCell .u8 (six v o p)) (by omega) (by unfold maxLen;omega) (by omega) (by have q1:=hb1.size;have q2:=hb2'.size;simp;omega) w2.heap.size (by simp) ?_;intro g3 cap3 w3 hown3 hgrow3 Yp hlt3))
  have hb3:Below w.heap.size w w3:=(ah hb1 hb2').grown hgrow3 (by have q1:=hb1.size;have q2:=hb2'.size;omega) (fun k hk=>by simp[Value.ownBlock]at hk;omega)
  clear hgrow3 Yp aN cZ hb2' PG R1 c0 c1 c2 c3
  go_wp2
  go_ret
  refine⟨_,rfl, ?_,hb3⟩
  have e1:dR l v o p=jJ l++six v o p:=rfl
  have e2:(dR l v o p).length=2+l.size+6:=by rw[xq];omega
  rw[e2,e1,List.map_append]
  exact hown3)
theorem NT(g off:Nat)(l:ByteArray)(v o p:Int)(w:World)(h:lG w g off l v o p)(hR:pO l v o p)(hg:g<w.heap.size):
  Calls Tryz.prog 211 #[.pointer (some ⟨g,off,none⟩)] w fun e w'=>∃v',e = .returned v'/\w'.ownsRow w.heap.size 5 1 v' (dR l v o p).length ((dR l v o p).map (Value.int .u8))/\Below w.heap.size w w':=PY g off l v o p w h hR.small hR.pos hR.sums hg
theorem Ap(g off:Nat)(l:ByteArray)(v o p:Int)(w:World)(h:lG w g off l v o p)(hR:pO l v o p)(hg:g<w.heap.size):
  Calls Tryz.prog 153 #[.pointer (some ⟨g,off,none⟩)] w fun e w'=>e = .returned (.int .i64 (bf (dR l v o p)))/\Below w.heap.size w w':=by
 have hbt:=ED hR
 have hln:(dR l v o p).length<=1099511627776:=by rw[xq];have:=hR.small;omega
 have hP:=NT g off l v o p w h hR hg
 generalize dR l v o p=ys at *
 go_enter Tryz.func153,Tryz.ntmps153
 go_wp2_with fail
 refine hP.mono ?_
 rintro e w1 ⟨v',rfl,ho1,hb1⟩
 have hI:=gZ ho1
 obtain⟨a',c',rfl⟩:=aQ ho1
 clear ho1 hP
 go_wp2_with fail
 refine(lX _ ys _ hI hbt hln).mono ?_
 rintro e w2 ⟨rfl,rfl⟩
 go_wp2
 go_ret
 exact⟨rfl,hb1⟩
end U
end Go.Proofs.YtmnfokgllcdiiaaGreat
namespace Go.Proofs.YtmnfokgllcdiiaaGreat
namespace U
abbrev Prl:=List (Int × Int)
def t2(a b:Int):Int:=bf (bg 2 [a,b])
def l3(p:Int × Int):Int:=bf (bg 3 [p.1,p.2])
def emp:Nat->Int
 | 0=>13
 | n+1=>t2 (emp n) (emp n)
theorem TQ(a b:Int):0<=t2 a b/\t2 a b<=65520:=nV _
theorem Xn(p:Int × Int):0<=l3 p/\l3 p<=65520:=nV _
theorem Bf(n:Nat):0<=emp n/\emp n<=65520:=by
 cases n with
 | zero=>simp[emp]
 | succ n=>exact TQ _ _
abbrev has(l:Prl)(n:Nat)(q:Int):Prop:=∃p∈l,p.1/(2^n:Nat)=q
def nd(l:Prl):Nat->Int->Int
 | 0,q=>match l.find? (fun p=>p.1==q)with | some p=>l3 p | none=>13
 | n+1,q=>if has l (n+1) q then t2 (nd l n (2*q)) (nd l n (2*q+1))else emp (n+1)
theorem iV(l:Prl)(n:Nat)(q:Int):0<=nd l n q/\nd l n q<=65520:=by
 cases n with
 | zero=>
  unfold nd
  split
  ·exact Xn _
  ·omega
 | succ n=>
  unfold nd
  split
  ·exact TQ _ _
  ·exact Bf _
theorem dS{l:Prl}{n:Nat}{q:Int}(h:¬has l n q):nd l n q=emp n:=by
 cases n with
 | zero=>
  unfold nd emp
  have:l.find? (fun p=>p.1==q)=none:=by
   rw[List.find?_eq_none]
   intro p hp e
   exact h ⟨p,hp,by have:=(beq_iff_eq).1 e;simp[this]⟩
  rw[this]
 | succ n=>unfold nd;rw[if_neg h]
theorem iP(x:Int)(n:Nat):x/(2^(n+1):Nat)=x/(2^n:Nat)/2:=by
 rw[Nat.pow_succ,Int.natCast_mul,Int.ediv_ediv_of_nonneg (Int.natCast_nonneg _)]
 rfl
theorem Q5(l:Prl)(n:Nat)(q:Int):has l (n+1) q↔has l n (2*q)∨has l n (2*q+1):=by
 unfold has
 constructor
 ·rintro⟨p,hp,e⟩
  rw[iP]at e
  rcases(by omega:p.1/(2^n:Nat)=2*q∨p.1/(2^n:Nat)=2*q+1)with h | h
  ·exact Or.inl ⟨p,hp,h⟩
  ·exact Or.inr ⟨p,hp,h⟩
 ·rintro(⟨p,hp,e⟩ |⟨p,hp,e⟩)
  ·exact⟨p,hp,by rw[iP];omega⟩
  ·exact⟨p,hp,by rw[iP];omega⟩
theorem xZ(l:Prl)(n:Nat)(q:Int):nd l (n+1) q=if has l (n+1) q then t2 (nd l n (2*q)) (nd l n (2*q+1))else emp (n+1):=by rw[nd]
def Ris(l:Prl):Prop:=l.Pairwise fun a b=>a.1<b.1
def abv(e:Int):Prl->Prl
 | []=>[]
 | [(q,s)]=>[(q/2,if q%2=1 then t2 e s else t2 s e)]
 |(q,s)::(q',s')::r=>
  if q%2=1 then(q/2,t2 e s)::abv e ((q',s')::r)
  else if q'=q+1 then(q/2,t2 s s')::abv e r
  else(q/2,t2 s e)::abv e ((q',s')::r)
def plc(r:Prl)(x:Int):Prop:=∃s,(x,s)∈r
structure Row(N:Int->Int)(e b:Int)(r:Prl):Prop where
 ris:Ris r
 lo:∀p∈r,2*b<=p.1
 val:∀p∈r,p.2=N p.1
 none:∀x,2*b<=x->¬plc r x->N x=e
structure Abv(N:Int->Int)(b:Int)(r a:Prl):Prop where
 ris:Ris a
 lo:∀p∈a,b<=p.1
 val:∀p∈a,p.2=t2 (N (2*p.1)) (N (2*p.1+1))
 pl:∀x,b<=x->(plc a x↔plc r (2*x)∨plc r (2*x+1))
theorem bZ{q s x:Int}{r:Prl}:plc ((q,s)::r) x↔x=q∨plc r x:=by
 unfold plc
 simp only[List.mem_cons,Prod.mk.injEq]
 constructor
 ·rintro⟨t,(⟨h,_⟩|h)⟩
  ·exact Or.inl h
  ·exact Or.inr ⟨t,h⟩
 ·rintro(h |⟨t,h⟩)
  ·exact⟨s,Or.inl ⟨h,rfl⟩⟩
  ·exact⟨t,Or.inr h⟩
theorem jD{x:Int}:¬plc [] x:=by rintro⟨s,h⟩;cases h
theorem Abv.step{N:Int->Int}{b q:Int}{r r' a:Prl}(hb:2*b<=q)(h:Abv N (q/2+1) r' a)
  (h1:∀x,2*b<=x->(plc r x↔(x/2=q/2/\plc r x)∨plc r' x)) (h2:plc r q) (h3:∀x,plc r' x->q/2<x/2) :
  Abv N b r ((q/2,t2 (N (2*(q/2))) (N (2*(q/2)+1)))::a):=by
 refine⟨List.pairwise_cons.2 ⟨fun p hp=> ?_,h.ris⟩, ?_, ?_, ?_⟩
 ·have:=h.lo p hp
  show q/2<p.1
  omega
 ·intro p hp
  rcases List.mem_cons.1 hp with rfl | hp
  ·show b<=q/2
   omega
  ·have:=h.lo p hp
   omega
 ·intro p hp
  rcases List.mem_cons.1 hp with rfl | hp
  ·rfl
  ·exact h.val p hp
 ·intro x hx
  rw[bZ]
  by_cases e:x=q/2
  ·constructor
   ·intro _
    rcases(by omega:q=2*x∨q=2*x+1)with e2 | e2
    ·left;rw[←e2];exact h2
    ·right;rw[←e2];exact h2
   ·intro _;exact Or.inl e
  ·constructor
   ·rintro(h' | h')
    ·exact absurd h' e
    ·have hx2:q/2+1<=x:=by obtain⟨s,hs⟩:=h';exact h.lo _ hs
     rcases(h.pl x hx2).1 h' with h4 | h4
     ·exact Or.inl ((h1 _ (by omega)).2 (Or.inr h4))
     ·exact Or.inr ((h1 _ (by omega)).2 (Or.inr h4))
   ·rintro(h' | h')
    ·rcases(h1 _ (by omega)).1 h' with h4 | h4
     ·exact absurd h4.1 (by omega)
     ·have:=h3 _ h4
      exact Or.inr ((h.pl x (by omega)).2 (Or.inl h4))
    ·rcases(h1 _ (by omega)).1 h' with h4 | h4
     ·exact absurd h4.1 (by omega)
     ·have:=h3 _ h4
      exact Or.inr ((h.pl x (by omega)).2 (Or.inr h4))
theorem Ci{q s:Int}{r:Prl}(h:Ris ((q,s)::r)){x:Int}(hx:plc r x):q<x:=by
 obtain⟨t,ht⟩:=hx
 exact(List.pairwise_cons.1 h).1 _ ht
theorem TU(N:Int->Int)(e:Int):∀(k:Nat)(r:Prl)(b:Int),r.length<=k->Row N e b r->Abv N b r (abv e r):=by
 intro k
 induction k with
 | zero=>
  intro r b hk h
  have:r=[]:=List.eq_nil_of_length_eq_zero (by omega)
  subst this
  refine⟨List.Pairwise.nil,(fun p hp=>by cases hp),(fun p hp=>by cases hp),fun x _=>⟨fun hh=>absurd hh jD,fun hh=> ?_⟩⟩
  rcases hh with hh | hh<;>exact absurd hh jD
 | succ k ih=>
  intro r b hk h
  match r,h,hk with
  | [],h,hk=>
   refine⟨List.Pairwise.nil,(fun p hp=>by cases hp),(fun p hp=>by cases hp),fun x _=>⟨fun hh=>absurd hh jD,fun hh=> ?_⟩⟩
   rcases hh with hh | hh<;>exact absurd hh jD
  | [(q,s)],h,hk=>
   have hq:=h.lo (q,s) (by simp)
   have hv:=h.val (q,s) (by simp)
   dsimp only at hq hv
   have e0:Abv N (q/2+1) [] []:=⟨List.Pairwise.nil,(fun p hp=>by cases hp),(fun p hp=>by cases hp),fun x _=>⟨fun hh=>absurd hh jD,fun hh=>by rcases hh with hh | hh<;>exact absurd hh jD⟩⟩
   have st:=Abv.step (r:=[(q,s)]) hq e0 (fun x _=>by
    rw[bZ]
    constructor
    ·rintro(rfl | h)
     ·exact Or.inl ⟨rfl,Or.inl rfl⟩
     ·exact absurd h jD
    ·rintro(⟨_,h⟩|h)
     ·exact h
     ·exact absurd h jD) (bZ.2 (Or.inl rfl)) (fun x hx=>absurd hx jD)
   unfold abv
   by_cases h1:q%2=1
   ·rw[if_pos h1]
    have e1:N (2*(q/2))=e:=h.none _ (by omega) (fun hh=>(bZ.1 hh).elim (fun hh=>by omega) (fun hh=>absurd hh jD))
    rw[e1,(by omega:2*(q/2)+1=q),←hv]at st
    exact st
   ·rw[if_neg h1]
    have e1:N (2*(q/2)+1)=e:=h.none _ (by omega) (fun hh=>(bZ.1 hh).elim (fun hh=>by omega) (fun hh=>absurd hh jD))
    rw[e1,(by omega:2*(q/2)=q),←hv]at st
    exact st
  |(q,s)::(q',s')::r,h,hk=>
   have hq:=h.lo (q,s) (by simp)
   have hv:=h.val (q,s) (by simp)
   have hv':=h.val (q',s') (by simp)
   have hqq:q<q':=Ci h.ris (bZ.2 (Or.inl rfl))
   dsimp only at hq hv hv'
   have BF:Ris ((q',s')::r):=(List.pairwise_cons.1 h.ris).2
   have hge:∀x,plc ((q',s')::r) x->q'<=x:=fun x hx=>by
    rcases bZ.1 hx with hx | hx
    ·omega
    ·have:=Ci BF hx;omega
   have tail:∀b',(∀x,plc ((q',s')::r) x->2*b'<=x)->2*b<=2*b'->q<2*b'->Row N e b' ((q',s')::r):=fun b' h1 h2 h3=>
    ⟨BF,fun p hp=>h1 p.1 ⟨p.2,hp⟩,fun p hp=>h.val p (List.mem_cons_of_mem _ hp),fun x hx hn=>h.none x (by omega) (fun hh=>by
     rcases bZ.1 hh with hh | hh
     ·omega
     ·exact hn hh)⟩
   have sp:∀x,2*b<=x->(plc ((q,s)::(q',s')::r) x↔(x/2=q/2/\plc ((q,s)::(q',s')::r) x)∨plc ((q',s')::r) x):=fun x _=>by
    constructor
    ·intro hh
     rcases bZ.1 hh with h1 | h1
     ·exact Or.inl ⟨by rw[h1],hh⟩
     ·exact Or.inr h1
    ·rintro(⟨_,hh⟩|hh)
     ·exact hh
     ·exact bZ.2 (Or.inr hh)
   unfold abv
   by_cases h1:q%2=1
   ·rw[if_pos h1]
    have t:=ih ((q',s')::r) (q/2+1) (by simp at hk ⊢;omega) (tail _ (fun x hx=>by have:=hge x hx;omega) (by omega) (by omega))
    have st:=Abv.step hq t sp (bZ.2 (Or.inl rfl)) (fun x hx=>by have:=hge x hx;omega)
    have e1:N (2*(q/2))=e:=h.none _ (by omega) (fun hh=>by
     rcases bZ.1 hh with hh | hh
     ·omega
     ·have:=hge _ hh;omega)
    rw[e1,(by omega:2*(q/2)+1=q),←hv]at st
    exact st
   ·rw[if_neg h1]
    by_cases h2:q'=q+1
    ·rw[if_pos h2]
     have hr:Row N e (q/2+1) r:=⟨(List.pairwise_cons.1 BF).2,fun p hp=>by have:=Ci BF (x:=p.1) ⟨p.2,hp⟩;omega,fun p hp=>h.val p (List.mem_cons_of_mem _ (List.mem_cons_of_mem _ hp)),fun x hx hn=>h.none x (by omega) (fun hh=>by
      rcases bZ.1 hh with hh | hh
      ·omega
      ·rcases bZ.1 hh with hh | hh
       ·omega
       ·exact hn hh)⟩
     have t:=ih r (q/2+1) (by simp at hk ⊢;omega) hr
     have st:=Abv.step (r:=(q,s)::(q',s')::r) hq t (fun x _=>by
      constructor
      ·intro hh
       rcases bZ.1 hh with h3 | h3
       ·exact Or.inl ⟨by rw[h3],hh⟩
       ·rcases bZ.1 h3 with h4 | h4
        ·exact Or.inl ⟨by omega,hh⟩
        ·exact Or.inr h4
      ·rintro(⟨_,hh⟩|hh)
       ·exact hh
       ·exact bZ.2 (Or.inr (bZ.2 (Or.inr hh)))) (bZ.2 (Or.inl rfl)) (fun x hx=>by have:=Ci BF hx;omega)
     rw[(by omega:2*(q/2)+1=q'),(by omega:2*(q/2)=q),←hv,←hv']at st
     exact st
    ·rw[if_neg h2]
     have t:=ih ((q',s')::r) (q/2+1) (by simp at hk ⊢;omega) (tail _ (fun x hx=>by have:=hge x hx;omega) (by omega) (by omega))
     have st:=Abv.step hq t sp (bZ.2 (Or.inl rfl)) (fun x hx=>by have:=hge x hx;omega)
     have e1:N (2*(q/2)+1)=e:=h.none _ (by omega) (fun hh=>by
      rcases bZ.1 hh with hh | hh
      ·omega
      ·have:=hge _ hh;omega)
     rw[e1,(by omega:2*(q/2)=q),←hv]at st
     exact st
def rows(l:Prl):Nat->Prl
 | 0=>l.map fun p=>(p.1,l3 p)
 | n+1=>abv (emp n) (rows l n)
theorem rows_row{l:Prl}(h:Ris l)(h0:∀p∈l,0<=p.1)(n:Nat):Row (nd l n) (emp n) 0 (rows l n)/\∀x,plc (rows l n) x↔has l n x:=by
 induction n with
 | zero=>
  have hp:∀x,plc (rows l 0) x↔has l 0 x:=by
   intro x
   unfold plc rows has
   simp only[List.mem_map,Prod.mk.injEq]
   constructor
   ·rintro⟨s,p,hp,e,_⟩
    exact⟨p,hp,by simpa using e⟩
   ·rintro⟨p,hp,e⟩
    exact⟨l3 p,p,hp,by simpa using e,rfl⟩
  refine⟨⟨?_, ?_, ?_,fun x _ hn=>dS (fun hh=>hn ((hp x).2 hh))⟩,hp⟩
  ·show List.Pairwise _ (l.map _)
   rw[List.pairwise_map]
   exact h
  ·intro p hp
   obtain⟨p',hp',rfl⟩:=List.mem_map.1 hp
   have:=h0 p' hp'
   dsimp only
   omega
  ·intro p hp
   obtain⟨p',hp',rfl⟩:=List.mem_map.1 hp
   dsimp only
   unfold nd
   rcases hf:l.find? (fun p=>p.1==p'.1)with _ | p2
   ·rw[List.find?_eq_none]at hf
    exact absurd (by simp) (hf p' hp')
   ·have h1:=List.mem_of_find?_eq_some hf
    have h2:p2.1=p'.1:=by have:=List.find?_some hf;simpa using this
    have:p2=p':=by
     rcases List.mem_iff_getElem.1 h1 with⟨i,hi,rfl⟩
     rcases List.mem_iff_getElem.1 hp' with⟨j,hj,rfl⟩
     have hh:=List.pairwise_iff_getElem.1 h
     rcases Nat.lt_trichotomy i j with c | c | c
     ·have:=hh i j hi hj c;omega
     ·subst c;rfl
     ·have:=hh j i hj hi c;omega
    rw[hf,this]
 | succ n ih=>
  have a:=TU (nd l n) (emp n) _ _ 0 (Nat.le_refl _) ih.1
  have hp:∀x,plc (rows l (n+1)) x↔has l (n+1) x:=by
   intro x
   rw[Q5,←ih.2,←ih.2]
   by_cases hx:0<=x
   ·exact a.pl x hx
   ·constructor
    ·rintro⟨s,hs⟩
     exact absurd (a.lo _ hs) hx
    ·rintro(⟨s,hs⟩ |⟨s,hs⟩)
     ·have:=ih.1.lo _ hs;dsimp only at this;omega
     ·have:=ih.1.lo _ hs;dsimp only at this;omega
  refine⟨⟨a.ris,fun p hp=>by have:=a.lo p hp;omega,fun p hp'=> ?_,fun x _ hn=>dS (fun hh=>hn ((hp x).2 hh))⟩,hp⟩
  rw[xZ,if_pos ((hp p.1).1 ⟨p.2,hp'⟩)]
  exact a.val p hp'
theorem UN{l:Prl}(h:Ris l)(h0:∀p∈l,0<=p.1)(n:Nat):∀p∈rows l n,0<=p.1/\0<=p.2/\p.2<=65520:=by
 intro p hp
 have h1:=(rows_row h h0 n).1
 have h2:=h1.lo p hp
 rw[h1.val p hp]
 exact⟨by omega,iV _ _ _⟩
theorem Sz{l:Prl}(h:Ris l)(h0:∀p∈l,0<=p.1){n:Nat}{q:Int}(hq:∀p∈l,p.1/(2^n:Nat)=q)(hne:l≠[]):rows l n=[(q,nd l n q)]:=by
 have h1:=rows_row h h0 n
 have hm:∀p∈rows l n,p.1=q:=fun p hp=>by
  obtain⟨p',hp',e⟩:=(h1.2 p.1).1 ⟨p.2,hp⟩
  rw[←e,hq p' hp']
 obtain⟨p0,t,rfl⟩:=List.exists_cons_of_ne_nil hne
 have hx:has (p0::t) n q:=⟨p0,by simp,hq p0 (by simp)⟩
 obtain⟨s,hs⟩:=(h1.2 q).2 hx
 rcases hr:rows (p0::t) n with _ |⟨a,_ |⟨b,r⟩⟩
 ·rw[hr]at hs;cases hs
 ·have e1:=hm a (by rw[hr];simp)
  have e2:=h1.1.val a (by rw[hr];simp)
  obtain⟨a1,a2⟩:=a
  dsimp only at e1 e2
  rw[e2,e1]
 ·have e1:=hm a (by rw[hr];simp)
  have e2:=hm b (by rw[hr];simp)
  have:=h1.1.ris
  rw[hr]at this
  have:=(List.pairwise_cons.1 this).1 b (by simp)
  omega
theorem Sr(n:Nat):rows [] n=[]:=by
 induction n with
 | zero=>rfl
 | succ n ih=>unfold rows;rw[ih];rfl
theorem TT(e:Int):∀(k:Nat)(r:Prl),r.length<=k->(abv e r).length<=r.length:=by
 intro k
 induction k with
 | zero=>
  intro r hk
  have:r=[]:=List.eq_nil_of_length_eq_zero (by omega)
  subst this
  simp[abv]
 | succ k ih=>
  intro r hk
  match r,hk with
  | [],_=>simp[abv]
  | [(q,s)],_=>simp[abv]
  |(q,s)::(q',s')::r,hk=>
   have h1:=ih ((q',s')::r) (by simp at hk ⊢;omega)
   have h2:=ih r (by simp at hk ⊢;omega)
   simp only[List.length_cons]at h1 hk ⊢
   unfold abv
   split
   ·simp only[List.length_cons];omega
   ·split
    ·simp only[List.length_cons];omega
    ·simp only[List.length_cons];omega
theorem Sm(l:Prl)(n:Nat):(rows l n).length<=l.length:=by
 induction n with
 | zero=>simp[rows]
 | succ n ih=>
  have:=TT (emp n) _ (rows l n) (Nat.le_refl _)
  unfold rows
  omega
def cut(l:Prl)(a b:Int):Prl:=l.filter fun p=>decide (a<=p.1)&&decide (p.1<b)
theorem Dp{l:Prl}{a b:Int}{p:Int × Int}:p∈cut l a b↔p∈l/\a<=p.1/\p.1<b:=by
 unfold cut;rw[List.mem_filter];simp
theorem pow_pos(n:Nat):(0:Int)<(2^n:Nat):=by have:=Nat.two_pow_pos n;omega
theorem LQ{x q:Int}{n:Nat}:x/(2^n:Nat)=q↔q*(2^n:Nat)<=x/\x<q*(2^n:Nat)+(2^n:Nat):=by
 have hp:=pow_pos n
 constructor
 ·rintro rfl
  exact⟨Int.ediv_mul_le _ (by omega),by have:=Int.lt_ediv_add_one_mul_self x hp;rw[Int.add_mul]at this;omega⟩
 ·rintro⟨h1,h2⟩
  have a1:q<=x/(2^n:Nat):=(Int.le_ediv_iff_mul_le hp).2 h1
  have a2:x/(2^n:Nat)<q+1:=(Int.ediv_lt_iff_lt_mul hp).2 (by rw[Int.add_mul];omega)
  omega
theorem IL{l l':Prl}:∀(n:Nat)(q:Int),(l.filter fun p=>decide (p.1/(2^n:Nat)=q))=(l'.filter fun p=>decide (p.1/(2^n:Nat)=q))->nd l n q=nd l' n q:=by
 intro n
 induction n with
 | zero=>
  intro q h
  unfold nd
  have:∀m:Prl,m.find? (fun p=>p.1==q)=(m.filter fun p=>decide (p.1/(2^0:Nat)=q)).head?:=by
   intro m
   rw[List.head?_filter]
   congr 1
   funext p
   rw[Nat.pow_zero,Int.natCast_one,Int.ediv_one]
   rfl
  rw[this,this,h]
 | succ n ih=>
  intro q h
  have hm:∀x:Int,x/2=q->(l.filter fun p=>decide (p.1/(2^n:Nat)=x))=(l'.filter fun p=>decide (p.1/(2^n:Nat)=x)):=by
   intro x hx
   have e:∀m:Prl,(m.filter fun p=>decide (p.1/(2^n:Nat)=x))=((m.filter fun p=>decide (p.1/(2^(n+1):Nat)=q)).filter fun p=>decide (p.1/(2^n:Nat)=x)):=by
    intro m
    rw[List.filter_filter]
    congr 1
    funext p
    rw[iP]
    generalize p.1/(2^n:Nat)=y
    by_cases h1:y=x
    ·subst h1;simp[hx]
    ·simp[h1]
   rw[e l,e l',h]
  have hh:has l (n+1) q↔has l' (n+1) q:=by
   have e:∀m:Prl,has m (n+1) q↔(m.filter fun p=>decide (p.1/(2^(n+1):Nat)=q))≠[]:=by
    intro m
    unfold has
    constructor
    ·rintro⟨p,hp,e⟩ h0
     have:=(List.filter_eq_nil_iff.1 h0) p hp
     exact this (decide_eq_true e)
    ·intro h0
     obtain⟨p,t,ht⟩:=List.exists_cons_of_ne_nil h0
     have hp:p∈(m.filter fun p=>decide (p.1/(2^(n+1):Nat)=q)):=by rw[ht];simp
     rw[List.mem_filter]at hp
     exact⟨p,hp.1,of_decide_eq_true hp.2⟩
   rw[e l,e l',h]
  rw[xZ,xZ,ih _ (hm (2*q) (by omega)),ih _ (hm (2*q+1) (by omega))]
  by_cases hx:has l (n+1) q
  ·rw[if_pos hx,if_pos (hh.1 hx)]
  ·rw[if_neg hx,if_neg (fun h=>hx (hh.2 h))]
theorem tK(l:Prl)(n:Nat)(q:Int):cut l (q*(2^n:Nat)) (q*(2^n:Nat)+(2^n:Nat))=l.filter fun p=>decide (p.1/(2^n:Nat)=q):=by
 unfold cut
 congr 1
 funext p
 have:=LQ (x:=p.1) (q:=q) (n:=n)
 by_cases h:p.1/(2^n:Nat)=q
 ·have h2:=this.1 h
  rw[decide_eq_true h,decide_eq_true h2.1,decide_eq_true h2.2];rfl
 ·simp only[h,decide_false]
  have:¬(q*(2^n:Nat)<=p.1/\p.1<q*(2^n:Nat)+(2^n:Nat)):=fun hh=>h (this.2 hh)
  simp only[Bool.and_eq_false_iff,decide_eq_false_iff_not]
  omega
theorem Wn(l:Prl)(n:Nat)(q:Int):nd (cut l (q*(2^n:Nat)) (q*(2^n:Nat)+(2^n:Nat))) n q=nd l n q:=by
 rw[tK]
 apply IL
 rw[List.filter_filter]
 congr 1
 funext p
 simp
theorem kU{l:Prl}(h:Ris l)(a b:Int):Ris (cut l a b):=List.Pairwise.filter _ h
theorem eu(l:Prl)(a b:Int):(cut l a b).length<=l.length:=List.length_filter_le _ _
def prt(l:Prl)(n:Nat):Int:=match rows l n with | []=>emp n | p::_=>p.2
theorem Qp{l:Prl}(h:Ris l)(h0:∀p∈l,0<=p.1){n:Nat}{q:Int}(hq:∀p∈l,p.1/(2^n:Nat)=q):prt l n=nd l n q:=by
 unfold prt
 by_cases hne:l=[]
 ·subst hne
  rw[Sr,dS]
  rintro⟨p,hp,_⟩
  cases hp
 ·rw[Sz h h0 hq hne]
def fine(p:Int × Int):Bool:=inB p.1 0 255&&aJ p.2
theorem jS{p:Int × Int}(h:fine p=true):(0<=p.1/\p.1<=255)/\0<=p.2/\p.2<=65520:=by
 unfold fine at h
 rw[Bool.and_eq_true]at h
 exact⟨iw h.1,(bD _).1 h.2⟩
def pAt(l:Prl)(i:Nat):Int × Int:=l.getD i (0,0)
theorem eH{l:Prl}{i:Nat}(h:i<l.length):pAt l i=l[i]:=by simp[pAt,h]
def scan(l:Prl):Nat->Nat->Int
 | 0,_=>0
 | f+1,i=>if fine (pAt l i)=false then 3 else if 0<i/\(pAt l i).1<=(pAt l (i - 1)).1 then 1 else scan l f (i+1)
def slF(l:Prl):Int:=if 12<l.length then 2 else scan l l.length 0
theorem scan_ok{l:Prl}:∀(f i:Nat),scan l f i=0->∀j,i<=j->j<i+f->fine (pAt l j)=true/\(0<j->(pAt l (j - 1)).1<(pAt l j).1):=by
 intro f
 induction f with
 | zero=>intro i _ j h1 h2;omega
 | succ f ih=>
  intro i h j h1 h2
  unfold scan at h
  split at h
  ·cases h
  ·split at h
   ·cases h
   ·rename_i g1 g2
    by_cases e:j=i
    ·subst e
     exact⟨by simpa using g1,fun h0=>by omega⟩
    ·exact ih (i+1) h j (by omega) (by omega)
theorem JE{l:Prl}:∀(f i:Nat),(∀j,i<=j->j<i+f->fine (pAt l j)=true/\(0<j->(pAt l (j - 1)).1<(pAt l j).1))->scan l f i=0:=by
 intro f
 induction f with
 | zero=>intro i _;rfl
 | succ f ih=>
  intro i h
  have h0:=h i (Nat.le_refl _) (by omega)
  unfold scan
  rw[if_neg (by rw[h0.1];simp),if_neg (by intro hh;have:=h0.2 hh.1;omega)]
  exact ih (i+1) fun j h1 h2=>h j (by omega) (by omega)
structure Sls(l:Prl):Prop where
 len:l.length<=12
 ris:Ris l
 fin:∀p∈l,fine p=true
theorem Wu{l:Prl}(h:∀j,j<l.length->0<j->(pAt l (j - 1)).1<(pAt l j).1):Ris l:=by
 have h2:∀d i,i+d+1<l.length->(pAt l i).1<(pAt l (i+d+1)).1:=by
  intro d
  induction d with
  | zero=>intro i hi;exact h (i+0+1) hi (by omega)
  | succ d ih=>
   intro i hi
   have h3:=ih i (by omega)
   have h4:=h (i+d+1+1) hi (by omega)
   simp only[Nat.add_sub_cancel]at h4
   rw[show i+(d+1)+1=i+d+1+1 by omega]
   omega
 unfold Ris
 rw[List.pairwise_iff_getElem]
 intro i j hi hj hij
 have:=h2 (j - i - 1) i (by omega)
 rw[show i+(j - i - 1)+1=j by omega,eH hi,eH hj]at this
 exact this
theorem kQ{l:Prl}(h:slF l=0):Sls l:=by
 unfold slF at h
 split at h
 ·cases h
 ·rename_i h12
  have hs:=scan_ok _ _ h
  refine⟨by omega,Wu fun j hj h0=>(hs j (Nat.zero_le _) (by omega)).2 h0,fun p hp=> ?_⟩
  obtain⟨j,hj,rfl⟩:=List.mem_iff_getElem.1 hp
  have:=(hs j (Nat.zero_le _) (by omega)).1
  rwa [eH hj]at this
theorem UY{l:Prl}(h:Sls l):slF l=0:=by
 unfold slF
 have:=h.len
 rw[if_neg (by omega)]
 apply JE
 intro j _ hj
 rw[eH (by omega:j<l.length)]
 refine⟨h.fin _ (List.getElem_mem _),fun h0=> ?_⟩
 rw[eH (by omega:j - 1<l.length)]
 have hr:=h.ris
 unfold Ris at hr
 exact(List.pairwise_iff_getElem.1 hr) (j - 1) j (by omega) (by omega) (by omega)
theorem Sls.at{l:Prl}(h:Sls l){i:Nat}(hi:i<l.length):(0<=(pAt l i).1/\(pAt l i).1<=255)/\0<=(pAt l i).2/\(pAt l i).2<=65520:=by
 rw[eH hi];exact jS (h.fin _ (List.getElem_mem _))
theorem Sls.pos{l:Prl}(h:Sls l):∀p∈l,0<=p.1:=fun p hp=>(jS (h.fin p hp)).1.1
theorem xE{l:Prl}(h:Ris l){i j:Nat}(hij:i<j)(hj:j<l.length):(pAt l i).1<(pAt l j).1:=by
 rw[eH hj,eH (by omega:i<l.length)]
 exact(List.pairwise_iff_getElem.1 h) i j (by omega) hj hij
def low(l:Prl)(k:Int):Nat:=l.countP fun p=>decide (p.1<k)
theorem P7(l:Prl)(k:Int):low l k<=l.length:=List.countP_le_length
theorem qO{l:Prl}(h:Ris l)(k:Int):(l.filter fun p=>decide (p.1<k))=l.take (low l k):=by
 induction l with
 | nil=>rfl
 | cons p t ih=>
  have ht:=List.pairwise_cons.1 h
  unfold low
  by_cases hp:p.1<k
  ·rw[List.filter_cons_of_pos (by simpa using hp),List.countP_cons_of_pos (by simpa using hp),List.take_succ_cons]
   rw[ih ht.2]
   rfl
  ·have h0:t.filter (fun p=>decide (p.1<k))=[]:=by
    rw[List.filter_eq_nil_iff]
    intro x hx
    have:=ht.1 x hx
    simp
    omega
   rw[List.filter_cons_of_neg (by simpa using hp),List.countP_cons_of_neg (by simpa using hp),h0]
   rw[List.countP_eq_length_filter,h0]
   rfl
theorem Ar{l:Prl}(h:Ris l)(k:Int):(l.filter fun p=>decide (k<=p.1))=l.drop (low l k):=by
 induction l with
 | nil=>rfl
 | cons p t ih=>
  have ht:=List.pairwise_cons.1 h
  unfold low
  by_cases hp:p.1<k
  ·rw[List.filter_cons_of_neg (by simp;omega),List.countP_cons_of_pos (by simpa using hp),List.drop_succ_cons]
   rw[ih ht.2]
   rfl
  ·have h0:t.filter (fun p=>decide (p.1<k))=[]:=by
    rw[List.filter_eq_nil_iff]
    intro x hx
    have:=ht.1 x hx
    simp
    omega
   have h1:t.filter (fun p=>decide (k<=p.1))=t:=by
    rw[List.filter_eq_self]
    intro x hx
    have:=ht.1 x hx
    simp
    omega
   rw[List.filter_cons_of_pos (by simp;omega),List.countP_cons_of_neg (by simpa using hp),h1]
   rw[List.countP_eq_length_filter,h0]
   rfl
theorem Ut{l:Prl}(h:Ris l)(k:Int){i:Nat}(hi:i<l.length):(pAt l i).1<k↔i<low l k:=by
 have h1:=qO h k
 have h2:=Ar h k
 rw[eH hi]
 constructor
 ·intro hk
  by_cases hc:i<low l k
  ·exact hc
  ·have hm:l[i]∈l.drop (low l k):=by
    rw[List.mem_drop_iff_getElem]
    exact⟨i - low l k,by omega,by congr 1;omega⟩
   rw[←h2,List.mem_filter]at hm
   have:=hm.2
   simp at this
   omega
 ·intro hc
  have hm:l[i]∈l.take (low l k):=by
   rw[List.mem_take_iff_getElem]
   exact⟨i,by omega,rfl⟩
  rw[←h1,List.mem_filter]at hm
  simpa using hm.2
theorem low_mono(l:Prl){a b:Int}(h:a<=b):low l a<=low l b:=by
 unfold low
 apply List.countP_mono_left
 intro x _ hx
 simp at hx ⊢
 omega
theorem VF{l:Prl}(h:Ris l)(a b:Int):cut l a b=(l.take (low l b)).drop (low l a):=by
 have e1:cut l a b=(l.filter fun p=>decide (p.1<b)).filter fun p=>decide (a<=p.1):=by
  unfold cut
  rw[List.filter_filter]
 have h2:Ris (l.filter fun p=>decide (p.1<b)):=List.Pairwise.filter _ h
 rw[e1,Ar h2,qO h]
 by_cases hab:a<=b
 ·have:low (l.take (low l b)) a=low l a:=by
   rw[←qO h b]
   unfold low
   rw[List.countP_filter]
   congr 1
   funext p
   by_cases hp:p.1<a
   ·simp[hp];omega
   ·simp[hp]
  rw[this]
 ·have e2:low (l.take (low l b)) a=(l.take (low l b)).length:=by
   rw[←qO h b]
   unfold low
   rw[List.countP_eq_length]
   intro p hp
   rw[List.mem_filter]at hp
   have:=hp.2
   simp at this ⊢
   omega
  have e3:=low_mono l (by omega:b<=a)
  rw[e2,List.drop_length,List.drop_eq_nil_of_le]
  rw[List.length_take]
  omega
def thr(l:Prl)(k:Int):Bool:=decide (low l k<l.length)&&decide ((pAt l (low l k)).1=k)
def put(l:Prl)(s:Int × Int):Prl:=l.take (low l s.1)++[s]++l.drop (if thr l s.1=true then low l s.1+1 else low l s.1)
end U
end Go.Proofs.YtmnfokgllcdiiaaGreat
namespace Go.Proofs.YtmnfokgllcdiiaaGreat
open Go.RowKit
namespace U
def Prs(w:World)(v:Value)(l:Prl):Prop:=
 (l=[]/\∃a c,v = .slice a 0 c)∨∃b off c,v = .slice (some ⟨b,off,none⟩) l.length c/\b<w.heap.size/\∀j,j<l.length->w.cell? ⟨b,off+j*2,none⟩=some (.int .i64 (pAt l j).1)/\w.cell? ⟨b,off+j*2+1,none⟩=some (.int .i64 (pAt l j).2)
theorem Prs.below{w w':World}{v:Value}{l:Prl}(h:Prs w v l)(hb:Below w.heap.size w w'):Prs w' v l:=by
 rcases h with h |⟨b,off,c,rfl,hlt,hc⟩
 ·exact Or.inl h
 ·exact Or.inr ⟨b,off,c,rfl,Nat.lt_of_lt_of_le hlt hb.size,fun j hj=>⟨(hb.cell (p:=⟨b,off+j*2,none⟩) hlt).trans (hc j hj).1,(hb.cell (p:=⟨b,off+j*2+1,none⟩) hlt).trans (hc j hj).2⟩⟩
theorem Prs.shape{w:World}{v:Value}{l:Prl}(h:Prs w v l):∃a c,v = .slice a l.length c:=by
 rcases h with⟨rfl,a,c,rfl⟩ |⟨b,off,c,rfl,_⟩
 ·exact⟨a,c,rfl⟩
 ·exact⟨_,c,rfl⟩
theorem Prs.at{w:World}{a:Option Addr}{n c:Nat}{l:Prl}(h:Prs w (.slice a n c) l)(h0:0<l.length):n=l.length/\∃b off,a=some ⟨b,off,none⟩/\b<w.heap.size/\∀j,j<l.length->w.cell? ⟨b,off+j*2,none⟩=some (.int .i64 (pAt l j).1)/\w.cell? ⟨b,off+j*2+1,none⟩=some (.int .i64 (pAt l j).2):=by
 rcases h with⟨rfl,_⟩ |⟨b,off,c',e,h1,h2⟩
 ·simp at h0
 ·cases e
  exact⟨rfl,b,off,rfl,h1,h2⟩
def fl(l:Prl):List Int:=l.flatMap fun p=>[p.1,p.2]
theorem mX(l:Prl):(fl l).length=l.length*2:=by
 unfold fl
 induction l with
 | nil=>rfl
 | cons p t ih=>rw[List.flatMap_cons,List.length_append,ih];simp;omega
theorem sS(l m:Prl):fl (l++m)=fl l++fl m:=by unfold fl;rw[List.flatMap_append]
theorem FV(l:Prl):∀(j:Nat),j<l.length->(fl l)[j*2]? = some (pAt l j).1/\(fl l)[j*2+1]? = some (pAt l j).2:=by
 induction l with
 | nil=>intro j h;simp at h
 | cons p t ih=>
  intro j h
  unfold fl
  rw[List.flatMap_cons]
  cases j with
  | zero=>simp[pAt]
  | succ j=>
   have:=ih j (by simpa using h)
   unfold fl at this
   rw[show(j+1)*2=j*2+1+1 by omega]
   simpa [pAt]using this
theorem aP{w:World}{B:Nat}{e:TypeId}{v:Value}{l:Prl}(h:w.ownsRow B e 2 v l.length ((fl l).map (Value.int .i64))):Prs w v l:=by
 have h0:=h
 rcases h.2 with⟨rfl,hn⟩ |⟨g,cap,cur,rfl,hB,hg,_⟩
 ·left;exact⟨List.eq_nil_of_length_eq_zero hn,none,0,rfl⟩
 ·right
  refine⟨g,0,cap,rfl,(Array.getElem?_eq_some_iff.1 hg).1,fun j hj=> ?_⟩
  rw[Nat.zero_add,h0.cellAt (j*2) (by omega),h0.cellAt (j*2+1) (by omega)]
  have:=FV l j hj
  rw[List.getElem?_map,List.getElem?_map,this.1,this.2]
  exact⟨rfl,rfl⟩
theorem lM{w:World}{B n:Nat}{e:TypeId}{a:Option Addr}{c:Nat}{l:Prl}(h:w.ownsRow B e 2 (.slice a n c) n ((fl l).map (Value.int .i64))):Prs w (.slice a n c) l:=by
 have h1:=h.1
 rw[List.length_map,mX]at h1
 have:n=l.length:=by omega
 subst this
 exact aP h
theorem oQ(n:Int)(w:World):Calls Tryz.prog 264 #[.int .i64 n] w fun e w'=>e = .returned (.bool (inB n 0 255))/\w'=w:=by
 rcases Bool.eq_false_or_eq_true (inB n 0 255)with h | h
 ·have h1:=iw h
  rw[h]
  go_enter Tryz.func264,Tryz.ntmps264
  go_wp2
  go_ret
  exact⟨aO (by simp;omega),rfl⟩
 ·rw[h]
  rcases BL h with h1 | h1
  ·go_enter Tryz.func264,Tryz.ntmps264
   go_wp2
   go_ret
   exact⟨aO (by first | rfl |(simp;omega)),rfl⟩
  ·go_enter Tryz.func264,Tryz.ntmps264
   go_wp2
   go_ret
   exact⟨aO (by first | rfl |(simp;omega)),rfl⟩
theorem Nw(p:Int × Int)(w:World):Calls Tryz.prog 255 #[.agg #[.int .i64 p.1,.int .i64 p.2]] w fun e w'=>e = .returned (.bool (fine p))/\Below w.heap.size w w':=by
 obtain⟨k,v⟩:=p
 unfold fine
 have HK:=fun w=>oQ k w
 have HV:=fun w=>gQ v w
 dsimp only
 generalize aJ v=y at *
 generalize inB k 0 255=x at *
 cases x
 ·go_enter Tryz.func255,Tryz.ntmps255
  go_wp2_with fail
  refine(HK _).mono ?_
  rintro e w1 ⟨rfl,rfl⟩
  clear HK HV
  go_wp2
  go_ret
  exact⟨rfl,aj _⟩
 ·go_enter Tryz.func255,Tryz.ntmps255
  go_wp2_with fail
  refine(HK _).mono ?_
  rintro e w1 ⟨rfl,rfl⟩
  clear HK
  go_wp2_with fail
  refine(HV _).mono ?_
  rintro e w1 ⟨rfl,rfl⟩
  clear HV
  go_wp2
  go_ret
  exact⟨rfl,aj _⟩
theorem eG{w:World}{g:Nat}{x y:Value}{t:TypeId}(h:w.heap[g]? = some (.cells #[x,y] t)):w.cell? ⟨g,0,none⟩=some x/\w.cell? ⟨g,1,none⟩=some y/\w.frozen? ⟨g,0,none⟩=false/\w.frozen? ⟨g,1,none⟩=false:=by
 refine⟨?_, ?_, ?_, ?_⟩
 ·unfold World.cell?;rw[h];rfl
 ·unfold World.cell?;rw[h];rfl
 ·unfold World.frozen?;rw[h];rfl
 ·unfold World.frozen?;rw[h];rfl
theorem EK{l:Prl}{f i:Nat}(h:fine (pAt l i)=true)(h2:0<i->(pAt l (i - 1)).1<(pAt l i).1):scan l (f+1) i=scan l f (i+1):=by
 rw[scan,if_neg (by rw[h];simp),if_neg (by intro hh;have:=h2 hh.1;omega)]
theorem Ou{l:Prl}{f i:Nat}(h:fine (pAt l i)=false):scan l (f+1) i=3:=by rw[scan,if_pos h]
theorem Qs{l:Prl}{f i:Nat}(h:fine (pAt l i)=true)(h1:0<i)(h2:(pAt l i).1<=(pAt l (i - 1)).1):scan l (f+1) i=1:=by
 rw[scan,if_neg (by rw[h];simp),if_pos ⟨h1,h2⟩]
theorem vH(b off c n:Nat)(l:Prl)(w:World)(hn:n<=12)(hb:b<w.heap.size)
  (hc:∀j,j<n->w.cell? ⟨b,off+j*2,none⟩=some (.int .i64 (pAt l j).1)/\w.cell? ⟨b,off+j*2+1,none⟩=some (.int .i64 (pAt l j).2)) :
  Calls Tryz.prog 200 #[.slice (some ⟨b,off,none⟩) n c] w fun e w'=>e = .returned (.int .i64 (scan l n 0))/\Below w.heap.size w w':=by
 go_enter Tryz.func200,Tryz.ntmps200
 go_wp2
 go_loopw [10] (fun i wr=>∃k:Nat,k<=n/\i = .int .i64 k/\Below w.heap.size w wr/\Hid (scan l (n - k) k=scan l n 0)) (fun i _=>n - (intOf i).toNat)
 case atStart=>exact⟨0,Nat.zero_le _,rfl,Below.refl _ _,rfl⟩
 case round=>
  obtain⟨k,hk,rfl,hB,HS⟩:=hrel
  by_cases hkn:k<n
  ·have hki:(k:Int)<(n:Int):=by omega
   have hc1:=(hB.cell (p:=⟨b,off+k*2,none⟩) hb).trans (hc k hkn).1
   have hc2:=(hB.cell (p:=⟨b,off+k*2+1,none⟩) hb).trans (hc k hkn).2
   have HC:Hid (∀j,j<n->w.cell? ⟨b,off+j*2,none⟩=some (.int .i64 (pAt l j).1)/\w.cell? ⟨b,off+j*2+1,none⟩=some (.int .i64 (pAt l j).2)):=hc
   have hI:=fun w=>Nw (pAt l k) w
   obtain⟨x,hx⟩:∃x,x=(pAt l k).1:=⟨_,rfl⟩
   obtain⟨y,hy⟩:∃y,y=(pAt l k).2:=⟨_,rfl⟩
   obtain⟨f,hf⟩:∃f,f=fine (pAt l k):=⟨_,rfl⟩
   have HX:Hid (x=(pAt l k).1):=hx
   have HF:Hid (f=fine (pAt l k)):=hf
   rw[←hx]at hc1 hI
   rw[←hy]at hc2 hI
   rw[←hf]at hI
   have hbr:b<wr.heap.size:=Nat.lt_of_lt_of_le hb hB.size
   clear hx hy hf hc
   go_wp2_with fail
   refine(hI _).mono ?_
   rintro e w1 ⟨rfl,hb1⟩
   clear hI
   have hB1:Below w.heap.size w w1:=ah (hB.alloc hB.size _) hb1
   have hwr:wr.heap.size<w1.heap.size:=by have:=hb1.size;simp at this;omega
   obtain⟨g0,g1,-,-⟩:=eG ((hb1.block wr.heap.size (by simp)).trans (heap_alloc_new wr _))
   have HB1:Hid (Below w.heap.size w w1):=hB1
   have hbw:=hB1.size
   cases f
   ·have e3:Hid (scan l n 0=3):=by show _=_;rw[←HS.out,show n - k=(n - k - 1)+1 by omega];exact Ou HF.out.symm
    clear hB1 hb1 hB
    go_wp2
    go_ret
    exact⟨aG e3.out.symm,HB1.out⟩
   ·by_cases hk0:k=0
    ·subst hk0
     have HS2:Hid (scan l (n - 1) 1=scan l n 0):=by
      show _=_
      rw[show n=(n - 1)+1 by omega]
      exact(EK HF.out.symm (by omega)).symm
     clear hB1 hb1 hB HS
     go_wp2
     go_quiet (fail)
     go_wp2
     go_roundw
     case rel=>exact⟨1,by omega,by go_num,below_drewN HB1.out _,HS2⟩
     case measure=>simp[intOf];omega
    ·have hk1:0<k:=by omega
     have hkp:=(hB1.cell (p:=⟨b,off+(k - 1)*2,none⟩) hb).trans (HC.out (k - 1) (by omega)).1
     obtain⟨z,hz⟩:∃z,z=(pAt l (k - 1)).1:=⟨_,rfl⟩
     have HZ:Hid (z=(pAt l (k - 1)).1):=hz
     rw[←hz]at hkp
     obtain⟨m,rfl⟩:∃m,k=m+1:=⟨k - 1,by omega⟩
     simp only[Nat.add_sub_cancel]at hkp
     have hkg:decide (0<((m+1:Nat):Int))=true:=by simp
     clear hz hB1 hb1 hB
     by_cases hle:x<=z
     ·have hd:decide (x<=z)=true:=by simpa using hle
      have e1:Hid (scan l n 0=1):=by
       show _=_
       rw[←HS.out,show n - (m+1)=(n - (m+1) - 1)+1 by omega]
       exact Qs HF.out.symm hk1 (by rw[←HX.out,←HZ.out];exact hle)
      go_wp2
      go_quiet (fail)
      go_wp2
      go_ret
      exact⟨aG e1.out.symm,below_drewN HB1.out _⟩
     ·have hd:decide (x<=z)=false:=by simpa using hle
      have HS2:Hid (scan l (n - (m+1) - 1) (m+1+1)=scan l n 0):=by
       show _=_
       rw[←HS.out,show n - (m+1)=(n - (m+1) - 1)+1 by omega]
       exact(EK HF.out.symm (fun _=>by rw[←HX.out,←HZ.out];omega)).symm
      go_wp2
      go_quiet (fail)
      go_wp2
      go_roundw
      case rel=>exact⟨m+1+1,by omega,by go_num,below_drewN HB1.out _,by rw[show n - (m+1+1)=n - (m+1) - 1 by omega];exact HS2⟩
      case measure=>simp[intOf];omega
  ·have hkn:k=n:=by omega
   subst hkn
   have e0:Hid (scan l k 0=0):=by show _=_;rw[←HS.out,Nat.sub_self];rfl
   clear hc
   go_wp2
   go_ret
   exact⟨aG e0.out.symm,hB⟩
theorem SQ{l:Prl}(h:12<l.length):slF l=2:=by unfold slF;rw[if_pos h]
theorem SS{l:Prl}(h:¬ 12<l.length):slF l=scan l l.length 0:=by unfold slF;rw[if_neg h]
theorem dX(v:Value)(l:Prl)(w:World)(hv:Prs w v l)(hx:l.length<=1099511627776):
  Calls Tryz.prog 200 #[v] w fun e w'=>e = .returned (.int .i64 (slF l))/\Below w.heap.size w w':=by
 obtain⟨a,c,rfl⟩:=hv.shape
 by_cases h:12<l.length
 ·rw[SQ h]
  generalize l.length=n at *
  clear hv
  go_enter Tryz.func200,Tryz.ntmps200
  go_wp2
  go_ret
  exact⟨rfl,Below.refl _ _⟩
 ·rw[SS h]
  by_cases h0:0<l.length
  ·obtain⟨_,b,off,rfl,hb,hc⟩:=hv.at h0
   exact vH b off c l.length l w (by omega) hb hc
  ·have e1:l=[]:=List.eq_nil_of_length_eq_zero (by omega)
   subst e1
   simp only[List.length_nil]
   have e2:scan [] 0 0=0:=rfl
   rw[e2]
   clear hv h0 hx h e2
   go_enter Tryz.func200,Tryz.ntmps200
   go_wp2
   refine wp_loop_rounds 1 ?_;rw[rounds_succ]
   go_wp2
   go_ret
   exact⟨rfl,Below.refl _ _⟩
def mV(x k:Int):Int:=if x<k then -1 else if k<x then 1 else 0
theorem PV(x:Int)(w:World):Calls Tryz.prog 327 #[.int .i64 x] w fun e w'=>e = .returned (.bool false)/\∃n,w'=w.drewN n:=by
 go_enter Tryz.func327,Tryz.ntmps327
 go_wp2
 go_ret
 exact⟨aO (by simp),0,rfl⟩
theorem J4(x k:Int)(w:World):Calls Tryz.prog 291 #[.int .i64 x,.int .i64 k] w fun e w'=>e = .returned (.int .i64 (mV x k))/\∃n,w'=w.drewN n:=by
 have hN:=fun x w=>PV x w
 unfold mV
 by_cases h1:x<k
 ·rw[if_pos h1]
  go_enter Tryz.func291,Tryz.ntmps291
  go_wp2_with (go_at_call 327;refine(hN _ _).mono ?_;rintro e w1 ⟨rfl,n1,rfl⟩)
  go_ret
  exact⟨rfl,_,rfl⟩
 ·rw[if_neg h1]
  by_cases h2:k<x
  ·rw[if_pos h2]
   go_enter Tryz.func291,Tryz.ntmps291
   go_wp2_with (go_at_call 327;refine(hN _ _).mono ?_;rintro e w1 ⟨rfl,n1,rfl⟩)
   go_ret
   exact⟨rfl,_,rfl⟩
  ·rw[if_neg h2]
   go_enter Tryz.func291,Tryz.ntmps291
   go_wp2_with (go_at_call 327;refine(hN _ _).mono ?_;rintro e w1 ⟨rfl,n1,rfl⟩)
   go_ret
   exact⟨rfl,_,rfl⟩
theorem Je(x y k:Int)(w:World):Calls Tryz.prog 290 #[.agg #[.int .i64 x,.int .i64 y],.int .i64 k] w fun e w'=>e = .returned (.int .i64 (mV x k))/\Below w.heap.size w w':=by
 have hC:=fun w=>J4 x k w
 generalize mV x k=c at *
 go_enter Tryz.func290,Tryz.ntmps290
 go_wp2_with fail
 refine(hC _).mono ?_
 rintro e w1 ⟨rfl,n1,rfl⟩
 clear hC
 go_wp2
 go_ret
 exact⟨rfl,below_drewN (aj _) _⟩
theorem yx(b off c n:Nat)(l:Prl)(k:Int)(w:World)(HN:Hid (n=l.length))(hn:n<=12)(hb:b<w.heap.size)(HR:Hid (Ris l))
  (hc:∀j,j<n->w.cell? ⟨b,off+j*2,none⟩=some (.int .i64 (pAt l j).1)/\w.cell? ⟨b,off+j*2+1,none⟩=some (.int .i64 (pAt l j).2)) :
  Calls Tryz.prog 289 #[.slice (some ⟨b,off,none⟩) n c,.int .i64 k,.func (.func 290) #[] #[]] w fun e w'=>e = .returned (.tuple #[.int .i64 (low l k:Nat),.bool (thr l k)])/\Below w.heap.size w w':=by
 have hll:low l k<=n:=by have:=P7 l k;have:=HN.out;omega
 have HI:Hid (∀i,i<n->((pAt l i).1<k↔i<low l k)):=fun i hi=>Ut HR.out k (by have:=HN.out;omega)
 have HC:Hid (∀j,j<n->w.cell? ⟨b,off+j*2,none⟩=some (.int .i64 (pAt l j).1)/\w.cell? ⟨b,off+j*2+1,none⟩=some (.int .i64 (pAt l j).2)):=hc
 have HT:Hid (thr l k=(decide (low l k<n)&&decide ((pAt l (low l k)).1=k))):=by show _=_;rw[HN.out];rfl
 have HCM:=fun x y w=>Je x y k w
 generalize thr l k=th at *
 generalize low l k=lo at *
 clear hc
 go_enter Tryz.func289,Tryz.ntmps289
 go_wp2
 go_loopw [9,10] (fun a z wr=>∃i j:Nat,a = .int .i64 i/\z = .int .i64 j/\i<=lo/\lo<=j/\j<=n/\Below w.heap.size w wr) (fun a z _=>(intOf z).toNat - (intOf a).toNat)
 case atStart=>exact⟨0,n,rfl,rfl,by omega,hll,by omega,Below.refl _ _⟩
 case round=>
  obtain⟨i,j,rfl,rfl,hi,hj,hjn,hB⟩:=hrel
  by_cases hij:i<j
  ·have Yr:(i:Int)<(j:Int):=by omega
   obtain⟨h,hh⟩:∃h,h=(i+j)/2:=⟨_,rfl⟩
   have h1:i<=h:=by omega
   have h2:h<j:=by omega
   have h3:h<n:=by omega
   obtain⟨c0,c1⟩:=HC.out h h3
   have c0:=(hB.cell (p:=⟨b,off+h*2,none⟩) hb).trans c0
   have c1:=(hB.cell (p:=⟨b,off+h*2+1,none⟩) hb).trans c1
   have hM:=fun w=>HCM (pAt l h).1 (pAt l h).2 w
   have HX:=HI.out h h3
   generalize (pAt l h).1=x at *
   generalize (pAt l h).2=y at *
   have e1:IntKind.u64.wrap ((i:Int)+(j:Int))=(i:Int)+(j:Int):=by rw[IntKind.wrap_u64];omega
   have e2:((i:Int)+(j:Int))/2=(h:Int):=by omega
   have hhn:(h:Int)<(n:Int):=by omega
   have HH:Hid (h=(i+j)/2):=hh
   clear hh
   go_wp2_with fail
   refine(hM _).mono ?_
   rintro e w1 ⟨rfl,hb1⟩
   have hB1:=ah hB hb1
   clear hM hb1 HCM
   by_cases hx:x<k
   ·have hlt:=HX.1 hx
    have ec:mV x k = -1:=by unfold mV;rw[if_pos hx]
    rw[ec]
    clear HX ec
    go_wp2
    go_roundw
    case rel=>exact⟨h+1,j,by go_num,rfl,by omega,hj,hjn,hB1⟩
    case measure=>simp[intOf];omega
   ·have hge:lo<=h:=Nat.le_of_not_lt fun hh=>hx (HX.2 hh)
    have ec:0<=mV x k/\mV x k<=1:=by unfold mV;rw[if_neg hx];split<;>omega
    generalize mV x k=cc at *
    clear HX
    go_wp2
    go_roundw
    case rel=>exact⟨i,h,rfl,rfl,hi,hge,by omega,hB1⟩
    case measure=>simp[intOf];omega
  ·have e0:i=lo:=by omega
   subst e0
   have Yr:¬(i:Int)<(j:Int):=by omega
   by_cases hin:i<n
   ·have Yt:(i:Int)<(n:Int):=by omega
    obtain⟨c0,c1⟩:=HC.out i hin
    have c0:=(hB.cell (p:=⟨b,off+i*2,none⟩) hb).trans c0
    have c1:=(hB.cell (p:=⟨b,off+i*2+1,none⟩) hb).trans c1
    have hM:=fun w=>HCM (pAt l i).1 (pAt l i).2 w
    have HX:=HI.out i hin
    have ht:=HT.out
    rw[decide_eq_true hin,Bool.true_and]at ht
    generalize (pAt l i).1=x at *
    generalize (pAt l i).2=y at *
    have hxk:¬x<k:=fun hh=>by have:=HX.1 hh;omega
    have ec:(mV x k==0)=decide (x=k):=by
     unfold mV
     rw[if_neg hxk]
     by_cases e:x=k
     ·subst e;simp
     ·rw[if_pos (by omega),decide_eq_false e];rfl
    rw[←ht]at ec
    have ET:Hid ((mV x k==0)=th):=ec
    generalize mV x k=cc at *
    clear HCM HX HT HI ht ec
    go_wp2_with fail
    refine(hM _).mono ?_
    rintro e w1 ⟨rfl,hb1⟩
    have hB1:=ah hB hb1
    clear hM hb1
    go_wp2
    go_ret2
    exact⟨by have:=ET.out;subst this;rfl,hB1⟩
   ·have Yt:¬(i:Int)<(n:Int):=by omega
    have ht:=HT.out
    rw[decide_eq_false hin,Bool.false_and]at ht
    subst ht
    clear HCM HI HT
    go_wp2
    go_ret2
    exact⟨rfl,hB⟩
theorem U3(k:Int):thr [] k=false:=rfl
theorem Uu(k:Int):low [] k=0:=rfl
theorem zy(v:Value)(l:Prl)(k:Int)(w:World)(hv:Prs w v l)(hl:l.length<=12)(hr:Ris l):
  Calls Tryz.prog 289 #[v,.int .i64 k,.func (.func 290) #[] #[]] w fun e w'=>e = .returned (.tuple #[.int .i64 (low l k:Nat),.bool (thr l k)])/\Below w.heap.size w w':=by
 obtain⟨a,c,rfl⟩:=hv.shape
 by_cases h0:0<l.length
 ·obtain⟨_,b,off,rfl,hb,hc⟩:=hv.at h0
  exact yx b off c l.length l k w rfl hl hb hr hc
 ·have e1:l=[]:=List.eq_nil_of_length_eq_zero (by omega)
  subst e1
  rw[U3,Uu]
  simp only[List.length_nil]
  clear hv h0 hl hr
  go_enter Tryz.func289,Tryz.ntmps289
  go_wp2
  refine wp_loop_rounds 1 ?_;rw[rounds_succ]
  go_wp2
  go_ret2
  exact⟨rfl,Below.refl _ _⟩
theorem sF(v:Value)(l:Prl)(k:Int)(w:World)(hv:Prs w v l)(hl:l.length<=12)(hr:Ris l):
  Calls Tryz.prog 256 #[v,.int .i64 k] w fun e w'=>e = .returned (.tuple #[.int .i64 (low l k:Nat),.bool (thr l k)])/\Below w.heap.size w w':=by
 have hB:=zy v l k w hv hl hr
 obtain⟨a,c,rfl⟩:=hv.shape
 generalize thr l k=th at *
 generalize low l k=lo at *
 generalize l.length=n at *
 clear hv hr
 go_enter Tryz.func256,Tryz.ntmps256
 go_wp2_with fail
 refine hB.mono ?_
 rintro e w1 ⟨rfl,hb1⟩
 clear hB
 go_wp2
 go_ret2
 exact⟨rfl,hb1⟩
theorem Tryz.qL:(Tryz.prog.info? 63).map (fun i=>(i.zero,i.size,i.bytes))=some (some (.agg #[.int .i64 0,.int .i64 0]),2,16):=by kernel_rfl
theorem OA(x y:Int)(w:World):
  Calls Tryz.prog 107 #[.agg #[.int .i64 x,.int .i64 y]] w fun e w'=>e = .returned (.agg #[.int .i64 x,.int .i64 y])/\Below w.heap.size w w':=by
 go_enter Tryz.func107,Tryz.ntmps107
 go_wp2
 refine bodyPost_ret (v:= .agg #[.int .i64 x,.int .i64 y]) (by simp[results,Tryz.results107,go_sem]) rfl ⟨rfl, ?_⟩
 exact(aA _ _).alloc (by simp;omega) _
theorem IC(n:Nat):(madeCells #[Value.int .i64 0,Value.int .i64 0] n).toList=List.replicate n (Value.int .i64 0):=by
 apply List.ext_getElem
 ·simp[madeCells]
 ·intro i h1 h2
  simp only[madeCells,Array.toList_map,List.getElem_map,List.getElem_replicate]
  rcases(by omega:(Array.range n).toList[i]'(by simpa [madeCells]using h1)%2=0∨(Array.range n).toList[i]'(by simpa [madeCells]using h1)%2=1)with h | h<;>(show #[Value.int .i64 0,Value.int .i64 0][_%2]! = _;rw[h];rfl)
theorem N7{w1 w:World}{n:Nat}{l:Prl}(HN:n=l.length)(h:w1.ownsRow w.heap.size 63 2 (.slice (some ⟨w.heap.size,0,none⟩) n n) n (madeCells #[Value.int .i64 0,Value.int .i64 0] (n*2)).toList):
  w1.ownsRow w.heap.size 63 2 (.slice (some ⟨w.heap.size,0,none⟩) n n) n ((copied (fl l) 0).map (Value.int .i64)):=by
 rw[J5,mX,←HN,List.map_replicate,←IC]
 exact h
theorem l7{w:World}{B g n cap:Nat}{e:TypeId}{xs:List Value}(h:w.ownsRow B e 2 (.slice (some ⟨g,0,none⟩) n cap) n xs){j:Nat}(hj:j<n*2):∃x,w.cell? ⟨g,j,none⟩=some x:=
 ⟨_,(h.cellAt j (by omega)).trans (List.getElem?_eq_getElem (by rw[h.1];omega))⟩
theorem LG(l:Prl){j:Nat}(h:j<l.length):(fl l).getD (j*2) 0=(pAt l j).1/\(fl l).getD (j*2+1) 0=(pAt l j).2:=by
 have:=FV l j h
 rw[List.getD_eq_getElem?_getD,List.getD_eq_getElem?_getD,this.1,this.2]
 exact⟨rfl,rfl⟩
theorem U4(l:Prl){k:Nat}(h:k<l.length):((copied (fl l) (k*2)).set (k*2) (pAt l k).1).set (k*2+1) (pAt l k).2=copied (fl l) ((k+1)*2):=by
 have hl:=mX l
 rw[←(LG l h).1,Bc _ _ (by omega),←(LG l h).2,Bc _ _ (by omega)]
 congr 1
 omega
theorem JU(b off c n:Nat)(l:Prl)(w:World)(HN:Hid (n=l.length))(hx:n<=1048576)(hb:b<w.heap.size)
  (hc:∀j,j<n->w.cell? ⟨b,off+j*2,none⟩=some (.int .i64 (pAt l j).1)/\w.cell? ⟨b,off+j*2+1,none⟩=some (.int .i64 (pAt l j).2)) :
  Calls Tryz.prog 49 #[.slice (some ⟨b,off,none⟩) n c] w fun e w'=>e = .returned (.slice (some ⟨w.heap.size,0,none⟩) n n)/\Below w.heap.size w w'/\w'.ownsRow w.heap.size 63 2 (.slice (some ⟨w.heap.size,0,none⟩) n n) n ((fl l).map (Value.int .i64)):=by
 obtain⟨i0,hi,hz0,hz1,hz2⟩:=info_parts Tryz.qL
 go_enter Tryz.func49,Tryz.ntmps49
 go_wp2_with (at_make;refine wpList_make_full _ rfl _ _ 37 rfl w.heap.size 63 i0 (.agg #[.int .i64 0,.int .i64 0]) 2 Tryz.underlying37 hi hz0 hz1 _ _ _ _ n rfl rfl rfl rfl (by rw[hz2];omega) (by unfold maxLen;omega) (Nat.le_refl _) ?_)
 intro w1 hown1 hg1
 have cZ:=N7 HN.out hown1
 have hB1:Below w.heap.size w w1:=(Below.refl _ _).grown hg1 (Nat.le_refl _) (fun k hk=>by cases hk)
 clear hown1 hg1
 go_wp2
 go_loopw [4] (fun i wr=>∃k:Nat,k<=n/\i = .int .i64 k/\Below w.heap.size w wr/\w.heap.size<wr.heap.size/\wr.ownsRow w.heap.size 63 2 (.slice (some ⟨w.heap.size,0,none⟩) n n) n ((copied (fl l) (k*2)).map (Value.int .i64))) (fun i _=>n - (intOf i).toNat)
 case atStart=>exact⟨0,Nat.zero_le _,rfl,hB1,(cZ.lt _ rfl).2,cZ⟩
 case round=>
  obtain⟨k,hk,rfl,hB,hsz,ho⟩:=hrel
  by_cases hkn:k<n
  ·have hki:(k:Int)<(n:Int):=by omega
   have hc1:=(hB.cell (p:=⟨b,off+k*2,none⟩) hb).trans (hc k hkn).1
   have hc2:=(hB.cell (p:=⟨b,off+k*2+1,none⟩) hb).trans (hc k hkn).2
   have hlk:k<l.length:=by have:=HN.out;omega
   have hts:=U4 l hlk
   obtain⟨x,hx⟩:∃x,x=(pAt l k).1:=⟨_,rfl⟩
   obtain⟨y,hy⟩:∃y,y=(pAt l k).2:=⟨_,rfl⟩
   rw[←hx]at hc1 hts
   rw[←hy]at hc2 hts
   have HT:Hid (((copied (fl l) (k*2)).set (k*2) x).set (k*2+1) y=copied (fl l) ((k+1)*2)):=hts
   have HB:Hid (Below w.heap.size w wr):=hB
   have HO:Hid (wr.ownsRow w.heap.size 63 2 (.slice (some ⟨w.heap.size,0,none⟩) n n) n ((copied (fl l) (k*2)).map (Value.int .i64))):=ho
   clear hx hy hc hts cZ hB1 ho hB
   go_wp2_with fail
   refine(OA x y _).mono ?_
   rintro e w2 ⟨rfl,hb2⟩
   have ho2:=own_below HO.out hb2
   have f0:=ho2.frozenAt (k*2)
   have f1:=ho2.frozenAt (k*2+1)
   obtain⟨z0,g0⟩:=l7 ho2 (j:=k*2) (by omega)
   obtain⟨z1,g1⟩:=l7 ho2 (j:=k*2+1) (by omega)
   have s1:=(ho2.stored (k*2) (.int .i64 x)).1
   have s2:=(s1.stored (k*2+1) (.int .i64 y)).1
   rw[←List.map_set,←List.map_set,HT.out]at s2
   have hB2:Below w.heap.size w ((w2.setCell ⟨w.heap.size,k*2,none⟩ (.int .i64 x)).setCell ⟨w.heap.size,k*2+1,none⟩ (.int .i64 y)):=((ah HB.out hb2).setCell (Nat.le_refl _) _).setCell (Nat.le_refl _) _
   have hsz2:w.heap.size<w2.heap.size:=by have:=hb2.size;omega
   have HB2:Hid (Below w.heap.size w ((w2.setCell ⟨w.heap.size,k*2,none⟩ (.int .i64 x)).setCell ⟨w.heap.size,k*2+1,none⟩ (.int .i64 y))):=hB2
   have HS2:Hid (((w2.setCell ⟨w.heap.size,k*2,none⟩ (.int .i64 x)).setCell ⟨w.heap.size,k*2+1,none⟩ (.int .i64 y)).ownsRow w.heap.size 63 2 (.slice (some ⟨w.heap.size,0,none⟩) n n) n ((copied (fl l) ((k+1)*2)).map (Value.int .i64))):=s2
   clear ho2 s1 s2 hB2 hb2
   go_wp2
   go_roundw
   case rel=>exact⟨k+1,by omega,by go_num,HB2.out,by simp;omega,HS2.out⟩
   case measure=>simp[intOf];omega
  ·have hkn:k=n:=by omega
   subst hkn
   have e1:copied (fl l) (k*2)=fl l:=by rw[HN.out,←mX];exact MW _
   rw[e1]at ho
   go_wp2
   go_ret
   exact⟨rfl,hB,ho⟩
theorem KR(v:Value)(l:Prl)(w:World)(hv:Prs w v l)(hx:l.length<=1048576):
  Calls Tryz.prog 49 #[v] w fun e w'=>∃a c,e = .returned (.slice a l.length c)/\Below w.heap.size w w'/\w'.ownsRow w.heap.size 63 2 (.slice a l.length c) l.length ((fl l).map (Value.int .i64)):=by
 obtain⟨a,c,rfl⟩:=hv.shape
 by_cases h0:0<l.length
 ·obtain⟨_,b,off,rfl,hb,hc⟩:=hv.at h0
  refine(JU b off c l.length l w rfl hx hb hc).mono ?_
  rintro e w' ⟨rfl,hB,ho⟩
  exact⟨_,_,rfl,hB,ho⟩
 ·have e1:l=[]:=List.eq_nil_of_length_eq_zero (by omega)
  subst e1
  obtain⟨i0,hi,hz0,hz1,hz2⟩:=info_parts Tryz.qL
  simp only[List.length_nil]
  clear hv h0 hx
  go_enter Tryz.func49,Tryz.ntmps49
  go_wp2_with (at_make;refine wpList_make_full _ rfl _ _ 37 rfl w.heap.size 63 i0 (.agg #[.int .i64 0,.int .i64 0]) 2 Tryz.underlying37 hi hz0 hz1 _ _ _ _ 0 rfl rfl rfl rfl (by rw[hz2];omega) (by unfold maxLen;omega) (Nat.le_refl _) ?_)
  intro w1 hown1 hg1
  have hB1:Below w.heap.size w w1:=(Below.refl _ _).grown hg1 (Nat.le_refl _) (fun k hk=>by cases hk)
  have HO:Hid (w1.ownsRow w.heap.size 63 2 (.slice (some ⟨w.heap.size,0,none⟩) 0 0) 0 []):=by
   have:=hown1
   rw[IC]at this
   exact this
  clear hown1 hg1
  go_wp2
  refine wp_loop_rounds 1 ?_;rw[rounds_succ]
  go_wp2
  go_ret
  exact⟨_,_,rfl,hB1,HO.out⟩
theorem Bg(x y x' y':Int)(w:World):
  Calls Tryz.prog 130 #[.agg #[.int .i64 x,.int .i64 y],.agg #[.int .i64 x',.int .i64 y']] w fun e w'=>e = .returned (.bool (decide ((x,y)=(x',y'))))/\Below w.heap.size w w':=by
 by_cases h1:x=x'
 ·by_cases h2:y=y'
  ·subst h1 h2
   rw[decide_eq_true rfl]
   go_enter Tryz.func130,Tryz.ntmps130
   go_wp2
   go_ret
   exact⟨rfl,aA _ _⟩
  ·subst h1
   have e1:(y != y')=true:=by simpa using h2
   rw[decide_eq_false (fun h=>h2 (by cases h;rfl))]
   clear h2
   go_enter Tryz.func130,Tryz.ntmps130
   go_wp2
   go_ret
   exact⟨rfl,aA _ _⟩
 ·have e1:(x != x')=true:=by simpa using h1
  rw[decide_eq_false (fun h=>h1 (by cases h;rfl))]
  clear h1
  go_enter Tryz.func130,Tryz.ntmps130
  go_wp2
  go_ret
  exact⟨rfl,aA _ _⟩
def mM(l m:Prl)(k:Nat):Prop:=∀j,j<k->pAt l j=pAt m j
theorem mM.all{l m:Prl}(h:mM l m l.length)(hl:l.length=m.length):l=m:=by
 apply List.ext_getElem hl
 intro j h1 h2
 have:=h j h1
 rwa [eH h1,eH h2]at this
theorem mM.succ{l m:Prl}{k:Nat}(h:mM l m k)(h1:pAt l k=pAt m k):mM l m (k+1):=by
 intro j hj
 by_cases e:j=k
 ·subst e;exact h1
 ·exact h j (by omega)
theorem GY(b off c b' off' c' n:Nat)(l m:Prl)(w:World)(HL:Hid (l.length=n))(HM:Hid (m.length=n))(hn:n<=1099511627776)(hb:b<w.heap.size)(hb':b'<w.heap.size)
  (hc:∀j,j<n->w.cell? ⟨b,off+j*2,none⟩=some (.int .i64 (pAt l j).1)/\w.cell? ⟨b,off+j*2+1,none⟩=some (.int .i64 (pAt l j).2))
  (hc':∀j,j<n->w.cell? ⟨b',off'+j*2,none⟩=some (.int .i64 (pAt m j).1)/\w.cell? ⟨b',off'+j*2+1,none⟩=some (.int .i64 (pAt m j).2)) :
  Calls Tryz.prog 56 #[.slice (some ⟨b,off,none⟩) n c,.slice (some ⟨b',off',none⟩) n c'] w fun e w'=>e = .returned (.bool (decide (l=m)))/\Below w.heap.size w w':=by
 go_enter Tryz.func56,Tryz.ntmps56
 go_wp2
 go_loopw [5] (fun i wr=>∃k:Nat,k<=n/\i = .int .i64 k/\Hid (mM l m k)/\Below w.heap.size w wr) (fun i _=>n - (intOf i).toNat)
 case atStart=>exact⟨0,Nat.zero_le _,rfl,fun j hj=>by omega,Below.refl _ _⟩
 case round=>
  obtain⟨k,hk,rfl,hA,hB⟩:=hrel
  by_cases hkn:k<n
  ·have hki:(k:Int)<(n:Int):=by omega
   have c1:=After.cell ((hB.cell (p:=⟨b,off+k*2,none⟩) hb).trans (hc k hkn).1)
   have c2:=After.cell ((hB.cell (p:=⟨b,off+k*2+1,none⟩) hb).trans (hc k hkn).2)
   have c3:=After.cell ((hB.cell (p:=⟨b',off'+k*2,none⟩) hb').trans (hc' k hkn).1)
   have c4:=After.cell ((hB.cell (p:=⟨b',off'+k*2+1,none⟩) hb').trans (hc' k hkn).2)
   have hne:=After.ne wr
   have hE:=fun w=>Bg (pAt l k).1 (pAt l k).2 (pAt m k).1 (pAt m k).2 w
   have HL2:Hid (l.length=n):=HL
   generalize hx:(pAt l k).1=x at *
   generalize hy:(pAt l k).2=y at *
   generalize hx':(pAt m k).1=x' at *
   generalize hy':(pAt m k).2=y' at *
   have HP:Hid (pAt l k=(x,y)/\pAt m k=(x',y')):=⟨by rw[←hx,←hy],by rw[←hx',←hy']⟩
   obtain⟨d,hd⟩:∃d,d=decide ((x,y)=(x',y')):=⟨_,rfl⟩
   have HD:Hid (d=decide ((x,y)=(x',y'))):=hd
   rw[←hd]at hE
   have HB:Hid (Below w.heap.size w wr):=hB
   clear hx hy hx' hy' hc hc' hd hB
   go_wp2
   refine ay (by kernel_rfl) (by kernel_rfl) ?_
   repeat(first | go_big_quiet_skip |(go_big_quiet_want;go_big_quiet_op;first | go_big_quiet_on | go_big_quiet_call (first |(go_at_call 130;refine(hE _).mono ?_;rintro e wq ⟨rfl,hbq⟩;exact⟨rfl,bP (ah (After.b _) hbq)⟩))))
   refine wpQuiet_nil ?_
   rintro _ ⟨n2,rfl⟩
   have hB2:Below w.heap.size w n2.w:=ah HB.out n2.b
   cases d
   ·have e1:Hid (¬l=m):=fun e=>by
     have:=HD.out.symm
     rw[decide_eq_false_iff_not]at this
     exact this (by rw[←HP.out.1,←HP.out.2,e])
    go_wp2
    go_ret
    exact⟨aO (by symm;rw[decide_eq_false_iff_not];exact e1.out),hB2⟩
   ·go_wp2
    go_roundw
    case rel=>exact⟨k+1,by omega,by go_num,hA.out.succ (by rw[HP.out.1,HP.out.2];exact of_decide_eq_true HD.out.symm),hB2⟩
    case measure=>simp[intOf];omega
  ·clear hc hc'
   go_wp2
   go_ret
   refine⟨aO ?_,hB⟩
   symm
   rw[decide_eq_true_iff]
   have hkn:k=n:=by omega
   subst hkn
   have hxl:=HL.out
   exact mM.all (by rw[hxl];exact hA.out) (HL.out.trans HM.out.symm)
theorem J9(v u:Value)(l m:Prl)(w:World)(hv:Prs w v l)(hu:Prs w u m)(hx:l.length<=1099511627776)(hy:m.length<=1099511627776):
  Calls Tryz.prog 56 #[v,u] w fun e w'=>e = .returned (.bool (decide (l=m)))/\Below w.heap.size w w':=by
 obtain⟨a,c,rfl⟩:=hv.shape
 obtain⟨a',c',rfl⟩:=hu.shape
 by_cases hl:l.length=m.length
 ·by_cases h0:0<l.length
  ·obtain⟨_,b,off,rfl,hb,hc⟩:=hv.at h0
   obtain⟨_,b',off',rfl,hb',hc'⟩:=hu.at (by omega)
   rw[←hl]at hc' ⊢
   exact GY b off c b' off' c' l.length l m w rfl hl.symm hx hb hb' hc hc'
  ·have e1:l=[]:=List.eq_nil_of_length_eq_zero (by omega)
   have e2:m=[]:=List.eq_nil_of_length_eq_zero (by omega)
   subst e1 e2
   simp only[List.length_nil]
   clear hv hu hl h0 hx hy
   go_enter Tryz.func56,Tryz.ntmps56
   go_wp2
   refine wp_loop_rounds 1 ?_;rw[rounds_succ]
   go_wp2
   go_ret
   exact⟨rfl,Below.refl _ _⟩
 ·have hne:decide (l=m)=false:=by rw[decide_eq_false_iff_not];intro e;exact hl (by rw[e])
  rw[hne]
  obtain⟨n,hn⟩:∃n,n=l.length:=⟨_,rfl⟩
  obtain⟨k,hk⟩:∃n,n=m.length:=⟨_,rfl⟩
  rw[←hn,←hk]at hl ⊢
  have h1:((n:Int) !=(k:Int))=true:=by simp;omega
  clear hv hu hl hne hn hk
  go_enter Tryz.func56,Tryz.ntmps56
  go_wp2
  go_ret
  exact⟨rfl,Below.refl _ _⟩
theorem I7{tag a b:Int}(ht:1<=tag/\tag<=9)(ha:0<=a/\a<=65520)(hb:0<=b/\b<=65520):tgC tag [a,b]=0/\tsV tag [a,b]=bf (bg tag [a,b]):=by
 have h1:inB tag 1 9=true:=jd ht.1 ht.2
 have h3 : [a,b].all aJ=true:=by simp[bD,ha,hb]
 have h2:¬ 20<[a,b].length:=by simp
 have:=yt h1 h2 h3
 exact⟨this.1,by rw[TS this.1,this.2]⟩
theorem fV(w:World)(a b:Int)(t:TypeId):Ints .i64 (w.alloc (.cells #[.int .i64 a,.int .i64 b] t)) (.slice (some ⟨w.heap.size,0,none⟩) 2 2) [a,b]:=by
 refine Or.inr ⟨w.heap.size,0,2,rfl,by simp,fun j hj=> ?_⟩
 have hh:=heap_alloc_new w (.cells #[.int .i64 a,.int .i64 b] t)
 have hj2:j<2:=hj
 rcases(by omega:j=0∨j=1)with rfl | rfl<;>(unfold World.cell?;rw[hh];rfl)
theorem zu{w:World}{g:Nat}{a b:Int}{t:TypeId}(hg:g=w.heap.size):Ints .i64 (w.alloc (.cells #[.int .i64 a,.int .i64 b] t)) (.slice (some ⟨g,0,none⟩) 2 2) [a,b]:=by subst hg;exact fV w a b t
theorem rC(x y:Int)(w:World):(Instr.field 89 (.agg #[.int .i64 x,.int .i64 y]) 1).run Tryz.prog w = .ok (.int .i64 y) w:=by kernel_rfl
theorem oz(a b:Int)(w:World)(ha:0<=a/\a<=65520)(hb:0<=b/\b<=65520):
  Calls Tryz.prog 297 #[.int .i64 a,.int .i64 b] w fun e w'=>e = .returned (.int .i64 (t2 a b))/\Below w.heap.size w w':=by
 have hT:=fun (w:World) hv=>sW 2 (.slice (some ⟨w.heap.size,0,none⟩) 2 2) [a,b] (w.alloc (.cells #[.int .i64 a,.int .i64 b] 2)) hv (by simp)
 have hp:=I7 (tag:=2) (by omega) ha hb
 rw[hp.1,hp.2]at hT
 have e0:bf (bg 2 [a,b])=t2 a b:=rfl
 rw[e0]at hT
 generalize t2 a b=s at *
 clear hp e0
 have kf:=fun w=>rC 0 s w
 go_enter Tryz.func297,Tryz.ntmps297
 go_wp2_with fail
 refine(hT _ (fV _ _ _ _)).mono ?_
 rintro e w1 ⟨rfl,hb1⟩
 clear hT
 go_wp2
 go_ret
 exact⟨rfl,ak hb1⟩
theorem gu(tag a b:Int)(u:Value)(w:World)(ht:0<=tag/\tag<=255)(hu:Ints .i64 w u [a,b])(ha:0<=a/\a<=65520)(hb:0<=b/\b<=65520):
  Calls Tryz.prog 261 #[.int .i64 tag,u] w fun e w'=>e = .returned (.int .i64 (bf (bg tag [a,b])))/\Below w.heap.size w w':=by
 have h3 : [a,b].all aJ=true:=by simp[bD,ha,hb]
 have hB:=fun w h=>jU tag u [a,b] w h (by simp) ht h3
 have hS:=fun v w h=>lX v (bg tag [a,b]) w h (nX ht h3) (by rw[lT];simp)
 have hl:(bg tag [a,b]).length=5:=by rw[lT];rfl
 have HU:Hid (Ints .i64 w u [a,b]):=hu
 obtain⟨a',c',hu2⟩:=hu.shape
 have hu3:u = .slice a' 2 c':=hu2
 subst hu3
 clear hu2
 rw[hl]at hB
 have HL:Hid ((bg tag [a,b]).length=5):=hl
 generalize bf (bg tag [a,b])=s at *
 generalize bg tag [a,b]=ys at *
 clear hu hl h3 ha hb ht
 go_enter Tryz.func261,Tryz.ntmps261
 go_wp2_with fail
 refine(hB _ HU.out).mono ?_
 rintro e w1 ⟨v',rfl,cZ,hb1⟩
 rw[←HL.out]at cZ
 have HI:Hid (Ints .u8 w1 v' ys):=gZ cZ
 obtain⟨a1,c1,rfl⟩:=aQ cZ
 rw[HL.out]at HI ⊢
 clear hB cZ
 go_wp2_with fail
 refine(hS _ _ HI.out).mono ?_
 rintro e w2 ⟨rfl,rfl⟩
 clear hS
 go_wp2
 go_ret
 exact⟨rfl,hb1⟩
theorem gy(n:Nat)(w:World)(hn:n<=1000):
  Calls Tryz.prog 260 #[.int .i64 (n:Int)] w fun e w'=>e = .returned (.int .i64 (emp n))/\Below w.heap.size w w':=by
 have hS:=fun w=>lX (.slice none 0 0) [] w (Or.inl ⟨rfl,_,_,rfl⟩) (fun b hb=>by cases hb) (by simp)
 have e0:bf []=13:=rfl
 rw[e0]at hS
 go_enter Tryz.func260,Tryz.ntmps260
 go_wp2_with fail
 refine(hS _).mono ?_
 rintro e w1 ⟨rfl,rfl⟩
 clear hS e0
 go_wp2
 go_loopw [0,3] (fun i s wr=>∃k:Nat,k<=n/\i = .int .i64 k/\s = .int .i64 (emp (n - k))/\Below w1.heap.size w1 wr) (fun i _ _=>(intOf i).toNat)
 case atStart=>exact⟨n,Nat.le_refl _,rfl,by rw[Nat.sub_self];rfl,Below.refl _ _⟩
 case round=>
  obtain⟨k,hk,rfl,rfl,hB⟩:=hrel
  by_cases h0:0<k
  ·have hi0:(0:Int)<(k:Int):=by omega
   have hbd:=Bf (n - k)
   have he:Hid (emp (n - (k - 1))=bf (bg 2 [emp (n - k),emp (n - k)])):=by
    show _=_
    rw[show n - (k - 1)=(n - k)+1 by omega]
    rfl
   generalize emp (n - k)=x at *
   have hT:=fun w u hu=>gu 2 x x u w (by omega) hu hbd hbd
   generalize bf (bg 2 [x,x])=y at *
   go_wp2_with fail
   refine(hT _ _ (fV _ _ _ _)).mono ?_
   rintro e w2 ⟨rfl,hb2⟩
   have hB2:=ah hB (ak hb2)
   clear hT hb2 hB
   go_wp2
   go_roundw
   case rel=>exact⟨k - 1,by omega,by go_num,by rw[he.out],hB2⟩
   case measure=>simp[intOf];omega
  ·have:k=0:=by omega
   subst this
   go_wp2
   go_ret
   exact⟨rfl,hB⟩
def cutAt(l:Prl)(a b:Int)(k:Nat):Prl:=cut (l.take k) a b
theorem OW(l:Prl)(a b:Int):cutAt l a b l.length=cut l a b:=by unfold cutAt;rw[List.take_length]
theorem Df{l:Prl}{k:Nat}(h:k<l.length):l.take (k+1)=l.take k++[pAt l k]:=by
 rw[List.take_succ_eq_append_getElem h,eH h]
theorem QU{l:Prl}{a b:Int}{k:Nat}(h:k<l.length)(h1:a<=(pAt l k).1)(h2:(pAt l k).1<b):cutAt l a b (k+1)=cutAt l a b k++[pAt l k]:=by
 unfold cutAt cut
 rw[Df h,List.filter_append,List.filter_cons_of_pos (by simp[h1,h2])]
 rfl
theorem OY{l:Prl}{a b:Int}{k:Nat}(h:k<l.length)(h1:¬(a<=(pAt l k).1/\(pAt l k).1<b)):cutAt l a b (k+1)=cutAt l a b k:=by
 unfold cutAt cut
 rw[Df h,List.filter_append,List.filter_cons_of_neg (by simp;omega)]
 simp
theorem OX(l:Prl)(a b:Int)(k:Nat):(cutAt l a b k).length<=l.length:=by
 have h1:=eu (l.take k) a b
 rw[List.length_take]at h1
 unfold cutAt
 omega
theorem uN{w:World}{B:Nat}{e:TypeId}{v:Value}{l:Prl}{x y:Int}(h:w.ownsRow B e 2 v (l.length+1) ((fl l).map (Value.int .i64)++[.int .i64 x,.int .i64 y])):w.ownsRow B e 2 v (l++[(x,y)]).length ((fl (l++[(x,y)])).map (Value.int .i64)):=by
 rw[sS,List.map_append,List.length_append]
 exact h
theorem bW{w:World}{B n:Nat}{e:TypeId}{v:Value}{xs:List Value}(h:w.ownsRow B e 2 v n xs):∃a c,v = .slice a n c:=by
 rcases h.2 with⟨rfl,hn⟩ |⟨g,cap,cur,rfl,_⟩
 ·exact⟨none,0,by rw[hn]⟩
 ·exact⟨_,_,rfl⟩
theorem qR(w:World)(e:TypeId)(B:Nat)(hB:B<=w.heap.size):(w.alloc (.cells #[] e)).ownsRow B e 2 (.slice (some ⟨w.heap.size,0,none⟩) 0 0) 0 []:=
 World.ownsRow_made w #[] 0 hB (by decide) rfl
theorem NU(ad:Option Addr)(n c:Nat)(l:Prl)(a b:Int)(w:World)(HN:Hid (n=l.length))(hn:n<=1048576)(HV:Hid (Prs w (.slice ad n c) l)):
  Calls Tryz.prog 245 #[.slice ad n c,.int .i64 a,.int .i64 b] w fun e w'=>∃v',e = .returned v'/\w'.ownsRow w.heap.size 63 2 v' (cut l a b).length ((fl (cut l a b)).map (Value.int .i64))/\Below w.heap.size w w':=by
 obtain⟨i0,hi,hz0,hz1,hz2⟩:=info_parts Tryz.qL
 go_enter Tryz.func245,Tryz.ntmps245
 go_wp2
 go_loopw [7,8] (fun u i wr=>∃k:Nat,k<=n/\i = .int .i64 k/\Hid (Below w.heap.size w wr)/\Hid (wr.ownsRow w.heap.size 63 2 u (cutAt l a b k).length ((fl (cutAt l a b k)).map (Value.int .i64)))) (fun _ i _=>n - (intOf i).toNat)
 case atStart=>exact⟨0,Nat.zero_le _,rfl,aj _,qR w _ _ (Nat.le_refl _)⟩
 case round=>
  obtain⟨k,hk,rfl,hB,ho⟩:=hrel
  obtain⟨a',c',rfl⟩:=bW ho.out
  by_cases hkn:k<n
  ·have hki:(k:Int)<(n:Int):=by omega
   have hkl:k<l.length:=by have:=HN.out;omega
   obtain⟨-,bk,off,rfl,hbk,hc⟩:=HV.out.at (by omega)
   have hc1:=(hB.out.cell (p:=⟨bk,off+k*2,none⟩) hbk).trans (hc k hkl).1
   have hc2:=(hB.out.cell (p:=⟨bk,off+k*2+1,none⟩) hbk).trans (hc k hkl).2
   have HI:Hid (a<=(pAt l k).1->(pAt l k).1<b->cutAt l a b (k+1)=cutAt l a b k++[((pAt l k).1,(pAt l k).2)]):=QU hkl
   have HO:Hid (¬(a<=(pAt l k).1/\(pAt l k).1<b)->cutAt l a b (k+1)=cutAt l a b k):=OY hkl
   have hlen:=OX l a b k
   rw[←HN.out]at hlen
   generalize (pAt l k).1=x at *
   generalize (pAt l k).2=y at *
   generalize cutAt l a b k=m at *
   clear hc
   by_cases h1:a<=x
   ·by_cases h2:x<b
    ·have HI2:=HI.out h1 h2
     have HS:Hid (cutAt l a b (k+1)=m++[(x,y)]):=HI2
     have ho2:=ho.out
     have hsz:=hB.out.size
     clear HI HO HI2
     go_wp2_with (at_builtin;refine wpList_append_own _ rfl _ _ 37 rfl w.heap.size 63 i0 (.agg #[.int .i64 0,.int .i64 0]) 2 16 Tryz.underlying37 hi hz0 hz1 hz2 rfl (by decide) _ _ _ rfl (ho2.alloc _) ⟨wr.heap.size,0,none⟩ 1 1 [.int .i64 x,.int .i64 y] rfl rfl (World.news_of_block (heap_alloc_new _ _)) (ints_oneCell .i64 [x,y]) (by unfold maxLen;omega) (by omega) (by simp;omega) ?_)
     intro v' w2 hown' hgrow _
     have hb2:Below w.heap.size w w2:=(hB.out.alloc (by omega) _).grown hgrow (by simp;omega) (fun k hk=>(ho.out.lt k hk).1)
     have aN:=uN hown'
     clear hgrow hown' ho2 ho
     go_wp2
     go_roundw
     case rel=>exact⟨k+1,by omega,by go_num,hb2,by rw[HS.out];exact aN⟩
     case measure=>simp[intOf];omega
    ·have HS:Hid (cutAt l a b (k+1)=m):=HO.out (fun h=>h2 h.2)
     clear HI HO
     go_wp2
     go_roundw
     case rel=>exact⟨k+1,by omega,by go_num,hB,by rw[HS.out];exact ho⟩
     case measure=>simp[intOf];omega
   ·have HS:Hid (cutAt l a b (k+1)=m):=HO.out (fun h=>h1 h.1)
    clear HI HO
    go_wp2
    go_roundw
    case rel=>exact⟨k+1,by omega,by go_num,hB,by rw[HS.out];exact ho⟩
    case measure=>simp[intOf];omega
  ·have hkn:k=n:=by omega
   subst hkn
   have e1:cutAt l a b k=cut l a b:=by rw[HN.out];exact OW _ _ _
   rw[e1]at ho ⊢
   go_wp2
   go_ret
   exact⟨_,rfl,ho.out,hB.out⟩
theorem iH(v:Value)(l:Prl)(a b:Int)(w:World)(hv:Prs w v l)(hn:l.length<=1048576):
  Calls Tryz.prog 245 #[v,.int .i64 a,.int .i64 b] w fun e w'=>∃a' c',e = .returned (.slice a' (cut l a b).length c')/\w'.ownsRow w.heap.size 63 2 (.slice a' (cut l a b).length c') (cut l a b).length ((fl (cut l a b)).map (Value.int .i64))/\Below w.heap.size w w':=by
 obtain⟨ad,c,rfl⟩:=hv.shape
 refine(NU ad l.length c l a b w rfl hn hv).mono ?_
 rintro e w' ⟨v',rfl,ho,hb⟩
 obtain⟨a',c',rfl⟩:=bW ho
 exact⟨a',c',rfl,ho,hb⟩
theorem Oi{k:IntKind}{w:World}{B n:Nat}{e:TypeId}{v:Value}{xs:List Int}(HN:n=xs.length)(h:w.ownsRow B e 1 v n (xs.map (Value.int k))):Ints k w v xs:=by
 subst HN;exact gZ h
theorem Ey{w w':World}{B n size:Nat}{e:TypeId}{v:Value}{xs:List Value}{row:Option Nat}(h:w.ownsRow B e size v n xs)(hg:w.grownBy w' row)(hne:v.ownBlock=none∨v.ownBlock≠row):w'.ownsRow B e size v n xs:=by
 refine⟨h.1, ?_⟩
 rcases h.2 with h2 |⟨g,cap,cur,rfl,h3,h4,h5⟩
 ·exact Or.inl h2
 ·refine Or.inr ⟨g,cap,cur,rfl,h3,(hg.block g (Array.getElem?_eq_some_iff.1 h4).1 ?_).trans h4,h5⟩
  rcases hne with hne | hne
  ·simp[Value.ownBlock]at hne
  ·exact hne
def mkP(k n:Nat):Prl:=(List.range n).map fun j=>(((k+j*2:Nat):Int),((k+(j*2+1):Nat):Int))
theorem gX(k n:Nat):(mkP k n).length=n:=by simp[mkP]
theorem IJ(k n j:Nat)(h:j<n):pAt (mkP k n) j=(((k+j*2:Nat):Int),((k+(j*2+1):Nat):Int)):=by
 rw[eH (by rw[gX];exact h)]
 simp[mkP]
theorem Pm(k n:Nat):fl (mkP k n)=marks k (n*2):=by
 apply List.ext_getElem?
 intro i
 by_cases h:i<n*2
 ·have h1:=FV (mkP k n) (i/2) (by rw[gX];omega)
  rw[IJ k n (i/2) (by omega)]at h1
  have e:(marks k (n*2))[i]? = some ((k+i:Nat):Int):=by simp[marks,h]
  rw[e]
  rcases(by omega:i=i/2*2∨i=i/2*2+1)with hh | hh
  ·rw[hh,h1.1]
  ·rw[hh,h1.2]
 ·rw[List.getElem?_eq_none (by rw[mX,gX];omega),List.getElem?_eq_none (by rw[kN];omega)]
theorem Prs.grown{w w':World}{v:Value}{l:Prl}{row:Option Nat}(h:Prs w v l)(hg:w.grownBy w' row)(hne:v.ownBlock=none∨v.ownBlock≠row):Prs w' v l:=by
 rcases h with h |⟨b,off,c,rfl,hlt,hc⟩
 ·exact Or.inl h
 ·have hnb:some b≠row:=by
   rcases hne with hh | hh
   ·simp[Value.ownBlock]at hh
   ·exact hh
  exact Or.inr ⟨b,off,c,rfl,Nat.lt_of_lt_of_le hlt hg.size,fun j hj=>⟨hg.cell (hc j hj).1 hnb,hg.cell (hc j hj).2 hnb⟩⟩
theorem Qk{w:World}{B n:Nat}{e:TypeId}{v:Value}{l:Prl}(HN:n=l.length)(h:w.ownsRow B e 2 v n ((fl l).map (Value.int .i64))):Prs w v l:=by
 subst HN;exact aP h
theorem FI(B:Nat)(v:Value)(l:Prl)(k0:Nat)(w:World)(hown:w.ownsRow B 63 2 v l.length ((fl l).map (Value.int .i64)))(hx:l.length<=1099511627776)(hk0:k0<=1099511627776):
  Calls Tryz.prog 59 #[v,.int .i64 k0] w fun e w'=>e = .returned (.int .i64 ((k0+l.length*2:Nat):Int))/\w.grownBy w' v.ownBlock/\w'.ownsRow B 63 2 v l.length ((fl (mkP k0 l.length)).map (Value.int .i64)):=by
 by_cases h0:l.length=0
 ·have e1:l=[]:=List.eq_nil_of_length_eq_zero h0
  subst e1
  obtain⟨a,c,rfl⟩:∃a c,v = .slice a 0 c:=by
   rcases hown.2 with⟨rfl,hn⟩ |⟨g,cap,cur,rfl,_⟩
   ·exact⟨none,0,rfl⟩
   ·exact⟨_,_,rfl⟩
  simp only[List.length_nil]at *
  go_enter Tryz.func59,Tryz.ntmps59
  go_wp2
  refine wp_loop_rounds 1 ?_;rw[rounds_succ]
  go_wp2
  go_ret
  exact⟨rfl,World.grownBy.refl _ _,hown⟩
 ·rcases hown.2 with⟨_,h⟩ |⟨g,cap,cur,rfl,hB,hg,_⟩
  ·exact absurd h h0
  have hgs:g<w.heap.size:=(Array.getElem?_eq_some_iff.1 hg).1
  have hfl:=mX l
  have hml:fl (mkP k0 l.length)=marks k0 (fl l).length:=by rw[Pm,hfl]
  rw[hml]
  clear hg hB hml
  obtain⟨n,hn⟩:∃n,n=l.length:=⟨_,rfl⟩
  have HN:Hid ((fl l).length=n*2):=by show _=_;rw[hn];exact hfl
  rw[←hn]at hown hx h0 ⊢
  generalize fl l=xs at *
  clear hn h0 hfl
  go_enter Tryz.func59,Tryz.ntmps59
  go_wp2
  go_loopw [1,5] (fun k i wr=>∃j:Nat,j<=n/\i = .int .i64 j/\k = .int .i64 ((k0+j*2:Nat):Int)/\w.grownBy wr (some g)/\wr.ownsRow B 63 2 (.slice (some ⟨g,0,none⟩) n cap) n ((half xs k0 (j*2)).map (Value.int .i64))) (fun _ i _=>n - (intOf i).toNat)
  case atStart=>exact⟨0,Nat.zero_le _,rfl,by simp,World.grownBy.refl _ _,by rw[Nat.zero_mul,wC];exact hown⟩
  case round=>
   obtain⟨j,hj,rfl,rfl,hgr,ho⟩:=hrel
   by_cases hjn:j<n
   ·have hji:(j:Int)<(n:Int):=by omega
    have f0:=ho.frozenAt (j*2)
    have f1:=ho.frozenAt (j*2+1)
    obtain⟨x,c0⟩:=l7 ho (j:=j*2) (by omega)
    obtain⟨y,c1⟩:=l7 ho (j:=j*2+1) (by omega)
    obtain⟨s1,s2⟩:=ho.stored (j*2) (.int .i64 ((k0+j*2:Nat):Int))
    obtain⟨s3,s4⟩:=s1.stored (j*2+1) (.int .i64 ((k0+(j*2+1):Nat):Int))
    have s5:=bM (bM hgr s2) s4
    rw[←List.map_set,qI xs k0 (j*2) (by have:=HN.out;omega),←List.map_set,qI xs k0 (j*2+1) (by have:=HN.out;omega)]at s3
    have e5:(((k0+j*2:Nat):Int)+1)=((k0+(j*2+1):Nat):Int):=by omega
    have H3:Hid (((wr.setCell ⟨g,j*2,none⟩ (.int .i64 ((k0+j*2:Nat):Int))).setCell ⟨g,j*2+1,none⟩ (.int .i64 ((k0+(j*2+1):Nat):Int))).ownsRow B 63 2 (.slice (some ⟨g,0,none⟩) n cap) n ((half xs k0 (j*2+1+1)).map (Value.int .i64))/\w.grownBy ((wr.setCell ⟨g,j*2,none⟩ (.int .i64 ((k0+j*2:Nat):Int))).setCell ⟨g,j*2+1,none⟩ (.int .i64 ((k0+(j*2+1):Nat):Int))) (some g)):=⟨s3,s5⟩
    rw[←e5]at H3
    clear ho hown hgr s1 s2 s3 s4 s5 e5
    go_wp2
    go_roundw
    case rel=>
     exact⟨j+1,by omega,by go_num,by go_num,by simpa using H3.out.2,by rw[show(j+1)*2=j*2+1+1 by omega];simpa using H3.out.1⟩
    case measure=>simp[intOf];omega
   ·have hjn:j=n:=by omega
    subst hjn
    rw[←HN.out,zI]at ho
    go_wp2
    go_ret
    exact⟨rfl,hgr,ho⟩
theorem Fa(v:Value)(n k0:Nat)(w:World)(hv:Prs w v (mkP k0 n))(hx:n<=1099511627776)(hk0:k0<=1099511627776):
  Calls Tryz.prog 133 #[v,.int .i64 k0] w fun e w'=>e = .returned (.int .i64 ((k0+n*2:Nat):Int))/\w'=w:=by
 obtain⟨a,c,rfl⟩:=hv.shape
 by_cases h0:n=0
 ·subst h0
  simp only[gX]
  clear hv
  go_enter Tryz.func133,Tryz.ntmps133
  go_wp2
  refine wp_loop_rounds 1 ?_;rw[rounds_succ]
  go_wp2
  go_ret
  exact⟨rfl,rfl⟩
 ·obtain⟨_,b,off,rfl,hb,hc⟩:=hv.at (by rw[gX];omega)
  have hcm:∀j,j<n->w.cell? ⟨b,off+j*2,none⟩=some (.int .i64 ((k0+j*2:Nat):Int))/\w.cell? ⟨b,off+j*2+1,none⟩=some (.int .i64 (((k0+j*2:Nat):Int)+1)):=fun j hj=>by
   have h1:=hc j (by rw[gX];exact hj)
   rw[IJ _ _ _ hj]at h1
   refine⟨h1.1,h1.2.trans ?_⟩
   congr 2
  rw[gX]
  clear hv hc h0
  go_enter Tryz.func133,Tryz.ntmps133
  go_wp2
  go_loop [1,5] (fun k i=>∃j:Nat,j<=n/\i = .int .i64 j/\k = .int .i64 ((k0+j*2:Nat):Int)) (fun _ i=>n - (intOf i).toNat)
  case atStart=>exact⟨0,Nat.zero_le _,rfl,by simp⟩
  case round=>
   obtain⟨j,hj,rfl,rfl⟩:=hrel
   by_cases hjn:j<n
   ·have hji:(j:Int)<(n:Int):=by omega
    obtain⟨c0,c1⟩:=hcm j hjn
    have HQ:Hid (((k0+j*2:Nat):Int)+1+1=((k0+(j+1)*2:Nat):Int)):=by show _=_;omega
    have hq:(k0+j*2:Nat)<=4398046511104:=by omega
    generalize k0+j*2=q at *
    clear hcm
    go_wp2
    go_round
    case rel=>exact⟨j+1,by omega,by go_num,by rw[←HQ.out]⟩
    case measure=>simp[intOf];omega
   ·have hjn:j=n:=by omega
    subst hjn
    clear hcm
    go_wp2
    go_ret
    exact⟨rfl,rfl⟩
def kG(w:World)(code:Int)(l:Prl)(e:Ending)(w':World):Prop:=
 Below w.heap.size w w'/\∃v,e = .returned (.agg #[.int .i64 code,v])/\w'.ownsRow w.heap.size 63 2 v l.length ((fl l).map (Value.int .i64))
theorem kG.use{w w':World}{code:Int}{l:Prl}{e:Ending}(h:kG w code l e w'):∃a c,e = .returned (.agg #[.int .i64 code,.slice a l.length c])/\Below w.heap.size w w'/\w'.ownsRow w.heap.size 63 2 (.slice a l.length c) l.length ((fl l).map (Value.int .i64)):=by
 obtain⟨hb,v,rfl,ho⟩:=h
 obtain⟨a,c,rfl⟩:=bW ho
 exact⟨a,c,rfl,hb,ho⟩
def Okv(v:Value):Prop:=∀a n c,v = .slice a n c->n<=c/\(a=none->c=0)
theorem jW{w:World}{B:Nat}{e:TypeId}{v:Value}{m:Nat}{xs:List Value}(h:w.ownsRow B e 2 v m xs):Okv v:=by
 intro a n c hv
 subst hv
 rcases h.2 with⟨h1,_⟩ |⟨g,cap,cur,h1,_,_,hc,_⟩
 ·cases h1;exact⟨by omega,fun _=>rfl⟩
 ·cases h1;exact⟨hc,fun h=>by cases h⟩
theorem Au{w:World}{b off n c i j:Nat}{l:Prl}(hn:n=l.length)(hb:b<w.heap.size)(hij:i<=j)(hj:j<=n)
  (hc:∀j,j<n->w.cell? ⟨b,off+j*2,none⟩=some (.int .i64 (pAt l j).1)/\w.cell? ⟨b,off+j*2+1,none⟩=some (.int .i64 (pAt l j).2)) :
  Prs w (.slice (some ⟨b,off+i*2,none⟩) (j - i) c) ((l.take j).drop i):=by
 right
 have hl:((l.take j).drop i).length=j - i:=by rw[List.length_drop,List.length_take];omega
 refine⟨b,off+i*2,c,by rw[hl],hb,fun k hk=> ?_⟩
 rw[hl]at hk
 have h1:=hc (i+k) (by omega)
 have e:pAt ((l.take j).drop i) k=pAt l (i+k):=by
  unfold pAt
  rw[List.getD_eq_getElem?_getD,List.getD_eq_getElem?_getD,List.getElem?_drop,List.getElem?_take,if_pos (by omega)]
 rw[e,show off+i*2+k*2=off+(i+k)*2 by omega]
 exact h1
theorem dI(v:Value)(l:Prl)(a b:Int)(w:World)(hv:Prs w v l)(hcap:Okv v)(hl:l.length<=12)(hr:Ris l)(hab:a<=b):
  Calls Tryz.prog 201 #[v,.int .i64 a,.int .i64 b] w fun e w'=>(∃ad c,e = .returned (.slice ad (cut l a b).length c)/\Prs w (.slice ad (cut l a b).length c) (cut l a b)/\Okv (.slice ad (cut l a b).length c))/\Below w.heap.size w w':=by
 have hP1:=fun w' h=>sF v l a w' (hv.below h) hl hr
 have hP2:=fun w' h=>sF v l b w' (hv.below h) hl hr
 have hm:=low_mono l hab
 have hle:=P7 l b
 have hce:=VF hr a b
 have hlen:(cut l a b).length=low l b - low l a:=by rw[hce,List.length_drop,List.length_take];omega
 obtain⟨ad,c,rfl⟩:=hv.shape
 have hcp:=(hcap _ _ _ rfl).1
 have XI:Hid (ad=none->c=0):=(hcap _ _ _ rfl).2
 have HV:Hid (Prs w (.slice ad l.length c) l):=hv
 have Vl:Hid (∀bk off cc,ad=some ⟨bk,off,none⟩->0<l.length->Prs w (.slice (some ⟨bk,off+low l a*2,none⟩) (low l b - low l a) cc) (cut l a b)):=fun bk off cc e h0=>by
  subst e
  obtain⟨_,b',off',e',hb',hc'⟩:=hv.at h0
  cases e'
  rw[hce]
  exact Au rfl hb' hm hle hc'
 have HL:Hid ((cut l a b).length=low l b - low l a):=hlen
 have HN:Hid (low l b - low l a=0->cut l a b=[]):=fun h=>List.eq_nil_of_length_eq_zero (by rw[hlen];exact h)
 have QZ:0<l.length->∃bk off,ad=some ⟨bk,off,none⟩:=fun h0=>by
  obtain⟨_,b',off',e',_⟩:=hv.at h0
  exact⟨b',off',e'⟩
 rw[hlen]
 generalize cut l a b=m at *
 generalize low l b=j at *
 generalize low l a=i at *
 generalize thr l a=t1 at *
 generalize thr l b=t2 at *
 generalize l.length=n at *
 clear hv hr hcap hce hlen hab
 have hij:(i:Int)<=(j:Int):=by omega
 have hjc:(j:Int)<=(c:Int):=by omega
 have hjn:(j:Int)<=(n:Int):=by omega
 by_cases h0:0<n
 ·obtain⟨bk,off,rfl⟩:=QZ h0
  clear QZ
  by_cases hci:c=i
  ·have hji:j - i=0:=by omega
   have HM:Hid (m=[]):=HN.out hji
   have hij2:j=i:=by omega
   subst hij2 hci
   go_enter Tryz.func201,Tryz.ntmps201
   go_wp2_with fail
   refine(hP1 _ (Below.refl _ _)).mono ?_
   rintro e w1 ⟨rfl,hb1⟩
   clear hP1
   go_wp2_with fail
   refine(hP2 _ hb1).mono ?_
   rintro e w2 ⟨rfl,hb2⟩
   have hB2:=ah hb1 hb2
   clear hP2 hb1 hb2
   go_wp2
   go_ret
   exact⟨⟨_,_,by rw[Nat.sub_self];rfl,Or.inl ⟨HM.out,_,_,by rw[Nat.sub_self]⟩,fun _ _ _ h=>by cases h;exact⟨by omega,fun h=>by cases h⟩⟩,hB2⟩
  ·have Vm:=Vl.out bk off (c - i) rfl h0
   have Vm:Hid (Prs w (.slice (some ⟨bk,off+i*2,none⟩) (j - i) (c - i)) m):=Vm
   clear Vl
   go_enter Tryz.func201,Tryz.ntmps201
   go_wp2_with fail
   refine(hP1 _ (Below.refl _ _)).mono ?_
   rintro e w1 ⟨rfl,hb1⟩
   clear hP1
   go_wp2_with fail
   refine(hP2 _ hb1).mono ?_
   rintro e w2 ⟨rfl,hb2⟩
   have hB2:=ah hb1 hb2
   clear hP2 hb1 hb2
   go_wp2
   go_ret
   exact⟨⟨_,_,rfl,Vm.out,fun _ _ _ h=>by cases h;exact⟨by omega,fun h=>by cases h⟩⟩,hB2⟩
 ·have hj0:j=0:=by omega
  have hi0:i=0:=by omega
  have hn0:n=0:=by omega
  subst hj0 hi0 hn0
  have HM:Hid (m=[]):=HN.out rfl
  clear QZ Vl HN HV
  rcases ad with _ | ad
  ·have hc0:=XI.out rfl
   subst hc0
   clear XI
   go_enter Tryz.func201,Tryz.ntmps201
   go_wp2_with fail
   refine(hP1 _ (Below.refl _ _)).mono ?_
   rintro e w1 ⟨rfl,hb1⟩
   clear hP1
   go_wp2_with fail
   refine(hP2 _ hb1).mono ?_
   rintro e w2 ⟨rfl,hb2⟩
   have hB2:=ah hb1 hb2
   clear hP2 hb1 hb2
   go_wp2
   go_ret
   exact⟨⟨_,_,rfl,Or.inl ⟨HM.out,_,_,rfl⟩,fun _ _ _ h=>by cases h;exact⟨by omega,fun _=>rfl⟩⟩,hB2⟩
  ·go_enter Tryz.func201,Tryz.ntmps201
   go_wp2_with fail
   refine(hP1 _ (Below.refl _ _)).mono ?_
   rintro e w1 ⟨rfl,hb1⟩
   clear hP1
   go_wp2_with fail
   refine(hP2 _ hb1).mono ?_
   rintro e w2 ⟨rfl,hb2⟩
   have hB2:=ah hb1 hb2
   clear hP2 hb1 hb2
   go_wp2
   go_ret
   exact⟨⟨_,_,rfl,Or.inl ⟨HM.out,_,_,rfl⟩,fun _ _ _ h=>by cases h;exact⟨by omega,fun h=>by cases h⟩⟩,hB2⟩
def tJ(a b:Int):Bool:=inB a 0 256&&inB b a 256
def csC(l:Prl)(a b:Int):Int:=if slF l=0 then(if tJ a b=true then 0 else 3)else slF l
def csL(l:Prl)(a b:Int):Prl:=if slF l=0/\tJ a b=true then cut l a b else []
theorem RX{w:World}{ad:Addr}{m c:Nat}{l:Prl}(h:Prs w (.slice (some ad) m c) l):∀j u,((fl l).map (Value.int .i64))[j]? = some u->w.cell? (ad.add j)=some u:=by
 intro j u hu
 have hj:j<l.length*2:=by
  have:=(List.getElem?_eq_some_iff.1 hu).1
  rwa [List.length_map,mX]at this
 obtain⟨_,b,off,e,hb,hc⟩:=h.at (by omega)
 cases e
 have h1:=hc (j/2) (by omega)
 have h2:=FV l (j/2) (by omega)
 rw[List.getElem?_map]at hu
 rw[Go.WideShapes.add_plain]
 rcases(by omega:j=j/2*2∨j=j/2*2+1)with e | e
 ·rw[e,h2.1]at hu
  rw[show off+j=off+j/2*2 by omega,h1.1]
  exact hu
 ·rw[e,h2.2]at hu
  rw[show off+j=off+j/2*2+1 by omega,h1.2]
  exact hu
theorem Ag(v:Value)(l:Prl)(a b:Int)(w:World)(hv:Prs w v l)(hcap:Okv v)(hx:l.length<=1099511627776):
  Calls Tryz.prog 127 #[v,.int .i64 a,.int .i64 b] w fun e w'=>kG w (csC l a b) (csL l a b) e w':=by
 have hF:=fun w' h=>dX v l w' (hv.below h) hx
 unfold csC csL
 by_cases h0:slF l=0
 ·have hs:=kQ h0
  rw[if_pos h0]
  rw[h0]at hF
  by_cases hc:tJ a b=true
  ·rw[if_pos hc,if_pos ⟨h0,hc⟩]
   have hcb:=hc
   unfold tJ at hcb
   rw[Bool.and_eq_true]at hcb
   have ha:=iw hcb.1
   have hb:=iw hcb.2
   have hP:=fun w' h=>dI v l a b w' (hv.below h) hcap hs.len hs.ris hb.1
   have hcl:=eu l a b
   have hln:=hs.len
   have hlm:(cut l a b).length<=12:=by omega
   obtain⟨i0,hi,hz0,hz1,hz2⟩:=info_parts Tryz.qL
   obtain⟨ad,c,rfl⟩:=hv.shape
   have i1:¬a<0:=by omega
   have i2:¬ 256<a:=by omega
   have i3:¬b<a:=by omega
   have i4:¬ 256<b:=by omega
   generalize cut l a b=m at *
   generalize l.length=n at *
   clear hv h0 hs hc hcb hcap
   go_enter Tryz.func127,Tryz.ntmps127
   go_wp2_with fail
   refine(hF _ (aj _)).mono ?_
   rintro e w1 ⟨rfl,hb1⟩
   clear hF
   go_wp2_with fail
   refine(hP _ (ak hb1)).mono ?_
   rintro e w2 ⟨⟨VD,c2,rfl,hp2,hc2⟩,hb2⟩
   have hp2:=hp2.below hb2
   have hb2':=ah hb1 hb2
   have hB2:=ak hb2'
   obtain⟨g0,g1,f0,f1⟩:=eG ((hb2'.block w.heap.size (by simp)).trans (heap_alloc_new w _))
   have hz2:w.heap.size<w2.heap.size:=by have:=hb2'.size;simp at this;omega
   have hok:=hc2 _ _ _ rfl
   clear hP hb1 hb2 hc2
   rcases VD with _ | VD
   ·have hc0:c2=0:=hok.2 rfl
    subst hc0
    have hm0:m.length=0:=by have:=hok.1;omega
    rw[hm0]
    have HM:Hid (m=[]):=List.eq_nil_of_length_eq_zero hm0
    clear hok hp2 hm0 hb2'
    go_wp2_with (at_builtin;refine wpList_append_own_none rfl _ _ 37 rfl w2.heap.size 63 i0 2 Tryz.underlying37 hi (.slice none 0 0) 0 [] rfl (World.ownsRow_nil _ _ _ _) rfl ?_)
    go_wp2
    refine bodyPost_ret (v:= .agg #[.int .i64 0,.slice none 0 0]) (by simp[results,Tryz.results127,go_sem, *]) rfl ⟨(hB2.setCell (by simp) _).setCell (by simp) _,_,rfl, ?_⟩
    rw[HM.out]
    exact World.ownsRow_nil _ _ _ _
   ·have hnw:=RX hp2
    go_wp2_with (at_builtin;refine wpList_append_own _ rfl _ _ 37 rfl w2.heap.size 63 i0 (.agg #[.int .i64 0,.int .i64 0]) 2 16 Tryz.underlying37 hi hz0 hz1 (by assumption) rfl (by decide) (.slice none 0 0) 0 [] rfl (World.ownsRow_nil _ _ _ _) VD m.length c2 ((fl m).map (Value.int .i64)) rfl (by rw[List.length_map,mX]) hnw (ints_oneCell .i64 (fl m)) (by unfold maxLen;omega) (by omega) (Nat.le_refl _) ?_)
    intro v3 w3 hown hgrow _
    have hown:w3.ownsRow w2.heap.size 63 2 v3 m.length ((fl m).map (Value.int .i64)):=by simpa using hown
    obtain⟨a3,c3,rfl⟩:=bW hown
    have hb3:Below w2.heap.size w2 w3:=(Below.refl _ _).grown hgrow (Nat.le_refl _) (fun k hk=>by cases hk)
    have hB3:=ah hB2 hb3
    obtain⟨g0,g1,f0,f1⟩:=eG (((hb3.block w.heap.size (by omega)).trans (hb2'.block w.heap.size (by simp))).trans (heap_alloc_new w _))
    have HO:Hid (w3.ownsRow w2.heap.size 63 2 (.slice a3 m.length c3) m.length ((fl m).map (Value.int .i64))):=hown
    clear hgrow hown hb3 hb2' hp2 hnw hok
    go_wp2
    refine bodyPost_ret (v:= .agg #[.int .i64 0,.slice a3 m.length c3]) (by simp[results,Tryz.results127,go_sem, *]) rfl ⟨(hB3.setCell (by simp) _).setCell (by simp) _,_,rfl, ?_⟩
    exact aS (ownsRow_setCell_below (ownsRow_setCell_below HO.out (by simpa using hz2) _) (by simpa using hz2) _) (Nat.le_of_lt hz2)
  ·rw[if_neg hc,if_neg (fun h=>hc h.2)]
   obtain⟨ad,c,rfl⟩:=hv.shape
   have hcb:a<0∨256<a∨b<a∨256<b:=by
    have h1:tJ a b=false:=by simpa using hc
    unfold tJ at h1
    rw[Bool.and_eq_false_iff]at h1
    rcases h1 with h1 | h1
    ·rcases BL h1 with h | h
     ·exact Or.inl h
     ·exact Or.inr (Or.inl h)
    ·rcases BL h1 with h | h
     ·exact Or.inr (Or.inr (Or.inl h))
     ·exact Or.inr (Or.inr (Or.inr h))
   have hg:decide (a<0)=true∨decide (a<0)=false/\(decide (256<a)=true∨decide (256<a)=false/\(decide (b<a)=true∨decide (b<a)=false/\decide (256<b)=true)):=by
    simp only[decide_eq_true_eq,decide_eq_false_iff_not]
    omega
   generalize l.length=n at *
   clear hv h0 hs hc hcap hcb
   go_enter Tryz.func127,Tryz.ntmps127
   go_wp2_with fail
   refine(hF _ (aj _)).mono ?_
   rintro e w1 ⟨rfl,hb1⟩
   have hB1:=ak hb1
   obtain⟨g0,g1,f0,f1⟩:=eG ((hb1.block w.heap.size (by simp)).trans (heap_alloc_new w _))
   clear hF hb1
   rcases hg with hg |⟨hg,hg2 |⟨hg2,hg3 |⟨hg3,hg4⟩⟩⟩
   all_goals (
    try have i1:=of_decide_eq_true hg
    try have i1:=of_decide_eq_false hg
    try have i2:=of_decide_eq_true hg2
    try have i2:=of_decide_eq_false hg2
    try have i3:=of_decide_eq_true hg3
    try have i3:=of_decide_eq_false hg3
    try have i4:=of_decide_eq_true hg4
    go_wp2
    exact bodyPost_ret (v:= .agg #[.int .i64 3,.slice none 0 0]) (by simp[results,Tryz.results127,go_sem, *]) rfl ⟨(hB1.setCell (by simp) _).setCell (by simp) _,_,rfl,World.ownsRow_nil _ _ _ _⟩)
 ·rw[if_neg h0,if_neg (fun h=>h0 h.1)]
  obtain⟨ad,c,rfl⟩:=hv.shape
  generalize slF l=f at *
  generalize l.length=n at *
  have hfn:(f != 0)=true:=by simpa using h0
  clear hv h0 hcap
  go_enter Tryz.func127,Tryz.ntmps127
  go_wp2_with fail
  refine(hF _ (aj _)).mono ?_
  rintro e w1 ⟨rfl,hb1⟩
  obtain⟨g0,g1,f0,f1⟩:=eG ((hb1.block w.heap.size (by simp)).trans (heap_alloc_new w _))
  have hB1:=ak hb1
  clear hF hb1
  go_wp2
  exact bodyPost_ret (v:= .agg #[.int .i64 f,.slice none 0 0]) (by simp[results,Tryz.results127,go_sem, *]) rfl ⟨(hB1.setCell (by simp) _).setCell (by simp) _,_,rfl,World.ownsRow_nil _ _ _ _⟩
def Rc.s(r:Rc):Int:=bf (dR r.l r.v r.o r.p)
theorem Rc.sbd(r:Rc):0<=r.s/\r.s<=65520:=nV _
def jl(l:Rcl):Nat->Prl
 | 0=>[]
 | k+1=>jl l k++[((rAt l k).k,(rAt l k).s)]
theorem jM(l:Rcl):∀k,(jl l k).length=k
 | 0=>rfl
 | k+1=>by show(jl l k++_).length=_;rw[List.length_append,jM l k];rfl
def aB(l:Rcl):Prl:=jl l l.length
def sfL(l:Rcl):Prl:=if aI l=0 then aB l else []
theorem rX{P:Program}{w:World}{ops:Array Oper}{o:Oper}{a:Act}{K:Act->World->Prop}{Q:Exit->Act->World->Prop}{E:Prop}(hgd:o.guard=none)(s x:Operand)(t:TypeId)
  (ho:o.op = .call {callee:= .builtin .append,args:=#[s,x],argTypes:=#[t,t]})
  (base:Nat) (e:TypeId) (i:TypeInfo) (z:Value) (size bytes:Nat) (ht:P.underlying t=some (.slice e)) (hi:P.info? e=some i) (hz:i.zero=some z)
  (hsize:i.size=size) (hby:i.bytes=bytes) (hzs:z.cells.size=size) (hsz:0<size)
  (v:Value) (n:Nat) (xs:List Value) (hs:a.eval s=v) (hown:w.ownsRow base e size v n xs)
  (ad:Addr) (c:Nat) (news:List Value) (hx:a.eval x = .slice (some ad) 1 c) (hl:news.length=1*size) (hnews:∀j u,news[j]? = some u->w.cell? (ad.add j)=some u) (h1:∀u∈news,u.oneCell'=true)
  (h63:n+1<=maxLen) (hbytes:(n+1)*bytes<=140737488355328) (hbase:base<=w.heap.size)
  (h:∀g c' w',w'.ownsRow base e size (.slice (some ⟨g,0,none⟩) (n+1) c') (n+1) (xs++news)->w.grownBy w' v.ownBlock->K (a.put o.dst (.slice (some ⟨g,0,none⟩) (n+1) c')) w') :
  if Region.wanted o (yielded ops a.tmps)=true then Oper.wp P o a w K Q else E:=by
 have hw:Region.wanted o (yielded ops a.tmps)=true:=by simp[Region.wanted,hgd]
 rw[if_pos hw]
 refine wp_append_own w s x t ho base e i z size bytes ht hi hz hsize hby hzs hsz v n xs hs hown ad 1 c news hx hl hnews h1 h63 hbytes hbase fun v' w' h2 h3 _=> ?_
 rcases h2.2 with⟨rfl,hn⟩ |⟨g,cap,cur,rfl,_⟩
 ·omega
 ·exact h g cap w' h2 h3
theorem Ez{w:World}{B:Nat}{v:Value}{m:Prl}{x y:Int}{n:Nat}(h:w.ownsRow B 63 2 v (n+1) ((fl m).map (Value.int .i64)++[.int .i64 x,.int .i64 y])):w.ownsRow B 63 2 v (n+1) ((fl (m++[(x,y)])).map (Value.int .i64)):=by
 rw[sS,List.map_append]
 exact h
theorem Pg(x y:Int)(w:World):(Instr.field 89 (.agg #[.int .i64 x,.int .i64 y]) 1).run Tryz.prog w = .ok (.int .i64 y) w:=by kernel_rfl
theorem lg{w:World}{B e size n:Nat}{v:Value}{xs:List Value}(h:w.ownsRow B e size v n xs):∃a c,v = .slice a n c:=by
 rcases h.2 with⟨rfl,rfl⟩ |⟨g,cap,cur,rfl,_⟩
 ·exact⟨none,0,rfl⟩
 ·exact⟨_,_,rfl⟩
theorem Aj(b off c n:Nat)(l:Rcl)(w:World)(hn:n<=12)(hb:b<w.heap.size)(hok:∀j,j<n->(rAt l j).c=0)(hc:∀j,j<n->fP w b (off+j*4) (rAt l j))
  (hF:∀w',Below w.heap.size w w'->Calls Tryz.prog 109 #[.agg #[.slice (some ⟨b,off,none⟩) n c]] w' fun e w''=>e = .returned (.int .i64 0)/\Below w'.heap.size w' w'') :
  Calls Tryz.prog 128 #[.agg #[.slice (some ⟨b,off,none⟩) n c]] w fun e w'=>∃u,e = .returned (.agg #[.int .i64 0,u])/\Below w.heap.size w w'/\w'.ownsRow w.heap.size 63 2 u n ((fl (jl l n)).map (Value.int .i64)):=by
 obtain⟨i0,hi,hz0,hz1,hz2⟩:=info_parts Tryz.qL
 obtain⟨W,hW⟩:∃W,W=(w.alloc (.cells #[.slice (some ⟨b,off,none⟩) n c] 36)).alloc (.cells #[.int .i64 0,.slice none 0 0] 215):=⟨_,rfl⟩
 have HW:Hid _:=hW.symm
 have hB:Below w.heap.size w W:=by rw[hW];exact aA _ _
 have h1:W.heap[w.heap.size+1]? = some (.cells #[.int .i64 0,.slice none 0 0] 215):=by rw[hW];exact aU w _ _
 have h2:W.heap[w.heap.size]? = some (.cells #[.slice (some ⟨b,off,none⟩) n c] 36):=by rw[hW];exact heap_alloc_old' _ _ _ (heap_alloc_new w _)
 have hF:=hF W hB
 clear hW
 go_enter Tryz.func128,Tryz.ntmps128
 go_wp2_with fail
 rw[HW.out]
 refine hF.mono ?_
 rintro e w1 ⟨rfl,hb1⟩
 have hB1:=ah hB hb1
 have h1:=(hb1.block _ (Array.getElem?_eq_some_iff.1 h1).1).trans h1
 have h2:=(hb1.block _ (Array.getElem?_eq_some_iff.1 h2).1).trans h2
 have k2:w1.cell? ⟨w.heap.size,0,none⟩=some (.slice (some ⟨b,off,none⟩) n c):=by unfold World.cell?;rw[h2];rfl
 have hlt1:w.heap.size+1<w1.heap.size:=(Array.getElem?_eq_some_iff.1 h1).1
 have HH:Hid (w1.heap[w.heap.size+1]? = some (.cells #[.int .i64 0,.slice none 0 0] 215)):=h1
 have HC:Hid (∀j,j<n->fP w1 b (off+j*4) (rAt l j)):=fun j hj=>(hc j hj).below hB1 hb
 have hb1':b<w1.heap.size:=Nat.lt_of_lt_of_le hb hB1.size
 have HB1:Hid (Below w.heap.size w w1):=hB1
 clear hF hb1 hB h1 h2 hc hB1
 go_wp2
 go_loopw [4,16] (fun u i wr=>∃k:Nat,k<=n/\i = .int .i64 k/\Hid (Below w1.heap.size w1 wr)/\Hid (wr.ownsRow w1.heap.size 63 2 u k ((fl (jl l k)).map (Value.int .i64)))) (fun _ i _=>n - (intOf i).toNat)
 case atStart=>exact⟨0,Nat.zero_le _,rfl,Below.refl _ _,World.ownsRow_nil _ _ _ _⟩
 case round=>
  obtain⟨k,hk,rfl,hB,ho⟩:=hrel
  obtain⟨a',c',rfl⟩:=lg ho.out
  by_cases hkn:k<n
  ·have hki:(k:Int)<(n:Int):=by omega
   have hr:=(HC.out k hkn).below hB.out hb1'
   have hc0:=hok k hkn
   have gV:=fun w=>pG (rAt l k).l (rAt l k).v (rAt l k).o (rAt l k).p w (Rc.wU hc0)
   have hRs:=fun w=>kW (rAt l k).l (rAt l k).v (rAt l k).o (rAt l k).p w (by have:=Rc.nU hc0;omega)
   have e1:recC (rAt l k).l (rAt l k).v (rAt l k).o (rAt l k).p=0:=hc0
   rw[FX e1,e1]at hRs
   have e2:dY (rAt l k).l=(rAt l k).k:=rfl
   have e3:bf (dR (rAt l k).l (rAt l k).v (rAt l k).o (rAt l k).p)=(rAt l k).s:=rfl
   rw[e2]at gV
   rw[e3]at hRs
   have HG:Hid (jl l (k+1)=jl l k++[((rAt l k).k,(rAt l k).s)]):=rfl
   obtain⟨d0,d1,d2,d3⟩:=hr
   unfold dG at gV hRs
   generalize (rAt l k).k=kz at *
   generalize (rAt l k).s=sz at *
   generalize (rAt l k).l=x0 at *
   generalize (rAt l k).v=x1 at *
   generalize (rAt l k).o=x2 at *
   generalize (rAt l k).p=x3 at *
   have hfx:=Pg
   have Yq:b<wr.heap.size:=Nat.lt_of_lt_of_le hb1' hB.out.size
   obtain⟨V,hV⟩:∃V,V=wr.alloc (.cells #[.string x0,.int .i64 x1,.int .i64 x2,.int .i64 x3] 46):=⟨_,rfl⟩
   have HV:Hid _:=hV.symm
   have TB:Below wr.heap.size wr V:=by rw[hV];exact aj _
   have TD:V.heap[wr.heap.size]? = some (.cells #[.string x0,.int .i64 x1,.int .i64 x2,.int .i64 x3] 46):=by rw[hV];exact heap_alloc_new wr _
   have hlt:=(Array.getElem?_eq_some_iff.1 TD).1
   have vg:Hid (∀w',Below V.heap.size V w'->w'.cell? ⟨wr.heap.size,0,none⟩=some (.string x0)/\w'.cell? ⟨wr.heap.size,1,none⟩=some (.int .i64 x1)/\w'.cell? ⟨wr.heap.size,2,none⟩=some (.int .i64 x2)/\w'.cell? ⟨wr.heap.size,3,none⟩=some (.int .i64 x3)):=fun w' h=>jT ((h.block wr.heap.size hlt).trans TD)
   have HOW:Hid (∀w',Below V.heap.size V w'->w'.ownsRow w1.heap.size 63 2 (.slice a' k c') k ((fl (jl l k)).map (Value.int .i64))):=fun w' h=>own_below (own_below ho.out TB) h
   have LM:∀j,(Value.slice a' k c').ownBlock=some j->w1.heap.size<=j/\j<wr.heap.size:=fun j hj=>ho.out.lt j hj
   obtain⟨g0,g1,g2,g3⟩:=jT TD
   have hbr:=Below.refl V.heap.size V
   have Vt:Hid (w1.heap.size<=wr.heap.size):=hB.out.size
   have Y8:Hid (wr.heap.size<=V.heap.size):=TB.size
   have Y7:Hid (Below wr.heap.size wr V):=TB
   clear hc0 e1 e2 e3 hV TD TB
   go_wp2_with fail
   rw[HV.out]
   go_region_held3 (fun w'=>w'.cell? ⟨wr.heap.size,0,none⟩=some (.string x0)/\w'.cell? ⟨wr.heap.size,1,none⟩=some (.int .i64 x1)/\w'.cell? ⟨wr.heap.size,2,none⟩=some (.int .i64 x2)/\w'.cell? ⟨wr.heap.size,3,none⟩=some (.int .i64 x3))
    (first | with_reducible exact⟨g0,g1,g2,g3⟩|with_reducible exact vg.out _ hbr | with_reducible exact vg.out _ hbr.drew | with_reducible exact vg.out _ (hbr.alloc hbr.size _)|with_reducible exact hlast)
    (first
     |(go_at_call 118;refine(gV _).mono ?_;rintro e w5 ⟨rfl,hb5⟩;have hbr:Below V.heap.size V w5:=(by first | exact ah hbr hb5 | exact ah hbr.drew hb5))
     |(go_at_call 166;refine(hRs _).mono ?_;rintro e w6 ⟨rfl,hb6⟩;have hbr:Below V.heap.size V w6:=(by first | exact ah hbr hb6 | exact ah hbr.drew hb6))
     |(refine rX (by rfl) _ _ _ (by rfl) w1.heap.size 63 i0 (.agg #[.int .i64 0,.int .i64 0]) 2 16 Tryz.underlying37 hi hz0 hz1 hz2 rfl (by decide) (.slice a' k c') k _ (by rfl) (HOW.out _ (hbr.alloc hbr.size _)) ⟨w6.heap.size,0,none⟩ 1 [.int .i64 kz,.int .i64 sz] (by rfl) (by rfl) (World.news_of_block (heap_alloc_new _ _)) (ints_oneCell .i64 [kz,sz]) (by unfold maxLen;omega) (by omega) (by have:=Vt.out;have:=Y8.out;have:=hbr.size;simp;omega) ?_;intro g7 c7 w7 PL nM;have hlast:w7.cell? ⟨wr.heap.size,0,none⟩=some (.string x0)/\w7.cell? ⟨wr.heap.size,1,none⟩=some (.int .i64 x1)/\w7.cell? ⟨wr.heap.size,2,none⟩=some (.int .i64 x2)/\w7.cell? ⟨wr.heap.size,3,none⟩=some (.int .i64 x3):=(by
       have hne:some wr.heap.size≠(Value.slice a' k c').ownBlock:=(fun e=>by have:=LM _ e.symm;omega)
       have q:=vg.out _ (hbr.alloc hbr.size (.cells #[.int .i64 kz,.int .i64 sz] 63))
       exact⟨nM.cell q.1 hne,nM.cell q.2.1 hne,nM.cell q.2.2.1 hne,nM.cell q.2.2.2 hne⟩)))
   have Vj:Hid (w7.ownsRow w1.heap.size 63 2 (.slice (some ⟨g7,0,none⟩) (k+1) c7) (k+1) ((fl (jl l (k+1))).map (Value.int .i64))):=(by rw[HG.out];exact Ez PL:w7.ownsRow w1.heap.size 63 2 (.slice (some ⟨g7,0,none⟩) (k+1) c7) (k+1) ((fl (jl l (k+1))).map (Value.int .i64)))
   have dV:Below w1.heap.size w1 (w6.alloc (.cells #[.int .i64 kz,.int .i64 sz] 63)):=ah hB.out (ah Y7.out (hbr.alloc hbr.size _))
   have OE:Hid (Below w1.heap.size w1 w7):=dV.grown nM dV.size (fun j hj=>(LM j hj).1)
   clear dV nM PL hlast HOW vg
   go_wp2
   go_roundw
   case rel=>exact⟨k+1,by omega,by go_num,OE,Vj⟩
   case measure=>simp[intOf];omega
  ·have hkn:k=n:=by omega
   subst hkn
   have hh:=(hB.out.block _ hlt1).trans HH.out
   obtain⟨c0,c1,f0,f1⟩:=bQ hh
   have AY:Hid (Below w.heap.size w wr):=ah HB1.out hB.out
   have sJ:Hid (w.heap.size<=w1.heap.size):=HB1.out.size
   clear hh HC
   go_wp2
   refine bodyPost_ret (v:= .agg #[.int .i64 0,.slice a' k c']) (by simp[results,Tryz.results128,go_sem,c0,c1]) rfl ⟨.slice a' k c',rfl,(AY.out.setCell (Nat.le_succ _) _).setCell (Nat.le_succ _) _, ?_⟩
   exact aS (ownsRow_setCell_below (ownsRow_setCell_below ho.out (by show w.heap.size+1<w1.heap.size;exact hlt1) _) (by show w.heap.size+1<w1.heap.size;exact hlt1) _) sJ.out
theorem gW(v:Value)(l:Rcl)(w:World)(hv:Rcs w v l)(hl:Lbs l)(hx:l.length<=1048576):
  Calls Tryz.prog 128 #[.agg #[v]] w fun e w'=>kG w (aI l) (sfL l) e w':=by
 have hF:=fun w' hb=>aY v l w' (hv.below (w':=w') hb) hl (by omega)
 obtain⟨a,c,rfl⟩:=hv.shape
 by_cases h0:aI l=0
 ·have hok:=dP h0
  have e1:sfL l=jl l l.length:=by unfold sfL;rw[if_pos h0];rfl
  rw[h0]at hF ⊢
  rw[e1]
  by_cases hl0:0<l.length
  ·obtain⟨_,b,off,rfl,hb,hc⟩:=hv.at hl0
   refine(Aj b off c l.length l w hok.len hb hok.ok hc hF).mono ?_
   rintro e w' ⟨u,rfl,hB,ho⟩
   exact⟨hB,u,rfl,by rw[jM];exact ho⟩
  ·have e2:l=[]:=List.eq_nil_of_length_eq_zero (by omega)
   subst e2
   simp only[List.length_nil]at *
   have hF:=fun o o'=>hF ((w.alloc o).alloc o') (aA _ _)
   clear hv hl0 hok e1 h0 hl
   go_enter Tryz.func128,Tryz.ntmps128
   go_wp2_with fail
   refine(hF _ _).mono ?_
   rintro e w1 ⟨rfl,hb1⟩
   obtain⟨c0,c1,f0,f1⟩:=bQ ((hb1.block (w.heap.size+1) (by simp)).trans (aU w _ _))
   have k2:w1.cell? ⟨w.heap.size,0,none⟩=some (.slice a 0 c):=by unfold World.cell?;rw[(hb1.block w.heap.size (by simp;omega)).trans (heap_alloc_old' _ _ _ (heap_alloc_new w _))];rfl
   have hB1:Below w.heap.size w w1:=ak (ak hb1)
   clear hF hb1
   go_wp2
   refine wp_loop_rounds 1 ?_;rw[rounds_succ]
   go_wp2
   exact bodyPost_ret (v:= .agg #[.int .i64 0,.slice none 0 0]) (by simp[results,Tryz.results128,go_sem,c0,c1]) rfl ⟨(hB1.setCell (Nat.le_succ _) _).setCell (Nat.le_succ _) _,_,rfl,World.ownsRow_nil _ _ _ _⟩
 ·have e1:sfL l=[]:=by unfold sfL;rw[if_neg h0]
  have hqn:(aI l != 0)=true:=by simpa using h0
  rw[e1]
  have hF:=fun o o'=>hF ((w.alloc o).alloc o') (aA _ _)
  generalize aI l=q at *
  generalize l.length=n at *
  clear hv e1 h0
  go_enter Tryz.func128,Tryz.ntmps128
  go_wp2_with fail
  refine(hF _ _).mono ?_
  rintro e w1 ⟨rfl,hb1⟩
  obtain⟨c0,c1,f0,f1⟩:=bQ ((hb1.block (w.heap.size+1) (by simp)).trans (aU w _ _))
  have hB1:Below w.heap.size w w1:=ak (ak hb1)
  clear hF hb1
  go_wp2
  exact bodyPost_ret (v:= .agg #[.int .i64 q,.slice none 0 0]) (by simp[results,Tryz.results128,go_sem,c0,c1]) rfl ⟨(hB1.setCell (Nat.le_succ _) _).setCell (Nat.le_succ _) _,_,rfl,World.ownsRow_nil _ _ _ _⟩
theorem MF(l:Rcl):∀k j,j<k->pAt (jl l k) j=((rAt l j).k,(rAt l j).s)
 | 0,j,h=>absurd h (by omega)
 | k+1,j,h=>by
  show pAt (jl l k++[((rAt l k).k,(rAt l k).s)]) j=_
  by_cases hj:j<k
  ·rw[←MF l k j hj]
   unfold pAt
   rw[List.getD_eq_getElem?_getD,List.getD_eq_getElem?_getD,List.getElem?_append_left (by rw[jM];exact hj)]
  ·have:j=k:=by omega
   subst this
   unfold pAt
   rw[List.getD_eq_getElem?_getD,List.getElem?_append_right (by rw[jM];omega),jM]
   simp
theorem nR{l:Rcl}(h:iZ l):slF (aB l)=0:=by
 have hlen:(aB l).length=l.length:=jM l _
 have:=h.len
 unfold slF
 rw[if_neg (by omega),hlen]
 apply JE
 intro j _ hj
 have hj:j<l.length:=by omega
 have e:∀i,i<l.length->pAt (aB l) i=((rAt l i).k,(rAt l i).s):=fun i hi=>MF l _ i hi
 rw[e j hj]
 refine⟨?_,fun h0=> ?_⟩
 ·unfold fine
  have k1:=(rAt l j).kbd
  have k2:=(rAt l j).sbd
  rw[jd k1.1 (by show(rAt l j).k<=255;omega),(bD _).2 k2]
  rfl
 ·rw[e (j - 1) (by omega)]
  have:=h.up j hj
  rcases j with _ | m
  ·omega
  ·exact this
theorem vV(l:Rcl):(aB l).length=l.length:=jM l _
theorem Iu(g og b off c n:Nat)(l:Rcl)(w:World)(hn:n<=12)(hg:g<w.heap.size)(hb:b<w.heap.size)(hok:∀j,j<n->(rAt l j).c=0)(hD:w.cell? ⟨g,og,none⟩=some (.slice (some ⟨b,off,none⟩) n c))(hc:∀j,j<n->fP w b (off+j*4) (rAt l j)):
  Calls Tryz.prog 154 #[.pointer (some ⟨g,og,none⟩)] w fun e w'=>∃u,e = .returned u/\Below w.heap.size w w'/\w'.ownsRow w.heap.size 63 2 u n ((fl (jl l n)).map (Value.int .i64)):=by
 obtain⟨i0,hi,hz0,hz1,hz2⟩:=info_parts Tryz.qL
 have HD:Hid (∀w',Below w.heap.size w w'->w'.cell? ⟨g,og,none⟩=some (.slice (some ⟨b,off,none⟩) n c)):=fun w' h=>(h.cell (p:=⟨g,og,none⟩) hg).trans hD
 go_enter Tryz.func154,Tryz.ntmps154
 go_wp2
 go_loopw [3,4] (fun u i wr=>∃k:Nat,k<=n/\i = .int .i64 k/\Hid (Below w.heap.size w wr)/\Hid (wr.ownsRow w.heap.size 63 2 u k ((fl (jl l k)).map (Value.int .i64)))) (fun _ i _=>n - (intOf i).toNat)
 case atStart=>exact⟨0,Nat.zero_le _,rfl,aj _,qR w 63 w.heap.size (Nat.le_refl _)⟩
 case round=>
  obtain⟨k,hk,rfl,hB,ho⟩:=hrel
  obtain⟨a',c',rfl⟩:=lg ho.out
  have VP:=HD.out _ hB.out
  by_cases hkn:k<n
  ·have hki:(k:Int)<(n:Int):=by omega
   have hc0:=hok k hkn
   have gV:=fun w=>lW (rAt l k).l w (Rc.nU hc0)
   have Vp:Hid (∀w',Below w.heap.size w w'->lG w' b (off+k*4) (rAt l k).l (rAt l k).v (rAt l k).o (rAt l k).p):=fun w' h=>((hc k hkn).below h hb).t
   have hRs:=fun w' (h:Below w.heap.size w w')=>Ap b (off+k*4) (rAt l k).l (rAt l k).v (rAt l k).o (rAt l k).p w' (Vp.out w' h) (yh hc0) (Nat.lt_of_lt_of_le hb h.size)
   have e2:dY (rAt l k).l=(rAt l k).k:=rfl
   have e3:bf (dR (rAt l k).l (rAt l k).v (rAt l k).o (rAt l k).p)=(rAt l k).s:=rfl
   rw[e2]at gV
   rw[e3]at hRs
   have HG:Hid (jl l (k+1)=jl l k++[((rAt l k).k,(rAt l k).s)]):=rfl
   generalize (rAt l k).k=kz at *
   generalize (rAt l k).s=sz at *
   generalize (rAt l k).l=x0 at *
   generalize (rAt l k).v=x1 at *
   generalize (rAt l k).o=x2 at *
   generalize (rAt l k).p=x3 at *
   have vg:Hid (∀w',Below wr.heap.size wr w'->w'.cell? ⟨g,og,none⟩=some (.slice (some ⟨b,off,none⟩) n c)/\w'.cell? ⟨b,off+k*4,none⟩=some (.string x0)):=fun w' h=>⟨HD.out _ (ah hB.out h),(Vp.out _ (ah hB.out h)).c0⟩
   have Y2:Hid (∀w',Below wr.heap.size wr w'->Calls Tryz.prog 153 #[.pointer (some ⟨b,off+k*4,none⟩)] w' fun e w''=>e = .returned (.int .i64 sz)/\Below w'.heap.size w' w''):=fun w' h=>hRs w' (ah hB.out h)
   have HOW:Hid (∀w',Below wr.heap.size wr w'->w'.ownsRow w.heap.size 63 2 (.slice a' k c') k ((fl (jl l k)).map (Value.int .i64))):=fun w' h=>own_below ho.out h
   have LM:∀j,(Value.slice a' k c').ownBlock=some j->w.heap.size<=j/\j<wr.heap.size:=fun j hj=>ho.out.lt j hj
   obtain⟨g0,g1⟩:=vg.out wr (Below.refl _ _)
   have hbr:=Below.refl wr.heap.size wr
   have hgb:some g≠(Value.slice a' k c').ownBlock:=fun e=>by have:=LM _ e.symm;omega
   have hbb:some b≠(Value.slice a' k c').ownBlock:=fun e=>by have:=LM _ e.symm;omega
   have Vt:Hid (w.heap.size<=wr.heap.size):=hB.out.size
   clear hc0 e2 e3 hc hRs hok Vp
   go_wp2_with fail
   go_region_held3 (fun w'=>w'.cell? ⟨g,og,none⟩=some (.slice (some ⟨b,off,none⟩) n c)/\w'.cell? ⟨b,off+k*4,none⟩=some (.string x0))
    (first | with_reducible exact⟨g0,g1⟩|with_reducible exact vg.out _ hbr | with_reducible exact vg.out _ hbr.drew | with_reducible exact vg.out _ (hbr.alloc hbr.size _)|with_reducible exact hlast)
    (first
     |(go_at_call 72;refine(gV _).mono ?_;rintro e w5 ⟨rfl,hb5⟩;have hbr:Below wr.heap.size wr w5:=(by first | exact ah hbr hb5 | exact ah hbr.drew hb5))
     |(go_at_call 153;refine(Y2.out _ (by first | exact hbr | exact hbr.drew)).mono ?_;rintro e w6 ⟨rfl,hb6⟩;have hbr:Below wr.heap.size wr w6:=(by first | exact ah hbr hb6 | exact ah hbr.drew hb6))
     |(refine rX (by rfl) _ _ _ (by rfl) w.heap.size 63 i0 (.agg #[.int .i64 0,.int .i64 0]) 2 16 Tryz.underlying37 hi hz0 hz1 hz2 rfl (by decide) (.slice a' k c') k _ (by rfl) (HOW.out _ (hbr.alloc hbr.size _)) ⟨w6.heap.size,0,none⟩ 1 [.int .i64 kz,.int .i64 sz] (by rfl) (by rfl) (World.news_of_block (heap_alloc_new _ _)) (ints_oneCell .i64 [kz,sz]) (by unfold maxLen;omega) (by omega) (by have:=Vt.out;have:=hbr.size;simp;omega) ?_;intro g7 c7 w7 PL nM;have hlast:w7.cell? ⟨g,og,none⟩=some (.slice (some ⟨b,off,none⟩) n c)/\w7.cell? ⟨b,off+k*4,none⟩=some (.string x0):=(by
       have q:=vg.out _ (hbr.alloc hbr.size (.cells #[.int .i64 kz,.int .i64 sz] 63))
       exact⟨nM.cell q.1 hgb,nM.cell q.2 hbb⟩)))
   have Vj:Hid (w7.ownsRow w.heap.size 63 2 (.slice (some ⟨g7,0,none⟩) (k+1) c7) (k+1) ((fl (jl l (k+1))).map (Value.int .i64))):=(by rw[HG.out];exact Ez PL:w7.ownsRow w.heap.size 63 2 (.slice (some ⟨g7,0,none⟩) (k+1) c7) (k+1) ((fl (jl l (k+1))).map (Value.int .i64)))
   have dV:Below w.heap.size w (w6.alloc (.cells #[.int .i64 kz,.int .i64 sz] 63)):=ah hB.out (hbr.alloc hbr.size _)
   have OE:Hid (Below w.heap.size w w7):=dV.grown nM dV.size (fun j hj=>(LM j hj).1)
   clear dV nM PL hlast HOW vg
   go_wp2
   go_roundw
   case rel=>exact⟨k+1,by omega,by go_num,OE,Vj⟩
   case measure=>simp[intOf];omega
  ·have hkn:k=n:=by omega
   subst hkn
   clear hc hok
   go_wp2
   go_ret
   exact⟨_,rfl,hB.out,ho.out⟩
theorem jk(g og:Nat)(v:Value)(l:Rcl)(w:World)(hg:g<w.heap.size)(hD:w.cell? ⟨g,og,none⟩=some v)(hv:Rcs w v l)(hok:iZ l):
  Calls Tryz.prog 154 #[.pointer (some ⟨g,og,none⟩)] w fun e w'=>∃u,e = .returned u/\Below w.heap.size w w'/\w'.ownsRow w.heap.size 63 2 u (aB l).length ((fl (aB l)).map (Value.int .i64)):=by
 obtain⟨a,c,rfl⟩:=hv.shape
 have e1:(aB l).length=l.length:=jM l _
 rw[e1]
 by_cases h0:0<l.length
 ·obtain⟨_,b,off,rfl,hb,hc⟩:=hv.at h0
  exact Iu g og b off c l.length l w hok.len hg hb hok.ok hD hc
 ·have e2:l=[]:=List.eq_nil_of_length_eq_zero (by omega)
  subst e2
  have e3:fl (aB [])=[]:=rfl
  rw[e3]
  simp only[List.length_nil]at *
  clear hv h0 hok e1 e3
  have HN:Hid ((w.alloc (.cells #[] 63)).ownsRow w.heap.size 63 2 (.slice (some ⟨w.heap.size,0,none⟩) 0 0) 0 []):=qR w 63 w.heap.size (Nat.le_refl _)
  have Z5:g≠w.heap.size:=by omega
  go_enter Tryz.func154,Tryz.ntmps154
  go_wp2
  refine wp_loop_rounds 1 ?_;rw[rounds_succ]
  go_wp2
  go_ret
  exact⟨_,rfl,aj _,HN.out⟩
theorem bU{l:Prl}{n:Nat}{q:Int}:cut l (q*(2^n:Nat)) (q*(2^n:Nat)+(2^n:Nat))=[]↔¬has l n q:=by
 rw[tK,List.filter_eq_nil_iff]
 unfold has
 constructor
 ·rintro h ⟨p,hp,e⟩
  exact h p hp (decide_eq_true e)
 ·intro h p hp e
  exact h ⟨p,hp,of_decide_eq_true e⟩
theorem UD{l:Prl}{q:Int}{p:Int × Int}{t:Prl}(h:cut l (q*(2^0:Nat)) (q*(2^0:Nat)+(2^0:Nat))=p::t):nd l 0 q=l3 p:=by
 rw[tK]at h
 unfold nd
 have:l.find? (fun p=>p.1==q)=some p:=by
  have e:l.find? (fun p=>p.1==q)=(l.filter fun p=>decide (p.1/(2^0:Nat)=q)).head?:=by
   rw[List.head?_filter]
   congr 1
   funext p
   rw[Nat.pow_zero,Int.natCast_one,Int.ediv_one]
   rfl
  rw[e,h]
  rfl
 rw[this]
theorem L6{l:Prl}{n:Nat}{q x:Int}(hx:x/2=q):nd (cut l (q*(2^(n+1):Nat)) (q*(2^(n+1):Nat)+(2^(n+1):Nat))) n x=nd l n x:=by
 rw[tK]
 apply IL
 rw[List.filter_filter]
 congr 1
 funext p
 rw[iP]
 generalize p.1/(2^n:Nat)=y
 by_cases h1:y=x
 ·subst h1;simp[hx]
 ·simp[h1]
theorem oV{l:Prl}{n:Nat}{q:Int}(h:has l (n+1) q):nd l (n+1) q=t2 (nd (cut l (q*(2^(n+1):Nat)) (q*(2^(n+1):Nat)+(2^(n+1):Nat))) n (2*q)) (nd (cut l (q*(2^(n+1):Nat)) (q*(2^(n+1):Nat)+(2^(n+1):Nat))) n (2*q+1)):=by
 rw[xZ,if_pos h,L6 (by omega),L6 (by omega)]
theorem dU{l:Prl}{a b:Int}(h:∀p∈l,fine p=true):∀p∈cut l a b,fine p=true:=fun p hp=>h p (Dp.1 hp).1
theorem Kz(v:Value)(l:Prl)(q:Int)(w:World)(hv:Prs w v l)(hl:l.length<=1048576)(hf:∀p∈l,fine p=true)(hq:0<=q/\q+1<=1024):
  Calls Tryz.prog 212 #[v,.int .i64 q,.int .i64 0] w fun e w'=>e = .returned (.int .i64 (nd l 0 q))/\Below w.heap.size w w':=by
 have hC:=fun w h=>iH v l q (q+1) w h hl
 have HV:Hid (Prs w v l):=hv
 obtain⟨ad,c,rfl⟩:=hv.shape
 have HF:=dU (a:=q) (b:=q+1) hf
 have hE:=fun w=>gy 0 w (by omega)
 have hN:cut l q (q+1)=[]->nd l 0 q=emp 0:=fun h=>dS (bU.1 (by simpa using h))
 have hP:∀p t,cut l q (q+1)=p::t->nd l 0 q=l3 p:=fun p t h=>UD (by simpa using h)
 generalize nd l 0 q=r at *
 generalize cut l q (q+1)=m at *
 generalize l.length=n at *
 clear hv hf
 rcases m with _ |⟨⟨x,y⟩,t⟩
 ·have e0:=hN rfl
  subst e0
  simp only[List.length_nil]at hC
  generalize emp 0=z at *
  clear hN hP HF
  go_enter Tryz.func212,Tryz.ntmps212
  go_wp2_with fail
  refine(hC _ HV.out).mono ?_
  rintro e w1 ⟨a1,c1,rfl,-,hb1⟩
  clear hC
  go_wp2_with fail
  refine(hE _).mono ?_
  rintro e w2 ⟨rfl,hb2⟩
  clear hE
  go_wp2
  go_ret
  exact⟨rfl,ah hb1 hb2⟩
 ·have e0:=hP _ _ rfl
  subst e0
  have hfx:=jS (HF (x,y) (by simp))
  dsimp only at hfx
  have hT:=fun w u hu=>gu 3 x y u w (by omega) hu (by omega) hfx.2
  have e1:bf (bg 3 [x,y])=l3 (x,y):=rfl
  rw[e1]at hT
  generalize l3 (x,y)=z at *
  clear hN hP HF e1 hE
  go_enter Tryz.func212,Tryz.ntmps212
  go_wp2_with fail
  refine(hC _ HV.out).mono ?_
  rintro e w1 ⟨a1,c1,rfl,ho,hb1⟩
  obtain⟨-,b,off,rfl,hb,hc⟩:=(aP ho).at (by simp)
  obtain⟨g0,g1⟩:=hc 0 (by simp)
  simp only[pAt,List.getD_cons_zero,Nat.zero_mul,Nat.add_zero]at g0 g1
  simp only[List.length_cons]at *
  have HB1:Hid (Below w.heap.size w w1):=hb1
  clear hC ho hc hb1
  have hlen:¬((t.length+1:Nat):Int)=0:=by omega
  generalize t.length+1=k at *
  have hk0:(0:Int)<(k:Int):=by omega
  have hk1:0<k:=by omega
  go_wp2
  go_region_held3 (fun w'=>w'.cell? ⟨b,off,none⟩=some (.int .i64 x)/\w'.cell? ⟨b,off+1,none⟩=some (.int .i64 y)) (first | go_keep | exact⟨(hbr.cell (p:=⟨b,off,none⟩) hb).trans g0,(hbr.cell (p:=⟨b,off+1,none⟩) hb).trans g1⟩)
   (first |(go_at_call 261;refine(hT _ _ ((fV _ _ _ _).below ((Below.refl _ _).drew))).mono ?_;rintro e wq ⟨rfl,hbq⟩;have hbr:Below w1.heap.size w1 wq:=ah ((aj _).drew) hbq;clear hbq))
  have HB2:=ah HB1.out hbr
  go_wp2
  go_ret
  exact⟨rfl,HB2⟩
theorem uj(v:Value)(l:Prl)(f q:Int)(w:World)(hv:Prs w v l)(hl:l.length<=1048576)(hf:∀p∈l,fine p=true)(HF:Hid (f=q*1))(hq:0<=f/\f+1<=1024):
  Calls Tryz.prog 212 #[v,.int .i64 f,.int .i64 0] w fun e w'=>e = .returned (.int .i64 (nd l 0 q))/\Below w.heap.size w w':=by
 have e:=HF.out
 rw[Int.mul_one]at e
 subst e
 exact Kz v l f w hv hl hf hq
theorem um(v:Value)(l:Prl)(f q:Int)(w:World)(hv:Prs w v l)(hl:l.length<=1048576)(hf:∀p∈l,fine p=true)(HF:Hid (f=q*2))(hq:0<=f/\f+2<=1024):
  Calls Tryz.prog 212 #[v,.int .i64 f,.int .i64 1] w fun e w'=>e = .returned (.int .i64 (nd l 1 q))/\Below w.heap.size w w':=by
 have hC:=fun w h=>iH v l f (f+2) w h hl
 have HV:Hid (Prs w v l):=hv
 obtain⟨ad,c,rfl⟩:=hv.shape
 have iK:=dU (a:=f) (b:=f+2) hf
 have hE:=fun w=>gy 1 w (by omega)
 have eS:((2^(0+1):Nat):Int)=2:=rfl
 have hN:cut l f (f+2)=[]->nd l 1 q=emp 1:=fun h=>dS (n:=0+1) (bU.1 (by rw[eS,←HF.out];exact h))
 have hP:cut l f (f+2)≠[]->nd l 1 q=t2 (nd (cut l f (f+2)) 0 (2*q)) (nd (cut l f (f+2)) 0 (2*q+1)):=fun h=>by
  have h2:=oV (l:=l) (n:=0) (q:=q) (Classical.byContradiction fun hn=>h (by have:=bU.2 hn;rw[eS,←HF.out]at this;exact this))
  rw[eS,←HF.out]at h2
  exact h2
 have hlm:=eu l f (f+2)
 generalize nd l 1 q=r at *
 generalize cut l f (f+2)=m at *
 have hR1:=fun u w hu=>uj u m f (2*q) w hu (by omega) iK (by show _=_;have:=HF.out;omega) (by omega)
 have hR2:=fun u w hu=>uj u m (f+1) (2*q+1) w hu (by omega) iK (by show _=_;have:=HF.out;omega)
 have hd1:=iV m 0 (2*q)
 have hd2:=iV m 0 (2*q+1)
 generalize nd m 0 (2*q)=x at *
 generalize nd m 0 (2*q+1)=y at *
 generalize l.length=n at *
 clear hv hf iK eS
 by_cases hm:m=[]
 ·have e0:=hN hm
  subst hm e0
  simp only[List.length_nil]at hC
  generalize emp 1=z at *
  clear hN hP hR1 hR2
  go_enter Tryz.func212,Tryz.ntmps212
  go_wp2_with fail
  refine(hC _ HV.out).mono ?_
  rintro e w1 ⟨a1,c1,rfl,-,hb1⟩
  clear hC
  go_wp2_with fail
  refine(hE _).mono ?_
  rintro e w2 ⟨rfl,hb2⟩
  clear hE
  go_wp2
  go_ret
  exact⟨rfl,ah hb1 hb2⟩
 ·have e0:=hP hm
  subst e0
  have hT:=fun w u hu=>gu 2 x y u w (by omega) hu hd1 hd2
  have e1:bf (bg 2 [x,y])=t2 x y:=rfl
  rw[e1]at hT
  generalize t2 x y=z at *
  have hml:¬(m.length:Int)=0:=fun h=>hm (List.eq_nil_of_length_eq_zero (by omega))
  clear hN hP e1 hE hm
  go_enter Tryz.func212,Tryz.ntmps212
  go_wp2_with fail
  refine(hC _ HV.out).mono ?_
  rintro e w1 ⟨a1,c1,rfl,ho,hb1⟩
  have hP1:=aP ho
  have HP:Hid (∀w',Below w1.heap.size w1 w'->Prs w' (.slice a1 m.length c1) m):=fun w' h=>hP1.below h
  have HB1:Hid (Below w.heap.size w w1):=hb1
  clear hC ho hb1 hP1
  generalize m.length=k at *
  go_wp2_with fail
  refine(hR1 _ _ (HP.out _ (Below.refl _ _))).mono ?_
  rintro e w2 ⟨rfl,hb2⟩
  clear hR1
  go_wp2_with fail
  refine(hR2 _ _ (HP.out _ hb2) (by omega)).mono ?_
  rintro e w3 ⟨rfl,hb3⟩
  have hb4:=ah hb2 hb3
  clear hR2 hb2 hb3
  go_wp2_with fail
  refine(hT _ _ (fV _ _ _ _)).mono ?_
  rintro e w4 ⟨rfl,hb5⟩
  have hb6:=ah HB1.out (ah hb4 (ak hb5))
  clear hT hb5
  go_wp2
  go_ret
  exact⟨rfl,hb6⟩
theorem uo(v:Value)(l:Prl)(f q:Int)(w:World)(hv:Prs w v l)(hl:l.length<=1048576)(hf:∀p∈l,fine p=true)(HF:Hid (f=q*4))(hq:0<=f/\f+4<=1024):
  Calls Tryz.prog 212 #[v,.int .i64 f,.int .i64 2] w fun e w'=>e = .returned (.int .i64 (nd l 2 q))/\Below w.heap.size w w':=by
 have hC:=fun w h=>iH v l f (f+4) w h hl
 have HV:Hid (Prs w v l):=hv
 obtain⟨ad,c,rfl⟩:=hv.shape
 have iK:=dU (a:=f) (b:=f+4) hf
 have hE:=fun w=>gy 2 w (by omega)
 have eS:((2^(1+1):Nat):Int)=4:=rfl
 have hN:cut l f (f+4)=[]->nd l 2 q=emp 2:=fun h=>dS (n:=1+1) (bU.1 (by rw[eS,←HF.out];exact h))
 have hP:cut l f (f+4)≠[]->nd l 2 q=t2 (nd (cut l f (f+4)) 1 (2*q)) (nd (cut l f (f+4)) 1 (2*q+1)):=fun h=>by
  have h2:=oV (l:=l) (n:=1) (q:=q) (Classical.byContradiction fun hn=>h (by have:=bU.2 hn;rw[eS,←HF.out]at this;exact this))
  rw[eS,←HF.out]at h2
  exact h2
 have hlm:=eu l f (f+4)
 generalize nd l 2 q=r at *
 generalize cut l f (f+4)=m at *
 have hR1:=fun u w hu=>um u m f (2*q) w hu (by omega) iK (by show _=_;have:=HF.out;omega) (by omega)
 have hR2:=fun u w hu=>um u m (f+2) (2*q+1) w hu (by omega) iK (by show _=_;have:=HF.out;omega)
 have hd1:=iV m 1 (2*q)
 have hd2:=iV m 1 (2*q+1)
 generalize nd m 1 (2*q)=x at *
 generalize nd m 1 (2*q+1)=y at *
 generalize l.length=n at *
 clear hv hf iK eS
 by_cases hm:m=[]
 ·have e0:=hN hm
  subst hm e0
  simp only[List.length_nil]at hC
  generalize emp 2=z at *
  clear hN hP hR1 hR2
  go_enter Tryz.func212,Tryz.ntmps212
  go_wp2_with fail
  refine(hC _ HV.out).mono ?_
  rintro e w1 ⟨a1,c1,rfl,-,hb1⟩
  clear hC
  go_wp2_with fail
  refine(hE _).mono ?_
  rintro e w2 ⟨rfl,hb2⟩
  clear hE
  go_wp2
  go_ret
  exact⟨rfl,ah hb1 hb2⟩
 ·have e0:=hP hm
  subst e0
  have hT:=fun w u hu=>gu 2 x y u w (by omega) hu hd1 hd2
  have e1:bf (bg 2 [x,y])=t2 x y:=rfl
  rw[e1]at hT
  generalize t2 x y=z at *
  have hml:¬(m.length:Int)=0:=fun h=>hm (List.eq_nil_of_length_eq_zero (by omega))
  clear hN hP e1 hE hm
  go_enter Tryz.func212,Tryz.ntmps212
  go_wp2_with fail
  refine(hC _ HV.out).mono ?_
  rintro e w1 ⟨a1,c1,rfl,ho,hb1⟩
  have hP1:=aP ho
  have HP:Hid (∀w',Below w1.heap.size w1 w'->Prs w' (.slice a1 m.length c1) m):=fun w' h=>hP1.below h
  have HB1:Hid (Below w.heap.size w w1):=hb1
  clear hC ho hb1 hP1
  generalize m.length=k at *
  go_wp2_with fail
  refine(hR1 _ _ (HP.out _ (Below.refl _ _))).mono ?_
  rintro e w2 ⟨rfl,hb2⟩
  clear hR1
  go_wp2_with fail
  refine(hR2 _ _ (HP.out _ hb2) (by omega)).mono ?_
  rintro e w3 ⟨rfl,hb3⟩
  have hb4:=ah hb2 hb3
  clear hR2 hb2 hb3
  go_wp2_with fail
  refine(hT _ _ (fV _ _ _ _)).mono ?_
  rintro e w4 ⟨rfl,hb5⟩
  have hb6:=ah HB1.out (ah hb4 (ak hb5))
  clear hT hb5
  go_wp2
  go_ret
  exact⟨rfl,hb6⟩
theorem uq(v:Value)(l:Prl)(f q:Int)(w:World)(hv:Prs w v l)(hl:l.length<=1048576)(hf:∀p∈l,fine p=true)(HF:Hid (f=q*8))(hq:0<=f/\f+8<=1024):
  Calls Tryz.prog 212 #[v,.int .i64 f,.int .i64 3] w fun e w'=>e = .returned (.int .i64 (nd l 3 q))/\Below w.heap.size w w':=by
 have hC:=fun w h=>iH v l f (f+8) w h hl
 have HV:Hid (Prs w v l):=hv
 obtain⟨ad,c,rfl⟩:=hv.shape
 have iK:=dU (a:=f) (b:=f+8) hf
 have hE:=fun w=>gy 3 w (by omega)
 have eS:((2^(2+1):Nat):Int)=8:=rfl
 have hN:cut l f (f+8)=[]->nd l 3 q=emp 3:=fun h=>dS (n:=2+1) (bU.1 (by rw[eS,←HF.out];exact h))
 have hP:cut l f (f+8)≠[]->nd l 3 q=t2 (nd (cut l f (f+8)) 2 (2*q)) (nd (cut l f (f+8)) 2 (2*q+1)):=fun h=>by
  have h2:=oV (l:=l) (n:=2) (q:=q) (Classical.byContradiction fun hn=>h (by have:=bU.2 hn;rw[eS,←HF.out]at this;exact this))
  rw[eS,←HF.out]at h2
  exact h2
 have hlm:=eu l f (f+8)
 generalize nd l 3 q=r at *
 generalize cut l f (f+8)=m at *
 have hR1:=fun u w hu=>uo u m f (2*q) w hu (by omega) iK (by show _=_;have:=HF.out;omega) (by omega)
 have hR2:=fun u w hu=>uo u m (f+4) (2*q+1) w hu (by omega) iK (by show _=_;have:=HF.out;omega)
 have hd1:=iV m 2 (2*q)
 have hd2:=iV m 2 (2*q+1)
 generalize nd m 2 (2*q)=x at *
 generalize nd m 2 (2*q+1)=y at *
 generalize l.length=n at *
 clear hv hf iK eS
 by_cases hm:m=[]
 ·have e0:=hN hm
  subst hm e0
  simp only[List.length_nil]at hC
  generalize emp 3=z at *
  clear hN hP hR1 hR2
  go_enter Tryz.func212,Tryz.ntmps212
  go_wp2_with fail
  refine(hC _ HV.out).mono ?_
  rintro e w1 ⟨a1,c1,rfl,-,hb1⟩
  clear hC
  go_wp2_with fail
  refine(hE _).mono ?_
  rintro e w2 ⟨rfl,hb2⟩
  clear hE
  go_wp2
  go_ret
  exact⟨rfl,ah hb1 hb2⟩
 ·have e0:=hP hm
  subst e0
  have hT:=fun w u hu=>gu 2 x y u w (by omega) hu hd1 hd2
  have e1:bf (bg 2 [x,y])=t2 x y:=rfl
  rw[e1]at hT
  generalize t2 x y=z at *
  have hml:¬(m.length:Int)=0:=fun h=>hm (List.eq_nil_of_length_eq_zero (by omega))
  clear hN hP e1 hE hm
  go_enter Tryz.func212,Tryz.ntmps212
  go_wp2_with fail
  refine(hC _ HV.out).mono ?_
  rintro e w1 ⟨a1,c1,rfl,ho,hb1⟩
  have hP1:=aP ho
  have HP:Hid (∀w',Below w1.heap.size w1 w'->Prs w' (.slice a1 m.length c1) m):=fun w' h=>hP1.below h
  have HB1:Hid (Below w.heap.size w w1):=hb1
  clear hC ho hb1 hP1
  generalize m.length=k at *
  go_wp2_with fail
  refine(hR1 _ _ (HP.out _ (Below.refl _ _))).mono ?_
  rintro e w2 ⟨rfl,hb2⟩
  clear hR1
  go_wp2_with fail
  refine(hR2 _ _ (HP.out _ hb2) (by omega)).mono ?_
  rintro e w3 ⟨rfl,hb3⟩
  have hb4:=ah hb2 hb3
  clear hR2 hb2 hb3
  go_wp2_with fail
  refine(hT _ _ (fV _ _ _ _)).mono ?_
  rintro e w4 ⟨rfl,hb5⟩
  have hb6:=ah HB1.out (ah hb4 (ak hb5))
  clear hT hb5
  go_wp2
  go_ret
  exact⟨rfl,hb6⟩
theorem uw(v:Value)(l:Prl)(f q:Int)(w:World)(hv:Prs w v l)(hl:l.length<=1048576)(hf:∀p∈l,fine p=true)(HF:Hid (f=q*16))(hq:0<=f/\f+16<=1024):
  Calls Tryz.prog 212 #[v,.int .i64 f,.int .i64 4] w fun e w'=>e = .returned (.int .i64 (nd l 4 q))/\Below w.heap.size w w':=by
 have hC:=fun w h=>iH v l f (f+16) w h hl
 have HV:Hid (Prs w v l):=hv
 obtain⟨ad,c,rfl⟩:=hv.shape
 have iK:=dU (a:=f) (b:=f+16) hf
 have hE:=fun w=>gy 4 w (by omega)
 have eS:((2^(3+1):Nat):Int)=16:=rfl
 have hN:cut l f (f+16)=[]->nd l 4 q=emp 4:=fun h=>dS (n:=3+1) (bU.1 (by rw[eS,←HF.out];exact h))
 have hP:cut l f (f+16)≠[]->nd l 4 q=t2 (nd (cut l f (f+16)) 3 (2*q)) (nd (cut l f (f+16)) 3 (2*q+1)):=fun h=>by
  have h2:=oV (l:=l) (n:=3) (q:=q) (Classical.byContradiction fun hn=>h (by have:=bU.2 hn;rw[eS,←HF.out]at this;exact this))
  rw[eS,←HF.out]at h2
  exact h2
 have hlm:=eu l f (f+16)
 generalize nd l 4 q=r at *
 generalize cut l f (f+16)=m at *
 have hR1:=fun u w hu=>uq u m f (2*q) w hu (by omega) iK (by show _=_;have:=HF.out;omega) (by omega)
 have hR2:=fun u w hu=>uq u m (f+8) (2*q+1) w hu (by omega) iK (by show _=_;have:=HF.out;omega)
 have hd1:=iV m 3 (2*q)
 have hd2:=iV m 3 (2*q+1)
 generalize nd m 3 (2*q)=x at *
 generalize nd m 3 (2*q+1)=y at *
 generalize l.length=n at *
 clear hv hf iK eS
 by_cases hm:m=[]
 ·have e0:=hN hm
  subst hm e0
  simp only[List.length_nil]at hC
  generalize emp 4=z at *
  clear hN hP hR1 hR2
  go_enter Tryz.func212,Tryz.ntmps212
  go_wp2_with fail
  refine(hC _ HV.out).mono ?_
  rintro e w1 ⟨a1,c1,rfl,-,hb1⟩
  clear hC
  go_wp2_with fail
  refine(hE _).mono ?_
  rintro e w2 ⟨rfl,hb2⟩
  clear hE
  go_wp2
  go_ret
  exact⟨rfl,ah hb1 hb2⟩
 ·have e0:=hP hm
  subst e0
  have hT:=fun w u hu=>gu 2 x y u w (by omega) hu hd1 hd2
  have e1:bf (bg 2 [x,y])=t2 x y:=rfl
  rw[e1]at hT
  generalize t2 x y=z at *
  have hml:¬(m.length:Int)=0:=fun h=>hm (List.eq_nil_of_length_eq_zero (by omega))
  clear hN hP e1 hE hm
  go_enter Tryz.func212,Tryz.ntmps212
  go_wp2_with fail
  refine(hC _ HV.out).mono ?_
  rintro e w1 ⟨a1,c1,rfl,ho,hb1⟩
  have hP1:=aP ho
  have HP:Hid (∀w',Below w1.heap.size w1 w'->Prs w' (.slice a1 m.length c1) m):=fun w' h=>hP1.below h
  have HB1:Hid (Below w.heap.size w w1):=hb1
  clear hC ho hb1 hP1
  generalize m.length=k at *
  go_wp2_with fail
  refine(hR1 _ _ (HP.out _ (Below.refl _ _))).mono ?_
  rintro e w2 ⟨rfl,hb2⟩
  clear hR1
  go_wp2_with fail
  refine(hR2 _ _ (HP.out _ hb2) (by omega)).mono ?_
  rintro e w3 ⟨rfl,hb3⟩
  have hb4:=ah hb2 hb3
  clear hR2 hb2 hb3
  go_wp2_with fail
  refine(hT _ _ (fV _ _ _ _)).mono ?_
  rintro e w4 ⟨rfl,hb5⟩
  have hb6:=ah HB1.out (ah hb4 (ak hb5))
  clear hT hb5
  go_wp2
  go_ret
  exact⟨rfl,hb6⟩
theorem uy(v:Value)(l:Prl)(f q:Int)(w:World)(hv:Prs w v l)(hl:l.length<=1048576)(hf:∀p∈l,fine p=true)(HF:Hid (f=q*32))(hq:0<=f/\f+32<=1024):
  Calls Tryz.prog 212 #[v,.int .i64 f,.int .i64 5] w fun e w'=>e = .returned (.int .i64 (nd l 5 q))/\Below w.heap.size w w':=by
 have hC:=fun w h=>iH v l f (f+32) w h hl
 have HV:Hid (Prs w v l):=hv
 obtain⟨ad,c,rfl⟩:=hv.shape
 have iK:=dU (a:=f) (b:=f+32) hf
 have hE:=fun w=>gy 5 w (by omega)
 have eS:((2^(4+1):Nat):Int)=32:=rfl
 have hN:cut l f (f+32)=[]->nd l 5 q=emp 5:=fun h=>dS (n:=4+1) (bU.1 (by rw[eS,←HF.out];exact h))
 have hP:cut l f (f+32)≠[]->nd l 5 q=t2 (nd (cut l f (f+32)) 4 (2*q)) (nd (cut l f (f+32)) 4 (2*q+1)):=fun h=>by
  have h2:=oV (l:=l) (n:=4) (q:=q) (Classical.byContradiction fun hn=>h (by have:=bU.2 hn;rw[eS,←HF.out]at this;exact this))
  rw[eS,←HF.out]at h2
  exact h2
 have hlm:=eu l f (f+32)
 generalize nd l 5 q=r at *
 generalize cut l f (f+32)=m at *
 have hR1:=fun u w hu=>uw u m f (2*q) w hu (by omega) iK (by show _=_;have:=HF.out;omega) (by omega)
 have hR2:=fun u w hu=>uw u m (f+16) (2*q+1) w hu (by omega) iK (by show _=_;have:=HF.out;omega)
 have hd1:=iV m 4 (2*q)
 have hd2:=iV m 4 (2*q+1)
 generalize nd m 4 (2*q)=x at *
 generalize nd m 4 (2*q+1)=y at *
 generalize l.length=n at *
 clear hv hf iK eS
 by_cases hm:m=[]
 ·have e0:=hN hm
  subst hm e0
  simp only[List.length_nil]at hC
  generalize emp 5=z at *
  clear hN hP hR1 hR2
  go_enter Tryz.func212,Tryz.ntmps212
  go_wp2_with fail
  refine(hC _ HV.out).mono ?_
  rintro e w1 ⟨a1,c1,rfl,-,hb1⟩
  clear hC
  go_wp2_with fail
  refine(hE _).mono ?_
  rintro e w2 ⟨rfl,hb2⟩
  clear hE
  go_wp2
  go_ret
  exact⟨rfl,ah hb1 hb2⟩
 ·have e0:=hP hm
  subst e0
  have hT:=fun w u hu=>gu 2 x y u w (by omega) hu hd1 hd2
  have e1:bf (bg 2 [x,y])=t2 x y:=rfl
  rw[e1]at hT
  generalize t2 x y=z at *
  have hml:¬(m.length:Int)=0:=fun h=>hm (List.eq_nil_of_length_eq_zero (by omega))
  clear hN hP e1 hE hm
  go_enter Tryz.func212,Tryz.ntmps212
  go_wp2_with fail
  refine(hC _ HV.out).mono ?_
  rintro e w1 ⟨a1,c1,rfl,ho,hb1⟩
  have hP1:=aP ho
  have HP:Hid (∀w',Below w1.heap.size w1 w'->Prs w' (.slice a1 m.length c1) m):=fun w' h=>hP1.below h
  have HB1:Hid (Below w.heap.size w w1):=hb1
  clear hC ho hb1 hP1
  generalize m.length=k at *
  go_wp2_with fail
  refine(hR1 _ _ (HP.out _ (Below.refl _ _))).mono ?_
  rintro e w2 ⟨rfl,hb2⟩
  clear hR1
  go_wp2_with fail
  refine(hR2 _ _ (HP.out _ hb2) (by omega)).mono ?_
  rintro e w3 ⟨rfl,hb3⟩
  have hb4:=ah hb2 hb3
  clear hR2 hb2 hb3
  go_wp2_with fail
  refine(hT _ _ (fV _ _ _ _)).mono ?_
  rintro e w4 ⟨rfl,hb5⟩
  have hb6:=ah HB1.out (ah hb4 (ak hb5))
  clear hT hb5
  go_wp2
  go_ret
  exact⟨rfl,hb6⟩
theorem uz(v:Value)(l:Prl)(f q:Int)(w:World)(hv:Prs w v l)(hl:l.length<=1048576)(hf:∀p∈l,fine p=true)(HF:Hid (f=q*64))(hq:0<=f/\f+64<=1024):
  Calls Tryz.prog 212 #[v,.int .i64 f,.int .i64 6] w fun e w'=>e = .returned (.int .i64 (nd l 6 q))/\Below w.heap.size w w':=by
 have hC:=fun w h=>iH v l f (f+64) w h hl
 have HV:Hid (Prs w v l):=hv
 obtain⟨ad,c,rfl⟩:=hv.shape
 have iK:=dU (a:=f) (b:=f+64) hf
 have hE:=fun w=>gy 6 w (by omega)
 have eS:((2^(5+1):Nat):Int)=64:=rfl
 have hN:cut l f (f+64)=[]->nd l 6 q=emp 6:=fun h=>dS (n:=5+1) (bU.1 (by rw[eS,←HF.out];exact h))
 have hP:cut l f (f+64)≠[]->nd l 6 q=t2 (nd (cut l f (f+64)) 5 (2*q)) (nd (cut l f (f+64)) 5 (2*q+1)):=fun h=>by
  have h2:=oV (l:=l) (n:=5) (q:=q) (Classical.byContradiction fun hn=>h (by have:=bU.2 hn;rw[eS,←HF.out]at this;exact this))
  rw[eS,←HF.out]at h2
  exact h2
 have hlm:=eu l f (f+64)
 generalize nd l 6 q=r at *
 generalize cut l f (f+64)=m at *
 have hR1:=fun u w hu=>uy u m f (2*q) w hu (by omega) iK (by show _=_;have:=HF.out;omega) (by omega)
 have hR2:=fun u w hu=>uy u m (f+32) (2*q+1) w hu (by omega) iK (by show _=_;have:=HF.out;omega)
 have hd1:=iV m 5 (2*q)
 have hd2:=iV m 5 (2*q+1)
 generalize nd m 5 (2*q)=x at *
 generalize nd m 5 (2*q+1)=y at *
 generalize l.length=n at *
 clear hv hf iK eS
 by_cases hm:m=[]
 ·have e0:=hN hm
  subst hm e0
  simp only[List.length_nil]at hC
  generalize emp 6=z at *
  clear hN hP hR1 hR2
  go_enter Tryz.func212,Tryz.ntmps212
  go_wp2_with fail
  refine(hC _ HV.out).mono ?_
  rintro e w1 ⟨a1,c1,rfl,-,hb1⟩
  clear hC
  go_wp2_with fail
  refine(hE _).mono ?_
  rintro e w2 ⟨rfl,hb2⟩
  clear hE
  go_wp2
  go_ret
  exact⟨rfl,ah hb1 hb2⟩
 ·have e0:=hP hm
  subst e0
  have hT:=fun w u hu=>gu 2 x y u w (by omega) hu hd1 hd2
  have e1:bf (bg 2 [x,y])=t2 x y:=rfl
  rw[e1]at hT
  generalize t2 x y=z at *
  have hml:¬(m.length:Int)=0:=fun h=>hm (List.eq_nil_of_length_eq_zero (by omega))
  clear hN hP e1 hE hm
  go_enter Tryz.func212,Tryz.ntmps212
  go_wp2_with fail
  refine(hC _ HV.out).mono ?_
  rintro e w1 ⟨a1,c1,rfl,ho,hb1⟩
  have hP1:=aP ho
  have HP:Hid (∀w',Below w1.heap.size w1 w'->Prs w' (.slice a1 m.length c1) m):=fun w' h=>hP1.below h
  have HB1:Hid (Below w.heap.size w w1):=hb1
  clear hC ho hb1 hP1
  generalize m.length=k at *
  go_wp2_with fail
  refine(hR1 _ _ (HP.out _ (Below.refl _ _))).mono ?_
  rintro e w2 ⟨rfl,hb2⟩
  clear hR1
  go_wp2_with fail
  refine(hR2 _ _ (HP.out _ hb2) (by omega)).mono ?_
  rintro e w3 ⟨rfl,hb3⟩
  have hb4:=ah hb2 hb3
  clear hR2 hb2 hb3
  go_wp2_with fail
  refine(hT _ _ (fV _ _ _ _)).mono ?_
  rintro e w4 ⟨rfl,hb5⟩
  have hb6:=ah HB1.out (ah hb4 (ak hb5))
  clear hT hb5
  go_wp2
  go_ret
  exact⟨rfl,hb6⟩
theorem uD(v:Value)(l:Prl)(f q:Int)(w:World)(hv:Prs w v l)(hl:l.length<=1048576)(hf:∀p∈l,fine p=true)(HF:Hid (f=q*128))(hq:0<=f/\f+128<=1024):
  Calls Tryz.prog 212 #[v,.int .i64 f,.int .i64 7] w fun e w'=>e = .returned (.int .i64 (nd l 7 q))/\Below w.heap.size w w':=by
 have hC:=fun w h=>iH v l f (f+128) w h hl
 have HV:Hid (Prs w v l):=hv
 obtain⟨ad,c,rfl⟩:=hv.shape
 have iK:=dU (a:=f) (b:=f+128) hf
 have hE:=fun w=>gy 7 w (by omega)
 have eS:((2^(6+1):Nat):Int)=128:=rfl
 have hN:cut l f (f+128)=[]->nd l 7 q=emp 7:=fun h=>dS (n:=6+1) (bU.1 (by rw[eS,←HF.out];exact h))
 have hP:cut l f (f+128)≠[]->nd l 7 q=t2 (nd (cut l f (f+128)) 6 (2*q)) (nd (cut l f (f+128)) 6 (2*q+1)):=fun h=>by
  have h2:=oV (l:=l) (n:=6) (q:=q) (Classical.byContradiction fun hn=>h (by have:=bU.2 hn;rw[eS,←HF.out]at this;exact this))
  rw[eS,←HF.out]at h2
  exact h2
 have hlm:=eu l f (f+128)
 generalize nd l 7 q=r at *
 generalize cut l f (f+128)=m at *
 have hR1:=fun u w hu=>uz u m f (2*q) w hu (by omega) iK (by show _=_;have:=HF.out;omega) (by omega)
 have hR2:=fun u w hu=>uz u m (f+64) (2*q+1) w hu (by omega) iK (by show _=_;have:=HF.out;omega)
 have hd1:=iV m 6 (2*q)
 have hd2:=iV m 6 (2*q+1)
 generalize nd m 6 (2*q)=x at *
 generalize nd m 6 (2*q+1)=y at *
 generalize l.length=n at *
 clear hv hf iK eS
 by_cases hm:m=[]
 ·have e0:=hN hm
  subst hm e0
  simp only[List.length_nil]at hC
  generalize emp 7=z at *
  clear hN hP hR1 hR2
  go_enter Tryz.func212,Tryz.ntmps212
  go_wp2_with fail
  refine(hC _ HV.out).mono ?_
  rintro e w1 ⟨a1,c1,rfl,-,hb1⟩
  clear hC
  go_wp2_with fail
  refine(hE _).mono ?_
  rintro e w2 ⟨rfl,hb2⟩
  clear hE
  go_wp2
  go_ret
  exact⟨rfl,ah hb1 hb2⟩
 ·have e0:=hP hm
  subst e0
  have hT:=fun w u hu=>gu 2 x y u w (by omega) hu hd1 hd2
  have e1:bf (bg 2 [x,y])=t2 x y:=rfl
  rw[e1]at hT
  generalize t2 x y=z at *
  have hml:¬(m.length:Int)=0:=fun h=>hm (List.eq_nil_of_length_eq_zero (by omega))
  clear hN hP e1 hE hm
  go_enter Tryz.func212,Tryz.ntmps212
  go_wp2_with fail
  refine(hC _ HV.out).mono ?_
  rintro e w1 ⟨a1,c1,rfl,ho,hb1⟩
  have hP1:=aP ho
  have HP:Hid (∀w',Below w1.heap.size w1 w'->Prs w' (.slice a1 m.length c1) m):=fun w' h=>hP1.below h
  have HB1:Hid (Below w.heap.size w w1):=hb1
  clear hC ho hb1 hP1
  generalize m.length=k at *
  go_wp2_with fail
  refine(hR1 _ _ (HP.out _ (Below.refl _ _))).mono ?_
  rintro e w2 ⟨rfl,hb2⟩
  clear hR1
  go_wp2_with fail
  refine(hR2 _ _ (HP.out _ hb2) (by omega)).mono ?_
  rintro e w3 ⟨rfl,hb3⟩
  have hb4:=ah hb2 hb3
  clear hR2 hb2 hb3
  go_wp2_with fail
  refine(hT _ _ (fV _ _ _ _)).mono ?_
  rintro e w4 ⟨rfl,hb5⟩
  have hb6:=ah HB1.out (ah hb4 (ak hb5))
  clear hT hb5
  go_wp2
  go_ret
  exact⟨rfl,hb6⟩
theorem RD(v:Value)(l:Prl)(f q:Int)(w:World)(hv:Prs w v l)(hl:l.length<=1048576)(hf:∀p∈l,fine p=true)(HF:Hid (f=q*256))(hq:0<=f/\f+256<=1024):
  Calls Tryz.prog 212 #[v,.int .i64 f,.int .i64 8] w fun e w'=>e = .returned (.int .i64 (nd l 8 q))/\Below w.heap.size w w':=by
 have hC:=fun w h=>iH v l f (f+256) w h hl
 have HV:Hid (Prs w v l):=hv
 obtain⟨ad,c,rfl⟩:=hv.shape
 have iK:=dU (a:=f) (b:=f+256) hf
 have hE:=fun w=>gy 8 w (by omega)
 have eS:((2^(7+1):Nat):Int)=256:=rfl
 have hN:cut l f (f+256)=[]->nd l 8 q=emp 8:=fun h=>dS (n:=7+1) (bU.1 (by rw[eS,←HF.out];exact h))
 have hP:cut l f (f+256)≠[]->nd l 8 q=t2 (nd (cut l f (f+256)) 7 (2*q)) (nd (cut l f (f+256)) 7 (2*q+1)):=fun h=>by
  have h2:=oV (l:=l) (n:=7) (q:=q) (Classical.byContradiction fun hn=>h (by have:=bU.2 hn;rw[eS,←HF.out]at this;exact this))
  rw[eS,←HF.out]at h2
  exact h2
 have hlm:=eu l f (f+256)
 generalize nd l 8 q=r at *
 generalize cut l f (f+256)=m at *
 have hR1:=fun u w hu=>uD u m f (2*q) w hu (by omega) iK (by show _=_;have:=HF.out;omega) (by omega)
 have hR2:=fun u w hu=>uD u m (f+128) (2*q+1) w hu (by omega) iK (by show _=_;have:=HF.out;omega)
 have hd1:=iV m 7 (2*q)
 have hd2:=iV m 7 (2*q+1)
 generalize nd m 7 (2*q)=x at *
 generalize nd m 7 (2*q+1)=y at *
 generalize l.length=n at *
 clear hv hf iK eS
 by_cases hm:m=[]
 ·have e0:=hN hm
  subst hm e0
  simp only[List.length_nil]at hC
  generalize emp 8=z at *
  clear hN hP hR1 hR2
  go_enter Tryz.func212,Tryz.ntmps212
  go_wp2_with fail
  refine(hC _ HV.out).mono ?_
  rintro e w1 ⟨a1,c1,rfl,-,hb1⟩
  clear hC
  go_wp2_with fail
  refine(hE _).mono ?_
  rintro e w2 ⟨rfl,hb2⟩
  clear hE
  go_wp2
  go_ret
  exact⟨rfl,ah hb1 hb2⟩
 ·have e0:=hP hm
  subst e0
  have hT:=fun w u hu=>gu 2 x y u w (by omega) hu hd1 hd2
  have e1:bf (bg 2 [x,y])=t2 x y:=rfl
  rw[e1]at hT
  generalize t2 x y=z at *
  have hml:¬(m.length:Int)=0:=fun h=>hm (List.eq_nil_of_length_eq_zero (by omega))
  clear hN hP e1 hE hm
  go_enter Tryz.func212,Tryz.ntmps212
  go_wp2_with fail
  refine(hC _ HV.out).mono ?_
  rintro e w1 ⟨a1,c1,rfl,ho,hb1⟩
  have hP1:=aP ho
  have HP:Hid (∀w',Below w1.heap.size w1 w'->Prs w' (.slice a1 m.length c1) m):=fun w' h=>hP1.below h
  have HB1:Hid (Below w.heap.size w w1):=hb1
  clear hC ho hb1 hP1
  generalize m.length=k at *
  go_wp2_with fail
  refine(hR1 _ _ (HP.out _ (Below.refl _ _))).mono ?_
  rintro e w2 ⟨rfl,hb2⟩
  clear hR1
  go_wp2_with fail
  refine(hR2 _ _ (HP.out _ hb2) (by omega)).mono ?_
  rintro e w3 ⟨rfl,hb3⟩
  have hb4:=ah hb2 hb3
  clear hR2 hb2 hb3
  go_wp2_with fail
  refine(hT _ _ (fV _ _ _ _)).mono ?_
  rintro e w4 ⟨rfl,hb5⟩
  have hb6:=ah HB1.out (ah hb4 (ak hb5))
  clear hT hb5
  go_wp2
  go_ret
  exact⟨rfl,hb6⟩
structure bV(w:World)(g:Nat)(f:Nat->Int):Prop where
 c:∀j,j<9->w.cell? ⟨g,j,none⟩=some (.int .i64 (f j))
 z:∀j,j<9->w.frozen? ⟨g,j,none⟩=false
def bH(f:Nat->Int):Array Value:=#[.int .i64 (f 0),.int .i64 (f 1),.int .i64 (f 2),.int .i64 (f 3),.int .i64 (f 4),.int .i64 (f 5),.int .i64 (f 6),.int .i64 (f 7),.int .i64 (f 8)]
theorem lt9{j:Nat}(h:j<9):j=0∨j=1∨j=2∨j=3∨j=4∨j=5∨j=6∨j=7∨j=8:=by omega
theorem bV.of{w:World}{g:Nat}{f:Nat->Int}{t:TypeId}(h:w.heap[g]? = some (.cells (bH f) t)):bV w g f:=by
 constructor
 ·intro j hj
  rcases lt9 hj with rfl | rfl | rfl | rfl | rfl | rfl | rfl | rfl | rfl<;>(unfold World.cell?;rw[h];rfl)
 ·intro j hj
  rcases lt9 hj with rfl | rfl | rfl | rfl | rfl | rfl | rfl | rfl | rfl<;>(unfold World.frozen?;rw[h];rfl)
theorem bV.below{w w':World}{g B:Nat}{f:Nat->Int}(h:bV w g f)(hb:Below B w w')(hg:g<B):bV w' g f:=
 ⟨fun j hj=>(hb.cell (p:=⟨g,j,none⟩) hg).trans (h.c j hj),fun j hj=>(hb.frozen (p:=⟨g,j,none⟩) hg).trans (h.z j hj)⟩
theorem bV.set{w:World}{g k:Nat}{f:Nat->Int}(h:bV w g f)(hk:k<9)(x:Int):bV (w.setCell ⟨g,k,none⟩ (.int .i64 x)) g (fun j=>if j=k then x else f j):=by
 refine⟨fun j hj=> ?_,fun j hj=>(World.frozen?_setCell _ _ _ _).trans (h.z j hj)⟩
 by_cases e:j=k
 ·subst e
  rw[if_pos rfl]
  exact World.cell?_setCell_same _ _ _ (h.c j hj)
 ·rw[if_neg e]
  exact(World.cell?_setCell_other _ _ _ _ (by simp)).trans (h.c j hj)
theorem bV.other{w:World}{g k b:Nat}{f:Nat->Int}(h:bV w g f)(hb:b≠g)(x:Value):bV (w.setCell ⟨b,k,none⟩ x) g f:=
 ⟨fun j hj=>(World.cell?_setCell_other _ _ _ _ (by simp)).trans (h.c j hj),fun j hj=>(World.frozen?_setCell _ _ _ _).trans (h.z j hj)⟩
theorem bV.cells{w:World}{g:Nat}{f:Nat->Int}(h:bV w g f):w.cell? ⟨g,0,none⟩=some (.int .i64 (f 0))/\w.cell? ⟨g,1,none⟩=some (.int .i64 (f 1))/\w.cell? ⟨g,2,none⟩=some (.int .i64 (f 2))/\w.cell? ⟨g,3,none⟩=some (.int .i64 (f 3))/\w.cell? ⟨g,4,none⟩=some (.int .i64 (f 4))/\w.cell? ⟨g,5,none⟩=some (.int .i64 (f 5))/\w.cell? ⟨g,6,none⟩=some (.int .i64 (f 6))/\w.cell? ⟨g,7,none⟩=some (.int .i64 (f 7))/\w.cell? ⟨g,8,none⟩=some (.int .i64 (f 8)):=
 ⟨h.c 0 (by omega),h.c 1 (by omega),h.c 2 (by omega),h.c 3 (by omega),h.c 4 (by omega),h.c 5 (by omega),h.c 6 (by omega),h.c 7 (by omega),h.c 8 (by omega)⟩
theorem bV.VO{w:World}{g:Nat}{f:Nat->Int}(h:bV w g f):w.frozen? ⟨g,0,none⟩=false/\w.frozen? ⟨g,1,none⟩=false/\w.frozen? ⟨g,2,none⟩=false/\w.frozen? ⟨g,3,none⟩=false/\w.frozen? ⟨g,4,none⟩=false/\w.frozen? ⟨g,5,none⟩=false/\w.frozen? ⟨g,6,none⟩=false/\w.frozen? ⟨g,7,none⟩=false/\w.frozen? ⟨g,8,none⟩=false:=
 ⟨h.z 0 (by omega),h.z 1 (by omega),h.z 2 (by omega),h.z 3 (by omega),h.z 4 (by omega),h.z 5 (by omega),h.z 6 (by omega),h.z 7 (by omega),h.z 8 (by omega)⟩
theorem bV.congr{w:World}{g:Nat}{f f':Nat->Int}(h:bV w g f)(e:∀j,j<9->f j=f' j):bV w g f':=⟨fun j hj=>by rw[←e j hj];exact h.c j hj,h.z⟩
def pre(k j:Nat):Int:=if j<=k then emp j else 0
theorem vk(w:World):
  Calls Tryz.prog 265 #[] w fun e w'=>e = .returned (.agg (bH emp))/\Below w.heap.size w w':=by
 have hS:=fun w=>iY (.slice none 0 0) [] w (Or.inl ⟨rfl,_,_,rfl⟩) (fun b hb=>by cases hb) (by simp)
 have e0:smC []=0/\smV []=13:=⟨rfl,rfl⟩
 rw[e0.1,e0.2]at hS
 have kf:=fun w=>rC 0 13 w
 clear e0
 go_enter Tryz.func265,Tryz.ntmps265
 go_wp2_with fail
 refine(hS _).mono ?_
 rintro e w1 ⟨rfl,hb1⟩
 have Z1:bV w1 w.heap.size (fun _=>0):=bV.of (f:=fun _=>0) ((hb1.block w.heap.size (by simp)).trans (heap_alloc_new w _))
 have hB1:=ak hb1
 have hsz1:w.heap.size<w1.heap.size:=by have:=hb1.size;simp at this;omega
 clear hS hb1
 go_wp2_with fail
 have A1:bV (w1.alloc (.cells (bH (pre 0)) 340)) w1.heap.size (pre 0):=bV.of (heap_alloc_new _ _)
 have Z2:bV (w1.alloc (.cells (bH (pre 0)) 340)) w.heap.size (fun _=>0):=Z1.below (aj _) hsz1
 have hB2:Below w.heap.size w (w1.alloc (.cells (bH (pre 0)) 340)):=hB1.alloc (Nat.le_of_lt hsz1) _
 have HA1:Hid (bV (w1.alloc (.cells (bH (pre 0)) 340)) w1.heap.size (pre 0)):=A1
 have HZ2:Hid (bV (w1.alloc (.cells (bH (pre 0)) 340)) w.heap.size (fun _=>0)):=Z2
 have HB2:Hid (Below w.heap.size w (w1.alloc (.cells (bH (pre 0)) 340))):=hB2
 clear A1 Z2 hB2 Z1 hB1 kf
 go_loopw [6] (fun i wr=>∃k:Nat,k<=8/\i = .int .i64 k/\w1.heap.size<wr.heap.size/\Hid (Below w.heap.size w wr)/\Hid (bV wr w1.heap.size (pre k))/\Hid (bV wr w.heap.size (fun _=>0))) (fun i _=>8 - (intOf i).toNat)
 case atStart=>exact⟨0,by omega,rfl,by simp,HB2,HA1,HZ2⟩
 case round=>
  obtain⟨k,hk,rfl,hsz,HB,HA,HZ⟩:=hrel
  by_cases hk8:k<8
  ·have hki:(k:Int)<8:=by omega
   have ck:=HA.out.c k (by omega)
   have e1:pre k k=emp k:=by unfold pre;rw[if_pos (Nat.le_refl _)]
   rw[e1]at ck
   have hbd:=Bf k
   have HE:Hid (∀j,j<9->(fun j=>if j=k+1 then t2 (emp k) (emp k)else pre k j) j=pre (k+1) j):=fun j hj=>by
    show(if j=k+1 then t2 (emp k) (emp k)else pre k j)=pre (k+1) j
    unfold pre
    by_cases e:j=k+1
    ·subst e
     rw[if_pos rfl,if_pos (Nat.le_refl _)]
     rfl
    ·rw[if_neg e]
     by_cases e2:j<=k
     ·rw[if_pos e2,if_pos (by omega)]
     ·rw[if_neg e2,if_neg (by omega)]
   have hP:=fun w=>oz (emp k) (emp k) w hbd hbd
   generalize t2 (emp k) (emp k)=y at *
   generalize emp k=x at *
   have hmk:Hid (∀w',Below wr.heap.size wr w'->bV w' w1.heap.size (pre k)):=fun w' h=>HA.out.below h hsz
   clear e1
   have hk0:(0:Int)<=(k:Int):=by omega
   have hk9:(k:Int)<9:=by omega
   have hk10:(0:Int)<=(k:Int)+1:=by omega
   have Z4:(k:Int)+1<9:=by omega
   have hkw:IntKind.i64.wrap ((k:Int)+1)=(k:Int)+1:=by rw[IntKind.wrap_i64];omega
   go_wp2
   go_region_held3 (fun w'=>w'.cell? ⟨w1.heap.size,k,none⟩=some (.int .i64 x))
    (first | exact ck | exact(hbr.cell (p:=⟨w1.heap.size,k,none⟩) hsz).trans ck | exact(World.cell?_setCell_other _ _ _ _ (by simp)).trans ((hbr.cell (p:=⟨w1.heap.size,k,none⟩) hsz).trans ck))
    (first |(go_at_call 297;refine(hP _).mono ?_;rintro e wq ⟨rfl,hbq⟩;have hbr:Below wr.heap.size wr wq:=ah (Below.refl _ _).drew hbq;have hk1:=(hmk.out _ hbr).c (k+1) (by omega);have hz1:=(hmk.out _ hbr).z (k+1) (by omega);clear hbq))
   have hbs:Below w.heap.size w (wq.setCell ⟨w1.heap.size,k+1,none⟩ (.int .i64 y)):=(ah HB.out hbr).setCell (Nat.le_of_lt hsz1) _
   have hA2:=((hmk.out _ hbr).set (k:=k+1) (by omega) y).congr HE.out
   have hZ2:=(HZ.out.below hbr (by omega)).other (k:=k+1) (b:=w1.heap.size) (by omega) (.int .i64 y)
   have hsz2:=hbr.size
   have YU:Hid (Below w.heap.size w (wq.setCell ⟨w1.heap.size,k+1,none⟩ (.int .i64 y))):=hbs
   have YT:Hid (bV (wq.setCell ⟨w1.heap.size,k+1,none⟩ (.int .i64 y)) w1.heap.size (pre (k+1))):=hA2
   have YV:Hid (bV (wq.setCell ⟨w1.heap.size,k+1,none⟩ (.int .i64 y)) w.heap.size (fun _=>0)):=hZ2
   clear hbs hA2 hZ2 hmk hP hbr hk1 hz1 ck
   go_wp2
   go_roundw
   case rel=>exact⟨k+1,by omega,by go_num,by simp;omega,YU,YT,YV⟩
   case measure=>simp[intOf];omega
  ·have hk8:k=8:=by omega
   have hki:¬(k:Int)<8:=by omega
   obtain⟨c0,c1,c2,c3,c4,c5,c6,c7,c8⟩:=(HA.out.congr (f':=emp) (fun j hj=>by unfold pre;rw[if_pos (by omega)])).cells
   obtain⟨d0,d1,d2,d3,d4,d5,d6,d7,d8⟩:=HZ.out.cells
   obtain⟨z0,z1,z2,z3,z4,z5,z6,z7,z8⟩:=HZ.out.VO
   clear hk8
   go_wp2
   have hB:=HB.out
   exact bodyPost_ret (v:= .agg (bH emp)) (by simp[results,Tryz.results265,go_sem,bH,d0,d1,d2,d3,d4,d5,d6,d7,d8]) rfl ⟨rfl,((((((((hB.setCell (Nat.le_refl _) _).setCell (Nat.le_refl _) _).setCell (Nat.le_refl _) _).setCell (Nat.le_refl _) _).setCell (Nat.le_refl _) _).setCell (Nat.le_refl _) _).setCell (Nat.le_refl _) _).setCell (Nat.le_refl _) _).setCell (Nat.le_refl _) _⟩
theorem Tryz.PS:(Tryz.prog.info? 381).map (fun i=>(i.zero,i.size,i.bytes))=some (some (.agg #[.int .i64 0,.int .i64 0]),2,16):=by kernel_rfl
def leaves(l:Prl)(k:Nat):Prl:=(l.take k).map fun p=>(p.1,l3 p)
theorem NW(l:Prl):leaves l l.length=rows l 0:=by unfold leaves rows;rw[List.take_length]
theorem KH{l:Prl}{k:Nat}(h:k<l.length):leaves l (k+1)=leaves l k++[((pAt l k).1,l3 (pAt l k))]:=by
 unfold leaves
 rw[Df h,List.map_append]
 rfl
theorem NY{l:Prl}{k:Nat}(h:k<=l.length):(leaves l k).length=k:=by unfold leaves;rw[List.length_map,List.length_take];omega
theorem KG(v:Value)(l:Prl)(w:World)(hv:Prs w v l)(hn:l.length<=12)(hf:∀p∈l,fine p=true):
  Calls Tryz.prog 298 #[v] w fun e w'=>∃v',e = .returned v'/\w'.ownsRow w.heap.size 381 2 v' (rows l 0).length ((fl (rows l 0)).map (Value.int .i64))/\Below w.heap.size w w':=by
 obtain⟨i0,hi,hz0,hz1,hz2⟩:=info_parts Tryz.PS
 have HV:Hid (Prs w v l):=hv
 obtain⟨ad,c,rfl⟩:=hv.shape
 obtain⟨n,hnl⟩:∃n,n=l.length:=⟨_,rfl⟩
 have HN:Hid (n=l.length):=hnl
 have HF:Hid (∀p∈l,fine p=true):=hf
 rw[←hnl]at hn HV ⊢
 clear hv hnl hf
 go_enter Tryz.func298,Tryz.ntmps298
 go_wp2
 go_loopw [3,9] (fun u i wr=>∃k:Nat,k<=n/\i = .int .i64 k/\Hid (Below w.heap.size w wr)/\Hid (wr.ownsRow w.heap.size 381 2 u (leaves l k).length ((fl (leaves l k)).map (Value.int .i64)))) (fun _ i _=>n - (intOf i).toNat)
 case atStart=>exact⟨0,Nat.zero_le _,rfl,Below.refl _ _,World.ownsRow_nil _ _ _ _⟩
 case round=>
  obtain⟨k,hk,rfl,hB,ho⟩:=hrel
  obtain⟨a',c',rfl⟩:=bW ho.out
  by_cases hkn:k<n
  ·have hki:(k:Int)<(n:Int):=by omega
   have hkl:k<l.length:=by have:=HN.out;omega
   obtain⟨-,bk,off,rfl,hbk,hc⟩:=HV.out.at (by omega)
   have hc1:=(hB.out.cell (p:=⟨bk,off+k*2,none⟩) hbk).trans (hc k hkl).1
   have hc2:=(hB.out.cell (p:=⟨bk,off+k*2+1,none⟩) hbk).trans (hc k hkl).2
   have hfx:=jS (HF.out (pAt l k) (by rw[eH hkl];exact List.getElem_mem _))
   have hS:=KH hkl
   have hlen:(leaves l k).length<=12:=by rw[NY (Nat.le_of_lt hkl)];omega
   have hp:=I7 (tag:=3) (by omega) (a:=(pAt l k).1) (b:=(pAt l k).2) (by omega) hfx.2
   have e0:bf (bg 3 [(pAt l k).1,(pAt l k).2])=l3 (pAt l k):=rfl
   rw[e0]at hp
   have hT:=fun v w hv=>sW 3 v [(pAt l k).1,(pAt l k).2] w hv (by simp)
   rw[hp.1,hp.2]at hT
   generalize l3 (pAt l k)=z at *
   generalize (pAt l k).1=x at *
   generalize (pAt l k).2=y at *
   have HS:Hid (leaves l (k+1)=leaves l k++[(x,z)]):=hS
   generalize leaves l k=m at *
   have kf:=fun w=>rC 0 z w
   have hbs:bk<wr.heap.size:=Nat.lt_of_lt_of_le hbk hB.out.size
   clear hc hfx hp e0 hS
   go_wp2_with fail
   refine(hT _ _ (zu (by simp))).mono ?_
   rintro e w1 ⟨rfl,hb1⟩
   clear hT
   have hb1':=ak hb1
   obtain⟨g0,g1,-,-⟩:=eG ((hb1'.block wr.heap.size (by simp)).trans (heap_alloc_new wr _))
   have hB1:=ah (hB.out.alloc hB.out.size _) hb1'
   have ho1:=own_below (ho.out.alloc _) hb1'
   have hsz:wr.heap.size<w1.heap.size:=by have:=hb1'.size;simp at this;omega
   have hwz:=hB1.size
   clear hb1 hb1' ho hc1 hc2
   go_wp2_with (at_builtin;refine wpList_append_own _ rfl _ _ 377 rfl w.heap.size 381 i0 (.agg #[.int .i64 0,.int .i64 0]) 2 16 Tryz.underlying377 hi hz0 hz1 hz2 rfl (by decide) _ _ _ rfl (ho1.alloc _) ⟨w1.heap.size,0,none⟩ 1 1 [.int .i64 x,.int .i64 z] rfl rfl (World.news_of_block (heap_alloc_new _ _)) (ints_oneCell .i64 [x,z]) (by unfold maxLen;omega) (by omega) (by simp;omega) ?_)
   intro v' w2 hown' hgrow _
   have hb2:Below w.heap.size w w2:=(hB1.alloc (by omega) _).grown hgrow (by simp;omega) (fun k hk=>(ho1.lt k hk).1)
   have aN:=uN hown'
   clear hgrow hown' ho1
   go_wp2
   go_roundw
   case rel=>exact⟨k+1,by omega,by go_num,hb2,by rw[HS.out];exact aN⟩
   case measure=>simp[intOf];omega
  ·have hkn:k=n:=by omega
   subst hkn
   have e1:leaves l k=rows l 0:=by rw[HN.out];exact NW _
   rw[e1]at ho ⊢
   go_wp2
   go_ret
   exact⟨_,rfl,ho.out,hB.out⟩
def fp(e:Int):Prl->Int × Nat
 | []=>(0,1)
 | [(q,s)]=>(if q%2=1 then t2 e s else t2 s e,1)
 |(q,s)::(q',s')::_=>if q%2=1 then(t2 e s,1)else if q'=q+1 then(t2 s s',2)else(t2 s e,1)
theorem VA(e:Int){r:Prl}(h:0<r.length):abv e r=((pAt r 0).1/2,(fp e r).1)::abv e (r.drop (fp e r).2)/\1<=(fp e r).2/\(fp e r).2<=r.length:=by
 match r,h with
 | [(q,s)],_=>refine⟨?_,by simp[fp],by simp[fp]⟩;simp[abv,fp,pAt]
 |(q,s)::(q',s')::t,_=>
  by_cases h1:q%2=1
  ·have e1:fp e ((q,s)::(q',s')::t)=(t2 e s,1):=by simp[fp,h1]
   rw[e1]
   refine⟨?_,by simp,by simp⟩
   rw[abv,if_pos h1]
   simp[pAt]
  ·by_cases h2:q'=q+1
   ·have e1:fp e ((q,s)::(q',s')::t)=(t2 s s',2):=by simp[fp,h1,h2]
    rw[e1]
    refine⟨?_,by simp,by simp⟩
    rw[abv,if_neg h1,if_pos h2]
    simp[pAt]
   ·have e1:fp e ((q,s)::(q',s')::t)=(t2 s e,1):=by simp[fp,h1,h2]
    rw[e1]
    refine⟨?_,by simp,by simp⟩
    rw[abv,if_neg h1,if_neg h2]
    simp[pAt]
theorem VL(e:Int){r:Prl}(h:0<r.length)(h1:(pAt r 0).1%2=1):fp e r=(t2 e (pAt r 0).2,1):=by
 match r,h with
 | [(q,s)],_=>simp[pAt]at h1;simp[fp,pAt,h1]
 |(q,s)::(q',s')::t,_=>simp[pAt]at h1;simp[fp,pAt,h1]
theorem Um(e:Int){r:Prl}(h:1<r.length)(h1:¬(pAt r 0).1%2=1)(h2:(pAt r 1).1=(pAt r 0).1+1):fp e r=(t2 (pAt r 0).2 (pAt r 1).2,2):=by
 match r,h with
 |(q,s)::(q',s')::t,_=>simp[pAt]at h1 h2;simp[fp,pAt,h1,h2]
theorem VN(e:Int){r:Prl}(h:0<r.length)(h1:¬(pAt r 0).1%2=1)(h2:¬(1<r.length/\(pAt r 1).1=(pAt r 0).1+1)):fp e r=(t2 (pAt r 0).2 e,1):=by
 match r,h with
 | [(q,s)],_=>simp[pAt]at h1;simp[fp,pAt,h1]
 |(q,s)::(q',s')::t,_=>simp[pAt]at h1 h2;simp[fp,pAt,h1,h2]
def Pls(r:Prl):Prop:=∀p∈r,(0<=p.1/\p.1<=255)/\0<=p.2/\p.2<=65520
theorem Pls.at{r:Prl}(h:Pls r){k:Nat}(hk:k<r.length):(0<=(pAt r k).1/\(pAt r k).1<=255)/\0<=(pAt r k).2/\(pAt r k).2<=65520:=by
 rw[eH hk];exact h _ (List.getElem_mem _)
theorem EW(b off c n:Nat)(r:Prl)(e:Int)(w:World)(HN:Hid (n=r.length))(hn0:0<n)(hn:n<=12)(hb:b<w.heap.size)(he:0<=e/\e<=65520)(HR:Hid (Pls r))
  (hc:∀j,j<n->w.cell? ⟨b,off+j*2,none⟩=some (.int .i64 (pAt r j).1)/\w.cell? ⟨b,off+j*2+1,none⟩=some (.int .i64 (pAt r j).2)) :
  Calls Tryz.prog 328 #[.slice (some ⟨b,off,none⟩) n c,.int .i64 e] w fun en w'=>en = .returned (.tuple #[.int .i64 (fp e r).1,.int .i64 (fp e r).2])/\Below w.heap.size w w':=by
 have hr0:0<r.length:=by have:=HN.out;omega
 obtain⟨c0,d0⟩:=hc 0 hn0
 simp only[Nat.zero_mul,Nat.add_zero]at c0 d0
 have hb0:=HR.out.at hr0
 have hni:(0:Int)<(n:Int):=by omega
 have h1i:∀h:1<n,1<r.length:=fun h=>by have:=HN.out;omega
 have HO:Hid ((pAt r 0).1%2=1->fp e r=(t2 e (pAt r 0).2,1)):=VL e hr0
 have HP:Hid (1<n->¬(pAt r 0).1%2=1->(pAt r 1).1=(pAt r 0).1+1->fp e r=(t2 (pAt r 0).2 (pAt r 1).2,2)):=fun h=>Um e (h1i h)
 have HU:Hid (¬(pAt r 0).1%2=1->¬(1<n/\(pAt r 1).1=(pAt r 0).1+1)->fp e r=(t2 (pAt r 0).2 e,1)):=fun h h2=>VN e hr0 h (by have:=HN.out;intro hh;exact h2 ⟨by omega,hh.2⟩)
 have KZ:Hid (1<n->w.cell? ⟨b,off+1*2,none⟩=some (.int .i64 (pAt r 1).1)/\w.cell? ⟨b,off+1*2+1,none⟩=some (.int .i64 (pAt r 1).2)):=hc 1
 have HB1:Hid (1<n->(0<=(pAt r 1).1/\(pAt r 1).1<=255)/\0<=(pAt r 1).2/\(pAt r 1).2<=65520):=fun h=>HR.out.at (h1i h)
 generalize fp e r=F at *
 generalize (pAt r 0).1=q at *
 generalize (pAt r 0).2=s at *
 generalize (pAt r 1).1=q' at *
 generalize (pAt r 1).2=s' at *
 have hq1:q.tmod 2=q%2:=by rw[Int.tmod_eq_emod_of_nonneg (by omega)]
 clear hc h1i hr0
 by_cases h1:q%2=1
 ·have hF:=HO.out h1
  subst hF
  have hS:=fun w=>oz e s w he hb0.2
  generalize t2 e s=z at *
  have h1b:(q%2==1)=true:=by simpa using h1
  clear HO HP HU KZ HB1
  go_enter Tryz.func328,Tryz.ntmps328
  go_wp2_with fail
  refine(hS _).mono ?_
  rintro en w1 ⟨rfl,hb1⟩
  clear hS
  go_wp2
  go_ret2
  exact⟨rfl,ak hb1⟩
 ·have h1b:(q%2==1)=false:=by simpa using h1
  by_cases h2:1<n/\q'=q+1
  ·have hF:=HP.out h2.1 h1 h2.2
   subst hF
   obtain⟨c1,d1⟩:=KZ.out h2.1
   have hb1:=HB1.out h2.1
   simp only[Nat.one_mul]at c1 d1
   have hS:=fun w=>oz s s' w hb0.2 hb1.2
   generalize t2 s s'=z at *
   have h21:1<n:=h2.1
   have h22:(1:Int)<(n:Int):=by omega
   have h2b:(q'==q+1)=true:=by simpa using h2.2
   have XY:decide ((1:Int)<(n:Int))=true:=by simpa using h22
   have Yd:IntKind.i64.wrap (q+1)=q+1:=by rw[IntKind.wrap_i64];omega
   clear HO HP HU KZ HB1 h2
   go_enter Tryz.func328,Tryz.ntmps328
   go_wp2
   go_quiet (fail)
   go_wp2
   have W0:Below w.heap.size w ((w.alloc (.cells #[.int .i64 q,.int .i64 s] 381)).drewN nq):=below_drewN (aj _) _
   have a1:=After.cell (W:=(w.alloc (.cells #[.int .i64 q,.int .i64 s] 381)).drewN nq) (eG (heap_alloc_new w (.cells #[.int .i64 q,.int .i64 s] 381))).2.1
   have a2:=After.cell ((W0.cell (p:=⟨b,off+2+1,none⟩) hb).trans d1)
   have a3:∀n:After ((w.alloc (.cells #[.int .i64 q,.int .i64 s] 381)).drewN nq),n.w.cell? ⟨b,off+3,none⟩=some (.int .i64 s'):=a2
   have hne:=After.ne ((w.alloc (.cells #[.int .i64 q,.int .i64 s] 381)).drewN nq)
   have HW0:Hid (Below w.heap.size w ((w.alloc (.cells #[.int .i64 q,.int .i64 s] 381)).drewN nq)):=W0
   clear W0
   refine ay (by kernel_rfl) (by kernel_rfl) ?_
   repeat(first | go_big_quiet_skip |(go_big_quiet_want;go_big_quiet_op;first | go_big_quiet_on | go_big_quiet_call (first |(go_at_call 297;refine(hS _).mono ?_;rintro e wq ⟨rfl,hbq⟩;exact⟨rfl,bP (ah (After.b _) hbq)⟩))))
   refine wpQuiet_nil ?_
   rintro _ ⟨n2,rfl⟩
   have hB2:Below w.heap.size w n2.w:=ah HW0.out n2.b
   go_wp2
   go_ret2
   exact⟨rfl,hB2⟩
  ·have hF:=HU.out h1 h2
   subst hF
   have hS:=fun w=>oz s e w hb0.2 he
   generalize t2 s e=z at *
   by_cases h21:1<n
   ·obtain⟨c1,d1⟩:=KZ.out h21
    simp only[Nat.one_mul]at c1 d1
    have h22:(1:Int)<(n:Int):=by omega
    have h2b:(q'==q+1)=false:=by simpa using fun h=>h2 ⟨h21,h⟩
    have XY:decide ((1:Int)<(n:Int))=true:=by simpa using h22
    have Yd:IntKind.i64.wrap (q+1)=q+1:=by rw[IntKind.wrap_i64];omega
    clear HO HP HU KZ HB1 h2 d1
    go_enter Tryz.func328,Tryz.ntmps328
    go_wp2
    go_quiet (fail)
    go_wp2_with fail
    refine(hS _).mono ?_
    rintro en w1 ⟨rfl,hb1⟩
    clear hS
    go_wp2
    go_ret2
    exact⟨rfl,ah (below_drewN (aj _) _) hb1⟩
   ·have h22:¬(1:Int)<(n:Int):=by omega
    have XY:decide ((1:Int)<(n:Int))=false:=by simpa using h22
    clear HO HP HU KZ HB1 h2
    go_enter Tryz.func328,Tryz.ntmps328
    go_wp2
    go_quiet (fail)
    go_wp2_with fail
    refine(hS _).mono ?_
    rintro en w1 ⟨rfl,hb1⟩
    clear hS
    go_wp2
    go_ret2
    exact⟨rfl,ah (below_drewN (aj _) _) hb1⟩
theorem drop_at{r:Prl}{j k:Nat}:pAt (r.drop j) k=pAt r (j+k):=by
 unfold pAt
 rw[List.getD_eq_getElem?_getD,List.getD_eq_getElem?_getD,List.getElem?_drop]
theorem Pls.drop{r:Prl}(h:Pls r)(j:Nat):Pls (r.drop j):=fun p hp=>h p (List.mem_of_mem_drop hp)
theorem JB(v:Value)(r:Prl)(e:Int)(w:World)(hv:Prs w v r)(hcap:∀a n c,v = .slice a n c->n<=c)(hn:r.length<=12)(he:0<=e/\e<=65520)(hR:Pls r):
  Calls Tryz.prog 299 #[v,.int .i64 e] w fun en w'=>∃v',en = .returned v'/\w'.ownsRow w.heap.size 381 2 v' (abv e r).length ((fl (abv e r)).map (Value.int .i64))/\Below w.heap.size w w':=by
 obtain⟨i0,hi,hz0,hz1,hz2⟩:=info_parts Tryz.PS
 have HV:Hid (Prs w v r):=hv
 obtain⟨ad,c,rfl⟩:=hv.shape
 have hcp:=hcap _ _ _ rfl
 have HR:Hid (Pls r):=hR
 have HC:Hid (r.length<=c):=hcp
 have YR:Hid ([]++abv e (r.drop 0)=abv e r):=by show _=_;simp
 have HN:Hid (r.length<=12):=hn
 have sO:Hid (Prs w (.slice ad r.length c) (r.drop 0)):=hv
 have e0:Hid ((r.drop 0).length=r.length):=by show _=_;simp
 generalize r.length=n at *
 clear hv hcap hR hcp HV hn
 go_enter Tryz.func299,Tryz.ntmps299
 go_wp2
 go_loopw [0,5] (fun u a wr=>∃(j:Nat)(ac:Prl)(ad:Option Addr)(m c:Nat),u = .slice ad m c/\m<=c/\Hid ((r.drop j).length=m)/\m<=12/\Hid (Prs w u (r.drop j))/\Hid (ac++abv e (r.drop j)=abv e r)/\ac.length+m<=12/\Hid (Below w.heap.size w wr)/\Hid (wr.ownsRow w.heap.size 381 2 a ac.length ((fl ac).map (Value.int .i64)))) (fun u _ _=>(match u with | .slice _ m _=>m | _=>0))
 case atStart=>exact⟨0,[],ad,n,c,rfl,HC.out,e0,HN.out,sO,YR,by have:=HN.out;simp;omega,Below.refl _ _,World.ownsRow_nil _ _ _ _⟩
 case round=>
  obtain⟨j,ac,ad,m,c,rfl,hmc,HM,hm,HP,HA,hac,HB,HO⟩:=hrel
  obtain⟨a',c',rfl⟩:=bW HO.out
  by_cases hm0:0<m
  ·have Ya:(0:Int)<(m:Int):=by omega
   obtain⟨-,b,off,rfl,hb,hc⟩:=HP.out.at (by rw[HM.out];exact hm0)
   rw[HM.out]at hc
   obtain⟨HA1,hu1,hu2⟩:=VA e (r:=r.drop j) (by rw[HM.out];exact hm0)
   rw[HM.out]at hu2
   have hF:=fun w' h=>EW b off c m (r.drop j) e w' HM.out.symm hm0 hm (Nat.lt_of_lt_of_le hb (Below.size (B:=w.heap.size) h)) he (HR.out.drop j) (fun k hk=>⟨(h.cell (p:=⟨b,off+k*2,none⟩) hb).trans (hc k hk).1,(h.cell (p:=⟨b,off+k*2+1,none⟩) hb).trans (hc k hk).2⟩)
   have hb0:=(HR.out.drop j).at (k:=0) (by rw[HM.out];exact hm0)
   have c0:∀w',Below w.heap.size w w'->w'.cell? ⟨b,off,none⟩=some (.int .i64 (pAt (r.drop j) 0).1):=fun w' h=>by
    have:=(h.cell (p:=⟨b,off+0*2,none⟩) hb).trans (hc 0 hm0).1
    simpa using this
   have aZ:Hid (∀k,k<m->w.cell? ⟨b,off+k*2,none⟩=some (.int .i64 (pAt (r.drop j) k).1)/\w.cell? ⟨b,off+k*2+1,none⟩=some (.int .i64 (pAt (r.drop j) k).2)):=hc
   generalize (fp e (r.drop j)).1=z at *
   generalize (fp e (r.drop j)).2=u at *
   generalize (pAt (r.drop j) 0).1=q at *
   have HA2:Hid ((ac++[(q/2,z)])++abv e (r.drop (j+u))=abv e r):=by
    show _=_
    rw[←HA.out,HA1,List.drop_drop,List.append_assoc]
    rfl
   have hq1:q.tdiv 2=q/2:=by rw[Int.tdiv_eq_ediv_of_nonneg (by omega)]
   have Yd:IntKind.i64.wrap (q/2)=q/2:=by rw[IntKind.wrap_i64];omega
   clear hc HA1
   go_wp2_with fail
   refine(hF _ HB.out).mono ?_
   rintro en w1 ⟨rfl,hb1⟩
   have hB1:=ah HB.out hb1
   have hc0:=c0 _ hB1
   have ho1:=own_below HO.out hb1
   have hwz:=hB1.size
   have ZW:b<w1.heap.size:=by omega
   clear hF c0 hb1 HO
   have hui:(u:Int)<=(m:Int):=by omega
   have hu0:(0:Int)<=(u:Int):=by omega
   have hcl:ac.length<=12:=by omega
   go_wp2_with (at_builtin;refine wpList_append_own _ rfl _ _ 377 rfl w.heap.size 381 i0 (.agg #[.int .i64 0,.int .i64 0]) 2 16 Tryz.underlying377 hi hz0 hz1 hz2 rfl (by decide) _ _ _ rfl (ho1.alloc _) ⟨w1.heap.size,0,none⟩ 1 1 [.int .i64 (q/2),.int .i64 z] rfl rfl (World.news_of_block (heap_alloc_new _ _)) (ints_oneCell .i64 [q/2,z]) (by unfold maxLen;omega) (by omega) (by simp;omega) ?_)
   intro v' w2 hown' hgrow _
   have hb2:Below w.heap.size w w2:=(hB1.alloc (by omega) _).grown hgrow (by simp;omega) (fun k hk=>(ho1.lt k hk).1)
   have aN:=uN hown'
   clear hgrow hown' ho1
   have Y1:Hid (Prs w (.slice (if c=u then some ⟨b,off,none⟩else some ⟨b,off+u*2,none⟩) (m - u) (c - u)) (r.drop (j+u))):=by
    have hl:(r.drop (j+u)).length=m - u:=by rw[←List.drop_drop,List.length_drop,HM.out]
    by_cases hmu:m=u
    ·left
     exact⟨List.eq_nil_of_length_eq_zero (by rw[hl];omega),_,_,by rw[hmu,Nat.sub_self]⟩
    ·right
     rw[if_neg (by omega)]
     refine⟨b,off+u*2,c - u,by rw[hl],hb,fun k hk=> ?_⟩
     rw[hl]at hk
     have h3:=aZ.out (u+k) (by omega)
     rw[drop_at]at h3
     rw[drop_at,Nat.add_assoc j u k,show off+u*2+k*2=off+(u+k)*2 by omega]
     exact h3
   have YZ:Hid ((r.drop (j+u)).length=m - u):=by show _=_;rw[←List.drop_drop,List.length_drop,HM.out]
   go_wp2
   go_roundw
   case rel=>exact⟨j+u,ac++[(q/2,z)],_,m - u,c - u,rfl,by omega,YZ,by omega,Y1,HA2,by simp;omega,hb2,aN⟩
   case measure=>show m - u<m;omega
  ·have hm0:m=0:=by omega
   subst hm0
   have e1:ac=abv e r:=by
    have:=HA.out
    rw[List.eq_nil_of_length_eq_zero HM.out]at this
    simpa [abv]using this
   subst e1
   go_wp2
   go_ret
   exact⟨_,rfl,HO.out,HB.out⟩
end U
end Go.Proofs.YtmnfokgllcdiiaaGreat
