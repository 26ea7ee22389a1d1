/- Joined: what the texts behind it need. -/
import Derived.Test.YtmnfokgllcdiiaaGreatYBC
import Derived.Test.YtmnfokgllcdiiaaGreatYBA
set_option maxRecDepth 100000
set_option maxHeartbeats 2000000
namespace Go.Proofs.YtmnfokgllcdiiaaGreat
open Go.RowKit Go.Maps
namespace U
def lkO(l:Rcl)(key:Int):Option Rc:=if atI l key = -1 then none else some (rAt l (atI l key).toNat)
theorem xY{l:Rcl}(h:iZ l)(x:Int):dh l l.length x=lkO l x:=by
 rcases Qa h x with⟨h1,h2⟩ |⟨j,-,h1,h2,-⟩
 ·rw[h2,lkO,if_pos h1]
 ·rw[h2,lkO,h1,if_neg (by omega),Int.toNat_natCast]
theorem LY{l:Rcl}{x:Int}{r:Rc}(h:lkO l x=some r):r.k=x/\r∈l:=by
 unfold lkO at h
 rcases oH l x with⟨h1,-⟩ |⟨j,h1,h2,h3⟩
 ·rw[if_pos h1]at h;cases h
 ·rw[h3,if_neg (by omega),Int.toNat_natCast]at h
  cases h
  exact⟨h2,sZ h1⟩
theorem kR{w:World}{g:Nat}{a b:Int}{t:TypeId}(hg:g=w.heap.size):Ints .i64 (w.alloc (.cells #[.int .i64 a,.int .i64 b] t)) (.slice (some ⟨g,0,none⟩) 2 2) [a,b]:=by
 subst hg
 have hh:=heap_alloc_new w (.cells #[.int .i64 a,.int .i64 b] t)
 refine Or.inr ⟨w.heap.size,0,2,rfl,by simp,fun j hj=> ?_⟩
 have hj2:j<2:=hj
 rcases(by omega:j=0∨j=1)with rfl | rfl<;>(unfold World.cell?;rw[hh];rfl)
theorem pU{w:World}{b:Nat}{v:Value}{t:TypeId}(h:w.heap[b]? = some (.cells #[v] t (0,0))):w.cell? ⟨b,0,none⟩=some v:=by unfold World.cell?;rw[h];rfl
end U
end Go.Proofs.YtmnfokgllcdiiaaGreat
namespace Go.Proofs.YtmnfokgllcdiiaaGreat
open Go.RowKit
namespace U
end U
end Go.Proofs.YtmnfokgllcdiiaaGreat
namespace Go.Proofs.YtmnfokgllcdiiaaGreat
open Go.RowKit Go.Maps
namespace U
theorem PZ(g og b off c n:Nat)(l:Rcl)(key:Int)(w:World)(hn:n<=12)(hg:g<w.heap.size)(hb:b<w.heap.size)(hsm:∀j,j<n->(rAt l j).l.size<=12)
  (hD:w.cell? ⟨g,og,none⟩=some (.slice (some ⟨b,off,none⟩) n c)) (hc:∀j,j<n->fP w b (off+j*4) (rAt l j)) :
  Calls Tryz.prog 152 #[.pointer (some ⟨g,og,none⟩),.int .i64 key] w fun e w'=>e = .returned (.int .i64 (atK l key n 0))/\Below w.heap.size w w':=by
 obtain⟨q,hq⟩:∃q,q=atK l key n 0:=⟨_,rfl⟩
 have HQ:Hid (atK l key n 0=q):=hq.symm
 rw[←hq]
 clear hq
 have HD:Hid (∀w',Below w.heap.size w w'->w'.cell? ⟨g,og,none⟩=some (.slice (some ⟨b,off,none⟩) n c)):=fun w' h=>(h.cell (p:=⟨g,og,none⟩) hg).trans hD
 go_enter Tryz.func152,Tryz.ntmps152
 go_wp2
 go_loopw [5] (fun i wr=>∃k:Nat,k<=n/\i = .int .i64 k/\Hid (Below w.heap.size w wr)/\Hid (atK l key (n - k) k=q)) (fun i _=>n - (intOf i).toNat)
 case atStart=>exact⟨0,Nat.zero_le _,rfl,Below.refl _ _,HQ⟩
 case round=>
  obtain⟨k,hk,rfl,hB,HS⟩:=hrel
  have VP:=HD.out _ hB.out
  by_cases hkn:k<n
  ·have hki:(k:Int)<(n:Int):=by omega
   have d0:=((hc k hkn).below hB.out hb).c0
   have hK:=fun w=>lW (rAt l k).l w (hsm k hkn)
   have e2:dY (rAt l k).l=(rAt l k).k:=rfl
   rw[e2]at hK
   have ku:Hid (n - k=(n - k - 1)+1):=(by omega:n - k=(n - k - 1)+1)
   have HH:Hid ((rAt l k).k=key->q=k):=(fun h=>by rw[←HS.out,ku.out];exact Ll h:(rAt l k).k=key->q=k)
   have HM:Hid (¬(rAt l k).k=key->atK l key (n - k - 1) (k+1)=q):=(fun h=>by rw[←HS.out,ku.out];exact(Gx h).symm:¬(rAt l k).k=key->atK l key (n - k - 1) (k+1)=q)
   generalize (rAt l k).k=kz at *
   generalize (rAt l k).l=x0 at *
   clear hc e2 hsm
   by_cases hkk:kz=key
   ·subst hkk
    have gG:Hid (q=k):=HH.out rfl
    clear HH HM
    go_wp2_with fail
    refine(hK _).mono ?_
    rintro e w1 ⟨rfl,hb1⟩
    have HB1:Hid (Below w.heap.size w w1):=ah hB.out hb1
    clear hK hb1
    go_wp2
    go_ret
    exact⟨aG gG.out.symm,HB1.out⟩
   ·have hbn:(kz==key)=false:=by simpa using hkk
    have gG:Hid (atK l key (n - k - 1) (k+1)=q):=HM.out hkk
    clear HH HM hkk
    go_wp2_with fail
    refine(hK _).mono ?_
    rintro e w1 ⟨rfl,hb1⟩
    have HB1:Hid (Below w.heap.size w w1):=ah hB.out hb1
    clear hK hb1
    go_wp2
    go_roundw
    case rel=>exact⟨k+1,by omega,by go_num,HB1,by rw[show n - (k+1)=n - k - 1 by omega];exact gG⟩
    case measure=>simp[intOf];omega
  ·have hkn:k=n:=by omega
   subst hkn
   have e0:Hid (q = -1):=(by rw[←HS.out,Nat.sub_self];rfl:q = -1)
   clear hc
   go_wp2
   go_ret
   exact⟨aG e0.out.symm,hB.out⟩
theorem qN(g og:Nat)(v:Value)(l:Rcl)(key:Int)(w:World)(hg:g<w.heap.size)(hD:w.cell? ⟨g,og,none⟩=some v)(hv:Rcs w v l)(hok:iZ l):
  Calls Tryz.prog 152 #[.pointer (some ⟨g,og,none⟩),.int .i64 key] w fun e w'=>e = .returned (.int .i64 (atI l key))/\Below w.heap.size w w':=by
 obtain⟨a,c,rfl⟩:=hv.shape
 by_cases h0:0<l.length
 ·obtain⟨_,b,off,rfl,hb,hc⟩:=hv.at h0
  exact PZ g og b off c l.length l key w hok.len hg hb (fun j hj=>Rc.nU (hok.ok j hj)) hD hc
 ·have e1:l=[]:=List.eq_nil_of_length_eq_zero (by omega)
  subst e1
  have e2:atI [] key = -1:=rfl
  rw[e2]
  simp only[List.length_nil]at *
  clear hv h0 hok e2
  go_enter Tryz.func152,Tryz.ntmps152
  go_wp2
  refine wp_loop_rounds 1 ?_;rw[rounds_succ]
  go_wp2
  go_ret
  exact⟨rfl,Below.refl _ _⟩
end U
end Go.Proofs.YtmnfokgllcdiiaaGreat
