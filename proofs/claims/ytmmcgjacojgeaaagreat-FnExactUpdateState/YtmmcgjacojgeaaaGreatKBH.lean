/- Joined: what the texts behind it need. -/
import Derived.Test.YtmmcgjacojgeaaaGreatKBA
import Derived.OpenShut
import Derived.Test.YtmmcgjacojgeaaaGreatKBG
namespace Go.Proofs.YtmmcgjacojgeaaaGreat
open Go.RowKit
namespace U
def Code(w:World)(cv:Value)(cs:List Int):Prop:=Ints .u8 w cv cs/\cs.length<=1048576/\∀n∈cs,(Lit.int .u8 n).wf=true
theorem Code.below{w w':World}{cv:Value}{cs:List Int}(h:Code w cv cs)(hb:Below w.heap.size w w'):Code w' cv cs:=⟨h.1.below hb,h.2⟩
theorem Code.shape{w:World}{cv:Value}{cs:List Int}(h:Code w cv cs):∃a n c,cv = .slice a n c:=by
 obtain⟨a,c,rfl⟩:=h.1.shape
 exact⟨a,_,c,rfl⟩
end U
end Go.Proofs.YtmmcgjacojgeaaaGreat
namespace Go.Proofs.YtmmcgjacojgeaaaGreat
open Go.RowKit Go.Maps
namespace U
theorem Rn{l:Rcl}(hn:l.length<=12)(hc:∀x∈l,x.c=0)(hp:l.Pairwise (fun x y=>x.k<y.k)):bM l:=by
 refine⟨hn,fun j hj=>hc _ (x9 hj),fun j hj=> ?_⟩
 cases j with
 | zero=>
  show(-1:Int)<_
  have:=(rAt l 0).kbd
  omega
 | succ j=>
  show(rAt l j).k<(rAt l (j+1)).k
  rw[fA (by omega:j<l.length),fA hj]
  exact List.pairwise_iff_getElem.1 hp j (j+1) (by omega) hj (by omega)
theorem Xp{l:Rcl}(h:bM l){x:Rc}(hx:x∈l):x.c=0:=by
 obtain⟨j,hj,e⟩:=List.mem_iff_getElem.1 hx
 have:=h.ok j hj
 rw[fA hj,e]at this
 exact this
theorem Il{r:Rc}:∀ {l:Rcl},(∃x∈l,x.k=r.k)->(ltF l r).length+(gtF l r).length<l.length
 | [],⟨_,h,_⟩=>by cases h
 | y::t,⟨x,hx,e⟩=>by
  have hle:=xq r t
  have ih:=fun h=>Il (l:=t) (r:=r) h
  unfold ltF gtF at hle ih ⊢
  rw[List.filter_cons,List.filter_cons]
  rcases Int.lt_trichotomy y.k r.k with h | h | h
  ·have h2:¬r.k<y.k:=by omega
   have:=ih ⟨x,by rcases List.mem_cons.1 hx with rfl | hx<;>first | omega | exact hx,e⟩
   simp[h,h2]
   omega
  ·have h1:¬y.k<r.k:=by omega
   have h2:¬r.k<y.k:=by omega
   simp[h1,h2]
   omega
  ·have h1:¬y.k<r.k:=by omega
   have:=ih ⟨x,by rcases List.mem_cons.1 hx with rfl | hx<;>first | omega | exact hx,e⟩
   simp[h,h1]
   omega
theorem Ol{l:Rcl}(h:bM l){r:Rc}{s:Int}(hu:u9C l r s=0):bM (u9L l r s):=by
 have e:u9L l r s=dQ l r:=by unfold u9L;rw[if_pos hu]
 rw[e]
 unfold u9C at hu
 by_cases hc:r.c=0
 ·rw[if_pos hc]at hu
  refine Rn ?_ ?_ (Ea h r)
  ·unfold nN at hu
   rw[Df h,List.length_append,List.length_cons]
   have hl:=h.len
   have hpl:=xq r l
   split at hu
   ·rcases ho:lkO l r.k with _ | x
    ·rw[ho]at hu
     unfold tN at hu
     dsimp only at hu
     by_cases hf:12<=l.length
     ·exfalso
      split at hu
      ·split at hu
       ·rw[if_pos (by simpa using hf)]at hu;omega
       ·omega
      ·omega
     ·omega
    ·have hk:=sD ho
     have:=Il (r:=r) (l:=l) ⟨x,hk.2,hk.1⟩
     omega
   ·omega
  ·intro x hx
   rcases(Iz h r x).1 hx with rfl |⟨hx,-⟩
   ·exact hc
   ·exact Xp h hx
 ·rw[if_neg hc]at hu
  exact absurd hu hc
end U
end Go.Proofs.YtmmcgjacojgeaaaGreat
