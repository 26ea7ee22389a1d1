/- Steps of a copy, as mathematics; a row of one's own taken anew. -/
import Derived.Test.YtmmcgjacojgeaaaGreatGBD
import Derived.Test.YtmmcgjacojgeaaaGreatGSt7
namespace Go.Proofs.YtmmcgjacojgeaaaGreat
open Go.RowKit
namespace U
theorem Own.swap{lo mid hi:Nat}{w:World}{A B:List Rw}{r r':Rw}(h:Own lo mid w (A++r::B))(k:Own mid hi w [r'])(h1:lo<=mid)(h2:mid<=hi):Own lo hi w (A++r'::B):=by
 have e:Own lo mid w ([r]++(A++B)):=h.perm List.perm_middle
 have e2:=e.right.app k h1 h2
 rw[List.append_assoc]at e2
 exact e2.perm (List.Perm.append_left A (List.perm_append_singleton r' B))
def csN(s:St)(n:Int):Int:=if 256<=s.cu+n then 256 else s.cu+n
def csP(s:St)(n:Int):Int:=if 256<=s.cu+n then 3 else 2
def csT(s:St)(n:Int):St:=⟨csP s n,csN s n,s.d,newL s.d (csN s n),s.h,s.p⟩
theorem vY{R:Rt}{s:St}(h:stF R s=0)(hp:s.ph=2):0<=s.cu/\s.cu<=255:=by
 have:=(fP h).cu
 unfold cuB at this
 rw[hp,if_neg (by decide),if_neg (by decide),if_pos rfl]at this
 exact eF this
end U
end Go.Proofs.YtmmcgjacojgeaaaGreat
