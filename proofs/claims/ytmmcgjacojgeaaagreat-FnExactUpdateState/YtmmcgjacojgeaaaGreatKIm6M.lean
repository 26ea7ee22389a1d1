/- Steps of a copy, as mathematics; a row of one's own taken anew. -/
import Derived.Test.YtmmcgjacojgeaaaGreatKBD
import Derived.Test.YtmmcgjacojgeaaaGreatKSt7
namespace Go.Proofs.YtmmcgjacojgeaaaGreat
open Go.RowKit
namespace U
theorem Own.swap{lo mid hi:Nat}{w:World}{A B:List Rw}{r r':Rw}(h:Own lo mid w (A++r::B))(k:Own mid hi w [r'])(h1:lo<=mid)(h2:mid<=hi):Own lo hi w (A++r'::B):=by
 have e:Own lo mid w ([r]++(A++B)):=h.perm List.perm_middle
 have e2:=e.right.app k h1 h2
 rw[List.append_assoc]at e2
 exact e2.perm (List.Perm.append_left A (List.perm_append_singleton r' B))
end U
end Go.Proofs.YtmmcgjacojgeaaaGreat
