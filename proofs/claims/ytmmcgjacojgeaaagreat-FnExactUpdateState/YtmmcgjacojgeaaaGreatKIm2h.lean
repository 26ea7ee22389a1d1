/- Answers laid into a box of one's own. -/
import Derived.Test.YtmmcgjacojgeaaaGreatKCp7
import Derived.Test.YtmmcgjacojgeaaaGreatKSt7
import Derived.Test.YtmmcgjacojgeaaaGreatKSt6
namespace Go.Proofs.YtmmcgjacojgeaaaGreat
open Go.RowKit
namespace U
theorem SI{w:World}{B n m z:Nat}{e:TypeId}{v:Value}{xs:List Value}{a:Option Addr}{c:Nat}(h:w.ownsRow B e z v n xs)(hv:v = .slice a m c):a=none->c=0:=by
 rintro rfl
 rcases h.2 with⟨e,_⟩ |⟨g,cap,cur,e,_⟩
 ·rw[hv]at e;cases e;rfl
 ·rw[hv]at e;cases e
theorem xC{w w1:World}{lo b:Nat}{u:Sv}{us:List Value}{t:St}(h:aT lo w1.heap.size w1 u us t)(hB:Below w.heap.size w w1)(hb:w.heap.size<=b)(hlo:b<lo)(x0 x1 x2 x3 x4 x5 x6:Value):
  Below w.heap.size w (((((((w1.setCell ⟨b,0,none⟩ x0).setCell ⟨b,1,none⟩ x1).setCell ⟨b,2,none⟩ x2).setCell ⟨b,3,none⟩ x3).setCell ⟨b,4,none⟩ x4).setCell ⟨b,5,none⟩ x5).setCell ⟨b,6,none⟩ x6)/\aT w.heap.size (((((((w1.setCell ⟨b,0,none⟩ x0).setCell ⟨b,1,none⟩ x1).setCell ⟨b,2,none⟩ x2).setCell ⟨b,3,none⟩ x3).setCell ⟨b,4,none⟩ x4).setCell ⟨b,5,none⟩ x5).setCell ⟨b,6,none⟩ x6).heap.size (((((((w1.setCell ⟨b,0,none⟩ x0).setCell ⟨b,1,none⟩ x1).setCell ⟨b,2,none⟩ x2).setCell ⟨b,3,none⟩ x3).setCell ⟨b,4,none⟩ x4).setCell ⟨b,5,none⟩ x5).setCell ⟨b,6,none⟩ x6) u us t:=by
 refine⟨((((((hB.setCell hb _).setCell hb _).setCell hb _).setCell hb _).setCell hb _).setCell hb _).setCell hb _, ?_⟩
 have B:=((((((h.setCell ⟨b,0,none⟩ hlo x0).setCell ⟨b,1,none⟩ hlo x1).setCell ⟨b,2,none⟩ hlo x2).setCell ⟨b,3,none⟩ hlo x3).setCell ⟨b,4,none⟩ hlo x4).setCell ⟨b,5,none⟩ hlo x5).setCell ⟨b,6,none⟩ hlo x6
 exact B.wide (by omega) (by simp)
end U
end Go.Proofs.YtmmcgjacojgeaaaGreat
