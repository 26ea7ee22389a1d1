/- The size of an operation, whatever is left. -/
import Derived.Test.YtmmcgjacojgeaaaGreatGBK
import Derived.Test.YtmmcgjacojgeaaaGreatGBC
set_option maxRecDepth 100000
set_option maxHeartbeats 2000000
namespace Go.Proofs.YtmmcgjacojgeaaaGreat
open Go.RowKit
namespace U
theorem Xt(k:Int)(l:ByteArray)(v o p s n z:Int)(w:World)(hs:l.size<=maxLen)(hz:0<=z/\z<=1048576):
  Calls Tryz.prog 16 #[opV k l v o p s n,.int .i64 z] w fun e w'=>e = .returned (.int .i64 (if z - l.size<0 then -1 else z - l.size))/\Below w.heap.size w w':=by
 have hR:=fun w=>zT l v o p z w hs hz
 unfold bQ at hR
 unfold opV
 by_cases h1:z - l.size<0
 ·rw[if_pos h1]at hR ⊢
  go_enter Tryz.func16,Tryz.ntmps16
  go_wp2_with fail
  refine(hR _).mono ?_
  rintro e w1 ⟨rfl,hb1⟩
  go_wp2
  go_ret
  exact⟨rfl,ak hb1⟩
 ·rw[if_neg h1]at hR ⊢
  go_enter Tryz.func16,Tryz.ntmps16
  go_wp2_with fail
  refine(hR _).mono ?_
  rintro e w1 ⟨rfl,hb1⟩
  go_wp2
  go_ret
  exact⟨rfl,ak hb1⟩
end U
end Go.Proofs.YtmmcgjacojgeaaaGreat
