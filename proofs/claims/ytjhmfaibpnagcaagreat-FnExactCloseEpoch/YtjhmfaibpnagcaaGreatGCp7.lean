/- A state turned by the model. -/
import Derived.Deep.Cut
import Derived.Test.YtjhmfaibpnagcaaGreatGCp6
import Derived.Test.YtjhmfaibpnagcaaGreatGStN
import Derived.Test.YtjhmfaibpnagcaaGreatGSt4
namespace Go.Proofs.YtjhmfaibpnagcaaGreat
open Go.RowKit
namespace U
set_option maxRecDepth 100000 in
set_option maxHeartbeats 1000000 in
theorem l11Bad_any (c : Int) (w : World) : Calls Tryz.prog 29 #[.int .i64 c] w fun e w' => StAns w c stZ e w' := by
  go_enter Tryz.func29, Tryz.ntmps29
  go_wp2
  refine bodyPost_ret (v := .agg #[.int .i64 c, .int .i64 0, .int .i64 0, .slice none 0 0, .slice none 0 0, .slice none 0 0, .slice none 0 0]) (by simp [results, Tryz.results29, go_sem]) rfl ⟨svZ, [], rfl, one_new _, stZ_own _ _ _⟩
end U
end Go.Proofs.YtjhmfaibpnagcaaGreat
