/- A code and a directory: compared, marked, looked at anew. -/
import Derived.Test.YtcdodpcdennemaaDrN
import Derived.Test.YtcdodpcdennemaaDrE
namespace Go.Proofs.Ytcdodpcdennemaa
open Go.RowKit
namespace U
set_option maxRecDepth 100000 in
set_option maxHeartbeats 1000000 in
theorem heldDirectory_any (v : Value) (n k0 : Nat) (w : World) (hv : Rcs w v (mkR k0 n)) (hx : n ≤ 1048576) (hk0 : 0 < k0 ∧ k0 ≤ 1099511627776) :
    Calls Try.prog 144 #[.agg #[v], .int .i64 k0] w fun e w' => e = .returned (.int .i64 ((k0 + n * 4 : Nat) : Int)) ∧ Below w.heap.size w w' := by
  have hH := fun o => heldRecordS_any v n k0 _ (hv.below (one_new o)) hx hk0
  obtain ⟨a, c', rfl⟩ := hv.shape
  rw [mkR_len] at *
  have hs : ¬ ((k0 + n * 4 : Nat) : Int) < 0 := by omega
  generalize ((k0 + n * 4 : Nat) : Int) = z at *
  clear hv
  go_enter Try.func144, Try.ntmps144
  go_wp2_with fail
  refine (hH _).mono ?_
  rintro e w1 ⟨rfl, hb1⟩
  clear hH
  go_wp2
  go_ret
  exact ⟨rfl, below_after hb1⟩
end U
end Go.Proofs.Ytcdodpcdennemaa
