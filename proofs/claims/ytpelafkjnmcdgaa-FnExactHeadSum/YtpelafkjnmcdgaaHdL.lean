/- Heads as the laws look at them: copied, compared. -/
import Derived.Test.YtpelafkjnmcdgaaHd3
import Derived.Test.YtpelafkjnmcdgaaEqR
namespace Go.Proofs.Ytpelafkjnmcdgaa
open Go.RowKit
namespace U
set_option maxRecDepth 100000 in
set_option maxHeartbeats 1000000 in
theorem toHead_any (e p o n v : Int) (w : World) :
    Calls Try.prog 36 #[hdV e p o n v] w fun x w' => x = .returned (hdV e p o n v) ∧ Below w.heap.size w w' := by
  unfold hdV
  go_enter Try.func36, Try.ntmps36
  go_wp2
  refine bodyPost_ret (v := hdV e p o n v) (by simp [results, Try.results36, go_sem, hdV]) rfl ⟨rfl, ?_⟩
  exact (two_new _ _).alloc (by simp; omega) _
set_option maxRecDepth 100000 in
set_option maxHeartbeats 1000000 in
theorem eqHead_same (e p o n v : Int) (w : World) :
    Calls Try.prog 106 #[hdV e p o n v, hdV e p o n v] w fun x w' => x = .returned (.bool true) ∧ Below w.heap.size w w' := by
  have h0 := hne_all e
  have h1 := hne_all p
  have h2 := hne_all o
  have h3 := hne_all n
  have h4 := hne_all v
  unfold hdV
  go_enter Try.func106, Try.ntmps106
  go_wp2
  go_ret
  exact ⟨rfl, two_new _ _⟩
set_option maxRecDepth 100000 in
set_option maxHeartbeats 1000000 in
theorem eqHeadResult_same (c e p o n v : Int) (w : World) :
    Calls Try.prog 46 #[hrV c e p o n v, hrV c e p o n v] w fun x w' => x = .returned (.bool true) ∧ Below w.heap.size w w' := by
  have h0 := hne_all c
  have hE := fun w => eqHead_same e p o n v w
  unfold hrV
  unfold hdV at hE
  go_enter Try.func46, Try.ntmps46
  go_wp2_with fail
  refine (hE _).mono ?_
  rintro x w1 ⟨rfl, hb1⟩
  clear hE
  go_wp2
  go_ret
  exact ⟨rfl, below_after (below_after hb1)⟩
end U
end Go.Proofs.Ytpelafkjnmcdgaa
