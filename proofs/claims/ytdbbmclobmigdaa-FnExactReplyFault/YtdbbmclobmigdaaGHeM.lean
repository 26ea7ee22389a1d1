/- What is held, or not: its fault, as both models tell it. -/
import Derived.Test.YtdbbmclobmigdaaGRB
namespace Go.Proofs.Ytdbbmclobmigdaa
open Go.RowKit
namespace U
/-- A record of nothing. -/
def zrR (l : ByteArray) (v o p : Int) : Bool := (l.toList == []) && ((v == 0) && ((o == 0) && (p == 0)))
theorem rec_zeroN (l : ByteArray) (v o p : Int) (w : World) : (binOp .neq 36 (.agg #[.string l, .int .i64 v, .int .i64 o, .int .i64 p]) (.agg #[.string ⟨#[]⟩, .int .i64 0, .int .i64 0, .int .i64 0])).run Try.prog w = .ok (.bool (!(zrR l v o p))) w := by
  have e : (⟨#[]⟩ : ByteArray).toList = [] := by unfold ByteArray.toList; unfold ByteArray.toList.loop; rfl
  unfold zrR
  simp [go_sem, e]
  by_cases h : l.toList = [] <;> by_cases h1 : v = 0 <;> by_cases h2 : o = 0 <;> by_cases h3 : p = 0 <;> simp [h, h1, h2, h3]
/-- The fault of what is held. -/
def heC (hl : Bool) (l : ByteArray) (v o p : Int) : Int := if hl = true then recC l v o p else (if zrR l v o p = true then 0 else 1)
theorem heC_t {l : ByteArray} {v o p : Int} : heC true l v o p = recC l v o p := if_pos rfl
theorem heC_fz {l : ByteArray} {v o p : Int} (h : zrR l v o p = true) : heC false l v o p = 0 := by unfold heC; rw [if_neg (by decide), if_pos h]
theorem heC_fn {l : ByteArray} {v o p : Int} (h : zrR l v o p = false) : heC false l v o p = 1 := by unfold heC; rw [if_neg (by decide), if_neg (by rw [h]; decide)]
set_option maxRecDepth 100000 in
set_option maxHeartbeats 2000000 in
theorem heldFault_any (hl : Bool) (l : ByteArray) (v o p : Int) (w : World) (hs : l.size ≤ 1048576) :
    Calls Try.prog 16 #[.bool hl, recV l v o p] w fun x w' => x = .returned (.int .i64 (heC hl l v o p)) ∧ Below w.heap.size w w' := by
  have R0 := RecAt.new w l v o p 36
  have ⟨c0, c1, c2, c3⟩ := R0
  cases hl
  · have hN := fun w => rec_zeroN l v o p w
    rcases Bool.eq_false_or_eq_true (zrR l v o p) with hz | hz
    · rw [heC_fz hz]
      rw [hz] at hN
      clear hz R0
      unfold recV
      go_enter Try.func16, Try.ntmps16
      go_wp2
      go_ret
      exact ⟨rfl, one_new _⟩
    · rw [heC_fn hz]
      rw [hz] at hN
      clear hz R0
      unfold recV
      go_enter Try.func16, Try.ntmps16
      go_wp2
      go_ret
      exact ⟨rfl, one_new _⟩
  · have hR := fun w => implRecordFault_any l v o p w hs
    rw [heC_t]
    unfold recV at *
    generalize recC l v o p = rc at *
    clear hs R0
    go_enter Try.func16, Try.ntmps16
    go_wp2_with fail
    refine (hR _).mono ?_
    rintro x w1 ⟨rfl, hb1⟩
    clear hR
    go_wp2
    go_ret
    exact ⟨rfl, below_after hb1⟩
end U
end Go.Proofs.Ytdbbmclobmigdaa
