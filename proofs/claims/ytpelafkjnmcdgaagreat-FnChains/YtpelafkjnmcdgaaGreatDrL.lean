/- Directories as the laws look at them: sizes, copies, compared. -/
import Derived.Test.YtpelafkjnmcdgaaGreatDr2
import Derived.Test.YtpelafkjnmcdgaaGreatRecL
import Derived.Test.YtpelafkjnmcdgaaGreatRecE
namespace Go.Proofs.YtpelafkjnmcdgaaGreat
open Go.RowKit
namespace U
theorem Tryz.infoRc : (Tryz.prog.info? 88).map (fun i => (i.zero, i.size, i.bytes)) = some (some (.agg #[.string ⟨#[]⟩, .int .i64 0, .int .i64 0, .int .i64 0]), 4, 40) := by kernel_rfl
/-- What is left of a size behind some records. -/
def szT (l : Rcl) (z : Int) : Nat → Int
  | 0 => z - l.length
  | k + 1 => szT l z k - (rAt l k).l.size
theorem szT_mono (l : Rcl) (z : Int) (k : Nat) : ∀ d, szT l z (k + d) ≤ szT l z k
  | 0 => Int.le_refl _
  | d + 1 => by
    have := szT_mono l z k d
    show szT l z (k + d) - _ ≤ _
    omega
def szR (l : Rcl) (z : Int) : Int := if szT l z l.length < 0 then -1 else szT l z l.length
theorem szT_le {l : Rcl} {z : Int} {k : Nat} : szT l z k ≤ z := by
  have h := szT_mono l z 0 k
  rw [Nat.zero_add] at h
  have : szT l z 0 = z - l.length := rfl
  omega
theorem szR_ok {l : Rcl} {z : Int} (hz : z ≤ 1048576) (h : ¬ szR l z < 0) : l.length ≤ 1048576 ∧ Lbs l ∧ szR l z ≤ z ∧ szR l z = szT l z l.length := by
  unfold szR at h ⊢
  by_cases h1 : szT l z l.length < 0
  · rw [if_pos h1] at h; omega
  · rw [if_neg h1]
    refine ⟨?_, ?_, szT_le, rfl⟩
    · have h2 := szT_mono l z 0 l.length
      rw [Nat.zero_add] at h2
      have : szT l z 0 = z - l.length := rfl
      omega
    · intro r hr
      obtain ⟨j, hj, rfl⟩ := List.mem_iff_getElem.1 hr
      have h2 := szT_mono l z (j + 1) (l.length - (j + 1))
      rw [show j + 1 + (l.length - (j + 1)) = l.length by omega] at h2
      have h3 : szT l z (j + 1) = szT l z j - (rAt l j).l.size := rfl
      have h4 : szT l z j ≤ z := szT_le
      rw [rAt_eq hj] at h3
      omega
/-- Records whose labels lie in memory. -/
def LbM (l : Rcl) : Prop := ∀ r ∈ l, r.l.size ≤ maxLen
theorem LbM.at {l : Rcl} (h : LbM l) {j : Nat} (hj : j < l.length) : (rAt l j).l.size ≤ maxLen := h _ (rAt_mem hj)
end U
end Go.Proofs.YtpelafkjnmcdgaaGreat
