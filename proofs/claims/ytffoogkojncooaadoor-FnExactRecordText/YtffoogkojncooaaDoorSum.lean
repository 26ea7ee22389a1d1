import Derived.Test.YtffoogkojncooaaDoorTo
import Derived.Test.YtffoogkojncooaaDoorByteS
namespace Go.Proofs.YtffoogkojncooaaDoor
open Go.RowKit
namespace U
/-- Numbers that are bytes. -/
def Bts (bs : List Int) : Prop := ∀ b ∈ bs, 0 ≤ b ∧ b ≤ 255
theorem Bts.at {bs : List Int} (h : Bts bs) {k : Nat} (hk : k < bs.length) : 0 ≤ bs.getD k 0 ∧ bs.getD k 0 ≤ 255 := by
  rw [getD_eq hk]; exact h _ (List.getElem_mem hk)
def sumF (n b : Int) : Int := (n * 139 + b + 1) % 65521
def sumL (bs : List Int) : Int := bs.foldl sumF 13
def sumAt (bs : List Int) (k : Nat) : Int := sumL (bs.take k)
theorem sumAt_zero (bs : List Int) : sumAt bs 0 = 13 := rfl
theorem sumAt_all (bs : List Int) : sumAt bs bs.length = sumL bs := by unfold sumAt; rw [List.take_length]
theorem sumAt_succ {bs : List Int} {k : Nat} (h : k < bs.length) : sumAt bs (k + 1) = sumF (sumAt bs k) (bs.getD k 0) := by
  unfold sumAt sumL
  rw [take_snoc2 h, List.foldl_append]
  rfl
theorem sum_bd_aux (bs : List Int) : ∀ n : Int, 0 ≤ n → n ≤ 65520 → 0 ≤ bs.foldl sumF n ∧ bs.foldl sumF n ≤ 65520 := by
  induction bs with
  | nil => intro n h0 h1; exact ⟨h0, h1⟩
  | cons b bs ih =>
    intro n _ _
    rw [List.foldl_cons]
    exact ih _ (by unfold sumF; omega) (by unfold sumF; omega)
theorem sumL_bd (bs : List Int) : 0 ≤ sumL bs ∧ sumL bs ≤ 65520 := sum_bd_aux bs 13 (by omega) (by omega)
theorem sumAt_bd (bs : List Int) (k : Nat) : 0 ≤ sumAt bs k ∧ sumAt bs k ≤ 65520 := sumL_bd _

/-- Its code, and its value. -/
def smC (bs : List Int) : Int := if 200 < bs.length then 2 else 0
def smV (bs : List Int) : Int := if 200 < bs.length then 0 else sumL bs
theorem sm_many {bs : List Int} (h : 200 < bs.length) : smC bs = 2 ∧ smV bs = 0 := by simp [smC, smV, h]
theorem sm_ok {bs : List Int} (h : ¬ 200 < bs.length) : smC bs = 0 ∧ smV bs = sumL bs := by simp [smC, smV, h]
def IntAns (w : World) (c v : Int) (e : Ending) (w' : World) : Prop := e = .returned (.agg #[.int .i64 c, .int .i64 v]) ∧ Below w.heap.size w w'
end U
end Go.Proofs.YtffoogkojncooaaDoor
