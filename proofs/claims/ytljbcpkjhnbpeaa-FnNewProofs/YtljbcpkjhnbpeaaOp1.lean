/- What is summed for a leaf, by the program and by the model. -/
import Derived.Test.YtljbcpkjhnbpeaaSl2
namespace Go.Proofs.Ytljbcpkjhnbpeaa
open Go.RowKit
namespace U
/-- Whether a leaf is asked as it may be; its bytes. -/
def askd (k : Int) (b : Bool) (v : Int) : Bool := inB k 0 255 && (if b = true then sumB v else decide (v = 0))
def leafL (k : Int) (b : Bool) (v : Int) : List Int := if b = true then tagL 3 [k, v] else []
def lbC (k : Int) (b : Bool) (v : Int) : Int := if askd k b v = true then 0 else 3
def lbL (k : Int) (b : Bool) (v : Int) : List Int := if askd k b v = true then leafL k b v else []
theorem lb_no {k v : Int} {b : Bool} (h : askd k b v = false) : lbC k b v = 3 ∧ lbL k b v = [] := by simp [lbC, lbL, h]
theorem lb_ok {k v : Int} {b : Bool} (h : askd k b v = true) : lbC k b v = 0 ∧ lbL k b v = leafL k b v := by simp [lbC, lbL, h]
theorem lb_nokey {k v : Int} {b : Bool} (h : inB k 0 255 = false) : askd k b v = false := by simp [askd, h]
theorem lb_there {k v : Int} (h : inB k 0 255 = true) : askd k true v = sumB v := by simp [askd, h]
theorem lb_none {k v : Int} (h : inB k 0 255 = true) : askd k false v = decide (v = 0) := by simp [askd, h]
theorem askd_key {k v : Int} {b : Bool} (h : askd k b v = true) : 0 ≤ k ∧ k ≤ 255 := by
  unfold askd at h
  rw [Bool.and_eq_true] at h
  exact inB_bd h.1
theorem leaf_two {k v : Int} (hk : 0 ≤ k ∧ k ≤ 255) (hv : sumB v = true) : tgC 3 [k, v] = 0 ∧ tgL 3 [k, v] = tagL 3 [k, v] := by
  have hv' := (sumB_iff v).1 hv
  have h3 : [k, v].all sumB = true := by
    have : sumB k = true := (sumB_iff k).2 (by omega)
    simp [this, hv]
  exact tg_ok (by decide) (by simp) h3
theorem leafL_len (k : Int) (b : Bool) (v : Int) : (leafL k b v).length ≤ 5 := by
  unfold leafL
  split
  · rw [tagL_len]; simp
  · simp
theorem leafL_bts {k v : Int} {b : Bool} (h : askd k b v = true) : Bts (leafL k b v) := by
  unfold leafL
  split
  · rename_i hb
    subst hb
    have hk := askd_key h
    have hv : sumB v = true := by
      unfold askd at h
      rw [Bool.and_eq_true] at h
      simpa using h.2
    have hv' := (sumB_iff v).1 hv
    refine tagL_bts (by omega) ?_
    have : sumB k = true := (sumB_iff k).2 (by omega)
    simp [this, hv]
  · intro b hb; cases hb
theorem lbL_len (k : Int) (b : Bool) (v : Int) : (lbL k b v).length ≤ 5 := by
  unfold lbL
  split
  · exact leafL_len k b v
  · simp
end U
end Go.Proofs.Ytljbcpkjhnbpeaa
