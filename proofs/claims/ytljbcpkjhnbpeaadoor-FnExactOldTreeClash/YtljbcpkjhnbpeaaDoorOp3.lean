/- Climbing from a leaf, by mathematics alone. -/
import Derived.Test.YtljbcpkjhnbpeaaDoorOp1
import Derived.Test.YtljbcpkjhnbpeaaDoorSl10
import Derived.Test.YtljbcpkjhnbpeaaDoorSl12
namespace Go.Proofs.YtljbcpkjhnbpeaaDoor
open Go.RowKit
namespace U
/-- The sum at a level, and the two sums below the next one. -/
def clm (x s : Int) (p : List Int) : Nat → Int
  | 0 => s
  | n + 1 => if x / (2 ^ n : Nat) % 2 = 0 then t2 (clm x s p n) (p.getD n 0) else t2 (p.getD n 0) (clm x s p n)
def sdL (x s : Int) (p : List Int) (n : Nat) : Int := if x / (2 ^ n : Nat) % 2 = 0 then clm x s p n else p.getD n 0
def sdR (x s : Int) (p : List Int) (n : Nat) : Int := if x / (2 ^ n : Nat) % 2 = 0 then p.getD n 0 else clm x s p n
theorem clm_zero (x s : Int) (p : List Int) : clm x s p 0 = s := rfl
theorem clm_succ (x s : Int) (p : List Int) (n : Nat) : clm x s p (n + 1) = t2 (sdL x s p n) (sdR x s p n) := by
  unfold sdL sdR
  rw [clm]
  split <;> rfl
theorem clm_even {x s : Int} {p : List Int} {n : Nat} (h : x / (2 ^ n : Nat) % 2 = 0) : clm x s p (n + 1) = t2 (clm x s p n) (p.getD n 0) := by rw [clm, if_pos h]
theorem clm_odd {x s : Int} {p : List Int} {n : Nat} (h : ¬ x / (2 ^ n : Nat) % 2 = 0) : clm x s p (n + 1) = t2 (p.getD n 0) (clm x s p n) := by rw [clm, if_neg h]
theorem clm_bd {x s : Int} {p : List Int} (h : 0 ≤ s ∧ s ≤ 65520) (n : Nat) : 0 ≤ clm x s p n ∧ clm x s p n ≤ 65520 := by
  cases n with
  | zero => exact h
  | succ n => rw [clm_succ]; exact t2_bd _ _
theorem path_at {p : List Int} (h : p.all sumB = true) (n : Nat) : 0 ≤ p.getD n 0 ∧ p.getD n 0 ≤ 65520 := by
  by_cases hn : n < p.length
  · rw [getD_eq hn]
    exact (sumB_iff _).1 (List.all_eq_true.1 h _ (List.getElem_mem hn))
  · rw [List.getD_eq_getElem?_getD, List.getElem?_eq_none (by omega)]; simp
theorem sd_bd {x s : Int} {p : List Int} (h : 0 ≤ s ∧ s ≤ 65520) (hp : p.all sumB = true) (n : Nat) : (0 ≤ sdL x s p n ∧ sdL x s p n ≤ 65520) ∧ 0 ≤ sdR x s p n ∧ sdR x s p n ≤ 65520 := by
  unfold sdL sdR
  have h1 := clm_bd (x := x) (p := p) h n
  have h2 := path_at hp n
  split
  · exact ⟨h1, h2⟩
  · exact ⟨h2, h1⟩
theorem clm_take {x s : Int} {p : List Int} {i : Nat} : ∀ n, n ≤ i → clm x s (p.take i) n = clm x s p n := by
  intro n
  induction n with
  | zero => intro _; rfl
  | succ n ih =>
    intro h
    have e : (p.take i).getD n 0 = p.getD n 0 := by
      rw [List.getD_eq_getElem?_getD, List.getD_eq_getElem?_getD, List.getElem?_take, if_pos (by omega)]
    rw [clm, clm, ih (by omega), e]
/-- A part is the sum above its two halves, whether it has a slot or not. -/
theorem nd_both (l : Prl) (n : Nat) (q : Int) : nd l (n + 1) q = t2 (nd l n (2 * q)) (nd l n (2 * q + 1)) := by
  rw [nd_succ]
  split
  · rfl
  · rename_i h
    rw [has_succ] at h
    rw [nd_none (fun e => h (Or.inl e)), nd_none (fun e => h (Or.inr e))]
    rfl
theorem pth_at (l : Prl) (x : Int) : ∀ (m n : Nat), n < m → (pth l x m).getD n 0 = nd l n (sib x n) := by
  intro m
  induction m with
  | zero => intro n h; omega
  | succ m ih =>
    intro n h
    rw [pth]
    by_cases hn : n < m
    · rw [← ih n hn, List.getD_eq_getElem?_getD, List.getD_eq_getElem?_getD, List.getElem?_append_left (by rw [pth_len]; exact hn)]
    · have : n = m := by omega
      subst this
      rw [List.getD_eq_getElem?_getD, List.getElem?_append_right (by rw [pth_len]; exact Nat.le_refl _), pth_len]
      simp
/-- Of a tree as it is, climbing is the sum of the part. -/
theorem clm_honest (l : Prl) (x : Int) {s : Int} (hs : s = nd l 0 x) : ∀ n, n ≤ 8 → clm x s (pth l x 8) n = nd l n (x / (2 ^ n : Nat)) := by
  intro n
  induction n with
  | zero => intro _; rw [clm_zero, hs]; simp
  | succ n ih =>
    intro h
    have e1 := pth_at l x 8 n (by omega)
    have e2 := ih (by omega)
    have hd := div_succ x n
    generalize hq : x / (2 ^ n : Nat) = q at *
    rw [nd_both, hd]
    by_cases h0 : q % 2 = 0
    · have hs := sib_even (x := x) (q := q) (n := n) rfl hq.symm h0
      rw [clm_even (by rw [hq]; exact h0), e1, e2, hs, show 2 * (q / 2) = q by omega]
    · have hs := sib_odd (x := x) (q := q) (n := n) rfl hq.symm h0
      rw [clm_odd (by rw [hq]; exact h0), e1, e2, hs, show 2 * (q / 2) = q - 1 by omega, show q - 1 + 1 = q by omega]
theorem pth_ok (l : Prl) (x : Int) : ∀ m, (pth l x m).all sumB = true := by
  intro m
  induction m with
  | zero => rfl
  | succ m ih =>
    rw [pth, List.all_append, ih]
    simp [sumB_iff, nd_bd]
/-- What is summed for the leaf of a key, as there is. -/
def lfT (l : Prl) (x : Int) : List Int := leafL x (thr l x) (fsV l x)
theorem lfT_there {l : Prl} {x : Int} (h0 : slF l = 0) (h : thr l x = true) : lfT l x = tagL 3 [x, (pAt l (low l x)).2] := by
  unfold lfT fsV leafL
  rw [if_pos h, if_pos ⟨h0, h⟩]
theorem lfT_none {l : Prl} {x : Int} (h : thr l x = false) : lfT l x = [] := by
  unfold lfT leafL
  rw [h]; simp
theorem lfT_sum {l : Prl} {x : Int} (h0 : slF l = 0) : sumL (lfT l x) = nd l 0 x := by
  have hl := slF_ok h0
  rcases Bool.eq_false_or_eq_true (thr l x) with h | h
  · rw [lfT_there h0 h]
    have hlt := thr_lt h
    have hk : (pAt l (low l x)).1 = x := by
      unfold thr at h
      rw [Bool.and_eq_true] at h
      exact of_decide_eq_true h.2
    unfold nd
    have : l.find? (fun p => p.1 == x) = some (pAt l (low l x)) := by
      rw [List.find?_eq_some_iff_getElem]
      refine ⟨by simp [hk], low l x, hlt, (pAt_eq hlt).symm, fun j hj => ?_⟩
      have := (low_iff hl.ris x (Nat.lt_trans hj hlt)).2 hj
      rw [pAt_eq (Nat.lt_trans hj hlt)] at this
      simp
      omega
    rw [this]
    show _ = sumL (tagL 3 [(pAt l (low l x)).1, (pAt l (low l x)).2])
    rw [hk]
  · rw [lfT_none h]
    unfold nd
    have : l.find? (fun p => p.1 == x) = none := by
      rw [List.find?_eq_none]
      intro p hp e
      have := (thr_iff hl.ris x).2 ⟨p, hp, (beq_iff_eq).1 e⟩
      rw [h] at this; cases this
    rw [this]
    rfl
theorem lfT_askd {l : Prl} {x : Int} (h0 : slF l = 0) (hx : 0 ≤ x ∧ x ≤ 255) : askd x (thr l x) (fsV l x) = true := by
  have hl := slF_ok h0
  rcases Bool.eq_false_or_eq_true (thr l x) with h | h
  · have e : fsV l x = (pAt l (low l x)).2 := by unfold fsV; rw [if_pos ⟨h0, h⟩]
    rw [h, lb_there (inB_t hx.1 hx.2), e, sumB_iff]
    exact (hl.at (thr_lt h)).2
  · have e : fsV l x = 0 := by unfold fsV; rw [if_neg (by rw [h]; simp)]
    rw [h, lb_none (inB_t hx.1 hx.2), e]
    rfl
/-- What climbing answers. -/
def coC (x : Int) (b : Bool) (v : Int) (p : List Int) : Int := if askd x b v = true then (if p.length = 8 then (if p.all sumB = true then 0 else 3) else 9) else 3
def coV (x : Int) (b : Bool) (v : Int) (p : List Int) : Int := if askd x b v = true ∧ p.length = 8 ∧ p.all sumB = true then clm x (sumL (leafL x b v)) p 8 else 0
end U
end Go.Proofs.YtljbcpkjhnbpeaaDoor
