/- The clash that an old proof shows, by mathematics; the leaf that there is, by both. -/
import Derived.Test.YtljbcpkjhnbpeaaDoorOp6
import Derived.Test.YtljbcpkjhnbpeaaDoorClash2
namespace Go.Proofs.YtljbcpkjhnbpeaaDoor
open Go.RowKit
namespace U
/-- The piece of a node, as it is told and as it is there. -/
def ndP (x s : Int) (p : List Int) (n : Nat) : List Int := tagL 2 [sdL x s p n, sdR x s p n]
def ndT (l : Prl) (x : Int) (n : Nat) : List Int := tagL 2 [nd l n (2 * (x / (2 ^ (n + 1) : Nat))), nd l n (2 * (x / (2 ^ (n + 1) : Nat)) + 1)]
theorem sd_honest {l : Prl} {x : Int} (h0 : slF l = 0) {n : Nat} (hn : n < 8) :
    sdL x (sumL (lfT l x)) (pth l x 8) n = nd l n (2 * (x / (2 ^ (n + 1) : Nat))) ∧ sdR x (sumL (lfT l x)) (pth l x 8) n = nd l n (2 * (x / (2 ^ (n + 1) : Nat)) + 1) := by
  have e1 := pth_at l x 8 n hn
  have e2 := clm_honest l x (s := sumL (lfT l x)) (lfT_sum h0) n (by omega)
  have hd := div_succ x n
  unfold sdL sdR
  generalize hq : x / (2 ^ n : Nat) = q at *
  rw [hd, e1, e2]
  by_cases h0 : q % 2 = 0
  · have hs := sib_even (x := x) (q := q) (n := n) rfl hq.symm h0
    rw [if_pos h0, if_pos h0, hs, show 2 * (q / 2) = q by omega]
    exact ⟨rfl, rfl⟩
  · have hs := sib_odd (x := x) (q := q) (n := n) rfl hq.symm h0
    rw [if_neg h0, if_neg h0, hs, show 2 * (q / 2) = q - 1 by omega, show q - 1 + 1 = q by omega]
    exact ⟨rfl, rfl⟩
theorem ndP_there {l : Prl} {x : Int} (h0 : slF l = 0) {n : Nat} (hn : n < 8) : ndP x (sumL (lfT l x)) (pth l x 8) n = ndT l x n := by
  unfold ndP ndT
  rw [(sd_honest h0 hn).1, (sd_honest h0 hn).2]
theorem nd_two_bts {a b : Int} (ha : 0 ≤ a ∧ a ≤ 65520) (hb : 0 ≤ b ∧ b ≤ 65520) : Bts (tagL 2 [a, b]) := tagL_bts (by omega) (by simp [sumB_iff, ha, hb])
theorem nd_two_len (a b : Int) : (tagL 2 [a, b]).length = 5 := by rw [tagL_len]; rfl
theorem ndP_len (x s : Int) (p : List Int) (n : Nat) : (ndP x s p n).length = 5 := nd_two_len _ _
theorem ndT_len (l : Prl) (x : Int) (n : Nat) : (ndT l x n).length = 5 := nd_two_len _ _
theorem ndP_bts {x s : Int} {p : List Int} (h : 0 ≤ s ∧ s ≤ 65520) (hp : p.all sumB = true) (n : Nat) : Bts (ndP x s p n) := nd_two_bts (sd_bd h hp n).1 (sd_bd h hp n).2
theorem ndT_bts (l : Prl) (x : Int) (n : Nat) : Bts (ndT l x n) := nd_two_bts (nd_bd _ _ _) (nd_bd _ _ _)
/-- The pieces that are shown: the first nodes from the root that are a clash, or the leaves. -/
def ocW (l : Prl) (x s : Int) (p a b : List Int) : Nat → List Int × List Int
  | 0 => (a, b)
  | n + 1 => if l2B (ndP x s p n) (ndT l x n) = true then (ndP x s p n, ndT l x n) else ocW l x s p a b n
theorem ocW_yes {l : Prl} {x s : Int} {p a b : List Int} {n : Nat} (h : l2B (ndP x s p n) (ndT l x n) = true) : ocW l x s p a b (n + 1) = (ndP x s p n, ndT l x n) := by rw [ocW, if_pos h]
theorem ocW_no {l : Prl} {x s : Int} {p a b : List Int} {n : Nat} (h : l2B (ndP x s p n) (ndT l x n) = false) : ocW l x s p a b (n + 1) = ocW l x s p a b n := by rw [ocW, h]; simp
theorem ocW_len {l : Prl} {x s : Int} {p a b : List Int} (ha : a.length ≤ 5) (hb : b.length ≤ 5) : ∀ n, (ocW l x s p a b n).1.length ≤ 5 ∧ (ocW l x s p a b n).2.length ≤ 5 := by
  intro n
  induction n with
  | zero => exact ⟨ha, hb⟩
  | succ n ih =>
    rw [ocW]
    split
    · exact ⟨Nat.le_of_eq (ndP_len _ _ _ _), Nat.le_of_eq (ndT_len _ _ _)⟩
    · exact ih
/-- What OldClash answers. -/
def ocC (l : Prl) (x : Int) (b : Bool) (v : Int) (p : List Int) : Int := if slF l = 0 then (if coC x b v p = 0 then (if coV x b v p = nd l 8 0 then 0 else 9) else coC x b v p) else slF l
def ocP (l : Prl) (x : Int) (b : Bool) (v : Int) (p : List Int) : List Int × List Int := ocW l x (sumL (leafL x b v)) p (leafL x b v) (lfT l x) 8
def ocF (l : Prl) (x : Int) (b : Bool) (v : Int) (p : List Int) : Bool := decide (ocC l x b v p = 0) && l2B (ocP l x b v p).1 (ocP l x b v p).2
theorem oc_slots {l : Prl} {x v : Int} {b : Bool} {p : List Int} (h : ¬ slF l = 0) : ocC l x b v p = slF l ∧ ocF l x b v p = false := by
  have e : ocC l x b v p = slF l := by unfold ocC; rw [if_neg h]
  refine ⟨e, ?_⟩
  unfold ocF
  rw [e, decide_eq_false h]; rfl
theorem oc_told {l : Prl} {x v : Int} {b : Bool} {p : List Int} (h0 : slF l = 0) (h : ¬ coC x b v p = 0) : ocC l x b v p = coC x b v p ∧ ocF l x b v p = false := by
  have e : ocC l x b v p = coC x b v p := by unfold ocC; rw [if_pos h0, if_neg h]
  refine ⟨e, ?_⟩
  unfold ocF
  rw [e, decide_eq_false h]; rfl
theorem oc_root {l : Prl} {x v : Int} {b : Bool} {p : List Int} (h0 : slF l = 0) (h : coC x b v p = 0) (hr : ¬ coV x b v p = nd l 8 0) : ocC l x b v p = 9 ∧ ocF l x b v p = false := by
  have e : ocC l x b v p = 9 := by unfold ocC; rw [if_pos h0, if_pos h, if_neg hr]
  refine ⟨e, ?_⟩
  unfold ocF
  rw [e]; rfl
theorem oc_ok {l : Prl} {x v : Int} {b : Bool} {p : List Int} (h0 : slF l = 0) (h : coC x b v p = 0) (hr : coV x b v p = nd l 8 0) : ocC l x b v p = 0 ∧ ocF l x b v p = l2B (ocP l x b v p).1 (ocP l x b v p).2 := by
  have e : ocC l x b v p = 0 := by unfold ocC; rw [if_pos h0, if_pos h, if_pos hr]
  refine ⟨e, ?_⟩
  unfold ocF
  rw [e]; rfl
theorem co_zero {x v : Int} {b : Bool} {p : List Int} (h : coC x b v p = 0) : askd x b v = true ∧ p.length = 8 ∧ p.all sumB = true := by
  rcases Bool.eq_false_or_eq_true (askd x b v) with ha | ha
  · by_cases h8 : p.length = 8
    · rcases Bool.eq_false_or_eq_true (p.all sumB) with hs | hs
      · exact ⟨ha, h8, hs⟩
      · rw [(co_sum ha h8 hs).1] at h; omega
    · rw [(co_len ha h8).1] at h; omega
  · rw [(co_no ha).1] at h; omega
theorem co_codes (x : Int) (b : Bool) (v : Int) (p : List Int) : coC x b v p = 0 ∨ coC x b v p = 3 ∨ coC x b v p = 9 := by
  unfold coC
  split
  · split
    · split
      · simp
      · simp
    · simp
  · simp
set_option maxRecDepth 100000 in
set_option maxHeartbeats 1000000 in
theorem leafOf_any (v : Value) (l : Prl) (k : Int) (w : World) (hv : Prs w v l) (hx : l.length ≤ 1099511627776) (h0 : slF l = 0) (hk : 0 ≤ k ∧ k ≤ 255) :
    Calls Tryd.prog 83 #[v, .int .i64 k] w fun e w' => ∃ v', e = .returned v' ∧ w'.ownsRow w.heap.size 5 1 v' (lfT l k).length ((lfT l k).map (Value.int .u8)) ∧ Below w.heap.size w w' := by
  have hF := implFindSlot_any v l k w hv hx
  have hL := fun w => implLeafBytes_any k (thr l k) (fsV l k) w
  rw [(lb_ok (lfT_askd h0 hk)).1, (lb_ok (lfT_askd h0 hk)).2] at hL
  have e0 : fsC l k = if thr l k = true then 0 else 4 := by unfold fsC; rw [if_pos h0]
  obtain ⟨a, c, rfl⟩ := hv.shape
  have e1 : leafL k (thr l k) (fsV l k) = lfT l k := rfl
  rw [e1] at hL
  generalize lfT l k = ys at *
  generalize fsV l k = fv at *
  generalize l.length = n at *
  rcases Bool.eq_false_or_eq_true (thr l k) with ht | ht
  · rw [ht] at hL e0
    rw [if_pos rfl] at e0
    rw [e0] at hF
    clear hv e0 e1 ht h0
    go_enter Tryd.func83, Tryd.ntmps83
    go_wp2_with fail
    refine hF.mono ?_
    rintro e w1 ⟨rfl, hb1⟩
    have hB1 := below_after_of hb1 (one_new (.cells #[.int .i64 0, .int .i64 fv] 46))
    clear hF hb1
    go_wp2_with fail
    refine (hL _).mono ?_
    intro e w2 h2
    obtain ⟨a', c', rfl, hb2, ho2⟩ := h2.use
    have kf := fun w => field_BR1 0 a' ys.length c' w
    have HO : w2.ownsRow w.heap.size 5 1 (.slice a' ys.length c') ys.length (ys.map (Value.int .u8)) := own_mono ho2 hB1.size
    have hB2 := below_after_of hB1 hb2
    clear hL h2 ho2 hb2 hB1
    go_wp2
    go_ret
    exact ⟨_, rfl, HO, hB2⟩
  · rw [ht] at hL e0
    rw [if_neg (by simp)] at e0
    rw [e0] at hF
    clear hv e0 e1 ht h0
    go_enter Tryd.func83, Tryd.ntmps83
    go_wp2_with fail
    refine hF.mono ?_
    rintro e w1 ⟨rfl, hb1⟩
    have hB1 := below_after_of hb1 (one_new (.cells #[.int .i64 4, .int .i64 fv] 46))
    clear hF hb1
    go_wp2_with fail
    refine (hL _).mono ?_
    intro e w2 h2
    obtain ⟨a', c', rfl, hb2, ho2⟩ := h2.use
    have kf := fun w => field_BR1 0 a' ys.length c' w
    have HO : w2.ownsRow w.heap.size 5 1 (.slice a' ys.length c') ys.length (ys.map (Value.int .u8)) := own_mono ho2 hB1.size
    have hB2 := below_after_of hB1 hb2
    clear hL h2 ho2 hb2 hB1
    go_wp2
    go_ret
    exact ⟨_, rfl, HO, hB2⟩
set_option maxRecDepth 100000 in
set_option maxHeartbeats 1000000 in
theorem l5There_any (v : Value) (l : Prl) (k : Int) (w : World) (hv : Prs w v l) (h0 : slF l = 0) (hk : 0 ≤ k ∧ k ≤ 255) :
    Calls Tryd.prog 51 #[v, .int .i64 k] w fun e w' => ∃ v', e = .returned v' ∧ w'.ownsRow w.heap.size 5 1 v' (lfT l k).length ((lfT l k).map (Value.int .u8)) ∧ Below w.heap.size w w' := by
  have hl := slF_ok h0
  have hA := l4At_any v l k w hv hl.len hl.ris
  have HV : Hid (Prs w v l) := hv
  have hlen := hl.len
  obtain ⟨a, c, rfl⟩ := hv.shape
  rcases Bool.eq_false_or_eq_true (thr l k) with ht | ht
  · have hlt := thr_lt ht
    have hL := fun w => l5Leaf_any k true (pAt l (low l k)).2 w (by
      have := lfT_askd (l := l) h0 hk
      have e : fsV l k = (pAt l (low l k)).2 := by unfold fsV; rw [if_pos ⟨h0, ht⟩]
      rw [ht, e] at this
      exact this)
    have e1 : leafL k true (pAt l (low l k)).2 = lfT l k := by rw [lfT_there h0 ht]; rfl
    rw [e1] at hL
    rw [if_pos ht] at hA
    obtain ⟨-, b, off, rfl, hbb, hcc⟩ := HV.out.at (by omega)
    obtain ⟨ck, cv⟩ := hcc (low l k) hlt
    generalize lfT l k = ys at *
    generalize (pAt l (low l k)).2 = pv at *
    generalize low l k = m at *
    have hm0 : (0 : Int) ≤ (m : Int) := by omega
    have hml : (m : Int) < (l.length : Int) := by omega
    generalize l.length = n at *
    clear hv hcc ck ht e1 HV hl h0
    go_enter Tryd.func51, Tryd.ntmps51
    go_wp2_with fail
    refine hA.mono ?_
    rintro e w1 ⟨rfl, rfl⟩
    clear hA
    go_wp2_with fail
    refine (hL _).mono ?_
    rintro e w2 ⟨v', rfl, ho2, hb2⟩
    obtain ⟨a', c', rfl⟩ := own_shape ho2
    clear hL
    go_wp2
    go_ret
    exact ⟨_, rfl, ho2, hb2⟩
  · rw [ht, if_neg (by simp)] at hA
    rw [lfT_none ht]
    generalize l.length = n at *
    clear hv HV hl h0 ht
    go_enter Tryd.func51, Tryd.ntmps51
    go_wp2_with fail
    refine hA.mono ?_
    rintro e w1 ⟨rfl, rfl⟩
    clear hA
    go_wp2
    go_ret
    exact ⟨_, rfl, World.ownsRow_made _ #[] 0 (Nat.le_refl _) (by decide) rfl, one_new _⟩
end U
end Go.Proofs.YtljbcpkjhnbpeaaDoor
