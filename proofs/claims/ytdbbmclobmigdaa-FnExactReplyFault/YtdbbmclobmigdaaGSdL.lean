/- Helpers of the laws for what is said: its size, copies, comparison. -/
import Derived.Test.YtdbbmclobmigdaaGRB
import Derived.Test.YtdbbmclobmigdaaGNpS
import Derived.Test.YtdbbmclobmigdaaGRA
namespace Go.Proofs.Ytdbbmclobmigdaa
open Go.RowKit
namespace U
set_option maxHeartbeats 400000 in
theorem szInt64S_gen (z : Nat) (hz : z ≤ 1048576) (a : Option Addr) (n c : Nat) (w : World) (hn : n ≤ maxLen) :
    Calls Try.prog 21 #[.slice a n c, .int .i64 (z : Int)] w fun e w' => e = .returned (.int .i64 (if n ≤ z then ((z : Int) - (n : Int)) else -1)) ∧ w' = w := by
  unfold maxLen at hn
  by_cases h : n ≤ z
  · rw [if_pos h]
    have h1 : wrap64 ((z : Int) - (n : Int)) = (z : Int) - (n : Int) := by simp only [wrap64]; omega
    have h2 : ¬ ((z : Int) - (n : Int) < 0) := by omega
    go_enter Try.func21, Try.ntmps21
    go_wp2
    go_ret
    exact ⟨rfl, rfl⟩
  · rw [if_neg h]
    have h1 : wrap64 ((z : Int) - (n : Int)) = (z : Int) - (n : Int) := by simp only [wrap64]; omega
    have h2 : (z : Int) - (n : Int) < 0 := by omega
    go_enter Try.func21, Try.ntmps21
    go_wp2
    go_ret
    exact ⟨rfl, rfl⟩
theorem eight_cells {w : World} {g : Nat} {v0 v1 v2 v3 v4 v5 v6 v7 : Value} {ty : TypeId} (h : w.heap[g]? = some (.cells #[v0, v1, v2, v3, v4, v5, v6, v7] ty)) : (w.cell? ⟨g, 0, none⟩ = some v0 ∧ w.cell? ⟨g, 1, none⟩ = some v1 ∧ w.cell? ⟨g, 2, none⟩ = some v2 ∧ w.cell? ⟨g, 3, none⟩ = some v3 ∧ w.cell? ⟨g, 4, none⟩ = some v4 ∧ w.cell? ⟨g, 5, none⟩ = some v5 ∧ w.cell? ⟨g, 6, none⟩ = some v6 ∧ w.cell? ⟨g, 7, none⟩ = some v7) ∧
    (w.frozen? ⟨g, 0, none⟩ = false ∧ w.frozen? ⟨g, 1, none⟩ = false ∧ w.frozen? ⟨g, 2, none⟩ = false ∧ w.frozen? ⟨g, 3, none⟩ = false ∧ w.frozen? ⟨g, 4, none⟩ = false ∧ w.frozen? ⟨g, 5, none⟩ = false ∧ w.frozen? ⟨g, 6, none⟩ = false ∧ w.frozen? ⟨g, 7, none⟩ = false) := by
  refine ⟨⟨?_, ?_, ?_, ?_, ?_, ?_, ?_, ?_⟩, ?_, ?_, ?_, ?_, ?_, ?_, ?_, ?_⟩ <;> (first | (unfold World.cell?; rw [h]; rfl) | (unfold World.frozen?; rw [h]; rfl))
set_option maxRecDepth 100000 in
set_option maxHeartbeats 2000000 in
theorem szSaid_gen (zz : Nat) (hzz : zz ≤ 1048576) (o t : Bool) (v : Int) (a : Option Addr) (pn c : Nat) (x : Bool) (k y : Int) (a' : Option Addr) (fn c' : Nat) (w : World) (hp : pn ≤ maxLen) (hf : fn ≤ maxLen) :
    Calls Try.prog 10 #[.agg #[.bool o, .bool t, .int .i64 v, .slice a pn c, .bool x, .int .i64 k, .int .i64 y, .slice a' fn c'], .int .i64 (zz : Int)] w fun e w' => e = .returned (.int .i64 (if pn + fn ≤ zz then ((zz : Int) - (pn : Int) - (fn : Int)) else -1)) ∧ Below w.heap.size w w' := by
  have hP := fun w => szInt64S_gen zz hzz a pn c w hp
  have h0 := eight_cells (heap_alloc_new w (.cells #[.bool o, .bool t, .int .i64 v, .slice a pn c, .bool x, .int .i64 k, .int .i64 y, .slice a' fn c'] 31))
  obtain ⟨⟨c0, c1, c2, c3, c4, c5, c6, c7⟩, -⟩ := h0
  by_cases h1 : pn ≤ zz
  · rw [if_pos h1] at hP
    have hT := fun w => szTrail_gen (zz - pn) (by omega) x k y a' fn c' w hf
    rw [show ((zz - pn : Nat) : Int) = (zz : Int) - (pn : Int) by omega] at hT
    have hz0 : ¬ ((zz : Int) - (pn : Int) < 0) := by omega
    by_cases h2 : fn ≤ zz - pn
    · rw [if_pos h2] at hT
      rw [if_pos (by omega)]
      have hz1 : ¬ ((zz : Int) - (pn : Int) - (fn : Int) < 0) := by omega
      generalize (zz : Int) - (pn : Int) - (fn : Int) = q2 at *
      generalize (zz : Int) - (pn : Int) = q1 at *
      generalize (zz : Int) = q0 at *
      go_enter Try.func10, Try.ntmps10
      go_wp2_with fail
      refine (hP _).mono ?_
      rintro e w1 ⟨rfl, hw1⟩
      rw [hw1]
      clear hP hw1
      go_wp2_with fail
      refine (hT _).mono ?_
      rintro e w2 ⟨rfl, hb2⟩
      have hB2 := below_after hb2
      clear hT hb2
      go_wp2
      go_ret
      exact ⟨rfl, hB2⟩
    · rw [if_neg h2] at hT
      rw [if_neg (by omega)]
      generalize (zz : Int) - (pn : Int) = q1 at *
      generalize (zz : Int) = q0 at *
      go_enter Try.func10, Try.ntmps10
      go_wp2_with fail
      refine (hP _).mono ?_
      rintro e w1 ⟨rfl, hw1⟩
      rw [hw1]
      clear hP hw1
      go_wp2_with fail
      refine (hT _).mono ?_
      rintro e w2 ⟨rfl, hb2⟩
      have hB2 := below_after hb2
      clear hT hb2
      go_wp2
      go_ret
      exact ⟨rfl, hB2⟩
  · rw [if_neg h1] at hP
    rw [if_neg (by omega)]
    generalize (zz : Int) = q0 at *
    go_enter Try.func10, Try.ntmps10
    go_wp2_with fail
    refine (hP _).mono ?_
    rintro e w1 ⟨rfl, hw1⟩
    rw [hw1]
    clear hP hw1
    go_wp2
    go_ret
    exact ⟨rfl, one_new _⟩
set_option maxRecDepth 100000 in
set_option maxHeartbeats 4000000 in
theorem eqSaid_same (o t : Bool) (v : Int) (sp sp' : Value) (ps : List Int) (x : Bool) (k y : Int) (sv sv' : Value) (f : Prl) (w : World) (hp : Ints .i64 w sp ps) (hp' : Ints .i64 w sp' ps) (hv : Prs w sv f) (hv' : Prs w sv' f) (hx : ps.length ≤ 1099511627776) (hy : f.length ≤ 1099511627776) :
    Calls Try.prog 20 #[.agg #[.bool o, .bool t, .int .i64 v, sp, .bool x, .int .i64 k, .int .i64 y, sv], .agg #[.bool o, .bool t, .int .i64 v, sp', .bool x, .int .i64 k, .int .i64 y, sv']] w fun e w' => e = .returned (.bool true) ∧ Below w.heap.size w w' := by
  have hE := fun w' h => eqInt64S_any sp sp' ps ps w' (hp.below (w' := w') h) (hp'.below h) hx hx
  rw [decide_eq_true rfl] at hE
  have hT := fun w' h => eqTrail7_same x k y sv sv' f w' (hv.below (w' := w') h) (hv'.below h) hy
  obtain ⟨a, c, rfl⟩ := hp.shape
  obtain ⟨a1, c1, rfl⟩ := hp'.shape
  obtain ⟨a2, c2, rfl⟩ := hv.shape
  obtain ⟨a3, c3, rfl⟩ := hv'.shape
  generalize ps.length = pn at *
  generalize f.length = fn at *
  clear hp hp' hv hv'
  obtain ⟨W, hW⟩ : ∃ W, W = (w.alloc (.cells #[.bool o, .bool t, .int .i64 v, .slice a pn c, .bool x, .int .i64 k, .int .i64 y, .slice a2 fn c2] 42)).alloc (.cells #[.bool o, .bool t, .int .i64 v, .slice a1 pn c1, .bool x, .int .i64 k, .int .i64 y, .slice a3 fn c3] 42) := ⟨_, rfl⟩
  have HW : Hid ((w.alloc (.cells #[.bool o, .bool t, .int .i64 v, .slice a pn c, .bool x, .int .i64 k, .int .i64 y, .slice a2 fn c2] 42)).alloc (.cells #[.bool o, .bool t, .int .i64 v, .slice a1 pn c1, .bool x, .int .i64 k, .int .i64 y, .slice a3 fn c3] 42) = W) := hW.symm
  have hB : Below w.heap.size w W := by rw [hW]; exact two_new _ _
  have H0 : W.heap[w.heap.size]? = some (.cells #[.bool o, .bool t, .int .i64 v, .slice a pn c, .bool x, .int .i64 k, .int .i64 y, .slice a2 fn c2] 42) := by
    rw [hW]; exact ((one_new _).block w.heap.size (by simp)).trans (heap_alloc_new w _)
  have H1 : W.heap[w.heap.size + 1]? = some (.cells #[.bool o, .bool t, .int .i64 v, .slice a1 pn c1, .bool x, .int .i64 k, .int .i64 y, .slice a3 fn c3] 42) := by
    have h := heap_alloc_new (w.alloc (.cells #[.bool o, .bool t, .int .i64 v, .slice a pn c, .bool x, .int .i64 k, .int .i64 y, .slice a2 fn c2] 42)) (.cells #[.bool o, .bool t, .int .i64 v, .slice a1 pn c1, .bool x, .int .i64 k, .int .i64 y, .slice a3 fn c3] 42)
    rw [World.size_alloc] at h
    rw [hW]; exact h
  obtain ⟨⟨d0, d1, d2, d3, d4, d5, d6, d7⟩, -⟩ := eight_cells H0
  obtain ⟨⟨e0, e1, e2, e3, e4, e5, e6, e7⟩, -⟩ := eight_cells H1
  have hne : (v != v) = false := by simp
  have hno : ∀ b : Bool, (b != b) = false := by intro b; cases b <;> rfl
  have hno1 := hno o
  have hno2 := hno t
  clear hW hno
  go_enter Try.func20, Try.ntmps20
  go_wp2_with fail
  rw [HW.out]
  refine (hE _ hB).mono ?_
  rintro e w1 ⟨rfl, n1, hw1⟩
  have hb1 : Below W.heap.size W w1 := by rw [hw1]; exact below_drewN (Below.refl _ _) n1
  have hB1 := below_after_of hB hb1
  obtain ⟨⟨d0, d1, d2, d3, d4, d5, d6, d7⟩, -⟩ := eight_cells ((hb1.block _ (Array.getElem?_eq_some_iff.1 H0).1).trans H0)
  obtain ⟨⟨e0, e1, e2, e3, e4, e5, e6, e7⟩, -⟩ := eight_cells ((hb1.block _ (Array.getElem?_eq_some_iff.1 H1).1).trans H1)
  clear hE hw1 hb1 H0 H1
  go_wp2_with fail
  refine (hT _ hB1).mono ?_
  rintro e w2 ⟨rfl, hb2⟩
  have hB2 := below_after_of hB1 hb2
  clear hT hb2
  go_wp2
  go_ret
  exact ⟨rfl, hB2⟩
end U
end Go.Proofs.Ytdbbmclobmigdaa
