/- How many forks the new tree has, as the program counts them. -/
import Derived.Test.YtonadfpblgmohaaTr1
namespace Go.Proofs.Ytonadfpblgmohaa
open Go.RowKit
namespace U
/-- The forks of a node's value. -/
structure FkAt (v : Value) (n : Nat) : Prop where
  c : ∀ w, Calls Try.prog 45 #[v] w fun e w' => e = .returned (.int .i64 (n : Int)) ∧ Below w.heap.size w w'
set_option maxRecDepth 100000 in
set_option maxHeartbeats 1000000 in
theorem forksIn_none : FkAt Tr.none.val 0 := by
  refine ⟨fun w => ?_⟩
  have ha := as_fork_none (.agg #[])
  simp only [Tr.val_none]
  go_enter Try.func45, Try.ntmps45
  go_wp2
  go_ret
  exact ⟨rfl, one_new _⟩
set_option maxRecDepth 100000 in
set_option maxHeartbeats 1000000 in
theorem forksIn_leaf (k v : Int) : FkAt (Tr.leaf k v).val 0 := by
  refine ⟨fun w => ?_⟩
  have ha := as_fork_leaf (.agg #[.int .i64 k, .int .i64 v])
  simp only [Tr.val_leaf]
  go_enter Try.func45, Try.ntmps45
  go_wp2
  go_ret
  exact ⟨rfl, one_new _⟩
set_option maxRecDepth 100000 in
set_option maxHeartbeats 1000000 in
theorem forksIn_fork (b : Nat) (l r : Tr) (n m : Nat) (hn : n ≤ 1000) (hm : m ≤ 1000) (h1 : FkAt l.val n) (h2 : FkAt r.val m) : FkAt (Tr.fork b l r).val (1 + n + m) := by
  refine ⟨fun w => ?_⟩
  have ha := as_fork (.agg #[.int .i64 (b : Int), l.val, r.val])
  simp only [Tr.val_fork]
  obtain ⟨tL, xL, eL⟩ := l.isIface
  obtain ⟨tR, xR, eR⟩ := r.isIface
  rw [eL] at h1 ha ⊢
  rw [eR] at h2 ha ⊢
  clear eL eR
  go_enter Try.func45, Try.ntmps45
  go_wp2
  obtain ⟨W, hW⟩ : ∃ W, W = w.alloc (.cells #[.int .i64 (b : Int), .iface tL xL, .iface tR xR] 73) := ⟨_, rfl⟩
  have A0 := three_cellsV (heap_alloc_new w (.cells #[.int .i64 (b : Int), .iface tL xL, .iface tR xR] 73))
  have hB : Below w.heap.size w W := by rw [hW]; exact one_new _
  rw [← hW] at A0 ⊢
  have c1 := After.cell A0.2.1
  have c2 := After.cell A0.2.2
  have hne := After.ne W
  clear hW A0 ha
  refine wp_region_after (by kernel_rfl) (by kernel_rfl) ?_
  repeat (first | go_big_quiet_skip | (go_big_quiet_want; go_big_quiet_op; first | go_big_quiet_on | go_big_quiet_call (first
    | (go_at_call 45; refine (FkAt.c (by assumption) _).mono ?_; rintro e wq ⟨rfl, hbq⟩; exact ⟨rfl, after_mk (below_after_of (After.b _) hbq)⟩))))
  refine wpQuiet_nil ?_
  rintro _ ⟨n3, rfl⟩
  have hB3 := below_after_of hB n3.b
  generalize n3.w = w3 at *
  clear c1 c2 hne n3 hB h1 h2
  go_wp2
  go_ret
  exact ⟨ret_int (by go_arith), hB3⟩
theorem forksIn_any (t : Tr) : t.forks ≤ 1000 → FkAt t.val t.forks := by
  induction t using Tr.ind with
  | none => exact fun _ => forksIn_none
  | leaf k v => exact fun _ => forksIn_leaf k v
  | fork b l r ih1 ih2 =>
    intro h
    rw [Tr.forks_fork] at h ⊢
    exact forksIn_fork b l r _ _ (by omega) (by omega) (ih1 (by omega)) (ih2 (by omega))
end U
end Go.Proofs.Ytonadfpblgmohaa
