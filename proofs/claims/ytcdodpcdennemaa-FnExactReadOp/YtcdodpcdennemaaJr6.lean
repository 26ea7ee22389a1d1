/- The bytes of an operation: what the program answers. -/
import Derived.Test.YtcdodpcdennemaaJr5
import Derived.Test.YtcdodpcdennemaaJr4
namespace Go.Proofs.Ytcdodpcdennemaa
open Go.RowKit
namespace U
theorem fldOp0 (k : Int) (l : ByteArray) (v o p s n : Int) (w : World) : (Instr.field 33 (.agg #[.int .i64 k, .string l, .int .i64 v, .int .i64 o, .int .i64 p, .int .i64 s, .int .i64 n]) 0).run Try.prog w = .ok (.int .i64 k) w := by kernel_rfl
theorem fldB1 (c : Int) (x : Value) (w : World) : (Instr.field 29 (.agg #[.int .i64 c, x]) 1).run Try.prog w = .ok x w := by kernel_rfl
set_option maxRecDepth 100000 in
set_option maxHeartbeats 1000000 in
theorem packed2 (w : World) : Calls Try.prog 49 #[on2] w fun e w' => ∃ v', e = .returned v' ∧ w'.ownsRow w.heap.size 5 1 v' 1 [.int .u8 2] ∧ Below w.heap.size w w' := by
  have a1 := fun w => as2_updating (.agg #[]) w
  have a3 := fun w => as2_copying (.agg #[]) w
  have hm := fun w => mtF2 (.agg #[]) w
  have hFl := fun w => flat2_any w
  have hf := fun w => fldOp0 2 ⟨#[]⟩ 0 0 0 0 0 w
  unfold on2
  unfold opV at *
  go_enter Try.func49, Try.ntmps49
  go_wp2_with fail
  refine (hFl _).mono ?_
  rintro e w1 ⟨rfl, hb1⟩
  go_wp2
  go_ret
  exact ⟨_, rfl, own_mono (lit_own w1 _) hb1.size, below_after_of hb1 (one_new _)⟩
set_option maxRecDepth 100000 in
set_option maxHeartbeats 1000000 in
theorem packed4 (w : World) : Calls Try.prog 49 #[on4] w fun e w' => ∃ v', e = .returned v' ∧ w'.ownsRow w.heap.size 5 1 v' 1 [.int .u8 4] ∧ Below w.heap.size w w' := by
  have a1 := fun w => as4_updating (.agg #[]) w
  have a3 := fun w => as4_copying (.agg #[]) w
  have hm := fun w => mtF4 (.agg #[]) w
  have hFl := fun w => flat4_any w
  have hf := fun w => fldOp0 4 ⟨#[]⟩ 0 0 0 0 0 w
  unfold on4
  unfold opV at *
  go_enter Try.func49, Try.ntmps49
  go_wp2_with fail
  refine (hFl _).mono ?_
  rintro e w1 ⟨rfl, hb1⟩
  go_wp2
  go_ret
  exact ⟨_, rfl, own_mono (lit_own w1 _) hb1.size, below_after_of hb1 (one_new _)⟩
set_option maxRecDepth 100000 in
set_option maxHeartbeats 1000000 in
theorem packed5 (w : World) : Calls Try.prog 49 #[on5] w fun e w' => ∃ v', e = .returned v' ∧ w'.ownsRow w.heap.size 5 1 v' 1 [.int .u8 5] ∧ Below w.heap.size w w' := by
  have a1 := fun w => as5_updating (.agg #[]) w
  have a3 := fun w => as5_copying (.agg #[]) w
  have hm := fun w => mtF5 (.agg #[]) w
  have hFl := fun w => flat5_any w
  have hf := fun w => fldOp0 5 ⟨#[]⟩ 0 0 0 0 0 w
  unfold on5
  unfold opV at *
  go_enter Try.func49, Try.ntmps49
  go_wp2_with fail
  refine (hFl _).mono ?_
  rintro e w1 ⟨rfl, hb1⟩
  go_wp2
  go_ret
  exact ⟨_, rfl, own_mono (lit_own w1 _) hb1.size, below_after_of hb1 (one_new _)⟩
set_option maxRecDepth 100000 in
set_option maxHeartbeats 1000000 in
theorem packed6 (w : World) : Calls Try.prog 49 #[on6] w fun e w' => ∃ v', e = .returned v' ∧ w'.ownsRow w.heap.size 5 1 v' 1 [.int .u8 6] ∧ Below w.heap.size w w' := by
  have a1 := fun w => as6_updating (.agg #[]) w
  have a3 := fun w => as6_copying (.agg #[]) w
  have hm := fun w => mtF6 (.agg #[]) w
  have hFl := fun w => flat6_any w
  have hf := fun w => fldOp0 6 ⟨#[]⟩ 0 0 0 0 0 w
  unfold on6
  unfold opV at *
  go_enter Try.func49, Try.ntmps49
  go_wp2_with fail
  refine (hFl _).mono ?_
  rintro e w1 ⟨rfl, hb1⟩
  go_wp2
  go_ret
  exact ⟨_, rfl, own_mono (lit_own w1 _) hb1.size, below_after_of hb1 (one_new _)⟩
/-- All blocks that were there but one are as they were. -/
structure ButOne (g : Nat) (w w' : World) : Prop where
  size : w.heap.size ≤ w'.heap.size
  block : ∀ j, j < w.heap.size → ¬ j = g → w'.heap[j]? = w.heap[j]?
theorem ButOne.cell {g : Nat} {w w' : World} (h : ButOne g w w') {b i : Nat} (hb : b < w.heap.size) (hg : ¬ b = g) : w'.cell? ⟨b, i, none⟩ = w.cell? ⟨b, i, none⟩ := World.cell?_of_block (h.block b hb hg)
set_option maxRecDepth 100000 in
set_option maxHeartbeats 2000000 in
theorem appendNumbers_one (B g0 c0 : Nat) (zs : List Int) (m : Nat) (b c : Nat) (x : Int) (w : World) (hm : m ≤ 100) (hcell : w.cell? ⟨b, 0, none⟩ = some (.int .i64 x)) (hx : 0 ≤ x ∧ x ≤ 65520)
    (ho : w.ownsRow B 5 1 (.slice (some ⟨g0, 0, none⟩) m c0) m (zs.map (Value.int .u8))) (hB : B ≤ w.heap.size) :
    Calls Try.prog 90 #[.slice (some ⟨g0, 0, none⟩) m c0, .slice (some ⟨b, 0, none⟩) 1 c] w fun e w' => ∃ g' c', e = .returned (.slice (some ⟨g', 0, none⟩) (m + 2) c') ∧ w'.ownsRow B 5 1 (.slice (some ⟨g', 0, none⟩) (m + 2) c') (m + 2) (zs.map (Value.int .u8) ++ [.int .u8 (x / 256), .int .u8 (x % 256)]) ∧ ButOne g0 w w' ∧ g' < w'.heap.size ∧ Below B w w' ∧ (g' = g0 ∨ w.heap.size ≤ g') := by
  obtain ⟨i0, hi, hz0, hz1, hz2⟩ := info_parts Try.infoB
  have hw1 := wrapU8' (x / 256) (by omega) (by omega)
  have hw2 := IntKind.wrap_u8 x
  go_enter Try.func90, Try.ntmps90
  go_wp2
  refine wp_loop_rounds 2 ?_
  rw [rounds_succ]
  go_wp2_with (at_builtin; refine wpList_append_lies _ rfl _ _ 27 rfl B 5 i0 (.int .u8 0) 1 1 Try.underlying27 hi hz0 hz1 hz2 rfl (by decide) _ _ _ rfl (ho.alloc _) ⟨w.heap.size, 0, none⟩ 2 2 [.int .u8 (x / 256), .int .u8 (x % 256)] rfl rfl (World.news_of_block (heap_alloc_new _ _)) (ints_oneCell .u8 [x / 256, x % 256]) (by omega) (by unfold maxLen; omega) (by omega) (by simp; omega) (w.heap.size + 1) (by simp) ?_)
  intro g1 cap1 w1 hown1 hgrow hat hlt
  have HK : ButOne g0 w w1 := ⟨Nat.le_trans (by simp) hgrow.size, fun j hj hg => (hgrow.block j (by simp; omega) (by simpa [Value.ownBlock] using hg)).trans (Below.heap_alloc w _ j hj)⟩
  have HB1 : Below B w w1 := ((one_new _).mono hB).grown hgrow (by simp; omega) (fun k hk => (ho.lt k hk).1)
  have HG : g1 = g0 ∨ w.heap.size ≤ g1 := hat.elim (fun h => Or.inl (Option.some.inj h).symm) (fun h => Or.inr (by omega))
  clear hgrow hat ho hcell
  go_wp2
  rw [rounds_succ]
  go_wp2
  go_ret
  exact ⟨_, _, rfl, hown1, HK, hlt, HB1, HG⟩
theorem lit1_cell (w : World) (x : Int) (t : TypeId) : (w.alloc (.cells #[.int .i64 x] t)).cell? ⟨w.heap.size, 0, none⟩ = some (.int .i64 x) := by
  have hh := heap_alloc_new w (.cells #[.int .i64 x] t)
  unfold World.cell?; rw [hh]; rfl
set_option maxRecDepth 100000 in
set_option maxHeartbeats 2000000 in
theorem packed3 (n : Int) (w : World) (hn : 1 ≤ n ∧ n ≤ 256) : Calls Try.prog 49 #[on3 n] w fun e w' => ∃ v', e = .returned v' ∧ w'.ownsRow w.heap.size 5 1 v' 3 [.int .u8 3, .int .u8 (n / 256), .int .u8 (n % 256)] ∧ Below w.heap.size w w' := by
  have a1 := fun w => as3_updating (.agg #[.int .i64 n]) w
  have a3 := fun w => as3_copying (.agg #[.int .i64 n]) w
  have hm := fun w => mtF3 (.agg #[.int .i64 n]) w
  have hFl := fun w => flat3_any n w
  have hf := fun w => fldOp0 3 ⟨#[]⟩ 0 0 0 0 n w
  have hA := fun (g0 b : Nat) (w w' : World) hcell ho hB => appendNumbers_one w.heap.size g0 1 [3] 1 b 1 n w' (by omega) hcell (by omega) ho hB
  unfold on3
  unfold opV at *
  go_enter Try.func49, Try.ntmps49
  go_wp2_with fail
  refine (hFl _).mono ?_
  rintro e w1 ⟨rfl, hb1⟩
  clear hFl
  go_wp2_with fail
  have q1 := lit1_cell ((w1.alloc (.cells #[.int .u8 3] 5)).alloc (.cells #[.int .i64 n] 163)) n 2
  rw [World.size_alloc, World.size_alloc] at q1
  refine (hA _ _ w1 _ q1 ?_ ?_).mono ?_
  · exact ((lit_own w1 3).alloc _).alloc _
  · simp; omega
  rintro e w2 ⟨g', c', rfl, hown, hk, hlt, hbk, -⟩
  have hsz := hb1.size
  have hB2 : Below w.heap.size w w2 := (((hb1.alloc (by omega) _).alloc (by simp; omega) _).alloc (by simp; omega) _).trans (hbk.mono hsz)
  clear hk q1 hA
  go_wp2
  go_ret
  exact ⟨_, rfl, own_mono hown hb1.size, hB2⟩
end U
end Go.Proofs.Ytcdodpcdennemaa
