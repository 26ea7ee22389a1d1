/- ReadOp, the model's. -/
import Derived.Test.YtcdodpcdennemaaJr8
namespace Go.Proofs.Ytcdodpcdennemaa
open Go.RowKit
namespace U
set_option maxRecDepth 100000 in
set_option maxHeartbeats 2000000 in
theorem specReadOp_any (v : Value) (bs : List Int) (w : World) (hv : OffB w v bs) (hB : Bts bs) (hx : bs.length ≤ 1048576) :
    Calls Try.prog 17 #[v] w fun e w' => e = .returned (rdoV bs) ∧ Below w.heap.size w w' := by
  obtain ⟨a, c0, rfl⟩ := hv.shape
  obtain ⟨W, hW⟩ : ∃ W, W = w.alloc (.cells #[.int .i64 0, .int .i64 0, .string ⟨#[]⟩, .int .i64 0, .int .i64 0, .int .i64 0, .int .i64 0, .int .i64 0] 39) := ⟨_, rfl⟩
  have hBW : Below w.heap.size w W := by rw [hW]; exact one_new _
  have HBW : Hid (Below w.heap.size w W) := hBW
  have HR : Hid (W.heap[w.heap.size]? = some (.cells #[.int .i64 0, .int .i64 0, .string ⟨#[]⟩, .int .i64 0, .int .i64 0, .int .i64 0, .int .i64 0, .int .i64 0] 39)) := (by rw [hW]; exact heap_alloc_new w _ : W.heap[w.heap.size]? = some (.cells #[.int .i64 0, .int .i64 0, .string ⟨#[]⟩, .int .i64 0, .int .i64 0, .int .i64 0, .int .i64 0, .int .i64 0] 39))
  have HL : Hid (w.heap.size < W.heap.size) := (Array.getElem?_eq_some_iff.1 HR.out).1
  have HW : Hid (w.alloc (.cells #[.int .i64 0, .int .i64 0, .string ⟨#[]⟩, .int .i64 0, .int .i64 0, .int .i64 0, .int .i64 0, .int .i64 0] 39) = W) := hW.symm
  have hO := l12Read_any _ bs W (hv.below hBW) hB hx
  clear hW hv hBW hB hx
  go_enter Try.func17, Try.ntmps17
  go_wp2_with fail
  rw [HW.out]
  refine hO.mono ?_
  rintro e w1 ⟨⟨⟨k, l, vv, oo, pp, ss, nn⟩, rfl, hxq⟩, hb1⟩
  clear hO HW
  unfold opnV opV
  dsimp only
  have hb4 : Below w.heap.size w (w1.alloc (.cells #[.int .i64 k, .string l, .int .i64 vv, .int .i64 oo, .int .i64 pp, .int .i64 ss, .int .i64 nn] 33)) := below_after_of HBW.out (below_after_of hb1 (one_new _))
  have hR4 : (w1.alloc (.cells #[.int .i64 k, .string l, .int .i64 vv, .int .i64 oo, .int .i64 pp, .int .i64 ss, .int .i64 nn] 33)).heap[w.heap.size]? = some (.cells #[.int .i64 0, .int .i64 0, .string ⟨#[]⟩, .int .i64 0, .int .i64 0, .int .i64 0, .int .i64 0, .int .i64 0] 39) := heap_alloc_old' _ _ _ ((hb1.block _ HL.out).trans HR.out)
  have hrT : isB bs = true → rdoV bs = oprV 0 k l vv oo pp ss nn := fun h => by
    unfold rdoV
    rw [if_pos h, ← hxq h]
    rfl
  have hrF : isB bs = false → rdoV bs = oprV 5 0 ⟨#[]⟩ 0 0 0 0 0 := fun h => by
    unfold rdoV
    rw [h]
    rfl
  clear hxq hb1 HBW HR HL
  generalize isB bs = q at *
  cases q
  · have hr : rdoV bs = oprV 5 0 ⟨#[]⟩ 0 0 0 0 0 := hrF rfl
    clear hrT hrF
    obtain ⟨⟨r0, r1, r2, r3, r4, r5, r6, r7⟩, f0, f1, f2, f3, f4, f5, f6, f7⟩ := eight_cellsO hR4
    clear hR4
    go_wp2
    exact bodyPost_ret (v := .agg #[.int .i64 5, .int .i64 0, .string ⟨#[]⟩, .int .i64 0, .int .i64 0, .int .i64 0, .int .i64 0, .int .i64 0]) (by simp [results, Try.results17, go_sem, r0, r1, r2, r3, r4, r5, r6, r7]) rfl ⟨by rw [hr]; rfl, below_set8 hb4 _ (Nat.le_refl _) _ _ _ _ _ _ _ _⟩
  · have hr : rdoV bs = oprV 0 k l vv oo pp ss nn := hrT rfl
    clear hrT hrF
    obtain ⟨⟨r0, r1, r2, r3, r4, r5, r6, r7⟩, f0, f1, f2, f3, f4, f5, f6, f7⟩ := eight_cellsO hR4
    clear hR4
    go_wp2
    exact bodyPost_ret (v := .agg #[.int .i64 0, .int .i64 k, .string l, .int .i64 vv, .int .i64 oo, .int .i64 pp, .int .i64 ss, .int .i64 nn]) (by simp [results, Try.results17, go_sem, r0, r1, r2, r3, r4, r5, r6, r7]) rfl ⟨by rw [hr]; rfl, below_set8 hb4 _ (Nat.le_refl _) _ _ _ _ _ _ _ _⟩
end U
end Go.Proofs.Ytcdodpcdennemaa
