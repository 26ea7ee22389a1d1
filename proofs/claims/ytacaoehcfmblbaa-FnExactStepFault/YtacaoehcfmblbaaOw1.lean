/- Owners: the sum of a secret, as both models tell it. -/
import Derived.Test.YtacaoehcfmblbaaTag2
namespace Go.Proofs.Ytacaoehcfmblbaa
open Go.RowKit
namespace U
/-- The owner of a secret. -/
def ownL (s : Int) : Int := sumL (tagL 6 [s])
def owC (s : Int) : Int := if inB s 0 999 = true then 0 else 3
def owV (s : Int) : Int := if inB s 0 999 = true then ownL s else 0
theorem ow_ok {s : Int} (h : inB s 0 999 = true) : owC s = 0 ∧ owV s = ownL s := by simp [owC, owV, h]
theorem ow_no {s : Int} (h : inB s 0 999 = false) : owC s = 3 ∧ owV s = 0 := by simp [owC, owV, h]
theorem one_ints_at {w : World} {g : Nat} {a : Int} {t : TypeId} (hg : g = w.heap.size) : Ints .i64 (w.alloc (.cells #[.int .i64 a] t)) (.slice (some ⟨g, 0, none⟩) 1 1) [a] := by
  subst hg
  have hh := heap_alloc_new w (.cells #[.int .i64 a] t)
  refine Or.inr ⟨w.heap.size, 0, 1, rfl, by simp, fun j hj => ?_⟩
  have hj2 : j < 1 := hj
  obtain rfl : j = 0 := by omega
  unfold World.cell?
  rw [hh]
  rfl
set_option maxRecDepth 100000 in
set_option maxHeartbeats 1000000 in
theorem implOwnerOf_any (s : Int) (w : World) : Calls Try.prog 23 #[.int .i64 s] w fun e w' => IntAns w (owC s) (owV s) e w' := by
  rcases Bool.eq_false_or_eq_true (inB s 0 999) with h | h
  · have hb := inB_bd h
    have h3 : [s].all sumB = true := by simp [sumB_iff]; omega
    have ht := tg_ok (tag := 6) (xs := [s]) (by decide) (by simp) h3
    have hT := fun (w : World) v hv => implTagSum_any 6 v [s] w hv (by simp)
    rw [ts_ok ht.1, ht.1, ht.2] at hT
    rw [(ow_ok h).1, (ow_ok h).2]
    unfold ownL
    generalize sumL (tagL 6 [s]) = z at *
    have n1 : ¬ s < 0 := by omega
    have n2 : ¬ 999 < s := by omega
    clear h h3 ht hb
    go_enter Try.func23, Try.ntmps23
    go_wp2_with fail
    refine (hT _ _ (one_ints_at (by simp))).mono ?_
    rintro e w1 ⟨rfl, hb1⟩
    obtain ⟨c0, c1, f0, f1⟩ := two_cells ((hb1.block w.heap.size (by simp; omega)).trans (((one_new _).block w.heap.size (by simp)).trans (heap_alloc_new w _)))
    have hB := below_after (below_after hb1)
    clear hT hb1
    go_wp2
    exact bodyPost_ret (v := .agg #[.int .i64 0, .int .i64 z]) (by simp [results, Try.results23, go_sem, c0, c1]) rfl ⟨rfl, (hB.setCell (Nat.le_refl _) _).setCell (Nat.le_refl _) _⟩
  · rw [(ow_no h).1, (ow_no h).2]
    rcases inB_nb h with h1 | h1
    · go_enter Try.func23, Try.ntmps23
      go_wp2
      exact bodyPost_ret (v := .agg #[.int .i64 3, .int .i64 0]) (by simp [results, Try.results23, go_sem]) rfl ⟨rfl, one_new _⟩
    · have n1 : ¬ s < 0 := by omega
      go_enter Try.func23, Try.ntmps23
      go_wp2
      exact bodyPost_ret (v := .agg #[.int .i64 3, .int .i64 0]) (by simp [results, Try.results23, go_sem]) rfl ⟨rfl, one_new _⟩
end U
end Go.Proofs.Ytacaoehcfmblbaa
