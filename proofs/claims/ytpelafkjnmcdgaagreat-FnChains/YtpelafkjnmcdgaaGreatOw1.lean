/- Owners: the sum of a secret, as both models tell it. -/
import Derived.Test.YtpelafkjnmcdgaaGreatTag2
namespace Go.Proofs.YtpelafkjnmcdgaaGreat
open Go.RowKit
namespace U
/-- The owner of a secret. -/
def ownL (s : Int) : Int := sumL (tagL 6 [s])
def owC (s : Int) : Int := if inB s 0 999 = true then 0 else 3
def owV (s : Int) : Int := if inB s 0 999 = true then ownL s else 0
theorem ow_ok {s : Int} (h : inB s 0 999 = true) : owC s = 0 ∧ owV s = ownL s := by simp [owC, owV, h]
theorem ow_no {s : Int} (h : inB s 0 999 = false) : owC s = 3 ∧ owV s = 0 := by simp [owC, owV, h]
theorem one_ints_at {w : World} {g : Nat} {a : Int} {t : TypeId} (hg : g = w.heap.size) : Ints .i64 (w.alloc (.cells #[.int .i64 a] t)) (.slice (some ⟨g, 0, none⟩) 1 1) [a] := by
  subst hg
  have hh := heap_alloc_new w (.cells #[.int .i64 a] t)
  refine Or.inr ⟨w.heap.size, 0, 1, rfl, by simp, fun j hj => ?_⟩
  have hj2 : j < 1 := hj
  obtain rfl : j = 0 := by omega
  unfold World.cell?
  rw [hh]
  rfl
set_option maxRecDepth 100000 in
set_option maxHeartbeats 1000000 in
theorem l2Tag1_any (tag a : Int) (u : Value) (w : World) (ht : 0 ≤ tag ∧ tag ≤ 255) (hu : Ints .i64 w u [a]) (ha : 0 ≤ a ∧ a ≤ 65520) :
    Calls Tryz.prog 123 #[.int .i64 tag, u] w fun e w' => e = .returned (.int .i64 (sumL (tagL tag [a]))) ∧ Below w.heap.size w w' := by
  have h3 : [a].all sumB = true := by simp [sumB_iff, ha]
  have hB := fun w h => l2Bytes_any tag u [a] w h (by simp) ht h3
  have hS := fun v w h => l2Sum_any v (tagL tag [a]) w h (tagL_bts ht h3) (by rw [tagL_len]; simp)
  have hl : (tagL tag [a]).length = 3 := by rw [tagL_len]; rfl
  have HU : Hid (Ints .i64 w u [a]) := hu
  obtain ⟨a', c', hu2⟩ := hu.shape
  have hu3 : u = .slice a' 1 c' := hu2
  subst hu3
  clear hu2
  rw [hl] at hB
  have HL : Hid ((tagL tag [a]).length = 3) := hl
  generalize sumL (tagL tag [a]) = s at *
  generalize tagL tag [a] = ys at *
  clear hu hl h3 ha ht
  go_enter Tryz.func123, Tryz.ntmps123
  go_wp2_with fail
  refine (hB _ HU.out).mono ?_
  rintro e w1 ⟨v', rfl, own1, hb1⟩
  rw [← HL.out] at own1
  have HI : Hid (Ints .u8 w1 v' ys) := own_ints own1
  obtain ⟨a1, c1, rfl⟩ := own_shape own1
  rw [HL.out] at HI ⊢
  clear hB own1
  go_wp2_with fail
  refine (hS _ _ HI.out).mono ?_
  rintro e w2 ⟨rfl, rfl⟩
  clear hS
  go_wp2
  go_ret
  exact ⟨rfl, hb1⟩
set_option maxRecDepth 100000 in
set_option maxHeartbeats 1000000 in
theorem l9Owner_any (s : Int) (w : World) (h : 0 ≤ s ∧ s ≤ 999) : Calls Tryz.prog 113 #[.int .i64 s] w fun e w' => e = .returned (.int .i64 (ownL s)) ∧ Below w.heap.size w w' := by
  have hT := fun (w : World) u hu => l2Tag1_any 6 s u w (by omega) hu (by omega)
  unfold ownL
  generalize sumL (tagL 6 [s]) = z at *
  go_enter Tryz.func113, Tryz.ntmps113
  go_wp2_with fail
  refine (hT _ _ (one_ints_at rfl)).mono ?_
  rintro e w1 ⟨rfl, hb1⟩
  clear hT
  go_wp2
  go_ret
  exact ⟨rfl, below_after hb1⟩
end U
end Go.Proofs.YtpelafkjnmcdgaaGreat
