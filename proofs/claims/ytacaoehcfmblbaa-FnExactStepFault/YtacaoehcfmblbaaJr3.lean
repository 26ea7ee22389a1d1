/- The fault of an operation by the program. -/
import Derived.Test.YtacaoehcfmblbaaJr2
import Derived.Test.YtacaoehcfmblbaaHeldBy
import Derived.Test.YtacaoehcfmblbaaQuiet
namespace Go.Proofs.Ytacaoehcfmblbaa
open Go.RowKit
namespace U
theorem as1_updating (x : Value) (w : World) : (Instr.typeAssert (.iface 56 x) 49 56 true).run Try.prog w = .ok (.tuple #[x, .bool true]) w := by kernel_rfl
theorem as1_copying (x : Value) (w : World) : (Instr.typeAssert (.iface 56 x) 49 60 true).run Try.prog w = .ok (.tuple #[.agg #[.int .i64 0], .bool false]) w := by kernel_rfl
theorem as2_updating (x : Value) (w : World) : (Instr.typeAssert (.iface 58 x) 49 56 true).run Try.prog w = .ok (.tuple #[.agg #[.string ⟨#[]⟩, .int .i64 0, .int .i64 0, .int .i64 0, .int .i64 0], .bool false]) w := by kernel_rfl
theorem as2_copying (x : Value) (w : World) : (Instr.typeAssert (.iface 58 x) 49 60 true).run Try.prog w = .ok (.tuple #[.agg #[.int .i64 0], .bool false]) w := by kernel_rfl
theorem as3_updating (x : Value) (w : World) : (Instr.typeAssert (.iface 60 x) 49 56 true).run Try.prog w = .ok (.tuple #[.agg #[.string ⟨#[]⟩, .int .i64 0, .int .i64 0, .int .i64 0, .int .i64 0], .bool false]) w := by kernel_rfl
theorem as3_copying (x : Value) (w : World) : (Instr.typeAssert (.iface 60 x) 49 60 true).run Try.prog w = .ok (.tuple #[x, .bool true]) w := by kernel_rfl
theorem as4_updating (x : Value) (w : World) : (Instr.typeAssert (.iface 61 x) 49 56 true).run Try.prog w = .ok (.tuple #[.agg #[.string ⟨#[]⟩, .int .i64 0, .int .i64 0, .int .i64 0, .int .i64 0], .bool false]) w := by kernel_rfl
theorem as4_copying (x : Value) (w : World) : (Instr.typeAssert (.iface 61 x) 49 60 true).run Try.prog w = .ok (.tuple #[.agg #[.int .i64 0], .bool false]) w := by kernel_rfl
theorem as5_updating (x : Value) (w : World) : (Instr.typeAssert (.iface 62 x) 49 56 true).run Try.prog w = .ok (.tuple #[.agg #[.string ⟨#[]⟩, .int .i64 0, .int .i64 0, .int .i64 0, .int .i64 0], .bool false]) w := by kernel_rfl
theorem as5_copying (x : Value) (w : World) : (Instr.typeAssert (.iface 62 x) 49 60 true).run Try.prog w = .ok (.tuple #[.agg #[.int .i64 0], .bool false]) w := by kernel_rfl
theorem as6_updating (x : Value) (w : World) : (Instr.typeAssert (.iface 63 x) 49 56 true).run Try.prog w = .ok (.tuple #[.agg #[.string ⟨#[]⟩, .int .i64 0, .int .i64 0, .int .i64 0, .int .i64 0], .bool false]) w := by kernel_rfl
theorem as6_copying (x : Value) (w : World) : (Instr.typeAssert (.iface 63 x) 49 60 true).run Try.prog w = .ok (.tuple #[.agg #[.int .i64 0], .bool false]) w := by kernel_rfl
theorem fldI0 (c v : Int) (w : World) : (Instr.field 66 (.agg #[.int .i64 c, .int .i64 v]) 0).run Try.prog w = .ok (.int .i64 c) w := by kernel_rfl
theorem five_cellsJ {w : World} {b : Nat} {x0 x1 x2 x3 x4 : Value} {t : TypeId} (h : w.heap[b]? = some (.cells #[x0, x1, x2, x3, x4] t (0, 0))) : w.cell? ⟨b, 0, none⟩ = some x0 ∧ w.cell? ⟨b, 1, none⟩ = some x1 ∧ w.cell? ⟨b, 2, none⟩ = some x2 ∧ w.cell? ⟨b, 3, none⟩ = some x3 ∧ w.cell? ⟨b, 4, none⟩ = some x4 := by
  simp [World.cell?, h]
theorem two_intsJ {w : World} {g : Nat} {a b : Int} {t : TypeId} (hg : g = w.heap.size) : Ints .i64 (w.alloc (.cells #[.int .i64 a, .int .i64 b] t)) (.slice (some ⟨g, 0, none⟩) 2 2) [a, b] := by
  subst hg
  have hh := heap_alloc_new w (.cells #[.int .i64 a, .int .i64 b] t)
  refine Or.inr ⟨w.heap.size, 0, 2, rfl, by simp, fun j hj => ?_⟩
  have hj2 : j < 2 := hj
  rcases (by omega : j = 0 ∨ j = 1) with rfl | rfl <;> (unfold World.cell?; rw [hh]; rfl)
set_option maxHeartbeats 400000 in
theorem mayCopyJ_any (n : Int) (w : World) : Calls Try.prog 25 #[.int .i64 n] w fun e w' => e = .returned (.bool (inB n 1 256)) ∧ w' = w := by
  by_cases k1 : 1 ≤ n
  · by_cases k2 : n ≤ 256
    · rw [inB_t k1 k2]
      go_enter Try.func25, Try.ntmps25
      go_wp2
      go_ret
      exact ⟨ret_bool (by simp <;> omega), rfl⟩
    · rw [inB_f (Or.inr (by omega))]
      go_enter Try.func25, Try.ntmps25
      go_wp2
      go_ret
      exact ⟨ret_bool (by simp <;> omega), rfl⟩
  · rw [inB_f (Or.inl (by omega))]
    go_enter Try.func25, Try.ntmps25
    go_wp2
    go_ret
    exact ⟨ret_bool (by simp <;> omega), rfl⟩
set_option maxRecDepth 100000 in
set_option maxHeartbeats 2000000 in
theorem opF2 (w : World) : Calls Try.prog 19 #[on2] w fun e w' => e = .returned (.int .i64 0) ∧ Below w.heap.size w w' := by
  have a1 := fun w => as2_updating (.agg #[]) w
  have a3 := fun w => as2_copying (.agg #[]) w
  unfold on2
  go_enter Try.func19, Try.ntmps19
  go_wp2
  go_ret
  exact ⟨rfl, by first | exact Below.refl _ _ | exact one_new _ | exact two_new _ _⟩
set_option maxRecDepth 100000 in
set_option maxHeartbeats 2000000 in
theorem opF4 (w : World) : Calls Try.prog 19 #[on4] w fun e w' => e = .returned (.int .i64 0) ∧ Below w.heap.size w w' := by
  have a1 := fun w => as4_updating (.agg #[]) w
  have a3 := fun w => as4_copying (.agg #[]) w
  unfold on4
  go_enter Try.func19, Try.ntmps19
  go_wp2
  go_ret
  exact ⟨rfl, by first | exact Below.refl _ _ | exact one_new _ | exact two_new _ _⟩
set_option maxRecDepth 100000 in
set_option maxHeartbeats 2000000 in
theorem opF5 (w : World) : Calls Try.prog 19 #[on5] w fun e w' => e = .returned (.int .i64 0) ∧ Below w.heap.size w w' := by
  have a1 := fun w => as5_updating (.agg #[]) w
  have a3 := fun w => as5_copying (.agg #[]) w
  unfold on5
  go_enter Try.func19, Try.ntmps19
  go_wp2
  go_ret
  exact ⟨rfl, by first | exact Below.refl _ _ | exact one_new _ | exact two_new _ _⟩
set_option maxRecDepth 100000 in
set_option maxHeartbeats 2000000 in
theorem opF6 (w : World) : Calls Try.prog 19 #[on6] w fun e w' => e = .returned (.int .i64 0) ∧ Below w.heap.size w w' := by
  have a1 := fun w => as6_updating (.agg #[]) w
  have a3 := fun w => as6_copying (.agg #[]) w
  unfold on6
  go_enter Try.func19, Try.ntmps19
  go_wp2
  go_ret
  exact ⟨rfl, by first | exact Below.refl _ _ | exact one_new _ | exact two_new _ _⟩
set_option maxRecDepth 100000 in
set_option maxHeartbeats 2000000 in
theorem opF3 (n : Int) (w : World) : Calls Try.prog 19 #[on3 n] w fun e w' => e = .returned (.int .i64 (if inB n 1 256 = true then 0 else 3)) ∧ Below w.heap.size w w' := by
  have a1 := fun w => as3_updating (.agg #[.int .i64 n]) w
  have a3 := fun w => as3_copying (.agg #[.int .i64 n]) w
  have hM := fun w => mayCopyJ_any n w
  unfold on3
  rcases Bool.eq_false_or_eq_true (inB n 1 256) with h | h <;> rw [h] at hM ⊢
  all_goals
    clear h
    go_enter Try.func19, Try.ntmps19
    go_wp2_with (go_at_call 25; refine (hM _).mono ?_; rintro e wq ⟨rfl, hwq⟩; rw [hwq]; clear hwq)
    go_ret
    exact ⟨rfl, by first | exact one_new _ | exact two_new _ _⟩
set_option maxRecDepth 100000 in
set_option maxHeartbeats 2000000 in
theorem opF1 (l : ByteArray) (v o p s : Int) (w : World) (hl : l.size ≤ 1048576) : Calls Try.prog 19 #[on1 l v o p s] w fun e w' => e = .returned (.int .i64 (if owC s = 0 then recC l v o p else owC s)) ∧ Below w.heap.size w w' := by
  have a1 := fun w => as1_updating (.agg #[.string l, .int .i64 v, .int .i64 o, .int .i64 p, .int .i64 s]) w
  have hO := fun w => implOwnerOf_any s w
  have hR := fun w => implRecordFault_any l v o p w hl
  have hOr := fun u w hu => cmpOr2 (owC s) (recC l v o p) u w hu
  have hf := fun w => fldI0 (owC s) (owV s) w
  unfold on1
  unfold recV at hR
  unfold IntAns at hO
  generalize (if owC s = 0 then recC l v o p else owC s) = q at *
  generalize owC s = oc at *
  generalize owV s = ov at *
  generalize recC l v o p = rc at *
  obtain ⟨W, hW⟩ : ∃ W, W = w.alloc (.cells #[.string l, .int .i64 v, .int .i64 o, .int .i64 p, .int .i64 s] 56) := ⟨_, rfl⟩
  have HW : Hid (w.alloc (.cells #[.string l, .int .i64 v, .int .i64 o, .int .i64 p, .int .i64 s] 56) = W) := hW.symm
  have A0 : W.heap[w.heap.size]? = some (.cells #[.string l, .int .i64 v, .int .i64 o, .int .i64 p, .int .i64 s] 56) := by rw [hW]; exact heap_alloc_new w _
  have hB0 : Below w.heap.size w W := by rw [hW]; exact one_new _
  have l0 := (Array.getElem?_eq_some_iff.1 A0).1
  have HCC : Hid (∀ w', Below W.heap.size W w' → w'.cell? ⟨w.heap.size, 0, none⟩ = some (.string l) ∧ w'.cell? ⟨w.heap.size, 1, none⟩ = some (.int .i64 v) ∧ w'.cell? ⟨w.heap.size, 2, none⟩ = some (.int .i64 o) ∧ w'.cell? ⟨w.heap.size, 3, none⟩ = some (.int .i64 p) ∧ w'.cell? ⟨w.heap.size, 4, none⟩ = some (.int .i64 s)) := fun w' h => five_cellsJ ((h.block _ l0).trans A0)
  have HBW : Hid (∀ w', Below W.heap.size W w' → Below w.heap.size w w') := fun w' h => below_after_of hB0 h
  have hbr := Below.refl W.heap.size W
  obtain ⟨g0, g1, g2, g3, g4⟩ := HCC.out _ hbr
  clear hW hB0 A0 l0
  go_enter Try.func19, Try.ntmps19
  go_wp2_with fail
  rw [HW.out]
  go_region_held3 (fun w' => w'.cell? ⟨w.heap.size, 0, none⟩ = some (.string l) ∧ w'.cell? ⟨w.heap.size, 1, none⟩ = some (.int .i64 v) ∧ w'.cell? ⟨w.heap.size, 2, none⟩ = some (.int .i64 o) ∧ w'.cell? ⟨w.heap.size, 3, none⟩ = some (.int .i64 p) ∧ w'.cell? ⟨w.heap.size, 4, none⟩ = some (.int .i64 s))
    (first | with_reducible exact ⟨g0, g1, g2, g3, g4⟩ | with_reducible exact HCC.out _ hbr | with_reducible exact HCC.out _ hbr.drew | with_reducible exact HCC.out _ (hbr.alloc hbr.size _))
    (first
      | (go_at_call 23; refine (hO _).mono ?_; rintro x w2 ⟨rfl, hb2⟩; have hbr : Below W.heap.size W w2 := (by first | exact below_after_of hbr hb2 | exact below_after_of hbr.drew hb2))
      | (go_at_call 24; refine (hR _).mono ?_; rintro x w3 ⟨rfl, hb3⟩; have hbr : Below W.heap.size W w3 := (by first | exact below_after_of hbr hb3 | exact below_after_of hbr.drew hb3))
      | (go_at_call 22; refine (hOr _ _ (two_intsJ rfl)).mono ?_; rintro x w5 ⟨rfl, hw5⟩; have hbr : Below W.heap.size W w5 := (by rw [hw5]; exact hbr.alloc hbr.size _); clear hw5))
  clear g0 g1 g2 g3 g4 hO hR hOr hf HW
  have hB1 := HBW.out _ hbr
  clear HCC HBW hbr
  go_wp2
  go_ret
  exact ⟨rfl, hB1⟩
end U
end Go.Proofs.Ytacaoehcfmblbaa
