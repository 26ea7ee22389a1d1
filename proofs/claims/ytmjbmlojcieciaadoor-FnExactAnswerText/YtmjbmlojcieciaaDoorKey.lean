/- Keys of labels: what both models answer. -/
import Derived.Test.YtmjbmlojcieciaaDoorFoldI
import Derived.Test.YtmjbmlojcieciaaDoorStr
namespace Go.Proofs.YtmjbmlojcieciaaDoor
open Go.RowKit
namespace U
/-- The key of a label, 0 where it is none. -/
def keyI (s : ByteArray) : Int := sumL (bl (foldS s)) % 256
def keyV (s : ByteArray) : Int := if labelP s = 0 then keyI s else 0
theorem keyV_ok {s : ByteArray} (h : labelP s = 0) : keyV s = keyI s := by simp [keyV, h]
theorem keyV_no {s : ByteArray} (h : ¬ labelP s = 0) : keyV s = 0 := by simp [keyV, h]
theorem keyI_bd (s : ByteArray) : 0 ≤ keyI s ∧ keyI s < 256 := by unfold keyI; omega
theorem field_IR1k (x y : Int) (w : World) : (Instr.field 107 (.agg #[.int .i64 x, .int .i64 y]) 1).run Tryd.prog w = .ok (.int .i64 y) w := by kernel_rfl
theorem labelP_codes (s : ByteArray) : labelP s = 0 ∨ labelP s = 1 ∨ labelP s = 2 ∨ labelP s = 5 := by
  unfold labelP
  split
  · simp
  · split
    · simp
    · split
      · simp
      · split <;> simp
set_option maxRecDepth 100000 in
set_option maxHeartbeats 1000000 in
theorem l2Key_any (s : ByteArray) (w : World) (hs : s.size ≤ 12) :
    Calls Tryd.prog 32 #[.string s] w fun e w' => e = .returned (.int .i64 (keyI s)) ∧ Below w.heap.size w w' := by
  have kc := fun (w : World) => run_bytes_of_string (P := Tryd.prog) w 9 86 5 (foldS s) Tryd.underlying9 Tryd.underlying86 Tryd.underlying5
  have hS := fun v w h => l2Sum_any v (bl (foldS s)) w h (bl_bts _) (by rw [bl_len, foldS_size]; omega)
  have hsb := sumL_bd (bl (foldS s))
  unfold keyI
  have HF := fun w => l1Fold_any s w hs
  generalize foldS s = t at *
  obtain ⟨x, hx⟩ : ∃ x, x = sumL (bl t) := ⟨_, rfl⟩
  rw [← hx] at hS hsb ⊢
  clear hx
  go_enter Tryd.func32, Tryd.ntmps32
  go_wp2_with fail
  refine (HF _).mono ?_
  rintro e w1 ⟨rfl, hb1⟩
  clear HF
  go_wp2_with fail
  generalize grownCap w1 t.size 0 5 = cap
  have hfz : t.size ≤ (bytesRow t cap).size := by simp [bytesRow]
  generalize (bytesRow t cap).size = bz at *
  have hci := fun fz hfz => (conv_ints w1 t 5 cap fz hfz).below ((Below.refl _ _).drew)
  refine (hS _ _ (hci _ hfz)).mono ?_
  rintro e w2 ⟨rfl, rfl⟩
  go_wp2
  go_ret
  exact ⟨rfl, below_after_of hb1 (one_new _).drew⟩
set_option maxRecDepth 100000 in
set_option maxHeartbeats 1000000 in
theorem implKeyOf_any (s : ByteArray) (w : World) (hs : s.size ≤ 1048576) :
    Calls Tryd.prog 73 #[.string s] w fun e w' => IntAns w (labelP s) (keyV s) e w' := by
  have hL := fun w => implFoldLabel_any s w hs
  by_cases h : labelP s = 0
  · have hfs : foldP s = foldS s := by unfold foldP; rw [if_pos h]
    have hle : (foldS s).size ≤ 12 := by rw [foldS_size]; exact labelP_small h
    rw [keyV_ok h, h]
    rw [h, hfs] at hL
    unfold keyI
    have kc := fun (w : World) => run_bytes_of_string (P := Tryd.prog) w 9 86 5 (foldS s) Tryd.underlying9 Tryd.underlying86 Tryd.underlying5
    have hsm := sm_ok (bs := bl (foldS s)) (by rw [bl_len]; omega)
    have hS := fun v w h => implSumOf_any v (bl (foldS s)) w h (bl_bts _) (by rw [bl_len]; omega)
    rw [hsm.1, hsm.2] at hS
    have hsb := sumL_bd (bl (foldS s))
    generalize foldS s = t at *
    obtain ⟨x, hx⟩ : ∃ x, x = sumL (bl t) := ⟨_, rfl⟩
    rw [← hx] at hS hsb ⊢
    have hfi := field_IR1k
    clear hx h hfs hsm
    go_enter Tryd.func73, Tryd.ntmps73
    go_wp2_with fail
    refine (hL _).mono ?_
    rintro e w1 ⟨rfl, hb1⟩
    obtain ⟨hc1, hf1⟩ := bcell hb1
    have hz1 : w.heap.size < w1.heap.size := by have := hb1.size; simp at this; omega
    have R1 : w1.heap[w.heap.size]? = some (.cells #[.int .i64 0, .int .i64 0] 107 (0, 0)) := (hb1.block w.heap.size (by simp)).trans (heap_alloc_new w _)
    have hB1 := below_after hb1
    clear hL hb1
    go_wp2_with fail
    generalize grownCap (w1.alloc (.cells #[.int .i64 0, .string t] 32)) t.size 0 5 = cap
    have hfz : t.size ≤ (bytesRow t cap).size := by simp [bytesRow]
    generalize (bytesRow t cap).size = bz at *
    have hci := fun fz hfz => (conv_ints (w1.alloc (.cells #[.int .i64 0, .string t] 32)) t 5 cap fz hfz).below ((Below.refl _ _).drew)
    simp only [World.size_alloc] at hci
    refine (hS _ _ (hci _ hfz)).mono ?_
    rintro e w2 ⟨rfl, hb2⟩
    have hz2 : w.heap.size < (w1.alloc (.cells #[.int .i64 0, .string t] 32)).heap.size := by simp; omega
    have hN := ((one_new (w := w1.alloc (.cells #[.int .i64 0, .string t] 32)) (.cells (bytesRow t cap) 5 (bz, bz + 1)))).drew
    have hN2 := below_after_of hN hb2
    obtain ⟨hc0, hc1, hf0, hf1⟩ := two_cells ((hN2.block w.heap.size hz2).trans ((Below.heap_alloc w1 (.cells #[.int .i64 0, .string t] 32) _ hz1).trans R1))
    have hB2 := below_after_of (below_after_of hB1 (one_new _)) hN2
    clear hS hci hb2 hN hN2 R1 hB1
    go_wp2
    exact bodyPost_ret (v := .agg #[.int .i64 0, .int .i64 (x % 256)]) (by simp [results, Tryd.results73, go_sem, hc0, hc1]) rfl ⟨rfl, (hB2.setCell (Nat.le_refl _) _).setCell (Nat.le_refl _) _⟩
  · rw [keyV_no h]
    have hfs : foldP s = ⟨#[]⟩ := by unfold foldP; rw [if_neg h]
    rw [hfs] at hL
    have hcd := labelP_codes s
    generalize labelP s = code at *
    rcases hcd with rfl | rfl | rfl | rfl
    · exact absurd rfl h
    all_goals
      go_enter Tryd.func73, Tryd.ntmps73
      go_wp2_with fail
      refine (hL _).mono ?_
      rintro e w1 ⟨rfl, hb1⟩
      have hz1 : w.heap.size < w1.heap.size := by have := hb1.size; simp at this; omega
      obtain ⟨hc0, hc1, hf0, hf1⟩ := two_cells ((hb1.block w.heap.size (by simp)).trans (heap_alloc_new w _))
      have hB1 := below_after hb1
      clear hL hb1
      go_wp2
      exact bodyPost_ret (v := .agg #[.int .i64 _, .int .i64 0]) (by simp [results, Tryd.results73, go_sem, hc0, hc1, hz1]) rfl ⟨rfl, ((hB1.setCell (Nat.le_refl _) _).setCell (Nat.le_refl _) _).alloc (by simp; omega) _⟩
end U
end Go.Proofs.YtmjbmlojcieciaaDoor
