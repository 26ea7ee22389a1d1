/- What both SizeOf answer, where the table of the ends of sizes is as its text lays it. -/
import Derived.Test.YtjkhhcpiladidaaDoorIntR
namespace Go.Proofs.YtjkhhcpiladidaaDoor
open Go.RowKit
namespace U
/-- The table of ends reads as it was laid. -/
def Ends (w : World) : Prop := 0 < w.heap.size ∧ w.cell? ⟨0, 1, none⟩ = some (.int .i64 128) ∧ w.cell? ⟨0, 2, none⟩ = some (.int .i64 2048) ∧ w.cell? ⟨0, 3, none⟩ = some (.int .i64 65536) ∧ w.cell? ⟨0, 4, none⟩ = some (.int .i64 1114112)
theorem Ends.below {w w' : World} (h : Ends w) (hb : Below w.heap.size w w') : Ends w' := by
  obtain ⟨h0, h1, h2, h3, h4⟩ := h
  exact ⟨Nat.lt_of_lt_of_le h0 hb.size, (hb.cell (p := ⟨_, _, none⟩) h0).trans h1, (hb.cell (p := ⟨_, _, none⟩) h0).trans h2, (hb.cell (p := ⟨_, _, none⟩) h0).trans h3, (hb.cell (p := ⟨_, _, none⟩) h0).trans h4⟩
def szC (r : Int) : Int := if runeB r = true then 0 else 3
def szV (r : Int) : Int := if runeB r = true then sizeI r else 0
theorem sz_yes {r : Int} (h : runeB r = true) : szC r = 0 ∧ szV r = sizeI r := by simp [szC, szV, h]
theorem sz_no {r : Int} (h : runeB r = false) : szC r = 3 ∧ szV r = 0 := by simp [szC, szV, h]
theorem runeB_iff (r : Int) : runeB r = true ↔ ((0 ≤ r ∧ r ≤ 1114111) ∧ ¬ (55296 ≤ r ∧ r ≤ 57343)) := by unfold runeB; exact decide_eq_true_iff
theorem runeB_not (r : Int) : runeB r = false ↔ (r < 0 ∨ 1114111 < r ∨ (55296 ≤ r ∧ r ≤ 57343)) := by unfold runeB; rw [decide_eq_false_iff_not]; omega
set_option maxHeartbeats 1000000 in
theorem implSizeOf_no (r : Int) (w : World) (h : r < 0 ∨ 1114111 < r ∨ (55296 ≤ r ∧ r ≤ 57343)) :
    Calls Tryd.prog 14 #[.int .i64 r] w fun e w' => e = .returned (.agg #[.int .i64 3, .int .i64 0]) ∧ Below w.heap.size w w' := by
  rcases h with h | h | ⟨h1, h2⟩
  · go_enter Tryd.func14, Tryd.ntmps14
    go_wp2
    exact bodyPost_ret (v := .agg #[.int .i64 3, .int .i64 0]) (by simp [results, Tryd.results14, go_sem]) rfl ⟨rfl, one_new _⟩
  · have h0 : ¬ r < 0 := by omega
    go_enter Tryd.func14, Tryd.ntmps14
    go_wp2
    exact bodyPost_ret (v := .agg #[.int .i64 3, .int .i64 0]) (by simp [results, Tryd.results14, go_sem]) rfl ⟨rfl, one_new _⟩
  · go_enter Tryd.func14, Tryd.ntmps14
    go_wp2
    exact bodyPost_ret (v := .agg #[.int .i64 3, .int .i64 0]) (by simp [results, Tryd.results14, go_sem]) rfl ⟨rfl, one_new _⟩
set_option maxHeartbeats 2000000 in
theorem implSizeOf_yes (r : Int) (w : World) (hE : Ends w) (h0 : 0 ≤ r) (h1 : r ≤ 1114111) (h2 : r < 55296 ∨ 57343 < r) :
    Calls Tryd.prog 14 #[.int .i64 r] w fun e w' => e = .returned (.agg #[.int .i64 0, .int .i64 (sizeI r)]) ∧ Below w.heap.size w w' := by
  have hsz := sizeI_cases r
  obtain ⟨hg, e1, e2, e3, e4⟩ := hE
  have hgo : ∀ i, (w.alloc (.cells #[.int .i64 0, .int .i64 0] 39)).cell? ⟨0, i, none⟩ = w.cell? ⟨0, i, none⟩ := fun i => (one_new _).cell (p := ⟨0, i, none⟩) hg
  have HS : Hid ((r < 128 ∧ sizeI r = 1) ∨ (128 ≤ r ∧ r < 2048 ∧ sizeI r = 2) ∨ (2048 ≤ r ∧ r < 65536 ∧ sizeI r = 3) ∨ (65536 ≤ r ∧ sizeI r = 4)) := hsz
  clear hsz
  rcases h2 with h2 | h2
  all_goals
    go_enter Tryd.func14, Tryd.ntmps14
    go_wp2
    go_loop [3] (fun v => ∃ k : Nat, 1 ≤ k ∧ k ≤ 4 ∧ v = .int .i64 k ∧ Hid ((k : Int) ≤ sizeI r)) (fun v => 4 - (intOf v).toNat)
    case atStart => exact ⟨1, by omega, by omega, rfl, by have := HS.out; show ((1 : Nat) : Int) ≤ sizeI r; omega⟩
    case round =>
      obtain ⟨k, hk1, hk4, rfl, hK⟩ := hrel
      rcases (show k = 1 ∨ k = 2 ∨ k = 3 ∨ k = 4 by omega) with rfl | rfl | rfl | rfl
      · by_cases hr : 128 ≤ r
        · go_wp2
          go_round
          case rel => exact ⟨2, by omega, by omega, rfl, by have := HS.out; show ((2 : Nat) : Int) ≤ sizeI r; omega⟩
          case measure => simp [intOf]
        · first
          | (exfalso; omega)
          | (go_wp2; exact bodyPost_ret (v := .agg #[.int .i64 0, .int .i64 (sizeI r)]) (by rw [show sizeI r = 1 by have := HS.out; omega]; simp [results, Tryd.results14, go_sem]) rfl ⟨rfl, one_new _⟩)
      · by_cases hr : 2048 ≤ r
        · go_wp2
          go_round
          case rel => exact ⟨3, by omega, by omega, rfl, by have := HS.out; show ((3 : Nat) : Int) ≤ sizeI r; omega⟩
          case measure => simp [intOf]
        · first
          | (exfalso; omega)
          | (go_wp2; exact bodyPost_ret (v := .agg #[.int .i64 0, .int .i64 (sizeI r)]) (by rw [show sizeI r = 2 by have := HS.out; have : ((2 : Nat) : Int) ≤ sizeI r := hK.out; omega]; simp [results, Tryd.results14, go_sem]) rfl ⟨rfl, one_new _⟩)
      · by_cases hr : 65536 ≤ r
        · go_wp2
          go_round
          case rel => exact ⟨4, by omega, by omega, rfl, by have := HS.out; show ((4 : Nat) : Int) ≤ sizeI r; omega⟩
          case measure => simp [intOf]
        · first
          | (exfalso; omega)
          | (go_wp2; exact bodyPost_ret (v := .agg #[.int .i64 0, .int .i64 (sizeI r)]) (by rw [show sizeI r = 3 by have := HS.out; have : ((3 : Nat) : Int) ≤ sizeI r := hK.out; omega]; simp [results, Tryd.results14, go_sem]) rfl ⟨rfl, one_new _⟩)
      · go_wp2
        exact bodyPost_ret (v := .agg #[.int .i64 0, .int .i64 (sizeI r)]) (by rw [show sizeI r = 4 by have := HS.out; have : ((4 : Nat) : Int) ≤ sizeI r := hK.out; omega]; simp [results, Tryd.results14, go_sem]) rfl ⟨rfl, one_new _⟩
theorem implSizeOf_any (r : Int) (w : World) (hE : Ends w) :
    Calls Tryd.prog 14 #[.int .i64 r] w fun e w' => e = .returned (.agg #[.int .i64 (szC r), .int .i64 (szV r)]) ∧ Below w.heap.size w w' := by
  rcases Bool.eq_false_or_eq_true (runeB r) with h | h
  · rw [(sz_yes h).1, (sz_yes h).2]
    have := (runeB_iff r).1 h
    exact implSizeOf_yes r w hE this.1.1 this.1.2 (by omega)
  · rw [(sz_no h).1, (sz_no h).2]
    exact implSizeOf_no r w ((runeB_not r).1 h)
end U
end Go.Proofs.YtjkhhcpiladidaaDoor
