/- Numbers in digits, and the text of a record: what both models answer. -/
import Derived.Test.YtmjbmlojcieciaaDoorRec1
import Derived.Test.YtmjbmlojcieciaaDoorShelf
import Derived.Test.YtmjbmlojcieciaaDoorPairs
import Derived.Lib.AppendIntMem
import Derived.Laws.Concat
import Derived.Deep.RegionLaw
import Derived.Deep.DrawnRows
import Derived.Deep.RegionHeld3
namespace Go.Proofs.YtmjbmlojcieciaaDoor
open Go.RowKit
namespace U
def digS (u : Nat) : ByteArray := ⟨(Lib.decDigits u).toArray⟩
theorem digS_small {u : Nat} (h : u < 10) : digS u = ⟨#[UInt8.ofNat (48 + u)]⟩ := by unfold digS; rw [Lib.decDigits, dif_pos h]
theorem digS_step {u : Nat} (h : ¬ u < 10) : digS u = digS (u / 10) ++ ⟨#[UInt8.ofNat (48 + u % 10)]⟩ := by
  unfold digS
  rw [Lib.decDigits, dif_neg h]
  apply ByteArray.ext
  simp
theorem digS_len : ∀ (k u : Nat), u < 10 ^ (k + 1) → (digS u).size ≤ k + 1
  | 0, u, h => by rw [digS_small (by simpa using h)]; exact Nat.le_refl _
  | k + 1, u, h => by
    by_cases h1 : u < 10
    · rw [digS_small h1]; show 1 ≤ _; omega
    · rw [digS_step h1, ByteArray.size_append]
      have := digS_len k (u / 10) (by rw [Nat.pow_succ] at h; omega)
      show _ + 1 ≤ _
      omega
theorem digS_seven {u : Nat} (h : u ≤ 1000000) : (digS u).size ≤ 7 := digS_len 6 u (by omega)
/-- One byte as a text. -/
theorem conv_one (g : Nat) (x : Int) (h0 : 0 ≤ x) (h1 : x ≤ 255) (w : World) (h : w.cell? ⟨g, 0, none⟩ = some (.int .u8 x)) : (convert 86 9 (.slice (some ⟨g, 0, none⟩) 1 1)).run Tryd.prog w = .ok (.string ⟨#[UInt8.ofNat x.toNat]⟩) w := by
  have hb : g < w.heap.size := by
    rcases hh : w.heap[g]? with _ | o
    · simp [World.cell?, hh] at h
    · exact (Array.getElem?_eq_some_iff.1 hh).1
  have := conv_str (P := Tryd.prog) (w := w) (v := .slice (some ⟨g, 0, none⟩) 1 1) (l := [x]) 86 9 Tryd.underlying86 Tryd.underlying5 Tryd.underlying9 (Or.inr ⟨g, 0, 1, rfl, hb, fun j hj => by simp at hj; subst hj; exact h⟩) (fun b hb => by simp at hb; omega)
  simpa [sOf] using this
attribute [local go_sem] Go.wp_at_zero Go.wp_at_succ
set_option maxRecDepth 100000 in
set_option maxHeartbeats 2000000 in
theorem l1Digits_any : ∀ (f u : Nat), u ≤ f → u ≤ 1000000 → ∀ (w : World), Calls Tryd.prog 45 #[.int .i64 (u : Int)] w fun e w' => e = .returned (.string (digS u)) ∧ Below w.heap.size w w' := by
  intro f
  induction f with
  | zero =>
    intro u hu hm w
    obtain rfl : u = 0 := by omega
    rw [digS_small (by omega)]
    have hw : IntKind.u8.wrap 48 = 48 := by rw [IntKind.wrap_u8]; omega
    have hcv := conv_one w.heap.size 48 (by omega) (by omega)
    go_enter Tryd.func45, Tryd.ntmps45
    go_wp2
    go_ret
    exact ⟨rfl, one_new _⟩
  | succ f ih =>
    intro u hu hm w
    by_cases h : u < 10
    · rw [digS_small h]
      have hw : IntKind.u8.wrap (48 + (u : Int)) = 48 + (u : Int) := by rw [IntKind.wrap_u8]; omega
      have hw0 : IntKind.i64.wrap (48 + (u : Int)) = 48 + (u : Int) := by rw [IntKind.wrap_i64]; omega
      have hcv := conv_one w.heap.size (48 + (u : Int)) (by omega) (by omega)
      rw [show (48 + (u : Int)).toNat = 48 + u by omega] at hcv
      generalize UInt8.ofNat (48 + u) = y at *
      have hi : (u : Int) < 10 := by omega
      go_enter Tryd.func45, Tryd.ntmps45
      go_wp2
      go_ret
      exact ⟨rfl, one_new _⟩
    · rw [digS_step h]
      have hi : ¬ (u : Int) < 10 := by omega
      have hR := fun w => ih (u / 10) (by omega) (by omega) w
      have hdl := digS_seven (u := u / 10) (by omega)
      generalize digS (u / 10) = d at *
      obtain ⟨r, hr⟩ : ∃ r, r = u % 10 := ⟨_, rfl⟩
      have hr9 : r < 10 := by omega
      rw [← hr]
      have hd : ((u : Int).tdiv 10) = ((u / 10 : Nat) : Int) := by rw [Int.tdiv_eq_ediv_of_nonneg (by omega)]; omega
      have hm' : ((u : Int).tmod 10) = (r : Int) := by rw [Int.tmod_eq_emod_of_nonneg (by omega)]; omega
      have hw1 : IntKind.i64.wrap ((u / 10 : Nat) : Int) = ((u / 10 : Nat) : Int) := by rw [IntKind.wrap_i64]; omega
      have hw : IntKind.u8.wrap (48 + (r : Int)) = 48 + (r : Int) := by rw [IntKind.wrap_u8]; omega
      have hw0 : IntKind.i64.wrap (48 + (r : Int)) = 48 + (r : Int) := by rw [IntKind.wrap_i64]; omega
      have hcv := fun g => conv_one g (48 + (r : Int)) (by omega) (by omega)
      rw [show (48 + (r : Int)).toNat = 48 + r by omega] at hcv
      generalize UInt8.ofNat (48 + r) = y at *
      have hadd : ∀ w, (Op.stringOp .add d ⟨#[y]⟩).run Tryd.prog w = .ok (.string (d ++ ⟨#[y]⟩)) w := fun w => run_string_add_sum w d ⟨#[y]⟩ (by show d.size + 1 ≤ _; omega)
      generalize ((u / 10 : Nat) : Int) = q at *
      clear ih hr hu
      go_enter Tryd.func45, Tryd.ntmps45
      go_wp2
      go_region_with (first
        | (go_at_call 45; refine (hR _).mono ?_; rintro e wq ⟨rfl, hbq⟩; have hkq := hbq.cell (p := ⟨w.heap.size, 0, none⟩)))
      all_goals (
        have hB9 : Below w.heap.size w wq := by first | exact below_after_of (Below.refl _ _).drew hbq | exact below_after_of (one_new _).drew hbq
        clear hbq hkq hR hcv
        go_wp2
        go_ret
        first | exact ⟨rfl, hB9⟩ | exact ⟨rfl, hB9.alloc hB9.size _⟩)
end U
end Go.Proofs.YtmjbmlojcieciaaDoor
