/- Marks in a directory's records, and how they are looked at anew. -/
import Derived.Test.YtcdodpcdennemaaDrE
import Derived.Test.YtcdodpcdennemaaFold0
import Derived.Test.YtcdodpcdennemaaOwn
namespace Go.Proofs.Ytcdodpcdennemaa
open Go.RowKit
namespace U
def digB (d : Nat) : ByteArray := ⟨#[UInt8.ofNat (48 + d)]⟩
theorem bt_digB {d : Nat} (h : d < 10) : bt (digB d) 0 = ((48 + d : Nat) : Int) := by
  rcases (by omega : d = 0 ∨ d = 1 ∨ d = 2 ∨ d = 3 ∨ d = 4 ∨ d = 5 ∨ d = 6 ∨ d = 7 ∨ d = 8 ∨ d = 9) with rfl | rfl | rfl | rfl | rfl | rfl | rfl | rfl | rfl | rfl <;> rfl
def mtL : Nat → Nat → ByteArray → ByteArray
  | 0, _, out => out
  | f + 1, k, out => if k = 0 then out else mtL f (k / 10) (digB (k % 10) ++ out)
theorem mtL_zero (f : Nat) (out : ByteArray) : mtL f 0 out = out := by cases f <;> rfl
theorem mtL_st : ∀ (f g k : Nat) (out : ByteArray), k ≤ f → k ≤ g → mtL f k out = mtL g k out
  | 0, g, k, out, h, _ => by
    have e : k = 0 := by omega
    subst e
    rw [mtL_zero, mtL_zero]
  | f + 1, g, k, out, h1, h2 => by
    by_cases e : k = 0
    · subst e; rw [mtL_zero, mtL_zero]
    · obtain ⟨g', rfl⟩ : ∃ g', g = g' + 1 := ⟨g - 1, by omega⟩
      rw [mtL, mtL, if_neg e, if_neg e]
      exact mtL_st f g' (k / 10) _ (by omega) (by omega)
theorem mtL_step {k : Nat} {out : ByteArray} (h : ¬ k = 0) : mtL k k out = mtL (k / 10) (k / 10) (digB (k % 10) ++ out) := by
  obtain ⟨f, hf⟩ : ∃ f, k = f + 1 := ⟨k - 1, by omega⟩
  have e : mtL (f + 1) k out = mtL f (k / 10) (digB (k % 10) ++ out) := by rw [mtL, if_neg h]
  rw [← hf] at e
  rw [e]
  exact mtL_st _ _ _ _ (by omega) (Nat.le_refl _)
/-- The mark of a number, as a text. -/
def mkT (k : Nat) : ByteArray := ⟨#[109]⟩ ++ mtL k k ⟨#[]⟩
theorem conv_dig (w : World) (d : Nat) (h : d < 10) : (convert 27 9 (.slice (some ⟨w.heap.size, 0, none⟩) 1 1)).run Try.prog (w.alloc (.cells #[.int .u8 (48 + (d : Int))] 5)) = .ok (.string (digB d)) (w.alloc (.cells #[.int .u8 (48 + (d : Int))] 5)) := by
  refine conv_back (P := Try.prog) _ 27 9 5 w.heap.size 0 1 (digB d) Try.underlying27 Try.underlying5 Try.underlying9 (fun j hj => ?_)
  have hj1 : j < 1 := hj
  obtain rfl : j = 0 := by omega
  rw [bt_digB h, show ((48 + d : Nat) : Int) = 48 + (d : Int) by omega]
  unfold World.cell?
  rw [heap_alloc_new]
  rfl
set_option maxRecDepth 100000 in
set_option maxHeartbeats 1000000 in
theorem markText_any (k : Nat) (w : World) (h0 : 0 < k) (hk : k ≤ 4398046511104) : Calls Try.prog 188 #[.int .i64 (k : Int)] w fun e w' => e = .returned (.string (mkT k)) ∧ Below w.heap.size w w' := by
  obtain ⟨T, hT⟩ : ∃ T, T = mtL k k ⟨#[]⟩ := ⟨_, rfl⟩
  have HT : Hid (mtL k k ⟨#[]⟩ = T) := hT.symm
  unfold mkT
  rw [← hT]
  have hn : ¬ ((k : Int) ≤ 0) := by omega
  clear hT
  go_enter Try.func188, Try.ntmps188
  go_wp2
  go_loopw [0, 3] (fun a u wr => ∃ (j : Nat) (out : ByteArray), out.size + j ≤ k ∧ a = .int .i64 (j : Int) ∧ u = .string out ∧ Hid (mtL j j out = T) ∧ Hid (Below w.heap.size w wr)) (fun a _ _ => (intOf a).toNat)
  case atStart => exact ⟨k, ⟨#[]⟩, by show 0 + k ≤ k; omega, rfl, rfl, HT, Below.refl _ _⟩
  case round =>
    obtain ⟨j, out, hj, rfl, rfl, HM, hB⟩ := hrel
    by_cases hj0 : j = 0
    · subst hj0
      have e : Hid (out = T) := (by rw [← HM.out]; rfl : out = T)
      have hso : ¬ 9223372036854775807 < (⟨#[109]⟩ : ByteArray).size + out.size := by show ¬ 9223372036854775807 < 1 + out.size; omega
      have hso2 : ¬ 9223372036854775807 < 1 + out.size := by omega
      go_wp2
      go_ret
      exact ⟨by rw [e.out]; rfl, hB.out⟩
    · have hjp : ((j : Int) > 0) := by omega
      have HM2 : Hid (mtL (j / 10) (j / 10) (digB (j % 10) ++ out) = T) := (by rw [← mtL_step hj0]; exact HM.out : mtL (j / 10) (j / 10) (digB (j % 10) ++ out) = T)
      have hr : (j : Int).tmod 10 = ((j % 10 : Nat) : Int) := by rw [Int.tmod_eq_emod_of_nonneg (by omega)]; rfl
      have hq : (j : Int).tdiv 10 = ((j / 10 : Nat) : Int) := by rw [Int.tdiv_eq_ediv_of_nonneg (by omega)]; rfl
      have hd := fun w => conv_dig w (j % 10) (by omega)
      have hd10 : j % 10 < 10 := by omega
      have hq10 : j / 10 < j := by omega
      generalize j % 10 = d at *
      generalize j / 10 = q at *
      have hsd : (digB d).size = 1 := rfl
      have hso : ¬ 9223372036854775807 < (digB d).size + out.size := by rw [hsd]; omega
      have hsz : (digB d ++ out).size + q ≤ k := by rw [ByteArray.size_append, hsd]; omega
      have HZ : Hid ((digB d ++ out).size + q ≤ k) := hsz
      clear hsd hsz
      go_wp2
      go_roundw
      case rel => exact ⟨q, _, HZ.out, rfl, rfl, HM2, hB.out.alloc hB.out.size _⟩
      case measure => simp [intOf]; omega
end U
end Go.Proofs.Ytcdodpcdennemaa
