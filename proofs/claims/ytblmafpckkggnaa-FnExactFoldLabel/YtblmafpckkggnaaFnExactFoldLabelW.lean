/- The law on FoldLabel, walked: true, and nothing that was there has turned. -/
import Derived.Test.YtblmafpckkggnaaFold
namespace Go.Proofs.Ytblmafpckkggnaa
open Go.RowKit
namespace U
def foldP (s : ByteArray) : ByteArray := if labelP s = 0 then foldS s else ⟨#[]⟩
theorem labelP_small {s : ByteArray} (h : labelP s = 0) : s.size ≤ 12 := by
  unfold labelP at h
  by_cases h0 : s.size = 0
  · omega
  · by_cases h1 : 12 < s.size
    · rw [if_neg h0, if_pos h1] at h; omega
    · omega
set_option maxHeartbeats 1000000 in
theorem eqTextResult_same (c : Int) (t : ByteArray) (w : World) :
    Calls Try.prog 16 #[.agg #[.int .i64 c, .string t], .agg #[.int .i64 c, .string t]] w fun e w' => e = .returned (.bool true) ∧ Below w.heap.size w w' := by
  go_enter Try.func16, Try.ntmps16
  go_wp2
  go_ret
  exact ⟨rfl, two_new _ _⟩
set_option maxHeartbeats 1000000 in
theorem specFoldLabel_any (s : ByteArray) (w : World) (hs : s.size ≤ 1048576) :
    Calls Try.prog 14 #[.string s] w fun e w' => e = .returned (.agg #[.int .i64 (labelP s), .string (foldP s)]) ∧ Below w.heap.size w w' := by
  have hL := fun w => l1Label_any s w hs
  have hsm := labelP_small (s := s)
  unfold foldP
  generalize labelP s = code at *
  by_cases h : code = 0
  · have h12 := hsm h
    subst h
    clear hsm
    rw [if_pos rfl]
    go_enter Try.func14, Try.ntmps14
    go_wp2_with (first | (go_at_call 25; refine (hL _).mono ?_; rintro e w1 ⟨rfl, hb1⟩; have hsz : w.heap.size < w1.heap.size := by (have := hb1.size; simp at this; omega)) | (go_at_call 26; refine (l1Fold_any s _ h12).mono ?_; rintro e w2 ⟨rfl, hb2⟩; obtain ⟨hc, hf⟩ := bcell (below_after_of hb1 hb2)))
    exact bodyPost_ret (v := .agg #[.int .i64 0, .string (foldS s)]) (by simp [results, Try.results14, go_sem, hc]) rfl ⟨rfl, ((below_after (below_after_of hb1 hb2)).setCell (Nat.le_refl _) _).setCell (Nat.le_refl _) _⟩
  · have h1 : (code != 0) = true := by simpa using h
    rw [if_neg h]
    clear h hsm
    go_enter Try.func14, Try.ntmps14
    go_wp2_with (go_at_call 25; refine (hL _).mono ?_; rintro e w1 ⟨rfl, hb1⟩; obtain ⟨hc, hf⟩ := bcell hb1)
    exact bodyPost_ret (v := .agg #[.int .i64 code, .string ⟨#[]⟩]) (by simp [results, Try.results14, go_sem, hc]) rfl ⟨rfl, ((below_after hb1).setCell (Nat.le_refl _) _).setCell (Nat.le_refl _) _⟩

set_option maxHeartbeats 2000000 in
theorem implFoldLabel_any (s : ByteArray) (w : World) (hs : s.size ≤ 1048576) :
    Calls Try.prog 15 #[.string s] w fun e w' => e = .returned (.agg #[.int .i64 (labelP s), .string (foldP s)]) ∧ Below w.heap.size w w' := by
  have hL := fun w => implLabelFault_any s w hs
  have hsm := labelP_small (s := s)
  unfold foldP
  generalize labelP s = code at *
  by_cases h : code = 0
  · have h12 := hsm h
    subst h
    clear hsm
    rw [if_pos rfl]
    have kc := fun (w : World) => run_bytes_of_string (P := Try.prog) w 9 44 5 s Try.underlying9 Try.underlying44 Try.underlying5
    go_enter Try.func15, Try.ntmps15
    go_wp2_with (go_at_call 13; refine (hL _).mono ?_; rintro e w1 ⟨rfl, hb1⟩)
    generalize grownCap w1 s.size 0 5 = cap
    go_loopw [17] (fun i wr => ∃ k : Nat, k ≤ s.size ∧ i = .int .i64 k ∧ Below w1.heap.size w1 wr ∧ w1.heap.size < wr.heap.size ∧ Hid (FoldRow s w1.heap.size k wr)) (fun i _ => s.size - (intOf i).toNat)
    case atStart => exact ⟨0, Nat.zero_le _, rfl, (one_new _).drew, by simp, FoldRow.start w1 _ _ _ (by simp [bytesRow])⟩
    case round =>
      obtain ⟨k, hk, rfl, hB, hlt, hF⟩ := hrel
      by_cases hks : k < s.size
      · have hki : (k : Int) < (s.size : Int) := by omega
        have hc := (hF.out k hks).1
        have hf := (hF.out k hks).2
        rw [foldAt_ge (by omega)] at hc
        have hb := bt_bd s k
        obtain ⟨b, hbb⟩ : ∃ b, b = bt s k := ⟨_, rfl⟩
        have HB : Hid (b = bt s k) := hbb
        rw [← hbb] at hc hb
        clear hbb kc hL
        by_cases h1 : 65 ≤ b
        · by_cases h2 : b ≤ 90
          · go_wp2
            go_roundw
            case rel =>
              refine ⟨k + 1, by omega, by go_num, hB.setCell (Nat.le_refl _) _, by simpa using hlt, ?_⟩
              have := hF.out.store hks
              rw [← HB.out, foldI_yes h1 h2, show b + 32 = b - 65 + 97 by omega] at this
              exact this
            case measure => simp [intOf]; omega
          · go_wp2
            go_roundw
            case rel => exact ⟨k + 1, by omega, by go_num, hB, hlt, hF.out.stay (by rw [← HB.out]; exact foldI_no (by omega))⟩
            case measure => simp [intOf]; omega
        · go_wp2
          go_roundw
          case rel => exact ⟨k + 1, by omega, by go_num, hB, hlt, hF.out.stay (by rw [← HB.out]; exact foldI_no (by omega))⟩
          case measure => simp [intOf]; omega
      · have hk2 : k = s.size := by omega
        have hcv := conv_back (P := Try.prog) wr 44 9 5 w1.heap.size 0 cap (foldS s) Try.underlying44 Try.underlying5 Try.underlying9 (by have := hF.out; rw [hk2] at this; exact this.back)
        rw [foldS_size] at hcv
        have hb2 := below_after_of hb1 hB
        obtain ⟨hc, hf⟩ := bcell hb2
        clear hk2 kc hL
        go_wp2
        exact bodyPost_ret (v := .agg #[.int .i64 0, .string (foldS s)]) (by simp [results, Try.results15, go_sem, hc]) rfl ⟨rfl, ((below_after hb2).setCell (Nat.le_refl _) _).setCell (Nat.le_refl _) _⟩
  · have h1 : (code != 0) = true := by simpa using h
    rw [if_neg h]
    clear h hsm
    go_enter Try.func15, Try.ntmps15
    go_wp2_with (go_at_call 13; refine (hL _).mono ?_; rintro e w1 ⟨rfl, hb1⟩; obtain ⟨hc, hf⟩ := bcell hb1)
    exact bodyPost_ret (v := .agg #[.int .i64 code, .string ⟨#[]⟩]) (by simp [results, Try.results15, go_sem, hc]) rfl ⟨rfl, ((below_after hb1).setCell (Nat.le_refl _) _).setCell (Nat.le_refl _) _⟩

set_option maxHeartbeats 1000000 in
theorem fnExactFoldLabel_walk (s : ByteArray) (hs : s.size ≤ maxLen) (w : World) :
    Calls Try.prog 5 #[.string s] w fun e w' => e = .returned (.bool true) ∧ Below w.heap.size w w' := by
  by_cases h : s.size ≤ 1048576
  · have hS := fun w => specFoldLabel_any s w h
    have hI := fun w => implFoldLabel_any s w h
    generalize labelP s = code at *
    generalize foldP s = t at *
    go_enter Try.func5, Try.ntmps5
    go_wp2_with fail
    refine (hS _).mono ?_
    rintro e w1 ⟨rfl, hb1⟩
    go_wp2_with fail
    refine (hI _).mono ?_
    rintro e w2 ⟨rfl, hb2⟩
    obtain ⟨hc, hf⟩ := bcell hb2
    have hsz : w1.heap.size < w2.heap.size := by have := hb2.size; simp at this; omega
    have hB : Below w.heap.size w w2 := below_after_of hb1 (below_after hb2)
    clear hb2
    go_wp2_with fail
    refine (eqTextResult_same code t _).mono ?_
    rintro e w3 ⟨rfl, hb3⟩
    go_wp2
    go_ret
    exact ⟨rfl, below_after_of hB (below_after hb3)⟩
  · unfold maxLen at hs
    go_enter Try.func5, Try.ntmps5
    go_wp2
    go_ret
    exact ⟨rfl, Below.refl _ _⟩
end U
end Go.Proofs.Ytblmafpckkggnaa
