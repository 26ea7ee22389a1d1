/- What both FoldLabel answer. -/
import Derived.Test.YtdbbmclobmigdaaGreatFold
namespace Go.Proofs.YtdbbmclobmigdaaGreat
open Go.RowKit
namespace U
def foldP (s : ByteArray) : ByteArray := if labelP s = 0 then foldS s else ⟨#[]⟩
theorem labelP_small {s : ByteArray} (h : labelP s = 0) : s.size ≤ 12 := by
  unfold labelP at h
  by_cases h0 : s.size = 0
  · omega
  · by_cases h1 : 12 < s.size
    · rw [if_neg h0, if_pos h1] at h; omega
    · omega
set_option maxRecDepth 100000 in
set_option maxHeartbeats 2000000 in
theorem implFoldLabel_any (s : ByteArray) (w : World) (hs : s.size ≤ 1048576) :
    Calls Tryz.prog 91 #[.string s] w fun e w' => e = .returned (.agg #[.int .i64 (labelP s), .string (foldP s)]) ∧ Below w.heap.size w w' := by
  have hL := fun w => implLabelFault_any s w hs
  have hsm := labelP_small (s := s)
  unfold foldP
  generalize labelP s = code at *
  by_cases h : code = 0
  · have h12 := hsm h
    subst h
    clear hsm
    rw [if_pos rfl]
    have kc := fun (w : World) => run_bytes_of_string (P := Tryz.prog) w 9 134 5 s Tryz.underlying9 Tryz.underlying134 Tryz.underlying5
    go_enter Tryz.func91, Tryz.ntmps91
    go_wp2_with (go_at_call 43; refine (hL _).mono ?_; rintro e w1 ⟨rfl, hb1⟩)
    generalize grownCap w1 s.size 0 5 = cap
    go_loopw [17] (fun i wr => ∃ k : Nat, k ≤ s.size ∧ i = .int .i64 k ∧ Below w1.heap.size w1 wr ∧ w1.heap.size < wr.heap.size ∧ Hid (FoldRow s w1.heap.size k wr)) (fun i _ => s.size - (intOf i).toNat)
    case atStart => exact ⟨0, Nat.zero_le _, rfl, (one_new _).drew, by simp, FoldRow.start w1 _ _ _ (by simp [bytesRow])⟩
    case round =>
      obtain ⟨k, hk, rfl, hB, hlt, hF⟩ := hrel
      by_cases hks : k < s.size
      · have hki : (k : Int) < (s.size : Int) := by omega
        have hc := (hF.out k hks).1
        have hf := (hF.out k hks).2
        rw [foldAt_ge (by omega)] at hc
        have hb := bt_bd s k
        obtain ⟨b, hbb⟩ : ∃ b, b = bt s k := ⟨_, rfl⟩
        have HB : Hid (b = bt s k) := hbb
        rw [← hbb] at hc hb
        clear hbb kc hL
        by_cases h1 : 65 ≤ b
        · by_cases h2 : b ≤ 90
          · go_wp2
            go_roundw
            case rel =>
              refine ⟨k + 1, by omega, by go_num, hB.setCell (Nat.le_refl _) _, by simpa using hlt, ?_⟩
              have := hF.out.store hks
              rw [← HB.out, foldI_yes h1 h2, show b + 32 = b - 65 + 97 by omega] at this
              exact this
            case measure => simp [intOf]; omega
          · go_wp2
            go_roundw
            case rel => exact ⟨k + 1, by omega, by go_num, hB, hlt, hF.out.stay (by rw [← HB.out]; exact foldI_no (by omega))⟩
            case measure => simp [intOf]; omega
        · go_wp2
          go_roundw
          case rel => exact ⟨k + 1, by omega, by go_num, hB, hlt, hF.out.stay (by rw [← HB.out]; exact foldI_no (by omega))⟩
          case measure => simp [intOf]; omega
      · have hk2 : k = s.size := by omega
        have hcv := conv_back (P := Tryz.prog) wr 134 9 5 w1.heap.size 0 cap (foldS s) Tryz.underlying134 Tryz.underlying5 Tryz.underlying9 (by have := hF.out; rw [hk2] at this; exact this.back)
        rw [foldS_size] at hcv
        have hb2 := below_after_of hb1 hB
        obtain ⟨hc, hf⟩ := bcell hb2
        clear hk2 kc hL
        go_wp2
        exact bodyPost_ret (v := .agg #[.int .i64 0, .string (foldS s)]) (by simp [results, Tryz.results91, go_sem, hc]) rfl ⟨rfl, ((below_after hb2).setCell (Nat.le_refl _) _).setCell (Nat.le_refl _) _⟩
  · have h1 : (code != 0) = true := by simpa using h
    rw [if_neg h]
    clear h hsm
    go_enter Tryz.func91, Tryz.ntmps91
    go_wp2_with (go_at_call 43; refine (hL _).mono ?_; rintro e w1 ⟨rfl, hb1⟩; obtain ⟨hc, hf⟩ := bcell hb1)
    exact bodyPost_ret (v := .agg #[.int .i64 code, .string ⟨#[]⟩]) (by simp [results, Tryz.results91, go_sem, hc]) rfl ⟨rfl, ((below_after hb1).setCell (Nat.le_refl _) _).setCell (Nat.le_refl _) _⟩

end U
end Go.Proofs.YtdbbmclobmigdaaGreat
