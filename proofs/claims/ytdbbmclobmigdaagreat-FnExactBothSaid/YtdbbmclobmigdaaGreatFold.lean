/- A text of which the letters A to Z are turned: its bytes; and the way from a text to its bytes and back. -/
import Derived.Test.YtdbbmclobmigdaaGreatLab
import Derived.Test.YtdbbmclobmigdaaGreatFold0
namespace Go.Proofs.YtdbbmclobmigdaaGreat
open Go.RowKit
namespace U
def foldI (b : Int) : Int := if 65 ≤ b ∧ b ≤ 90 then b + 32 else b
def foldS (s : ByteArray) : ByteArray := ⟨s.data.map (fun b => UInt8.ofNat (foldI b.toNat).toNat)⟩
theorem foldI_bd {b : Int} (h0 : 0 ≤ b) (h1 : b ≤ 255) : 0 ≤ foldI b ∧ foldI b ≤ 255 := by unfold foldI; split <;> omega
theorem foldS_size (s : ByteArray) : (foldS s).size = s.size := by show (s.data.map _).size = s.data.size; simp
theorem bt_foldS (s : ByteArray) (j : Nat) (h : j < s.size) : bt (foldS s) j = foldI (bt s j) := by
  have hb := bt_bd s j
  rw [bt_list]
  rw [bt_list] at hb ⊢
  have hl : j < s.data.toList.length := by rw [← Lib.size_eq]; exact h
  have e : (foldS s).data.toList.getD j 0 = UInt8.ofNat (foldI ((s.data.toList.getD j 0).toNat)).toNat := by
    simp only [foldS, Array.toList_map, List.getD_eq_getElem?_getD, List.getElem?_map, List.getElem?_eq_getElem hl, Option.map_some, Option.getD_some]
  rw [e]
  have hb2 := foldI_bd hb.1 hb.2
  rw [UInt8.toNat_ofNat']
  omega
/-- Turned below a place, as it was from there on: what a loop over the bytes holds. -/
def foldAt (s : ByteArray) (k j : Nat) : Int := if j < k then foldI (bt s j) else bt s j
def FoldRow (s : ByteArray) (g k : Nat) (w : World) : Prop := ∀ j, j < s.size → w.cell? ⟨g, j, none⟩ = some (.int .u8 (foldAt s k j)) ∧ w.frozen? ⟨g, j, none⟩ = false
theorem foldAt_lt {s : ByteArray} {k j : Nat} (h : j < k) : foldAt s k j = foldI (bt s j) := by simp [foldAt, h]
theorem foldAt_ge {s : ByteArray} {k j : Nat} (h : ¬ j < k) : foldAt s k j = bt s j := by simp [foldAt, h]
theorem FoldRow.stay {s : ByteArray} {g k : Nat} {w : World} (h : FoldRow s g k w) (he : foldI (bt s k) = bt s k) : FoldRow s g (k + 1) w := by
  intro j hj
  refine ⟨(h j hj).1.trans ?_, (h j hj).2⟩
  by_cases e : j = k
  · subst e; rw [foldAt_ge (by omega), foldAt_lt (by omega), he]
  · by_cases e2 : j < k
    · rw [foldAt_lt e2, foldAt_lt (by omega)]
    · rw [foldAt_ge e2, foldAt_ge (by omega)]
theorem FoldRow.store {s : ByteArray} {g k : Nat} {w : World} (h : FoldRow s g k w) (hk : k < s.size) : FoldRow s g (k + 1) (w.setCell ⟨g, k, none⟩ (.int .u8 (foldI (bt s k)))) := by
  intro j hj
  by_cases e : j = k
  · subst e
    refine ⟨?_, ?_⟩
    · rw [foldAt_lt (by omega)]; exact World.cell?_setCell_same _ _ _ (h j hj).1
    · rw [World.frozen?_setCell]; exact (h j hj).2
  · have hne : (⟨g, k, none⟩ : Addr) ≠ ⟨g, j, none⟩ := by intro e2; cases e2; exact e rfl
    refine ⟨?_, ?_⟩
    · rw [World.cell?_setCell_other _ _ _ _ hne, (h j hj).1]
      by_cases e2 : j < k
      · rw [foldAt_lt e2, foldAt_lt (by omega)]
      · rw [foldAt_ge e2, foldAt_ge (by omega)]
    · rw [World.frozen?_setCell]; exact (h j hj).2
theorem foldI_no {b : Int} (h : b < 65 ∨ 90 < b) : foldI b = b := by unfold foldI; rw [if_neg (by omega)]
theorem foldI_yes {b : Int} (h1 : 65 ≤ b) (h2 : b ≤ 90) : foldI b = b + 32 := by unfold foldI; rw [if_pos ⟨h1, h2⟩]
theorem FoldRow.back {s : ByteArray} {g : Nat} {w : World} (h : FoldRow s g s.size w) : ∀ j, j < (foldS s).size → w.cell? ⟨g, 0 + j, none⟩ = some (.int .u8 (bt (foldS s) j)) := by
  intro j hj
  rw [foldS_size] at hj
  rw [Nat.zero_add, (h j hj).1, foldAt_lt hj, bt_foldS s j hj]
theorem FoldRow.start {s : ByteArray} (w : World) (e : TypeId) (cap : Nat) (fz : Nat × Nat) (hfz : s.size ≤ fz.1) : FoldRow s w.heap.size 0 (w.alloc (.cells (bytesRow s cap) e fz)) := by
  intro j hj
  rw [foldAt_ge (by omega)]
  exact bytes_row w e s cap fz hfz j hj

set_option maxRecDepth 100000 in
set_option maxHeartbeats 1000000 in
theorem l1Fold_any (s : ByteArray) (w : World) (hs : s.size ≤ 12) :
    Calls Tryz.prog 38 #[.string s] w fun e w' => e = .returned (.string (foldS s)) ∧ Below w.heap.size w w' := by
  have kc := fun (w : World) => run_bytes_of_string (P := Tryz.prog) w 9 134 5 s Tryz.underlying9 Tryz.underlying134 Tryz.underlying5
  go_enter Tryz.func38, Tryz.ntmps38
  go_wp2
  generalize grownCap w s.size 0 5 = cap
  go_loopw [4] (fun i wr => ∃ k : Nat, k ≤ s.size ∧ i = .int .i64 k ∧ Below w.heap.size w wr ∧ w.heap.size < wr.heap.size ∧ Hid (FoldRow s w.heap.size k wr)) (fun i _ => s.size - (intOf i).toNat)
  case atStart => exact ⟨0, Nat.zero_le _, rfl, (one_new _).drew, by simp, FoldRow.start w _ _ _ (by simp [bytesRow])⟩
  case round =>
    obtain ⟨k, hk, rfl, hB, hlt, hF⟩ := hrel
    by_cases hks : k < s.size
    · have hki : (k : Int) < (s.size : Int) := by omega
      have hc := (hF.out k hks).1
      have hf := (hF.out k hks).2
      rw [foldAt_ge (by omega)] at hc
      have hb := bt_bd s k
      obtain ⟨b, hbb⟩ : ∃ b, b = bt s k := ⟨_, rfl⟩
      have HB : Hid (b = bt s k) := hbb
      rw [← hbb] at hc hb
      clear hbb kc
      by_cases h1 : 65 ≤ b
      · by_cases h2 : b ≤ 90
        · go_wp2
          go_roundw
          case rel =>
            refine ⟨k + 1, by omega, by go_num, hB.setCell (Nat.le_refl _) _, by simpa using hlt, ?_⟩
            have := hF.out.store hks
            rw [← HB.out, foldI_yes h1 h2] at this
            exact this
          case measure => simp [intOf]; omega
        · go_wp2
          go_roundw
          case rel => exact ⟨k + 1, by omega, by go_num, hB, hlt, hF.out.stay (by rw [← HB.out]; exact foldI_no (by omega))⟩
          case measure => simp [intOf]; omega
      · go_wp2
        go_roundw
        case rel => exact ⟨k + 1, by omega, by go_num, hB, hlt, hF.out.stay (by rw [← HB.out]; exact foldI_no (by omega))⟩
        case measure => simp [intOf]; omega
    · have hk2 : k = s.size := by omega
      have hcv := conv_back (P := Tryz.prog) wr 134 9 5 w.heap.size 0 cap (foldS s) Tryz.underlying134 Tryz.underlying5 Tryz.underlying9 (by have := hF.out; rw [hk2] at this; exact this.back)
      rw [foldS_size] at hcv
      clear hk2 kc
      go_wp2
      go_ret
      exact ⟨rfl, hB⟩
end U
end Go.Proofs.YtdbbmclobmigdaaGreat
