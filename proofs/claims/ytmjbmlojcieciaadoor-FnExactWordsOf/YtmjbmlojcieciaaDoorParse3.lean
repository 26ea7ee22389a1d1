/- A text that is cut at blanks: what the model answers. -/
import Derived.Test.YtmjbmlojcieciaaDoorParse2
import Derived.Test.YtmjbmlojcieciaaDoorRof
import Derived.Deep.AppendLies
namespace Go.Proofs.YtmjbmlojcieciaaDoor
open Go.RowKit
namespace U
theorem Tryd.infoS : (Tryd.prog.info? 9).map (fun i => (i.zero, i.size, i.bytes)) = some (some (.string ByteArray.empty), 1, 16) := by kernel_rfl
theorem strs_oneCell (l : List ByteArray) : ∀ u ∈ l.map Value.string, u.oneCell' = true := by
  intro u hu
  rw [List.mem_map] at hu
  obtain ⟨x, _, rfl⟩ := hu
  rfl
theorem none_ownS (w : World) : (w.alloc (.cells #[] 9)).ownsRow w.heap.size 9 1 (.slice (some ⟨w.heap.size, 0, none⟩) 0 0) 0 [] := by
  have := World.ownsRow_lit (base := w.heap.size) (e := 9) (size := 1) w #[] 0 (by simp) (by decide) rfl
  simpa using this
set_option maxRecDepth 100000 in
set_option maxHeartbeats 4000000 in
theorem l3Cut_any (s : ByteArray) (w : World) (hs : s.size ≤ 1048576) :
    Calls Tryd.prog 37 #[.string s, .int .u8 32] w fun e w' => ∃ v', e = .returned v' ∧ w'.ownsRow w.heap.size 9 1 v' (cutB s).length ((cutB s).map Value.string) ∧ Below w.heap.size w w' := by
  obtain ⟨i0, hi, hz0, hz1, hz2⟩ := info_parts Tryd.infoS
  go_enter Tryd.func37, Tryd.ntmps37
  go_wp2
  go_loopw [5, 6, 7] (fun u fr i wr => ∃ (k f : Nat) (done : List ByteArray), k ≤ s.size + 1 ∧ i = .int .i64 k ∧ fr = .int .i64 f ∧ Below w.heap.size w wr ∧ wr.ownsRow w.heap.size 9 1 u done.length (done.map Value.string) ∧ Hid (CutAt s k f done)) (fun _ _ i _ => s.size + 1 - (intOf i).toNat)
  case atStart => exact ⟨0, 0, [], Nat.zero_le _, rfl, rfl, one_new _, none_ownS w, CutAt.start s⟩
  case round =>
    obtain ⟨k, f, done, hk, rfl, rfl, hb, ho, hC⟩ := hrel
    have hsm := hC.out.small
    obtain ⟨ua, uc, rfl⟩ := own_shape ho
    by_cases hkn : k < s.size
    · have hki : (k : Int) < (s.size : Int) := by omega
      have hk1 : (k : Int) ≤ (s.size : Int) := by omega
      have hke : ((k : Int) == (s.size : Int)) = false := by rw [beq_eq_false_iff_ne]; omega
      have hbk : ((s[k]'hkn).toNat : Int) = bt s k := (bt_at s k hkn).symm
      have hfk := (hC.out.go (by omega)).1
      by_cases h32 : bt s k = 32
      · have e32 : (bt s k == 32) = true := by rw [h32]; rfl
        have HC : Hid (CutAt s (k + 1) (k + 1) (done ++ [s.extract f k])) := hC.out.hit hkn h32
        generalize bt s k = x at *
        clear hC h32
        have hf0 : (f : Int) ≤ (k : Int) := by omega
        go_wp2_with (at_builtin; refine wpList_append_own _ rfl _ _ 22 rfl w.heap.size 9 i0 (.string ByteArray.empty) 1 16 Tryd.underlying22 hi hz0 hz1 hz2 rfl (by decide) (.slice ua done.length uc) done.length (done.map Value.string) rfl (ho.alloc _) ⟨wr.heap.size, 0, none⟩ 1 1 [.string (s.extract f k)] rfl rfl (World.news_of_block (heap_alloc_new _ _)) (strs_oneCell [s.extract f k]) (by unfold maxLen; omega) (by omega) (by have := hb.size; simp; omega) ?_)
        intro v' w2 hown' hgrow _
        have hb2 : Below w.heap.size w w2 := (hb.alloc hb.size _).grown hgrow (by have := hb.size; simp; omega) (fun k hk => (ho.lt k hk).1)
        have own2 : w2.ownsRow w.heap.size 9 1 v' (done ++ [s.extract f k]).length ((done ++ [s.extract f k]).map Value.string) := by rw [List.map_append, List.length_append]; exact hown'
        clear hgrow hown' ho
        go_wp2
        go_roundw
        case rel => exact ⟨k + 1, k + 1, done ++ [s.extract f k], by omega, by go_num, by go_num, hb2, own2, HC.out⟩
        case measure => simp [intOf]; omega
      · have e32 : (bt s k == 32) = false := by rw [beq_eq_false_iff_ne]; exact h32
        have HC : Hid (CutAt s (k + 1) f done) := hC.out.pass hkn h32
        generalize bt s k = x at *
        clear hC h32
        go_wp2
        go_roundw
        case rel => exact ⟨k + 1, f, done, by omega, by go_num, rfl, hb, ho, HC.out⟩
        case measure => simp [intOf]; omega
    · by_cases hke : k = s.size
      · subst hke
        have hfk := (hC.out.go (Nat.le_refl _)).1
        have HC : Hid (CutAt s (s.size + 1) (s.size + 1) (done ++ [s.extract f s.size])) := hC.out.last
        clear hC
        have hf0 : (f : Int) ≤ (s.size : Int) := by omega
        go_wp2_with (at_builtin; refine wpList_append_own _ rfl _ _ 22 rfl w.heap.size 9 i0 (.string ByteArray.empty) 1 16 Tryd.underlying22 hi hz0 hz1 hz2 rfl (by decide) (.slice ua done.length uc) done.length (done.map Value.string) rfl (ho.alloc _) ⟨wr.heap.size, 0, none⟩ 1 1 [.string (s.extract f s.size)] rfl rfl (World.news_of_block (heap_alloc_new _ _)) (strs_oneCell [s.extract f s.size]) (by unfold maxLen; omega) (by omega) (by have := hb.size; simp; omega) ?_)
        intro v' w2 hown' hgrow _
        have hb2 : Below w.heap.size w w2 := (hb.alloc hb.size _).grown hgrow (by have := hb.size; simp; omega) (fun k hk => (ho.lt k hk).1)
        have own2 : w2.ownsRow w.heap.size 9 1 v' (done ++ [s.extract f s.size]).length ((done ++ [s.extract f s.size]).map Value.string) := by rw [List.map_append, List.length_append]; exact hown'
        clear hgrow hown' ho
        go_wp2
        go_roundw
        case rel => exact ⟨s.size + 1, s.size + 1, done ++ [s.extract f s.size], by omega, by go_num, by go_num, hb2, own2, HC.out⟩
        case measure => first | (simp [intOf]; done) | (simp [intOf]; omega)
      · have hke2 : k = s.size + 1 := by omega
        have HD : Hid (done = cutB s) := hC.out.fin hke2
        have hk1 : ¬ (k : Int) ≤ (s.size : Int) := by omega
        clear hC hke2
        go_wp2
        go_ret
        rw [← HD.out]
        exact ⟨_, rfl, ho, hb⟩
end U
end Go.Proofs.YtmjbmlojcieciaaDoor
