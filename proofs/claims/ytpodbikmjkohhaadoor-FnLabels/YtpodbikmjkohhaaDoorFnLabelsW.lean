/- The law on labels, walked: true, and nothing that was there has turned. -/
import Derived.Test.YtpodbikmjkohhaaDoorTwice
import Derived.Test.YtpodbikmjkohhaaDoorDraw4
import Derived.Test.YtpodbikmjkohhaaDoorKey
import Derived.Test.YtpodbikmjkohhaaDoorPairs
import Derived.Test.YtpodbikmjkohhaaDoorQuiet
namespace Go.Proofs.YtpodbikmjkohhaaDoor
open Go.RowKit
namespace U
set_option maxHeartbeats 400000 in
theorem lwBig_any (a : Option Addr) (n c : Nat) (w : World) (hn : n ≤ maxLen) :
    Calls Tryd.prog 5 #[.slice a n c] w fun e w' => e = .returned (.bool (decide (1048576 < n))) ∧ w' = w := by
  unfold maxLen at hn
  go_enter Tryd.func5, Tryd.ntmps5
  go_wp2
  go_ret
  exact ⟨ret_bool (by rw [Bool.eq_iff_iff, decide_eq_true_iff, decide_eq_true_iff]; omega), rfl⟩
theorem fld_IR0 (x y : Int) (w : World) : (Instr.field 39 (.agg #[.int .i64 x, .int .i64 y]) 0).run Tryd.prog w = .ok (.int .i64 x) w := by kernel_rfl
theorem fld_IR1 (x y : Int) (w : World) : (Instr.field 39 (.agg #[.int .i64 x, .int .i64 y]) 1).run Tryd.prog w = .ok (.int .i64 y) w := by kernel_rfl
theorem fld_TR1 (x : Int) (s : ByteArray) (w : World) : (Instr.field 31 (.agg #[.int .i64 x, .string s]) 1).run Tryd.prog w = .ok (.string s) w := by kernel_rfl
set_option maxRecDepth 100000 in
set_option maxHeartbeats 4000000 in
theorem fnLabels_small (cv : Value) (cs : List Int) (w : World) (h : Code w cv cs) (hob : cs ≠ [] → ∀ g, cv.ownBlock = some g → g < w.heap.size) (hE : Ends w) :
    Calls Tryd.prog 4 #[cv] w fun e w' => e = .returned (.bool true) ∧ Below w.heap.size w w' := by
  obtain ⟨cva, cvc, rfl⟩ := h.1.shape
  have hbig : decide (1048576 < cs.length) = false := by simp; exact h.2.1
  have hlb := fun w => lwBig_any cva cs.length cvc w (by have := h.2.1; unfold maxLen; omega)
  rw [hbig] at hlb
  obtain ⟨cl, hcl⟩ : ∃ cl, cl = cs.length := ⟨_, rfl⟩
  rw [← hcl] at h hob hlb ⊢
  clear hcl hbig
  go_enter Tryd.func4, Tryd.ntmps4
  go_wp2_with fail
  refine (hlb _).mono ?_
  rintro e w0 ⟨rfl, rfl⟩
  clear hlb
  go_wp2_with fail
  refine (drawFoldLabel_any _ cs _ h hob).mono ?_
  rintro e w1 ⟨s, hs, rfl, hb1⟩
  go_wp2_with fail
  refine (implFoldLabel_any s _ (by omega)).mono ?_
  rintro e w2 ⟨rfl, hb2⟩
  obtain ⟨lc, hlc⟩ : ∃ lc, lc = labelP s := ⟨_, rfl⟩
  obtain ⟨lt, hlt⟩ : ∃ lt, lt = foldP s := ⟨_, rfl⟩
  have HLC : Hid (lc = labelP s) := hlc
  have HLT : Hid (lt = foldP s) := hlt
  rw [← hlc, ← hlt]
  clear hlc hlt
  have hB2 := below_after_of (below_after_of hb1 hb2) (one_new (.cells #[.int .i64 lc, .string lt] 31))
  have P2 := Pair.new w2 (.int .i64 lc) (.string lt) 31
  clear hb1 hb2
  go_wp2_with fail
  refine (drawSizeOf_any _ cs _ (h.below hB2) (fun hz g e => Nat.lt_of_lt_of_le (hob hz g e) hB2.size)).mono ?_
  rintro e w3 ⟨x, rfl, hb3⟩
  have P3 := P2.below hb3
  have hB3 := below_after_of hB2 hb3
  have hE3 := hE.below hB3
  clear P2 hb3 hB2 h hob hE
  have hLI := fun w => implLabelFault_any s w (by omega)
  have hLS := fun w => specLabelFault_any s w (by omega)
  have hSI := fun w hE => implSizeOf_any x w hE
  have hSS := fun w => specSizeOf_any x w
  rw [← HLC.out] at hLI hLS
  generalize szC x = zc at *
  generalize szV x = zv at *
  have hf0 := fld_IR0
  have hf1 := fld_IR1
  have hc0 := After.cell P3.2.1
  have hc1 := After.cell P3.2.2
  have hnn : ∀ i : Int, (i != i) = false := by simp
  have hne := After.ne w3
  go_wp2_with fail
  refine wp_region_after (by kernel_rfl) (by kernel_rfl) ?_
  repeat (first | go_big_quiet_skip | (go_big_quiet_want; go_big_quiet_op; first | go_big_quiet_on | go_big_quiet_call (first
    | (go_at_call 21; refine (hLI _).mono ?_; rintro e wq ⟨rfl, hbq⟩; exact ⟨rfl, after_mk (below_after_of (After.b _) hbq)⟩)
    | (go_at_call 22; refine (hLS _).mono ?_; rintro e wq ⟨rfl, hbq⟩; exact ⟨rfl, after_mk (below_after_of (After.b _) hbq)⟩)
    | (go_at_call 13; refine (hSI _ (hE3.below (After.b _))).mono ?_; rintro e wq ⟨rfl, hbq⟩; exact ⟨rfl, after_mk (below_after_of (After.b _) hbq)⟩)
    | (go_at_call 23; refine (hSS _).mono ?_; rintro e wq ⟨rfl, hbq⟩; exact ⟨rfl, after_mk (below_after_of (After.b _) hbq)⟩))))
  refine wpQuiet_nil ?_
  rintro _ ⟨n6, rfl⟩
  have hb6 := n6.b
  have P6 := P3.below hb6
  have hB6 := below_after_of hB3 hb6
  generalize n6.w = w6 at *
  clear hb6 P3 hc0 hc1 hne hB3 hE3 hSI hSS n6
  have hlcd : lc = 0 ∨ lc = 1 ∨ lc = 2 ∨ lc = 5 := by rw [HLC.out]; exact labelP_codes s
  have hKI := fun w => implKeyOf_any s w (by omega)
  rw [← HLC.out] at hKI
  have hc0 := After.cell P6.2.1
  have hc1 := After.cell P6.2.2
  have p0 := P6.2.1
  have p1 := P6.2.2
  have hne := After.ne w6
  by_cases hl0 : lc = 0
  · subst hl0
    have hl0 : labelP s = 0 := HLC.out.symm
    have hlt : lt = foldS s := by rw [HLT.out]; unfold foldP; rw [if_pos hl0]
    have hts : lt.size = s.size := by rw [hlt, foldS_size]
    have hl2 : labelP lt = 0 := by rw [hlt]; exact label_fold hl0
    have hf2 : foldP lt = lt := by unfold foldP; rw [if_pos hl2, hlt, foldS_twice]
    have hkv : keyV s = keyI s := keyV_ok hl0
    have hk2 : keyV lt = keyI s := by rw [keyV_ok hl2]; unfold keyI; rw [hlt, foldS_twice]
    have hkb := keyI_bd s
    have hLL := fun w => implLabelFault_any lt w (by omega)
    have hFL := fun w => implFoldLabel_any lt w (by omega)
    have hKL := fun w => implKeyOf_any lt w (by omega)
    have hKS := fun w => specKeyOf_any s w (by omega)
    rw [hl2] at hLL hFL hKL
    rw [hf2] at hFL
    rw [hkv] at hKI
    rw [hk2] at hKL
    rw [hl0, hkv] at hKS
    generalize keyI s = kv at *
    have hse : decide ((lt.size : Int) = (s.size : Int)) = true := by simp; omega
    have hll : (lt.toList == lt.toList) = true := by simp
    have hk0 : decide (0 ≤ kv) = true := by simp; omega
    have hk1 : decide (kv < 256) = true := by simp; omega
    have hii : ∀ i : Int, (i == i) = true := by simp
    have hf2 := fld_TR1
    clear hlcd hl0 hlt hl2 hkv hk2 hLI hLS HLC HLT hse hc0 hc1 hne
    go_wp2_with fail
    refine (hKI _).mono ?_
    rintro e w7 ⟨rfl, hb7⟩
    obtain ⟨W7, hW7⟩ : ∃ W7, W7 = w7.alloc (.cells #[.int .i64 0, .int .i64 kv] 39) := ⟨_, rfl⟩
    have hN7 : Below w7.heap.size w7 W7 := by rw [hW7]; exact one_new _
    have P7 := (P6.below hb7).below hN7
    have K7 : Pair W7 w7.heap.size (.int .i64 0) (.int .i64 kv) := by rw [hW7]; exact Pair.new _ _ _ _
    have hB7 := below_after_of (below_after_of hB6 hb7) hN7
    have HW7 : Hid (W7 = w7.alloc (.cells #[.int .i64 0, .int .i64 kv] 39)) := hW7
    have hc0 := After.cell P7.2.1
    have hc1 := After.cell P7.2.2
    have hd0 := After.cell K7.2.1
    have hd1 := After.cell K7.2.2
    have hne := After.ne W7
    clear hW7 hb7 hN7 P6 hB6 p0 p1 hKI
    go_wp2_with fail
    rw [← HW7.out]
    refine wp_region_after (by kernel_rfl) (by kernel_rfl) ?_
    repeat (first | go_big_quiet_skip | (go_big_quiet_want; go_big_quiet_op; first | go_big_quiet_on | go_big_quiet_call (first
    | (go_at_call 21; refine (hLL _).mono ?_; rintro e wq ⟨rfl, hbq⟩; exact ⟨rfl, after_mk (below_after_of (After.b _) hbq)⟩)
    | (go_at_call 19; refine (hFL _).mono ?_; rintro e wq ⟨rfl, hbq⟩; exact ⟨rfl, after_mk (below_after_of (After.b _) hbq)⟩)
    | (go_at_call 24; refine (hKL _).mono ?_; rintro e wq ⟨rfl, hbq⟩; exact ⟨rfl, after_mk (below_after_of (After.b _) hbq)⟩)
    | (go_at_call 25; refine (hKS _).mono ?_; rintro e wq ⟨rfl, hbq⟩; exact ⟨rfl, after_mk (below_after_of (After.b _) hbq)⟩)
      )))
    refine wpQuiet_nil ?_
    rintro _ ⟨n8, rfl⟩
    have hb8 := n8.b
    have hB8 := below_after_of hB7 hb8
    generalize n8.w = w8 at *
    clear hc0 hc1 hd0 hd1 hne n8 hb8 hB7
    go_wp2
    go_ret
    exact ⟨rfl, hB8⟩
  · clear hLI hLS HLC HLT hc1
    rcases hlcd with rfl | rfl | rfl | rfl
    · exact absurd rfl hl0
    all_goals
      clear hl0
      go_wp2_with fail
      refine wp_region_after (by kernel_rfl) (by kernel_rfl) ?_
      repeat (first | go_big_quiet_skip | (go_big_quiet_want; go_big_quiet_op; first | go_big_quiet_on | go_big_quiet_call (first
    | (go_at_call 24; refine (hKI _).mono ?_; rintro e wq ⟨rfl, hbq⟩; exact ⟨rfl, after_mk (below_after_of (After.b _) hbq)⟩)
        )))
      refine wpQuiet_nil ?_
      rintro _ ⟨n8, rfl⟩
      have hb8 := n8.b
      have hB8 := below_after_of hB6 hb8
      generalize n8.w = w8 at *
      clear hc0 hne n8 hb8 hB6
      go_wp2
      go_ret
      exact ⟨rfl, hB8⟩
set_option maxHeartbeats 1000000 in
theorem fnLabels_walk (v : Value) (xs : List Int) (w : World) (hv : Ints .u8 w v xs) (hx : xs.length ≤ maxLen) (hw : ∀ n ∈ xs, (Lit.int .u8 n).wf = true) (hE : Ends w) :
    Calls Tryd.prog 4 #[v] w fun e w' => e = .returned (.bool true) ∧ Below w.heap.size w w' := by
  by_cases h : xs.length ≤ 1048576
  · exact fnLabels_small v xs w ⟨hv, h, hw⟩ (ints_far hv) hE
  · obtain ⟨a, c, rfl⟩ := hv.shape
    have hlb := fun w => lwBig_any a xs.length c w hx
    rw [show decide (1048576 < xs.length) = true by simp; omega] at hlb
    generalize xs.length = n at *
    clear hv hE hw
    go_enter Tryd.func4, Tryd.ntmps4
    go_wp2_with fail
    refine (hlb _).mono ?_
    rintro e w0 ⟨rfl, rfl⟩
    clear hlb
    go_wp2
    go_ret
    exact ⟨rfl, Below.refl _ _⟩
end U
end Go.Proofs.YtpodbikmjkohhaaDoor
