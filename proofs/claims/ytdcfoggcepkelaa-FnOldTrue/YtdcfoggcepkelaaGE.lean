/- Joined: what the texts behind it need. -/
import Derived.Test.YtdcfoggcepkelaaGB
import Derived.Test.YtdcfoggcepkelaaGA
import Derived.Test.YtdcfoggcepkelaaGC
import Derived.ScopeJumps
import Derived.WalkMore
import Derived.Test.YtdcfoggcepkelaaGD
/- What is summed for a leaf, by the program and by the model. -/
namespace Go.Proofs.Ytdcfoggcepkelaa
open Go.RowKit
namespace U
/-- Whether a leaf is asked as it may be; its bytes. -/
def askd (k : Int) (b : Bool) (v : Int) : Bool := inB k 0 255 && (if b = true then sumB v else decide (v = 0))
def leafL (k : Int) (b : Bool) (v : Int) : List Int := if b = true then tagL 3 [k, v] else []
def lbC (k : Int) (b : Bool) (v : Int) : Int := if askd k b v = true then 0 else 3
def lbL (k : Int) (b : Bool) (v : Int) : List Int := if askd k b v = true then leafL k b v else []
theorem lb_no {k v : Int} {b : Bool} (h : askd k b v = false) : lbC k b v = 3 ∧ lbL k b v = [] := by simp [lbC, lbL, h]
theorem lb_ok {k v : Int} {b : Bool} (h : askd k b v = true) : lbC k b v = 0 ∧ lbL k b v = leafL k b v := by simp [lbC, lbL, h]
theorem lb_nokey {k v : Int} {b : Bool} (h : inB k 0 255 = false) : askd k b v = false := by simp [askd, h]
theorem lb_there {k v : Int} (h : inB k 0 255 = true) : askd k true v = sumB v := by simp [askd, h]
theorem lb_none {k v : Int} (h : inB k 0 255 = true) : askd k false v = decide (v = 0) := by simp [askd, h]
theorem askd_key {k v : Int} {b : Bool} (h : askd k b v = true) : 0 ≤ k ∧ k ≤ 255 := by
  unfold askd at h
  rw [Bool.and_eq_true] at h
  exact inB_bd h.1
theorem leaf_two {k v : Int} (hk : 0 ≤ k ∧ k ≤ 255) (hv : sumB v = true) : tgC 3 [k, v] = 0 ∧ tgL 3 [k, v] = tagL 3 [k, v] := by
  have hv' := (sumB_iff v).1 hv
  have h3 : [k, v].all sumB = true := by
    have : sumB k = true := (sumB_iff k).2 (by omega)
    simp [this, hv]
  exact tg_ok (by decide) (by simp) h3
theorem leafL_len (k : Int) (b : Bool) (v : Int) : (leafL k b v).length ≤ 5 := by
  unfold leafL
  split
  · rw [tagL_len]; simp
  · simp
theorem leafL_bts {k v : Int} {b : Bool} (h : askd k b v = true) : Bts (leafL k b v) := by
  unfold leafL
  split
  · rename_i hb
    subst hb
    have hk := askd_key h
    have hv : sumB v = true := by
      unfold askd at h
      rw [Bool.and_eq_true] at h
      simpa using h.2
    have hv' := (sumB_iff v).1 hv
    refine tagL_bts (by omega) ?_
    have : sumB k = true := (sumB_iff k).2 (by omega)
    simp [this, hv]
  · intro b hb; cases hb
theorem lbL_len (k : Int) (b : Bool) (v : Int) : (lbL k b v).length ≤ 5 := by
  unfold lbL
  split
  · exact leafL_len k b v
  · simp
set_option maxRecDepth 100000 in
set_option maxHeartbeats 1000000 in
theorem implLeafBytes_any (k : Int) (b : Bool) (v : Int) (w : World) :
    Calls Try.prog 42 #[.int .i64 k, .bool b, .int .i64 v] w fun e w' => BytesAns w (lbC k b v) (lbL k b v) e w' := by
  have HK := fun w => isKey_any k w
  have HV := fun w => isSum_any v w
  rcases Bool.eq_false_or_eq_true (inB k 0 255) with hk | hk
  · rw [hk] at HK
    cases b
    · by_cases h0 : v = 0
      · have e := lb_ok (k := k) (b := false) (v := v) (by rw [lb_none hk]; simp [h0])
        rw [e.1, e.2]
        subst h0
        clear e HV
        go_enter Try.func42, Try.ntmps42
        go_wp2_with fail
        refine (HK _).mono ?_
        rintro e w1 ⟨rfl, rfl⟩
        clear HK
        go_wp2
        exact bodyPost_ret (v := .agg #[.int .i64 0, .slice none 0 0]) (by simp [results, Try.results42, go_sem]) rfl ⟨one_new _, _, rfl, World.ownsRow_nil _ _ _ _⟩
      · have e := lb_no (k := k) (b := false) (v := v) (by rw [lb_none hk]; simp [h0])
        rw [e.1, e.2]
        clear e HV
        go_enter Try.func42, Try.ntmps42
        go_wp2_with fail
        refine (HK _).mono ?_
        rintro e w1 ⟨rfl, rfl⟩
        clear HK
        go_wp2
        exact bodyPost_ret (v := .agg #[.int .i64 3, .slice none 0 0]) (by simp [results, Try.results42, go_sem]) rfl ⟨one_new _, _, rfl, World.ownsRow_nil _ _ _ _⟩
    · rcases Bool.eq_false_or_eq_true (sumB v) with hs | hs
      · rw [hs] at HV
        have e := lb_ok (k := k) (b := true) (v := v) (by rw [lb_there hk]; exact hs)
        have e2 := leaf_two (inB_bd hk) hs
        have hT := fun (w : World) u hv => implTagBytes_any 3 u [k, v] w hv (by simp)
        rw [e2.1, e2.2] at hT
        have HE : Hid (leafL k true v = tagL 3 [k, v]) := rfl
        rw [e.1, e.2]
        generalize leafL k true v = zs at *
        generalize tagL 3 [k, v] = ys at *
        clear e e2
        go_enter Try.func42, Try.ntmps42
        go_wp2_with fail
        refine (HK _).mono ?_
        rintro e w1 ⟨rfl, rfl⟩
        clear HK
        go_wp2_with fail
        refine (HV _).mono ?_
        rintro e w1 ⟨rfl, rfl⟩
        clear HV
        go_wp2_with fail
        refine (hT _ _ (two_ints_at (by simp))).mono ?_
        intro e w1 h1
        obtain ⟨a', c', rfl, hb1, ho1⟩ := h1.use
        have hb0 := below_after_of (one_new (.cells #[.int .i64 k, .int .i64 v] 2)) hb1
        obtain ⟨hc0, hc1, hf0, hf1⟩ := two_cells ((hb0.block w.heap.size (by simp)).trans (heap_alloc_new w _))
        have hB1 : Below w.heap.size w w1 := below_after hb0
        have HO : Hid (w1.ownsRow (w.heap.size + 1) 5 1 (.slice a' ys.length c') ys.length (ys.map (Value.int .u8))) := by show World.ownsRow _ _ _ _ _ _ _; exact own_mono ho1 (by simp)
        clear ho1 hb1 hT hb0
        go_wp2
        exact bodyPost_ret (v := .agg #[.int .i64 0, .slice a' ys.length c']) (by simp [results, Try.results42, go_sem, hc0, hc1]) rfl (by rw [HE.out]; exact ⟨(hB1.setCell (Nat.le_refl _) _).setCell (Nat.le_refl _) _, _, rfl, own_mono (ownsRow_setCell_below (ownsRow_setCell_below HO.out (by simp) _) (by simp) _) (by omega)⟩)
      · rw [hs] at HV
        have e := lb_no (k := k) (b := true) (v := v) (by rw [lb_there hk]; exact hs)
        rw [e.1, e.2]
        clear e
        go_enter Try.func42, Try.ntmps42
        go_wp2_with fail
        refine (HK _).mono ?_
        rintro e w1 ⟨rfl, rfl⟩
        clear HK
        go_wp2_with fail
        refine (HV _).mono ?_
        rintro e w1 ⟨rfl, rfl⟩
        clear HV
        go_wp2
        exact bodyPost_ret (v := .agg #[.int .i64 3, .slice none 0 0]) (by simp [results, Try.results42, go_sem]) rfl ⟨one_new _, _, rfl, World.ownsRow_nil _ _ _ _⟩
  · have e := lb_no (k := k) (b := b) (v := v) (lb_nokey hk)
    rw [e.1, e.2]
    rw [hk] at HK
    clear e HV
    go_enter Try.func42, Try.ntmps42
    go_wp2_with fail
    refine (HK _).mono ?_
    rintro e w1 ⟨rfl, rfl⟩
    clear HK
    go_wp2
    exact bodyPost_ret (v := .agg #[.int .i64 3, .slice none 0 0]) (by simp [results, Try.results42, go_sem]) rfl ⟨one_new _, _, rfl, World.ownsRow_nil _ _ _ _⟩
set_option maxRecDepth 100000 in
set_option maxHeartbeats 1000000 in
theorem l5Asked_any (k : Int) (b : Bool) (v : Int) (w : World) :
    Calls Try.prog 84 #[.int .i64 k, .bool b, .int .i64 v] w fun e w' => e = .returned (.bool (askd k b v)) ∧ w' = w := by
  have HK := fun w => l4Key_any k w
  have HV := fun w => l2Is4 v w
  rcases Bool.eq_false_or_eq_true (inB k 0 255) with hk | hk
  · rw [hk] at HK
    cases b
    · rw [lb_none hk]
      go_enter Try.func84, Try.ntmps84
      go_wp2_with fail
      refine (HK _).mono ?_
      rintro e w1 ⟨rfl, rfl⟩
      clear HK HV
      go_wp2
      go_ret
      exact ⟨ret_bool (by first | rfl | simp), rfl⟩
    · rw [lb_there hk]
      generalize sumB v = s at *
      cases s
      · go_enter Try.func84, Try.ntmps84
        go_wp2_with fail
        refine (HK _).mono ?_
        rintro e w1 ⟨rfl, rfl⟩
        clear HK
        go_wp2_with fail
        refine (HV _).mono ?_
        rintro e w1 ⟨rfl, rfl⟩
        clear HV
        go_wp2
        go_ret
        exact ⟨rfl, rfl⟩
      · go_enter Try.func84, Try.ntmps84
        go_wp2_with fail
        refine (HK _).mono ?_
        rintro e w1 ⟨rfl, rfl⟩
        clear HK
        go_wp2_with fail
        refine (HV _).mono ?_
        rintro e w1 ⟨rfl, rfl⟩
        clear HV
        go_wp2
        go_ret
        exact ⟨rfl, rfl⟩
  · rw [lb_nokey hk]
    rw [hk] at HK
    clear HV
    go_enter Try.func84, Try.ntmps84
    go_wp2_with fail
    refine (HK _).mono ?_
    rintro e w1 ⟨rfl, rfl⟩
    clear HK
    go_wp2
    go_ret
    exact ⟨rfl, rfl⟩
set_option maxRecDepth 100000 in
set_option maxHeartbeats 1000000 in
theorem l5Leaf_any (k : Int) (b : Bool) (v : Int) (w : World) (h : askd k b v = true) :
    Calls Try.prog 87 #[.int .i64 k, .bool b, .int .i64 v] w fun e w' => ∃ v', e = .returned v' ∧ w'.ownsRow w.heap.size 5 1 v' (leafL k b v).length ((leafL k b v).map (Value.int .u8)) ∧ Below w.heap.size w w' := by
  have hk := askd_key h
  cases b
  · have e0 : leafL k false v = [] := rfl
    rw [e0]
    clear h hk e0
    go_enter Try.func87, Try.ntmps87
    go_wp2
    go_ret
    exact ⟨_, rfl, World.ownsRow_made w #[] 0 (Nat.le_refl _) (by decide) rfl, one_new _⟩
  · have hs : sumB v = true := by rw [← lb_there (inB_t hk.1 hk.2)]; exact h
    have hs' := (sumB_iff v).1 hs
    have e0 : leafL k true v = tagL 3 [k, v] := rfl
    have h3 : [k, v].all sumB = true := by
      have : sumB k = true := (sumB_iff k).2 (by omega)
      simp [this, hs]
    have hB := fun w u h => l2Bytes_any 3 u [k, v] w h (by simp) (by omega) h3
    rw [e0]
    generalize tagL 3 [k, v] = ys at *
    clear h hk hs hs' e0 h3
    go_enter Try.func87, Try.ntmps87
    go_wp2_with fail
    refine (hB _ _ (two_ints _ _ _ _)).mono ?_
    rintro e w1 ⟨v', rfl, own1, hb1⟩
    obtain ⟨a', c', rfl⟩ := own_shape own1
    have HO : w1.ownsRow w.heap.size 5 1 (.slice a' ys.length c') ys.length (ys.map (Value.int .u8)) := own_mono own1 (by simp)
    have hB1 := below_after hb1
    clear hB own1 hb1
    go_wp2
    go_ret
    exact ⟨_, rfl, HO, hB1⟩
set_option maxRecDepth 100000 in
set_option maxHeartbeats 1000000 in
theorem specLeafBytes_any (k : Int) (b : Bool) (v : Int) (w : World) :
    Calls Try.prog 43 #[.int .i64 k, .bool b, .int .i64 v] w fun e w' => BytesAns w (lbC k b v) (lbL k b v) e w' := by
  have HA := fun w => l5Asked_any k b v w
  rcases Bool.eq_false_or_eq_true (askd k b v) with h | h
  · have HL := fun w => l5Leaf_any k b v w h
    rw [(lb_ok h).1, (lb_ok h).2]
    rw [h] at HA
    generalize leafL k b v = ys at *
    clear h
    go_enter Try.func43, Try.ntmps43
    go_wp2_with fail
    refine (HA _).mono ?_
    rintro e w1 ⟨rfl, rfl⟩
    clear HA
    go_wp2_with fail
    refine (HL _).mono ?_
    rintro e w1 ⟨v', rfl, ho1, hb1⟩
    obtain ⟨a', c', rfl⟩ := own_shape ho1
    obtain ⟨hc0, hc1, hf0, hf1⟩ := two_cells ((hb1.block w.heap.size (by simp)).trans (heap_alloc_new w _))
    have hB1 : Below w.heap.size w w1 := below_after hb1
    have HO : Hid (w1.ownsRow (w.heap.size + 1) 5 1 (.slice a' ys.length c') ys.length (ys.map (Value.int .u8))) := by show World.ownsRow _ _ _ _ _ _ _; simpa using ho1
    clear ho1 hb1 HL
    go_wp2
    exact bodyPost_ret (v := .agg #[.int .i64 0, .slice a' ys.length c']) (by simp [results, Try.results43, go_sem, hc0, hc1]) rfl ⟨(hB1.setCell (Nat.le_refl _) _).setCell (Nat.le_refl _) _, _, rfl, own_mono (ownsRow_setCell_below (ownsRow_setCell_below HO.out (by simp) _) (by simp) _) (by omega)⟩
  · rw [(lb_no h).1, (lb_no h).2]
    rw [h] at HA
    clear h
    go_enter Try.func43, Try.ntmps43
    go_wp2_with fail
    refine (HA _).mono ?_
    rintro e w1 ⟨rfl, rfl⟩
    clear HA
    go_wp2
    exact bodyPost_ret (v := .agg #[.int .i64 3, .slice none 0 0]) (by simp [results, Try.results43, go_sem]) rfl ⟨one_new _, _, rfl, World.ownsRow_nil _ _ _ _⟩
end U
end Go.Proofs.Ytdcfoggcepkelaa

/- Two sums as one complex number, by the program. -/
namespace Go.Proofs.Ytdcfoggcepkelaa
open Go.RowKit
namespace U
/-- Two sums, as one number. -/
def cx (a b : Int) : Value := .complex .f64 (floatOfInt .f64 a) (floatOfInt .f64 b)
theorem fl_int {a : Int} (h : 0 ≤ a ∧ a ≤ 65520) : floatToIntVal .f64 (floatOfInt .f64 a) .i64 = some a := by
  obtain ⟨n, rfl⟩ : ∃ n : Nat, a = n := ⟨a.toNat, by omega⟩
  exact fl_back n (by omega)
set_option maxRecDepth 100000 in
theorem bothSides_even (q s o : Int) (w : World) (hq : 0 ≤ q) (h : q % 2 = 0) :
    Calls Try.prog 112 #[.int .i64 q, .int .i64 s, .int .i64 o] w fun e w' => e = .returned (cx s o) ∧ w' = w := by
  have ht : Int.tmod q 2 = 0 := by rw [Int.tmod_eq_emod_of_nonneg hq]; exact h
  go_enter Try.func112, Try.ntmps112
  go_wp2
  go_ret
  exact ⟨rfl, rfl⟩
set_option maxRecDepth 100000 in
theorem bothSides_odd (q s o : Int) (w : World) (hq : 0 ≤ q) (h : ¬ q % 2 = 0) :
    Calls Try.prog 112 #[.int .i64 q, .int .i64 s, .int .i64 o] w fun e w' => e = .returned (cx o s) ∧ w' = w := by
  have ht : ¬ Int.tmod q 2 = 0 := by rw [Int.tmod_eq_emod_of_nonneg hq]; exact h
  go_enter Try.func112, Try.ntmps112
  go_wp2
  go_ret
  exact ⟨rfl, rfl⟩
/-- The number, taken apart again. -/
theorem conv_fl {a : Int} (h : 0 ≤ a ∧ a ≤ 65520) (w : World) : (convert 148 2 (.float .f64 (floatOfInt .f64 a))).run Try.prog w = .ok (.int .i64 a) w :=
  run_convert_float_int w 148 2 .f64 .i64 _ a (by rw [Try.underlying148]; rfl) Try.underlying2 (fl_int h)
set_option maxRecDepth 100000 in
theorem nodeSum_any (a b : Int) (w : World) (ha : 0 ≤ a ∧ a ≤ 65520) (hb : 0 ≤ b ∧ b ≤ 65520) :
    Calls Try.prog 113 #[cx a b] w fun e w' => e = .returned (.int .i64 (t2 a b)) ∧ Below w.heap.size w w' := by
  have hP := fun w => pairSum_any a b w ha hb
  have c1 := fun w => conv_fl ha w
  have c2 := fun w => conv_fl hb w
  unfold cx
  generalize floatOfInt .f64 a = fa at *
  generalize floatOfInt .f64 b = fb at *
  generalize t2 a b = s at *
  go_enter Try.func113, Try.ntmps113
  go_wp2_with fail
  refine (hP _).mono ?_
  rintro e w1 ⟨rfl, hb1⟩
  clear hP c1 c2
  go_wp2
  go_ret
  exact ⟨rfl, hb1⟩
theorem field_BR1 (c : Int) (a : Option Addr) (n k : Nat) (w : World) : (Instr.field 37 (.agg #[.int .i64 c, .slice a n k]) 1).run Try.prog w = .ok (.slice a n k) w := by kernel_rfl
set_option maxRecDepth 100000 in
theorem nodeBytes_any (a b : Int) (w : World) (ha : 0 ≤ a ∧ a ≤ 65520) (hb : 0 ≤ b ∧ b ≤ 65520) :
    Calls Try.prog 95 #[cx a b] w fun e w' => ∃ v', e = .returned v' ∧ w'.ownsRow w.heap.size 5 1 v' (tagL 2 [a, b]).length ((tagL 2 [a, b]).map (Value.int .u8)) ∧ Below w.heap.size w w' := by
  have hT := fun (w : World) u hv => implTagBytes_any 2 u [a, b] w hv (by simp)
  have c1 := fun w => conv_fl ha w
  have c2 := fun w => conv_fl hb w
  have e2 : tgC 2 [a, b] = 0 ∧ tgL 2 [a, b] = tagL 2 [a, b] := tg_ok (by decide) (by simp) (by simp [sumB_iff, ha, hb])
  rw [e2.1, e2.2] at hT
  clear e2
  unfold cx
  generalize floatOfInt .f64 a = fa at *
  generalize floatOfInt .f64 b = fb at *
  generalize tagL 2 [a, b] = ys at *
  go_enter Try.func95, Try.ntmps95
  go_wp2_with fail
  refine (hT _ _ (two_ints_at (by simp))).mono ?_
  intro e w1 h1
  obtain ⟨a', c', rfl, hb1, ho1⟩ := h1.use
  have HO : w1.ownsRow w.heap.size 5 1 (.slice a' ys.length c') ys.length (ys.map (Value.int .u8)) := own_mono ho1 (by simp)
  have hB1 := below_after hb1
  have kf := fun w => field_BR1 0 a' ys.length c' w
  clear h1 hT c1 c2 ho1 hb1
  go_wp2
  go_ret
  exact ⟨_, rfl, HO, hB1⟩
end U
end Go.Proofs.Ytdcfoggcepkelaa

/- Climbing from a leaf, by mathematics alone. -/
namespace Go.Proofs.Ytdcfoggcepkelaa
open Go.RowKit
namespace U
/-- The sum at a level, and the two sums below the next one. -/
def clm (x s : Int) (p : List Int) : Nat → Int
  | 0 => s
  | n + 1 => if x / (2 ^ n : Nat) % 2 = 0 then t2 (clm x s p n) (p.getD n 0) else t2 (p.getD n 0) (clm x s p n)
def sdL (x s : Int) (p : List Int) (n : Nat) : Int := if x / (2 ^ n : Nat) % 2 = 0 then clm x s p n else p.getD n 0
def sdR (x s : Int) (p : List Int) (n : Nat) : Int := if x / (2 ^ n : Nat) % 2 = 0 then p.getD n 0 else clm x s p n
theorem clm_zero (x s : Int) (p : List Int) : clm x s p 0 = s := rfl
theorem clm_succ (x s : Int) (p : List Int) (n : Nat) : clm x s p (n + 1) = t2 (sdL x s p n) (sdR x s p n) := by
  unfold sdL sdR
  rw [clm]
  split <;> rfl
theorem clm_even {x s : Int} {p : List Int} {n : Nat} (h : x / (2 ^ n : Nat) % 2 = 0) : clm x s p (n + 1) = t2 (clm x s p n) (p.getD n 0) := by rw [clm, if_pos h]
theorem clm_odd {x s : Int} {p : List Int} {n : Nat} (h : ¬ x / (2 ^ n : Nat) % 2 = 0) : clm x s p (n + 1) = t2 (p.getD n 0) (clm x s p n) := by rw [clm, if_neg h]
theorem clm_bd {x s : Int} {p : List Int} (h : 0 ≤ s ∧ s ≤ 65520) (n : Nat) : 0 ≤ clm x s p n ∧ clm x s p n ≤ 65520 := by
  cases n with
  | zero => exact h
  | succ n => rw [clm_succ]; exact t2_bd _ _
theorem path_at {p : List Int} (h : p.all sumB = true) (n : Nat) : 0 ≤ p.getD n 0 ∧ p.getD n 0 ≤ 65520 := by
  by_cases hn : n < p.length
  · rw [getD_eq hn]
    exact (sumB_iff _).1 (List.all_eq_true.1 h _ (List.getElem_mem hn))
  · rw [List.getD_eq_getElem?_getD, List.getElem?_eq_none (by omega)]; simp
theorem sd_bd {x s : Int} {p : List Int} (h : 0 ≤ s ∧ s ≤ 65520) (hp : p.all sumB = true) (n : Nat) : (0 ≤ sdL x s p n ∧ sdL x s p n ≤ 65520) ∧ 0 ≤ sdR x s p n ∧ sdR x s p n ≤ 65520 := by
  unfold sdL sdR
  have h1 := clm_bd (x := x) (p := p) h n
  have h2 := path_at hp n
  split
  · exact ⟨h1, h2⟩
  · exact ⟨h2, h1⟩
theorem clm_take {x s : Int} {p : List Int} {i : Nat} : ∀ n, n ≤ i → clm x s (p.take i) n = clm x s p n := by
  intro n
  induction n with
  | zero => intro _; rfl
  | succ n ih =>
    intro h
    have e : (p.take i).getD n 0 = p.getD n 0 := by
      rw [List.getD_eq_getElem?_getD, List.getD_eq_getElem?_getD, List.getElem?_take, if_pos (by omega)]
    rw [clm, clm, ih (by omega), e]
/-- A part is the sum above its two halves, whether it has a slot or not. -/
theorem nd_both (l : Prl) (n : Nat) (q : Int) : nd l (n + 1) q = t2 (nd l n (2 * q)) (nd l n (2 * q + 1)) := by
  rw [nd_succ]
  split
  · rfl
  · rename_i h
    rw [has_succ] at h
    rw [nd_none (fun e => h (Or.inl e)), nd_none (fun e => h (Or.inr e))]
    rfl
theorem pth_at (l : Prl) (x : Int) : ∀ (m n : Nat), n < m → (pth l x m).getD n 0 = nd l n (sib x n) := by
  intro m
  induction m with
  | zero => intro n h; omega
  | succ m ih =>
    intro n h
    rw [pth]
    by_cases hn : n < m
    · rw [← ih n hn, List.getD_eq_getElem?_getD, List.getD_eq_getElem?_getD, List.getElem?_append_left (by rw [pth_len]; exact hn)]
    · have : n = m := by omega
      subst this
      rw [List.getD_eq_getElem?_getD, List.getElem?_append_right (by rw [pth_len]; exact Nat.le_refl _), pth_len]
      simp
/-- Of a tree as it is, climbing is the sum of the part. -/
theorem clm_honest (l : Prl) (x : Int) {s : Int} (hs : s = nd l 0 x) : ∀ n, n ≤ 8 → clm x s (pth l x 8) n = nd l n (x / (2 ^ n : Nat)) := by
  intro n
  induction n with
  | zero => intro _; rw [clm_zero, hs]; simp
  | succ n ih =>
    intro h
    have e1 := pth_at l x 8 n (by omega)
    have e2 := ih (by omega)
    have hd := div_succ x n
    generalize hq : x / (2 ^ n : Nat) = q at *
    rw [nd_both, hd]
    by_cases h0 : q % 2 = 0
    · have hs := sib_even (x := x) (q := q) (n := n) rfl hq.symm h0
      rw [clm_even (by rw [hq]; exact h0), e1, e2, hs, show 2 * (q / 2) = q by omega]
    · have hs := sib_odd (x := x) (q := q) (n := n) rfl hq.symm h0
      rw [clm_odd (by rw [hq]; exact h0), e1, e2, hs, show 2 * (q / 2) = q - 1 by omega, show q - 1 + 1 = q by omega]
theorem pth_ok (l : Prl) (x : Int) : ∀ m, (pth l x m).all sumB = true := by
  intro m
  induction m with
  | zero => rfl
  | succ m ih =>
    rw [pth, List.all_append, ih]
    simp [sumB_iff, nd_bd]
/-- What is summed for the leaf of a key, as there is. -/
def lfT (l : Prl) (x : Int) : List Int := leafL x (thr l x) (fsV l x)
theorem lfT_there {l : Prl} {x : Int} (h0 : slF l = 0) (h : thr l x = true) : lfT l x = tagL 3 [x, (pAt l (low l x)).2] := by
  unfold lfT fsV leafL
  rw [if_pos h, if_pos ⟨h0, h⟩]
theorem lfT_none {l : Prl} {x : Int} (h : thr l x = false) : lfT l x = [] := by
  unfold lfT leafL
  rw [h]; simp
theorem lfT_sum {l : Prl} {x : Int} (h0 : slF l = 0) : sumL (lfT l x) = nd l 0 x := by
  have hl := slF_ok h0
  rcases Bool.eq_false_or_eq_true (thr l x) with h | h
  · rw [lfT_there h0 h]
    have hlt := thr_lt h
    have hk : (pAt l (low l x)).1 = x := by
      unfold thr at h
      rw [Bool.and_eq_true] at h
      exact of_decide_eq_true h.2
    unfold nd
    have : l.find? (fun p => p.1 == x) = some (pAt l (low l x)) := by
      rw [List.find?_eq_some_iff_getElem]
      refine ⟨by simp [hk], low l x, hlt, (pAt_eq hlt).symm, fun j hj => ?_⟩
      have := (low_iff hl.ris x (Nat.lt_trans hj hlt)).2 hj
      rw [pAt_eq (Nat.lt_trans hj hlt)] at this
      simp
      omega
    rw [this]
    show _ = sumL (tagL 3 [(pAt l (low l x)).1, (pAt l (low l x)).2])
    rw [hk]
  · rw [lfT_none h]
    unfold nd
    have : l.find? (fun p => p.1 == x) = none := by
      rw [List.find?_eq_none]
      intro p hp e
      have := (thr_iff hl.ris x).2 ⟨p, hp, (beq_iff_eq).1 e⟩
      rw [h] at this; cases this
    rw [this]
    rfl
theorem lfT_askd {l : Prl} {x : Int} (h0 : slF l = 0) (hx : 0 ≤ x ∧ x ≤ 255) : askd x (thr l x) (fsV l x) = true := by
  have hl := slF_ok h0
  rcases Bool.eq_false_or_eq_true (thr l x) with h | h
  · have e : fsV l x = (pAt l (low l x)).2 := by unfold fsV; rw [if_pos ⟨h0, h⟩]
    rw [h, lb_there (inB_t hx.1 hx.2), e, sumB_iff]
    exact (hl.at (thr_lt h)).2
  · have e : fsV l x = 0 := by unfold fsV; rw [if_neg (by rw [h]; simp)]
    rw [h, lb_none (inB_t hx.1 hx.2), e]
    rfl
/-- What climbing answers. -/
def coC (x : Int) (b : Bool) (v : Int) (p : List Int) : Int := if askd x b v = true then (if p.length = 8 then (if p.all sumB = true then 0 else 3) else 9) else 3
def coV (x : Int) (b : Bool) (v : Int) (p : List Int) : Int := if askd x b v = true ∧ p.length = 8 ∧ p.all sumB = true then clm x (sumL (leafL x b v)) p 8 else 0
end U
end Go.Proofs.Ytdcfoggcepkelaa

/- Climbing, by the program. -/
namespace Go.Proofs.Ytdcfoggcepkelaa
open Go.RowKit
namespace U
/-- Eight values in a block. -/
structure ArrV (w : World) (g : Nat) (f : Nat → Value) : Prop where
  c : ∀ j, j < 8 → w.cell? ⟨g, j, none⟩ = some (f j)
  z : ∀ j, j < 8 → w.frozen? ⟨g, j, none⟩ = false
def arrV (f : Nat → Value) : Array Value := #[f 0, f 1, f 2, f 3, f 4, f 5, f 6, f 7]
theorem lt8 {j : Nat} (h : j < 8) : j = 0 ∨ j = 1 ∨ j = 2 ∨ j = 3 ∨ j = 4 ∨ j = 5 ∨ j = 6 ∨ j = 7 := by omega
theorem ArrV.of {w : World} {g : Nat} {f : Nat → Value} {t : TypeId} (h : w.heap[g]? = some (.cells (arrV f) t)) : ArrV w g f := by
  constructor
  · intro j hj
    rcases lt8 hj with rfl | rfl | rfl | rfl | rfl | rfl | rfl | rfl <;> (unfold World.cell?; rw [h]; rfl)
  · intro j hj
    rcases lt8 hj with rfl | rfl | rfl | rfl | rfl | rfl | rfl | rfl <;> (unfold World.frozen?; rw [h]; rfl)
theorem ArrV.below {w w' : World} {g B : Nat} {f : Nat → Value} (h : ArrV w g f) (hb : Below B w w') (hg : g < B) : ArrV w' g f :=
  ⟨fun j hj => (hb.cell (p := ⟨g, j, none⟩) hg).trans (h.c j hj), fun j hj => (hb.frozen (p := ⟨g, j, none⟩) hg).trans (h.z j hj)⟩
theorem ArrV.set {w : World} {g k : Nat} {f : Nat → Value} (h : ArrV w g f) (hk : k < 8) (x : Value) : ArrV (w.setCell ⟨g, k, none⟩ x) g (fun j => if j = k then x else f j) := by
  refine ⟨fun j hj => ?_, fun j hj => (World.frozen?_setCell _ _ _ _).trans (h.z j hj)⟩
  by_cases e : j = k
  · subst e
    rw [if_pos rfl]
    exact World.cell?_setCell_same _ _ _ (h.c j hj)
  · rw [if_neg e]
    exact (World.cell?_setCell_other _ _ _ _ (by simp)).trans (h.c j hj)
theorem ArrV.other {w : World} {g k b : Nat} {f : Nat → Value} (h : ArrV w g f) (hb : b ≠ g) (x : Value) : ArrV (w.setCell ⟨b, k, none⟩ x) g f :=
  ⟨fun j hj => (World.cell?_setCell_other _ _ _ _ (by simp)).trans (h.c j hj), fun j hj => (World.frozen?_setCell _ _ _ _).trans (h.z j hj)⟩
theorem ArrV.cells {w : World} {g : Nat} {f : Nat → Value} (h : ArrV w g f) : w.cell? ⟨g, 0, none⟩ = some (f 0) ∧ w.cell? ⟨g, 1, none⟩ = some (f 1) ∧ w.cell? ⟨g, 2, none⟩ = some (f 2) ∧ w.cell? ⟨g, 3, none⟩ = some (f 3) ∧ w.cell? ⟨g, 4, none⟩ = some (f 4) ∧ w.cell? ⟨g, 5, none⟩ = some (f 5) ∧ w.cell? ⟨g, 6, none⟩ = some (f 6) ∧ w.cell? ⟨g, 7, none⟩ = some (f 7) :=
  ⟨h.c 0 (by omega), h.c 1 (by omega), h.c 2 (by omega), h.c 3 (by omega), h.c 4 (by omega), h.c 5 (by omega), h.c 6 (by omega), h.c 7 (by omega)⟩
theorem ArrV.froz {w : World} {g : Nat} {f : Nat → Value} (h : ArrV w g f) : w.frozen? ⟨g, 0, none⟩ = false ∧ w.frozen? ⟨g, 1, none⟩ = false ∧ w.frozen? ⟨g, 2, none⟩ = false ∧ w.frozen? ⟨g, 3, none⟩ = false ∧ w.frozen? ⟨g, 4, none⟩ = false ∧ w.frozen? ⟨g, 5, none⟩ = false ∧ w.frozen? ⟨g, 6, none⟩ = false ∧ w.frozen? ⟨g, 7, none⟩ = false :=
  ⟨h.z 0 (by omega), h.z 1 (by omega), h.z 2 (by omega), h.z 3 (by omega), h.z 4 (by omega), h.z 5 (by omega), h.z 6 (by omega), h.z 7 (by omega)⟩
theorem ArrV.congr {w : World} {g : Nat} {f f' : Nat → Value} (h : ArrV w g f) (e : ∀ j, j < 8 → f j = f' j) : ArrV w g f' := ⟨fun j hj => by rw [← e j hj]; exact h.c j hj, h.z⟩
/-- A scope with one label to which the run jumps back: a pass is walked once. -/
theorem wp_scope_once {P : Program} {a : Act} {w : World} {Q : Exit → Act → World → Prop} {c R : Code} (l : Nat) (J : Act → World → Prop) (μ : Act → World → Nat) (hf : findLabel c l = some (Code.skip.seq R))
    (pass : ∀ a w, J a w → R.wp P (Exit.jump l (fun a' w' => J a' w' ∧ μ a' w' < μ a w) Q) a w)
    (first : (∀ a w, J a w → R.wp P (Exit.jump l J Q) a w) → c.wp P (Exit.jump l J Q) a w) : (Code.scope c).wp P Q a w := by
  refine wp_scope_jumps l J μ hf (first fun a w h => Code.wp_mono ?_ (pass a w h)) (fun a w h => wp_seq (wp_skip (pass a w h)))
  intro e a' w' h'
  cases e <;> first | exact h' | exact ⟨h'.1, h'.2.1⟩
theorem two_lie (w : World) (o o' : Obj) : ((w.alloc o).alloc o').heap[w.heap.size]? = some o ∧ ((w.alloc o).alloc o').heap[w.heap.size + 1]? = some o' := by
  have h1 := heap_alloc_new (w.alloc o) o'
  simp only [World.size_alloc] at h1
  exact ⟨(Below.heap_alloc _ _ _ (by simp)).trans (heap_alloc_new w o), h1⟩
/-- The nodes up to a level, as numbers; nothing behind it. -/
def nds (x s : Int) (p : List Int) (k j : Nat) : Value := if j < k then cx (sdL x s p j) (sdR x s p j) else .complex .f64 0 0
theorem nds_set (x s : Int) (p : List Int) (k : Nat) : ∀ j, j < 8 → (fun j => if j = k then cx (sdL x s p k) (sdR x s p k) else nds x s p k j) j = nds x s p (k + 1) j := by
  intro j _
  show (if j = k then cx (sdL x s p k) (sdR x s p k) else nds x s p k j) = nds x s p (k + 1) j
  unfold nds
  by_cases e : j = k
  · subst e
    rw [if_pos rfl, if_pos (by omega)]
  · rw [if_neg e]
    by_cases e2 : j < k
    · rw [if_pos e2, if_pos (by omega)]
    · rw [if_neg e2, if_neg (by omega)]
def zro : Nat → Value := fun _ => .complex .f64 0 0
theorem ArrV.zcells {w : World} {g : Nat} (h : ArrV w g zro) : w.cell? ⟨g, 0, none⟩ = some (.complex .f64 0 0) ∧ w.cell? ⟨g, 1, none⟩ = some (.complex .f64 0 0) ∧ w.cell? ⟨g, 2, none⟩ = some (.complex .f64 0 0) ∧ w.cell? ⟨g, 3, none⟩ = some (.complex .f64 0 0) ∧ w.cell? ⟨g, 4, none⟩ = some (.complex .f64 0 0) ∧ w.cell? ⟨g, 5, none⟩ = some (.complex .f64 0 0) ∧ w.cell? ⟨g, 6, none⟩ = some (.complex .f64 0 0) ∧ w.cell? ⟨g, 7, none⟩ = some (.complex .f64 0 0) := h.cells
theorem nds_zero (x s : Int) (p : List Int) : nds x s p 0 = zro := by
  funext j
  unfold nds zro
  rw [if_neg (by omega)]
set_option maxRecDepth 100000 in
set_option maxHeartbeats 4000000 in
theorem climb_any (x : Int) (v u : Value) (ls p : List Int) (w : World) (hx : 0 ≤ x ∧ x ≤ 255) (hv : Ints .u8 w v ls) (hB : Bts ls) (hl : ls.length ≤ 200) (hu : Ints .i64 w u p) (hp : p.length = 8) (hs : p.all sumB = true) :
    Calls Try.prog 82 #[.int .i64 x, v, u] w fun e w' => e = .returned (.tuple #[.agg (arrV (nds x (sumL ls) p 8)), .int .i64 (clm x (sumL ls) p 8)]) ∧ Below w.heap.size w w' := by
  have hS := fun w' h => implSumOf_any v ls w' (hv.below h) hB (by omega)
  rw [(sm_ok (bs := ls) (by omega)).1, (sm_ok (bs := ls) (by omega)).2] at hS
  have hsb := sumL_bd ls
  have hR := fun n => clm_bd (x := x) (p := p) hsb n
  have hD := fun n => sd_bd (x := x) hsb hs n
  obtain ⟨va, vc, rfl⟩ := hv.shape
  generalize ls.length = vn at *
  generalize sumL ls = s0 at *
  obtain ⟨ua, uc, rfl⟩ := hu.shape
  obtain ⟨-, b, off, rfl, hb, hc⟩ := hu.at (by omega : 0 < p.length)
  rw [hp] at hu hc ⊢
  have kf := fun w => field_IR1 0 s0 w
  have HC : Hid (∀ w', Below w.heap.size w w' → ∀ j, j < 8 → w'.cell? ⟨b, off + j, none⟩ = some (.int .i64 (p.getD j 0))) := fun w' h j hj => (h.cell (p := ⟨b, off + j, none⟩) hb).trans (hc j hj)
  clear hu hv hc hB hl
  have HZ0 : Hid (nds x s0 p 0 = zro) := nds_zero x s0 p
  go_enter Try.func82, Try.ntmps82
  go_wp2
  rename_i Q0
  have HQ : Hid (∀ a' w', bodyPost Try.prog Try.f82 (fun e w' => e = .returned (.tuple #[.agg (arrV (nds x s0 p 8)), .int .i64 (clm x s0 p 8)]) ∧ Below w.heap.size w w') .ret a' w' → Q0 .ret a' w') := fun _ _ h => h
  clear_value Q0
  refine wp_scope_once 0 (fun a' w' => ∃ (k : Nat) (u14 u15 u16 u17 u18 u19 u20 u21 u22 u23 u24 u25 u26 u27 u28 u29 u30 u31 u32 u33 u34 : Value), k < 8 ∧ a' = { tmps := #[.int .i64 x, .slice va vn vc, .slice (some ⟨b, off, none⟩) 8 uc, undef, undef, undef, .pointer (some ⟨w.heap.size, 0, none⟩), .int .i64 0, .pointer (some ⟨w.heap.size + 1, 0, none⟩), .int .i64 (clm x s0 p k), .int .i64 k, .slice va vn vc, .agg #[.int .i64 0, .int .i64 s0], .int .i64 s0, u14, u15, u16, u17, u18, u19, u20, u21, u22, u23, u24, u25, u26, u27, u28, u29, u30, u31, u32, u33, u34], defers := [] } ∧ w.heap.size + 1 < w'.heap.size ∧ Hid (Below w.heap.size w w') ∧ Hid (ArrV w' (w.heap.size + 1) (nds x s0 p k)) ∧ Hid (ArrV w' w.heap.size zro)) (fun a' _ => 8 - (intOf (a'.tmps.getD 10 undef)).toNat) rfl ?_ ?_
  · rintro a' wr ⟨k, u14, u15, u16, u17, u18, u19, u20, u21, u22, u23, u24, u25, u26, u27, u28, u29, u30, u31, u32, u33, u34, hk, rfl, hsz, HB, HA, HZ⟩
    have ck := HC.out _ HB.out k hk
    have hck := HA.out.c k hk
    have hcz := HA.out.z k hk
    have hk0 : (0 : Int) ≤ (k : Int) := by omega
    have hk8 : (k : Int) < 8 := by omega
    have hkw : IntKind.i64.wrap ((k : Int) + 1) = (k : Int) + 1 := by rw [IntKind.wrap_i64]; omega
    have hAB := hD k
    have hnx : Hid (clm x s0 p (k + 1) = t2 (sdL x s0 p k) (sdR x s0 p k)) := clm_succ x s0 p k
    have hset : Hid (ArrV (wr.setCell ⟨w.heap.size + 1, k, none⟩ (cx (sdL x s0 p k) (sdR x s0 p k))) (w.heap.size + 1) (nds x s0 p (k + 1))) := (HA.out.set hk _).congr (nds_set x s0 p k)
    have hz2 : Hid (ArrV (wr.setCell ⟨w.heap.size + 1, k, none⟩ (cx (sdL x s0 p k) (sdR x s0 p k))) w.heap.size zro) := HZ.out.other (k := k) (b := w.heap.size + 1) (by omega) _
    have hB2 : Hid (Below w.heap.size w (wr.setCell ⟨w.heap.size + 1, k, none⟩ (cx (sdL x s0 p k) (sdR x s0 p k)))) := HB.out.setCell (Nat.le_succ _) _
    have hS0 : ∀ w', Calls Try.prog 112 #[.int .i64 (x / 2 ^ k), .int .i64 (clm x s0 p k), .int .i64 (p.getD k 0)] w' fun e w'' => e = .returned (cx (sdL x s0 p k) (sdR x s0 p k)) ∧ w'' = w' := by
      intro w'
      have e : x / 2 ^ k = x / (2 ^ k : Nat) := by simp
      rw [e]
      have hq : 0 ≤ x / (2 ^ k : Nat) := Int.ediv_nonneg hx.1 (Int.natCast_nonneg _)
      unfold sdL sdR
      split
      · exact bothSides_even _ _ _ w' hq (by assumption)
      · exact bothSides_odd _ _ _ w' hq (by assumption)
    have hN0 := fun w' => nodeSum_any _ _ w' hAB.1 hAB.2
    rw [← hnx.out] at hN0
    have hck2 : (wr.setCell ⟨w.heap.size + 1, k, none⟩ (cx (sdL x s0 p k) (sdR x s0 p k))).cell? ⟨w.heap.size + 1, k, none⟩ = some (cx (sdL x s0 p k) (sdR x s0 p k)) := World.cell?_setCell_same _ _ _ hck
    clear hAB hnx hD hR HA HZ HB
    generalize hcv : cx (sdL x s0 p k) (sdR x s0 p k) = cv at *
    obtain ⟨fa, fb, rfl⟩ : ∃ fa fb, cv = .complex .f64 fa fb := ⟨_, _, hcv.symm⟩
    clear hcv
    generalize p.getD k 0 = o at *
    generalize hcc : clm x s0 p k = cc at *
    generalize hcd : clm x s0 p (k + 1) = cd at *
    have HCC : Hid (clm x s0 p k = cc) := hcc
    have HCD : Hid (clm x s0 p (k + 1) = cd) := hcd
    clear hcc hcd
    have kst := fun (w : World) (a : Addr) (m : Mode) => run_store Try.prog w a (.complex .f64 fa fb) m rfl
    have hd1 : wr.drew.cell? ⟨w.heap.size + 1, k, none⟩ = some (nds x s0 p k k) := hck
    have hd2 : wr.drew.frozen? ⟨w.heap.size + 1, k, none⟩ = false := hcz
    go_wp2
    go_region_held3 (fun w' => w'.cell? ⟨b, off + k, none⟩ = some (.int .i64 o))
      (first | exact ck | exact (World.cell?_setCell_other _ _ _ _ (by simp)).trans ck)
      (first | (go_at_call 112; refine (hS0 _).mono ?_; rintro e wq ⟨rfl, rfl⟩))
    obtain ⟨W2, hW2⟩ : ∃ W2, W2 = (wr.setCell ⟨w.heap.size + 1, k, none⟩ (.complex .f64 fa fb)).drew := ⟨_, rfl⟩
    have hck3 : W2.cell? ⟨w.heap.size + 1, k, none⟩ = some (.complex .f64 fa fb) := by rw [hW2]; exact hck2
    have hset : Hid (ArrV W2 (w.heap.size + 1) (nds x s0 p (k + 1))) := by rw [hW2]; exact ⟨hset.out.c, hset.out.z⟩
    have hz2 : Hid (ArrV W2 w.heap.size zro) := by rw [hW2]; exact ⟨hz2.out.c, hz2.out.z⟩
    have hB2 : Hid (Below w.heap.size w W2) := by rw [hW2]; exact hB2.out.drew
    have hsz2 : w.heap.size + 1 < W2.heap.size := by rw [hW2]; simpa using hsz
    rw [← hW2]
    clear hW2 hck hcz hck2 hd1 hd2 ck kst hS0 hsz
    go_wp2_with fail
    refine (hN0 _).mono ?_
    rintro e w3 ⟨rfl, hb3⟩
    have hset3 : Hid (ArrV w3 (w.heap.size + 1) (nds x s0 p (k + 1))) := hset.out.below hb3 hsz2
    have hz3 : Hid (ArrV w3 w.heap.size zro) := hz2.out.below hb3 (by omega)
    have hB3 : Hid (Below w.heap.size w w3) := below_after_of hB2.out hb3
    clear hset hz2 hB2
    have hsz3 : w.heap.size + 1 < w3.heap.size := Nat.lt_of_lt_of_le hsz2 hb3.size
    clear hN0 hb3 hck3 hsz2
    by_cases h7 : k = 7
    · subst h7
      obtain ⟨c0, c1, c2, c3, c4, c5, c6, c7⟩ := hset3.out.cells
      obtain ⟨d0, d1, d2, d3, d4, d5, d6, d7⟩ := hz3.out.zcells
      obtain ⟨z0, z1, z2, z3, z4, z5, z6, z7⟩ := hz3.out.froz
      have HF : Hid (∀ j, j < 8 → ∃ r i, nds x s0 p 8 j = .complex .f64 r i) := fun j hj => by
        unfold nds
        rw [if_pos hj]
        exact ⟨_, _, rfl⟩
      obtain ⟨r0, i0, e0⟩ := HF.out 0 (by omega)
      obtain ⟨r1, i1, e1⟩ := HF.out 1 (by omega)
      obtain ⟨r2, i2, e2⟩ := HF.out 2 (by omega)
      obtain ⟨r3, i3, e3⟩ := HF.out 3 (by omega)
      obtain ⟨r4, i4, e4⟩ := HF.out 4 (by omega)
      obtain ⟨r5, i5, e5⟩ := HF.out 5 (by omega)
      obtain ⟨r6, i6, e6⟩ := HF.out 6 (by omega)
      obtain ⟨r7, i7, e7⟩ := HF.out 7 (by omega)
      have HR : Hid (arrV (nds x s0 p 8) = #[.complex .f64 r0 i0, .complex .f64 r1 i1, .complex .f64 r2 i2, .complex .f64 r3 i3, .complex .f64 r4 i4, .complex .f64 r5 i5, .complex .f64 r6 i6, .complex .f64 r7 i7]) := by
        show arrV _ = _
        unfold arrV
        rw [e0, e1, e2, e3, e4, e5, e6, e7]
      rw [e0] at c0
      rw [e1] at c1
      rw [e2] at c2
      rw [e3] at c3
      rw [e4] at c4
      rw [e5] at c5
      rw [e6] at c6
      rw [e7] at c7
      have kst := fun (w : World) (a : Addr) (m : Mode) (r i : Nat) => run_store Try.prog w a (.complex .f64 r i) m rfl
      have HCD : Hid (clm x s0 p 8 = cd) := HCD.out
      clear HF e0 e1 e2 e3 e4 e5 e6 e7 HCC hset3 hz3
      go_wp2
      have hB := hB3.out
      show Q0 .ret _ _
      refine HQ.out _ _ ?_
      exact bodyPost_ret (v := .tuple #[.agg #[.complex .f64 r0 i0, .complex .f64 r1 i1, .complex .f64 r2 i2, .complex .f64 r3 i3, .complex .f64 r4 i4, .complex .f64 r5 i5, .complex .f64 r6 i6, .complex .f64 r7 i7], .int .i64 cd]) (by simp [results, Try.results82, go_sem, d0, d1, d2, d3, d4, d5, d6, d7]) rfl ⟨by rw [HR.out, HCD.out], ((((((((hB.setCell (Nat.le_refl _) _).setCell (Nat.le_refl _) _).setCell (Nat.le_refl _) _).setCell (Nat.le_refl _) _).setCell (Nat.le_refl _) _).setCell (Nat.le_refl _) _).setCell (Nat.le_refl _) _).setCell (Nat.le_refl _) _)⟩
    · have hk7 : (k : Int) + 1 < 8 := by omega
      go_wp2
      go_step3
      have hcd := HCD.out
      subst hcd
      refine ⟨rfl, ⟨k + 1, _, _, _, _, _, _, _, _, _, _, _, _, _, _, _, _, _, _, _, _, _, by omega, rfl, hsz3, hB3, hset3, hz3⟩, ?_⟩
      simp [intOf]
      omega
  · intro hpass
    go_wp2_with fail
    refine (hS _ ?_).mono ?_
    · exact two_new _ _
    rintro e w1 ⟨rfl, hb1⟩
    have A1 : ArrV w1 (w.heap.size + 1) (nds x s0 p 0) := by
      rw [HZ0.out]
      exact ArrV.of (f := zro) ((hb1.block (w.heap.size + 1) (by simp)).trans (two_lie w _ _).2)
    have A0 : ArrV w1 w.heap.size zro := ArrV.of (f := zro) ((hb1.block w.heap.size (by simp; omega)).trans (two_lie w _ _).1)
    have hB1 : Below w.heap.size w w1 := below_after (below_after hb1)
    have hsz1 : w.heap.size + 1 < w1.heap.size := by have := hb1.size; simp at this; omega
    clear hS hb1
    go_wp2
    go_step3
    rename_i hK
    exact hK _ _ (hpass _ _ ⟨0, _, _, _, _, _, _, _, _, _, _, _, _, _, _, _, _, _, _, _, _, _, by omega, rfl, hsz1, hB1, A1, A0⟩)
end U
end Go.Proofs.Ytdcfoggcepkelaa

/- Climbing, by the model; ClimbOld and AcceptOld of both. -/
namespace Go.Proofs.Ytdcfoggcepkelaa
open Go.RowKit
namespace U
set_option maxRecDepth 100000 in
set_option maxHeartbeats 4000000 in
theorem l5Climb_any (x s : Int) (u : Value) (p : List Int) (w : World) (hx : 0 ≤ x ∧ x ≤ 255) (hs : 0 ≤ s ∧ s ≤ 65520) (hu : Ints .i64 w u p) (hp : p.length ≤ 8) (hall : p.all sumB = true) :
    Calls Try.prog 85 #[.int .i64 x, .int .i64 s, u] w fun e w' => e = .returned (.int .i64 (clm x s p p.length)) ∧ Below w.heap.size w w' := by
  have HV : Hid (∀ w', Below w.heap.size w w' → Ints .i64 w' u p) := fun w' h => hu.below h
  obtain ⟨ua, uc, rfl⟩ := hu.shape
  have HA : Hid (∀ n, 0 ≤ p.getD n 0 ∧ p.getD n 0 ≤ 65520) := path_at hall
  have HC : Hid (∀ n, 0 ≤ clm x s p n ∧ clm x s p n ≤ 65520) := clm_bd hs
  obtain ⟨n, hn⟩ : ∃ n, n = p.length := ⟨_, rfl⟩
  rw [← hn] at HV hp ⊢
  have HN : Hid (n = p.length) := hn
  clear hn hu hall
  go_enter Try.func85, Try.ntmps85
  go_wp2
  go_loopw [1, 7] (fun c i wr => ∃ k : Nat, k ≤ n ∧ i = .int .i64 k ∧ c = .int .i64 (clm x s p k) ∧ Below w.heap.size w wr) (fun _ i _ => n - (intOf i).toNat)
  case atStart => exact ⟨0, Nat.zero_le _, rfl, rfl, Below.refl _ _⟩
  case round =>
    obtain ⟨k, hk, rfl, rfl, hB⟩ := hrel
    by_cases hkn : k < n
    · have hki : (k : Int) < (n : Int) := by omega
      have hk0 : (0 : Int) ≤ (k : Int) := by omega
      have hiw := HV.out _ hB
      obtain ⟨-, b, off, rfl, hbb, hcc⟩ := hiw.at (by rw [← HN.out]; omega)
      have ck := hcc k (by rw [← HN.out]; omega)
      have hbo := HA.out k
      have hbc := HC.out k
      clear hcc hiw
      have hx2 : x / 2 ^ k = x / (2 ^ k : Nat) := by simp
      have HX : Hid (x / 2 ^ k = x / (2 ^ k : Nat)) := hx2
      have hq0 : 0 ≤ x / 2 ^ k := by rw [hx2]; exact Int.ediv_nonneg hx.1 (Int.natCast_nonneg _)
      clear hx2
      have HE : Hid ((x / 2 ^ k) % 2 = 0 → clm x s p (k + 1) = sumL (tagL 2 [clm x s p k, p.getD k 0])) := fun h => clm_even (by rw [← HX.out]; exact h)
      have HO : Hid (¬ (x / 2 ^ k) % 2 = 0 → clm x s p (k + 1) = sumL (tagL 2 [p.getD k 0, clm x s p k])) := fun h => clm_odd (by rw [← HX.out]; exact h)
      generalize p.getD k 0 = o at *
      generalize hcc : clm x s p k = cc at *
      clear hcc
      generalize hcd : clm x s p (k + 1) = cd at *
      have HCD : Hid (clm x s p (k + 1) = cd) := hcd
      clear hcd HX
      by_cases h2 : (x / 2 ^ k) % 2 = 0
      · have ht : Int.tmod (x / 2 ^ k) 2 = 0 := by rw [Int.tmod_eq_emod_of_nonneg hq0]; exact h2
        have hT := fun w u hu => l2Tag2_any 2 cc o u w (by omega) hu hbc hbo
        rw [← HE.out h2] at hT
        go_wp2_with fail
        refine (hT _ _ (two_ints_at (by first | rfl | simp))).mono ?_
        rintro e w2 ⟨rfl, hb2⟩
        have hB2 := below_after_of hB (below_after hb2)
        clear hT hb2 hB ck
        go_wp2
        go_roundw
        case rel => exact ⟨k + 1, by omega, by go_num, by rw [HCD.out], hB2⟩
        case measure => simp [intOf]; omega
      · have ht : ¬ Int.tmod (x / 2 ^ k) 2 = 0 := by rw [Int.tmod_eq_emod_of_nonneg hq0]; exact h2
        have hT := fun w u hu => l2Tag2_any 2 o cc u w (by omega) hu hbo hbc
        rw [← HO.out h2] at hT
        go_wp2_with fail
        refine (hT _ _ (two_ints_at (by first | rfl | simp))).mono ?_
        rintro e w2 ⟨rfl, hb2⟩
        have hB2 := below_after_of hB (below_after hb2)
        clear hT hb2 hB ck
        go_wp2
        go_roundw
        case rel => exact ⟨k + 1, by omega, by go_num, by rw [HCD.out], hB2⟩
        case measure => simp [intOf]; omega
    · have : k = n := by omega
      subst this
      have hki : ¬ (k : Int) < (k : Int) := by omega
      go_wp2
      go_ret
      exact ⟨rfl, hB⟩
theorem co_no {x v : Int} {b : Bool} {p : List Int} (h : askd x b v = false) : coC x b v p = 3 ∧ coV x b v p = 0 := by simp [coC, coV, h]
theorem co_len {x v : Int} {b : Bool} {p : List Int} (h : askd x b v = true) (hp : ¬ p.length = 8) : coC x b v p = 9 ∧ coV x b v p = 0 := by simp [coC, coV, h, hp]
theorem co_sum {x v : Int} {b : Bool} {p : List Int} (h : askd x b v = true) (hp : p.length = 8) (hs : p.all sumB = false) : coC x b v p = 3 ∧ coV x b v p = 0 := by
  unfold coC coV
  rw [if_pos h, if_pos hp, hs, if_neg (by simp), if_neg (by simp)]
  exact ⟨rfl, rfl⟩
theorem co_ok {x v : Int} {b : Bool} {p : List Int} (h : askd x b v = true) (hp : p.length = 8) (hs : p.all sumB = true) : coC x b v p = 0 ∧ coV x b v p = clm x (sumL (leafL x b v)) p 8 := by
  unfold coC coV
  rw [if_pos h, if_pos hp, if_pos hs, if_pos ⟨h, hp, hs⟩]
  exact ⟨rfl, rfl⟩
set_option maxRecDepth 100000 in
set_option maxHeartbeats 4000000 in
theorem specClimbOld_any (x : Int) (b : Bool) (v : Int) (u : Value) (p : List Int) (w : World) (hu : Ints .i64 w u p) (hx : p.length ≤ 1099511627776) :
    Calls Try.prog 30 #[.int .i64 x, .bool b, .int .i64 v, u] w fun e w' => IntAns w (coC x b v p) (coV x b v p) e w' := by
  have HA := fun w => l5Asked_any x b v w
  have HV : Hid (∀ w', Below w.heap.size w w' → Ints .i64 w' u p) := fun w' h => hu.below h
  obtain ⟨ua, uc, rfl⟩ := hu.shape
  rcases Bool.eq_false_or_eq_true (askd x b v) with ha | ha
  · rw [ha] at HA
    by_cases h8 : p.length = 8
    · have HL := fun w' h => l1All_any _ p w' (HV.out w' h) hx
      rcases Bool.eq_false_or_eq_true (p.all sumB) with hs | hs
      · rw [hs] at HL
        rw [(co_ok ha h8 hs).1, (co_ok ha h8 hs).2]
        have HF := fun w => l5Leaf_any x b v w ha
        have HS := fun v' w h => l2Sum_any v' (leafL x b v) w h (leafL_bts ha) (by have := leafL_len x b v; omega)
        have HM := fun w' h => l5Climb_any x (sumL (leafL x b v)) _ p w' (askd_key ha) (sumL_bd _) (HV.out w' h) (by omega) hs
        rw [h8] at HM HL ⊢
        generalize clm x (sumL (leafL x b v)) p 8 = y at *
        generalize sumL (leafL x b v) = s at *
        generalize leafL x b v = ls at *
        clear ha hs hu h8 hx
        go_enter Try.func30, Try.ntmps30
        go_wp2_with fail
        refine (HA _).mono ?_
        rintro e w1 ⟨rfl, rfl⟩
        clear HA
        go_wp2_with fail
        refine (HL _ (one_new _)).mono ?_
        rintro e w1 ⟨rfl, rfl⟩
        clear HL
        go_wp2_with fail
        refine (HF _).mono ?_
        rintro e w1 ⟨v', rfl, own1, hb1⟩
        have hB1 := below_after hb1
        have i1 := own_ints own1
        obtain ⟨a', c', rfl⟩ := own_shape own1
        obtain ⟨hc0, hc1, hf0, hf1⟩ := two_cells ((hb1.block w.heap.size (by simp)).trans (heap_alloc_new w _))
        have hsz1 : w.heap.size < w1.heap.size := by have := hb1.size; simp at this; omega
        clear HF own1 hb1
        go_wp2_with fail
        refine (HS _ _ i1).mono ?_
        rintro e w2 ⟨rfl, rfl⟩
        clear HS i1
        go_wp2_with fail
        refine (HM _ hB1).mono ?_
        rintro e w3 ⟨rfl, hb3⟩
        have hc0 := (hb3.cell (p := ⟨w.heap.size, 0, none⟩) hsz1).trans hc0
        have hc1 := (hb3.cell (p := ⟨w.heap.size, 1, none⟩) hsz1).trans hc1
        have hf0 := (hb3.frozen (p := ⟨w.heap.size, 0, none⟩) hsz1).trans hf0
        have hf1 := (hb3.frozen (p := ⟨w.heap.size, 1, none⟩) hsz1).trans hf1
        have hB3 := below_after_of hB1 hb3
        clear HM hb3 hB1
        go_wp2
        exact bodyPost_ret (v := .agg #[.int .i64 0, .int .i64 y]) (by simp [results, Try.results30, go_sem, hc0, hc1]) rfl ⟨rfl, (hB3.setCell (Nat.le_refl _) _).setCell (Nat.le_refl _) _⟩
      · rw [hs] at HL
        rw [(co_sum ha h8 hs).1, (co_sum ha h8 hs).2]
        rw [h8] at HL ⊢
        clear ha hs hu h8 hx
        go_enter Try.func30, Try.ntmps30
        go_wp2_with fail
        refine (HA _).mono ?_
        rintro e w1 ⟨rfl, rfl⟩
        clear HA
        go_wp2_with fail
        refine (HL _ (one_new _)).mono ?_
        rintro e w1 ⟨rfl, rfl⟩
        clear HL
        go_wp2
        exact bodyPost_ret (v := .agg #[.int .i64 3, .int .i64 0]) (by simp [results, Try.results30, go_sem]) rfl ⟨rfl, one_new _⟩
    · rw [(co_len ha h8).1, (co_len ha h8).2]
      generalize p.length = n at *
      have hni : ¬ (n : Int) = 8 := by omega
      clear hu ha
      go_enter Try.func30, Try.ntmps30
      go_wp2_with fail
      refine (HA _).mono ?_
      rintro e w1 ⟨rfl, rfl⟩
      clear HA
      go_wp2
      exact bodyPost_ret (v := .agg #[.int .i64 9, .int .i64 0]) (by simp [results, Try.results30, go_sem]) rfl ⟨rfl, one_new _⟩
  · rw [ha] at HA
    rw [(co_no ha).1, (co_no ha).2]
    generalize p.length = n at *
    clear hu ha
    go_enter Try.func30, Try.ntmps30
    go_wp2_with fail
    refine (HA _).mono ?_
    rintro e w1 ⟨rfl, rfl⟩
    clear HA
    go_wp2
    exact bodyPost_ret (v := .agg #[.int .i64 3, .int .i64 0]) (by simp [results, Try.results30, go_sem]) rfl ⟨rfl, one_new _⟩
end U
end Go.Proofs.Ytdcfoggcepkelaa

/- ClimbOld, by the program. -/
namespace Go.Proofs.Ytdcfoggcepkelaa
open Go.RowKit
namespace U
theorem arr_cx (x s : Int) (p : List Int) : ∃ r0 i0 r1 i1 r2 i2 r3 i3 r4 i4 r5 i5 r6 i6 r7 i7, arrV (nds x s p 8) = #[.complex .f64 r0 i0, .complex .f64 r1 i1, .complex .f64 r2 i2, .complex .f64 r3 i3, .complex .f64 r4 i4, .complex .f64 r5 i5, .complex .f64 r6 i6, .complex .f64 r7 i7] := by
  exact ⟨_, _, _, _, _, _, _, _, _, _, _, _, _, _, _, _, rfl⟩
theorem cells8 {w : World} {b : Nat} {f : Nat → Value} {t : TypeId} (h : w.heap[b]? = some (.cells (arrV f) t)) : ArrV w b f := ArrV.of h
set_option maxRecDepth 100000 in
set_option maxHeartbeats 4000000 in
theorem implClimbOld_any (x : Int) (b : Bool) (v : Int) (u : Value) (p : List Int) (w : World) (hu : Ints .i64 w u p) :
    Calls Try.prog 27 #[.int .i64 x, .bool b, .int .i64 v, u] w fun e w' => IntAns w (coC x b v p) (coV x b v p) e w' := by
  have HL := fun w => implLeafBytes_any x b v w
  have HV : Hid (∀ w', Below w.heap.size w w' → Ints .i64 w' u p) := fun w' h => hu.below h
  obtain ⟨ua, uc, rfl⟩ := hu.shape
  rcases Bool.eq_false_or_eq_true (askd x b v) with ha | ha
  · rw [(lb_ok ha).1, (lb_ok ha).2] at HL
    by_cases h8 : p.length = 8
    · have HNO : Hid (p.all sumB = false → coC x b v p = 3 ∧ coV x b v p = 0) := fun h => co_sum ha h8 h
      have HYES : Hid (p.all sumB = true → coC x b v p = 0 ∧ coV x b v p = clm x (sumL (leafL x b v)) p 8) := fun h => co_ok ha h8 h
      have HM : Hid (∀ v' u' w' (_ : Ints .u8 w' v' (leafL x b v)) (_ : Ints .i64 w' u' p) (_ : p.all sumB = true), Calls Try.prog 82 #[.int .i64 x, v', u'] w' fun e w'' => e = .returned (.tuple #[.agg (arrV (nds x (sumL (leafL x b v)) p 8)), .int .i64 (clm x (sumL (leafL x b v)) p 8)]) ∧ Below w'.heap.size w' w'') :=
        fun v' u' w' h1 h2 h3 => climb_any x v' u' (leafL x b v) p w' (askd_key ha) h1 (leafL_bts ha) (by have := leafL_len x b v; omega) h2 h8 h3
      have HX8 := arr_cx x (sumL (leafL x b v)) p
      generalize clm x (sumL (leafL x b v)) p 8 = y at *
      generalize sumL (leafL x b v) = s at *
      generalize leafL x b v = ls at *
      generalize arrV (nds x s p 8) = ar at *
      have HN : Hid (p.length = 8) := h8
      rw [h8] at HV ⊢
      generalize coC x b v p = cC at *
      generalize coV x b v p = cV at *
      clear hu ha h8
      go_enter Try.func27, Try.ntmps27
      go_wp2_with fail
      refine (HL _).mono ?_
      intro e w1 h1
      obtain ⟨a1, c1, rfl, hb1, own1⟩ := h1.use
      obtain ⟨W2, hW2⟩ : ∃ W2, W2 = w1.alloc (.cells #[.int .i64 0, .slice a1 ls.length c1] 37) := ⟨_, rfl⟩
      have hb2 := below_after_of hb1 (one_new (.cells #[.int .i64 0, .slice a1 ls.length c1] 37))
      have P2 := Pair.new w1 (.int .i64 0) (.slice a1 ls.length c1) 37
      rw [← hW2] at hb2 P2
      have i2 : Ints .u8 W2 (.slice a1 ls.length c1) ls := by rw [hW2]; exact (own_ints own1).below (one_new _)
      have HI2 : Hid (Ints .u8 W2 (.slice a1 ls.length c1) ls) := i2
      obtain ⟨hc0, hc1, hf0, hf1⟩ := two_cells ((hb2.block w.heap.size (by simp)).trans (heap_alloc_new w _))
      have hB2 : Hid (Below w.heap.size w W2) := below_after hb2
      have hsz2 : w.heap.size < W2.heap.size := by have := hb2.size; simp at this; omega
      have HW2 : Hid (W2 = w1.alloc (.cells #[.int .i64 0, .slice a1 ls.length c1] 37)) := hW2
      have p0 := P2.2.1
      have p1 := P2.2.2
      have p2 := P2.1
      have hi2 := HV.out _ hB2.out
      obtain ⟨-, bb, off, rfl, hbl, hcl⟩ := hi2.at (by rw [HN.out]; omega)
      have HC : Hid (∀ j, j < 8 → W2.cell? ⟨bb, off + j, none⟩ = some (.int .i64 (p.getD j 0))) := fun j hj => hcl j (by rw [HN.out]; exact hj)
      clear h1 HL own1 hb1 hb2 i2 hW2 hi2 hcl
      go_wp2_with fail
      rw [← HW2.out]
      go_loop [30] (fun i => ∃ k : Nat, k ≤ 8 ∧ i = .int .i64 k ∧ Hid (AllS p k)) (fun i => 8 - (intOf i).toNat)
      case atStart => exact ⟨0, Nat.zero_le _, rfl, fun j hj => by omega⟩
      case round =>
        obtain ⟨k, hk, rfl, hA⟩ := hrel
        by_cases hkn : k < 8
        · have hki : (k : Int) < 8 := by omega
          have hcj := HC.out k hkn
          have hkx : Hid (k < p.length) := by show _ < _; rw [HN.out]; exact hkn
          obtain ⟨z, hxx⟩ : ∃ z, z = p.getD k 0 := ⟨_, rfl⟩
          have HX : Hid (z = p.getD k 0) := hxx
          rw [← hxx] at hcj
          clear hxx
          rcases Bool.eq_false_or_eq_true (sumB z) with hr | hr
          · go_wp2_with fail
            refine (isSum_any z _).mono ?_
            rintro e w3 ⟨rfl, rfl⟩
            go_wp2
            go_round
            case rel => exact ⟨k + 1, by omega, by go_num, hA.out.succ (by rw [← HX.out]; exact hr)⟩
            case measure => simp [intOf]; omega
          · have e := HNO.out (sums_no hkx.out (by rw [← HX.out]; exact hr))
            have HE : Hid (cC = 3 ∧ cV = 0) := e
            clear e
            go_wp2_with fail
            refine (isSum_any z _).mono ?_
            rintro e w3 ⟨rfl, rfl⟩
            go_wp2
            exact bodyPost_ret (v := .agg #[.int .i64 3, .int .i64 0]) (by simp [results, Try.results27, go_sem, hc0, hc1]) rfl (by rw [HE.out.1, HE.out.2]; exact ⟨rfl, (hB2.out.setCell (Nat.le_refl _) _).setCell (Nat.le_refl _) _⟩)
        · have hkn : k = 8 := by omega
          subst hkn
          have hall : p.all sumB = true := AllS.all (by rw [HN.out]; exact hA.out)
          have HE : Hid (cC = 0 ∧ cV = y) := HYES.out hall
          have hM := fun v' u' w' h1 h2 => HM.out v' u' w' h1 h2 hall
          obtain ⟨r0, i0, r1, i1, r2, i2, r3, i3, r4, i4, r5, i5, r6, i6, r7, i7, rfl⟩ := HX8
          clear hall HYES HNO HM HC
          go_wp2_with fail
          refine (hM _ _ _ HI2.out (HV.out _ hB2.out)).mono ?_
          rintro e w3 ⟨rfl, hb3⟩
          have hc0 := (hb3.cell (p := ⟨w.heap.size, 0, none⟩) hsz2).trans hc0
          have hc1 := (hb3.cell (p := ⟨w.heap.size, 1, none⟩) hsz2).trans hc1
          have hf0 := (hb3.frozen (p := ⟨w.heap.size, 0, none⟩) hsz2).trans hf0
          have hf1 := (hb3.frozen (p := ⟨w.heap.size, 1, none⟩) hsz2).trans hf1
          have hB3 := below_after_of hB2.out hb3
          have hsz3 : w.heap.size < w3.heap.size := Nat.lt_of_lt_of_le hsz2 hb3.size
          have kst := fun (w : World) (a : Addr) (m : Mode) (r i : Nat) => run_store Try.prog w a (.complex .f64 r i) m rfl
          clear hM hb3 p0 p1 p2
          go_wp2
          have hq0 : ∀ o, (((w3.setCell ⟨w.heap.size, 0, none⟩ (.int .i64 0)).setCell ⟨w.heap.size, 1, none⟩ (.int .i64 y)).alloc o).cell? ⟨w.heap.size, 0, none⟩ = some (.int .i64 0) := fun o =>
            ((one_new o).cell (p := ⟨w.heap.size, 0, none⟩) (by simpa using hsz3)).trans ((World.cell?_setCell_other _ _ _ _ (by simp)).trans (World.cell?_setCell_same _ _ _ hc0))
          have hq1 : ∀ o, (((w3.setCell ⟨w.heap.size, 0, none⟩ (.int .i64 0)).setCell ⟨w.heap.size, 1, none⟩ (.int .i64 y)).alloc o).cell? ⟨w.heap.size, 1, none⟩ = some (.int .i64 y) := fun o =>
            ((one_new o).cell (p := ⟨w.heap.size, 1, none⟩) (by simpa using hsz3)).trans (World.cell?_setCell_same _ _ _ ((World.cell?_setCell_other _ _ _ _ (by simp)).trans hc1))
          exact bodyPost_ret (v := .agg #[.int .i64 0, .int .i64 y]) (by simp [results, Try.results27, go_sem, hq0, hq1]) rfl (by rw [HE.out.1, HE.out.2]; exact ⟨rfl, ((hB3.setCell (Nat.le_refl _) _).setCell (Nat.le_refl _) _).alloc (by simpa using Nat.le_of_lt hsz3) _⟩)
    · rw [(co_len ha h8).1, (co_len ha h8).2]
      generalize leafL x b v = ls at *
      generalize p.length = n at *
      have hni : ¬ (n : Int) = 8 := by omega
      clear hu ha
      go_enter Try.func27, Try.ntmps27
      go_wp2_with fail
      refine (HL _).mono ?_
      intro e w1 h1
      obtain ⟨a1, c1, rfl, hb1, own1⟩ := h1.use
      have hb2 := below_after_of hb1 (one_new (.cells #[.int .i64 0, .slice a1 ls.length c1] 37))
      have P2 := Pair.new w1 (.int .i64 0) (.slice a1 ls.length c1) 37
      obtain ⟨hc0, hc1, hf0, hf1⟩ := two_cells ((hb2.block w.heap.size (by simp)).trans (heap_alloc_new w _))
      have hB2 : Hid (Below w.heap.size w (w1.alloc (.cells #[.int .i64 0, .slice a1 ls.length c1] 37))) := below_after hb2
      have p0 := P2.2.1
      have p1 := P2.2.2
      clear h1 HL own1 hb1 hb2
      go_wp2
      exact bodyPost_ret (v := .agg #[.int .i64 9, .int .i64 0]) (by simp [results, Try.results27, go_sem, hc0, hc1]) rfl ⟨rfl, (hB2.out.setCell (Nat.le_refl _) _).setCell (Nat.le_refl _) _⟩
  · rw [(lb_no ha).1, (lb_no ha).2] at HL
    rw [(co_no ha).1, (co_no ha).2]
    generalize p.length = n at *
    clear hu ha
    go_enter Try.func27, Try.ntmps27
    go_wp2_with fail
    refine (HL _).mono ?_
    intro e w1 h1
    obtain ⟨a1, c1, rfl, hb1, own1⟩ := h1.use
    have hb2 := below_after_of hb1 (one_new (.cells #[.int .i64 3, .slice a1 0 c1] 37))
    have P2 := Pair.new w1 (.int .i64 3) (.slice a1 0 c1) 37
    obtain ⟨hc0, hc1, hf0, hf1⟩ := two_cells ((hb2.block w.heap.size (by simp)).trans (heap_alloc_new w _))
    have hB2 : Hid (Below w.heap.size w (w1.alloc (.cells #[.int .i64 3, .slice a1 0 c1] 37))) := below_after hb2
    have p0 := P2.2.1
    have p1 := P2.2.2
    clear h1 HL own1 hb1 hb2
    go_wp2
    exact bodyPost_ret (v := .agg #[.int .i64 3, .int .i64 0]) (by simp [results, Try.results27, go_sem, hc0, hc1]) rfl ⟨rfl, (hB2.out.setCell (Nat.le_refl _) _).setCell (Nat.le_refl _) _⟩
def acB (x : Int) (b : Bool) (v : Int) (p : List Int) (r : Int) : Bool := coC x b v p == 0 && coV x b v p == r
set_option maxRecDepth 100000 in
set_option maxHeartbeats 1000000 in
theorem implAcceptOld_any (x : Int) (b : Bool) (v : Int) (u : Value) (p : List Int) (r : Int) (w : World) (hu : Ints .i64 w u p) :
    Calls Try.prog 31 #[.int .i64 x, .bool b, .int .i64 v, u, .int .i64 r] w fun e w' => e = .returned (.bool (acB x b v p r)) ∧ Below w.heap.size w w' := by
  have HC := implClimbOld_any x b v u p w hu
  obtain ⟨ua, uc, rfl⟩ := hu.shape
  unfold acB
  generalize coC x b v p = c at *
  generalize coV x b v p = y at *
  generalize p.length = n at *
  clear hu
  go_enter Try.func31, Try.ntmps31
  go_wp2_with fail
  refine HC.mono ?_
  rintro e w1 ⟨rfl, hb1⟩
  clear HC
  go_wp2
  all_goals (go_ret; exact ⟨ret_bool (by simp_all), hb1⟩)
set_option maxRecDepth 100000 in
set_option maxHeartbeats 1000000 in
theorem specAcceptOld_any (x : Int) (b : Bool) (v : Int) (u : Value) (p : List Int) (r : Int) (w : World) (hu : Ints .i64 w u p) (hx : p.length ≤ 1099511627776) :
    Calls Try.prog 32 #[.int .i64 x, .bool b, .int .i64 v, u, .int .i64 r] w fun e w' => e = .returned (.bool (acB x b v p r)) ∧ Below w.heap.size w w' := by
  have HC := specClimbOld_any x b v u p w hu hx
  obtain ⟨ua, uc, rfl⟩ := hu.shape
  unfold acB
  generalize coC x b v p = c at *
  generalize coV x b v p = y at *
  generalize p.length = n at *
  clear hu
  go_enter Try.func32, Try.ntmps32
  go_wp2_with fail
  refine HC.mono ?_
  rintro e w1 ⟨rfl, hb1⟩
  have hB1 := below_after_of hb1 (one_new (.cells #[.int .i64 c, .int .i64 y] 41))
  clear HC hb1
  by_cases h0 : c = 0
  · subst h0
    go_wp2
    go_ret
    exact ⟨ret_bool (by simp), hB1⟩
  · go_wp2
    go_ret
    exact ⟨ret_bool (by simp [h0]), hB1⟩
end U
end Go.Proofs.Ytdcfoggcepkelaa

/- The clash that an old proof shows, by mathematics; the leaf that there is, by both. -/
namespace Go.Proofs.Ytdcfoggcepkelaa
open Go.RowKit
namespace U
/-- The piece of a node, as it is told and as it is there. -/
def ndP (x s : Int) (p : List Int) (n : Nat) : List Int := tagL 2 [sdL x s p n, sdR x s p n]
def ndT (l : Prl) (x : Int) (n : Nat) : List Int := tagL 2 [nd l n (2 * (x / (2 ^ (n + 1) : Nat))), nd l n (2 * (x / (2 ^ (n + 1) : Nat)) + 1)]
theorem sd_honest {l : Prl} {x : Int} (h0 : slF l = 0) {n : Nat} (hn : n < 8) :
    sdL x (sumL (lfT l x)) (pth l x 8) n = nd l n (2 * (x / (2 ^ (n + 1) : Nat))) ∧ sdR x (sumL (lfT l x)) (pth l x 8) n = nd l n (2 * (x / (2 ^ (n + 1) : Nat)) + 1) := by
  have e1 := pth_at l x 8 n hn
  have e2 := clm_honest l x (s := sumL (lfT l x)) (lfT_sum h0) n (by omega)
  have hd := div_succ x n
  unfold sdL sdR
  generalize hq : x / (2 ^ n : Nat) = q at *
  rw [hd, e1, e2]
  by_cases h0 : q % 2 = 0
  · have hs := sib_even (x := x) (q := q) (n := n) rfl hq.symm h0
    rw [if_pos h0, if_pos h0, hs, show 2 * (q / 2) = q by omega]
    exact ⟨rfl, rfl⟩
  · have hs := sib_odd (x := x) (q := q) (n := n) rfl hq.symm h0
    rw [if_neg h0, if_neg h0, hs, show 2 * (q / 2) = q - 1 by omega, show q - 1 + 1 = q by omega]
    exact ⟨rfl, rfl⟩
theorem ndP_there {l : Prl} {x : Int} (h0 : slF l = 0) {n : Nat} (hn : n < 8) : ndP x (sumL (lfT l x)) (pth l x 8) n = ndT l x n := by
  unfold ndP ndT
  rw [(sd_honest h0 hn).1, (sd_honest h0 hn).2]
theorem nd_two_bts {a b : Int} (ha : 0 ≤ a ∧ a ≤ 65520) (hb : 0 ≤ b ∧ b ≤ 65520) : Bts (tagL 2 [a, b]) := tagL_bts (by omega) (by simp [sumB_iff, ha, hb])
theorem nd_two_len (a b : Int) : (tagL 2 [a, b]).length = 5 := by rw [tagL_len]; rfl
theorem ndP_len (x s : Int) (p : List Int) (n : Nat) : (ndP x s p n).length = 5 := nd_two_len _ _
theorem ndT_len (l : Prl) (x : Int) (n : Nat) : (ndT l x n).length = 5 := nd_two_len _ _
theorem ndP_bts {x s : Int} {p : List Int} (h : 0 ≤ s ∧ s ≤ 65520) (hp : p.all sumB = true) (n : Nat) : Bts (ndP x s p n) := nd_two_bts (sd_bd h hp n).1 (sd_bd h hp n).2
theorem ndT_bts (l : Prl) (x : Int) (n : Nat) : Bts (ndT l x n) := nd_two_bts (nd_bd _ _ _) (nd_bd _ _ _)
/-- The pieces that are shown: the first nodes from the root that are a clash, or the leaves. -/
def ocW (l : Prl) (x s : Int) (p a b : List Int) : Nat → List Int × List Int
  | 0 => (a, b)
  | n + 1 => if l2B (ndP x s p n) (ndT l x n) = true then (ndP x s p n, ndT l x n) else ocW l x s p a b n
theorem ocW_yes {l : Prl} {x s : Int} {p a b : List Int} {n : Nat} (h : l2B (ndP x s p n) (ndT l x n) = true) : ocW l x s p a b (n + 1) = (ndP x s p n, ndT l x n) := by rw [ocW, if_pos h]
theorem ocW_no {l : Prl} {x s : Int} {p a b : List Int} {n : Nat} (h : l2B (ndP x s p n) (ndT l x n) = false) : ocW l x s p a b (n + 1) = ocW l x s p a b n := by rw [ocW, h]; simp
theorem ocW_len {l : Prl} {x s : Int} {p a b : List Int} (ha : a.length ≤ 5) (hb : b.length ≤ 5) : ∀ n, (ocW l x s p a b n).1.length ≤ 5 ∧ (ocW l x s p a b n).2.length ≤ 5 := by
  intro n
  induction n with
  | zero => exact ⟨ha, hb⟩
  | succ n ih =>
    rw [ocW]
    split
    · exact ⟨Nat.le_of_eq (ndP_len _ _ _ _), Nat.le_of_eq (ndT_len _ _ _)⟩
    · exact ih
/-- What OldClash answers. -/
def ocC (l : Prl) (x : Int) (b : Bool) (v : Int) (p : List Int) : Int := if slF l = 0 then (if coC x b v p = 0 then (if coV x b v p = nd l 8 0 then 0 else 9) else coC x b v p) else slF l
def ocP (l : Prl) (x : Int) (b : Bool) (v : Int) (p : List Int) : List Int × List Int := ocW l x (sumL (leafL x b v)) p (leafL x b v) (lfT l x) 8
def ocF (l : Prl) (x : Int) (b : Bool) (v : Int) (p : List Int) : Bool := decide (ocC l x b v p = 0) && l2B (ocP l x b v p).1 (ocP l x b v p).2
theorem oc_slots {l : Prl} {x v : Int} {b : Bool} {p : List Int} (h : ¬ slF l = 0) : ocC l x b v p = slF l ∧ ocF l x b v p = false := by
  have e : ocC l x b v p = slF l := by unfold ocC; rw [if_neg h]
  refine ⟨e, ?_⟩
  unfold ocF
  rw [e, decide_eq_false h]; rfl
theorem oc_told {l : Prl} {x v : Int} {b : Bool} {p : List Int} (h0 : slF l = 0) (h : ¬ coC x b v p = 0) : ocC l x b v p = coC x b v p ∧ ocF l x b v p = false := by
  have e : ocC l x b v p = coC x b v p := by unfold ocC; rw [if_pos h0, if_neg h]
  refine ⟨e, ?_⟩
  unfold ocF
  rw [e, decide_eq_false h]; rfl
theorem oc_root {l : Prl} {x v : Int} {b : Bool} {p : List Int} (h0 : slF l = 0) (h : coC x b v p = 0) (hr : ¬ coV x b v p = nd l 8 0) : ocC l x b v p = 9 ∧ ocF l x b v p = false := by
  have e : ocC l x b v p = 9 := by unfold ocC; rw [if_pos h0, if_pos h, if_neg hr]
  refine ⟨e, ?_⟩
  unfold ocF
  rw [e]; rfl
theorem oc_ok {l : Prl} {x v : Int} {b : Bool} {p : List Int} (h0 : slF l = 0) (h : coC x b v p = 0) (hr : coV x b v p = nd l 8 0) : ocC l x b v p = 0 ∧ ocF l x b v p = l2B (ocP l x b v p).1 (ocP l x b v p).2 := by
  have e : ocC l x b v p = 0 := by unfold ocC; rw [if_pos h0, if_pos h, if_pos hr]
  refine ⟨e, ?_⟩
  unfold ocF
  rw [e]; rfl
theorem co_zero {x v : Int} {b : Bool} {p : List Int} (h : coC x b v p = 0) : askd x b v = true ∧ p.length = 8 ∧ p.all sumB = true := by
  rcases Bool.eq_false_or_eq_true (askd x b v) with ha | ha
  · by_cases h8 : p.length = 8
    · rcases Bool.eq_false_or_eq_true (p.all sumB) with hs | hs
      · exact ⟨ha, h8, hs⟩
      · rw [(co_sum ha h8 hs).1] at h; omega
    · rw [(co_len ha h8).1] at h; omega
  · rw [(co_no ha).1] at h; omega
theorem co_codes (x : Int) (b : Bool) (v : Int) (p : List Int) : coC x b v p = 0 ∨ coC x b v p = 3 ∨ coC x b v p = 9 := by
  unfold coC
  split
  · split
    · split
      · simp
      · simp
    · simp
  · simp
set_option maxRecDepth 100000 in
set_option maxHeartbeats 1000000 in
theorem leafOf_any (v : Value) (l : Prl) (k : Int) (w : World) (hv : Prs w v l) (hx : l.length ≤ 1099511627776) (h0 : slF l = 0) (hk : 0 ≤ k ∧ k ≤ 255) :
    Calls Try.prog 94 #[v, .int .i64 k] w fun e w' => ∃ v', e = .returned v' ∧ w'.ownsRow w.heap.size 5 1 v' (lfT l k).length ((lfT l k).map (Value.int .u8)) ∧ Below w.heap.size w w' := by
  have hF := implFindSlot_any v l k w hv hx
  have hL := fun w => implLeafBytes_any k (thr l k) (fsV l k) w
  rw [(lb_ok (lfT_askd h0 hk)).1, (lb_ok (lfT_askd h0 hk)).2] at hL
  have e0 : fsC l k = if thr l k = true then 0 else 4 := by unfold fsC; rw [if_pos h0]
  obtain ⟨a, c, rfl⟩ := hv.shape
  have e1 : leafL k (thr l k) (fsV l k) = lfT l k := rfl
  rw [e1] at hL
  generalize lfT l k = ys at *
  generalize fsV l k = fv at *
  generalize l.length = n at *
  rcases Bool.eq_false_or_eq_true (thr l k) with ht | ht
  · rw [ht] at hL e0
    rw [if_pos rfl] at e0
    rw [e0] at hF
    clear hv e0 e1 ht h0
    go_enter Try.func94, Try.ntmps94
    go_wp2_with fail
    refine hF.mono ?_
    rintro e w1 ⟨rfl, hb1⟩
    have hB1 := below_after_of hb1 (one_new (.cells #[.int .i64 0, .int .i64 fv] 41))
    clear hF hb1
    go_wp2_with fail
    refine (hL _).mono ?_
    intro e w2 h2
    obtain ⟨a', c', rfl, hb2, ho2⟩ := h2.use
    have kf := fun w => field_BR1 0 a' ys.length c' w
    have HO : w2.ownsRow w.heap.size 5 1 (.slice a' ys.length c') ys.length (ys.map (Value.int .u8)) := own_mono ho2 hB1.size
    have hB2 := below_after_of hB1 hb2
    clear hL h2 ho2 hb2 hB1
    go_wp2
    go_ret
    exact ⟨_, rfl, HO, hB2⟩
  · rw [ht] at hL e0
    rw [if_neg (by simp)] at e0
    rw [e0] at hF
    clear hv e0 e1 ht h0
    go_enter Try.func94, Try.ntmps94
    go_wp2_with fail
    refine hF.mono ?_
    rintro e w1 ⟨rfl, hb1⟩
    have hB1 := below_after_of hb1 (one_new (.cells #[.int .i64 4, .int .i64 fv] 41))
    clear hF hb1
    go_wp2_with fail
    refine (hL _).mono ?_
    intro e w2 h2
    obtain ⟨a', c', rfl, hb2, ho2⟩ := h2.use
    have kf := fun w => field_BR1 0 a' ys.length c' w
    have HO : w2.ownsRow w.heap.size 5 1 (.slice a' ys.length c') ys.length (ys.map (Value.int .u8)) := own_mono ho2 hB1.size
    have hB2 := below_after_of hB1 hb2
    clear hL h2 ho2 hb2 hB1
    go_wp2
    go_ret
    exact ⟨_, rfl, HO, hB2⟩
set_option maxRecDepth 100000 in
set_option maxHeartbeats 1000000 in
theorem l5There_any (v : Value) (l : Prl) (k : Int) (w : World) (hv : Prs w v l) (h0 : slF l = 0) (hk : 0 ≤ k ∧ k ≤ 255) :
    Calls Try.prog 121 #[v, .int .i64 k] w fun e w' => ∃ v', e = .returned v' ∧ w'.ownsRow w.heap.size 5 1 v' (lfT l k).length ((lfT l k).map (Value.int .u8)) ∧ Below w.heap.size w w' := by
  have hl := slF_ok h0
  have hA := l4At_any v l k w hv hl.len hl.ris
  have HV : Hid (Prs w v l) := hv
  have hlen := hl.len
  obtain ⟨a, c, rfl⟩ := hv.shape
  rcases Bool.eq_false_or_eq_true (thr l k) with ht | ht
  · have hlt := thr_lt ht
    have hL := fun w => l5Leaf_any k true (pAt l (low l k)).2 w (by
      have := lfT_askd (l := l) h0 hk
      have e : fsV l k = (pAt l (low l k)).2 := by unfold fsV; rw [if_pos ⟨h0, ht⟩]
      rw [ht, e] at this
      exact this)
    have e1 : leafL k true (pAt l (low l k)).2 = lfT l k := by rw [lfT_there h0 ht]; rfl
    rw [e1] at hL
    rw [if_pos ht] at hA
    obtain ⟨-, b, off, rfl, hbb, hcc⟩ := HV.out.at (by omega)
    obtain ⟨ck, cv⟩ := hcc (low l k) hlt
    generalize lfT l k = ys at *
    generalize (pAt l (low l k)).2 = pv at *
    generalize low l k = m at *
    have hm0 : (0 : Int) ≤ (m : Int) := by omega
    have hml : (m : Int) < (l.length : Int) := by omega
    generalize l.length = n at *
    clear hv hcc ck ht e1 HV hl h0
    go_enter Try.func121, Try.ntmps121
    go_wp2_with fail
    refine hA.mono ?_
    rintro e w1 ⟨rfl, rfl⟩
    clear hA
    go_wp2_with fail
    refine (hL _).mono ?_
    rintro e w2 ⟨v', rfl, ho2, hb2⟩
    obtain ⟨a', c', rfl⟩ := own_shape ho2
    clear hL
    go_wp2
    go_ret
    exact ⟨_, rfl, ho2, hb2⟩
  · rw [ht, if_neg (by simp)] at hA
    rw [lfT_none ht]
    generalize l.length = n at *
    clear hv HV hl h0 ht
    go_enter Try.func121, Try.ntmps121
    go_wp2_with fail
    refine hA.mono ?_
    rintro e w1 ⟨rfl, rfl⟩
    clear hA
    go_wp2
    go_ret
    exact ⟨_, rfl, World.ownsRow_made _ #[] 0 (Nat.le_refl _) (by decide) rfl, one_new _⟩
end U
end Go.Proofs.Ytdcfoggcepkelaa

/- Two nodes held against each other, by the model. -/
namespace Go.Proofs.Ytdcfoggcepkelaa
open Go.RowKit
namespace U
/-- A clash that is handed back. -/
def ClAns (w : World) (f : Bool) (ls bs : List Int) (e : Ending) (w' : World) : Prop :=
  Below w.heap.size w w' ∧ ∃ a1 n1 c1 a2 n2 c2, e = .returned (.agg #[.bool f, .slice a1 n1 c1, .slice a2 n2 c2]) ∧ Rows2 w w' (.slice a1 n1 c1) (.slice a2 n2 c2) f ls bs
theorem Rows2.to3 {w w3 w' : World} {v1 v2 : Value} {f : Bool} {ls bs : List Int} (h : Rows2 w3 w' v1 v2 f ls bs) (hs : w.heap.size + 1 ≤ w3.heap.size) : Rows3 w w' v1 v2 (pick f ls) (pick f bs) := ⟨own_mono h.1 hs, own_mono h.2.1 hs, h.2.2⟩
theorem Rows3.below {w w1 w2 : World} {v1 v2 : Value} {xs ys : List Int} (h : Rows3 w w1 v1 v2 xs ys) (hb : Below w1.heap.size w1 w2) : Rows3 w w2 v1 v2 xs ys := ⟨own_below h.1 hb, own_below h.2.1 hb, h.2.2⟩
theorem clAns_of {w w' : World} {f : Bool} {ls bs : List Int} {e : Ending} (h : Below w.heap.size w w' ∧ ∃ v1 v2, e = .returned (.agg #[.bool f, v1, v2]) ∧ Rows2 w w' v1 v2 f ls bs) : ClAns w f ls bs e w' := by
  obtain ⟨hb, v1, v2, rfl, hr⟩ := h
  obtain ⟨⟨a1, c1, rfl⟩, a2, c2, rfl⟩ := hr.shape
  exact ⟨hb, _, _, _, _, _, _, rfl, hr⟩
set_option maxRecDepth 100000 in
set_option maxHeartbeats 2000000 in
theorem l5Nodes_any (a b c d : Int) (w : World) (ha : 0 ≤ a ∧ a ≤ 65520) (hb : 0 ≤ b ∧ b ≤ 65520) (hc : 0 ≤ c ∧ c ≤ 65520) (hd : 0 ≤ d ∧ d ≤ 65520) :
    Calls Try.prog 120 #[.int .i64 a, .int .i64 b, .int .i64 c, .int .i64 d] w fun e w' => ClAns w (l2B (tagL 2 [a, b]) (tagL 2 [c, d])) (tagL 2 [a, b]) (tagL 2 [c, d]) e w' := by
  have h1 := nd_two_bts ha hb
  have h2 := nd_two_bts hc hd
  have l1 := nd_two_len a b
  have l2 := nd_two_len c d
  have hB1 := fun w u h => l2Bytes_any 2 u [a, b] w h (by simp) (by omega) (by simp [sumB_iff, ha, hb])
  have hB2 := fun w u h => l2Bytes_any 2 u [c, d] w h (by simp) (by omega) (by simp [sumB_iff, hc, hd])
  have hC := fun A B v u w hv hu => l2Clash_any A B v u (tagL 2 [a, b]) (tagL 2 [c, d]) w hv hu h1 h2 (by omega) (by omega)
  generalize l2B (tagL 2 [a, b]) (tagL 2 [c, d]) = f at *
  generalize tagL 2 [a, b] = ls at *
  generalize tagL 2 [c, d] = bs at *
  have HL : Hid (ls.length = 5 ∧ bs.length = 5) := ⟨l1, l2⟩
  clear h1 h2 l1 l2 ha hb hc hd
  go_enter Try.func120, Try.ntmps120
  go_wp2_with fail
  refine (hB1 _ _ (two_ints_at (by simp))).mono ?_
  rintro e w1 ⟨v1, rfl, own1, hb1⟩
  rw [HL.out.1] at own1
  obtain ⟨a1, c1, rfl⟩ := own_shape own1
  have hb1' := below_after_of (one_new (.cells #[.int .i64 a, .int .i64 b] 2)) hb1
  clear hB1 hb1
  go_wp2_with fail
  refine (hB2 _ _ (two_ints_at (by first | rfl | simp))).mono ?_
  rintro e w2 ⟨v2, rfl, own2, hb2⟩
  rw [HL.out.2] at own2
  obtain ⟨a2, c2, rfl⟩ := own_shape own2
  have hb2' := below_after_of (one_new (.cells #[.int .i64 c, .int .i64 d] 2)) hb2
  have own1 := own_below own1 hb2'
  have hb3 := below_after_of hb1' hb2'
  have hsz : w.heap.size + 1 ≤ w2.heap.size := by have := hb3.size; simp at this; omega
  have own1 : w2.ownsRow 0 5 1 (.slice a1 5 c1) ls.length (ls.map (Value.int .u8)) := by rw [HL.out.1]; exact own_mono own1 (Nat.zero_le _)
  have own2 : w2.ownsRow 0 5 1 (.slice a2 5 c2) bs.length (bs.map (Value.int .u8)) := by rw [HL.out.2]; exact own_mono own2 (Nat.zero_le _)
  obtain ⟨q0, q1, q2, f0, f1, f2⟩ := three_cellsV ((hb3.block w.heap.size (by simp)).trans (heap_alloc_new w _))
  have hB3 := below_after hb3
  clear hB2 hb2 hb2' hb1' hb3
  go_wp2_with fail
  refine (hC _ _ _ _ _ own1 own2).mono ?_
  rintro e w4 h4
  obtain ⟨hb4, a3, n3, c3, a4, n4, c4, rfl, hr⟩ := clAns_of h4
  have q0 := (hb4.cell (p := ⟨w.heap.size, 0, none⟩) (by exact hsz)).trans q0
  have q1 := (hb4.cell (p := ⟨w.heap.size, 1, none⟩) (by exact hsz)).trans q1
  have q2 := (hb4.cell (p := ⟨w.heap.size, 2, none⟩) (by exact hsz)).trans q2
  have f0 := (hb4.frozen (p := ⟨w.heap.size, 0, none⟩) (by exact hsz)).trans f0
  have f1 := (hb4.frozen (p := ⟨w.heap.size, 1, none⟩) (by exact hsz)).trans f1
  have f2 := (hb4.frozen (p := ⟨w.heap.size, 2, none⟩) (by exact hsz)).trans f2
  have hB4 := below_after_of hB3 hb4
  have HR : Hid (Rows3 w w4 (.slice a3 n3 c3) (.slice a4 n4 c4) (pick f ls) (pick f bs)) := hr.to3 hsz
  clear h4 hr hb4 hB3 own1 own2 hC
  go_wp2
  exact bodyPost_ret (v := .agg #[.bool f, .slice a3 n3 c3, .slice a4 n4 c4]) (by simp [results, Try.results120, go_sem, q0, q1, q2]) rfl ⟨((hB4.setCell (Nat.le_refl _) _).setCell (Nat.le_refl _) _).setCell (Nat.le_refl _) _, _, _, _, _, _, _, rfl, Rows3.rows (((HR.out.set 0 _).set 1 _).set 2 _)⟩
end U
end Go.Proofs.Ytdcfoggcepkelaa
