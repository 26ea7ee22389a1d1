/- Joined: what the texts behind it need. -/
import Derived.Test.YtdbbmclobmigdaaGreatSl1
import Derived.Test.YtdbbmclobmigdaaGreatQuiet
import Derived.Deep.RegionHeld3
import Derived.WalkLawsBesides
import Derived.Test.YtdbbmclobmigdaaGreatSlL
import Derived.Deep.AppendLies
import Derived.Test.YtdbbmclobmigdaaGreatPairs
import Derived.ScopeJumps
import Derived.WalkMore
/- The sums of what is empty, by the program and by the model. -/
namespace Go.Proofs.YtdbbmclobmigdaaGreat
open Go.RowKit
namespace U
theorem pair_tag {tag a b : Int} (ht : 1 ≤ tag ∧ tag ≤ 9) (ha : 0 ≤ a ∧ a ≤ 65520) (hb : 0 ≤ b ∧ b ≤ 65520) : tgC tag [a, b] = 0 ∧ tsV tag [a, b] = sumL (tagL tag [a, b]) := by
  have h1 : inB tag 1 9 = true := inB_t ht.1 ht.2
  have h3 : [a, b].all sumB = true := by simp [sumB_iff, ha, hb]
  have h2 : ¬ 20 < [a, b].length := by simp
  have := tg_ok h1 h2 h3
  exact ⟨this.1, by rw [ts_ok this.1, this.2]⟩
theorem two_ints (w : World) (a b : Int) (t : TypeId) : Ints .i64 (w.alloc (.cells #[.int .i64 a, .int .i64 b] t)) (.slice (some ⟨w.heap.size, 0, none⟩) 2 2) [a, b] := by
  refine Or.inr ⟨w.heap.size, 0, 2, rfl, by simp, fun j hj => ?_⟩
  have hh := heap_alloc_new w (.cells #[.int .i64 a, .int .i64 b] t)
  have hj2 : j < 2 := hj
  rcases (by omega : j = 0 ∨ j = 1) with rfl | rfl <;> (unfold World.cell?; rw [hh]; rfl)
theorem two_ints_at {w : World} {g : Nat} {a b : Int} {t : TypeId} (hg : g = w.heap.size) : Ints .i64 (w.alloc (.cells #[.int .i64 a, .int .i64 b] t)) (.slice (some ⟨g, 0, none⟩) 2 2) [a, b] := by subst hg; exact two_ints w a b t
theorem field_IR1 (x y : Int) (w : World) : (Instr.field 58 (.agg #[.int .i64 x, .int .i64 y]) 1).run Tryz.prog w = .ok (.int .i64 y) w := by kernel_rfl
set_option maxRecDepth 100000 in
theorem pairSum_any (a b : Int) (w : World) (ha : 0 ≤ a ∧ a ≤ 65520) (hb : 0 ≤ b ∧ b ≤ 65520) :
    Calls Tryz.prog 159 #[.int .i64 a, .int .i64 b] w fun e w' => e = .returned (.int .i64 (t2 a b)) ∧ Below w.heap.size w w' := by
  have hT := fun (w : World) hv => implTagSum_any 2 (.slice (some ⟨w.heap.size, 0, none⟩) 2 2) [a, b] (w.alloc (.cells #[.int .i64 a, .int .i64 b] 2)) hv (by simp)
  have hp := pair_tag (tag := 2) (by omega) ha hb
  rw [hp.1, hp.2] at hT
  have e0 : sumL (tagL 2 [a, b]) = t2 a b := rfl
  rw [e0] at hT
  generalize t2 a b = s at *
  clear hp e0
  have kf := fun w => field_IR1 0 s w
  go_enter Tryz.func159, Tryz.ntmps159
  go_wp2_with fail
  refine (hT _ (two_ints _ _ _ _)).mono ?_
  rintro e w1 ⟨rfl, hb1⟩
  clear hT
  go_wp2
  go_ret
  exact ⟨rfl, below_after hb1⟩
set_option maxRecDepth 100000 in
set_option maxHeartbeats 1000000 in
theorem l2Tag2_any (tag a b : Int) (u : Value) (w : World) (ht : 0 ≤ tag ∧ tag ≤ 255) (hu : Ints .i64 w u [a, b]) (ha : 0 ≤ a ∧ a ≤ 65520) (hb : 0 ≤ b ∧ b ≤ 65520) :
    Calls Tryz.prog 155 #[.int .i64 tag, u] w fun e w' => e = .returned (.int .i64 (sumL (tagL tag [a, b]))) ∧ Below w.heap.size w w' := by
  have h3 : [a, b].all sumB = true := by simp [sumB_iff, ha, hb]
  have hB := fun w h => l2Bytes_any tag u [a, b] w h (by simp) ht h3
  have hS := fun v w h => l2Sum_any v (tagL tag [a, b]) w h (tagL_bts ht h3) (by rw [tagL_len]; simp)
  have hl : (tagL tag [a, b]).length = 5 := by rw [tagL_len]; rfl
  have HU : Hid (Ints .i64 w u [a, b]) := hu
  obtain ⟨a', c', hu2⟩ := hu.shape
  have hu3 : u = .slice a' 2 c' := hu2
  subst hu3
  clear hu2
  rw [hl] at hB
  have HL : Hid ((tagL tag [a, b]).length = 5) := hl
  generalize sumL (tagL tag [a, b]) = s at *
  generalize tagL tag [a, b] = ys at *
  clear hu hl h3 ha hb ht
  go_enter Tryz.func155, Tryz.ntmps155
  go_wp2_with fail
  refine (hB _ HU.out).mono ?_
  rintro e w1 ⟨v', rfl, own1, hb1⟩
  rw [← HL.out] at own1
  have HI : Hid (Ints .u8 w1 v' ys) := own_ints own1
  obtain ⟨a1, c1, rfl⟩ := own_shape own1
  rw [HL.out] at HI ⊢
  clear hB own1
  go_wp2_with fail
  refine (hS _ _ HI.out).mono ?_
  rintro e w2 ⟨rfl, rfl⟩
  clear hS
  go_wp2
  go_ret
  exact ⟨rfl, hb1⟩
/-- The code and the value of the sum of what is empty. -/
def eC (n : Int) : Int := if inB n 0 8 = true then 0 else 3
def eV (n : Int) : Int := if inB n 0 8 = true then emp n.toNat else 0
end U
end Go.Proofs.YtdbbmclobmigdaaGreat

/- What is summed for a leaf, by the program and by the model. -/
namespace Go.Proofs.YtdbbmclobmigdaaGreat
open Go.RowKit
namespace U
/-- Whether a leaf is asked as it may be; its bytes. -/
def askd (k : Int) (b : Bool) (v : Int) : Bool := inB k 0 255 && (if b = true then sumB v else decide (v = 0))
def leafL (k : Int) (b : Bool) (v : Int) : List Int := if b = true then tagL 3 [k, v] else []
def lbC (k : Int) (b : Bool) (v : Int) : Int := if askd k b v = true then 0 else 3
def lbL (k : Int) (b : Bool) (v : Int) : List Int := if askd k b v = true then leafL k b v else []
theorem lb_no {k v : Int} {b : Bool} (h : askd k b v = false) : lbC k b v = 3 ∧ lbL k b v = [] := by simp [lbC, lbL, h]
theorem lb_ok {k v : Int} {b : Bool} (h : askd k b v = true) : lbC k b v = 0 ∧ lbL k b v = leafL k b v := by simp [lbC, lbL, h]
theorem lb_nokey {k v : Int} {b : Bool} (h : inB k 0 255 = false) : askd k b v = false := by simp [askd, h]
theorem lb_there {k v : Int} (h : inB k 0 255 = true) : askd k true v = sumB v := by simp [askd, h]
theorem lb_none {k v : Int} (h : inB k 0 255 = true) : askd k false v = decide (v = 0) := by simp [askd, h]
theorem askd_key {k v : Int} {b : Bool} (h : askd k b v = true) : 0 ≤ k ∧ k ≤ 255 := by
  unfold askd at h
  rw [Bool.and_eq_true] at h
  exact inB_bd h.1
theorem leaf_two {k v : Int} (hk : 0 ≤ k ∧ k ≤ 255) (hv : sumB v = true) : tgC 3 [k, v] = 0 ∧ tgL 3 [k, v] = tagL 3 [k, v] := by
  have hv' := (sumB_iff v).1 hv
  have h3 : [k, v].all sumB = true := by
    have : sumB k = true := (sumB_iff k).2 (by omega)
    simp [this, hv]
  exact tg_ok (by decide) (by simp) h3
theorem leafL_len (k : Int) (b : Bool) (v : Int) : (leafL k b v).length ≤ 5 := by
  unfold leafL
  split
  · rw [tagL_len]; simp
  · simp
theorem leafL_bts {k v : Int} {b : Bool} (h : askd k b v = true) : Bts (leafL k b v) := by
  unfold leafL
  split
  · rename_i hb
    subst hb
    have hk := askd_key h
    have hv : sumB v = true := by
      unfold askd at h
      rw [Bool.and_eq_true] at h
      simpa using h.2
    have hv' := (sumB_iff v).1 hv
    refine tagL_bts (by omega) ?_
    have : sumB k = true := (sumB_iff k).2 (by omega)
    simp [this, hv]
  · intro b hb; cases hb
theorem lbL_len (k : Int) (b : Bool) (v : Int) : (lbL k b v).length ≤ 5 := by
  unfold lbL
  split
  · exact leafL_len k b v
  · simp
set_option maxRecDepth 100000 in
set_option maxHeartbeats 1000000 in
theorem implLeafBytes_any (k : Int) (b : Bool) (v : Int) (w : World) :
    Calls Tryz.prog 163 #[.int .i64 k, .bool b, .int .i64 v] w fun e w' => BytesAns w (lbC k b v) (lbL k b v) e w' := by
  have HK := fun w => isKey_any k w
  have HV := fun w => isSum_any v w
  rcases Bool.eq_false_or_eq_true (inB k 0 255) with hk | hk
  · rw [hk] at HK
    cases b
    · by_cases h0 : v = 0
      · have e := lb_ok (k := k) (b := false) (v := v) (by rw [lb_none hk]; simp [h0])
        rw [e.1, e.2]
        subst h0
        clear e HV
        go_enter Tryz.func163, Tryz.ntmps163
        go_wp2_with fail
        refine (HK _).mono ?_
        rintro e w1 ⟨rfl, rfl⟩
        clear HK
        go_wp2
        exact bodyPost_ret (v := .agg #[.int .i64 0, .slice none 0 0]) (by simp [results, Tryz.results163, go_sem]) rfl ⟨one_new _, _, rfl, World.ownsRow_nil _ _ _ _⟩
      · have e := lb_no (k := k) (b := false) (v := v) (by rw [lb_none hk]; simp [h0])
        rw [e.1, e.2]
        clear e HV
        go_enter Tryz.func163, Tryz.ntmps163
        go_wp2_with fail
        refine (HK _).mono ?_
        rintro e w1 ⟨rfl, rfl⟩
        clear HK
        go_wp2
        exact bodyPost_ret (v := .agg #[.int .i64 3, .slice none 0 0]) (by simp [results, Tryz.results163, go_sem]) rfl ⟨one_new _, _, rfl, World.ownsRow_nil _ _ _ _⟩
    · rcases Bool.eq_false_or_eq_true (sumB v) with hs | hs
      · rw [hs] at HV
        have e := lb_ok (k := k) (b := true) (v := v) (by rw [lb_there hk]; exact hs)
        have e2 := leaf_two (inB_bd hk) hs
        have hT := fun (w : World) u hv => implTagBytes_any 3 u [k, v] w hv (by simp)
        rw [e2.1, e2.2] at hT
        have HE : Hid (leafL k true v = tagL 3 [k, v]) := rfl
        rw [e.1, e.2]
        generalize leafL k true v = zs at *
        generalize tagL 3 [k, v] = ys at *
        clear e e2
        go_enter Tryz.func163, Tryz.ntmps163
        go_wp2_with fail
        refine (HK _).mono ?_
        rintro e w1 ⟨rfl, rfl⟩
        clear HK
        go_wp2_with fail
        refine (HV _).mono ?_
        rintro e w1 ⟨rfl, rfl⟩
        clear HV
        go_wp2_with fail
        refine (hT _ _ (two_ints_at (by simp))).mono ?_
        intro e w1 h1
        obtain ⟨a', c', rfl, hb1, ho1⟩ := h1.use
        have hb0 := below_after_of (one_new (.cells #[.int .i64 k, .int .i64 v] 2)) hb1
        obtain ⟨hc0, hc1, hf0, hf1⟩ := two_cells ((hb0.block w.heap.size (by simp)).trans (heap_alloc_new w _))
        have hB1 : Below w.heap.size w w1 := below_after hb0
        have HO : Hid (w1.ownsRow (w.heap.size + 1) 5 1 (.slice a' ys.length c') ys.length (ys.map (Value.int .u8))) := by show World.ownsRow _ _ _ _ _ _ _; exact own_mono ho1 (by simp)
        clear ho1 hb1 hT hb0
        go_wp2
        exact bodyPost_ret (v := .agg #[.int .i64 0, .slice a' ys.length c']) (by simp [results, Tryz.results163, go_sem, hc0, hc1]) rfl (by rw [HE.out]; exact ⟨(hB1.setCell (Nat.le_refl _) _).setCell (Nat.le_refl _) _, _, rfl, own_mono (ownsRow_setCell_below (ownsRow_setCell_below HO.out (by simp) _) (by simp) _) (by omega)⟩)
      · rw [hs] at HV
        have e := lb_no (k := k) (b := true) (v := v) (by rw [lb_there hk]; exact hs)
        rw [e.1, e.2]
        clear e
        go_enter Tryz.func163, Tryz.ntmps163
        go_wp2_with fail
        refine (HK _).mono ?_
        rintro e w1 ⟨rfl, rfl⟩
        clear HK
        go_wp2_with fail
        refine (HV _).mono ?_
        rintro e w1 ⟨rfl, rfl⟩
        clear HV
        go_wp2
        exact bodyPost_ret (v := .agg #[.int .i64 3, .slice none 0 0]) (by simp [results, Tryz.results163, go_sem]) rfl ⟨one_new _, _, rfl, World.ownsRow_nil _ _ _ _⟩
  · have e := lb_no (k := k) (b := b) (v := v) (lb_nokey hk)
    rw [e.1, e.2]
    rw [hk] at HK
    clear e HV
    go_enter Tryz.func163, Tryz.ntmps163
    go_wp2_with fail
    refine (HK _).mono ?_
    rintro e w1 ⟨rfl, rfl⟩
    clear HK
    go_wp2
    exact bodyPost_ret (v := .agg #[.int .i64 3, .slice none 0 0]) (by simp [results, Tryz.results163, go_sem]) rfl ⟨one_new _, _, rfl, World.ownsRow_nil _ _ _ _⟩
set_option maxRecDepth 100000 in
set_option maxHeartbeats 1000000 in
theorem l5Asked_any (k : Int) (b : Bool) (v : Int) (w : World) :
    Calls Tryz.prog 127 #[.int .i64 k, .bool b, .int .i64 v] w fun e w' => e = .returned (.bool (askd k b v)) ∧ w' = w := by
  have HK := fun w => l4Key_any k w
  have HV := fun w => l2Is4 v w
  rcases Bool.eq_false_or_eq_true (inB k 0 255) with hk | hk
  · rw [hk] at HK
    cases b
    · rw [lb_none hk]
      go_enter Tryz.func127, Tryz.ntmps127
      go_wp2_with fail
      refine (HK _).mono ?_
      rintro e w1 ⟨rfl, rfl⟩
      clear HK HV
      go_wp2
      go_ret
      exact ⟨ret_bool (by first | rfl | simp), rfl⟩
    · rw [lb_there hk]
      generalize sumB v = s at *
      cases s
      · go_enter Tryz.func127, Tryz.ntmps127
        go_wp2_with fail
        refine (HK _).mono ?_
        rintro e w1 ⟨rfl, rfl⟩
        clear HK
        go_wp2_with fail
        refine (HV _).mono ?_
        rintro e w1 ⟨rfl, rfl⟩
        clear HV
        go_wp2
        go_ret
        exact ⟨rfl, rfl⟩
      · go_enter Tryz.func127, Tryz.ntmps127
        go_wp2_with fail
        refine (HK _).mono ?_
        rintro e w1 ⟨rfl, rfl⟩
        clear HK
        go_wp2_with fail
        refine (HV _).mono ?_
        rintro e w1 ⟨rfl, rfl⟩
        clear HV
        go_wp2
        go_ret
        exact ⟨rfl, rfl⟩
  · rw [lb_nokey hk]
    rw [hk] at HK
    clear HV
    go_enter Tryz.func127, Tryz.ntmps127
    go_wp2_with fail
    refine (HK _).mono ?_
    rintro e w1 ⟨rfl, rfl⟩
    clear HK
    go_wp2
    go_ret
    exact ⟨rfl, rfl⟩
set_option maxRecDepth 100000 in
set_option maxHeartbeats 1000000 in
theorem l5Leaf_any (k : Int) (b : Bool) (v : Int) (w : World) (h : askd k b v = true) :
    Calls Tryz.prog 130 #[.int .i64 k, .bool b, .int .i64 v] w fun e w' => ∃ v', e = .returned v' ∧ w'.ownsRow w.heap.size 5 1 v' (leafL k b v).length ((leafL k b v).map (Value.int .u8)) ∧ Below w.heap.size w w' := by
  have hk := askd_key h
  cases b
  · have e0 : leafL k false v = [] := rfl
    rw [e0]
    clear h hk e0
    go_enter Tryz.func130, Tryz.ntmps130
    go_wp2
    go_ret
    exact ⟨_, rfl, World.ownsRow_made w #[] 0 (Nat.le_refl _) (by decide) rfl, one_new _⟩
  · have hs : sumB v = true := by rw [← lb_there (inB_t hk.1 hk.2)]; exact h
    have hs' := (sumB_iff v).1 hs
    have e0 : leafL k true v = tagL 3 [k, v] := rfl
    have h3 : [k, v].all sumB = true := by
      have : sumB k = true := (sumB_iff k).2 (by omega)
      simp [this, hs]
    have hB := fun w u h => l2Bytes_any 3 u [k, v] w h (by simp) (by omega) h3
    rw [e0]
    generalize tagL 3 [k, v] = ys at *
    clear h hk hs hs' e0 h3
    go_enter Tryz.func130, Tryz.ntmps130
    go_wp2_with fail
    refine (hB _ _ (two_ints _ _ _ _)).mono ?_
    rintro e w1 ⟨v', rfl, own1, hb1⟩
    obtain ⟨a', c', rfl⟩ := own_shape own1
    have HO : w1.ownsRow w.heap.size 5 1 (.slice a' ys.length c') ys.length (ys.map (Value.int .u8)) := own_mono own1 (by simp)
    have hB1 := below_after hb1
    clear hB own1 hb1
    go_wp2
    go_ret
    exact ⟨_, rfl, HO, hB1⟩
end U
end Go.Proofs.YtdbbmclobmigdaaGreat

/- A number below 65536, kept as a float, comes back. -/
namespace Go.Proofs.YtdbbmclobmigdaaGreat
namespace U
theorem fl_word (n : Nat) (L : Nat) (hL : n.log2 = L) (h0 : n ≠ 0) (h15 : L ≤ 15) (hhi : n < 2 ^ (L + 1)) :
    floatOfInt .f64 (n : Int) = (L + 1022) * 2 ^ 52 + n * 2 ^ (52 - L) := by
  have hneg : ((n : Int) < 0) = False := by simp
  simp only [floatOfInt, FloatKind.nearest, FloatKind.encode, FloatKind.format, Ieee.Format.write, Ieee.Format.nearest, hneg, Int.natAbs_natCast, decide_false, if_neg h0, hL, Ieee.double, Ieee.Format.leastPlace, Ieee.Format.word, Ieee.Format.binade, Ieee.Format.infRung, Ieee.Toward.cut]
  have e1 : max (0 + (L : Int) - ((52 : Nat) : Int)) (2 - 2 ^ (11 - 1) - ((52 : Nat) : Int)) = (L : Int) - 52 := by
    have : (2 : Int) ^ (11 - 1) = 1024 := by decide
    omega
  have e2 : (0 - ((L : Int) - 52)).toNat = 52 - L := by omega
  have e3 : ((L : Int) - 52 - 0).toNat = 0 := by omega
  have e4 : ((L : Int) - 52 - (2 - 2 ^ (11 - 1) - ((52 : Nat) : Int))).toNat = L + 1022 := by
    have : (2 : Int) ^ (11 - 1) = 1024 := by decide
    omega
  rw [e1, e2, e3, e4]
  have hb : n * 2 ^ (52 - L) < 2 ^ 53 := by
    have : n * 2 ^ (52 - L) < 2 ^ (L + 1) * 2 ^ (52 - L) := Nat.mul_lt_mul_of_pos_right hhi (Nat.two_pow_pos _)
    rw [← Nat.pow_add] at this
    rwa [show L + 1 + (52 - L) = 53 by omega] at this
  clear e1 e2 e3 e4
  simp [Nat.shiftLeft_eq, Nat.mod_one]
  omega

theorem fl_toVal {src : FloatKind} {bits : Nat} {dst : IntKind} {n : Int} (h : (src.decode bits).toInt .zero = some n) (hr : dst.min ≤ n ∧ n ≤ dst.max) : floatToIntVal src bits dst = some n := by
  unfold floatToIntVal
  rw [h]
  simp [hr]

theorem fl_back (n : Nat) (h : n < 65536) : floatToIntVal .f64 (floatOfInt .f64 (n : Int)) .i64 = some (n : Int) := by
  by_cases h0 : n = 0
  · subst h0; decide +kernel
  · obtain ⟨L, hL⟩ : ∃ L, n.log2 = L := ⟨_, rfl⟩
    have hlo : 2 ^ L ≤ n := by rw [← hL]; exact Nat.log2_self_le h0
    have hhi : n < 2 ^ (L + 1) := by rw [← hL]; exact Nat.lt_log2_self
    have h15 : L ≤ 15 := by
      apply Nat.le_of_not_lt
      intro hc
      have : 2 ^ 16 ≤ 2 ^ L := Nat.pow_le_pow_right (by omega) hc
      omega
    rw [fl_word n L hL h0 h15 hhi]
    have hb1 : n * 2 ^ (52 - L) < 2 ^ 53 := by
      have : n * 2 ^ (52 - L) < 2 ^ (L + 1) * 2 ^ (52 - L) := Nat.mul_lt_mul_of_pos_right hhi (Nat.two_pow_pos _)
      rw [← Nat.pow_add] at this
      rwa [show L + 1 + (52 - L) = 53 by omega] at this
    have hb2 : 2 ^ 52 ≤ n * 2 ^ (52 - L) := by
      have : 2 ^ L * 2 ^ (52 - L) ≤ n * 2 ^ (52 - L) := Nat.mul_le_mul_right _ hlo
      rw [← Nat.pow_add] at this
      rwa [show L + (52 - L) = 52 by omega] at this
    obtain ⟨m, hm⟩ : ∃ m, n * 2 ^ (52 - L) = m := ⟨_, rfl⟩
    have hrd : (FloatKind.f64.decode ((L + 1022) * 2 ^ 52 + n * 2 ^ (52 - L))) = .number false (n * 2 ^ (52 - L)) ((L : Int) - 52) := by
      rw [hm] at hb1 hb2 ⊢
      have q1 : ((L + 1022) * 2 ^ 52 + m) / 2 ^ 63 = 0 := by omega
      have q2 : ((L + 1022) * 2 ^ 52 + m) % 2 ^ 63 = (L + 1022) * 2 ^ 52 + m := by omega
      have q3 : ((L + 1022) * 2 ^ 52 + m) / 2 ^ 52 = L + 1023 := by omega
      have q4 : ((L + 1022) * 2 ^ 52 + m) % 2 ^ 52 = m - 2 ^ 52 := by omega
      simp only [FloatKind.decode, FloatKind.format, Ieee.Format.read, Ieee.double, Ieee.Format.signWeight, Ieee.Format.binade, Ieee.Format.infRung, Ieee.Format.leastPlace, Nat.reduceAdd, q1, q2, q3, q4]
      rw [if_neg (by omega), if_pos (by omega)]
      have z1 : 2 ^ 52 + (m - 2 ^ 52) = m := by omega
      have z2 : (2 : Int) - 2 ^ (11 - 1) - ((52 : Nat) : Int) + ((L + 1023 - 1 : Nat) : Int) = (L : Int) - 52 := by
        have : (2 : Int) ^ (11 - 1) = 1024 := by decide
        omega
      rw [z1, z2]
      rfl
    have hti : (Ieee.Datum.number false (n * 2 ^ (52 - L)) ((L : Int) - 52)).toInt .zero = some (n : Int) := by
      have hlog : 52 - L ≤ (n * 2 ^ (52 - L)).log2 := by
        have : (52 : Nat) ≤ (n * 2 ^ (52 - L)).log2 := (Nat.le_log2 (by omega)).2 hb2
        omega
      have e1 : ((L : Int) - 52).toNat = 0 := by omega
      have e2 : (-((L : Int) - 52)).toNat = 52 - L := by omega
      have hc : Ieee.Toward.cut .zero false ((n * 2 ^ (52 - L)) <<< 0) (52 - L) = n := by
        unfold Ieee.Toward.cut
        simp only [Nat.shiftLeft_zero, Bool.toNat_false, Nat.add_zero]
        rw [Nat.min_eq_left (Nat.le_trans hlog (Nat.le_add_right _ _)), Nat.one_shiftLeft, Nat.mul_div_cancel _ (Nat.two_pow_pos _)]
      unfold Ieee.Datum.toInt Ieee.Datum.integral
      simp only [e1, e2, hc]
      simp [Ieee.signed]
    have hr : (IntKind.i64.min : Int) ≤ n ∧ (n : Int) ≤ IntKind.i64.max := by
      have a : IntKind.i64.min = -9223372036854775808 := by decide +kernel
      have b : IntKind.i64.max = 9223372036854775807 := by decide +kernel
      rw [a, b]; omega
    refine fl_toVal ?_ hr
    rw [hrd, hti]
end U
end Go.Proofs.YtdbbmclobmigdaaGreat

/- Two sums as one complex number, by the program. -/
namespace Go.Proofs.YtdbbmclobmigdaaGreat
open Go.RowKit
namespace U
/-- Two sums, as one number. -/
def cx (a b : Int) : Value := .complex .f64 (floatOfInt .f64 a) (floatOfInt .f64 b)
theorem fl_int {a : Int} (h : 0 ≤ a ∧ a ≤ 65520) : floatToIntVal .f64 (floatOfInt .f64 a) .i64 = some a := by
  obtain ⟨n, rfl⟩ : ∃ n : Nat, a = n := ⟨a.toNat, by omega⟩
  exact fl_back n (by omega)
set_option maxRecDepth 100000 in
theorem bothSides_even (q s o : Int) (w : World) (hq : 0 ≤ q) (h : q % 2 = 0) :
    Calls Tryz.prog 175 #[.int .i64 q, .int .i64 s, .int .i64 o] w fun e w' => e = .returned (cx s o) ∧ w' = w := by
  have ht : Int.tmod q 2 = 0 := by rw [Int.tmod_eq_emod_of_nonneg hq]; exact h
  go_enter Tryz.func175, Tryz.ntmps175
  go_wp2
  go_ret
  exact ⟨rfl, rfl⟩
set_option maxRecDepth 100000 in
theorem bothSides_odd (q s o : Int) (w : World) (hq : 0 ≤ q) (h : ¬ q % 2 = 0) :
    Calls Tryz.prog 175 #[.int .i64 q, .int .i64 s, .int .i64 o] w fun e w' => e = .returned (cx o s) ∧ w' = w := by
  have ht : ¬ Int.tmod q 2 = 0 := by rw [Int.tmod_eq_emod_of_nonneg hq]; exact h
  go_enter Tryz.func175, Tryz.ntmps175
  go_wp2
  go_ret
  exact ⟨rfl, rfl⟩
/-- The number, taken apart again. -/
theorem conv_fl {a : Int} (h : 0 ≤ a ∧ a ≤ 65520) (w : World) : (convert 271 2 (.float .f64 (floatOfInt .f64 a))).run Tryz.prog w = .ok (.int .i64 a) w :=
  run_convert_float_int w 271 2 .f64 .i64 _ a (by rw [Tryz.underlying271]; rfl) Tryz.underlying2 (fl_int h)
set_option maxRecDepth 100000 in
theorem nodeSum_any (a b : Int) (w : World) (ha : 0 ≤ a ∧ a ≤ 65520) (hb : 0 ≤ b ∧ b ≤ 65520) :
    Calls Tryz.prog 176 #[cx a b] w fun e w' => e = .returned (.int .i64 (t2 a b)) ∧ Below w.heap.size w w' := by
  have hP := fun w => pairSum_any a b w ha hb
  have c1 := fun w => conv_fl ha w
  have c2 := fun w => conv_fl hb w
  unfold cx
  generalize floatOfInt .f64 a = fa at *
  generalize floatOfInt .f64 b = fb at *
  generalize t2 a b = s at *
  go_enter Tryz.func176, Tryz.ntmps176
  go_wp2_with fail
  refine (hP _).mono ?_
  rintro e w1 ⟨rfl, hb1⟩
  clear hP c1 c2
  go_wp2
  go_ret
  exact ⟨rfl, hb1⟩
theorem field_BR1 (c : Int) (a : Option Addr) (n k : Nat) (w : World) : (Instr.field 174 (.agg #[.int .i64 c, .slice a n k]) 1).run Tryz.prog w = .ok (.slice a n k) w := by kernel_rfl
end U
end Go.Proofs.YtdbbmclobmigdaaGreat

/- Where a key stands: a binary search over slots. -/
namespace Go.Proofs.YtdbbmclobmigdaaGreat
open Go.RowKit
namespace U
def cmpI (x k : Int) : Int := if x < k then -1 else if k < x then 1 else 0
set_option maxRecDepth 100000 in
theorem isNaN_any (x : Int) (w : World) : Calls Tryz.prog 183 #[.int .i64 x] w fun e w' => e = .returned (.bool false) ∧ ∃ n, w' = w.drewN n := by
  go_enter Tryz.func183, Tryz.ntmps183
  go_wp2
  go_ret
  exact ⟨ret_bool (by simp), 0, rfl⟩
set_option maxRecDepth 100000 in
theorem compare_any (x k : Int) (w : World) : Calls Tryz.prog 173 #[.int .i64 x, .int .i64 k] w fun e w' => e = .returned (.int .i64 (cmpI x k)) ∧ ∃ n, w' = w.drewN n := by
  have hN := fun x w => isNaN_any x w
  unfold cmpI
  by_cases h1 : x < k
  · rw [if_pos h1]
    go_enter Tryz.func173, Tryz.ntmps173
    go_wp2_with (go_at_call 183; refine (hN _ _).mono ?_; rintro e w1 ⟨rfl, n1, rfl⟩)
    go_ret
    exact ⟨rfl, _, rfl⟩
  · rw [if_neg h1]
    by_cases h2 : k < x
    · rw [if_pos h2]
      go_enter Tryz.func173, Tryz.ntmps173
      go_wp2_with (go_at_call 183; refine (hN _ _).mono ?_; rintro e w1 ⟨rfl, n1, rfl⟩)
      go_ret
      exact ⟨rfl, _, rfl⟩
    · rw [if_neg h2]
      go_enter Tryz.func173, Tryz.ntmps173
      go_wp2_with (go_at_call 183; refine (hN _ _).mono ?_; rintro e w1 ⟨rfl, n1, rfl⟩)
      go_ret
      exact ⟨rfl, _, rfl⟩
set_option maxRecDepth 100000 in
theorem placeOf1_any (x y k : Int) (w : World) : Calls Tryz.prog 172 #[.agg #[.int .i64 x, .int .i64 y], .int .i64 k] w fun e w' => e = .returned (.int .i64 (cmpI x k)) ∧ Below w.heap.size w w' := by
  have hC := fun w => compare_any x k w
  generalize cmpI x k = c at *
  go_enter Tryz.func172, Tryz.ntmps172
  go_wp2_with fail
  refine (hC _).mono ?_
  rintro e w1 ⟨rfl, n1, rfl⟩
  clear hC
  go_wp2
  go_ret
  exact ⟨rfl, below_drewN (one_new _) _⟩
set_option maxRecDepth 100000 in
set_option maxHeartbeats 2000000 in
theorem binarySearch_core (b off c n : Nat) (l : Prl) (k : Int) (w : World) (HN : Hid (n = l.length)) (hn : n ≤ 12) (hb : b < w.heap.size) (HR : Hid (Ris l))
    (hc : ∀ j, j < n → w.cell? ⟨b, off + j * 2, none⟩ = some (.int .i64 (pAt l j).1) ∧ w.cell? ⟨b, off + j * 2 + 1, none⟩ = some (.int .i64 (pAt l j).2)) :
    Calls Tryz.prog 171 #[.slice (some ⟨b, off, none⟩) n c, .int .i64 k, .func (.func 172) #[] #[]] w fun e w' => e = .returned (.tuple #[.int .i64 (low l k : Nat), .bool (thr l k)]) ∧ Below w.heap.size w w' := by
  have hll : low l k ≤ n := by have := low_le l k; have := HN.out; omega
  have HI : Hid (∀ i, i < n → ((pAt l i).1 < k ↔ i < low l k)) := fun i hi => low_iff HR.out k (by have := HN.out; omega)
  have HC : Hid (∀ j, j < n → w.cell? ⟨b, off + j * 2, none⟩ = some (.int .i64 (pAt l j).1) ∧ w.cell? ⟨b, off + j * 2 + 1, none⟩ = some (.int .i64 (pAt l j).2)) := hc
  have HT : Hid (thr l k = (decide (low l k < n) && decide ((pAt l (low l k)).1 = k))) := by show _ = _; rw [HN.out]; rfl
  have HCM := fun x y w => placeOf1_any x y k w
  generalize thr l k = th at *
  generalize low l k = lo at *
  clear hc
  go_enter Tryz.func171, Tryz.ntmps171
  go_wp2
  go_loopw [9, 10] (fun a z wr => ∃ i j : Nat, a = .int .i64 i ∧ z = .int .i64 j ∧ i ≤ lo ∧ lo ≤ j ∧ j ≤ n ∧ Below w.heap.size w wr) (fun a z _ => (intOf z).toNat - (intOf a).toNat)
  case atStart => exact ⟨0, n, rfl, rfl, by omega, hll, by omega, Below.refl _ _⟩
  case round =>
    obtain ⟨i, j, rfl, rfl, hi, hj, hjn, hB⟩ := hrel
    by_cases hij : i < j
    · have hiji : (i : Int) < (j : Int) := by omega
      obtain ⟨h, hh⟩ : ∃ h, h = (i + j) / 2 := ⟨_, rfl⟩
      have h1 : i ≤ h := by omega
      have h2 : h < j := by omega
      have h3 : h < n := by omega
      obtain ⟨c0, c1⟩ := HC.out h h3
      have c0 := (hB.cell (p := ⟨b, off + h * 2, none⟩) hb).trans c0
      have c1 := (hB.cell (p := ⟨b, off + h * 2 + 1, none⟩) hb).trans c1
      have hM := fun w => HCM (pAt l h).1 (pAt l h).2 w
      have HX := HI.out h h3
      generalize (pAt l h).1 = x at *
      generalize (pAt l h).2 = y at *
      have e1 : IntKind.u64.wrap ((i : Int) + (j : Int)) = (i : Int) + (j : Int) := by rw [IntKind.wrap_u64]; omega
      have e2 : ((i : Int) + (j : Int)) / 2 = (h : Int) := by omega
      have hhn : (h : Int) < (n : Int) := by omega
      have HH : Hid (h = (i + j) / 2) := hh
      clear hh
      go_wp2_with fail
      refine (hM _).mono ?_
      rintro e w1 ⟨rfl, hb1⟩
      have hB1 := below_after_of hB hb1
      clear hM hb1 HCM
      by_cases hx : x < k
      · have hlt := HX.1 hx
        have ec : cmpI x k = -1 := by unfold cmpI; rw [if_pos hx]
        rw [ec]
        clear HX ec
        go_wp2
        go_roundw
        case rel => exact ⟨h + 1, j, by go_num, rfl, by omega, hj, hjn, hB1⟩
        case measure => simp [intOf]; omega
      · have hge : lo ≤ h := Nat.le_of_not_lt fun hh => hx (HX.2 hh)
        have ec : 0 ≤ cmpI x k ∧ cmpI x k ≤ 1 := by unfold cmpI; rw [if_neg hx]; split <;> omega
        generalize cmpI x k = cc at *
        clear HX
        go_wp2
        go_roundw
        case rel => exact ⟨i, h, rfl, rfl, hi, hge, by omega, hB1⟩
        case measure => simp [intOf]; omega
    · have e0 : i = lo := by omega
      subst e0
      have hiji : ¬ (i : Int) < (j : Int) := by omega
      by_cases hin : i < n
      · have hini : (i : Int) < (n : Int) := by omega
        obtain ⟨c0, c1⟩ := HC.out i hin
        have c0 := (hB.cell (p := ⟨b, off + i * 2, none⟩) hb).trans c0
        have c1 := (hB.cell (p := ⟨b, off + i * 2 + 1, none⟩) hb).trans c1
        have hM := fun w => HCM (pAt l i).1 (pAt l i).2 w
        have HX := HI.out i hin
        have ht := HT.out
        rw [decide_eq_true hin, Bool.true_and] at ht
        generalize (pAt l i).1 = x at *
        generalize (pAt l i).2 = y at *
        have hxk : ¬ x < k := fun hh => by have := HX.1 hh; omega
        have ec : (cmpI x k == 0) = decide (x = k) := by
          unfold cmpI
          rw [if_neg hxk]
          by_cases e : x = k
          · subst e; simp
          · rw [if_pos (by omega), decide_eq_false e]; rfl
        rw [← ht] at ec
        have ET : Hid ((cmpI x k == 0) = th) := ec
        generalize cmpI x k = cc at *
        clear HCM HX HT HI ht ec
        go_wp2_with fail
        refine (hM _).mono ?_
        rintro e w1 ⟨rfl, hb1⟩
        have hB1 := below_after_of hB hb1
        clear hM hb1
        go_wp2
        go_ret2
        exact ⟨by have := ET.out; subst this; rfl, hB1⟩
      · have hini : ¬ (i : Int) < (n : Int) := by omega
        have ht := HT.out
        rw [decide_eq_false hin, Bool.false_and] at ht
        subst ht
        clear HCM HI HT
        go_wp2
        go_ret2
        exact ⟨rfl, hB⟩
theorem thr_nil (k : Int) : thr [] k = false := rfl
theorem low_nil (k : Int) : low [] k = 0 := rfl
set_option maxRecDepth 100000 in
set_option maxHeartbeats 1000000 in
theorem binarySearch_any (v : Value) (l : Prl) (k : Int) (w : World) (hv : Prs w v l) (hl : l.length ≤ 12) (hr : Ris l) :
    Calls Tryz.prog 171 #[v, .int .i64 k, .func (.func 172) #[] #[]] w fun e w' => e = .returned (.tuple #[.int .i64 (low l k : Nat), .bool (thr l k)]) ∧ Below w.heap.size w w' := by
  obtain ⟨a, c, rfl⟩ := hv.shape
  by_cases h0 : 0 < l.length
  · obtain ⟨_, b, off, rfl, hb, hc⟩ := hv.at h0
    exact binarySearch_core b off c l.length l k w rfl hl hb hr hc
  · have e1 : l = [] := List.eq_nil_of_length_eq_zero (by omega)
    subst e1
    rw [thr_nil, low_nil]
    simp only [List.length_nil]
    clear hv h0 hl hr
    go_enter Tryz.func171, Tryz.ntmps171
    go_wp2
    refine wp_loop_rounds 1 ?_; rw [rounds_succ]
    go_wp2
    go_ret2
    exact ⟨rfl, Below.refl _ _⟩
set_option maxRecDepth 100000 in
set_option maxHeartbeats 1000000 in
theorem placeOf_any (v : Value) (l : Prl) (k : Int) (w : World) (hv : Prs w v l) (hl : l.length ≤ 12) (hr : Ris l) :
    Calls Tryz.prog 160 #[v, .int .i64 k] w fun e w' => e = .returned (.tuple #[.int .i64 (low l k : Nat), .bool (thr l k)]) ∧ Below w.heap.size w w' := by
  have hB := binarySearch_any v l k w hv hl hr
  obtain ⟨a, c, rfl⟩ := hv.shape
  generalize thr l k = th at *
  generalize low l k = lo at *
  generalize l.length = n at *
  clear hv hr
  go_enter Tryz.func160, Tryz.ntmps160
  go_wp2_with fail
  refine hB.mono ?_
  rintro e w1 ⟨rfl, hb1⟩
  clear hB
  go_wp2
  go_ret2
  exact ⟨rfl, hb1⟩
end U
end Go.Proofs.YtdbbmclobmigdaaGreat

/- FindSlot, by the program and by the model. -/
namespace Go.Proofs.YtdbbmclobmigdaaGreat
open Go.RowKit
namespace U
/-- The code and the value of a slot that is looked for. -/
def fsC (l : Prl) (k : Int) : Int := if slF l = 0 then (if thr l k = true then 0 else 4) else slF l
def fsV (l : Prl) (k : Int) : Int := if slF l = 0 ∧ thr l k = true then (pAt l (low l k)).2 else 0
theorem thr_lt {l : Prl} {k : Int} (h : thr l k = true) : low l k < l.length := by
  unfold thr at h
  rw [Bool.and_eq_true] at h
  exact of_decide_eq_true h.1
end U
end Go.Proofs.YtdbbmclobmigdaaGreat

/- What is cut out of slots, and the sum of a part, by the model. -/
namespace Go.Proofs.YtdbbmclobmigdaaGreat
open Go.RowKit
namespace U
def cutAt (l : Prl) (a b : Int) (k : Nat) : Prl := cut (l.take k) a b
theorem cutAt_zero (l : Prl) (a b : Int) : cutAt l a b 0 = [] := rfl
theorem cutAt_all (l : Prl) (a b : Int) : cutAt l a b l.length = cut l a b := by unfold cutAt; rw [List.take_length]
theorem takeP {l : Prl} {k : Nat} (h : k < l.length) : l.take (k + 1) = l.take k ++ [pAt l k] := by
  rw [List.take_succ_eq_append_getElem h, pAt_eq h]
theorem cutAt_in {l : Prl} {a b : Int} {k : Nat} (h : k < l.length) (h1 : a ≤ (pAt l k).1) (h2 : (pAt l k).1 < b) : cutAt l a b (k + 1) = cutAt l a b k ++ [pAt l k] := by
  unfold cutAt cut
  rw [takeP h, List.filter_append, List.filter_cons_of_pos (by simp [h1, h2])]
  rfl
theorem cutAt_out {l : Prl} {a b : Int} {k : Nat} (h : k < l.length) (h1 : ¬ (a ≤ (pAt l k).1 ∧ (pAt l k).1 < b)) : cutAt l a b (k + 1) = cutAt l a b k := by
  unfold cutAt cut
  rw [takeP h, List.filter_append, List.filter_cons_of_neg (by simp; omega)]
  simp
theorem cutAt_len (l : Prl) (a b : Int) (k : Nat) : (cutAt l a b k).length ≤ l.length := by
  have h1 := cut_len (l.take k) a b
  rw [List.length_take] at h1
  unfold cutAt
  omega
theorem own_snoc {w : World} {B : Nat} {e : TypeId} {v : Value} {l : Prl} {x y : Int} (h : w.ownsRow B e 2 v (l.length + 1) ((fl l).map (Value.int .i64) ++ [.int .i64 x, .int .i64 y])) : w.ownsRow B e 2 v (l ++ [(x, y)]).length ((fl (l ++ [(x, y)])).map (Value.int .i64)) := by
  rw [fl_app, List.map_append, List.length_append]
  exact h
theorem own_shape2 {w : World} {B n : Nat} {e : TypeId} {v : Value} {xs : List Value} (h : w.ownsRow B e 2 v n xs) : ∃ a c, v = .slice a n c := by
  rcases h.2 with ⟨rfl, hn⟩ | ⟨g, cap, cur, rfl, _⟩
  · exact ⟨none, 0, by rw [hn]⟩
  · exact ⟨_, _, rfl⟩
theorem none_own (w : World) (e : TypeId) (B : Nat) (hB : B ≤ w.heap.size) : (w.alloc (.cells #[] e)).ownsRow B e 2 (.slice (some ⟨w.heap.size, 0, none⟩) 0 0) 0 [] :=
  World.ownsRow_made w #[] 0 hB (by decide) rfl
end U
end Go.Proofs.YtdbbmclobmigdaaGreat

/- The sum of a part, by the model, is the one of mathematics. -/
namespace Go.Proofs.YtdbbmclobmigdaaGreat
open Go.RowKit
namespace U
theorem cut_has {l : Prl} {n : Nat} {q : Int} : cut l (q * (2 ^ n : Nat)) (q * (2 ^ n : Nat) + (2 ^ n : Nat)) = [] ↔ ¬ has l n q := by
  rw [cut_part, List.filter_eq_nil_iff]
  unfold has
  constructor
  · rintro h ⟨p, hp, e⟩
    exact h p hp (decide_eq_true e)
  · intro h p hp e
    exact h ⟨p, hp, of_decide_eq_true e⟩
theorem nd_head {l : Prl} {q : Int} {p : Int × Int} {t : Prl} (h : cut l (q * (2 ^ 0 : Nat)) (q * (2 ^ 0 : Nat) + (2 ^ 0 : Nat)) = p :: t) : nd l 0 q = l3 p := by
  rw [cut_part] at h
  unfold nd
  have : l.find? (fun p => p.1 == q) = some p := by
    have e : l.find? (fun p => p.1 == q) = (l.filter fun p => decide (p.1 / (2 ^ 0 : Nat) = q)).head? := by
      rw [List.head?_filter]
      congr 1
      funext p
      rw [Nat.pow_zero, Int.natCast_one, Int.ediv_one]
      rfl
    rw [e, h]
    rfl
  rw [this]
theorem nd_half {l : Prl} {n : Nat} {q x : Int} (hx : x / 2 = q) : nd (cut l (q * (2 ^ (n + 1) : Nat)) (q * (2 ^ (n + 1) : Nat) + (2 ^ (n + 1) : Nat))) n x = nd l n x := by
  rw [cut_part]
  apply nd_local
  rw [List.filter_filter]
  congr 1
  funext p
  rw [div_succ]
  generalize p.1 / (2 ^ n : Nat) = y
  by_cases h1 : y = x
  · subst h1; simp [hx]
  · simp [h1]
theorem nd_two {l : Prl} {n : Nat} {q : Int} (h : has l (n + 1) q) : nd l (n + 1) q = t2 (nd (cut l (q * (2 ^ (n + 1) : Nat)) (q * (2 ^ (n + 1) : Nat) + (2 ^ (n + 1) : Nat))) n (2 * q)) (nd (cut l (q * (2 ^ (n + 1) : Nat)) (q * (2 ^ (n + 1) : Nat) + (2 ^ (n + 1) : Nat))) n (2 * q + 1)) := by
  rw [nd_succ, if_pos h, nd_half (by omega), nd_half (by omega)]
theorem cut_fine {l : Prl} {a b : Int} (h : ∀ p ∈ l, fine p = true) : ∀ p ∈ cut l a b, fine p = true := fun p hp => h p (cut_mem.1 hp).1
end U
end Go.Proofs.YtdbbmclobmigdaaGreat

/- The array of the sums of what is empty, as the program makes it; EmptySum. -/
namespace Go.Proofs.YtdbbmclobmigdaaGreat
open Go.RowKit
namespace U
/-- Nine numbers in a block. -/
structure ArrAt (w : World) (g : Nat) (f : Nat → Int) : Prop where
  c : ∀ j, j < 9 → w.cell? ⟨g, j, none⟩ = some (.int .i64 (f j))
  z : ∀ j, j < 9 → w.frozen? ⟨g, j, none⟩ = false
def arrA (f : Nat → Int) : Array Value := #[.int .i64 (f 0), .int .i64 (f 1), .int .i64 (f 2), .int .i64 (f 3), .int .i64 (f 4), .int .i64 (f 5), .int .i64 (f 6), .int .i64 (f 7), .int .i64 (f 8)]
theorem lt9 {j : Nat} (h : j < 9) : j = 0 ∨ j = 1 ∨ j = 2 ∨ j = 3 ∨ j = 4 ∨ j = 5 ∨ j = 6 ∨ j = 7 ∨ j = 8 := by omega
theorem ArrAt.of {w : World} {g : Nat} {f : Nat → Int} {t : TypeId} (h : w.heap[g]? = some (.cells (arrA f) t)) : ArrAt w g f := by
  constructor
  · intro j hj
    rcases lt9 hj with rfl | rfl | rfl | rfl | rfl | rfl | rfl | rfl | rfl <;> (unfold World.cell?; rw [h]; rfl)
  · intro j hj
    rcases lt9 hj with rfl | rfl | rfl | rfl | rfl | rfl | rfl | rfl | rfl <;> (unfold World.frozen?; rw [h]; rfl)
theorem ArrAt.below {w w' : World} {g B : Nat} {f : Nat → Int} (h : ArrAt w g f) (hb : Below B w w') (hg : g < B) : ArrAt w' g f :=
  ⟨fun j hj => (hb.cell (p := ⟨g, j, none⟩) hg).trans (h.c j hj), fun j hj => (hb.frozen (p := ⟨g, j, none⟩) hg).trans (h.z j hj)⟩
theorem ArrAt.set {w : World} {g k : Nat} {f : Nat → Int} (h : ArrAt w g f) (hk : k < 9) (x : Int) : ArrAt (w.setCell ⟨g, k, none⟩ (.int .i64 x)) g (fun j => if j = k then x else f j) := by
  refine ⟨fun j hj => ?_, fun j hj => (World.frozen?_setCell _ _ _ _).trans (h.z j hj)⟩
  by_cases e : j = k
  · subst e
    rw [if_pos rfl]
    exact World.cell?_setCell_same _ _ _ (h.c j hj)
  · rw [if_neg e]
    exact (World.cell?_setCell_other _ _ _ _ (by simp)).trans (h.c j hj)
theorem ArrAt.other {w : World} {g k b : Nat} {f : Nat → Int} (h : ArrAt w g f) (hb : b ≠ g) (x : Value) : ArrAt (w.setCell ⟨b, k, none⟩ x) g f :=
  ⟨fun j hj => (World.cell?_setCell_other _ _ _ _ (by simp)).trans (h.c j hj), fun j hj => (World.frozen?_setCell _ _ _ _).trans (h.z j hj)⟩
theorem ArrAt.cells {w : World} {g : Nat} {f : Nat → Int} (h : ArrAt w g f) : w.cell? ⟨g, 0, none⟩ = some (.int .i64 (f 0)) ∧ w.cell? ⟨g, 1, none⟩ = some (.int .i64 (f 1)) ∧ w.cell? ⟨g, 2, none⟩ = some (.int .i64 (f 2)) ∧ w.cell? ⟨g, 3, none⟩ = some (.int .i64 (f 3)) ∧ w.cell? ⟨g, 4, none⟩ = some (.int .i64 (f 4)) ∧ w.cell? ⟨g, 5, none⟩ = some (.int .i64 (f 5)) ∧ w.cell? ⟨g, 6, none⟩ = some (.int .i64 (f 6)) ∧ w.cell? ⟨g, 7, none⟩ = some (.int .i64 (f 7)) ∧ w.cell? ⟨g, 8, none⟩ = some (.int .i64 (f 8)) :=
  ⟨h.c 0 (by omega), h.c 1 (by omega), h.c 2 (by omega), h.c 3 (by omega), h.c 4 (by omega), h.c 5 (by omega), h.c 6 (by omega), h.c 7 (by omega), h.c 8 (by omega)⟩
theorem ArrAt.froz {w : World} {g : Nat} {f : Nat → Int} (h : ArrAt w g f) : w.frozen? ⟨g, 0, none⟩ = false ∧ w.frozen? ⟨g, 1, none⟩ = false ∧ w.frozen? ⟨g, 2, none⟩ = false ∧ w.frozen? ⟨g, 3, none⟩ = false ∧ w.frozen? ⟨g, 4, none⟩ = false ∧ w.frozen? ⟨g, 5, none⟩ = false ∧ w.frozen? ⟨g, 6, none⟩ = false ∧ w.frozen? ⟨g, 7, none⟩ = false ∧ w.frozen? ⟨g, 8, none⟩ = false :=
  ⟨h.z 0 (by omega), h.z 1 (by omega), h.z 2 (by omega), h.z 3 (by omega), h.z 4 (by omega), h.z 5 (by omega), h.z 6 (by omega), h.z 7 (by omega), h.z 8 (by omega)⟩
theorem ArrAt.congr {w : World} {g : Nat} {f f' : Nat → Int} (h : ArrAt w g f) (e : ∀ j, j < 9 → f j = f' j) : ArrAt w g f' := ⟨fun j hj => by rw [← e j hj]; exact h.c j hj, h.z⟩
/-- The sums up to a level, zero behind it. -/
def pre (k j : Nat) : Int := if j ≤ k then emp j else 0
set_option maxRecDepth 100000 in
set_option maxHeartbeats 4000000 in
theorem emptySums_any (w : World) :
    Calls Tryz.prog 141 #[] w fun e w' => e = .returned (.agg (arrA emp)) ∧ Below w.heap.size w w' := by
  have hS := fun w => implSumOf_any (.slice none 0 0) [] w (Or.inl ⟨rfl, _, _, rfl⟩) (fun b hb => by cases hb) (by simp)
  have e0 : smC [] = 0 ∧ smV [] = 13 := ⟨rfl, rfl⟩
  rw [e0.1, e0.2] at hS
  have kf := fun w => field_IR1 0 13 w
  clear e0
  go_enter Tryz.func141, Tryz.ntmps141
  go_wp2_with fail
  refine (hS _).mono ?_
  rintro e w1 ⟨rfl, hb1⟩
  have Z1 : ArrAt w1 w.heap.size (fun _ => 0) := ArrAt.of (f := fun _ => 0) ((hb1.block w.heap.size (by simp)).trans (heap_alloc_new w _))
  have hB1 := below_after hb1
  have hsz1 : w.heap.size < w1.heap.size := by have := hb1.size; simp at this; omega
  clear hS hb1
  go_wp2_with fail
  have A1 : ArrAt (w1.alloc (.cells (arrA (pre 0)) 205)) w1.heap.size (pre 0) := ArrAt.of (heap_alloc_new _ _)
  have Z2 : ArrAt (w1.alloc (.cells (arrA (pre 0)) 205)) w.heap.size (fun _ => 0) := Z1.below (one_new _) hsz1
  have hB2 : Below w.heap.size w (w1.alloc (.cells (arrA (pre 0)) 205)) := hB1.alloc (Nat.le_of_lt hsz1) _
  have HA1 : Hid (ArrAt (w1.alloc (.cells (arrA (pre 0)) 205)) w1.heap.size (pre 0)) := A1
  have HZ2 : Hid (ArrAt (w1.alloc (.cells (arrA (pre 0)) 205)) w.heap.size (fun _ => 0)) := Z2
  have HB2 : Hid (Below w.heap.size w (w1.alloc (.cells (arrA (pre 0)) 205))) := hB2
  clear A1 Z2 hB2 Z1 hB1 kf
  go_loopw [6] (fun i wr => ∃ k : Nat, k ≤ 8 ∧ i = .int .i64 k ∧ w1.heap.size < wr.heap.size ∧ Hid (Below w.heap.size w wr) ∧ Hid (ArrAt wr w1.heap.size (pre k)) ∧ Hid (ArrAt wr w.heap.size (fun _ => 0))) (fun i _ => 8 - (intOf i).toNat)
  case atStart => exact ⟨0, by omega, rfl, by simp, HB2, HA1, HZ2⟩
  case round =>
    obtain ⟨k, hk, rfl, hsz, HB, HA, HZ⟩ := hrel
    by_cases hk8 : k < 8
    · have hki : (k : Int) < 8 := by omega
      have ck := HA.out.c k (by omega)
      have e1 : pre k k = emp k := by unfold pre; rw [if_pos (Nat.le_refl _)]
      rw [e1] at ck
      have hbd := emp_bd k
      have HE : Hid (∀ j, j < 9 → (fun j => if j = k + 1 then t2 (emp k) (emp k) else pre k j) j = pre (k + 1) j) := fun j hj => by
        show (if j = k + 1 then t2 (emp k) (emp k) else pre k j) = pre (k + 1) j
        unfold pre
        by_cases e : j = k + 1
        · subst e
          rw [if_pos rfl, if_pos (Nat.le_refl _)]
          rfl
        · rw [if_neg e]
          by_cases e2 : j ≤ k
          · rw [if_pos e2, if_pos (by omega)]
          · rw [if_neg e2, if_neg (by omega)]
      have hP := fun w => pairSum_any (emp k) (emp k) w hbd hbd
      generalize t2 (emp k) (emp k) = y at *
      generalize emp k = x at *
      have hmk : Hid (∀ w', Below wr.heap.size wr w' → ArrAt w' w1.heap.size (pre k)) := fun w' h => HA.out.below h hsz
      clear e1
      have hk0 : (0 : Int) ≤ (k : Int) := by omega
      have hk9 : (k : Int) < 9 := by omega
      have hk10 : (0 : Int) ≤ (k : Int) + 1 := by omega
      have hk11 : (k : Int) + 1 < 9 := by omega
      have hkw : IntKind.i64.wrap ((k : Int) + 1) = (k : Int) + 1 := by rw [IntKind.wrap_i64]; omega
      go_wp2
      go_region_held3 (fun w' => w'.cell? ⟨w1.heap.size, k, none⟩ = some (.int .i64 x))
        (first | exact ck | exact (hbr.cell (p := ⟨w1.heap.size, k, none⟩) hsz).trans ck | exact (World.cell?_setCell_other _ _ _ _ (by simp)).trans ((hbr.cell (p := ⟨w1.heap.size, k, none⟩) hsz).trans ck))
        (first | (go_at_call 159; refine (hP _).mono ?_; rintro e wq ⟨rfl, hbq⟩; have hbr : Below wr.heap.size wr wq := below_after_of (Below.refl _ _).drew hbq; have hk1 := (hmk.out _ hbr).c (k + 1) (by omega); have hz1 := (hmk.out _ hbr).z (k + 1) (by omega); clear hbq))
      have hbs : Below w.heap.size w (wq.setCell ⟨w1.heap.size, k + 1, none⟩ (.int .i64 y)) := (below_after_of HB.out hbr).setCell (Nat.le_of_lt hsz1) _
      have hA2 := ((hmk.out _ hbr).set (k := k + 1) (by omega) y).congr HE.out
      have hZ2 := (HZ.out.below hbr (by omega)).other (k := k + 1) (b := w1.heap.size) (by omega) (.int .i64 y)
      have hsz2 := hbr.size
      have HHB : Hid (Below w.heap.size w (wq.setCell ⟨w1.heap.size, k + 1, none⟩ (.int .i64 y))) := hbs
      have HHA : Hid (ArrAt (wq.setCell ⟨w1.heap.size, k + 1, none⟩ (.int .i64 y)) w1.heap.size (pre (k + 1))) := hA2
      have HHZ : Hid (ArrAt (wq.setCell ⟨w1.heap.size, k + 1, none⟩ (.int .i64 y)) w.heap.size (fun _ => 0)) := hZ2
      clear hbs hA2 hZ2 hmk hP hbr hk1 hz1 ck
      go_wp2
      go_roundw
      case rel => exact ⟨k + 1, by omega, by go_num, by simp; omega, HHB, HHA, HHZ⟩
      case measure => simp [intOf]; omega
    · have hk8 : k = 8 := by omega
      have hki : ¬ (k : Int) < 8 := by omega
      obtain ⟨c0, c1, c2, c3, c4, c5, c6, c7, c8⟩ := (HA.out.congr (f' := emp) (fun j hj => by unfold pre; rw [if_pos (by omega)])).cells
      obtain ⟨d0, d1, d2, d3, d4, d5, d6, d7, d8⟩ := HZ.out.cells
      obtain ⟨z0, z1, z2, z3, z4, z5, z6, z7, z8⟩ := HZ.out.froz
      clear hk8
      go_wp2
      have hB := HB.out
      exact bodyPost_ret (v := .agg (arrA emp)) (by simp [results, Tryz.results141, go_sem, arrA, d0, d1, d2, d3, d4, d5, d6, d7, d8]) rfl ⟨rfl, ((((((((hB.setCell (Nat.le_refl _) _).setCell (Nat.le_refl _) _).setCell (Nat.le_refl _) _).setCell (Nat.le_refl _) _).setCell (Nat.le_refl _) _).setCell (Nat.le_refl _) _).setCell (Nat.le_refl _) _).setCell (Nat.le_refl _) _).setCell (Nat.le_refl _) _⟩
theorem index_arr (f : Nat → Int) (k : Nat) (hk : k < 9) (w : World) : (Instr.index 205 (.agg (arrA f)) (.int .i64 (k : Int))).run Tryz.prog w = .ok (.int .i64 (f k)) w := by
  rcases lt9 hk with rfl | rfl | rfl | rfl | rfl | rfl | rfl | rfl | rfl <;> kernel_rfl
end U
end Go.Proofs.YtdbbmclobmigdaaGreat

/- Rows of sums, as the program makes them. -/
namespace Go.Proofs.YtdbbmclobmigdaaGreat
open Go.RowKit
namespace U
theorem Tryz.infoPl : (Tryz.prog.info? 240).map (fun i => (i.zero, i.size, i.bytes)) = some (some (.agg #[.int .i64 0, .int .i64 0]), 2, 16) := by kernel_rfl
/-- The leaves of the first slots. -/
def leaves (l : Prl) (k : Nat) : Prl := (l.take k).map fun p => (p.1, l3 p)
theorem leaves_zero (l : Prl) : leaves l 0 = [] := rfl
theorem leaves_all (l : Prl) : leaves l l.length = rows l 0 := by unfold leaves rows; rw [List.take_length]
theorem leaves_succ {l : Prl} {k : Nat} (h : k < l.length) : leaves l (k + 1) = leaves l k ++ [((pAt l k).1, l3 (pAt l k))] := by
  unfold leaves
  rw [takeP h, List.map_append]
  rfl
theorem leaves_len {l : Prl} {k : Nat} (h : k ≤ l.length) : (leaves l k).length = k := by unfold leaves; rw [List.length_map, List.length_take]; omega
set_option maxRecDepth 100000 in
set_option maxHeartbeats 2000000 in
theorem leafRow_any (v : Value) (l : Prl) (w : World) (hv : Prs w v l) (hn : l.length ≤ 12) (hf : ∀ p ∈ l, fine p = true) :
    Calls Tryz.prog 161 #[v] w fun e w' => ∃ v', e = .returned v' ∧ w'.ownsRow w.heap.size 240 2 v' (rows l 0).length ((fl (rows l 0)).map (Value.int .i64)) ∧ Below w.heap.size w w' := by
  obtain ⟨i0, hi, hz0, hz1, hz2⟩ := info_parts Tryz.infoPl
  have HV : Hid (Prs w v l) := hv
  obtain ⟨ad, c, rfl⟩ := hv.shape
  obtain ⟨n, hnl⟩ : ∃ n, n = l.length := ⟨_, rfl⟩
  have HN : Hid (n = l.length) := hnl
  have HF : Hid (∀ p ∈ l, fine p = true) := hf
  rw [← hnl] at hn HV ⊢
  clear hv hnl hf
  go_enter Tryz.func161, Tryz.ntmps161
  go_wp2
  go_loopw [3, 9] (fun u i wr => ∃ k : Nat, k ≤ n ∧ i = .int .i64 k ∧ Hid (Below w.heap.size w wr) ∧ Hid (wr.ownsRow w.heap.size 240 2 u (leaves l k).length ((fl (leaves l k)).map (Value.int .i64)))) (fun _ i _ => n - (intOf i).toNat)
  case atStart => exact ⟨0, Nat.zero_le _, rfl, Below.refl _ _, World.ownsRow_nil _ _ _ _⟩
  case round =>
    obtain ⟨k, hk, rfl, hB, ho⟩ := hrel
    obtain ⟨a', c', rfl⟩ := own_shape2 ho.out
    by_cases hkn : k < n
    · have hki : (k : Int) < (n : Int) := by omega
      have hkl : k < l.length := by have := HN.out; omega
      obtain ⟨-, bk, off, rfl, hbk, hc⟩ := HV.out.at (by omega)
      have hc1 := (hB.out.cell (p := ⟨bk, off + k * 2, none⟩) hbk).trans (hc k hkl).1
      have hc2 := (hB.out.cell (p := ⟨bk, off + k * 2 + 1, none⟩) hbk).trans (hc k hkl).2
      have hfx := fine_bd (HF.out (pAt l k) (by rw [pAt_eq hkl]; exact List.getElem_mem _))
      have hS := leaves_succ hkl
      have hlen : (leaves l k).length ≤ 12 := by rw [leaves_len (Nat.le_of_lt hkl)]; omega
      have hp := pair_tag (tag := 3) (by omega) (a := (pAt l k).1) (b := (pAt l k).2) (by omega) hfx.2
      have e0 : sumL (tagL 3 [(pAt l k).1, (pAt l k).2]) = l3 (pAt l k) := rfl
      rw [e0] at hp
      have hT := fun v w hv => implTagSum_any 3 v [(pAt l k).1, (pAt l k).2] w hv (by simp)
      rw [hp.1, hp.2] at hT
      generalize l3 (pAt l k) = z at *
      generalize (pAt l k).1 = x at *
      generalize (pAt l k).2 = y at *
      have HS : Hid (leaves l (k + 1) = leaves l k ++ [(x, z)]) := hS
      generalize leaves l k = m at *
      have kf := fun w => field_IR1 0 z w
      have hbs : bk < wr.heap.size := Nat.lt_of_lt_of_le hbk hB.out.size
      clear hc hfx hp e0 hS
      go_wp2_with fail
      refine (hT _ _ (two_ints_at (by simp))).mono ?_
      rintro e w1 ⟨rfl, hb1⟩
      clear hT
      have hb1' := below_after hb1
      obtain ⟨g0, g1, -, -⟩ := two_cellsV ((hb1'.block wr.heap.size (by simp)).trans (heap_alloc_new wr _))
      have hB1 := below_after_of (hB.out.alloc hB.out.size _) hb1'
      have ho1 := own_below (ho.out.alloc _) hb1'
      have hsz : wr.heap.size < w1.heap.size := by have := hb1'.size; simp at this; omega
      have hwz := hB1.size
      clear hb1 hb1' ho hc1 hc2
      go_wp2_with (at_builtin; refine wpList_append_own _ rfl _ _ 236 rfl w.heap.size 240 i0 (.agg #[.int .i64 0, .int .i64 0]) 2 16 Tryz.underlying236 hi hz0 hz1 hz2 rfl (by decide) _ _ _ rfl (ho1.alloc _) ⟨w1.heap.size, 0, none⟩ 1 1 [.int .i64 x, .int .i64 z] rfl rfl (World.news_of_block (heap_alloc_new _ _)) (ints_oneCell .i64 [x, z]) (by unfold maxLen; omega) (by omega) (by simp; omega) ?_)
      intro v' w2 hown' hgrow _
      have hb2 : Below w.heap.size w w2 := (hB1.alloc (by omega) _).grown hgrow (by simp; omega) (fun k hk => (ho1.lt k hk).1)
      have own2 := own_snoc hown'
      clear hgrow hown' ho1
      go_wp2
      go_roundw
      case rel => exact ⟨k + 1, by omega, by go_num, hb2, by rw [HS.out]; exact own2⟩
      case measure => simp [intOf]; omega
    · have hkn : k = n := by omega
      subst hkn
      have e1 : leaves l k = rows l 0 := by rw [HN.out]; exact leaves_all _
      rw [e1] at ho ⊢
      go_wp2
      go_ret
      exact ⟨_, rfl, ho.out, hB.out⟩
/-- The sum above the first one of a row, and how many are in it. -/
def fp (e : Int) : Prl → Int × Nat
  | [] => (0, 1)
  | [(q, s)] => (if q % 2 = 1 then t2 e s else t2 s e, 1)
  | (q, s) :: (q', s') :: _ => if q % 2 = 1 then (t2 e s, 1) else if q' = q + 1 then (t2 s s', 2) else (t2 s e, 1)
theorem abv_fp (e : Int) {r : Prl} (h : 0 < r.length) : abv e r = ((pAt r 0).1 / 2, (fp e r).1) :: abv e (r.drop (fp e r).2) ∧ 1 ≤ (fp e r).2 ∧ (fp e r).2 ≤ r.length := by
  match r, h with
  | [(q, s)], _ => refine ⟨?_, by simp [fp], by simp [fp]⟩; simp [abv, fp, pAt]
  | (q, s) :: (q', s') :: t, _ =>
    by_cases h1 : q % 2 = 1
    · have e1 : fp e ((q, s) :: (q', s') :: t) = (t2 e s, 1) := by simp [fp, h1]
      rw [e1]
      refine ⟨?_, by simp, by simp⟩
      rw [abv, if_pos h1]
      simp [pAt]
    · by_cases h2 : q' = q + 1
      · have e1 : fp e ((q, s) :: (q', s') :: t) = (t2 s s', 2) := by simp [fp, h1, h2]
        rw [e1]
        refine ⟨?_, by simp, by simp⟩
        rw [abv, if_neg h1, if_pos h2]
        simp [pAt]
      · have e1 : fp e ((q, s) :: (q', s') :: t) = (t2 s e, 1) := by simp [fp, h1, h2]
        rw [e1]
        refine ⟨?_, by simp, by simp⟩
        rw [abv, if_neg h1, if_neg h2]
        simp [pAt]
theorem fp_odd (e : Int) {r : Prl} (h : 0 < r.length) (h1 : (pAt r 0).1 % 2 = 1) : fp e r = (t2 e (pAt r 0).2, 1) := by
  match r, h with
  | [(q, s)], _ => simp [pAt] at h1; simp [fp, pAt, h1]
  | (q, s) :: (q', s') :: t, _ => simp [pAt] at h1; simp [fp, pAt, h1]
theorem fp_pair (e : Int) {r : Prl} (h : 1 < r.length) (h1 : ¬ (pAt r 0).1 % 2 = 1) (h2 : (pAt r 1).1 = (pAt r 0).1 + 1) : fp e r = (t2 (pAt r 0).2 (pAt r 1).2, 2) := by
  match r, h with
  | (q, s) :: (q', s') :: t, _ => simp [pAt] at h1 h2; simp [fp, pAt, h1, h2]
theorem fp_one (e : Int) {r : Prl} (h : 0 < r.length) (h1 : ¬ (pAt r 0).1 % 2 = 1) (h2 : ¬ (1 < r.length ∧ (pAt r 1).1 = (pAt r 0).1 + 1)) : fp e r = (t2 (pAt r 0).2 e, 1) := by
  match r, h with
  | [(q, s)], _ => simp [pAt] at h1; simp [fp, pAt, h1]
  | (q, s) :: (q', s') :: t, _ => simp [pAt] at h1 h2; simp [fp, pAt, h1, h2]
end U
end Go.Proofs.YtdbbmclobmigdaaGreat

/- The row above a row, as the program makes it. -/
namespace Go.Proofs.YtdbbmclobmigdaaGreat
open Go.RowKit
namespace U
/-- Places and sums that are so. -/
def Pls (r : Prl) : Prop := ∀ p ∈ r, (0 ≤ p.1 ∧ p.1 ≤ 255) ∧ 0 ≤ p.2 ∧ p.2 ≤ 65520
theorem Pls.at {r : Prl} (h : Pls r) {k : Nat} (hk : k < r.length) : (0 ≤ (pAt r k).1 ∧ (pAt r k).1 ≤ 255) ∧ 0 ≤ (pAt r k).2 ∧ (pAt r k).2 ≤ 65520 := by
  rw [pAt_eq hk]; exact h _ (List.getElem_mem _)
set_option maxRecDepth 100000 in
set_option maxHeartbeats 4000000 in
theorem firstPair_any (b off c n : Nat) (r : Prl) (e : Int) (w : World) (HN : Hid (n = r.length)) (hn0 : 0 < n) (hn : n ≤ 12) (hb : b < w.heap.size) (he : 0 ≤ e ∧ e ≤ 65520) (HR : Hid (Pls r))
    (hc : ∀ j, j < n → w.cell? ⟨b, off + j * 2, none⟩ = some (.int .i64 (pAt r j).1) ∧ w.cell? ⟨b, off + j * 2 + 1, none⟩ = some (.int .i64 (pAt r j).2)) :
    Calls Tryz.prog 174 #[.slice (some ⟨b, off, none⟩) n c, .int .i64 e] w fun en w' => en = .returned (.tuple #[.int .i64 (fp e r).1, .int .i64 (fp e r).2]) ∧ Below w.heap.size w w' := by
  have hr0 : 0 < r.length := by have := HN.out; omega
  obtain ⟨c0, d0⟩ := hc 0 hn0
  simp only [Nat.zero_mul, Nat.add_zero] at c0 d0
  have hb0 := HR.out.at hr0
  have hni : (0 : Int) < (n : Int) := by omega
  have h1i : ∀ h : 1 < n, 1 < r.length := fun h => by have := HN.out; omega
  have HO : Hid ((pAt r 0).1 % 2 = 1 → fp e r = (t2 e (pAt r 0).2, 1)) := fp_odd e hr0
  have HP : Hid (1 < n → ¬ (pAt r 0).1 % 2 = 1 → (pAt r 1).1 = (pAt r 0).1 + 1 → fp e r = (t2 (pAt r 0).2 (pAt r 1).2, 2)) := fun h => fp_pair e (h1i h)
  have HU : Hid (¬ (pAt r 0).1 % 2 = 1 → ¬ (1 < n ∧ (pAt r 1).1 = (pAt r 0).1 + 1) → fp e r = (t2 (pAt r 0).2 e, 1)) := fun h h2 => fp_one e hr0 h (by have := HN.out; intro hh; exact h2 ⟨by omega, hh.2⟩)
  have HC1 : Hid (1 < n → w.cell? ⟨b, off + 1 * 2, none⟩ = some (.int .i64 (pAt r 1).1) ∧ w.cell? ⟨b, off + 1 * 2 + 1, none⟩ = some (.int .i64 (pAt r 1).2)) := hc 1
  have HB1 : Hid (1 < n → (0 ≤ (pAt r 1).1 ∧ (pAt r 1).1 ≤ 255) ∧ 0 ≤ (pAt r 1).2 ∧ (pAt r 1).2 ≤ 65520) := fun h => HR.out.at (h1i h)
  generalize fp e r = F at *
  generalize (pAt r 0).1 = q at *
  generalize (pAt r 0).2 = s at *
  generalize (pAt r 1).1 = q' at *
  generalize (pAt r 1).2 = s' at *
  have hq1 : q.tmod 2 = q % 2 := by rw [Int.tmod_eq_emod_of_nonneg (by omega)]
  clear hc h1i hr0
  by_cases h1 : q % 2 = 1
  · have hF := HO.out h1
    subst hF
    have hS := fun w => pairSum_any e s w he hb0.2
    generalize t2 e s = z at *
    have h1b : (q % 2 == 1) = true := by simpa using h1
    clear HO HP HU HC1 HB1
    go_enter Tryz.func174, Tryz.ntmps174
    go_wp2_with fail
    refine (hS _).mono ?_
    rintro en w1 ⟨rfl, hb1⟩
    clear hS
    go_wp2
    go_ret2
    exact ⟨rfl, below_after hb1⟩
  · have h1b : (q % 2 == 1) = false := by simpa using h1
    by_cases h2 : 1 < n ∧ q' = q + 1
    · have hF := HP.out h2.1 h1 h2.2
      subst hF
      obtain ⟨c1, d1⟩ := HC1.out h2.1
      have hb1 := HB1.out h2.1
      simp only [Nat.one_mul] at c1 d1
      have hS := fun w => pairSum_any s s' w hb0.2 hb1.2
      generalize t2 s s' = z at *
      have h21 : 1 < n := h2.1
      have h22 : (1 : Int) < (n : Int) := by omega
      have h2b : (q' == q + 1) = true := by simpa using h2.2
      have h2d : decide ((1 : Int) < (n : Int)) = true := by simpa using h22
      have hqw : IntKind.i64.wrap (q + 1) = q + 1 := by rw [IntKind.wrap_i64]; omega
      clear HO HP HU HC1 HB1 h2
      go_enter Tryz.func174, Tryz.ntmps174
      go_wp2
      go_quiet (fail)
      go_wp2
      have W0 : Below w.heap.size w ((w.alloc (.cells #[.int .i64 q, .int .i64 s] 240)).drewN nq) := below_drewN (one_new _) _
      have a1 := After.cell (W := (w.alloc (.cells #[.int .i64 q, .int .i64 s] 240)).drewN nq) (two_cellsV (heap_alloc_new w (.cells #[.int .i64 q, .int .i64 s] 240))).2.1
      have a2 := After.cell ((W0.cell (p := ⟨b, off + 2 + 1, none⟩) hb).trans d1)
      have a3 : ∀ n : After ((w.alloc (.cells #[.int .i64 q, .int .i64 s] 240)).drewN nq), n.w.cell? ⟨b, off + 3, none⟩ = some (.int .i64 s') := a2
      have hne := After.ne ((w.alloc (.cells #[.int .i64 q, .int .i64 s] 240)).drewN nq)
      have HW0 : Hid (Below w.heap.size w ((w.alloc (.cells #[.int .i64 q, .int .i64 s] 240)).drewN nq)) := W0
      clear W0
      refine wp_region_after (by kernel_rfl) (by kernel_rfl) ?_
      repeat (first | go_big_quiet_skip | (go_big_quiet_want; go_big_quiet_op; first | go_big_quiet_on | go_big_quiet_call (first | (go_at_call 159; refine (hS _).mono ?_; rintro e wq ⟨rfl, hbq⟩; exact ⟨rfl, after_mk (below_after_of (After.b _) hbq)⟩))))
      refine wpQuiet_nil ?_
      rintro _ ⟨n2, rfl⟩
      have hB2 : Below w.heap.size w n2.w := below_after_of HW0.out n2.b
      go_wp2
      go_ret2
      exact ⟨rfl, hB2⟩
    · have hF := HU.out h1 h2
      subst hF
      have hS := fun w => pairSum_any s e w hb0.2 he
      generalize t2 s e = z at *
      by_cases h21 : 1 < n
      · obtain ⟨c1, d1⟩ := HC1.out h21
        simp only [Nat.one_mul] at c1 d1
        have h22 : (1 : Int) < (n : Int) := by omega
        have h2b : (q' == q + 1) = false := by simpa using fun h => h2 ⟨h21, h⟩
        have h2d : decide ((1 : Int) < (n : Int)) = true := by simpa using h22
        have hqw : IntKind.i64.wrap (q + 1) = q + 1 := by rw [IntKind.wrap_i64]; omega
        clear HO HP HU HC1 HB1 h2 d1
        go_enter Tryz.func174, Tryz.ntmps174
        go_wp2
        go_quiet (fail)
        go_wp2_with fail
        refine (hS _).mono ?_
        rintro en w1 ⟨rfl, hb1⟩
        clear hS
        go_wp2
        go_ret2
        exact ⟨rfl, below_after_of (below_drewN (one_new _) _) hb1⟩
      · have h22 : ¬ (1 : Int) < (n : Int) := by omega
        have h2d : decide ((1 : Int) < (n : Int)) = false := by simpa using h22
        clear HO HP HU HC1 HB1 h2
        go_enter Tryz.func174, Tryz.ntmps174
        go_wp2
        go_quiet (fail)
        go_wp2_with fail
        refine (hS _).mono ?_
        rintro en w1 ⟨rfl, hb1⟩
        clear hS
        go_wp2
        go_ret2
        exact ⟨rfl, below_after_of (below_drewN (one_new _) _) hb1⟩
theorem drop_at {r : Prl} {j k : Nat} : pAt (r.drop j) k = pAt r (j + k) := by
  unfold pAt
  rw [List.getD_eq_getElem?_getD, List.getD_eq_getElem?_getD, List.getElem?_drop]
theorem Pls.drop {r : Prl} (h : Pls r) (j : Nat) : Pls (r.drop j) := fun p hp => h p (List.mem_of_mem_drop hp)
set_option maxRecDepth 100000 in
set_option maxHeartbeats 4000000 in
theorem rowAbove_any (v : Value) (r : Prl) (e : Int) (w : World) (hv : Prs w v r) (hcap : ∀ a n c, v = .slice a n c → n ≤ c) (hn : r.length ≤ 12) (he : 0 ≤ e ∧ e ≤ 65520) (hR : Pls r) :
    Calls Tryz.prog 162 #[v, .int .i64 e] w fun en w' => ∃ v', en = .returned v' ∧ w'.ownsRow w.heap.size 240 2 v' (abv e r).length ((fl (abv e r)).map (Value.int .i64)) ∧ Below w.heap.size w w' := by
  obtain ⟨i0, hi, hz0, hz1, hz2⟩ := info_parts Tryz.infoPl
  have HV : Hid (Prs w v r) := hv
  obtain ⟨ad, c, rfl⟩ := hv.shape
  have hcp := hcap _ _ _ rfl
  have HR : Hid (Pls r) := hR
  have HC : Hid (r.length ≤ c) := hcp
  have HA0 : Hid ([] ++ abv e (r.drop 0) = abv e r) := by show _ = _; simp
  have HN : Hid (r.length ≤ 12) := hn
  have HV0 : Hid (Prs w (.slice ad r.length c) (r.drop 0)) := hv
  have e0 : Hid ((r.drop 0).length = r.length) := by show _ = _; simp
  generalize r.length = n at *
  clear hv hcap hR hcp HV hn
  go_enter Tryz.func162, Tryz.ntmps162
  go_wp2
  go_loopw [0, 5] (fun u a wr => ∃ (j : Nat) (ac : Prl) (ad : Option Addr) (m c : Nat), u = .slice ad m c ∧ m ≤ c ∧ Hid ((r.drop j).length = m) ∧ m ≤ 12 ∧ Hid (Prs w u (r.drop j)) ∧ Hid (ac ++ abv e (r.drop j) = abv e r) ∧ ac.length + m ≤ 12 ∧ Hid (Below w.heap.size w wr) ∧ Hid (wr.ownsRow w.heap.size 240 2 a ac.length ((fl ac).map (Value.int .i64)))) (fun u _ _ => (match u with | .slice _ m _ => m | _ => 0))
  case atStart => exact ⟨0, [], ad, n, c, rfl, HC.out, e0, HN.out, HV0, HA0, by have := HN.out; simp; omega, Below.refl _ _, World.ownsRow_nil _ _ _ _⟩
  case round =>
    obtain ⟨j, ac, ad, m, c, rfl, hmc, HM, hm, HP, HA, hac, HB, HO⟩ := hrel
    obtain ⟨a', c', rfl⟩ := own_shape2 HO.out
    by_cases hm0 : 0 < m
    · have hmi : (0 : Int) < (m : Int) := by omega
      obtain ⟨-, b, off, rfl, hb, hc⟩ := HP.out.at (by rw [HM.out]; exact hm0)
      rw [HM.out] at hc
      obtain ⟨HA1, hu1, hu2⟩ := abv_fp e (r := r.drop j) (by rw [HM.out]; exact hm0)
      rw [HM.out] at hu2
      have hF := fun w' h => firstPair_any b off c m (r.drop j) e w' HM.out.symm hm0 hm (Nat.lt_of_lt_of_le hb (Below.size (B := w.heap.size) h)) he (HR.out.drop j) (fun k hk => ⟨(h.cell (p := ⟨b, off + k * 2, none⟩) hb).trans (hc k hk).1, (h.cell (p := ⟨b, off + k * 2 + 1, none⟩) hb).trans (hc k hk).2⟩)
      have hb0 := (HR.out.drop j).at (k := 0) (by rw [HM.out]; exact hm0)
      have c0 : ∀ w', Below w.heap.size w w' → w'.cell? ⟨b, off, none⟩ = some (.int .i64 (pAt (r.drop j) 0).1) := fun w' h => by
        have := (h.cell (p := ⟨b, off + 0 * 2, none⟩) hb).trans (hc 0 hm0).1
        simpa using this
      have HCC : Hid (∀ k, k < m → w.cell? ⟨b, off + k * 2, none⟩ = some (.int .i64 (pAt (r.drop j) k).1) ∧ w.cell? ⟨b, off + k * 2 + 1, none⟩ = some (.int .i64 (pAt (r.drop j) k).2)) := hc
      generalize (fp e (r.drop j)).1 = z at *
      generalize (fp e (r.drop j)).2 = u at *
      generalize (pAt (r.drop j) 0).1 = q at *
      have HA2 : Hid ((ac ++ [(q / 2, z)]) ++ abv e (r.drop (j + u)) = abv e r) := by
        show _ = _
        rw [← HA.out, HA1, List.drop_drop, List.append_assoc]
        rfl
      have hq1 : q.tdiv 2 = q / 2 := by rw [Int.tdiv_eq_ediv_of_nonneg (by omega)]
      have hqw : IntKind.i64.wrap (q / 2) = q / 2 := by rw [IntKind.wrap_i64]; omega
      clear hc HA1
      go_wp2_with fail
      refine (hF _ HB.out).mono ?_
      rintro en w1 ⟨rfl, hb1⟩
      have hB1 := below_after_of HB.out hb1
      have hc0 := c0 _ hB1
      have ho1 := own_below HO.out hb1
      have hwz := hB1.size
      have hbw1 : b < w1.heap.size := by omega
      clear hF c0 hb1 HO
      have hui : (u : Int) ≤ (m : Int) := by omega
      have hu0 : (0 : Int) ≤ (u : Int) := by omega
      have hcl : ac.length ≤ 12 := by omega
      go_wp2_with (at_builtin; refine wpList_append_own _ rfl _ _ 236 rfl w.heap.size 240 i0 (.agg #[.int .i64 0, .int .i64 0]) 2 16 Tryz.underlying236 hi hz0 hz1 hz2 rfl (by decide) _ _ _ rfl (ho1.alloc _) ⟨w1.heap.size, 0, none⟩ 1 1 [.int .i64 (q / 2), .int .i64 z] rfl rfl (World.news_of_block (heap_alloc_new _ _)) (ints_oneCell .i64 [q / 2, z]) (by unfold maxLen; omega) (by omega) (by simp; omega) ?_)
      intro v' w2 hown' hgrow _
      have hb2 : Below w.heap.size w w2 := (hB1.alloc (by omega) _).grown hgrow (by simp; omega) (fun k hk => (ho1.lt k hk).1)
      have own2 := own_snoc hown'
      clear hgrow hown' ho1
      have HPn : Hid (Prs w (.slice (if c = u then some ⟨b, off, none⟩ else some ⟨b, off + u * 2, none⟩) (m - u) (c - u)) (r.drop (j + u))) := by
        have hl : (r.drop (j + u)).length = m - u := by rw [← List.drop_drop, List.length_drop, HM.out]
        by_cases hmu : m = u
        · left
          exact ⟨List.eq_nil_of_length_eq_zero (by rw [hl]; omega), _, _, by rw [hmu, Nat.sub_self]⟩
        · right
          rw [if_neg (by omega)]
          refine ⟨b, off + u * 2, c - u, by rw [hl], hb, fun k hk => ?_⟩
          rw [hl] at hk
          have h3 := HCC.out (u + k) (by omega)
          rw [drop_at] at h3
          rw [drop_at, Nat.add_assoc j u k, show off + u * 2 + k * 2 = off + (u + k) * 2 by omega]
          exact h3
      have HMn : Hid ((r.drop (j + u)).length = m - u) := by show _ = _; rw [← List.drop_drop, List.length_drop, HM.out]
      go_wp2
      go_roundw
      case rel => exact ⟨j + u, ac ++ [(q / 2, z)], _, m - u, c - u, rfl, by omega, HMn, by omega, HPn, HA2, by simp; omega, hb2, own2⟩
      case measure => show m - u < m; omega
    · have hm0 : m = 0 := by omega
      subst hm0
      have e1 : ac = abv e r := by
        have := HA.out
        rw [List.eq_nil_of_length_eq_zero HM.out] at this
        simpa [abv] using this
      subst e1
      go_wp2
      go_ret
      exact ⟨_, rfl, HO.out, HB.out⟩
end U
end Go.Proofs.YtdbbmclobmigdaaGreat

/- The sum of a part, and the root, as the program makes them. -/
namespace Go.Proofs.YtdbbmclobmigdaaGreat
open Go.RowKit
namespace U
theorem rows_pls {l : Prl} (h : Ris l) (hf : ∀ p ∈ l, fine p = true) (n : Nat) : Pls (rows l n) := by
  have h0 : ∀ p ∈ l, 0 ≤ p.1 := fun p hp => (fine_bd (hf p hp)).1.1
  intro p hp
  have h1 := rows_bd h h0 n p hp
  obtain ⟨p', hp', e⟩ := ((rows_row h h0 n).2 p.1).1 ⟨p.2, hp⟩
  have h2 := (fine_bd (hf p' hp')).1
  have h3 : p'.1 / (2 ^ n : Nat) ≤ p'.1 := Int.ediv_le_self _ h2.1
  exact ⟨⟨h1.1, by omega⟩, h1.2⟩
theorem own_cap {w : World} {B : Nat} {e : TypeId} {v : Value} {m : Nat} {xs : List Value} (h : w.ownsRow B e 2 v m xs) : ∀ a n c, v = .slice a n c → n ≤ c := by
  intro a n c hv
  subst hv
  rcases h.2 with ⟨h1, _⟩ | ⟨g, cap, cur, h1, _, _, hc, _⟩
  · cases h1; omega
  · cases h1; exact hc
theorem prt_nil {l : Prl} {n : Nat} (h : (rows l n).length = 0) : prt l n = emp n := by
  unfold prt
  rw [List.eq_nil_of_length_eq_zero h]
theorem prt_cons {l : Prl} {n : Nat} (h : 0 < (rows l n).length) : prt l n = (pAt (rows l n) 0).2 := by
  unfold prt
  rcases hr : rows l n with _ | ⟨p, t⟩
  · rw [hr] at h; simp at h
  · simp [pAt]
set_option maxRecDepth 100000 in
set_option maxHeartbeats 4000000 in
theorem partSum_any (v : Value) (l : Prl) (n : Nat) (w : World) (hv : Prs w v l) (hl : l.length ≤ 12) (hr : Ris l) (hf : ∀ p ∈ l, fine p = true) (hn : n ≤ 8) :
    Calls Tryz.prog 143 #[v, .int .i64 (n : Int), .agg (arrA emp)] w fun e w' => e = .returned (.int .i64 (prt l n)) ∧ Below w.heap.size w w' := by
  have hL := fun o => leafRow_any v l _ (hv.below (one_new o)) hl hf
  obtain ⟨ad, c, rfl⟩ := hv.shape
  generalize l.length = len at hv ⊢ hL
  have HL : Hid (l.length ≤ 12) := hl
  have HR : Hid (Ris l) := hr
  have HF : Hid (∀ p ∈ l, fine p = true) := hf
  have A0 := ArrAt.of (f := emp) (heap_alloc_new w (.cells (arrA emp) 205))
  clear hv hr hf hl
  go_enter Tryz.func143, Tryz.ntmps143
  go_wp2_with fail
  refine (hL _).mono ?_
  rintro e w1 ⟨v1, rfl, ho1, hb1⟩
  rw [World.size_alloc] at ho1
  have A1 := A0.below hb1 (by simp)
  have hB1 := below_after hb1
  have hz1 : w.heap.size < w1.heap.size := by have := hb1.size; simp at this; omega
  have HA1 : Hid (ArrAt w1 w.heap.size emp) := A1
  have HB1 : Hid (Below w.heap.size w w1) := hB1
  have HO1 : Hid (w1.ownsRow (w.heap.size + 1) 240 2 v1 (rows l 0).length ((fl (rows l 0)).map (Value.int .i64))) := ho1
  clear hL A0 A1 hb1 ho1 hB1
  go_wp2
  go_loopw [7, 12] (fun u i wr => ∃ k : Nat, k ≤ n ∧ i = .int .i64 k ∧ w.heap.size < wr.heap.size ∧ Hid (Below w.heap.size w wr) ∧ Hid (ArrAt wr w.heap.size emp) ∧ Hid (wr.ownsRow (w.heap.size + 1) 240 2 u (rows l k).length ((fl (rows l k)).map (Value.int .i64)))) (fun _ i _ => n - (intOf i).toNat)
  case atStart => exact ⟨0, Nat.zero_le _, rfl, hz1, HB1, HA1, HO1⟩
  case round =>
    obtain ⟨k, hk, rfl, hz, HB, HA, HO⟩ := hrel
    have hprs := own_prs HO.out
    have hcap := own_cap HO.out
    obtain ⟨a', c', rfl⟩ := own_shape2 HO.out
    by_cases hkn : k < n
    · have hki : (k : Int) < (n : Int) := by omega
      have hk9 : (k : Int) < 9 := by omega
      have hk0 : (0 : Int) ≤ (k : Int) := by omega
      have ck := HA.out.c k (by omega)
      have hR := rowAbove_any _ (rows l k) (emp k) wr hprs hcap (Nat.le_trans (rows_len l k) HL.out) (emp_bd k) (rows_pls HR.out HF.out k)
      have e1 : abv (emp k) (rows l k) = rows l (k + 1) := rfl
      rw [e1] at hR
      obtain ⟨r2, hr2⟩ : ∃ r2, r2 = rows l (k + 1) := ⟨_, rfl⟩
      have HR2 : Hid (rows l (k + 1) = r2) := hr2.symm
      rw [← hr2] at hR
      clear hr2 e1
      generalize emp k = x at *
      generalize (rows l k).length = m at *
      clear hprs hcap HO
      go_wp2_with fail
      refine hR.mono ?_
      rintro e w2 ⟨v2, rfl, ho2, hb2⟩
      have hB2 := below_after_of HB.out hb2
      have A2 := HA.out.below hb2 hz
      have ho3 := own_mono ho2 (show w.heap.size + 1 ≤ wr.heap.size by omega)
      have hz2 := hb2.size
      clear hR hb2 ho2 ck
      go_wp2
      go_roundw
      case rel => exact ⟨k + 1, by omega, by go_num, by omega, hB2, A2, by rw [HR2.out]; exact ho3⟩
      case measure => simp [intOf]; omega
    · have hkn : k = n := by omega
      subst hkn
      have hki : ¬ (k : Int) < (k : Int) := by omega
      have hk9 : (k : Int) < 9 := by omega
      have hk0 : (0 : Int) ≤ (k : Int) := by omega
      have ck := HA.out.c k (by omega)
      have HZ : Hid ((rows l k).length = 0 → prt l k = emp k) := prt_nil
      have HC : Hid (0 < (rows l k).length → prt l k = (pAt (rows l k) 0).2) := prt_cons
      by_cases h0 : (rows l k).length = 0
      · have e1 := HZ.out h0
        have E1 : Hid (prt l k = emp k) := e1
        rw [h0]
        generalize emp k = x at *
        clear hprs hcap e1
        go_wp2
        go_ret
        exact ⟨ret_int E1.out.symm, HB.out⟩
      · obtain ⟨-, b, off, rfl, hb, hc⟩ := hprs.at (by omega)
        have g1 := (hc 0 (by omega)).2
        have E1 : Hid (prt l k = (pAt (rows l k) 0).2) := HC.out (by omega)
        simp only [Nat.zero_mul, Nat.add_zero] at g1
        generalize (pAt (rows l k) 0).2 = y at *
        have hm1 : 0 < (rows l k).length := by omega
        have hm2 : ¬ ((rows l k).length : Int) = 0 := by omega
        have hm3 : (0 : Int) < ((rows l k).length : Int) := by omega
        generalize (rows l k).length = m at *
        clear hprs hcap hc HZ HC ck
        go_wp2
        go_ret
        exact ⟨ret_int E1.out.symm, HB.out⟩
theorem cut_whole {l : Prl} (hf : ∀ p ∈ l, fine p = true) : ∀ p ∈ l, p.1 / (2 ^ 8 : Nat) = 0 := fun p hp => by
  have := (fine_bd (hf p hp)).1
  show p.1 / 256 = 0
  omega
/-- The code and the value of the root. -/
def orC (l : Prl) : Int := slF l
def orV (l : Prl) : Int := if slF l = 0 then nd l 8 0 else 0
end U
end Go.Proofs.YtdbbmclobmigdaaGreat

/- Rows of one's own over what grows elsewhere. -/
namespace Go.Proofs.YtdbbmclobmigdaaGreat
open Go.RowKit
namespace U
theorem own_ints_n {k : IntKind} {w : World} {B n : Nat} {e : TypeId} {v : Value} {xs : List Int} (HN : n = xs.length) (h : w.ownsRow B e 1 v n (xs.map (Value.int k))) : Ints k w v xs := by
  subst HN; exact own_ints h
theorem own_grown {w w' : World} {B n size : Nat} {e : TypeId} {v : Value} {xs : List Value} {row : Option Nat} (h : w.ownsRow B e size v n xs) (hg : w.grownBy w' row) (hne : v.ownBlock = none ∨ v.ownBlock ≠ row) : w'.ownsRow B e size v n xs := by
  refine ⟨h.1, ?_⟩
  rcases h.2 with h2 | ⟨g, cap, cur, rfl, h3, h4, h5⟩
  · exact Or.inl h2
  · refine Or.inr ⟨g, cap, cur, rfl, h3, (hg.block g (Array.getElem?_eq_some_iff.1 h4).1 ?_).trans h4, h5⟩
    rcases hne with hne | hne
    · simp [Value.ownBlock] at hne
    · exact hne
theorem apart_lt {v u : Value} (h : ∀ k, v.ownBlock = some k → ∀ j, u.ownBlock = some j → k < j) : v.ownBlock = none ∨ v.ownBlock ≠ u.ownBlock := by
  rcases hk : v.ownBlock with _ | k
  · exact Or.inl rfl
  · right
    intro e
    have := h k hk k e.symm
    omega
theorem apart_gt {v u : Value} (h : ∀ k, v.ownBlock = some k → ∀ j, u.ownBlock = some j → j < k) : v.ownBlock = none ∨ v.ownBlock ≠ u.ownBlock := by
  rcases hk : v.ownBlock with _ | k
  · exact Or.inl rfl
  · right
    intro e
    have := h k hk k e.symm
    omega
end U
end Go.Proofs.YtdbbmclobmigdaaGreat

/- Answers of a code and slots: compared, marked and looked at anew. -/
namespace Go.Proofs.YtdbbmclobmigdaaGreat
open Go.RowKit
namespace U
def mkP (k n : Nat) : Prl := (List.range n).map fun j => (((k + j * 2 : Nat) : Int), ((k + (j * 2 + 1) : Nat) : Int))
theorem mkP_len (k n : Nat) : (mkP k n).length = n := by simp [mkP]
theorem mkP_at (k n j : Nat) (h : j < n) : pAt (mkP k n) j = (((k + j * 2 : Nat) : Int), ((k + (j * 2 + 1) : Nat) : Int)) := by
  rw [pAt_eq (by rw [mkP_len]; exact h)]
  simp [mkP]
theorem fl_mkP (k n : Nat) : fl (mkP k n) = marks k (n * 2) := by
  apply List.ext_getElem?
  intro i
  by_cases h : i < n * 2
  · have h1 := fl_at (mkP k n) (i / 2) (by rw [mkP_len]; omega)
    rw [mkP_at k n (i / 2) (by omega)] at h1
    have e : (marks k (n * 2))[i]? = some ((k + i : Nat) : Int) := by simp [marks, h]
    rw [e]
    rcases (by omega : i = i / 2 * 2 ∨ i = i / 2 * 2 + 1) with hh | hh
    · rw [hh, h1.1]
    · rw [hh, h1.2]
  · rw [List.getElem?_eq_none (by rw [fl_len, mkP_len]; omega), List.getElem?_eq_none (by rw [marks_len]; omega)]
theorem Prs.grown {w w' : World} {v : Value} {l : Prl} {row : Option Nat} (h : Prs w v l) (hg : w.grownBy w' row) (hne : v.ownBlock = none ∨ v.ownBlock ≠ row) : Prs w' v l := by
  rcases h with h | ⟨b, off, c, rfl, hlt, hc⟩
  · exact Or.inl h
  · have hnb : some b ≠ row := by
      rcases hne with hh | hh
      · simp [Value.ownBlock] at hh
      · exact hh
    exact Or.inr ⟨b, off, c, rfl, Nat.lt_of_lt_of_le hlt hg.size, fun j hj => ⟨hg.cell (hc j hj).1 hnb, hg.cell (hc j hj).2 hnb⟩⟩
theorem own_prs_n {w : World} {B n : Nat} {e : TypeId} {v : Value} {l : Prl} (HN : n = l.length) (h : w.ownsRow B e 2 v n ((fl l).map (Value.int .i64))) : Prs w v l := by
  subst HN; exact own_prs h
end U
end Go.Proofs.YtdbbmclobmigdaaGreat

/- What is cut out of slots, by the program; CutSlots. -/
namespace Go.Proofs.YtdbbmclobmigdaaGreat
open Go.RowKit
namespace U
/-- The answer of a function that hands back a code and slots of its own. -/
def SlotsAns (w : World) (code : Int) (l : Prl) (e : Ending) (w' : World) : Prop :=
  Below w.heap.size w w' ∧ ∃ v, e = .returned (.agg #[.int .i64 code, v]) ∧ w'.ownsRow w.heap.size 45 2 v l.length ((fl l).map (Value.int .i64))
theorem SlotsAns.use {w w' : World} {code : Int} {l : Prl} {e : Ending} (h : SlotsAns w code l e w') : ∃ a c, e = .returned (.agg #[.int .i64 code, .slice a l.length c]) ∧ Below w.heap.size w w' ∧ w'.ownsRow w.heap.size 45 2 (.slice a l.length c) l.length ((fl l).map (Value.int .i64)) := by
  obtain ⟨hb, v, rfl, ho⟩ := h
  obtain ⟨a, c, rfl⟩ := own_shape2 ho
  exact ⟨a, c, rfl, hb, ho⟩
/-- A slice value as it may be: no more in it than it has room for; without an address there is no room. -/
def Okv (v : Value) : Prop := ∀ a n c, v = .slice a n c → n ≤ c ∧ (a = none → c = 0)
theorem own_okv {w : World} {B : Nat} {e : TypeId} {v : Value} {m : Nat} {xs : List Value} (h : w.ownsRow B e 2 v m xs) : Okv v := by
  intro a n c hv
  subst hv
  rcases h.2 with ⟨h1, _⟩ | ⟨g, cap, cur, h1, _, _, hc, _⟩
  · cases h1; exact ⟨by omega, fun _ => rfl⟩
  · cases h1; exact ⟨hc, fun h => by cases h⟩
/-- Slots between two keys: it shares memory with the list. -/
theorem prs_part {w : World} {b off n c i j : Nat} {l : Prl} (hn : n = l.length) (hb : b < w.heap.size) (hij : i ≤ j) (hj : j ≤ n)
    (hc : ∀ j, j < n → w.cell? ⟨b, off + j * 2, none⟩ = some (.int .i64 (pAt l j).1) ∧ w.cell? ⟨b, off + j * 2 + 1, none⟩ = some (.int .i64 (pAt l j).2)) :
    Prs w (.slice (some ⟨b, off + i * 2, none⟩) (j - i) c) ((l.take j).drop i) := by
  right
  have hl : ((l.take j).drop i).length = j - i := by rw [List.length_drop, List.length_take]; omega
  refine ⟨b, off + i * 2, c, by rw [hl], hb, fun k hk => ?_⟩
  rw [hl] at hk
  have h1 := hc (i + k) (by omega)
  have e : pAt ((l.take j).drop i) k = pAt l (i + k) := by
    unfold pAt
    rw [List.getD_eq_getElem?_getD, List.getD_eq_getElem?_getD, List.getElem?_drop, List.getElem?_take, if_pos (by omega)]
  rw [e, show off + i * 2 + k * 2 = off + (i + k) * 2 by omega]
  exact h1
set_option maxRecDepth 100000 in
set_option maxHeartbeats 2000000 in
theorem slotsBetween_any (v : Value) (l : Prl) (a b : Int) (w : World) (hv : Prs w v l) (hcap : Okv v) (hl : l.length ≤ 12) (hr : Ris l) (hab : a ≤ b) :
    Calls Tryz.prog 142 #[v, .int .i64 a, .int .i64 b] w fun e w' => (∃ ad c, e = .returned (.slice ad (cut l a b).length c) ∧ Prs w (.slice ad (cut l a b).length c) (cut l a b) ∧ Okv (.slice ad (cut l a b).length c)) ∧ Below w.heap.size w w' := by
  have hP1 := fun w' h => placeOf_any v l a w' (hv.below h) hl hr
  have hP2 := fun w' h => placeOf_any v l b w' (hv.below h) hl hr
  have hm := low_mono l hab
  have hle := low_le l b
  have hce := cut_eq hr a b
  have hlen : (cut l a b).length = low l b - low l a := by rw [hce, List.length_drop, List.length_take]; omega
  obtain ⟨ad, c, rfl⟩ := hv.shape
  have hcp := (hcap _ _ _ rfl).1
  have HNC : Hid (ad = none → c = 0) := (hcap _ _ _ rfl).2
  have HV : Hid (Prs w (.slice ad l.length c) l) := hv
  have HPT : Hid (∀ bk off cc, ad = some ⟨bk, off, none⟩ → 0 < l.length → Prs w (.slice (some ⟨bk, off + low l a * 2, none⟩) (low l b - low l a) cc) (cut l a b)) := fun bk off cc e h0 => by
    subst e
    obtain ⟨_, b', off', e', hb', hc'⟩ := hv.at h0
    cases e'
    rw [hce]
    exact prs_part rfl hb' hm hle hc'
  have HL : Hid ((cut l a b).length = low l b - low l a) := hlen
  have HN : Hid (low l b - low l a = 0 → cut l a b = []) := fun h => List.eq_nil_of_length_eq_zero (by rw [hlen]; exact h)
  have hadr : 0 < l.length → ∃ bk off, ad = some ⟨bk, off, none⟩ := fun h0 => by
    obtain ⟨_, b', off', e', _⟩ := hv.at h0
    exact ⟨b', off', e'⟩
  rw [hlen]
  generalize cut l a b = m at *
  generalize low l b = j at *
  generalize low l a = i at *
  generalize thr l a = t1 at *
  generalize thr l b = t2 at *
  generalize l.length = n at *
  clear hv hr hcap hce hlen hab
  have hij : (i : Int) ≤ (j : Int) := by omega
  have hjc : (j : Int) ≤ (c : Int) := by omega
  have hjn : (j : Int) ≤ (n : Int) := by omega
  by_cases h0 : 0 < n
  · obtain ⟨bk, off, rfl⟩ := hadr h0
    clear hadr
    by_cases hci : c = i
    · have hji : j - i = 0 := by omega
      have HM : Hid (m = []) := HN.out hji
      have hij2 : j = i := by omega
      subst hij2 hci
      go_enter Tryz.func142, Tryz.ntmps142
      go_wp2_with fail
      refine (hP1 _ (Below.refl _ _)).mono ?_
      rintro e w1 ⟨rfl, hb1⟩
      clear hP1
      go_wp2_with fail
      refine (hP2 _ hb1).mono ?_
      rintro e w2 ⟨rfl, hb2⟩
      have hB2 := below_after_of hb1 hb2
      clear hP2 hb1 hb2
      go_wp2
      go_ret
      exact ⟨⟨_, _, by rw [Nat.sub_self]; rfl, Or.inl ⟨HM.out, _, _, by rw [Nat.sub_self]⟩, fun _ _ _ h => by cases h; exact ⟨by omega, fun h => by cases h⟩⟩, hB2⟩
    · have HPX := HPT.out bk off (c - i) rfl h0
      have HPX : Hid (Prs w (.slice (some ⟨bk, off + i * 2, none⟩) (j - i) (c - i)) m) := HPX
      clear HPT
      go_enter Tryz.func142, Tryz.ntmps142
      go_wp2_with fail
      refine (hP1 _ (Below.refl _ _)).mono ?_
      rintro e w1 ⟨rfl, hb1⟩
      clear hP1
      go_wp2_with fail
      refine (hP2 _ hb1).mono ?_
      rintro e w2 ⟨rfl, hb2⟩
      have hB2 := below_after_of hb1 hb2
      clear hP2 hb1 hb2
      go_wp2
      go_ret
      exact ⟨⟨_, _, rfl, HPX.out, fun _ _ _ h => by cases h; exact ⟨by omega, fun h => by cases h⟩⟩, hB2⟩
  · have hj0 : j = 0 := by omega
    have hi0 : i = 0 := by omega
    have hn0 : n = 0 := by omega
    subst hj0 hi0 hn0
    have HM : Hid (m = []) := HN.out rfl
    clear hadr HPT HN HV
    rcases ad with _ | ad
    · have hc0 := HNC.out rfl
      subst hc0
      clear HNC
      go_enter Tryz.func142, Tryz.ntmps142
      go_wp2_with fail
      refine (hP1 _ (Below.refl _ _)).mono ?_
      rintro e w1 ⟨rfl, hb1⟩
      clear hP1
      go_wp2_with fail
      refine (hP2 _ hb1).mono ?_
      rintro e w2 ⟨rfl, hb2⟩
      have hB2 := below_after_of hb1 hb2
      clear hP2 hb1 hb2
      go_wp2
      go_ret
      exact ⟨⟨_, _, rfl, Or.inl ⟨HM.out, _, _, rfl⟩, fun _ _ _ h => by cases h; exact ⟨by omega, fun _ => rfl⟩⟩, hB2⟩
    · go_enter Tryz.func142, Tryz.ntmps142
      go_wp2_with fail
      refine (hP1 _ (Below.refl _ _)).mono ?_
      rintro e w1 ⟨rfl, hb1⟩
      clear hP1
      go_wp2_with fail
      refine (hP2 _ hb1).mono ?_
      rintro e w2 ⟨rfl, hb2⟩
      have hB2 := below_after_of hb1 hb2
      clear hP2 hb1 hb2
      go_wp2
      go_ret
      exact ⟨⟨_, _, rfl, Or.inl ⟨HM.out, _, _, rfl⟩, fun _ _ _ h => by cases h; exact ⟨by omega, fun h => by cases h⟩⟩, hB2⟩
/-- The code and the slots that are cut out. -/
def cutB (a b : Int) : Bool := inB a 0 256 && inB b a 256
def csC (l : Prl) (a b : Int) : Int := if slF l = 0 then (if cutB a b = true then 0 else 3) else slF l
def csL (l : Prl) (a b : Int) : Prl := if slF l = 0 ∧ cutB a b = true then cut l a b else []
theorem csL_len (l : Prl) (a b : Int) : (csL l a b).length ≤ l.length := by
  unfold csL
  split
  · exact cut_len _ _ _
  · simp
theorem pair_cells {w : World} {g : Nat} {x y : Value} {t : TypeId} : w.heap[g]? = some (.cells #[x, y] t) → w.cell? ⟨g, 0, none⟩ = some x ∧ w.cell? ⟨g, 1, none⟩ = some y ∧ w.frozen? ⟨g, 0, none⟩ = false ∧ w.frozen? ⟨g, 1, none⟩ = false := two_cellsV
theorem prs_news {w : World} {ad : Addr} {m c : Nat} {l : Prl} (h : Prs w (.slice (some ad) m c) l) : ∀ j u, ((fl l).map (Value.int .i64))[j]? = some u → w.cell? (ad.add j) = some u := by
  intro j u hu
  have hj : j < l.length * 2 := by
    have := (List.getElem?_eq_some_iff.1 hu).1
    rwa [List.length_map, fl_len] at this
  obtain ⟨_, b, off, e, hb, hc⟩ := h.at (by omega)
  cases e
  have h1 := hc (j / 2) (by omega)
  have h2 := fl_at l (j / 2) (by omega)
  rw [List.getElem?_map] at hu
  rw [Go.WideShapes.add_plain]
  rcases (by omega : j = j / 2 * 2 ∨ j = j / 2 * 2 + 1) with e | e
  · rw [e, h2.1] at hu
    rw [show off + j = off + j / 2 * 2 by omega, h1.1]
    exact hu
  · rw [e, h2.2] at hu
    rw [show off + j = off + j / 2 * 2 + 1 by omega, h1.2]
    exact hu
end U
end Go.Proofs.YtdbbmclobmigdaaGreat

/- The path of a key, by the model. -/
namespace Go.Proofs.YtdbbmclobmigdaaGreat
open Go.RowKit
namespace U
/-- The other side of a key at a level. -/
def sib (x : Int) (n : Nat) : Int := if x / (2 ^ n : Nat) % 2 = 0 then x / (2 ^ n : Nat) + 1 else x / (2 ^ n : Nat) - 1
/-- The first sums of a path. -/
def pth (l : Prl) (x : Int) : Nat → List Int
  | 0 => []
  | n + 1 => pth l x n ++ [nd l n (sib x n)]
theorem pth_len (l : Prl) (x : Int) (n : Nat) : (pth l x n).length = n := by
  induction n with
  | zero => rfl
  | succ n ih => unfold pth; simp [ih]
def opC (l : Prl) (x : Int) : Int := if slF l = 0 then (if inB x 0 255 = true then 0 else 3) else slF l
def opL (l : Prl) (x : Int) : List Int := if slF l = 0 ∧ inB x 0 255 = true then pth l x 8 else []
theorem opL_len (l : Prl) (x : Int) : (opL l x).length ≤ 8 := by
  unfold opL
  split
  · rw [pth_len]; omega
  · simp
theorem sib_even {x q : Int} {n : Nat} {S : Int} (hS : ((2 ^ n : Nat) : Int) = S) (hq : q = x / S) (h : q % 2 = 0) : sib x n = q + 1 := by
  unfold sib
  rw [hS, ← hq, if_pos h]
theorem sib_odd {x q : Int} {n : Nat} {S : Int} (hS : ((2 ^ n : Nat) : Int) = S) (hq : q = x / S) (h : ¬ q % 2 = 0) : sib x n = q - 1 := by
  unfold sib
  rw [hS, ← hq, if_neg h]
theorem own_one {w : World} {B : Nat} {e : TypeId} {v : Value} {zs : List Int} {b : Int} (h : w.ownsRow B e 1 v (zs.length + 1) (zs.map (Value.int .i64) ++ [.int .i64 b])) : w.ownsRow B e 1 v (zs ++ [b]).length ((zs ++ [b]).map (Value.int .i64)) := by
  rw [List.map_append, List.length_append]; exact h
theorem none_own1 (w : World) (e : TypeId) (B : Nat) (hB : B ≤ w.heap.size) : (w.alloc (.cells #[] e)).ownsRow B e 1 (.slice (some ⟨w.heap.size, 0, none⟩) 0 0) 0 [] :=
  World.ownsRow_made w #[] 0 hB (by decide) rfl
end U
end Go.Proofs.YtdbbmclobmigdaaGreat

/- Climbing from a leaf, by mathematics alone. -/
namespace Go.Proofs.YtdbbmclobmigdaaGreat
open Go.RowKit
namespace U
/-- The sum at a level, and the two sums below the next one. -/
def clm (x s : Int) (p : List Int) : Nat → Int
  | 0 => s
  | n + 1 => if x / (2 ^ n : Nat) % 2 = 0 then t2 (clm x s p n) (p.getD n 0) else t2 (p.getD n 0) (clm x s p n)
def sdL (x s : Int) (p : List Int) (n : Nat) : Int := if x / (2 ^ n : Nat) % 2 = 0 then clm x s p n else p.getD n 0
def sdR (x s : Int) (p : List Int) (n : Nat) : Int := if x / (2 ^ n : Nat) % 2 = 0 then p.getD n 0 else clm x s p n
theorem clm_zero (x s : Int) (p : List Int) : clm x s p 0 = s := rfl
theorem clm_succ (x s : Int) (p : List Int) (n : Nat) : clm x s p (n + 1) = t2 (sdL x s p n) (sdR x s p n) := by
  unfold sdL sdR
  rw [clm]
  split <;> rfl
theorem clm_even {x s : Int} {p : List Int} {n : Nat} (h : x / (2 ^ n : Nat) % 2 = 0) : clm x s p (n + 1) = t2 (clm x s p n) (p.getD n 0) := by rw [clm, if_pos h]
theorem clm_odd {x s : Int} {p : List Int} {n : Nat} (h : ¬ x / (2 ^ n : Nat) % 2 = 0) : clm x s p (n + 1) = t2 (p.getD n 0) (clm x s p n) := by rw [clm, if_neg h]
theorem clm_bd {x s : Int} {p : List Int} (h : 0 ≤ s ∧ s ≤ 65520) (n : Nat) : 0 ≤ clm x s p n ∧ clm x s p n ≤ 65520 := by
  cases n with
  | zero => exact h
  | succ n => rw [clm_succ]; exact t2_bd _ _
theorem path_at {p : List Int} (h : p.all sumB = true) (n : Nat) : 0 ≤ p.getD n 0 ∧ p.getD n 0 ≤ 65520 := by
  by_cases hn : n < p.length
  · rw [getD_eq hn]
    exact (sumB_iff _).1 (List.all_eq_true.1 h _ (List.getElem_mem hn))
  · rw [List.getD_eq_getElem?_getD, List.getElem?_eq_none (by omega)]; simp
theorem sd_bd {x s : Int} {p : List Int} (h : 0 ≤ s ∧ s ≤ 65520) (hp : p.all sumB = true) (n : Nat) : (0 ≤ sdL x s p n ∧ sdL x s p n ≤ 65520) ∧ 0 ≤ sdR x s p n ∧ sdR x s p n ≤ 65520 := by
  unfold sdL sdR
  have h1 := clm_bd (x := x) (p := p) h n
  have h2 := path_at hp n
  split
  · exact ⟨h1, h2⟩
  · exact ⟨h2, h1⟩
theorem clm_take {x s : Int} {p : List Int} {i : Nat} : ∀ n, n ≤ i → clm x s (p.take i) n = clm x s p n := by
  intro n
  induction n with
  | zero => intro _; rfl
  | succ n ih =>
    intro h
    have e : (p.take i).getD n 0 = p.getD n 0 := by
      rw [List.getD_eq_getElem?_getD, List.getD_eq_getElem?_getD, List.getElem?_take, if_pos (by omega)]
    rw [clm, clm, ih (by omega), e]
/-- A part is the sum above its two halves, whether it has a slot or not. -/
theorem nd_both (l : Prl) (n : Nat) (q : Int) : nd l (n + 1) q = t2 (nd l n (2 * q)) (nd l n (2 * q + 1)) := by
  rw [nd_succ]
  split
  · rfl
  · rename_i h
    rw [has_succ] at h
    rw [nd_none (fun e => h (Or.inl e)), nd_none (fun e => h (Or.inr e))]
    rfl
theorem pth_at (l : Prl) (x : Int) : ∀ (m n : Nat), n < m → (pth l x m).getD n 0 = nd l n (sib x n) := by
  intro m
  induction m with
  | zero => intro n h; omega
  | succ m ih =>
    intro n h
    rw [pth]
    by_cases hn : n < m
    · rw [← ih n hn, List.getD_eq_getElem?_getD, List.getD_eq_getElem?_getD, List.getElem?_append_left (by rw [pth_len]; exact hn)]
    · have : n = m := by omega
      subst this
      rw [List.getD_eq_getElem?_getD, List.getElem?_append_right (by rw [pth_len]; exact Nat.le_refl _), pth_len]
      simp
/-- Of a tree as it is, climbing is the sum of the part. -/
theorem clm_honest (l : Prl) (x : Int) {s : Int} (hs : s = nd l 0 x) : ∀ n, n ≤ 8 → clm x s (pth l x 8) n = nd l n (x / (2 ^ n : Nat)) := by
  intro n
  induction n with
  | zero => intro _; rw [clm_zero, hs]; simp
  | succ n ih =>
    intro h
    have e1 := pth_at l x 8 n (by omega)
    have e2 := ih (by omega)
    have hd := div_succ x n
    generalize hq : x / (2 ^ n : Nat) = q at *
    rw [nd_both, hd]
    by_cases h0 : q % 2 = 0
    · have hs := sib_even (x := x) (q := q) (n := n) rfl hq.symm h0
      rw [clm_even (by rw [hq]; exact h0), e1, e2, hs, show 2 * (q / 2) = q by omega]
    · have hs := sib_odd (x := x) (q := q) (n := n) rfl hq.symm h0
      rw [clm_odd (by rw [hq]; exact h0), e1, e2, hs, show 2 * (q / 2) = q - 1 by omega, show q - 1 + 1 = q by omega]
theorem pth_ok (l : Prl) (x : Int) : ∀ m, (pth l x m).all sumB = true := by
  intro m
  induction m with
  | zero => rfl
  | succ m ih =>
    rw [pth, List.all_append, ih]
    simp [sumB_iff, nd_bd]
/-- What is summed for the leaf of a key, as there is. -/
def lfT (l : Prl) (x : Int) : List Int := leafL x (thr l x) (fsV l x)
theorem lfT_there {l : Prl} {x : Int} (h0 : slF l = 0) (h : thr l x = true) : lfT l x = tagL 3 [x, (pAt l (low l x)).2] := by
  unfold lfT fsV leafL
  rw [if_pos h, if_pos ⟨h0, h⟩]
theorem lfT_none {l : Prl} {x : Int} (h : thr l x = false) : lfT l x = [] := by
  unfold lfT leafL
  rw [h]; simp
theorem lfT_sum {l : Prl} {x : Int} (h0 : slF l = 0) : sumL (lfT l x) = nd l 0 x := by
  have hl := slF_ok h0
  rcases Bool.eq_false_or_eq_true (thr l x) with h | h
  · rw [lfT_there h0 h]
    have hlt := thr_lt h
    have hk : (pAt l (low l x)).1 = x := by
      unfold thr at h
      rw [Bool.and_eq_true] at h
      exact of_decide_eq_true h.2
    unfold nd
    have : l.find? (fun p => p.1 == x) = some (pAt l (low l x)) := by
      rw [List.find?_eq_some_iff_getElem]
      refine ⟨by simp [hk], low l x, hlt, (pAt_eq hlt).symm, fun j hj => ?_⟩
      have := (low_iff hl.ris x (Nat.lt_trans hj hlt)).2 hj
      rw [pAt_eq (Nat.lt_trans hj hlt)] at this
      simp
      omega
    rw [this]
    show _ = sumL (tagL 3 [(pAt l (low l x)).1, (pAt l (low l x)).2])
    rw [hk]
  · rw [lfT_none h]
    unfold nd
    have : l.find? (fun p => p.1 == x) = none := by
      rw [List.find?_eq_none]
      intro p hp e
      have := (thr_iff hl.ris x).2 ⟨p, hp, (beq_iff_eq).1 e⟩
      rw [h] at this; cases this
    rw [this]
    rfl
theorem lfT_askd {l : Prl} {x : Int} (h0 : slF l = 0) (hx : 0 ≤ x ∧ x ≤ 255) : askd x (thr l x) (fsV l x) = true := by
  have hl := slF_ok h0
  rcases Bool.eq_false_or_eq_true (thr l x) with h | h
  · have e : fsV l x = (pAt l (low l x)).2 := by unfold fsV; rw [if_pos ⟨h0, h⟩]
    rw [h, lb_there (inB_t hx.1 hx.2), e, sumB_iff]
    exact (hl.at (thr_lt h)).2
  · have e : fsV l x = 0 := by unfold fsV; rw [if_neg (by rw [h]; simp)]
    rw [h, lb_none (inB_t hx.1 hx.2), e]
    rfl
/-- What climbing answers. -/
def coC (x : Int) (b : Bool) (v : Int) (p : List Int) : Int := if askd x b v = true then (if p.length = 8 then (if p.all sumB = true then 0 else 3) else 9) else 3
def coV (x : Int) (b : Bool) (v : Int) (p : List Int) : Int := if askd x b v = true ∧ p.length = 8 ∧ p.all sumB = true then clm x (sumL (leafL x b v)) p 8 else 0
end U
end Go.Proofs.YtdbbmclobmigdaaGreat

/- Climbing, by the program. -/
namespace Go.Proofs.YtdbbmclobmigdaaGreat
open Go.RowKit
namespace U
/-- Eight values in a block. -/
structure ArrV (w : World) (g : Nat) (f : Nat → Value) : Prop where
  c : ∀ j, j < 8 → w.cell? ⟨g, j, none⟩ = some (f j)
  z : ∀ j, j < 8 → w.frozen? ⟨g, j, none⟩ = false
def arrV (f : Nat → Value) : Array Value := #[f 0, f 1, f 2, f 3, f 4, f 5, f 6, f 7]
theorem lt8 {j : Nat} (h : j < 8) : j = 0 ∨ j = 1 ∨ j = 2 ∨ j = 3 ∨ j = 4 ∨ j = 5 ∨ j = 6 ∨ j = 7 := by omega
theorem ArrV.of {w : World} {g : Nat} {f : Nat → Value} {t : TypeId} (h : w.heap[g]? = some (.cells (arrV f) t)) : ArrV w g f := by
  constructor
  · intro j hj
    rcases lt8 hj with rfl | rfl | rfl | rfl | rfl | rfl | rfl | rfl <;> (unfold World.cell?; rw [h]; rfl)
  · intro j hj
    rcases lt8 hj with rfl | rfl | rfl | rfl | rfl | rfl | rfl | rfl <;> (unfold World.frozen?; rw [h]; rfl)
theorem ArrV.below {w w' : World} {g B : Nat} {f : Nat → Value} (h : ArrV w g f) (hb : Below B w w') (hg : g < B) : ArrV w' g f :=
  ⟨fun j hj => (hb.cell (p := ⟨g, j, none⟩) hg).trans (h.c j hj), fun j hj => (hb.frozen (p := ⟨g, j, none⟩) hg).trans (h.z j hj)⟩
theorem ArrV.set {w : World} {g k : Nat} {f : Nat → Value} (h : ArrV w g f) (hk : k < 8) (x : Value) : ArrV (w.setCell ⟨g, k, none⟩ x) g (fun j => if j = k then x else f j) := by
  refine ⟨fun j hj => ?_, fun j hj => (World.frozen?_setCell _ _ _ _).trans (h.z j hj)⟩
  by_cases e : j = k
  · subst e
    rw [if_pos rfl]
    exact World.cell?_setCell_same _ _ _ (h.c j hj)
  · rw [if_neg e]
    exact (World.cell?_setCell_other _ _ _ _ (by simp)).trans (h.c j hj)
theorem ArrV.other {w : World} {g k b : Nat} {f : Nat → Value} (h : ArrV w g f) (hb : b ≠ g) (x : Value) : ArrV (w.setCell ⟨b, k, none⟩ x) g f :=
  ⟨fun j hj => (World.cell?_setCell_other _ _ _ _ (by simp)).trans (h.c j hj), fun j hj => (World.frozen?_setCell _ _ _ _).trans (h.z j hj)⟩
theorem ArrV.cells {w : World} {g : Nat} {f : Nat → Value} (h : ArrV w g f) : w.cell? ⟨g, 0, none⟩ = some (f 0) ∧ w.cell? ⟨g, 1, none⟩ = some (f 1) ∧ w.cell? ⟨g, 2, none⟩ = some (f 2) ∧ w.cell? ⟨g, 3, none⟩ = some (f 3) ∧ w.cell? ⟨g, 4, none⟩ = some (f 4) ∧ w.cell? ⟨g, 5, none⟩ = some (f 5) ∧ w.cell? ⟨g, 6, none⟩ = some (f 6) ∧ w.cell? ⟨g, 7, none⟩ = some (f 7) :=
  ⟨h.c 0 (by omega), h.c 1 (by omega), h.c 2 (by omega), h.c 3 (by omega), h.c 4 (by omega), h.c 5 (by omega), h.c 6 (by omega), h.c 7 (by omega)⟩
theorem ArrV.froz {w : World} {g : Nat} {f : Nat → Value} (h : ArrV w g f) : w.frozen? ⟨g, 0, none⟩ = false ∧ w.frozen? ⟨g, 1, none⟩ = false ∧ w.frozen? ⟨g, 2, none⟩ = false ∧ w.frozen? ⟨g, 3, none⟩ = false ∧ w.frozen? ⟨g, 4, none⟩ = false ∧ w.frozen? ⟨g, 5, none⟩ = false ∧ w.frozen? ⟨g, 6, none⟩ = false ∧ w.frozen? ⟨g, 7, none⟩ = false :=
  ⟨h.z 0 (by omega), h.z 1 (by omega), h.z 2 (by omega), h.z 3 (by omega), h.z 4 (by omega), h.z 5 (by omega), h.z 6 (by omega), h.z 7 (by omega)⟩
theorem ArrV.congr {w : World} {g : Nat} {f f' : Nat → Value} (h : ArrV w g f) (e : ∀ j, j < 8 → f j = f' j) : ArrV w g f' := ⟨fun j hj => by rw [← e j hj]; exact h.c j hj, h.z⟩
/-- A scope with one label to which the run jumps back: a pass is walked once. -/
theorem wp_scope_once {P : Program} {a : Act} {w : World} {Q : Exit → Act → World → Prop} {c R : Code} (l : Nat) (J : Act → World → Prop) (μ : Act → World → Nat) (hf : findLabel c l = some (Code.skip.seq R))
    (pass : ∀ a w, J a w → R.wp P (Exit.jump l (fun a' w' => J a' w' ∧ μ a' w' < μ a w) Q) a w)
    (first : (∀ a w, J a w → R.wp P (Exit.jump l J Q) a w) → c.wp P (Exit.jump l J Q) a w) : (Code.scope c).wp P Q a w := by
  refine wp_scope_jumps l J μ hf (first fun a w h => Code.wp_mono ?_ (pass a w h)) (fun a w h => wp_seq (wp_skip (pass a w h)))
  intro e a' w' h'
  cases e <;> first | exact h' | exact ⟨h'.1, h'.2.1⟩
theorem two_lie (w : World) (o o' : Obj) : ((w.alloc o).alloc o').heap[w.heap.size]? = some o ∧ ((w.alloc o).alloc o').heap[w.heap.size + 1]? = some o' := by
  have h1 := heap_alloc_new (w.alloc o) o'
  simp only [World.size_alloc] at h1
  exact ⟨(Below.heap_alloc _ _ _ (by simp)).trans (heap_alloc_new w o), h1⟩
/-- The nodes up to a level, as numbers; nothing behind it. -/
def nds (x s : Int) (p : List Int) (k j : Nat) : Value := if j < k then cx (sdL x s p j) (sdR x s p j) else .complex .f64 0 0
theorem nds_set (x s : Int) (p : List Int) (k : Nat) : ∀ j, j < 8 → (fun j => if j = k then cx (sdL x s p k) (sdR x s p k) else nds x s p k j) j = nds x s p (k + 1) j := by
  intro j _
  show (if j = k then cx (sdL x s p k) (sdR x s p k) else nds x s p k j) = nds x s p (k + 1) j
  unfold nds
  by_cases e : j = k
  · subst e
    rw [if_pos rfl, if_pos (by omega)]
  · rw [if_neg e]
    by_cases e2 : j < k
    · rw [if_pos e2, if_pos (by omega)]
    · rw [if_neg e2, if_neg (by omega)]
def zro : Nat → Value := fun _ => .complex .f64 0 0
theorem ArrV.zcells {w : World} {g : Nat} (h : ArrV w g zro) : w.cell? ⟨g, 0, none⟩ = some (.complex .f64 0 0) ∧ w.cell? ⟨g, 1, none⟩ = some (.complex .f64 0 0) ∧ w.cell? ⟨g, 2, none⟩ = some (.complex .f64 0 0) ∧ w.cell? ⟨g, 3, none⟩ = some (.complex .f64 0 0) ∧ w.cell? ⟨g, 4, none⟩ = some (.complex .f64 0 0) ∧ w.cell? ⟨g, 5, none⟩ = some (.complex .f64 0 0) ∧ w.cell? ⟨g, 6, none⟩ = some (.complex .f64 0 0) ∧ w.cell? ⟨g, 7, none⟩ = some (.complex .f64 0 0) := h.cells
theorem nds_zero (x s : Int) (p : List Int) : nds x s p 0 = zro := by
  funext j
  unfold nds zro
  rw [if_neg (by omega)]
set_option maxRecDepth 100000 in
set_option maxHeartbeats 4000000 in
theorem climb_any (x : Int) (v u : Value) (ls p : List Int) (w : World) (hx : 0 ≤ x ∧ x ≤ 255) (hv : Ints .u8 w v ls) (hB : Bts ls) (hl : ls.length ≤ 200) (hu : Ints .i64 w u p) (hp : p.length = 8) (hs : p.all sumB = true) :
    Calls Tryz.prog 164 #[.int .i64 x, v, u] w fun e w' => e = .returned (.tuple #[.agg (arrV (nds x (sumL ls) p 8)), .int .i64 (clm x (sumL ls) p 8)]) ∧ Below w.heap.size w w' := by
  have hS := fun w' h => implSumOf_any v ls w' (hv.below h) hB (by omega)
  rw [(sm_ok (bs := ls) (by omega)).1, (sm_ok (bs := ls) (by omega)).2] at hS
  have hsb := sumL_bd ls
  have hR := fun n => clm_bd (x := x) (p := p) hsb n
  have hD := fun n => sd_bd (x := x) hsb hs n
  obtain ⟨va, vc, rfl⟩ := hv.shape
  generalize ls.length = vn at *
  generalize sumL ls = s0 at *
  obtain ⟨ua, uc, rfl⟩ := hu.shape
  obtain ⟨-, b, off, rfl, hb, hc⟩ := hu.at (by omega : 0 < p.length)
  rw [hp] at hu hc ⊢
  have kf := fun w => field_IR1 0 s0 w
  have HC : Hid (∀ w', Below w.heap.size w w' → ∀ j, j < 8 → w'.cell? ⟨b, off + j, none⟩ = some (.int .i64 (p.getD j 0))) := fun w' h j hj => (h.cell (p := ⟨b, off + j, none⟩) hb).trans (hc j hj)
  clear hu hv hc hB hl
  have HZ0 : Hid (nds x s0 p 0 = zro) := nds_zero x s0 p
  go_enter Tryz.func164, Tryz.ntmps164
  go_wp2
  rename_i Q0
  have HQ : Hid (∀ a' w', bodyPost Tryz.prog Tryz.f164 (fun e w' => e = .returned (.tuple #[.agg (arrV (nds x s0 p 8)), .int .i64 (clm x s0 p 8)]) ∧ Below w.heap.size w w') .ret a' w' → Q0 .ret a' w') := fun _ _ h => h
  clear_value Q0
  refine wp_scope_once 0 (fun a' w' => ∃ (k : Nat) (u14 u15 u16 u17 u18 u19 u20 u21 u22 u23 u24 u25 u26 u27 u28 u29 u30 u31 u32 u33 u34 : Value), k < 8 ∧ a' = { tmps := #[.int .i64 x, .slice va vn vc, .slice (some ⟨b, off, none⟩) 8 uc, undef, undef, undef, .pointer (some ⟨w.heap.size, 0, none⟩), .int .i64 0, .pointer (some ⟨w.heap.size + 1, 0, none⟩), .int .i64 (clm x s0 p k), .int .i64 k, .slice va vn vc, .agg #[.int .i64 0, .int .i64 s0], .int .i64 s0, u14, u15, u16, u17, u18, u19, u20, u21, u22, u23, u24, u25, u26, u27, u28, u29, u30, u31, u32, u33, u34], defers := [] } ∧ w.heap.size + 1 < w'.heap.size ∧ Hid (Below w.heap.size w w') ∧ Hid (ArrV w' (w.heap.size + 1) (nds x s0 p k)) ∧ Hid (ArrV w' w.heap.size zro)) (fun a' _ => 8 - (intOf (a'.tmps.getD 10 undef)).toNat) rfl ?_ ?_
  · rintro a' wr ⟨k, u14, u15, u16, u17, u18, u19, u20, u21, u22, u23, u24, u25, u26, u27, u28, u29, u30, u31, u32, u33, u34, hk, rfl, hsz, HB, HA, HZ⟩
    have ck := HC.out _ HB.out k hk
    have hck := HA.out.c k hk
    have hcz := HA.out.z k hk
    have hk0 : (0 : Int) ≤ (k : Int) := by omega
    have hk8 : (k : Int) < 8 := by omega
    have hkw : IntKind.i64.wrap ((k : Int) + 1) = (k : Int) + 1 := by rw [IntKind.wrap_i64]; omega
    have hAB := hD k
    have hnx : Hid (clm x s0 p (k + 1) = t2 (sdL x s0 p k) (sdR x s0 p k)) := clm_succ x s0 p k
    have hset : Hid (ArrV (wr.setCell ⟨w.heap.size + 1, k, none⟩ (cx (sdL x s0 p k) (sdR x s0 p k))) (w.heap.size + 1) (nds x s0 p (k + 1))) := (HA.out.set hk _).congr (nds_set x s0 p k)
    have hz2 : Hid (ArrV (wr.setCell ⟨w.heap.size + 1, k, none⟩ (cx (sdL x s0 p k) (sdR x s0 p k))) w.heap.size zro) := HZ.out.other (k := k) (b := w.heap.size + 1) (by omega) _
    have hB2 : Hid (Below w.heap.size w (wr.setCell ⟨w.heap.size + 1, k, none⟩ (cx (sdL x s0 p k) (sdR x s0 p k)))) := HB.out.setCell (Nat.le_succ _) _
    have hS0 : ∀ w', Calls Tryz.prog 175 #[.int .i64 (x / 2 ^ k), .int .i64 (clm x s0 p k), .int .i64 (p.getD k 0)] w' fun e w'' => e = .returned (cx (sdL x s0 p k) (sdR x s0 p k)) ∧ w'' = w' := by
      intro w'
      have e : x / 2 ^ k = x / (2 ^ k : Nat) := by simp
      rw [e]
      have hq : 0 ≤ x / (2 ^ k : Nat) := Int.ediv_nonneg hx.1 (Int.natCast_nonneg _)
      unfold sdL sdR
      split
      · exact bothSides_even _ _ _ w' hq (by assumption)
      · exact bothSides_odd _ _ _ w' hq (by assumption)
    have hN0 := fun w' => nodeSum_any _ _ w' hAB.1 hAB.2
    rw [← hnx.out] at hN0
    have hck2 : (wr.setCell ⟨w.heap.size + 1, k, none⟩ (cx (sdL x s0 p k) (sdR x s0 p k))).cell? ⟨w.heap.size + 1, k, none⟩ = some (cx (sdL x s0 p k) (sdR x s0 p k)) := World.cell?_setCell_same _ _ _ hck
    clear hAB hnx hD hR HA HZ HB
    generalize hcv : cx (sdL x s0 p k) (sdR x s0 p k) = cv at *
    obtain ⟨fa, fb, rfl⟩ : ∃ fa fb, cv = .complex .f64 fa fb := ⟨_, _, hcv.symm⟩
    clear hcv
    generalize p.getD k 0 = o at *
    generalize hcc : clm x s0 p k = cc at *
    generalize hcd : clm x s0 p (k + 1) = cd at *
    have HCC : Hid (clm x s0 p k = cc) := hcc
    have HCD : Hid (clm x s0 p (k + 1) = cd) := hcd
    clear hcc hcd
    have kst := fun (w : World) (a : Addr) (m : Mode) => run_store Tryz.prog w a (.complex .f64 fa fb) m rfl
    have hd1 : wr.drew.cell? ⟨w.heap.size + 1, k, none⟩ = some (nds x s0 p k k) := hck
    have hd2 : wr.drew.frozen? ⟨w.heap.size + 1, k, none⟩ = false := hcz
    go_wp2
    go_region_held3 (fun w' => w'.cell? ⟨b, off + k, none⟩ = some (.int .i64 o))
      (first | exact ck | exact (World.cell?_setCell_other _ _ _ _ (by simp)).trans ck)
      (first | (go_at_call 175; refine (hS0 _).mono ?_; rintro e wq ⟨rfl, rfl⟩))
    obtain ⟨W2, hW2⟩ : ∃ W2, W2 = (wr.setCell ⟨w.heap.size + 1, k, none⟩ (.complex .f64 fa fb)).drew := ⟨_, rfl⟩
    have hck3 : W2.cell? ⟨w.heap.size + 1, k, none⟩ = some (.complex .f64 fa fb) := by rw [hW2]; exact hck2
    have hset : Hid (ArrV W2 (w.heap.size + 1) (nds x s0 p (k + 1))) := by rw [hW2]; exact ⟨hset.out.c, hset.out.z⟩
    have hz2 : Hid (ArrV W2 w.heap.size zro) := by rw [hW2]; exact ⟨hz2.out.c, hz2.out.z⟩
    have hB2 : Hid (Below w.heap.size w W2) := by rw [hW2]; exact hB2.out.drew
    have hsz2 : w.heap.size + 1 < W2.heap.size := by rw [hW2]; simpa using hsz
    rw [← hW2]
    clear hW2 hck hcz hck2 hd1 hd2 ck kst hS0 hsz
    go_wp2_with fail
    refine (hN0 _).mono ?_
    rintro e w3 ⟨rfl, hb3⟩
    have hset3 : Hid (ArrV w3 (w.heap.size + 1) (nds x s0 p (k + 1))) := hset.out.below hb3 hsz2
    have hz3 : Hid (ArrV w3 w.heap.size zro) := hz2.out.below hb3 (by omega)
    have hB3 : Hid (Below w.heap.size w w3) := below_after_of hB2.out hb3
    clear hset hz2 hB2
    have hsz3 : w.heap.size + 1 < w3.heap.size := Nat.lt_of_lt_of_le hsz2 hb3.size
    clear hN0 hb3 hck3 hsz2
    by_cases h7 : k = 7
    · subst h7
      obtain ⟨c0, c1, c2, c3, c4, c5, c6, c7⟩ := hset3.out.cells
      obtain ⟨d0, d1, d2, d3, d4, d5, d6, d7⟩ := hz3.out.zcells
      obtain ⟨z0, z1, z2, z3, z4, z5, z6, z7⟩ := hz3.out.froz
      have HF : Hid (∀ j, j < 8 → ∃ r i, nds x s0 p 8 j = .complex .f64 r i) := fun j hj => by
        unfold nds
        rw [if_pos hj]
        exact ⟨_, _, rfl⟩
      obtain ⟨r0, i0, e0⟩ := HF.out 0 (by omega)
      obtain ⟨r1, i1, e1⟩ := HF.out 1 (by omega)
      obtain ⟨r2, i2, e2⟩ := HF.out 2 (by omega)
      obtain ⟨r3, i3, e3⟩ := HF.out 3 (by omega)
      obtain ⟨r4, i4, e4⟩ := HF.out 4 (by omega)
      obtain ⟨r5, i5, e5⟩ := HF.out 5 (by omega)
      obtain ⟨r6, i6, e6⟩ := HF.out 6 (by omega)
      obtain ⟨r7, i7, e7⟩ := HF.out 7 (by omega)
      have HR : Hid (arrV (nds x s0 p 8) = #[.complex .f64 r0 i0, .complex .f64 r1 i1, .complex .f64 r2 i2, .complex .f64 r3 i3, .complex .f64 r4 i4, .complex .f64 r5 i5, .complex .f64 r6 i6, .complex .f64 r7 i7]) := by
        show arrV _ = _
        unfold arrV
        rw [e0, e1, e2, e3, e4, e5, e6, e7]
      rw [e0] at c0
      rw [e1] at c1
      rw [e2] at c2
      rw [e3] at c3
      rw [e4] at c4
      rw [e5] at c5
      rw [e6] at c6
      rw [e7] at c7
      have kst := fun (w : World) (a : Addr) (m : Mode) (r i : Nat) => run_store Tryz.prog w a (.complex .f64 r i) m rfl
      have HCD : Hid (clm x s0 p 8 = cd) := HCD.out
      clear HF e0 e1 e2 e3 e4 e5 e6 e7 HCC hset3 hz3
      go_wp2
      have hB := hB3.out
      show Q0 .ret _ _
      refine HQ.out _ _ ?_
      exact bodyPost_ret (v := .tuple #[.agg #[.complex .f64 r0 i0, .complex .f64 r1 i1, .complex .f64 r2 i2, .complex .f64 r3 i3, .complex .f64 r4 i4, .complex .f64 r5 i5, .complex .f64 r6 i6, .complex .f64 r7 i7], .int .i64 cd]) (by simp [results, Tryz.results164, go_sem, d0, d1, d2, d3, d4, d5, d6, d7]) rfl ⟨by rw [HR.out, HCD.out], ((((((((hB.setCell (Nat.le_refl _) _).setCell (Nat.le_refl _) _).setCell (Nat.le_refl _) _).setCell (Nat.le_refl _) _).setCell (Nat.le_refl _) _).setCell (Nat.le_refl _) _).setCell (Nat.le_refl _) _).setCell (Nat.le_refl _) _)⟩
    · have hk7 : (k : Int) + 1 < 8 := by omega
      go_wp2
      go_step3
      have hcd := HCD.out
      subst hcd
      refine ⟨rfl, ⟨k + 1, _, _, _, _, _, _, _, _, _, _, _, _, _, _, _, _, _, _, _, _, _, by omega, rfl, hsz3, hB3, hset3, hz3⟩, ?_⟩
      simp [intOf]
      omega
  · intro hpass
    go_wp2_with fail
    refine (hS _ ?_).mono ?_
    · exact two_new _ _
    rintro e w1 ⟨rfl, hb1⟩
    have A1 : ArrV w1 (w.heap.size + 1) (nds x s0 p 0) := by
      rw [HZ0.out]
      exact ArrV.of (f := zro) ((hb1.block (w.heap.size + 1) (by simp)).trans (two_lie w _ _).2)
    have A0 : ArrV w1 w.heap.size zro := ArrV.of (f := zro) ((hb1.block w.heap.size (by simp; omega)).trans (two_lie w _ _).1)
    have hB1 : Below w.heap.size w w1 := below_after (below_after hb1)
    have hsz1 : w.heap.size + 1 < w1.heap.size := by have := hb1.size; simp at this; omega
    clear hS hb1
    go_wp2
    go_step3
    rename_i hK
    exact hK _ _ (hpass _ _ ⟨0, _, _, _, _, _, _, _, _, _, _, _, _, _, _, _, _, _, _, _, _, _, by omega, rfl, hsz1, hB1, A1, A0⟩)
end U
end Go.Proofs.YtdbbmclobmigdaaGreat

/- Climbing, by the model; ClimbOld and AcceptOld of both. -/
namespace Go.Proofs.YtdbbmclobmigdaaGreat
open Go.RowKit
namespace U
set_option maxRecDepth 100000 in
set_option maxHeartbeats 4000000 in
theorem l5Climb_any (x s : Int) (u : Value) (p : List Int) (w : World) (hx : 0 ≤ x ∧ x ≤ 255) (hs : 0 ≤ s ∧ s ≤ 65520) (hu : Ints .i64 w u p) (hp : p.length ≤ 8) (hall : p.all sumB = true) :
    Calls Tryz.prog 129 #[.int .i64 x, .int .i64 s, u] w fun e w' => e = .returned (.int .i64 (clm x s p p.length)) ∧ Below w.heap.size w w' := by
  have HV : Hid (∀ w', Below w.heap.size w w' → Ints .i64 w' u p) := fun w' h => hu.below h
  obtain ⟨ua, uc, rfl⟩ := hu.shape
  have HA : Hid (∀ n, 0 ≤ p.getD n 0 ∧ p.getD n 0 ≤ 65520) := path_at hall
  have HC : Hid (∀ n, 0 ≤ clm x s p n ∧ clm x s p n ≤ 65520) := clm_bd hs
  obtain ⟨n, hn⟩ : ∃ n, n = p.length := ⟨_, rfl⟩
  rw [← hn] at HV hp ⊢
  have HN : Hid (n = p.length) := hn
  clear hn hu hall
  go_enter Tryz.func129, Tryz.ntmps129
  go_wp2
  go_loopw [1, 7] (fun c i wr => ∃ k : Nat, k ≤ n ∧ i = .int .i64 k ∧ c = .int .i64 (clm x s p k) ∧ Below w.heap.size w wr) (fun _ i _ => n - (intOf i).toNat)
  case atStart => exact ⟨0, Nat.zero_le _, rfl, rfl, Below.refl _ _⟩
  case round =>
    obtain ⟨k, hk, rfl, rfl, hB⟩ := hrel
    by_cases hkn : k < n
    · have hki : (k : Int) < (n : Int) := by omega
      have hk0 : (0 : Int) ≤ (k : Int) := by omega
      have hiw := HV.out _ hB
      obtain ⟨-, b, off, rfl, hbb, hcc⟩ := hiw.at (by rw [← HN.out]; omega)
      have ck := hcc k (by rw [← HN.out]; omega)
      have hbo := HA.out k
      have hbc := HC.out k
      clear hcc hiw
      have hx2 : x / 2 ^ k = x / (2 ^ k : Nat) := by simp
      have HX : Hid (x / 2 ^ k = x / (2 ^ k : Nat)) := hx2
      have hq0 : 0 ≤ x / 2 ^ k := by rw [hx2]; exact Int.ediv_nonneg hx.1 (Int.natCast_nonneg _)
      clear hx2
      have HE : Hid ((x / 2 ^ k) % 2 = 0 → clm x s p (k + 1) = sumL (tagL 2 [clm x s p k, p.getD k 0])) := fun h => clm_even (by rw [← HX.out]; exact h)
      have HO : Hid (¬ (x / 2 ^ k) % 2 = 0 → clm x s p (k + 1) = sumL (tagL 2 [p.getD k 0, clm x s p k])) := fun h => clm_odd (by rw [← HX.out]; exact h)
      generalize p.getD k 0 = o at *
      generalize hcc : clm x s p k = cc at *
      clear hcc
      generalize hcd : clm x s p (k + 1) = cd at *
      have HCD : Hid (clm x s p (k + 1) = cd) := hcd
      clear hcd HX
      by_cases h2 : (x / 2 ^ k) % 2 = 0
      · have ht : Int.tmod (x / 2 ^ k) 2 = 0 := by rw [Int.tmod_eq_emod_of_nonneg hq0]; exact h2
        have hT := fun w u hu => l2Tag2_any 2 cc o u w (by omega) hu hbc hbo
        rw [← HE.out h2] at hT
        go_wp2_with fail
        refine (hT _ _ (two_ints_at (by first | rfl | simp))).mono ?_
        rintro e w2 ⟨rfl, hb2⟩
        have hB2 := below_after_of hB (below_after hb2)
        clear hT hb2 hB ck
        go_wp2
        go_roundw
        case rel => exact ⟨k + 1, by omega, by go_num, by rw [HCD.out], hB2⟩
        case measure => simp [intOf]; omega
      · have ht : ¬ Int.tmod (x / 2 ^ k) 2 = 0 := by rw [Int.tmod_eq_emod_of_nonneg hq0]; exact h2
        have hT := fun w u hu => l2Tag2_any 2 o cc u w (by omega) hu hbo hbc
        rw [← HO.out h2] at hT
        go_wp2_with fail
        refine (hT _ _ (two_ints_at (by first | rfl | simp))).mono ?_
        rintro e w2 ⟨rfl, hb2⟩
        have hB2 := below_after_of hB (below_after hb2)
        clear hT hb2 hB ck
        go_wp2
        go_roundw
        case rel => exact ⟨k + 1, by omega, by go_num, by rw [HCD.out], hB2⟩
        case measure => simp [intOf]; omega
    · have : k = n := by omega
      subst this
      have hki : ¬ (k : Int) < (k : Int) := by omega
      go_wp2
      go_ret
      exact ⟨rfl, hB⟩
theorem co_no {x v : Int} {b : Bool} {p : List Int} (h : askd x b v = false) : coC x b v p = 3 ∧ coV x b v p = 0 := by simp [coC, coV, h]
theorem co_len {x v : Int} {b : Bool} {p : List Int} (h : askd x b v = true) (hp : ¬ p.length = 8) : coC x b v p = 9 ∧ coV x b v p = 0 := by simp [coC, coV, h, hp]
theorem co_sum {x v : Int} {b : Bool} {p : List Int} (h : askd x b v = true) (hp : p.length = 8) (hs : p.all sumB = false) : coC x b v p = 3 ∧ coV x b v p = 0 := by
  unfold coC coV
  rw [if_pos h, if_pos hp, hs, if_neg (by simp), if_neg (by simp)]
  exact ⟨rfl, rfl⟩
theorem co_ok {x v : Int} {b : Bool} {p : List Int} (h : askd x b v = true) (hp : p.length = 8) (hs : p.all sumB = true) : coC x b v p = 0 ∧ coV x b v p = clm x (sumL (leafL x b v)) p 8 := by
  unfold coC coV
  rw [if_pos h, if_pos hp, if_pos hs, if_pos ⟨h, hp, hs⟩]
  exact ⟨rfl, rfl⟩
set_option maxRecDepth 100000 in
set_option maxHeartbeats 4000000 in
theorem specClimbOld_any (x : Int) (b : Bool) (v : Int) (u : Value) (p : List Int) (w : World) (hu : Ints .i64 w u p) (hx : p.length ≤ 1099511627776) :
    Calls Tryz.prog 102 #[.int .i64 x, .bool b, .int .i64 v, u] w fun e w' => IntAns w (coC x b v p) (coV x b v p) e w' := by
  have HA := fun w => l5Asked_any x b v w
  have HV : Hid (∀ w', Below w.heap.size w w' → Ints .i64 w' u p) := fun w' h => hu.below h
  obtain ⟨ua, uc, rfl⟩ := hu.shape
  rcases Bool.eq_false_or_eq_true (askd x b v) with ha | ha
  · rw [ha] at HA
    by_cases h8 : p.length = 8
    · have HL := fun w' h => l1All_any _ p w' (HV.out w' h) hx
      rcases Bool.eq_false_or_eq_true (p.all sumB) with hs | hs
      · rw [hs] at HL
        rw [(co_ok ha h8 hs).1, (co_ok ha h8 hs).2]
        have HF := fun w => l5Leaf_any x b v w ha
        have HS := fun v' w h => l2Sum_any v' (leafL x b v) w h (leafL_bts ha) (by have := leafL_len x b v; omega)
        have HM := fun w' h => l5Climb_any x (sumL (leafL x b v)) _ p w' (askd_key ha) (sumL_bd _) (HV.out w' h) (by omega) hs
        rw [h8] at HM HL ⊢
        generalize clm x (sumL (leafL x b v)) p 8 = y at *
        generalize sumL (leafL x b v) = s at *
        generalize leafL x b v = ls at *
        clear ha hs hu h8 hx
        go_enter Tryz.func102, Tryz.ntmps102
        go_wp2_with fail
        refine (HA _).mono ?_
        rintro e w1 ⟨rfl, rfl⟩
        clear HA
        go_wp2_with fail
        refine (HL _ (one_new _)).mono ?_
        rintro e w1 ⟨rfl, rfl⟩
        clear HL
        go_wp2_with fail
        refine (HF _).mono ?_
        rintro e w1 ⟨v', rfl, own1, hb1⟩
        have hB1 := below_after hb1
        have i1 := own_ints own1
        obtain ⟨a', c', rfl⟩ := own_shape own1
        obtain ⟨hc0, hc1, hf0, hf1⟩ := two_cells ((hb1.block w.heap.size (by simp)).trans (heap_alloc_new w _))
        have hsz1 : w.heap.size < w1.heap.size := by have := hb1.size; simp at this; omega
        clear HF own1 hb1
        go_wp2_with fail
        refine (HS _ _ i1).mono ?_
        rintro e w2 ⟨rfl, rfl⟩
        clear HS i1
        go_wp2_with fail
        refine (HM _ hB1).mono ?_
        rintro e w3 ⟨rfl, hb3⟩
        have hc0 := (hb3.cell (p := ⟨w.heap.size, 0, none⟩) hsz1).trans hc0
        have hc1 := (hb3.cell (p := ⟨w.heap.size, 1, none⟩) hsz1).trans hc1
        have hf0 := (hb3.frozen (p := ⟨w.heap.size, 0, none⟩) hsz1).trans hf0
        have hf1 := (hb3.frozen (p := ⟨w.heap.size, 1, none⟩) hsz1).trans hf1
        have hB3 := below_after_of hB1 hb3
        clear HM hb3 hB1
        go_wp2
        exact bodyPost_ret (v := .agg #[.int .i64 0, .int .i64 y]) (by simp [results, Tryz.results102, go_sem, hc0, hc1]) rfl ⟨rfl, (hB3.setCell (Nat.le_refl _) _).setCell (Nat.le_refl _) _⟩
      · rw [hs] at HL
        rw [(co_sum ha h8 hs).1, (co_sum ha h8 hs).2]
        rw [h8] at HL ⊢
        clear ha hs hu h8 hx
        go_enter Tryz.func102, Tryz.ntmps102
        go_wp2_with fail
        refine (HA _).mono ?_
        rintro e w1 ⟨rfl, rfl⟩
        clear HA
        go_wp2_with fail
        refine (HL _ (one_new _)).mono ?_
        rintro e w1 ⟨rfl, rfl⟩
        clear HL
        go_wp2
        exact bodyPost_ret (v := .agg #[.int .i64 3, .int .i64 0]) (by simp [results, Tryz.results102, go_sem]) rfl ⟨rfl, one_new _⟩
    · rw [(co_len ha h8).1, (co_len ha h8).2]
      generalize p.length = n at *
      have hni : ¬ (n : Int) = 8 := by omega
      clear hu ha
      go_enter Tryz.func102, Tryz.ntmps102
      go_wp2_with fail
      refine (HA _).mono ?_
      rintro e w1 ⟨rfl, rfl⟩
      clear HA
      go_wp2
      exact bodyPost_ret (v := .agg #[.int .i64 9, .int .i64 0]) (by simp [results, Tryz.results102, go_sem]) rfl ⟨rfl, one_new _⟩
  · rw [ha] at HA
    rw [(co_no ha).1, (co_no ha).2]
    generalize p.length = n at *
    clear hu ha
    go_enter Tryz.func102, Tryz.ntmps102
    go_wp2_with fail
    refine (HA _).mono ?_
    rintro e w1 ⟨rfl, rfl⟩
    clear HA
    go_wp2
    exact bodyPost_ret (v := .agg #[.int .i64 3, .int .i64 0]) (by simp [results, Tryz.results102, go_sem]) rfl ⟨rfl, one_new _⟩
end U
end Go.Proofs.YtdbbmclobmigdaaGreat

/- ClimbOld, by the program. -/
namespace Go.Proofs.YtdbbmclobmigdaaGreat
open Go.RowKit
namespace U
theorem arr_cx (x s : Int) (p : List Int) : ∃ r0 i0 r1 i1 r2 i2 r3 i3 r4 i4 r5 i5 r6 i6 r7 i7, arrV (nds x s p 8) = #[.complex .f64 r0 i0, .complex .f64 r1 i1, .complex .f64 r2 i2, .complex .f64 r3 i3, .complex .f64 r4 i4, .complex .f64 r5 i5, .complex .f64 r6 i6, .complex .f64 r7 i7] := by
  exact ⟨_, _, _, _, _, _, _, _, _, _, _, _, _, _, _, _, rfl⟩
theorem cells8 {w : World} {b : Nat} {f : Nat → Value} {t : TypeId} (h : w.heap[b]? = some (.cells (arrV f) t)) : ArrV w b f := ArrV.of h
set_option maxRecDepth 100000 in
set_option maxHeartbeats 4000000 in
theorem implClimbOld_any (x : Int) (b : Bool) (v : Int) (u : Value) (p : List Int) (w : World) (hu : Ints .i64 w u p) :
    Calls Tryz.prog 144 #[.int .i64 x, .bool b, .int .i64 v, u] w fun e w' => IntAns w (coC x b v p) (coV x b v p) e w' := by
  have HL := fun w => implLeafBytes_any x b v w
  have HV : Hid (∀ w', Below w.heap.size w w' → Ints .i64 w' u p) := fun w' h => hu.below h
  obtain ⟨ua, uc, rfl⟩ := hu.shape
  rcases Bool.eq_false_or_eq_true (askd x b v) with ha | ha
  · rw [(lb_ok ha).1, (lb_ok ha).2] at HL
    by_cases h8 : p.length = 8
    · have HNO : Hid (p.all sumB = false → coC x b v p = 3 ∧ coV x b v p = 0) := fun h => co_sum ha h8 h
      have HYES : Hid (p.all sumB = true → coC x b v p = 0 ∧ coV x b v p = clm x (sumL (leafL x b v)) p 8) := fun h => co_ok ha h8 h
      have HM : Hid (∀ v' u' w' (_ : Ints .u8 w' v' (leafL x b v)) (_ : Ints .i64 w' u' p) (_ : p.all sumB = true), Calls Tryz.prog 164 #[.int .i64 x, v', u'] w' fun e w'' => e = .returned (.tuple #[.agg (arrV (nds x (sumL (leafL x b v)) p 8)), .int .i64 (clm x (sumL (leafL x b v)) p 8)]) ∧ Below w'.heap.size w' w'') :=
        fun v' u' w' h1 h2 h3 => climb_any x v' u' (leafL x b v) p w' (askd_key ha) h1 (leafL_bts ha) (by have := leafL_len x b v; omega) h2 h8 h3
      have HX8 := arr_cx x (sumL (leafL x b v)) p
      generalize clm x (sumL (leafL x b v)) p 8 = y at *
      generalize sumL (leafL x b v) = s at *
      generalize leafL x b v = ls at *
      generalize arrV (nds x s p 8) = ar at *
      have HN : Hid (p.length = 8) := h8
      rw [h8] at HV ⊢
      generalize coC x b v p = cC at *
      generalize coV x b v p = cV at *
      clear hu ha h8
      go_enter Tryz.func144, Tryz.ntmps144
      go_wp2_with fail
      refine (HL _).mono ?_
      intro e w1 h1
      obtain ⟨a1, c1, rfl, hb1, own1⟩ := h1.use
      obtain ⟨W2, hW2⟩ : ∃ W2, W2 = w1.alloc (.cells #[.int .i64 0, .slice a1 ls.length c1] 174) := ⟨_, rfl⟩
      have hb2 := below_after_of hb1 (one_new (.cells #[.int .i64 0, .slice a1 ls.length c1] 174))
      have P2 := Pair.new w1 (.int .i64 0) (.slice a1 ls.length c1) 174
      rw [← hW2] at hb2 P2
      have i2 : Ints .u8 W2 (.slice a1 ls.length c1) ls := by rw [hW2]; exact (own_ints own1).below (one_new _)
      have HI2 : Hid (Ints .u8 W2 (.slice a1 ls.length c1) ls) := i2
      obtain ⟨hc0, hc1, hf0, hf1⟩ := two_cells ((hb2.block w.heap.size (by simp)).trans (heap_alloc_new w _))
      have hB2 : Hid (Below w.heap.size w W2) := below_after hb2
      have hsz2 : w.heap.size < W2.heap.size := by have := hb2.size; simp at this; omega
      have HW2 : Hid (W2 = w1.alloc (.cells #[.int .i64 0, .slice a1 ls.length c1] 174)) := hW2
      have p0 := P2.2.1
      have p1 := P2.2.2
      have p2 := P2.1
      have hi2 := HV.out _ hB2.out
      obtain ⟨-, bb, off, rfl, hbl, hcl⟩ := hi2.at (by rw [HN.out]; omega)
      have HC : Hid (∀ j, j < 8 → W2.cell? ⟨bb, off + j, none⟩ = some (.int .i64 (p.getD j 0))) := fun j hj => hcl j (by rw [HN.out]; exact hj)
      clear h1 HL own1 hb1 hb2 i2 hW2 hi2 hcl
      go_wp2_with fail
      rw [← HW2.out]
      go_loop [30] (fun i => ∃ k : Nat, k ≤ 8 ∧ i = .int .i64 k ∧ Hid (AllS p k)) (fun i => 8 - (intOf i).toNat)
      case atStart => exact ⟨0, Nat.zero_le _, rfl, fun j hj => by omega⟩
      case round =>
        obtain ⟨k, hk, rfl, hA⟩ := hrel
        by_cases hkn : k < 8
        · have hki : (k : Int) < 8 := by omega
          have hcj := HC.out k hkn
          have hkx : Hid (k < p.length) := by show _ < _; rw [HN.out]; exact hkn
          obtain ⟨z, hxx⟩ : ∃ z, z = p.getD k 0 := ⟨_, rfl⟩
          have HX : Hid (z = p.getD k 0) := hxx
          rw [← hxx] at hcj
          clear hxx
          rcases Bool.eq_false_or_eq_true (sumB z) with hr | hr
          · go_wp2_with fail
            refine (isSum_any z _).mono ?_
            rintro e w3 ⟨rfl, rfl⟩
            go_wp2
            go_round
            case rel => exact ⟨k + 1, by omega, by go_num, hA.out.succ (by rw [← HX.out]; exact hr)⟩
            case measure => simp [intOf]; omega
          · have e := HNO.out (sums_no hkx.out (by rw [← HX.out]; exact hr))
            have HE : Hid (cC = 3 ∧ cV = 0) := e
            clear e
            go_wp2_with fail
            refine (isSum_any z _).mono ?_
            rintro e w3 ⟨rfl, rfl⟩
            go_wp2
            exact bodyPost_ret (v := .agg #[.int .i64 3, .int .i64 0]) (by simp [results, Tryz.results144, go_sem, hc0, hc1]) rfl (by rw [HE.out.1, HE.out.2]; exact ⟨rfl, (hB2.out.setCell (Nat.le_refl _) _).setCell (Nat.le_refl _) _⟩)
        · have hkn : k = 8 := by omega
          subst hkn
          have hall : p.all sumB = true := AllS.all (by rw [HN.out]; exact hA.out)
          have HE : Hid (cC = 0 ∧ cV = y) := HYES.out hall
          have hM := fun v' u' w' h1 h2 => HM.out v' u' w' h1 h2 hall
          obtain ⟨r0, i0, r1, i1, r2, i2, r3, i3, r4, i4, r5, i5, r6, i6, r7, i7, rfl⟩ := HX8
          clear hall HYES HNO HM HC
          go_wp2_with fail
          refine (hM _ _ _ HI2.out (HV.out _ hB2.out)).mono ?_
          rintro e w3 ⟨rfl, hb3⟩
          have hc0 := (hb3.cell (p := ⟨w.heap.size, 0, none⟩) hsz2).trans hc0
          have hc1 := (hb3.cell (p := ⟨w.heap.size, 1, none⟩) hsz2).trans hc1
          have hf0 := (hb3.frozen (p := ⟨w.heap.size, 0, none⟩) hsz2).trans hf0
          have hf1 := (hb3.frozen (p := ⟨w.heap.size, 1, none⟩) hsz2).trans hf1
          have hB3 := below_after_of hB2.out hb3
          have hsz3 : w.heap.size < w3.heap.size := Nat.lt_of_lt_of_le hsz2 hb3.size
          have kst := fun (w : World) (a : Addr) (m : Mode) (r i : Nat) => run_store Tryz.prog w a (.complex .f64 r i) m rfl
          clear hM hb3 p0 p1 p2
          go_wp2
          have hq0 : ∀ o, (((w3.setCell ⟨w.heap.size, 0, none⟩ (.int .i64 0)).setCell ⟨w.heap.size, 1, none⟩ (.int .i64 y)).alloc o).cell? ⟨w.heap.size, 0, none⟩ = some (.int .i64 0) := fun o =>
            ((one_new o).cell (p := ⟨w.heap.size, 0, none⟩) (by simpa using hsz3)).trans ((World.cell?_setCell_other _ _ _ _ (by simp)).trans (World.cell?_setCell_same _ _ _ hc0))
          have hq1 : ∀ o, (((w3.setCell ⟨w.heap.size, 0, none⟩ (.int .i64 0)).setCell ⟨w.heap.size, 1, none⟩ (.int .i64 y)).alloc o).cell? ⟨w.heap.size, 1, none⟩ = some (.int .i64 y) := fun o =>
            ((one_new o).cell (p := ⟨w.heap.size, 1, none⟩) (by simpa using hsz3)).trans (World.cell?_setCell_same _ _ _ ((World.cell?_setCell_other _ _ _ _ (by simp)).trans hc1))
          exact bodyPost_ret (v := .agg #[.int .i64 0, .int .i64 y]) (by simp [results, Tryz.results144, go_sem, hq0, hq1]) rfl (by rw [HE.out.1, HE.out.2]; exact ⟨rfl, ((hB3.setCell (Nat.le_refl _) _).setCell (Nat.le_refl _) _).alloc (by simpa using Nat.le_of_lt hsz3) _⟩)
    · rw [(co_len ha h8).1, (co_len ha h8).2]
      generalize leafL x b v = ls at *
      generalize p.length = n at *
      have hni : ¬ (n : Int) = 8 := by omega
      clear hu ha
      go_enter Tryz.func144, Tryz.ntmps144
      go_wp2_with fail
      refine (HL _).mono ?_
      intro e w1 h1
      obtain ⟨a1, c1, rfl, hb1, own1⟩ := h1.use
      have hb2 := below_after_of hb1 (one_new (.cells #[.int .i64 0, .slice a1 ls.length c1] 174))
      have P2 := Pair.new w1 (.int .i64 0) (.slice a1 ls.length c1) 174
      obtain ⟨hc0, hc1, hf0, hf1⟩ := two_cells ((hb2.block w.heap.size (by simp)).trans (heap_alloc_new w _))
      have hB2 : Hid (Below w.heap.size w (w1.alloc (.cells #[.int .i64 0, .slice a1 ls.length c1] 174))) := below_after hb2
      have p0 := P2.2.1
      have p1 := P2.2.2
      clear h1 HL own1 hb1 hb2
      go_wp2
      exact bodyPost_ret (v := .agg #[.int .i64 9, .int .i64 0]) (by simp [results, Tryz.results144, go_sem, hc0, hc1]) rfl ⟨rfl, (hB2.out.setCell (Nat.le_refl _) _).setCell (Nat.le_refl _) _⟩
  · rw [(lb_no ha).1, (lb_no ha).2] at HL
    rw [(co_no ha).1, (co_no ha).2]
    generalize p.length = n at *
    clear hu ha
    go_enter Tryz.func144, Tryz.ntmps144
    go_wp2_with fail
    refine (HL _).mono ?_
    intro e w1 h1
    obtain ⟨a1, c1, rfl, hb1, own1⟩ := h1.use
    have hb2 := below_after_of hb1 (one_new (.cells #[.int .i64 3, .slice a1 0 c1] 174))
    have P2 := Pair.new w1 (.int .i64 3) (.slice a1 0 c1) 174
    obtain ⟨hc0, hc1, hf0, hf1⟩ := two_cells ((hb2.block w.heap.size (by simp)).trans (heap_alloc_new w _))
    have hB2 : Hid (Below w.heap.size w (w1.alloc (.cells #[.int .i64 3, .slice a1 0 c1] 174))) := below_after hb2
    have p0 := P2.2.1
    have p1 := P2.2.2
    clear h1 HL own1 hb1 hb2
    go_wp2
    exact bodyPost_ret (v := .agg #[.int .i64 3, .int .i64 0]) (by simp [results, Tryz.results144, go_sem, hc0, hc1]) rfl ⟨rfl, (hB2.out.setCell (Nat.le_refl _) _).setCell (Nat.le_refl _) _⟩
def acB (x : Int) (b : Bool) (v : Int) (p : List Int) (r : Int) : Bool := coC x b v p == 0 && coV x b v p == r
set_option maxRecDepth 100000 in
set_option maxHeartbeats 1000000 in
theorem implAcceptOld_any (x : Int) (b : Bool) (v : Int) (u : Value) (p : List Int) (r : Int) (w : World) (hu : Ints .i64 w u p) :
    Calls Tryz.prog 112 #[.int .i64 x, .bool b, .int .i64 v, u, .int .i64 r] w fun e w' => e = .returned (.bool (acB x b v p r)) ∧ Below w.heap.size w w' := by
  have HC := implClimbOld_any x b v u p w hu
  obtain ⟨ua, uc, rfl⟩ := hu.shape
  unfold acB
  generalize coC x b v p = c at *
  generalize coV x b v p = y at *
  generalize p.length = n at *
  clear hu
  go_enter Tryz.func112, Tryz.ntmps112
  go_wp2_with fail
  refine HC.mono ?_
  rintro e w1 ⟨rfl, hb1⟩
  clear HC
  go_wp2
  all_goals (go_ret; exact ⟨ret_bool (by simp_all), hb1⟩)
set_option maxRecDepth 100000 in
set_option maxHeartbeats 1000000 in
theorem specAcceptOld_any (x : Int) (b : Bool) (v : Int) (u : Value) (p : List Int) (r : Int) (w : World) (hu : Ints .i64 w u p) (hx : p.length ≤ 1099511627776) :
    Calls Tryz.prog 71 #[.int .i64 x, .bool b, .int .i64 v, u, .int .i64 r] w fun e w' => e = .returned (.bool (acB x b v p r)) ∧ Below w.heap.size w w' := by
  have HC := specClimbOld_any x b v u p w hu hx
  obtain ⟨ua, uc, rfl⟩ := hu.shape
  unfold acB
  generalize coC x b v p = c at *
  generalize coV x b v p = y at *
  generalize p.length = n at *
  clear hu
  go_enter Tryz.func71, Tryz.ntmps71
  go_wp2_with fail
  refine HC.mono ?_
  rintro e w1 ⟨rfl, hb1⟩
  have hB1 := below_after_of hb1 (one_new (.cells #[.int .i64 c, .int .i64 y] 58))
  clear HC hb1
  by_cases h0 : c = 0
  · subst h0
    go_wp2
    go_ret
    exact ⟨ret_bool (by simp), hB1⟩
  · go_wp2
    go_ret
    exact ⟨ret_bool (by simp [h0]), hB1⟩
end U
end Go.Proofs.YtdbbmclobmigdaaGreat
