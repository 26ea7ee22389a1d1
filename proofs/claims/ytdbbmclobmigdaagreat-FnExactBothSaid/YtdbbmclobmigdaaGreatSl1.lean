/- Slots in memory: how they read; their faults, by the program and by the model. -/
import Derived.Test.YtdbbmclobmigdaaGreatSlN
namespace Go.Proofs.YtdbbmclobmigdaaGreat
open Go.RowKit
namespace U
/-- A slice value reads as a list of pairs of numbers. -/
def Prs (w : World) (v : Value) (l : Prl) : Prop :=
  (l = [] ∧ ∃ a c, v = .slice a 0 c) ∨ ∃ b off c, v = .slice (some ⟨b, off, none⟩) l.length c ∧ b < w.heap.size ∧ ∀ j, j < l.length → w.cell? ⟨b, off + j * 2, none⟩ = some (.int .i64 (pAt l j).1) ∧ w.cell? ⟨b, off + j * 2 + 1, none⟩ = some (.int .i64 (pAt l j).2)
theorem Prs.below {w w' : World} {v : Value} {l : Prl} (h : Prs w v l) (hb : Below w.heap.size w w') : Prs w' v l := by
  rcases h with h | ⟨b, off, c, rfl, hlt, hc⟩
  · exact Or.inl h
  · exact Or.inr ⟨b, off, c, rfl, Nat.lt_of_lt_of_le hlt hb.size, fun j hj => ⟨(hb.cell (p := ⟨b, off + j * 2, none⟩) hlt).trans (hc j hj).1, (hb.cell (p := ⟨b, off + j * 2 + 1, none⟩) hlt).trans (hc j hj).2⟩⟩
theorem Prs.shape {w : World} {v : Value} {l : Prl} (h : Prs w v l) : ∃ a c, v = .slice a l.length c := by
  rcases h with ⟨rfl, a, c, rfl⟩ | ⟨b, off, c, rfl, _⟩
  · exact ⟨a, c, rfl⟩
  · exact ⟨_, c, rfl⟩
theorem Prs.at {w : World} {a : Option Addr} {n c : Nat} {l : Prl} (h : Prs w (.slice a n c) l) (h0 : 0 < l.length) : n = l.length ∧ ∃ b off, a = some ⟨b, off, none⟩ ∧ b < w.heap.size ∧ ∀ j, j < l.length → w.cell? ⟨b, off + j * 2, none⟩ = some (.int .i64 (pAt l j).1) ∧ w.cell? ⟨b, off + j * 2 + 1, none⟩ = some (.int .i64 (pAt l j).2) := by
  rcases h with ⟨rfl, _⟩ | ⟨b, off, c', e, h1, h2⟩
  · simp at h0
  · cases e
    exact ⟨rfl, b, off, rfl, h1, h2⟩
/-- The cells of slots. -/
def fl (l : Prl) : List Int := l.flatMap fun p => [p.1, p.2]
theorem fl_len (l : Prl) : (fl l).length = l.length * 2 := by
  unfold fl
  induction l with
  | nil => rfl
  | cons p t ih => rw [List.flatMap_cons, List.length_append, ih]; simp; omega
theorem fl_app (l m : Prl) : fl (l ++ m) = fl l ++ fl m := by unfold fl; rw [List.flatMap_append]
theorem fl_at (l : Prl) : ∀ (j : Nat), j < l.length → (fl l)[j * 2]? = some (pAt l j).1 ∧ (fl l)[j * 2 + 1]? = some (pAt l j).2 := by
  induction l with
  | nil => intro j h; simp at h
  | cons p t ih =>
    intro j h
    unfold fl
    rw [List.flatMap_cons]
    cases j with
    | zero => simp [pAt]
    | succ j =>
      have := ih j (by simpa using h)
      unfold fl at this
      rw [show (j + 1) * 2 = j * 2 + 1 + 1 by omega]
      simpa [pAt] using this
theorem own_prs {w : World} {B : Nat} {e : TypeId} {v : Value} {l : Prl} (h : w.ownsRow B e 2 v l.length ((fl l).map (Value.int .i64))) : Prs w v l := by
  have h0 := h
  rcases h.2 with ⟨rfl, hn⟩ | ⟨g, cap, cur, rfl, hB, hg, _⟩
  · left; exact ⟨List.eq_nil_of_length_eq_zero hn, none, 0, rfl⟩
  · right
    refine ⟨g, 0, cap, rfl, (Array.getElem?_eq_some_iff.1 hg).1, fun j hj => ?_⟩
    rw [Nat.zero_add, h0.cellAt (j * 2) (by omega), h0.cellAt (j * 2 + 1) (by omega)]
    have := fl_at l j hj
    rw [List.getElem?_map, List.getElem?_map, this.1, this.2]
    exact ⟨rfl, rfl⟩
theorem own_prs' {w : World} {B n : Nat} {e : TypeId} {a : Option Addr} {c : Nat} {l : Prl} (h : w.ownsRow B e 2 (.slice a n c) n ((fl l).map (Value.int .i64))) : Prs w (.slice a n c) l := by
  have h1 := h.1
  rw [List.length_map, fl_len] at h1
  have : n = l.length := by omega
  subst this
  exact own_prs h
set_option maxRecDepth 100000 in
theorem isKey_any (n : Int) (w : World) : Calls Tryz.prog 140 #[.int .i64 n] w fun e w' => e = .returned (.bool (inB n 0 255)) ∧ w' = w := by
  rcases Bool.eq_false_or_eq_true (inB n 0 255) with h | h
  · have h1 := inB_bd h
    rw [h]
    go_enter Tryz.func140, Tryz.ntmps140
    go_wp2
    go_ret
    exact ⟨ret_bool (by simp; omega), rfl⟩
  · rw [h]
    rcases inB_nb h with h1 | h1
    · go_enter Tryz.func140, Tryz.ntmps140
      go_wp2
      go_ret
      exact ⟨ret_bool (by first | rfl | (simp; omega)), rfl⟩
    · go_enter Tryz.func140, Tryz.ntmps140
      go_wp2
      go_ret
      exact ⟨ret_bool (by first | rfl | (simp; omega)), rfl⟩
set_option maxRecDepth 100000 in
theorem isSlot_any (p : Int × Int) (w : World) : Calls Tryz.prog 158 #[.agg #[.int .i64 p.1, .int .i64 p.2]] w fun e w' => e = .returned (.bool (fine p)) ∧ Below w.heap.size w w' := by
  obtain ⟨k, v⟩ := p
  unfold fine
  have HK := fun w => isKey_any k w
  have HV := fun w => isSum_any v w
  dsimp only
  generalize sumB v = y at *
  generalize inB k 0 255 = x at *
  cases x
  · go_enter Tryz.func158, Tryz.ntmps158
    go_wp2_with fail
    refine (HK _).mono ?_
    rintro e w1 ⟨rfl, rfl⟩
    clear HK HV
    go_wp2
    go_ret
    exact ⟨rfl, one_new _⟩
  · go_enter Tryz.func158, Tryz.ntmps158
    go_wp2_with fail
    refine (HK _).mono ?_
    rintro e w1 ⟨rfl, rfl⟩
    clear HK
    go_wp2_with fail
    refine (HV _).mono ?_
    rintro e w1 ⟨rfl, rfl⟩
    clear HV
    go_wp2
    go_ret
    exact ⟨rfl, one_new _⟩
set_option maxRecDepth 100000 in
theorem l2Is4 (n : Int) (w : World) : Calls Tryz.prog 62 #[.int .i64 n] w fun e w' => e = .returned (.bool (sumB n)) ∧ w' = w := by
  go_enter Tryz.func62, Tryz.ntmps62
  go_wp2_with (go_at_call 66; refine (l1In_any _ _ _ _).mono ?_; rintro e w1 ⟨rfl, rfl⟩)
  go_ret
  exact ⟨ret_bool (by unfold sumB inB; simp), rfl⟩
set_option maxRecDepth 100000 in
theorem l4Key_any (n : Int) (w : World) : Calls Tryz.prog 131 #[.int .i64 n] w fun e w' => e = .returned (.bool (inB n 0 255)) ∧ w' = w := by
  have HK := fun w => l1In_any n 0 255 w
  generalize inB n 0 255 = x at *
  go_enter Tryz.func131, Tryz.ntmps131
  go_wp2_with fail
  refine (HK _).mono ?_
  rintro e w1 ⟨rfl, rfl⟩
  clear HK
  go_wp2
  go_ret
  exact ⟨rfl, rfl⟩
theorem two_cellsV {w : World} {g : Nat} {x y : Value} {t : TypeId} (h : w.heap[g]? = some (.cells #[x, y] t)) : w.cell? ⟨g, 0, none⟩ = some x ∧ w.cell? ⟨g, 1, none⟩ = some y ∧ w.frozen? ⟨g, 0, none⟩ = false ∧ w.frozen? ⟨g, 1, none⟩ = false := by
  refine ⟨?_, ?_, ?_, ?_⟩
  · unfold World.cell?; rw [h]; rfl
  · unfold World.cell?; rw [h]; rfl
  · unfold World.frozen?; rw [h]; rfl
  · unfold World.frozen?; rw [h]; rfl
theorem scan_step {l : Prl} {f i : Nat} (h : fine (pAt l i) = true) (h2 : 0 < i → (pAt l (i - 1)).1 < (pAt l i).1) : scan l (f + 1) i = scan l f (i + 1) := by
  rw [scan, if_neg (by rw [h]; simp), if_neg (by intro hh; have := h2 hh.1; omega)]
theorem scan_range {l : Prl} {f i : Nat} (h : fine (pAt l i) = false) : scan l (f + 1) i = 3 := by rw [scan, if_pos h]
theorem scan_form {l : Prl} {f i : Nat} (h : fine (pAt l i) = true) (h1 : 0 < i) (h2 : (pAt l i).1 ≤ (pAt l (i - 1)).1) : scan l (f + 1) i = 1 := by
  rw [scan, if_neg (by rw [h]; simp), if_pos ⟨h1, h2⟩]
set_option maxRecDepth 100000 in
set_option maxHeartbeats 2000000 in
theorem implSlotsFault_core (b off c n : Nat) (l : Prl) (w : World) (hn : n ≤ 12) (hb : b < w.heap.size)
    (hc : ∀ j, j < n → w.cell? ⟨b, off + j * 2, none⟩ = some (.int .i64 (pAt l j).1) ∧ w.cell? ⟨b, off + j * 2 + 1, none⟩ = some (.int .i64 (pAt l j).2)) :
    Calls Tryz.prog 139 #[.slice (some ⟨b, off, none⟩) n c] w fun e w' => e = .returned (.int .i64 (scan l n 0)) ∧ Below w.heap.size w w' := by
  go_enter Tryz.func139, Tryz.ntmps139
  go_wp2
  go_loopw [10] (fun i wr => ∃ k : Nat, k ≤ n ∧ i = .int .i64 k ∧ Below w.heap.size w wr ∧ Hid (scan l (n - k) k = scan l n 0)) (fun i _ => n - (intOf i).toNat)
  case atStart => exact ⟨0, Nat.zero_le _, rfl, Below.refl _ _, rfl⟩
  case round =>
    obtain ⟨k, hk, rfl, hB, HS⟩ := hrel
    by_cases hkn : k < n
    · have hki : (k : Int) < (n : Int) := by omega
      have hc1 := (hB.cell (p := ⟨b, off + k * 2, none⟩) hb).trans (hc k hkn).1
      have hc2 := (hB.cell (p := ⟨b, off + k * 2 + 1, none⟩) hb).trans (hc k hkn).2
      have HC : Hid (∀ j, j < n → w.cell? ⟨b, off + j * 2, none⟩ = some (.int .i64 (pAt l j).1) ∧ w.cell? ⟨b, off + j * 2 + 1, none⟩ = some (.int .i64 (pAt l j).2)) := hc
      have hI := fun w => isSlot_any (pAt l k) w
      obtain ⟨x, hx⟩ : ∃ x, x = (pAt l k).1 := ⟨_, rfl⟩
      obtain ⟨y, hy⟩ : ∃ y, y = (pAt l k).2 := ⟨_, rfl⟩
      obtain ⟨f, hf⟩ : ∃ f, f = fine (pAt l k) := ⟨_, rfl⟩
      have HX : Hid (x = (pAt l k).1) := hx
      have HF : Hid (f = fine (pAt l k)) := hf
      rw [← hx] at hc1 hI
      rw [← hy] at hc2 hI
      rw [← hf] at hI
      have hbr : b < wr.heap.size := Nat.lt_of_lt_of_le hb hB.size
      clear hx hy hf hc
      go_wp2_with fail
      refine (hI _).mono ?_
      rintro e w1 ⟨rfl, hb1⟩
      clear hI
      have hB1 : Below w.heap.size w w1 := below_after_of (hB.alloc hB.size _) hb1
      have hwr : wr.heap.size < w1.heap.size := by have := hb1.size; simp at this; omega
      obtain ⟨g0, g1, -, -⟩ := two_cellsV ((hb1.block wr.heap.size (by simp)).trans (heap_alloc_new wr _))
      have HB1 : Hid (Below w.heap.size w w1) := hB1
      have hbw := hB1.size
      cases f
      · have e3 : Hid (scan l n 0 = 3) := by show _ = _; rw [← HS.out, show n - k = (n - k - 1) + 1 by omega]; exact scan_range HF.out.symm
        clear hB1 hb1 hB
        go_wp2
        go_ret
        exact ⟨ret_int e3.out.symm, HB1.out⟩
      · by_cases hk0 : k = 0
        · subst hk0
          have HS2 : Hid (scan l (n - 1) 1 = scan l n 0) := by
            show _ = _
            rw [show n = (n - 1) + 1 by omega]
            exact (scan_step HF.out.symm (by omega)).symm
          clear hB1 hb1 hB HS
          go_wp2
          go_quiet (fail)
          go_wp2
          go_roundw
          case rel => exact ⟨1, by omega, by go_num, below_drewN HB1.out _, HS2⟩
          case measure => simp [intOf]; omega
        · have hk1 : 0 < k := by omega
          have hkp := (hB1.cell (p := ⟨b, off + (k - 1) * 2, none⟩) hb).trans (HC.out (k - 1) (by omega)).1
          obtain ⟨z, hz⟩ : ∃ z, z = (pAt l (k - 1)).1 := ⟨_, rfl⟩
          have HZ : Hid (z = (pAt l (k - 1)).1) := hz
          rw [← hz] at hkp
          obtain ⟨m, rfl⟩ : ∃ m, k = m + 1 := ⟨k - 1, by omega⟩
          simp only [Nat.add_sub_cancel] at hkp
          have hkg : decide (0 < ((m + 1 : Nat) : Int)) = true := by simp
          clear hz hB1 hb1 hB
          by_cases hle : x ≤ z
          · have hd : decide (x ≤ z) = true := by simpa using hle
            have e1 : Hid (scan l n 0 = 1) := by
              show _ = _
              rw [← HS.out, show n - (m + 1) = (n - (m + 1) - 1) + 1 by omega]
              exact scan_form HF.out.symm hk1 (by rw [← HX.out, ← HZ.out]; exact hle)
            go_wp2
            go_quiet (fail)
            go_wp2
            go_ret
            exact ⟨ret_int e1.out.symm, below_drewN HB1.out _⟩
          · have hd : decide (x ≤ z) = false := by simpa using hle
            have HS2 : Hid (scan l (n - (m + 1) - 1) (m + 1 + 1) = scan l n 0) := by
              show _ = _
              rw [← HS.out, show n - (m + 1) = (n - (m + 1) - 1) + 1 by omega]
              exact (scan_step HF.out.symm (fun _ => by rw [← HX.out, ← HZ.out]; omega)).symm
            go_wp2
            go_quiet (fail)
            go_wp2
            go_roundw
            case rel => exact ⟨m + 1 + 1, by omega, by go_num, below_drewN HB1.out _, by rw [show n - (m + 1 + 1) = n - (m + 1) - 1 by omega]; exact HS2⟩
            case measure => simp [intOf]; omega
    · have hkn : k = n := by omega
      subst hkn
      have e0 : Hid (scan l k 0 = 0) := by show _ = _; rw [← HS.out, Nat.sub_self]; rfl
      clear hc
      go_wp2
      go_ret
      exact ⟨ret_int e0.out.symm, hB⟩
theorem slF_many {l : Prl} (h : 12 < l.length) : slF l = 2 := by unfold slF; rw [if_pos h]
theorem slF_scan {l : Prl} (h : ¬ 12 < l.length) : slF l = scan l l.length 0 := by unfold slF; rw [if_neg h]
set_option maxRecDepth 100000 in
set_option maxHeartbeats 1000000 in
theorem implSlotsFault_any (v : Value) (l : Prl) (w : World) (hv : Prs w v l) (hx : l.length ≤ 1099511627776) :
    Calls Tryz.prog 139 #[v] w fun e w' => e = .returned (.int .i64 (slF l)) ∧ Below w.heap.size w w' := by
  obtain ⟨a, c, rfl⟩ := hv.shape
  by_cases h : 12 < l.length
  · rw [slF_many h]
    generalize l.length = n at *
    clear hv
    go_enter Tryz.func139, Tryz.ntmps139
    go_wp2
    go_ret
    exact ⟨rfl, Below.refl _ _⟩
  · rw [slF_scan h]
    by_cases h0 : 0 < l.length
    · obtain ⟨_, b, off, rfl, hb, hc⟩ := hv.at h0
      exact implSlotsFault_core b off c l.length l w (by omega) hb hc
    · have e1 : l = [] := List.eq_nil_of_length_eq_zero (by omega)
      subst e1
      simp only [List.length_nil]
      have e2 : scan [] 0 0 = 0 := rfl
      rw [e2]
      clear hv h0 hx h e2
      go_enter Tryz.func139, Tryz.ntmps139
      go_wp2
      refine wp_loop_rounds 1 ?_; rw [rounds_succ]
      go_wp2
      go_ret
      exact ⟨rfl, Below.refl _ _⟩
end U
end Go.Proofs.YtdbbmclobmigdaaGreat
