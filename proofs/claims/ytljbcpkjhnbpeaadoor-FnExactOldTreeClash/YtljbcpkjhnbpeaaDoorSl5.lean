/- The sum of a part, by the model, is the one of mathematics. -/
import Derived.Test.YtljbcpkjhnbpeaaDoorSl4
namespace Go.Proofs.YtljbcpkjhnbpeaaDoor
open Go.RowKit
namespace U
theorem cut_has {l : Prl} {n : Nat} {q : Int} : cut l (q * (2 ^ n : Nat)) (q * (2 ^ n : Nat) + (2 ^ n : Nat)) = [] ↔ ¬ has l n q := by
  rw [cut_part, List.filter_eq_nil_iff]
  unfold has
  constructor
  · rintro h ⟨p, hp, e⟩
    exact h p hp (decide_eq_true e)
  · intro h p hp e
    exact h ⟨p, hp, of_decide_eq_true e⟩
theorem nd_head {l : Prl} {q : Int} {p : Int × Int} {t : Prl} (h : cut l (q * (2 ^ 0 : Nat)) (q * (2 ^ 0 : Nat) + (2 ^ 0 : Nat)) = p :: t) : nd l 0 q = l3 p := by
  rw [cut_part] at h
  unfold nd
  have : l.find? (fun p => p.1 == q) = some p := by
    have e : l.find? (fun p => p.1 == q) = (l.filter fun p => decide (p.1 / (2 ^ 0 : Nat) = q)).head? := by
      rw [List.head?_filter]
      congr 1
      funext p
      rw [Nat.pow_zero, Int.natCast_one, Int.ediv_one]
      rfl
    rw [e, h]
    rfl
  rw [this]
theorem nd_half {l : Prl} {n : Nat} {q x : Int} (hx : x / 2 = q) : nd (cut l (q * (2 ^ (n + 1) : Nat)) (q * (2 ^ (n + 1) : Nat) + (2 ^ (n + 1) : Nat))) n x = nd l n x := by
  rw [cut_part]
  apply nd_local
  rw [List.filter_filter]
  congr 1
  funext p
  rw [div_succ]
  generalize p.1 / (2 ^ n : Nat) = y
  by_cases h1 : y = x
  · subst h1; simp [hx]
  · simp [h1]
theorem nd_two {l : Prl} {n : Nat} {q : Int} (h : has l (n + 1) q) : nd l (n + 1) q = t2 (nd (cut l (q * (2 ^ (n + 1) : Nat)) (q * (2 ^ (n + 1) : Nat) + (2 ^ (n + 1) : Nat))) n (2 * q)) (nd (cut l (q * (2 ^ (n + 1) : Nat)) (q * (2 ^ (n + 1) : Nat) + (2 ^ (n + 1) : Nat))) n (2 * q + 1)) := by
  rw [nd_succ, if_pos h, nd_half (by omega), nd_half (by omega)]
theorem cut_fine {l : Prl} {a b : Int} (h : ∀ p ∈ l, fine p = true) : ∀ p ∈ cut l a b, fine p = true := fun p hp => h p (cut_mem.1 hp).1
set_option maxRecDepth 100000 in
set_option maxHeartbeats 2000000 in
theorem l4Node_zero (v : Value) (l : Prl) (q : Int) (w : World) (hv : Prs w v l) (hl : l.length ≤ 1048576) (hf : ∀ p ∈ l, fine p = true) (hq : 0 ≤ q ∧ q + 1 ≤ 1024) :
    Calls Tryd.prog 50 #[v, .int .i64 q, .int .i64 0] w fun e w' => e = .returned (.int .i64 (nd l 0 q)) ∧ Below w.heap.size w w' := by
  have hC := fun w h => l4Cut_any v l q (q + 1) w h hl
  have HV : Hid (Prs w v l) := hv
  obtain ⟨ad, c, rfl⟩ := hv.shape
  have HF := cut_fine (a := q) (b := q + 1) hf
  have hE := fun w => l4Empty_any 0 w (by omega)
  have hN : cut l q (q + 1) = [] → nd l 0 q = emp 0 := fun h => nd_none (cut_has.1 (by simpa using h))
  have hP : ∀ p t, cut l q (q + 1) = p :: t → nd l 0 q = l3 p := fun p t h => nd_head (by simpa using h)
  generalize nd l 0 q = r at *
  generalize cut l q (q + 1) = m at *
  generalize l.length = n at *
  clear hv hf
  rcases m with _ | ⟨⟨x, y⟩, t⟩
  · have e0 := hN rfl
    subst e0
    simp only [List.length_nil] at hC
    generalize emp 0 = z at *
    clear hN hP HF
    go_enter Tryd.func50, Tryd.ntmps50
    go_wp2_with fail
    refine (hC _ HV.out).mono ?_
    rintro e w1 ⟨a1, c1, rfl, -, hb1⟩
    clear hC
    go_wp2_with fail
    refine (hE _).mono ?_
    rintro e w2 ⟨rfl, hb2⟩
    clear hE
    go_wp2
    go_ret
    exact ⟨rfl, below_after_of hb1 hb2⟩
  · have e0 := hP _ _ rfl
    subst e0
    have hfx := fine_bd (HF (x, y) (by simp))
    dsimp only at hfx
    have hT := fun w u hu => l2Tag2_any 3 x y u w (by omega) hu (by omega) hfx.2
    have e1 : sumL (tagL 3 [x, y]) = l3 (x, y) := rfl
    rw [e1] at hT
    generalize l3 (x, y) = z at *
    clear hN hP HF e1 hE
    go_enter Tryd.func50, Tryd.ntmps50
    go_wp2_with fail
    refine (hC _ HV.out).mono ?_
    rintro e w1 ⟨a1, c1, rfl, ho, hb1⟩
    obtain ⟨-, b, off, rfl, hb, hc⟩ := (own_prs ho).at (by simp)
    obtain ⟨g0, g1⟩ := hc 0 (by simp)
    simp only [pAt, List.getD_cons_zero, Nat.zero_mul, Nat.add_zero] at g0 g1
    simp only [List.length_cons] at *
    have HB1 : Hid (Below w.heap.size w w1) := hb1
    clear hC ho hc hb1
    have hlen : ¬ ((t.length + 1 : Nat) : Int) = 0 := by omega
    generalize t.length + 1 = k at *
    have hk0 : (0 : Int) < (k : Int) := by omega
    have hk1 : 0 < k := by omega
    go_wp2
    go_region_held3 (fun w' => w'.cell? ⟨b, off, none⟩ = some (.int .i64 x) ∧ w'.cell? ⟨b, off + 1, none⟩ = some (.int .i64 y)) (first | go_keep | exact ⟨(hbr.cell (p := ⟨b, off, none⟩) hb).trans g0, (hbr.cell (p := ⟨b, off + 1, none⟩) hb).trans g1⟩)
      (first | (go_at_call 77; refine (hT _ _ ((two_ints _ _ _ _).below ((Below.refl _ _).drew))).mono ?_; rintro e wq ⟨rfl, hbq⟩; have hbr : Below w1.heap.size w1 wq := below_after_of ((one_new _).drew) hbq; clear hbq))
    have HB2 := below_after_of HB1.out hbr
    go_wp2
    go_ret
    exact ⟨rfl, HB2⟩
theorem l4Node_0 (v : Value) (l : Prl) (f q : Int) (w : World) (hv : Prs w v l) (hl : l.length ≤ 1048576) (hf : ∀ p ∈ l, fine p = true) (HF : Hid (f = q * 1)) (hq : 0 ≤ f ∧ f + 1 ≤ 1024) :
    Calls Tryd.prog 50 #[v, .int .i64 f, .int .i64 0] w fun e w' => e = .returned (.int .i64 (nd l 0 q)) ∧ Below w.heap.size w w' := by
  have e := HF.out
  rw [Int.mul_one] at e
  subst e
  exact l4Node_zero v l f w hv hl hf hq
set_option maxRecDepth 100000 in
set_option maxHeartbeats 2000000 in
theorem l4Node_1 (v : Value) (l : Prl) (f q : Int) (w : World) (hv : Prs w v l) (hl : l.length ≤ 1048576) (hf : ∀ p ∈ l, fine p = true) (HF : Hid (f = q * 2)) (hq : 0 ≤ f ∧ f + 2 ≤ 1024) :
    Calls Tryd.prog 50 #[v, .int .i64 f, .int .i64 1] w fun e w' => e = .returned (.int .i64 (nd l 1 q)) ∧ Below w.heap.size w w' := by
  have hC := fun w h => l4Cut_any v l f (f + 2) w h hl
  have HV : Hid (Prs w v l) := hv
  obtain ⟨ad, c, rfl⟩ := hv.shape
  have HFN := cut_fine (a := f) (b := f + 2) hf
  have hE := fun w => l4Empty_any 1 w (by omega)
  have eS : ((2 ^ (0 + 1) : Nat) : Int) = 2 := rfl
  have hN : cut l f (f + 2) = [] → nd l 1 q = emp 1 := fun h => nd_none (n := 0 + 1) (cut_has.1 (by rw [eS, ← HF.out]; exact h))
  have hP : cut l f (f + 2) ≠ [] → nd l 1 q = t2 (nd (cut l f (f + 2)) 0 (2 * q)) (nd (cut l f (f + 2)) 0 (2 * q + 1)) := fun h => by
    have h2 := nd_two (l := l) (n := 0) (q := q) (Classical.byContradiction fun hn => h (by have := cut_has.2 hn; rw [eS, ← HF.out] at this; exact this))
    rw [eS, ← HF.out] at h2
    exact h2
  have hlm := cut_len l f (f + 2)
  generalize nd l 1 q = r at *
  generalize cut l f (f + 2) = m at *
  have hR1 := fun u w hu => l4Node_0 u m f (2 * q) w hu (by omega) HFN (by show _ = _; have := HF.out; omega) (by omega)
  have hR2 := fun u w hu => l4Node_0 u m (f + 1) (2 * q + 1) w hu (by omega) HFN (by show _ = _; have := HF.out; omega)
  have hd1 := nd_bd m 0 (2 * q)
  have hd2 := nd_bd m 0 (2 * q + 1)
  generalize nd m 0 (2 * q) = x at *
  generalize nd m 0 (2 * q + 1) = y at *
  generalize l.length = n at *
  clear hv hf HFN eS
  by_cases hm : m = []
  · have e0 := hN hm
    subst hm e0
    simp only [List.length_nil] at hC
    generalize emp 1 = z at *
    clear hN hP hR1 hR2
    go_enter Tryd.func50, Tryd.ntmps50
    go_wp2_with fail
    refine (hC _ HV.out).mono ?_
    rintro e w1 ⟨a1, c1, rfl, -, hb1⟩
    clear hC
    go_wp2_with fail
    refine (hE _).mono ?_
    rintro e w2 ⟨rfl, hb2⟩
    clear hE
    go_wp2
    go_ret
    exact ⟨rfl, below_after_of hb1 hb2⟩
  · have e0 := hP hm
    subst e0
    have hT := fun w u hu => l2Tag2_any 2 x y u w (by omega) hu hd1 hd2
    have e1 : sumL (tagL 2 [x, y]) = t2 x y := rfl
    rw [e1] at hT
    generalize t2 x y = z at *
    have hml : ¬ (m.length : Int) = 0 := fun h => hm (List.eq_nil_of_length_eq_zero (by omega))
    clear hN hP e1 hE hm
    go_enter Tryd.func50, Tryd.ntmps50
    go_wp2_with fail
    refine (hC _ HV.out).mono ?_
    rintro e w1 ⟨a1, c1, rfl, ho, hb1⟩
    have hP1 := own_prs ho
    have HP : Hid (∀ w', Below w1.heap.size w1 w' → Prs w' (.slice a1 m.length c1) m) := fun w' h => hP1.below h
    have HB1 : Hid (Below w.heap.size w w1) := hb1
    clear hC ho hb1 hP1
    generalize m.length = k at *
    go_wp2_with fail
    refine (hR1 _ _ (HP.out _ (Below.refl _ _))).mono ?_
    rintro e w2 ⟨rfl, hb2⟩
    clear hR1
    go_wp2_with fail
    refine (hR2 _ _ (HP.out _ hb2) (by omega)).mono ?_
    rintro e w3 ⟨rfl, hb3⟩
    have hb4 := below_after_of hb2 hb3
    clear hR2 hb2 hb3
    go_wp2_with fail
    refine (hT _ _ (two_ints _ _ _ _)).mono ?_
    rintro e w4 ⟨rfl, hb5⟩
    have hb6 := below_after_of HB1.out (below_after_of hb4 (below_after hb5))
    clear hT hb5
    go_wp2
    go_ret
    exact ⟨rfl, hb6⟩
set_option maxRecDepth 100000 in
set_option maxHeartbeats 2000000 in
theorem l4Node_2 (v : Value) (l : Prl) (f q : Int) (w : World) (hv : Prs w v l) (hl : l.length ≤ 1048576) (hf : ∀ p ∈ l, fine p = true) (HF : Hid (f = q * 4)) (hq : 0 ≤ f ∧ f + 4 ≤ 1024) :
    Calls Tryd.prog 50 #[v, .int .i64 f, .int .i64 2] w fun e w' => e = .returned (.int .i64 (nd l 2 q)) ∧ Below w.heap.size w w' := by
  have hC := fun w h => l4Cut_any v l f (f + 4) w h hl
  have HV : Hid (Prs w v l) := hv
  obtain ⟨ad, c, rfl⟩ := hv.shape
  have HFN := cut_fine (a := f) (b := f + 4) hf
  have hE := fun w => l4Empty_any 2 w (by omega)
  have eS : ((2 ^ (1 + 1) : Nat) : Int) = 4 := rfl
  have hN : cut l f (f + 4) = [] → nd l 2 q = emp 2 := fun h => nd_none (n := 1 + 1) (cut_has.1 (by rw [eS, ← HF.out]; exact h))
  have hP : cut l f (f + 4) ≠ [] → nd l 2 q = t2 (nd (cut l f (f + 4)) 1 (2 * q)) (nd (cut l f (f + 4)) 1 (2 * q + 1)) := fun h => by
    have h2 := nd_two (l := l) (n := 1) (q := q) (Classical.byContradiction fun hn => h (by have := cut_has.2 hn; rw [eS, ← HF.out] at this; exact this))
    rw [eS, ← HF.out] at h2
    exact h2
  have hlm := cut_len l f (f + 4)
  generalize nd l 2 q = r at *
  generalize cut l f (f + 4) = m at *
  have hR1 := fun u w hu => l4Node_1 u m f (2 * q) w hu (by omega) HFN (by show _ = _; have := HF.out; omega) (by omega)
  have hR2 := fun u w hu => l4Node_1 u m (f + 2) (2 * q + 1) w hu (by omega) HFN (by show _ = _; have := HF.out; omega)
  have hd1 := nd_bd m 1 (2 * q)
  have hd2 := nd_bd m 1 (2 * q + 1)
  generalize nd m 1 (2 * q) = x at *
  generalize nd m 1 (2 * q + 1) = y at *
  generalize l.length = n at *
  clear hv hf HFN eS
  by_cases hm : m = []
  · have e0 := hN hm
    subst hm e0
    simp only [List.length_nil] at hC
    generalize emp 2 = z at *
    clear hN hP hR1 hR2
    go_enter Tryd.func50, Tryd.ntmps50
    go_wp2_with fail
    refine (hC _ HV.out).mono ?_
    rintro e w1 ⟨a1, c1, rfl, -, hb1⟩
    clear hC
    go_wp2_with fail
    refine (hE _).mono ?_
    rintro e w2 ⟨rfl, hb2⟩
    clear hE
    go_wp2
    go_ret
    exact ⟨rfl, below_after_of hb1 hb2⟩
  · have e0 := hP hm
    subst e0
    have hT := fun w u hu => l2Tag2_any 2 x y u w (by omega) hu hd1 hd2
    have e1 : sumL (tagL 2 [x, y]) = t2 x y := rfl
    rw [e1] at hT
    generalize t2 x y = z at *
    have hml : ¬ (m.length : Int) = 0 := fun h => hm (List.eq_nil_of_length_eq_zero (by omega))
    clear hN hP e1 hE hm
    go_enter Tryd.func50, Tryd.ntmps50
    go_wp2_with fail
    refine (hC _ HV.out).mono ?_
    rintro e w1 ⟨a1, c1, rfl, ho, hb1⟩
    have hP1 := own_prs ho
    have HP : Hid (∀ w', Below w1.heap.size w1 w' → Prs w' (.slice a1 m.length c1) m) := fun w' h => hP1.below h
    have HB1 : Hid (Below w.heap.size w w1) := hb1
    clear hC ho hb1 hP1
    generalize m.length = k at *
    go_wp2_with fail
    refine (hR1 _ _ (HP.out _ (Below.refl _ _))).mono ?_
    rintro e w2 ⟨rfl, hb2⟩
    clear hR1
    go_wp2_with fail
    refine (hR2 _ _ (HP.out _ hb2) (by omega)).mono ?_
    rintro e w3 ⟨rfl, hb3⟩
    have hb4 := below_after_of hb2 hb3
    clear hR2 hb2 hb3
    go_wp2_with fail
    refine (hT _ _ (two_ints _ _ _ _)).mono ?_
    rintro e w4 ⟨rfl, hb5⟩
    have hb6 := below_after_of HB1.out (below_after_of hb4 (below_after hb5))
    clear hT hb5
    go_wp2
    go_ret
    exact ⟨rfl, hb6⟩
set_option maxRecDepth 100000 in
set_option maxHeartbeats 2000000 in
theorem l4Node_3 (v : Value) (l : Prl) (f q : Int) (w : World) (hv : Prs w v l) (hl : l.length ≤ 1048576) (hf : ∀ p ∈ l, fine p = true) (HF : Hid (f = q * 8)) (hq : 0 ≤ f ∧ f + 8 ≤ 1024) :
    Calls Tryd.prog 50 #[v, .int .i64 f, .int .i64 3] w fun e w' => e = .returned (.int .i64 (nd l 3 q)) ∧ Below w.heap.size w w' := by
  have hC := fun w h => l4Cut_any v l f (f + 8) w h hl
  have HV : Hid (Prs w v l) := hv
  obtain ⟨ad, c, rfl⟩ := hv.shape
  have HFN := cut_fine (a := f) (b := f + 8) hf
  have hE := fun w => l4Empty_any 3 w (by omega)
  have eS : ((2 ^ (2 + 1) : Nat) : Int) = 8 := rfl
  have hN : cut l f (f + 8) = [] → nd l 3 q = emp 3 := fun h => nd_none (n := 2 + 1) (cut_has.1 (by rw [eS, ← HF.out]; exact h))
  have hP : cut l f (f + 8) ≠ [] → nd l 3 q = t2 (nd (cut l f (f + 8)) 2 (2 * q)) (nd (cut l f (f + 8)) 2 (2 * q + 1)) := fun h => by
    have h2 := nd_two (l := l) (n := 2) (q := q) (Classical.byContradiction fun hn => h (by have := cut_has.2 hn; rw [eS, ← HF.out] at this; exact this))
    rw [eS, ← HF.out] at h2
    exact h2
  have hlm := cut_len l f (f + 8)
  generalize nd l 3 q = r at *
  generalize cut l f (f + 8) = m at *
  have hR1 := fun u w hu => l4Node_2 u m f (2 * q) w hu (by omega) HFN (by show _ = _; have := HF.out; omega) (by omega)
  have hR2 := fun u w hu => l4Node_2 u m (f + 4) (2 * q + 1) w hu (by omega) HFN (by show _ = _; have := HF.out; omega)
  have hd1 := nd_bd m 2 (2 * q)
  have hd2 := nd_bd m 2 (2 * q + 1)
  generalize nd m 2 (2 * q) = x at *
  generalize nd m 2 (2 * q + 1) = y at *
  generalize l.length = n at *
  clear hv hf HFN eS
  by_cases hm : m = []
  · have e0 := hN hm
    subst hm e0
    simp only [List.length_nil] at hC
    generalize emp 3 = z at *
    clear hN hP hR1 hR2
    go_enter Tryd.func50, Tryd.ntmps50
    go_wp2_with fail
    refine (hC _ HV.out).mono ?_
    rintro e w1 ⟨a1, c1, rfl, -, hb1⟩
    clear hC
    go_wp2_with fail
    refine (hE _).mono ?_
    rintro e w2 ⟨rfl, hb2⟩
    clear hE
    go_wp2
    go_ret
    exact ⟨rfl, below_after_of hb1 hb2⟩
  · have e0 := hP hm
    subst e0
    have hT := fun w u hu => l2Tag2_any 2 x y u w (by omega) hu hd1 hd2
    have e1 : sumL (tagL 2 [x, y]) = t2 x y := rfl
    rw [e1] at hT
    generalize t2 x y = z at *
    have hml : ¬ (m.length : Int) = 0 := fun h => hm (List.eq_nil_of_length_eq_zero (by omega))
    clear hN hP e1 hE hm
    go_enter Tryd.func50, Tryd.ntmps50
    go_wp2_with fail
    refine (hC _ HV.out).mono ?_
    rintro e w1 ⟨a1, c1, rfl, ho, hb1⟩
    have hP1 := own_prs ho
    have HP : Hid (∀ w', Below w1.heap.size w1 w' → Prs w' (.slice a1 m.length c1) m) := fun w' h => hP1.below h
    have HB1 : Hid (Below w.heap.size w w1) := hb1
    clear hC ho hb1 hP1
    generalize m.length = k at *
    go_wp2_with fail
    refine (hR1 _ _ (HP.out _ (Below.refl _ _))).mono ?_
    rintro e w2 ⟨rfl, hb2⟩
    clear hR1
    go_wp2_with fail
    refine (hR2 _ _ (HP.out _ hb2) (by omega)).mono ?_
    rintro e w3 ⟨rfl, hb3⟩
    have hb4 := below_after_of hb2 hb3
    clear hR2 hb2 hb3
    go_wp2_with fail
    refine (hT _ _ (two_ints _ _ _ _)).mono ?_
    rintro e w4 ⟨rfl, hb5⟩
    have hb6 := below_after_of HB1.out (below_after_of hb4 (below_after hb5))
    clear hT hb5
    go_wp2
    go_ret
    exact ⟨rfl, hb6⟩
set_option maxRecDepth 100000 in
set_option maxHeartbeats 2000000 in
theorem l4Node_4 (v : Value) (l : Prl) (f q : Int) (w : World) (hv : Prs w v l) (hl : l.length ≤ 1048576) (hf : ∀ p ∈ l, fine p = true) (HF : Hid (f = q * 16)) (hq : 0 ≤ f ∧ f + 16 ≤ 1024) :
    Calls Tryd.prog 50 #[v, .int .i64 f, .int .i64 4] w fun e w' => e = .returned (.int .i64 (nd l 4 q)) ∧ Below w.heap.size w w' := by
  have hC := fun w h => l4Cut_any v l f (f + 16) w h hl
  have HV : Hid (Prs w v l) := hv
  obtain ⟨ad, c, rfl⟩ := hv.shape
  have HFN := cut_fine (a := f) (b := f + 16) hf
  have hE := fun w => l4Empty_any 4 w (by omega)
  have eS : ((2 ^ (3 + 1) : Nat) : Int) = 16 := rfl
  have hN : cut l f (f + 16) = [] → nd l 4 q = emp 4 := fun h => nd_none (n := 3 + 1) (cut_has.1 (by rw [eS, ← HF.out]; exact h))
  have hP : cut l f (f + 16) ≠ [] → nd l 4 q = t2 (nd (cut l f (f + 16)) 3 (2 * q)) (nd (cut l f (f + 16)) 3 (2 * q + 1)) := fun h => by
    have h2 := nd_two (l := l) (n := 3) (q := q) (Classical.byContradiction fun hn => h (by have := cut_has.2 hn; rw [eS, ← HF.out] at this; exact this))
    rw [eS, ← HF.out] at h2
    exact h2
  have hlm := cut_len l f (f + 16)
  generalize nd l 4 q = r at *
  generalize cut l f (f + 16) = m at *
  have hR1 := fun u w hu => l4Node_3 u m f (2 * q) w hu (by omega) HFN (by show _ = _; have := HF.out; omega) (by omega)
  have hR2 := fun u w hu => l4Node_3 u m (f + 8) (2 * q + 1) w hu (by omega) HFN (by show _ = _; have := HF.out; omega)
  have hd1 := nd_bd m 3 (2 * q)
  have hd2 := nd_bd m 3 (2 * q + 1)
  generalize nd m 3 (2 * q) = x at *
  generalize nd m 3 (2 * q + 1) = y at *
  generalize l.length = n at *
  clear hv hf HFN eS
  by_cases hm : m = []
  · have e0 := hN hm
    subst hm e0
    simp only [List.length_nil] at hC
    generalize emp 4 = z at *
    clear hN hP hR1 hR2
    go_enter Tryd.func50, Tryd.ntmps50
    go_wp2_with fail
    refine (hC _ HV.out).mono ?_
    rintro e w1 ⟨a1, c1, rfl, -, hb1⟩
    clear hC
    go_wp2_with fail
    refine (hE _).mono ?_
    rintro e w2 ⟨rfl, hb2⟩
    clear hE
    go_wp2
    go_ret
    exact ⟨rfl, below_after_of hb1 hb2⟩
  · have e0 := hP hm
    subst e0
    have hT := fun w u hu => l2Tag2_any 2 x y u w (by omega) hu hd1 hd2
    have e1 : sumL (tagL 2 [x, y]) = t2 x y := rfl
    rw [e1] at hT
    generalize t2 x y = z at *
    have hml : ¬ (m.length : Int) = 0 := fun h => hm (List.eq_nil_of_length_eq_zero (by omega))
    clear hN hP e1 hE hm
    go_enter Tryd.func50, Tryd.ntmps50
    go_wp2_with fail
    refine (hC _ HV.out).mono ?_
    rintro e w1 ⟨a1, c1, rfl, ho, hb1⟩
    have hP1 := own_prs ho
    have HP : Hid (∀ w', Below w1.heap.size w1 w' → Prs w' (.slice a1 m.length c1) m) := fun w' h => hP1.below h
    have HB1 : Hid (Below w.heap.size w w1) := hb1
    clear hC ho hb1 hP1
    generalize m.length = k at *
    go_wp2_with fail
    refine (hR1 _ _ (HP.out _ (Below.refl _ _))).mono ?_
    rintro e w2 ⟨rfl, hb2⟩
    clear hR1
    go_wp2_with fail
    refine (hR2 _ _ (HP.out _ hb2) (by omega)).mono ?_
    rintro e w3 ⟨rfl, hb3⟩
    have hb4 := below_after_of hb2 hb3
    clear hR2 hb2 hb3
    go_wp2_with fail
    refine (hT _ _ (two_ints _ _ _ _)).mono ?_
    rintro e w4 ⟨rfl, hb5⟩
    have hb6 := below_after_of HB1.out (below_after_of hb4 (below_after hb5))
    clear hT hb5
    go_wp2
    go_ret
    exact ⟨rfl, hb6⟩
set_option maxRecDepth 100000 in
set_option maxHeartbeats 2000000 in
theorem l4Node_5 (v : Value) (l : Prl) (f q : Int) (w : World) (hv : Prs w v l) (hl : l.length ≤ 1048576) (hf : ∀ p ∈ l, fine p = true) (HF : Hid (f = q * 32)) (hq : 0 ≤ f ∧ f + 32 ≤ 1024) :
    Calls Tryd.prog 50 #[v, .int .i64 f, .int .i64 5] w fun e w' => e = .returned (.int .i64 (nd l 5 q)) ∧ Below w.heap.size w w' := by
  have hC := fun w h => l4Cut_any v l f (f + 32) w h hl
  have HV : Hid (Prs w v l) := hv
  obtain ⟨ad, c, rfl⟩ := hv.shape
  have HFN := cut_fine (a := f) (b := f + 32) hf
  have hE := fun w => l4Empty_any 5 w (by omega)
  have eS : ((2 ^ (4 + 1) : Nat) : Int) = 32 := rfl
  have hN : cut l f (f + 32) = [] → nd l 5 q = emp 5 := fun h => nd_none (n := 4 + 1) (cut_has.1 (by rw [eS, ← HF.out]; exact h))
  have hP : cut l f (f + 32) ≠ [] → nd l 5 q = t2 (nd (cut l f (f + 32)) 4 (2 * q)) (nd (cut l f (f + 32)) 4 (2 * q + 1)) := fun h => by
    have h2 := nd_two (l := l) (n := 4) (q := q) (Classical.byContradiction fun hn => h (by have := cut_has.2 hn; rw [eS, ← HF.out] at this; exact this))
    rw [eS, ← HF.out] at h2
    exact h2
  have hlm := cut_len l f (f + 32)
  generalize nd l 5 q = r at *
  generalize cut l f (f + 32) = m at *
  have hR1 := fun u w hu => l4Node_4 u m f (2 * q) w hu (by omega) HFN (by show _ = _; have := HF.out; omega) (by omega)
  have hR2 := fun u w hu => l4Node_4 u m (f + 16) (2 * q + 1) w hu (by omega) HFN (by show _ = _; have := HF.out; omega)
  have hd1 := nd_bd m 4 (2 * q)
  have hd2 := nd_bd m 4 (2 * q + 1)
  generalize nd m 4 (2 * q) = x at *
  generalize nd m 4 (2 * q + 1) = y at *
  generalize l.length = n at *
  clear hv hf HFN eS
  by_cases hm : m = []
  · have e0 := hN hm
    subst hm e0
    simp only [List.length_nil] at hC
    generalize emp 5 = z at *
    clear hN hP hR1 hR2
    go_enter Tryd.func50, Tryd.ntmps50
    go_wp2_with fail
    refine (hC _ HV.out).mono ?_
    rintro e w1 ⟨a1, c1, rfl, -, hb1⟩
    clear hC
    go_wp2_with fail
    refine (hE _).mono ?_
    rintro e w2 ⟨rfl, hb2⟩
    clear hE
    go_wp2
    go_ret
    exact ⟨rfl, below_after_of hb1 hb2⟩
  · have e0 := hP hm
    subst e0
    have hT := fun w u hu => l2Tag2_any 2 x y u w (by omega) hu hd1 hd2
    have e1 : sumL (tagL 2 [x, y]) = t2 x y := rfl
    rw [e1] at hT
    generalize t2 x y = z at *
    have hml : ¬ (m.length : Int) = 0 := fun h => hm (List.eq_nil_of_length_eq_zero (by omega))
    clear hN hP e1 hE hm
    go_enter Tryd.func50, Tryd.ntmps50
    go_wp2_with fail
    refine (hC _ HV.out).mono ?_
    rintro e w1 ⟨a1, c1, rfl, ho, hb1⟩
    have hP1 := own_prs ho
    have HP : Hid (∀ w', Below w1.heap.size w1 w' → Prs w' (.slice a1 m.length c1) m) := fun w' h => hP1.below h
    have HB1 : Hid (Below w.heap.size w w1) := hb1
    clear hC ho hb1 hP1
    generalize m.length = k at *
    go_wp2_with fail
    refine (hR1 _ _ (HP.out _ (Below.refl _ _))).mono ?_
    rintro e w2 ⟨rfl, hb2⟩
    clear hR1
    go_wp2_with fail
    refine (hR2 _ _ (HP.out _ hb2) (by omega)).mono ?_
    rintro e w3 ⟨rfl, hb3⟩
    have hb4 := below_after_of hb2 hb3
    clear hR2 hb2 hb3
    go_wp2_with fail
    refine (hT _ _ (two_ints _ _ _ _)).mono ?_
    rintro e w4 ⟨rfl, hb5⟩
    have hb6 := below_after_of HB1.out (below_after_of hb4 (below_after hb5))
    clear hT hb5
    go_wp2
    go_ret
    exact ⟨rfl, hb6⟩
set_option maxRecDepth 100000 in
set_option maxHeartbeats 2000000 in
theorem l4Node_6 (v : Value) (l : Prl) (f q : Int) (w : World) (hv : Prs w v l) (hl : l.length ≤ 1048576) (hf : ∀ p ∈ l, fine p = true) (HF : Hid (f = q * 64)) (hq : 0 ≤ f ∧ f + 64 ≤ 1024) :
    Calls Tryd.prog 50 #[v, .int .i64 f, .int .i64 6] w fun e w' => e = .returned (.int .i64 (nd l 6 q)) ∧ Below w.heap.size w w' := by
  have hC := fun w h => l4Cut_any v l f (f + 64) w h hl
  have HV : Hid (Prs w v l) := hv
  obtain ⟨ad, c, rfl⟩ := hv.shape
  have HFN := cut_fine (a := f) (b := f + 64) hf
  have hE := fun w => l4Empty_any 6 w (by omega)
  have eS : ((2 ^ (5 + 1) : Nat) : Int) = 64 := rfl
  have hN : cut l f (f + 64) = [] → nd l 6 q = emp 6 := fun h => nd_none (n := 5 + 1) (cut_has.1 (by rw [eS, ← HF.out]; exact h))
  have hP : cut l f (f + 64) ≠ [] → nd l 6 q = t2 (nd (cut l f (f + 64)) 5 (2 * q)) (nd (cut l f (f + 64)) 5 (2 * q + 1)) := fun h => by
    have h2 := nd_two (l := l) (n := 5) (q := q) (Classical.byContradiction fun hn => h (by have := cut_has.2 hn; rw [eS, ← HF.out] at this; exact this))
    rw [eS, ← HF.out] at h2
    exact h2
  have hlm := cut_len l f (f + 64)
  generalize nd l 6 q = r at *
  generalize cut l f (f + 64) = m at *
  have hR1 := fun u w hu => l4Node_5 u m f (2 * q) w hu (by omega) HFN (by show _ = _; have := HF.out; omega) (by omega)
  have hR2 := fun u w hu => l4Node_5 u m (f + 32) (2 * q + 1) w hu (by omega) HFN (by show _ = _; have := HF.out; omega)
  have hd1 := nd_bd m 5 (2 * q)
  have hd2 := nd_bd m 5 (2 * q + 1)
  generalize nd m 5 (2 * q) = x at *
  generalize nd m 5 (2 * q + 1) = y at *
  generalize l.length = n at *
  clear hv hf HFN eS
  by_cases hm : m = []
  · have e0 := hN hm
    subst hm e0
    simp only [List.length_nil] at hC
    generalize emp 6 = z at *
    clear hN hP hR1 hR2
    go_enter Tryd.func50, Tryd.ntmps50
    go_wp2_with fail
    refine (hC _ HV.out).mono ?_
    rintro e w1 ⟨a1, c1, rfl, -, hb1⟩
    clear hC
    go_wp2_with fail
    refine (hE _).mono ?_
    rintro e w2 ⟨rfl, hb2⟩
    clear hE
    go_wp2
    go_ret
    exact ⟨rfl, below_after_of hb1 hb2⟩
  · have e0 := hP hm
    subst e0
    have hT := fun w u hu => l2Tag2_any 2 x y u w (by omega) hu hd1 hd2
    have e1 : sumL (tagL 2 [x, y]) = t2 x y := rfl
    rw [e1] at hT
    generalize t2 x y = z at *
    have hml : ¬ (m.length : Int) = 0 := fun h => hm (List.eq_nil_of_length_eq_zero (by omega))
    clear hN hP e1 hE hm
    go_enter Tryd.func50, Tryd.ntmps50
    go_wp2_with fail
    refine (hC _ HV.out).mono ?_
    rintro e w1 ⟨a1, c1, rfl, ho, hb1⟩
    have hP1 := own_prs ho
    have HP : Hid (∀ w', Below w1.heap.size w1 w' → Prs w' (.slice a1 m.length c1) m) := fun w' h => hP1.below h
    have HB1 : Hid (Below w.heap.size w w1) := hb1
    clear hC ho hb1 hP1
    generalize m.length = k at *
    go_wp2_with fail
    refine (hR1 _ _ (HP.out _ (Below.refl _ _))).mono ?_
    rintro e w2 ⟨rfl, hb2⟩
    clear hR1
    go_wp2_with fail
    refine (hR2 _ _ (HP.out _ hb2) (by omega)).mono ?_
    rintro e w3 ⟨rfl, hb3⟩
    have hb4 := below_after_of hb2 hb3
    clear hR2 hb2 hb3
    go_wp2_with fail
    refine (hT _ _ (two_ints _ _ _ _)).mono ?_
    rintro e w4 ⟨rfl, hb5⟩
    have hb6 := below_after_of HB1.out (below_after_of hb4 (below_after hb5))
    clear hT hb5
    go_wp2
    go_ret
    exact ⟨rfl, hb6⟩
set_option maxRecDepth 100000 in
set_option maxHeartbeats 2000000 in
theorem l4Node_7 (v : Value) (l : Prl) (f q : Int) (w : World) (hv : Prs w v l) (hl : l.length ≤ 1048576) (hf : ∀ p ∈ l, fine p = true) (HF : Hid (f = q * 128)) (hq : 0 ≤ f ∧ f + 128 ≤ 1024) :
    Calls Tryd.prog 50 #[v, .int .i64 f, .int .i64 7] w fun e w' => e = .returned (.int .i64 (nd l 7 q)) ∧ Below w.heap.size w w' := by
  have hC := fun w h => l4Cut_any v l f (f + 128) w h hl
  have HV : Hid (Prs w v l) := hv
  obtain ⟨ad, c, rfl⟩ := hv.shape
  have HFN := cut_fine (a := f) (b := f + 128) hf
  have hE := fun w => l4Empty_any 7 w (by omega)
  have eS : ((2 ^ (6 + 1) : Nat) : Int) = 128 := rfl
  have hN : cut l f (f + 128) = [] → nd l 7 q = emp 7 := fun h => nd_none (n := 6 + 1) (cut_has.1 (by rw [eS, ← HF.out]; exact h))
  have hP : cut l f (f + 128) ≠ [] → nd l 7 q = t2 (nd (cut l f (f + 128)) 6 (2 * q)) (nd (cut l f (f + 128)) 6 (2 * q + 1)) := fun h => by
    have h2 := nd_two (l := l) (n := 6) (q := q) (Classical.byContradiction fun hn => h (by have := cut_has.2 hn; rw [eS, ← HF.out] at this; exact this))
    rw [eS, ← HF.out] at h2
    exact h2
  have hlm := cut_len l f (f + 128)
  generalize nd l 7 q = r at *
  generalize cut l f (f + 128) = m at *
  have hR1 := fun u w hu => l4Node_6 u m f (2 * q) w hu (by omega) HFN (by show _ = _; have := HF.out; omega) (by omega)
  have hR2 := fun u w hu => l4Node_6 u m (f + 64) (2 * q + 1) w hu (by omega) HFN (by show _ = _; have := HF.out; omega)
  have hd1 := nd_bd m 6 (2 * q)
  have hd2 := nd_bd m 6 (2 * q + 1)
  generalize nd m 6 (2 * q) = x at *
  generalize nd m 6 (2 * q + 1) = y at *
  generalize l.length = n at *
  clear hv hf HFN eS
  by_cases hm : m = []
  · have e0 := hN hm
    subst hm e0
    simp only [List.length_nil] at hC
    generalize emp 7 = z at *
    clear hN hP hR1 hR2
    go_enter Tryd.func50, Tryd.ntmps50
    go_wp2_with fail
    refine (hC _ HV.out).mono ?_
    rintro e w1 ⟨a1, c1, rfl, -, hb1⟩
    clear hC
    go_wp2_with fail
    refine (hE _).mono ?_
    rintro e w2 ⟨rfl, hb2⟩
    clear hE
    go_wp2
    go_ret
    exact ⟨rfl, below_after_of hb1 hb2⟩
  · have e0 := hP hm
    subst e0
    have hT := fun w u hu => l2Tag2_any 2 x y u w (by omega) hu hd1 hd2
    have e1 : sumL (tagL 2 [x, y]) = t2 x y := rfl
    rw [e1] at hT
    generalize t2 x y = z at *
    have hml : ¬ (m.length : Int) = 0 := fun h => hm (List.eq_nil_of_length_eq_zero (by omega))
    clear hN hP e1 hE hm
    go_enter Tryd.func50, Tryd.ntmps50
    go_wp2_with fail
    refine (hC _ HV.out).mono ?_
    rintro e w1 ⟨a1, c1, rfl, ho, hb1⟩
    have hP1 := own_prs ho
    have HP : Hid (∀ w', Below w1.heap.size w1 w' → Prs w' (.slice a1 m.length c1) m) := fun w' h => hP1.below h
    have HB1 : Hid (Below w.heap.size w w1) := hb1
    clear hC ho hb1 hP1
    generalize m.length = k at *
    go_wp2_with fail
    refine (hR1 _ _ (HP.out _ (Below.refl _ _))).mono ?_
    rintro e w2 ⟨rfl, hb2⟩
    clear hR1
    go_wp2_with fail
    refine (hR2 _ _ (HP.out _ hb2) (by omega)).mono ?_
    rintro e w3 ⟨rfl, hb3⟩
    have hb4 := below_after_of hb2 hb3
    clear hR2 hb2 hb3
    go_wp2_with fail
    refine (hT _ _ (two_ints _ _ _ _)).mono ?_
    rintro e w4 ⟨rfl, hb5⟩
    have hb6 := below_after_of HB1.out (below_after_of hb4 (below_after hb5))
    clear hT hb5
    go_wp2
    go_ret
    exact ⟨rfl, hb6⟩
set_option maxRecDepth 100000 in
set_option maxHeartbeats 2000000 in
theorem l4Node_8 (v : Value) (l : Prl) (f q : Int) (w : World) (hv : Prs w v l) (hl : l.length ≤ 1048576) (hf : ∀ p ∈ l, fine p = true) (HF : Hid (f = q * 256)) (hq : 0 ≤ f ∧ f + 256 ≤ 1024) :
    Calls Tryd.prog 50 #[v, .int .i64 f, .int .i64 8] w fun e w' => e = .returned (.int .i64 (nd l 8 q)) ∧ Below w.heap.size w w' := by
  have hC := fun w h => l4Cut_any v l f (f + 256) w h hl
  have HV : Hid (Prs w v l) := hv
  obtain ⟨ad, c, rfl⟩ := hv.shape
  have HFN := cut_fine (a := f) (b := f + 256) hf
  have hE := fun w => l4Empty_any 8 w (by omega)
  have eS : ((2 ^ (7 + 1) : Nat) : Int) = 256 := rfl
  have hN : cut l f (f + 256) = [] → nd l 8 q = emp 8 := fun h => nd_none (n := 7 + 1) (cut_has.1 (by rw [eS, ← HF.out]; exact h))
  have hP : cut l f (f + 256) ≠ [] → nd l 8 q = t2 (nd (cut l f (f + 256)) 7 (2 * q)) (nd (cut l f (f + 256)) 7 (2 * q + 1)) := fun h => by
    have h2 := nd_two (l := l) (n := 7) (q := q) (Classical.byContradiction fun hn => h (by have := cut_has.2 hn; rw [eS, ← HF.out] at this; exact this))
    rw [eS, ← HF.out] at h2
    exact h2
  have hlm := cut_len l f (f + 256)
  generalize nd l 8 q = r at *
  generalize cut l f (f + 256) = m at *
  have hR1 := fun u w hu => l4Node_7 u m f (2 * q) w hu (by omega) HFN (by show _ = _; have := HF.out; omega) (by omega)
  have hR2 := fun u w hu => l4Node_7 u m (f + 128) (2 * q + 1) w hu (by omega) HFN (by show _ = _; have := HF.out; omega)
  have hd1 := nd_bd m 7 (2 * q)
  have hd2 := nd_bd m 7 (2 * q + 1)
  generalize nd m 7 (2 * q) = x at *
  generalize nd m 7 (2 * q + 1) = y at *
  generalize l.length = n at *
  clear hv hf HFN eS
  by_cases hm : m = []
  · have e0 := hN hm
    subst hm e0
    simp only [List.length_nil] at hC
    generalize emp 8 = z at *
    clear hN hP hR1 hR2
    go_enter Tryd.func50, Tryd.ntmps50
    go_wp2_with fail
    refine (hC _ HV.out).mono ?_
    rintro e w1 ⟨a1, c1, rfl, -, hb1⟩
    clear hC
    go_wp2_with fail
    refine (hE _).mono ?_
    rintro e w2 ⟨rfl, hb2⟩
    clear hE
    go_wp2
    go_ret
    exact ⟨rfl, below_after_of hb1 hb2⟩
  · have e0 := hP hm
    subst e0
    have hT := fun w u hu => l2Tag2_any 2 x y u w (by omega) hu hd1 hd2
    have e1 : sumL (tagL 2 [x, y]) = t2 x y := rfl
    rw [e1] at hT
    generalize t2 x y = z at *
    have hml : ¬ (m.length : Int) = 0 := fun h => hm (List.eq_nil_of_length_eq_zero (by omega))
    clear hN hP e1 hE hm
    go_enter Tryd.func50, Tryd.ntmps50
    go_wp2_with fail
    refine (hC _ HV.out).mono ?_
    rintro e w1 ⟨a1, c1, rfl, ho, hb1⟩
    have hP1 := own_prs ho
    have HP : Hid (∀ w', Below w1.heap.size w1 w' → Prs w' (.slice a1 m.length c1) m) := fun w' h => hP1.below h
    have HB1 : Hid (Below w.heap.size w w1) := hb1
    clear hC ho hb1 hP1
    generalize m.length = k at *
    go_wp2_with fail
    refine (hR1 _ _ (HP.out _ (Below.refl _ _))).mono ?_
    rintro e w2 ⟨rfl, hb2⟩
    clear hR1
    go_wp2_with fail
    refine (hR2 _ _ (HP.out _ hb2) (by omega)).mono ?_
    rintro e w3 ⟨rfl, hb3⟩
    have hb4 := below_after_of hb2 hb3
    clear hR2 hb2 hb3
    go_wp2_with fail
    refine (hT _ _ (two_ints _ _ _ _)).mono ?_
    rintro e w4 ⟨rfl, hb5⟩
    have hb6 := below_after_of HB1.out (below_after_of hb4 (below_after hb5))
    clear hT hb5
    go_wp2
    go_ret
    exact ⟨rfl, hb6⟩
end U
end Go.Proofs.YtljbcpkjhnbpeaaDoor
