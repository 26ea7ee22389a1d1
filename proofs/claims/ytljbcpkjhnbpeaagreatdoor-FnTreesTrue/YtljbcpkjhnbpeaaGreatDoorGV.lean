/- Joined: what the texts behind it need. -/
import Derived.Test.YtljbcpkjhnbpeaaGreatDoorSl9
import Derived.Test.YtljbcpkjhnbpeaaGreatDoorSl2
import Derived.Test.YtljbcpkjhnbpeaaGreatDoorSl4
import Derived.Test.YtljbcpkjhnbpeaaGreatDoorSl11
import Derived.Test.YtljbcpkjhnbpeaaGreatDoorOp1
import Derived.Test.YtljbcpkjhnbpeaaGreatDoorOp2
import Derived.ScopeJumps
import Derived.WalkMore
import Derived.Test.YtljbcpkjhnbpeaaGreatDoorClash2
import Derived.Test.YtljbcpkjhnbpeaaGreatDoorQuiet
import Derived.Deep.RegionHeld3
import Derived.Deep.MidRow
/- FindSlot, by the program and by the model. -/
namespace Go.Proofs.YtljbcpkjhnbpeaaGreatDoor
open Go.RowKit
namespace U
set_option maxRecDepth 100000 in
set_option maxHeartbeats 1000000 in
theorem l4At_any (v : Value) (l : Prl) (k : Int) (w : World) (hv : Prs w v l) (hl : l.length ≤ 12) (hr : Ris l) :
    Calls Tryz.prog 92 #[v, .int .i64 k] w fun e w' => e = .returned (.int .i64 (if thr l k = true then (low l k : Nat) else (-1 : Int))) ∧ w' = w := by
  have HV : Hid (Prs w v l) := hv
  obtain ⟨a, c, rfl⟩ := hv.shape
  have HF : Hid (∀ i, i < l.length → (pAt l i).1 = k → (if thr l k = true then ((low l k : Nat) : Int) else -1) = (i : Int)) := fun i hi e => by
    have h1 := at_low hr hi e
    rw [if_pos ((thr_iff hr k).2 ⟨_, List.getElem_mem hi, by rw [← pAt_eq hi]; exact e⟩), ← h1]
  have HG : Hid ((∀ i, i < l.length → ¬ (pAt l i).1 = k) → (if thr l k = true then ((low l k : Nat) : Int) else -1) = -1) := fun h => by
    rw [if_neg]
    intro ht
    obtain ⟨p, hp, e⟩ := (thr_iff hr k).1 ht
    obtain ⟨i, hi, rfl⟩ := List.mem_iff_getElem.1 hp
    exact h i hi (by rw [pAt_eq hi]; exact e)
  generalize (if thr l k = true then ((low l k : Nat) : Int) else -1) = r at *
  obtain ⟨n, hn⟩ : ∃ n, n = l.length := ⟨_, rfl⟩
  have HN : Hid (n = l.length) := hn
  rw [← hn] at HV hl HF HG ⊢
  clear hv hr hn
  go_enter Tryz.func92, Tryz.ntmps92
  go_wp2
  go_loop [5] (fun i => ∃ j : Nat, j ≤ n ∧ i = .int .i64 j ∧ Hid (∀ i, i < j → ¬ (pAt l i).1 = k)) (fun i => n - (intOf i).toNat)
  case atStart => exact ⟨0, Nat.zero_le _, rfl, fun i hi => by omega⟩
  case round =>
    obtain ⟨j, hj, rfl, HJ⟩ := hrel
    by_cases hjn : j < n
    · have hji : (j : Int) < (n : Int) := by omega
      obtain ⟨-, b, off, rfl, hb, hc⟩ := HV.out.at (by have := HN.out; omega)
      have c0 := (hc j (by have := HN.out; omega)).1
      have HE := HF.out j hjn
      have HS : Hid (¬ (pAt l j).1 = k → ∀ i, i < j + 1 → ¬ (pAt l i).1 = k) := fun h i hi => by
        by_cases e : i = j
        · subst e; exact h
        · exact HJ.out i (by omega)
      generalize (pAt l j).1 = x at *
      clear hc
      by_cases e : x = k
      · have HR : Hid (r = (j : Int)) := HE e
        have eb : (x == k) = true := by simpa using e
        clear HE HF HG HS e
        go_wp2
        go_ret
        exact ⟨ret_int HR.out.symm, rfl⟩
      · have eb : (x == k) = false := by simpa using e
        have HS2 : Hid (∀ i, i < j + 1 → ¬ (pAt l i).1 = k) := HS.out e
        clear HE HF HG HS e
        go_wp2
        go_round
        case rel => exact ⟨j + 1, by omega, by go_num, HS2⟩
        case measure => simp [intOf]; omega
    · have hjn : j = n := by omega
      subst hjn
      have HR : Hid (r = -1) := HG.out HJ.out
      clear HF HG
      go_wp2
      go_ret
      exact ⟨ret_int HR.out.symm, rfl⟩
/-- The code and the value of a slot that is looked for. -/
def fsC (l : Prl) (k : Int) : Int := if slF l = 0 then (if thr l k = true then 0 else 4) else slF l
def fsV (l : Prl) (k : Int) : Int := if slF l = 0 ∧ thr l k = true then (pAt l (low l k)).2 else 0
theorem thr_lt {l : Prl} {k : Int} (h : thr l k = true) : low l k < l.length := by
  unfold thr at h
  rw [Bool.and_eq_true] at h
  exact of_decide_eq_true h.1
set_option maxRecDepth 100000 in
set_option maxHeartbeats 2000000 in
theorem implFindSlot_any (v : Value) (l : Prl) (k : Int) (w : World) (hv : Prs w v l) (hx : l.length ≤ 1099511627776) :
    Calls Tryz.prog 12 #[v, .int .i64 k] w fun e w' => IntAns w (fsC l k) (fsV l k) e w' := by
  have hF := fun w' h => implSlotsFault_any v l w' (hv.below h) hx
  unfold fsC fsV
  by_cases h0 : slF l = 0
  · have hs := slF_ok h0
    have hP := fun w' h => placeOf_any v l k w' (hv.below h) hs.len hs.ris
    rw [if_pos h0]
    rw [h0] at hF
    have hln := hs.len
    by_cases ht : thr l k = true
    · rw [if_pos ht, if_pos ⟨h0, ht⟩]
      have hlt := thr_lt ht
      rw [ht] at hP
      obtain ⟨ad, c, rfl⟩ := hv.shape
      obtain ⟨-, b, off, rfl, hb, hc⟩ := hv.at (by omega)
      have hcl := (hc _ hlt).2
      generalize (pAt l (low l k)).2 = x at *
      generalize low l k = lo at *
      generalize l.length = n at *
      have hli : (lo : Int) < (n : Int) := by omega
      clear hv h0 hs hc ht
      go_enter Tryz.func12, Tryz.ntmps12
      go_wp2_with fail
      refine (hF _ (one_new _)).mono ?_
      rintro e w1 ⟨rfl, hb1⟩
      clear hF
      go_wp2_with fail
      refine (hP _ (below_after hb1)).mono ?_
      rintro e w2 ⟨rfl, hb2⟩
      have hb2' := below_after_of hb1 hb2
      have hB2 := below_after hb2'
      have hc2 := (hB2.cell (p := ⟨b, off + lo * 2 + 1, none⟩) hb).trans hcl
      obtain ⟨g0, g1, f0, f1⟩ := two_cellsV ((hb2'.block w.heap.size (by simp)).trans (heap_alloc_new w _))
      clear hP hb1 hb2 hb2' hcl
      go_wp2
      exact bodyPost_ret (v := .agg #[.int .i64 0, .int .i64 x]) (by simp [results, Tryz.results12, go_sem, *]) rfl ⟨rfl, (hB2.setCell (by simp) _).setCell (by simp) _⟩
    · have ht : thr l k = false := by simpa using ht
      rw [if_neg (by rw [ht]; simp), if_neg (by rw [ht]; simp)]
      rw [ht] at hP
      obtain ⟨ad, c, rfl⟩ := hv.shape
      generalize low l k = lo at *
      generalize l.length = n at *
      clear hv h0 hs ht
      go_enter Tryz.func12, Tryz.ntmps12
      go_wp2_with fail
      refine (hF _ (one_new _)).mono ?_
      rintro e w1 ⟨rfl, hb1⟩
      clear hF
      go_wp2_with fail
      refine (hP _ (below_after hb1)).mono ?_
      rintro e w2 ⟨rfl, hb2⟩
      have hb2' := below_after_of hb1 hb2
      have hB2 := below_after hb2'
      obtain ⟨g0, g1, f0, f1⟩ := two_cellsV ((hb2'.block w.heap.size (by simp)).trans (heap_alloc_new w _))
      clear hP hb1 hb2 hb2'
      go_wp2
      exact bodyPost_ret (v := .agg #[.int .i64 4, .int .i64 0]) (by simp [results, Tryz.results12, go_sem, *]) rfl ⟨rfl, (hB2.setCell (by simp) _).setCell (by simp) _⟩
  · rw [if_neg h0, if_neg (fun h => h0 h.1)]
    obtain ⟨ad, c, rfl⟩ := hv.shape
    generalize slF l = f at *
    generalize l.length = n at *
    have hfn : (f != 0) = true := by simpa using h0
    clear hv h0
    go_enter Tryz.func12, Tryz.ntmps12
    go_wp2_with fail
    refine (hF _ (one_new _)).mono ?_
    rintro e w1 ⟨rfl, hb1⟩
    obtain ⟨g0, g1, f0, f1⟩ := two_cellsV ((hb1.block w.heap.size (by simp)).trans (heap_alloc_new w _))
    have hB1 := below_after hb1
    clear hF hb1
    go_wp2
    exact bodyPost_ret (v := .agg #[.int .i64 f, .int .i64 0]) (by simp [results, Tryz.results12, go_sem, *]) rfl ⟨rfl, (hB1.setCell (by simp) _).setCell (by simp) _⟩
end U
end Go.Proofs.YtljbcpkjhnbpeaaGreatDoor

/- The sum of a part, by the model, is the one of mathematics. -/
namespace Go.Proofs.YtljbcpkjhnbpeaaGreatDoor
open Go.RowKit
namespace U
theorem cut_has {l : Prl} {n : Nat} {q : Int} : cut l (q * (2 ^ n : Nat)) (q * (2 ^ n : Nat) + (2 ^ n : Nat)) = [] ↔ ¬ has l n q := by
  rw [cut_part, List.filter_eq_nil_iff]
  unfold has
  constructor
  · rintro h ⟨p, hp, e⟩
    exact h p hp (decide_eq_true e)
  · intro h p hp e
    exact h ⟨p, hp, of_decide_eq_true e⟩
theorem nd_head {l : Prl} {q : Int} {p : Int × Int} {t : Prl} (h : cut l (q * (2 ^ 0 : Nat)) (q * (2 ^ 0 : Nat) + (2 ^ 0 : Nat)) = p :: t) : nd l 0 q = l3 p := by
  rw [cut_part] at h
  unfold nd
  have : l.find? (fun p => p.1 == q) = some p := by
    have e : l.find? (fun p => p.1 == q) = (l.filter fun p => decide (p.1 / (2 ^ 0 : Nat) = q)).head? := by
      rw [List.head?_filter]
      congr 1
      funext p
      rw [Nat.pow_zero, Int.natCast_one, Int.ediv_one]
      rfl
    rw [e, h]
    rfl
  rw [this]
theorem nd_half {l : Prl} {n : Nat} {q x : Int} (hx : x / 2 = q) : nd (cut l (q * (2 ^ (n + 1) : Nat)) (q * (2 ^ (n + 1) : Nat) + (2 ^ (n + 1) : Nat))) n x = nd l n x := by
  rw [cut_part]
  apply nd_local
  rw [List.filter_filter]
  congr 1
  funext p
  rw [div_succ]
  generalize p.1 / (2 ^ n : Nat) = y
  by_cases h1 : y = x
  · subst h1; simp [hx]
  · simp [h1]
theorem nd_two {l : Prl} {n : Nat} {q : Int} (h : has l (n + 1) q) : nd l (n + 1) q = t2 (nd (cut l (q * (2 ^ (n + 1) : Nat)) (q * (2 ^ (n + 1) : Nat) + (2 ^ (n + 1) : Nat))) n (2 * q)) (nd (cut l (q * (2 ^ (n + 1) : Nat)) (q * (2 ^ (n + 1) : Nat) + (2 ^ (n + 1) : Nat))) n (2 * q + 1)) := by
  rw [nd_succ, if_pos h, nd_half (by omega), nd_half (by omega)]
theorem cut_fine {l : Prl} {a b : Int} (h : ∀ p ∈ l, fine p = true) : ∀ p ∈ cut l a b, fine p = true := fun p hp => h p (cut_mem.1 hp).1
set_option maxRecDepth 100000 in
set_option maxHeartbeats 2000000 in
theorem l4Node_zero (v : Value) (l : Prl) (q : Int) (w : World) (hv : Prs w v l) (hl : l.length ≤ 1048576) (hf : ∀ p ∈ l, fine p = true) (hq : 0 ≤ q ∧ q + 1 ≤ 1024) :
    Calls Tryz.prog 133 #[v, .int .i64 q, .int .i64 0] w fun e w' => e = .returned (.int .i64 (nd l 0 q)) ∧ Below w.heap.size w w' := by
  have hC := fun w h => l4Cut_any v l q (q + 1) w h hl
  have HV : Hid (Prs w v l) := hv
  obtain ⟨ad, c, rfl⟩ := hv.shape
  have HF := cut_fine (a := q) (b := q + 1) hf
  have hE := fun w => l4Empty_any 0 w (by omega)
  have hN : cut l q (q + 1) = [] → nd l 0 q = emp 0 := fun h => nd_none (cut_has.1 (by simpa using h))
  have hP : ∀ p t, cut l q (q + 1) = p :: t → nd l 0 q = l3 p := fun p t h => nd_head (by simpa using h)
  generalize nd l 0 q = r at *
  generalize cut l q (q + 1) = m at *
  generalize l.length = n at *
  clear hv hf
  rcases m with _ | ⟨⟨x, y⟩, t⟩
  · have e0 := hN rfl
    subst e0
    simp only [List.length_nil] at hC
    generalize emp 0 = z at *
    clear hN hP HF
    go_enter Tryz.func133, Tryz.ntmps133
    go_wp2_with fail
    refine (hC _ HV.out).mono ?_
    rintro e w1 ⟨a1, c1, rfl, -, hb1⟩
    clear hC
    go_wp2_with fail
    refine (hE _).mono ?_
    rintro e w2 ⟨rfl, hb2⟩
    clear hE
    go_wp2
    go_ret
    exact ⟨rfl, below_after_of hb1 hb2⟩
  · have e0 := hP _ _ rfl
    subst e0
    have hfx := fine_bd (HF (x, y) (by simp))
    dsimp only at hfx
    have hT := fun w u hu => l2Tag2_any 3 x y u w (by omega) hu (by omega) hfx.2
    have e1 : sumL (tagL 3 [x, y]) = l3 (x, y) := rfl
    rw [e1] at hT
    generalize l3 (x, y) = z at *
    clear hN hP HF e1 hE
    go_enter Tryz.func133, Tryz.ntmps133
    go_wp2_with fail
    refine (hC _ HV.out).mono ?_
    rintro e w1 ⟨a1, c1, rfl, ho, hb1⟩
    obtain ⟨-, b, off, rfl, hb, hc⟩ := (own_prs ho).at (by simp)
    obtain ⟨g0, g1⟩ := hc 0 (by simp)
    simp only [pAt, List.getD_cons_zero, Nat.zero_mul, Nat.add_zero] at g0 g1
    simp only [List.length_cons] at *
    have HB1 : Hid (Below w.heap.size w w1) := hb1
    clear hC ho hc hb1
    have hlen : ¬ ((t.length + 1 : Nat) : Int) = 0 := by omega
    generalize t.length + 1 = k at *
    have hk0 : (0 : Int) < (k : Int) := by omega
    have hk1 : 0 < k := by omega
    go_wp2
    go_region_held3 (fun w' => w'.cell? ⟨b, off, none⟩ = some (.int .i64 x) ∧ w'.cell? ⟨b, off + 1, none⟩ = some (.int .i64 y)) (first | go_keep | exact ⟨(hbr.cell (p := ⟨b, off, none⟩) hb).trans g0, (hbr.cell (p := ⟨b, off + 1, none⟩) hb).trans g1⟩)
      (first | (go_at_call 157; refine (hT _ _ ((two_ints _ _ _ _).below ((Below.refl _ _).drew))).mono ?_; rintro e wq ⟨rfl, hbq⟩; have hbr : Below w1.heap.size w1 wq := below_after_of ((one_new _).drew) hbq; clear hbq))
    have HB2 := below_after_of HB1.out hbr
    go_wp2
    go_ret
    exact ⟨rfl, HB2⟩
theorem l4Node_0 (v : Value) (l : Prl) (f q : Int) (w : World) (hv : Prs w v l) (hl : l.length ≤ 1048576) (hf : ∀ p ∈ l, fine p = true) (HF : Hid (f = q * 1)) (hq : 0 ≤ f ∧ f + 1 ≤ 1024) :
    Calls Tryz.prog 133 #[v, .int .i64 f, .int .i64 0] w fun e w' => e = .returned (.int .i64 (nd l 0 q)) ∧ Below w.heap.size w w' := by
  have e := HF.out
  rw [Int.mul_one] at e
  subst e
  exact l4Node_zero v l f w hv hl hf hq
set_option maxRecDepth 100000 in
set_option maxHeartbeats 2000000 in
theorem l4Node_1 (v : Value) (l : Prl) (f q : Int) (w : World) (hv : Prs w v l) (hl : l.length ≤ 1048576) (hf : ∀ p ∈ l, fine p = true) (HF : Hid (f = q * 2)) (hq : 0 ≤ f ∧ f + 2 ≤ 1024) :
    Calls Tryz.prog 133 #[v, .int .i64 f, .int .i64 1] w fun e w' => e = .returned (.int .i64 (nd l 1 q)) ∧ Below w.heap.size w w' := by
  have hC := fun w h => l4Cut_any v l f (f + 2) w h hl
  have HV : Hid (Prs w v l) := hv
  obtain ⟨ad, c, rfl⟩ := hv.shape
  have HFN := cut_fine (a := f) (b := f + 2) hf
  have hE := fun w => l4Empty_any 1 w (by omega)
  have eS : ((2 ^ (0 + 1) : Nat) : Int) = 2 := rfl
  have hN : cut l f (f + 2) = [] → nd l 1 q = emp 1 := fun h => nd_none (n := 0 + 1) (cut_has.1 (by rw [eS, ← HF.out]; exact h))
  have hP : cut l f (f + 2) ≠ [] → nd l 1 q = t2 (nd (cut l f (f + 2)) 0 (2 * q)) (nd (cut l f (f + 2)) 0 (2 * q + 1)) := fun h => by
    have h2 := nd_two (l := l) (n := 0) (q := q) (Classical.byContradiction fun hn => h (by have := cut_has.2 hn; rw [eS, ← HF.out] at this; exact this))
    rw [eS, ← HF.out] at h2
    exact h2
  have hlm := cut_len l f (f + 2)
  generalize nd l 1 q = r at *
  generalize cut l f (f + 2) = m at *
  have hR1 := fun u w hu => l4Node_0 u m f (2 * q) w hu (by omega) HFN (by show _ = _; have := HF.out; omega) (by omega)
  have hR2 := fun u w hu => l4Node_0 u m (f + 1) (2 * q + 1) w hu (by omega) HFN (by show _ = _; have := HF.out; omega)
  have hd1 := nd_bd m 0 (2 * q)
  have hd2 := nd_bd m 0 (2 * q + 1)
  generalize nd m 0 (2 * q) = x at *
  generalize nd m 0 (2 * q + 1) = y at *
  generalize l.length = n at *
  clear hv hf HFN eS
  by_cases hm : m = []
  · have e0 := hN hm
    subst hm e0
    simp only [List.length_nil] at hC
    generalize emp 1 = z at *
    clear hN hP hR1 hR2
    go_enter Tryz.func133, Tryz.ntmps133
    go_wp2_with fail
    refine (hC _ HV.out).mono ?_
    rintro e w1 ⟨a1, c1, rfl, -, hb1⟩
    clear hC
    go_wp2_with fail
    refine (hE _).mono ?_
    rintro e w2 ⟨rfl, hb2⟩
    clear hE
    go_wp2
    go_ret
    exact ⟨rfl, below_after_of hb1 hb2⟩
  · have e0 := hP hm
    subst e0
    have hT := fun w u hu => l2Tag2_any 2 x y u w (by omega) hu hd1 hd2
    have e1 : sumL (tagL 2 [x, y]) = t2 x y := rfl
    rw [e1] at hT
    generalize t2 x y = z at *
    have hml : ¬ (m.length : Int) = 0 := fun h => hm (List.eq_nil_of_length_eq_zero (by omega))
    clear hN hP e1 hE hm
    go_enter Tryz.func133, Tryz.ntmps133
    go_wp2_with fail
    refine (hC _ HV.out).mono ?_
    rintro e w1 ⟨a1, c1, rfl, ho, hb1⟩
    have hP1 := own_prs ho
    have HP : Hid (∀ w', Below w1.heap.size w1 w' → Prs w' (.slice a1 m.length c1) m) := fun w' h => hP1.below h
    have HB1 : Hid (Below w.heap.size w w1) := hb1
    clear hC ho hb1 hP1
    generalize m.length = k at *
    go_wp2_with fail
    refine (hR1 _ _ (HP.out _ (Below.refl _ _))).mono ?_
    rintro e w2 ⟨rfl, hb2⟩
    clear hR1
    go_wp2_with fail
    refine (hR2 _ _ (HP.out _ hb2) (by omega)).mono ?_
    rintro e w3 ⟨rfl, hb3⟩
    have hb4 := below_after_of hb2 hb3
    clear hR2 hb2 hb3
    go_wp2_with fail
    refine (hT _ _ (two_ints _ _ _ _)).mono ?_
    rintro e w4 ⟨rfl, hb5⟩
    have hb6 := below_after_of HB1.out (below_after_of hb4 (below_after hb5))
    clear hT hb5
    go_wp2
    go_ret
    exact ⟨rfl, hb6⟩
set_option maxRecDepth 100000 in
set_option maxHeartbeats 2000000 in
theorem l4Node_2 (v : Value) (l : Prl) (f q : Int) (w : World) (hv : Prs w v l) (hl : l.length ≤ 1048576) (hf : ∀ p ∈ l, fine p = true) (HF : Hid (f = q * 4)) (hq : 0 ≤ f ∧ f + 4 ≤ 1024) :
    Calls Tryz.prog 133 #[v, .int .i64 f, .int .i64 2] w fun e w' => e = .returned (.int .i64 (nd l 2 q)) ∧ Below w.heap.size w w' := by
  have hC := fun w h => l4Cut_any v l f (f + 4) w h hl
  have HV : Hid (Prs w v l) := hv
  obtain ⟨ad, c, rfl⟩ := hv.shape
  have HFN := cut_fine (a := f) (b := f + 4) hf
  have hE := fun w => l4Empty_any 2 w (by omega)
  have eS : ((2 ^ (1 + 1) : Nat) : Int) = 4 := rfl
  have hN : cut l f (f + 4) = [] → nd l 2 q = emp 2 := fun h => nd_none (n := 1 + 1) (cut_has.1 (by rw [eS, ← HF.out]; exact h))
  have hP : cut l f (f + 4) ≠ [] → nd l 2 q = t2 (nd (cut l f (f + 4)) 1 (2 * q)) (nd (cut l f (f + 4)) 1 (2 * q + 1)) := fun h => by
    have h2 := nd_two (l := l) (n := 1) (q := q) (Classical.byContradiction fun hn => h (by have := cut_has.2 hn; rw [eS, ← HF.out] at this; exact this))
    rw [eS, ← HF.out] at h2
    exact h2
  have hlm := cut_len l f (f + 4)
  generalize nd l 2 q = r at *
  generalize cut l f (f + 4) = m at *
  have hR1 := fun u w hu => l4Node_1 u m f (2 * q) w hu (by omega) HFN (by show _ = _; have := HF.out; omega) (by omega)
  have hR2 := fun u w hu => l4Node_1 u m (f + 2) (2 * q + 1) w hu (by omega) HFN (by show _ = _; have := HF.out; omega)
  have hd1 := nd_bd m 1 (2 * q)
  have hd2 := nd_bd m 1 (2 * q + 1)
  generalize nd m 1 (2 * q) = x at *
  generalize nd m 1 (2 * q + 1) = y at *
  generalize l.length = n at *
  clear hv hf HFN eS
  by_cases hm : m = []
  · have e0 := hN hm
    subst hm e0
    simp only [List.length_nil] at hC
    generalize emp 2 = z at *
    clear hN hP hR1 hR2
    go_enter Tryz.func133, Tryz.ntmps133
    go_wp2_with fail
    refine (hC _ HV.out).mono ?_
    rintro e w1 ⟨a1, c1, rfl, -, hb1⟩
    clear hC
    go_wp2_with fail
    refine (hE _).mono ?_
    rintro e w2 ⟨rfl, hb2⟩
    clear hE
    go_wp2
    go_ret
    exact ⟨rfl, below_after_of hb1 hb2⟩
  · have e0 := hP hm
    subst e0
    have hT := fun w u hu => l2Tag2_any 2 x y u w (by omega) hu hd1 hd2
    have e1 : sumL (tagL 2 [x, y]) = t2 x y := rfl
    rw [e1] at hT
    generalize t2 x y = z at *
    have hml : ¬ (m.length : Int) = 0 := fun h => hm (List.eq_nil_of_length_eq_zero (by omega))
    clear hN hP e1 hE hm
    go_enter Tryz.func133, Tryz.ntmps133
    go_wp2_with fail
    refine (hC _ HV.out).mono ?_
    rintro e w1 ⟨a1, c1, rfl, ho, hb1⟩
    have hP1 := own_prs ho
    have HP : Hid (∀ w', Below w1.heap.size w1 w' → Prs w' (.slice a1 m.length c1) m) := fun w' h => hP1.below h
    have HB1 : Hid (Below w.heap.size w w1) := hb1
    clear hC ho hb1 hP1
    generalize m.length = k at *
    go_wp2_with fail
    refine (hR1 _ _ (HP.out _ (Below.refl _ _))).mono ?_
    rintro e w2 ⟨rfl, hb2⟩
    clear hR1
    go_wp2_with fail
    refine (hR2 _ _ (HP.out _ hb2) (by omega)).mono ?_
    rintro e w3 ⟨rfl, hb3⟩
    have hb4 := below_after_of hb2 hb3
    clear hR2 hb2 hb3
    go_wp2_with fail
    refine (hT _ _ (two_ints _ _ _ _)).mono ?_
    rintro e w4 ⟨rfl, hb5⟩
    have hb6 := below_after_of HB1.out (below_after_of hb4 (below_after hb5))
    clear hT hb5
    go_wp2
    go_ret
    exact ⟨rfl, hb6⟩
set_option maxRecDepth 100000 in
set_option maxHeartbeats 2000000 in
theorem l4Node_3 (v : Value) (l : Prl) (f q : Int) (w : World) (hv : Prs w v l) (hl : l.length ≤ 1048576) (hf : ∀ p ∈ l, fine p = true) (HF : Hid (f = q * 8)) (hq : 0 ≤ f ∧ f + 8 ≤ 1024) :
    Calls Tryz.prog 133 #[v, .int .i64 f, .int .i64 3] w fun e w' => e = .returned (.int .i64 (nd l 3 q)) ∧ Below w.heap.size w w' := by
  have hC := fun w h => l4Cut_any v l f (f + 8) w h hl
  have HV : Hid (Prs w v l) := hv
  obtain ⟨ad, c, rfl⟩ := hv.shape
  have HFN := cut_fine (a := f) (b := f + 8) hf
  have hE := fun w => l4Empty_any 3 w (by omega)
  have eS : ((2 ^ (2 + 1) : Nat) : Int) = 8 := rfl
  have hN : cut l f (f + 8) = [] → nd l 3 q = emp 3 := fun h => nd_none (n := 2 + 1) (cut_has.1 (by rw [eS, ← HF.out]; exact h))
  have hP : cut l f (f + 8) ≠ [] → nd l 3 q = t2 (nd (cut l f (f + 8)) 2 (2 * q)) (nd (cut l f (f + 8)) 2 (2 * q + 1)) := fun h => by
    have h2 := nd_two (l := l) (n := 2) (q := q) (Classical.byContradiction fun hn => h (by have := cut_has.2 hn; rw [eS, ← HF.out] at this; exact this))
    rw [eS, ← HF.out] at h2
    exact h2
  have hlm := cut_len l f (f + 8)
  generalize nd l 3 q = r at *
  generalize cut l f (f + 8) = m at *
  have hR1 := fun u w hu => l4Node_2 u m f (2 * q) w hu (by omega) HFN (by show _ = _; have := HF.out; omega) (by omega)
  have hR2 := fun u w hu => l4Node_2 u m (f + 4) (2 * q + 1) w hu (by omega) HFN (by show _ = _; have := HF.out; omega)
  have hd1 := nd_bd m 2 (2 * q)
  have hd2 := nd_bd m 2 (2 * q + 1)
  generalize nd m 2 (2 * q) = x at *
  generalize nd m 2 (2 * q + 1) = y at *
  generalize l.length = n at *
  clear hv hf HFN eS
  by_cases hm : m = []
  · have e0 := hN hm
    subst hm e0
    simp only [List.length_nil] at hC
    generalize emp 3 = z at *
    clear hN hP hR1 hR2
    go_enter Tryz.func133, Tryz.ntmps133
    go_wp2_with fail
    refine (hC _ HV.out).mono ?_
    rintro e w1 ⟨a1, c1, rfl, -, hb1⟩
    clear hC
    go_wp2_with fail
    refine (hE _).mono ?_
    rintro e w2 ⟨rfl, hb2⟩
    clear hE
    go_wp2
    go_ret
    exact ⟨rfl, below_after_of hb1 hb2⟩
  · have e0 := hP hm
    subst e0
    have hT := fun w u hu => l2Tag2_any 2 x y u w (by omega) hu hd1 hd2
    have e1 : sumL (tagL 2 [x, y]) = t2 x y := rfl
    rw [e1] at hT
    generalize t2 x y = z at *
    have hml : ¬ (m.length : Int) = 0 := fun h => hm (List.eq_nil_of_length_eq_zero (by omega))
    clear hN hP e1 hE hm
    go_enter Tryz.func133, Tryz.ntmps133
    go_wp2_with fail
    refine (hC _ HV.out).mono ?_
    rintro e w1 ⟨a1, c1, rfl, ho, hb1⟩
    have hP1 := own_prs ho
    have HP : Hid (∀ w', Below w1.heap.size w1 w' → Prs w' (.slice a1 m.length c1) m) := fun w' h => hP1.below h
    have HB1 : Hid (Below w.heap.size w w1) := hb1
    clear hC ho hb1 hP1
    generalize m.length = k at *
    go_wp2_with fail
    refine (hR1 _ _ (HP.out _ (Below.refl _ _))).mono ?_
    rintro e w2 ⟨rfl, hb2⟩
    clear hR1
    go_wp2_with fail
    refine (hR2 _ _ (HP.out _ hb2) (by omega)).mono ?_
    rintro e w3 ⟨rfl, hb3⟩
    have hb4 := below_after_of hb2 hb3
    clear hR2 hb2 hb3
    go_wp2_with fail
    refine (hT _ _ (two_ints _ _ _ _)).mono ?_
    rintro e w4 ⟨rfl, hb5⟩
    have hb6 := below_after_of HB1.out (below_after_of hb4 (below_after hb5))
    clear hT hb5
    go_wp2
    go_ret
    exact ⟨rfl, hb6⟩
set_option maxRecDepth 100000 in
set_option maxHeartbeats 2000000 in
theorem l4Node_4 (v : Value) (l : Prl) (f q : Int) (w : World) (hv : Prs w v l) (hl : l.length ≤ 1048576) (hf : ∀ p ∈ l, fine p = true) (HF : Hid (f = q * 16)) (hq : 0 ≤ f ∧ f + 16 ≤ 1024) :
    Calls Tryz.prog 133 #[v, .int .i64 f, .int .i64 4] w fun e w' => e = .returned (.int .i64 (nd l 4 q)) ∧ Below w.heap.size w w' := by
  have hC := fun w h => l4Cut_any v l f (f + 16) w h hl
  have HV : Hid (Prs w v l) := hv
  obtain ⟨ad, c, rfl⟩ := hv.shape
  have HFN := cut_fine (a := f) (b := f + 16) hf
  have hE := fun w => l4Empty_any 4 w (by omega)
  have eS : ((2 ^ (3 + 1) : Nat) : Int) = 16 := rfl
  have hN : cut l f (f + 16) = [] → nd l 4 q = emp 4 := fun h => nd_none (n := 3 + 1) (cut_has.1 (by rw [eS, ← HF.out]; exact h))
  have hP : cut l f (f + 16) ≠ [] → nd l 4 q = t2 (nd (cut l f (f + 16)) 3 (2 * q)) (nd (cut l f (f + 16)) 3 (2 * q + 1)) := fun h => by
    have h2 := nd_two (l := l) (n := 3) (q := q) (Classical.byContradiction fun hn => h (by have := cut_has.2 hn; rw [eS, ← HF.out] at this; exact this))
    rw [eS, ← HF.out] at h2
    exact h2
  have hlm := cut_len l f (f + 16)
  generalize nd l 4 q = r at *
  generalize cut l f (f + 16) = m at *
  have hR1 := fun u w hu => l4Node_3 u m f (2 * q) w hu (by omega) HFN (by show _ = _; have := HF.out; omega) (by omega)
  have hR2 := fun u w hu => l4Node_3 u m (f + 8) (2 * q + 1) w hu (by omega) HFN (by show _ = _; have := HF.out; omega)
  have hd1 := nd_bd m 3 (2 * q)
  have hd2 := nd_bd m 3 (2 * q + 1)
  generalize nd m 3 (2 * q) = x at *
  generalize nd m 3 (2 * q + 1) = y at *
  generalize l.length = n at *
  clear hv hf HFN eS
  by_cases hm : m = []
  · have e0 := hN hm
    subst hm e0
    simp only [List.length_nil] at hC
    generalize emp 4 = z at *
    clear hN hP hR1 hR2
    go_enter Tryz.func133, Tryz.ntmps133
    go_wp2_with fail
    refine (hC _ HV.out).mono ?_
    rintro e w1 ⟨a1, c1, rfl, -, hb1⟩
    clear hC
    go_wp2_with fail
    refine (hE _).mono ?_
    rintro e w2 ⟨rfl, hb2⟩
    clear hE
    go_wp2
    go_ret
    exact ⟨rfl, below_after_of hb1 hb2⟩
  · have e0 := hP hm
    subst e0
    have hT := fun w u hu => l2Tag2_any 2 x y u w (by omega) hu hd1 hd2
    have e1 : sumL (tagL 2 [x, y]) = t2 x y := rfl
    rw [e1] at hT
    generalize t2 x y = z at *
    have hml : ¬ (m.length : Int) = 0 := fun h => hm (List.eq_nil_of_length_eq_zero (by omega))
    clear hN hP e1 hE hm
    go_enter Tryz.func133, Tryz.ntmps133
    go_wp2_with fail
    refine (hC _ HV.out).mono ?_
    rintro e w1 ⟨a1, c1, rfl, ho, hb1⟩
    have hP1 := own_prs ho
    have HP : Hid (∀ w', Below w1.heap.size w1 w' → Prs w' (.slice a1 m.length c1) m) := fun w' h => hP1.below h
    have HB1 : Hid (Below w.heap.size w w1) := hb1
    clear hC ho hb1 hP1
    generalize m.length = k at *
    go_wp2_with fail
    refine (hR1 _ _ (HP.out _ (Below.refl _ _))).mono ?_
    rintro e w2 ⟨rfl, hb2⟩
    clear hR1
    go_wp2_with fail
    refine (hR2 _ _ (HP.out _ hb2) (by omega)).mono ?_
    rintro e w3 ⟨rfl, hb3⟩
    have hb4 := below_after_of hb2 hb3
    clear hR2 hb2 hb3
    go_wp2_with fail
    refine (hT _ _ (two_ints _ _ _ _)).mono ?_
    rintro e w4 ⟨rfl, hb5⟩
    have hb6 := below_after_of HB1.out (below_after_of hb4 (below_after hb5))
    clear hT hb5
    go_wp2
    go_ret
    exact ⟨rfl, hb6⟩
set_option maxRecDepth 100000 in
set_option maxHeartbeats 2000000 in
theorem l4Node_5 (v : Value) (l : Prl) (f q : Int) (w : World) (hv : Prs w v l) (hl : l.length ≤ 1048576) (hf : ∀ p ∈ l, fine p = true) (HF : Hid (f = q * 32)) (hq : 0 ≤ f ∧ f + 32 ≤ 1024) :
    Calls Tryz.prog 133 #[v, .int .i64 f, .int .i64 5] w fun e w' => e = .returned (.int .i64 (nd l 5 q)) ∧ Below w.heap.size w w' := by
  have hC := fun w h => l4Cut_any v l f (f + 32) w h hl
  have HV : Hid (Prs w v l) := hv
  obtain ⟨ad, c, rfl⟩ := hv.shape
  have HFN := cut_fine (a := f) (b := f + 32) hf
  have hE := fun w => l4Empty_any 5 w (by omega)
  have eS : ((2 ^ (4 + 1) : Nat) : Int) = 32 := rfl
  have hN : cut l f (f + 32) = [] → nd l 5 q = emp 5 := fun h => nd_none (n := 4 + 1) (cut_has.1 (by rw [eS, ← HF.out]; exact h))
  have hP : cut l f (f + 32) ≠ [] → nd l 5 q = t2 (nd (cut l f (f + 32)) 4 (2 * q)) (nd (cut l f (f + 32)) 4 (2 * q + 1)) := fun h => by
    have h2 := nd_two (l := l) (n := 4) (q := q) (Classical.byContradiction fun hn => h (by have := cut_has.2 hn; rw [eS, ← HF.out] at this; exact this))
    rw [eS, ← HF.out] at h2
    exact h2
  have hlm := cut_len l f (f + 32)
  generalize nd l 5 q = r at *
  generalize cut l f (f + 32) = m at *
  have hR1 := fun u w hu => l4Node_4 u m f (2 * q) w hu (by omega) HFN (by show _ = _; have := HF.out; omega) (by omega)
  have hR2 := fun u w hu => l4Node_4 u m (f + 16) (2 * q + 1) w hu (by omega) HFN (by show _ = _; have := HF.out; omega)
  have hd1 := nd_bd m 4 (2 * q)
  have hd2 := nd_bd m 4 (2 * q + 1)
  generalize nd m 4 (2 * q) = x at *
  generalize nd m 4 (2 * q + 1) = y at *
  generalize l.length = n at *
  clear hv hf HFN eS
  by_cases hm : m = []
  · have e0 := hN hm
    subst hm e0
    simp only [List.length_nil] at hC
    generalize emp 5 = z at *
    clear hN hP hR1 hR2
    go_enter Tryz.func133, Tryz.ntmps133
    go_wp2_with fail
    refine (hC _ HV.out).mono ?_
    rintro e w1 ⟨a1, c1, rfl, -, hb1⟩
    clear hC
    go_wp2_with fail
    refine (hE _).mono ?_
    rintro e w2 ⟨rfl, hb2⟩
    clear hE
    go_wp2
    go_ret
    exact ⟨rfl, below_after_of hb1 hb2⟩
  · have e0 := hP hm
    subst e0
    have hT := fun w u hu => l2Tag2_any 2 x y u w (by omega) hu hd1 hd2
    have e1 : sumL (tagL 2 [x, y]) = t2 x y := rfl
    rw [e1] at hT
    generalize t2 x y = z at *
    have hml : ¬ (m.length : Int) = 0 := fun h => hm (List.eq_nil_of_length_eq_zero (by omega))
    clear hN hP e1 hE hm
    go_enter Tryz.func133, Tryz.ntmps133
    go_wp2_with fail
    refine (hC _ HV.out).mono ?_
    rintro e w1 ⟨a1, c1, rfl, ho, hb1⟩
    have hP1 := own_prs ho
    have HP : Hid (∀ w', Below w1.heap.size w1 w' → Prs w' (.slice a1 m.length c1) m) := fun w' h => hP1.below h
    have HB1 : Hid (Below w.heap.size w w1) := hb1
    clear hC ho hb1 hP1
    generalize m.length = k at *
    go_wp2_with fail
    refine (hR1 _ _ (HP.out _ (Below.refl _ _))).mono ?_
    rintro e w2 ⟨rfl, hb2⟩
    clear hR1
    go_wp2_with fail
    refine (hR2 _ _ (HP.out _ hb2) (by omega)).mono ?_
    rintro e w3 ⟨rfl, hb3⟩
    have hb4 := below_after_of hb2 hb3
    clear hR2 hb2 hb3
    go_wp2_with fail
    refine (hT _ _ (two_ints _ _ _ _)).mono ?_
    rintro e w4 ⟨rfl, hb5⟩
    have hb6 := below_after_of HB1.out (below_after_of hb4 (below_after hb5))
    clear hT hb5
    go_wp2
    go_ret
    exact ⟨rfl, hb6⟩
set_option maxRecDepth 100000 in
set_option maxHeartbeats 2000000 in
theorem l4Node_6 (v : Value) (l : Prl) (f q : Int) (w : World) (hv : Prs w v l) (hl : l.length ≤ 1048576) (hf : ∀ p ∈ l, fine p = true) (HF : Hid (f = q * 64)) (hq : 0 ≤ f ∧ f + 64 ≤ 1024) :
    Calls Tryz.prog 133 #[v, .int .i64 f, .int .i64 6] w fun e w' => e = .returned (.int .i64 (nd l 6 q)) ∧ Below w.heap.size w w' := by
  have hC := fun w h => l4Cut_any v l f (f + 64) w h hl
  have HV : Hid (Prs w v l) := hv
  obtain ⟨ad, c, rfl⟩ := hv.shape
  have HFN := cut_fine (a := f) (b := f + 64) hf
  have hE := fun w => l4Empty_any 6 w (by omega)
  have eS : ((2 ^ (5 + 1) : Nat) : Int) = 64 := rfl
  have hN : cut l f (f + 64) = [] → nd l 6 q = emp 6 := fun h => nd_none (n := 5 + 1) (cut_has.1 (by rw [eS, ← HF.out]; exact h))
  have hP : cut l f (f + 64) ≠ [] → nd l 6 q = t2 (nd (cut l f (f + 64)) 5 (2 * q)) (nd (cut l f (f + 64)) 5 (2 * q + 1)) := fun h => by
    have h2 := nd_two (l := l) (n := 5) (q := q) (Classical.byContradiction fun hn => h (by have := cut_has.2 hn; rw [eS, ← HF.out] at this; exact this))
    rw [eS, ← HF.out] at h2
    exact h2
  have hlm := cut_len l f (f + 64)
  generalize nd l 6 q = r at *
  generalize cut l f (f + 64) = m at *
  have hR1 := fun u w hu => l4Node_5 u m f (2 * q) w hu (by omega) HFN (by show _ = _; have := HF.out; omega) (by omega)
  have hR2 := fun u w hu => l4Node_5 u m (f + 32) (2 * q + 1) w hu (by omega) HFN (by show _ = _; have := HF.out; omega)
  have hd1 := nd_bd m 5 (2 * q)
  have hd2 := nd_bd m 5 (2 * q + 1)
  generalize nd m 5 (2 * q) = x at *
  generalize nd m 5 (2 * q + 1) = y at *
  generalize l.length = n at *
  clear hv hf HFN eS
  by_cases hm : m = []
  · have e0 := hN hm
    subst hm e0
    simp only [List.length_nil] at hC
    generalize emp 6 = z at *
    clear hN hP hR1 hR2
    go_enter Tryz.func133, Tryz.ntmps133
    go_wp2_with fail
    refine (hC _ HV.out).mono ?_
    rintro e w1 ⟨a1, c1, rfl, -, hb1⟩
    clear hC
    go_wp2_with fail
    refine (hE _).mono ?_
    rintro e w2 ⟨rfl, hb2⟩
    clear hE
    go_wp2
    go_ret
    exact ⟨rfl, below_after_of hb1 hb2⟩
  · have e0 := hP hm
    subst e0
    have hT := fun w u hu => l2Tag2_any 2 x y u w (by omega) hu hd1 hd2
    have e1 : sumL (tagL 2 [x, y]) = t2 x y := rfl
    rw [e1] at hT
    generalize t2 x y = z at *
    have hml : ¬ (m.length : Int) = 0 := fun h => hm (List.eq_nil_of_length_eq_zero (by omega))
    clear hN hP e1 hE hm
    go_enter Tryz.func133, Tryz.ntmps133
    go_wp2_with fail
    refine (hC _ HV.out).mono ?_
    rintro e w1 ⟨a1, c1, rfl, ho, hb1⟩
    have hP1 := own_prs ho
    have HP : Hid (∀ w', Below w1.heap.size w1 w' → Prs w' (.slice a1 m.length c1) m) := fun w' h => hP1.below h
    have HB1 : Hid (Below w.heap.size w w1) := hb1
    clear hC ho hb1 hP1
    generalize m.length = k at *
    go_wp2_with fail
    refine (hR1 _ _ (HP.out _ (Below.refl _ _))).mono ?_
    rintro e w2 ⟨rfl, hb2⟩
    clear hR1
    go_wp2_with fail
    refine (hR2 _ _ (HP.out _ hb2) (by omega)).mono ?_
    rintro e w3 ⟨rfl, hb3⟩
    have hb4 := below_after_of hb2 hb3
    clear hR2 hb2 hb3
    go_wp2_with fail
    refine (hT _ _ (two_ints _ _ _ _)).mono ?_
    rintro e w4 ⟨rfl, hb5⟩
    have hb6 := below_after_of HB1.out (below_after_of hb4 (below_after hb5))
    clear hT hb5
    go_wp2
    go_ret
    exact ⟨rfl, hb6⟩
set_option maxRecDepth 100000 in
set_option maxHeartbeats 2000000 in
theorem l4Node_7 (v : Value) (l : Prl) (f q : Int) (w : World) (hv : Prs w v l) (hl : l.length ≤ 1048576) (hf : ∀ p ∈ l, fine p = true) (HF : Hid (f = q * 128)) (hq : 0 ≤ f ∧ f + 128 ≤ 1024) :
    Calls Tryz.prog 133 #[v, .int .i64 f, .int .i64 7] w fun e w' => e = .returned (.int .i64 (nd l 7 q)) ∧ Below w.heap.size w w' := by
  have hC := fun w h => l4Cut_any v l f (f + 128) w h hl
  have HV : Hid (Prs w v l) := hv
  obtain ⟨ad, c, rfl⟩ := hv.shape
  have HFN := cut_fine (a := f) (b := f + 128) hf
  have hE := fun w => l4Empty_any 7 w (by omega)
  have eS : ((2 ^ (6 + 1) : Nat) : Int) = 128 := rfl
  have hN : cut l f (f + 128) = [] → nd l 7 q = emp 7 := fun h => nd_none (n := 6 + 1) (cut_has.1 (by rw [eS, ← HF.out]; exact h))
  have hP : cut l f (f + 128) ≠ [] → nd l 7 q = t2 (nd (cut l f (f + 128)) 6 (2 * q)) (nd (cut l f (f + 128)) 6 (2 * q + 1)) := fun h => by
    have h2 := nd_two (l := l) (n := 6) (q := q) (Classical.byContradiction fun hn => h (by have := cut_has.2 hn; rw [eS, ← HF.out] at this; exact this))
    rw [eS, ← HF.out] at h2
    exact h2
  have hlm := cut_len l f (f + 128)
  generalize nd l 7 q = r at *
  generalize cut l f (f + 128) = m at *
  have hR1 := fun u w hu => l4Node_6 u m f (2 * q) w hu (by omega) HFN (by show _ = _; have := HF.out; omega) (by omega)
  have hR2 := fun u w hu => l4Node_6 u m (f + 64) (2 * q + 1) w hu (by omega) HFN (by show _ = _; have := HF.out; omega)
  have hd1 := nd_bd m 6 (2 * q)
  have hd2 := nd_bd m 6 (2 * q + 1)
  generalize nd m 6 (2 * q) = x at *
  generalize nd m 6 (2 * q + 1) = y at *
  generalize l.length = n at *
  clear hv hf HFN eS
  by_cases hm : m = []
  · have e0 := hN hm
    subst hm e0
    simp only [List.length_nil] at hC
    generalize emp 7 = z at *
    clear hN hP hR1 hR2
    go_enter Tryz.func133, Tryz.ntmps133
    go_wp2_with fail
    refine (hC _ HV.out).mono ?_
    rintro e w1 ⟨a1, c1, rfl, -, hb1⟩
    clear hC
    go_wp2_with fail
    refine (hE _).mono ?_
    rintro e w2 ⟨rfl, hb2⟩
    clear hE
    go_wp2
    go_ret
    exact ⟨rfl, below_after_of hb1 hb2⟩
  · have e0 := hP hm
    subst e0
    have hT := fun w u hu => l2Tag2_any 2 x y u w (by omega) hu hd1 hd2
    have e1 : sumL (tagL 2 [x, y]) = t2 x y := rfl
    rw [e1] at hT
    generalize t2 x y = z at *
    have hml : ¬ (m.length : Int) = 0 := fun h => hm (List.eq_nil_of_length_eq_zero (by omega))
    clear hN hP e1 hE hm
    go_enter Tryz.func133, Tryz.ntmps133
    go_wp2_with fail
    refine (hC _ HV.out).mono ?_
    rintro e w1 ⟨a1, c1, rfl, ho, hb1⟩
    have hP1 := own_prs ho
    have HP : Hid (∀ w', Below w1.heap.size w1 w' → Prs w' (.slice a1 m.length c1) m) := fun w' h => hP1.below h
    have HB1 : Hid (Below w.heap.size w w1) := hb1
    clear hC ho hb1 hP1
    generalize m.length = k at *
    go_wp2_with fail
    refine (hR1 _ _ (HP.out _ (Below.refl _ _))).mono ?_
    rintro e w2 ⟨rfl, hb2⟩
    clear hR1
    go_wp2_with fail
    refine (hR2 _ _ (HP.out _ hb2) (by omega)).mono ?_
    rintro e w3 ⟨rfl, hb3⟩
    have hb4 := below_after_of hb2 hb3
    clear hR2 hb2 hb3
    go_wp2_with fail
    refine (hT _ _ (two_ints _ _ _ _)).mono ?_
    rintro e w4 ⟨rfl, hb5⟩
    have hb6 := below_after_of HB1.out (below_after_of hb4 (below_after hb5))
    clear hT hb5
    go_wp2
    go_ret
    exact ⟨rfl, hb6⟩
set_option maxRecDepth 100000 in
set_option maxHeartbeats 2000000 in
theorem l4Node_8 (v : Value) (l : Prl) (f q : Int) (w : World) (hv : Prs w v l) (hl : l.length ≤ 1048576) (hf : ∀ p ∈ l, fine p = true) (HF : Hid (f = q * 256)) (hq : 0 ≤ f ∧ f + 256 ≤ 1024) :
    Calls Tryz.prog 133 #[v, .int .i64 f, .int .i64 8] w fun e w' => e = .returned (.int .i64 (nd l 8 q)) ∧ Below w.heap.size w w' := by
  have hC := fun w h => l4Cut_any v l f (f + 256) w h hl
  have HV : Hid (Prs w v l) := hv
  obtain ⟨ad, c, rfl⟩ := hv.shape
  have HFN := cut_fine (a := f) (b := f + 256) hf
  have hE := fun w => l4Empty_any 8 w (by omega)
  have eS : ((2 ^ (7 + 1) : Nat) : Int) = 256 := rfl
  have hN : cut l f (f + 256) = [] → nd l 8 q = emp 8 := fun h => nd_none (n := 7 + 1) (cut_has.1 (by rw [eS, ← HF.out]; exact h))
  have hP : cut l f (f + 256) ≠ [] → nd l 8 q = t2 (nd (cut l f (f + 256)) 7 (2 * q)) (nd (cut l f (f + 256)) 7 (2 * q + 1)) := fun h => by
    have h2 := nd_two (l := l) (n := 7) (q := q) (Classical.byContradiction fun hn => h (by have := cut_has.2 hn; rw [eS, ← HF.out] at this; exact this))
    rw [eS, ← HF.out] at h2
    exact h2
  have hlm := cut_len l f (f + 256)
  generalize nd l 8 q = r at *
  generalize cut l f (f + 256) = m at *
  have hR1 := fun u w hu => l4Node_7 u m f (2 * q) w hu (by omega) HFN (by show _ = _; have := HF.out; omega) (by omega)
  have hR2 := fun u w hu => l4Node_7 u m (f + 128) (2 * q + 1) w hu (by omega) HFN (by show _ = _; have := HF.out; omega)
  have hd1 := nd_bd m 7 (2 * q)
  have hd2 := nd_bd m 7 (2 * q + 1)
  generalize nd m 7 (2 * q) = x at *
  generalize nd m 7 (2 * q + 1) = y at *
  generalize l.length = n at *
  clear hv hf HFN eS
  by_cases hm : m = []
  · have e0 := hN hm
    subst hm e0
    simp only [List.length_nil] at hC
    generalize emp 8 = z at *
    clear hN hP hR1 hR2
    go_enter Tryz.func133, Tryz.ntmps133
    go_wp2_with fail
    refine (hC _ HV.out).mono ?_
    rintro e w1 ⟨a1, c1, rfl, -, hb1⟩
    clear hC
    go_wp2_with fail
    refine (hE _).mono ?_
    rintro e w2 ⟨rfl, hb2⟩
    clear hE
    go_wp2
    go_ret
    exact ⟨rfl, below_after_of hb1 hb2⟩
  · have e0 := hP hm
    subst e0
    have hT := fun w u hu => l2Tag2_any 2 x y u w (by omega) hu hd1 hd2
    have e1 : sumL (tagL 2 [x, y]) = t2 x y := rfl
    rw [e1] at hT
    generalize t2 x y = z at *
    have hml : ¬ (m.length : Int) = 0 := fun h => hm (List.eq_nil_of_length_eq_zero (by omega))
    clear hN hP e1 hE hm
    go_enter Tryz.func133, Tryz.ntmps133
    go_wp2_with fail
    refine (hC _ HV.out).mono ?_
    rintro e w1 ⟨a1, c1, rfl, ho, hb1⟩
    have hP1 := own_prs ho
    have HP : Hid (∀ w', Below w1.heap.size w1 w' → Prs w' (.slice a1 m.length c1) m) := fun w' h => hP1.below h
    have HB1 : Hid (Below w.heap.size w w1) := hb1
    clear hC ho hb1 hP1
    generalize m.length = k at *
    go_wp2_with fail
    refine (hR1 _ _ (HP.out _ (Below.refl _ _))).mono ?_
    rintro e w2 ⟨rfl, hb2⟩
    clear hR1
    go_wp2_with fail
    refine (hR2 _ _ (HP.out _ hb2) (by omega)).mono ?_
    rintro e w3 ⟨rfl, hb3⟩
    have hb4 := below_after_of hb2 hb3
    clear hR2 hb2 hb3
    go_wp2_with fail
    refine (hT _ _ (two_ints _ _ _ _)).mono ?_
    rintro e w4 ⟨rfl, hb5⟩
    have hb6 := below_after_of HB1.out (below_after_of hb4 (below_after hb5))
    clear hT hb5
    go_wp2
    go_ret
    exact ⟨rfl, hb6⟩
end U
end Go.Proofs.YtljbcpkjhnbpeaaGreatDoor

/- The array of the sums of what is empty, as the program makes it; EmptySum. -/
namespace Go.Proofs.YtljbcpkjhnbpeaaGreatDoor
open Go.RowKit
namespace U
/-- Nine numbers in a block. -/
structure ArrAt (w : World) (g : Nat) (f : Nat → Int) : Prop where
  c : ∀ j, j < 9 → w.cell? ⟨g, j, none⟩ = some (.int .i64 (f j))
  z : ∀ j, j < 9 → w.frozen? ⟨g, j, none⟩ = false
def arrA (f : Nat → Int) : Array Value := #[.int .i64 (f 0), .int .i64 (f 1), .int .i64 (f 2), .int .i64 (f 3), .int .i64 (f 4), .int .i64 (f 5), .int .i64 (f 6), .int .i64 (f 7), .int .i64 (f 8)]
theorem lt9 {j : Nat} (h : j < 9) : j = 0 ∨ j = 1 ∨ j = 2 ∨ j = 3 ∨ j = 4 ∨ j = 5 ∨ j = 6 ∨ j = 7 ∨ j = 8 := by omega
theorem ArrAt.of {w : World} {g : Nat} {f : Nat → Int} {t : TypeId} (h : w.heap[g]? = some (.cells (arrA f) t)) : ArrAt w g f := by
  constructor
  · intro j hj
    rcases lt9 hj with rfl | rfl | rfl | rfl | rfl | rfl | rfl | rfl | rfl <;> (unfold World.cell?; rw [h]; rfl)
  · intro j hj
    rcases lt9 hj with rfl | rfl | rfl | rfl | rfl | rfl | rfl | rfl | rfl <;> (unfold World.frozen?; rw [h]; rfl)
theorem ArrAt.below {w w' : World} {g B : Nat} {f : Nat → Int} (h : ArrAt w g f) (hb : Below B w w') (hg : g < B) : ArrAt w' g f :=
  ⟨fun j hj => (hb.cell (p := ⟨g, j, none⟩) hg).trans (h.c j hj), fun j hj => (hb.frozen (p := ⟨g, j, none⟩) hg).trans (h.z j hj)⟩
theorem ArrAt.set {w : World} {g k : Nat} {f : Nat → Int} (h : ArrAt w g f) (hk : k < 9) (x : Int) : ArrAt (w.setCell ⟨g, k, none⟩ (.int .i64 x)) g (fun j => if j = k then x else f j) := by
  refine ⟨fun j hj => ?_, fun j hj => (World.frozen?_setCell _ _ _ _).trans (h.z j hj)⟩
  by_cases e : j = k
  · subst e
    rw [if_pos rfl]
    exact World.cell?_setCell_same _ _ _ (h.c j hj)
  · rw [if_neg e]
    exact (World.cell?_setCell_other _ _ _ _ (by simp)).trans (h.c j hj)
theorem ArrAt.other {w : World} {g k b : Nat} {f : Nat → Int} (h : ArrAt w g f) (hb : b ≠ g) (x : Value) : ArrAt (w.setCell ⟨b, k, none⟩ x) g f :=
  ⟨fun j hj => (World.cell?_setCell_other _ _ _ _ (by simp)).trans (h.c j hj), fun j hj => (World.frozen?_setCell _ _ _ _).trans (h.z j hj)⟩
theorem ArrAt.cells {w : World} {g : Nat} {f : Nat → Int} (h : ArrAt w g f) : w.cell? ⟨g, 0, none⟩ = some (.int .i64 (f 0)) ∧ w.cell? ⟨g, 1, none⟩ = some (.int .i64 (f 1)) ∧ w.cell? ⟨g, 2, none⟩ = some (.int .i64 (f 2)) ∧ w.cell? ⟨g, 3, none⟩ = some (.int .i64 (f 3)) ∧ w.cell? ⟨g, 4, none⟩ = some (.int .i64 (f 4)) ∧ w.cell? ⟨g, 5, none⟩ = some (.int .i64 (f 5)) ∧ w.cell? ⟨g, 6, none⟩ = some (.int .i64 (f 6)) ∧ w.cell? ⟨g, 7, none⟩ = some (.int .i64 (f 7)) ∧ w.cell? ⟨g, 8, none⟩ = some (.int .i64 (f 8)) :=
  ⟨h.c 0 (by omega), h.c 1 (by omega), h.c 2 (by omega), h.c 3 (by omega), h.c 4 (by omega), h.c 5 (by omega), h.c 6 (by omega), h.c 7 (by omega), h.c 8 (by omega)⟩
theorem ArrAt.froz {w : World} {g : Nat} {f : Nat → Int} (h : ArrAt w g f) : w.frozen? ⟨g, 0, none⟩ = false ∧ w.frozen? ⟨g, 1, none⟩ = false ∧ w.frozen? ⟨g, 2, none⟩ = false ∧ w.frozen? ⟨g, 3, none⟩ = false ∧ w.frozen? ⟨g, 4, none⟩ = false ∧ w.frozen? ⟨g, 5, none⟩ = false ∧ w.frozen? ⟨g, 6, none⟩ = false ∧ w.frozen? ⟨g, 7, none⟩ = false ∧ w.frozen? ⟨g, 8, none⟩ = false :=
  ⟨h.z 0 (by omega), h.z 1 (by omega), h.z 2 (by omega), h.z 3 (by omega), h.z 4 (by omega), h.z 5 (by omega), h.z 6 (by omega), h.z 7 (by omega), h.z 8 (by omega)⟩
theorem ArrAt.congr {w : World} {g : Nat} {f f' : Nat → Int} (h : ArrAt w g f) (e : ∀ j, j < 9 → f j = f' j) : ArrAt w g f' := ⟨fun j hj => by rw [← e j hj]; exact h.c j hj, h.z⟩
/-- The sums up to a level, zero behind it. -/
def pre (k j : Nat) : Int := if j ≤ k then emp j else 0
set_option maxRecDepth 100000 in
set_option maxHeartbeats 4000000 in
theorem emptySums_any (w : World) :
    Calls Tryz.prog 128 #[] w fun e w' => e = .returned (.agg (arrA emp)) ∧ Below w.heap.size w w' := by
  have hS := fun w => implSumOf_any (.slice none 0 0) [] w (Or.inl ⟨rfl, _, _, rfl⟩) (fun b hb => by cases hb) (by simp)
  have e0 : smC [] = 0 ∧ smV [] = 13 := ⟨rfl, rfl⟩
  rw [e0.1, e0.2] at hS
  have kf := fun w => field_IR1 0 13 w
  clear e0
  go_enter Tryz.func128, Tryz.ntmps128
  go_wp2_with fail
  refine (hS _).mono ?_
  rintro e w1 ⟨rfl, hb1⟩
  have Z1 : ArrAt w1 w.heap.size (fun _ => 0) := ArrAt.of (f := fun _ => 0) ((hb1.block w.heap.size (by simp)).trans (heap_alloc_new w _))
  have hB1 := below_after hb1
  have hsz1 : w.heap.size < w1.heap.size := by have := hb1.size; simp at this; omega
  clear hS hb1
  go_wp2_with fail
  have A1 : ArrAt (w1.alloc (.cells (arrA (pre 0)) 176)) w1.heap.size (pre 0) := ArrAt.of (heap_alloc_new _ _)
  have Z2 : ArrAt (w1.alloc (.cells (arrA (pre 0)) 176)) w.heap.size (fun _ => 0) := Z1.below (one_new _) hsz1
  have hB2 : Below w.heap.size w (w1.alloc (.cells (arrA (pre 0)) 176)) := hB1.alloc (Nat.le_of_lt hsz1) _
  have HA1 : Hid (ArrAt (w1.alloc (.cells (arrA (pre 0)) 176)) w1.heap.size (pre 0)) := A1
  have HZ2 : Hid (ArrAt (w1.alloc (.cells (arrA (pre 0)) 176)) w.heap.size (fun _ => 0)) := Z2
  have HB2 : Hid (Below w.heap.size w (w1.alloc (.cells (arrA (pre 0)) 176))) := hB2
  clear A1 Z2 hB2 Z1 hB1 kf
  go_loopw [6] (fun i wr => ∃ k : Nat, k ≤ 8 ∧ i = .int .i64 k ∧ w1.heap.size < wr.heap.size ∧ Hid (Below w.heap.size w wr) ∧ Hid (ArrAt wr w1.heap.size (pre k)) ∧ Hid (ArrAt wr w.heap.size (fun _ => 0))) (fun i _ => 8 - (intOf i).toNat)
  case atStart => exact ⟨0, by omega, rfl, by simp, HB2, HA1, HZ2⟩
  case round =>
    obtain ⟨k, hk, rfl, hsz, HB, HA, HZ⟩ := hrel
    by_cases hk8 : k < 8
    · have hki : (k : Int) < 8 := by omega
      have ck := HA.out.c k (by omega)
      have e1 : pre k k = emp k := by unfold pre; rw [if_pos (Nat.le_refl _)]
      rw [e1] at ck
      have hbd := emp_bd k
      have HE : Hid (∀ j, j < 9 → (fun j => if j = k + 1 then t2 (emp k) (emp k) else pre k j) j = pre (k + 1) j) := fun j hj => by
        show (if j = k + 1 then t2 (emp k) (emp k) else pre k j) = pre (k + 1) j
        unfold pre
        by_cases e : j = k + 1
        · subst e
          rw [if_pos rfl, if_pos (Nat.le_refl _)]
          rfl
        · rw [if_neg e]
          by_cases e2 : j ≤ k
          · rw [if_pos e2, if_pos (by omega)]
          · rw [if_neg e2, if_neg (by omega)]
      have hP := fun w => pairSum_any (emp k) (emp k) w hbd hbd
      generalize t2 (emp k) (emp k) = y at *
      generalize emp k = x at *
      have hmk : Hid (∀ w', Below wr.heap.size wr w' → ArrAt w' w1.heap.size (pre k)) := fun w' h => HA.out.below h hsz
      clear e1
      have hk0 : (0 : Int) ≤ (k : Int) := by omega
      have hk9 : (k : Int) < 9 := by omega
      have hk10 : (0 : Int) ≤ (k : Int) + 1 := by omega
      have hk11 : (k : Int) + 1 < 9 := by omega
      have hkw : IntKind.i64.wrap ((k : Int) + 1) = (k : Int) + 1 := by rw [IntKind.wrap_i64]; omega
      go_wp2
      go_region_held3 (fun w' => w'.cell? ⟨w1.heap.size, k, none⟩ = some (.int .i64 x))
        (first | exact ck | exact (hbr.cell (p := ⟨w1.heap.size, k, none⟩) hsz).trans ck | exact (World.cell?_setCell_other _ _ _ _ (by simp)).trans ((hbr.cell (p := ⟨w1.heap.size, k, none⟩) hsz).trans ck))
        (first | (go_at_call 173; refine (hP _).mono ?_; rintro e wq ⟨rfl, hbq⟩; have hbr : Below wr.heap.size wr wq := below_after_of (Below.refl _ _).drew hbq; have hk1 := (hmk.out _ hbr).c (k + 1) (by omega); have hz1 := (hmk.out _ hbr).z (k + 1) (by omega); clear hbq))
      have hbs : Below w.heap.size w (wq.setCell ⟨w1.heap.size, k + 1, none⟩ (.int .i64 y)) := (below_after_of HB.out hbr).setCell (Nat.le_of_lt hsz1) _
      have hA2 := ((hmk.out _ hbr).set (k := k + 1) (by omega) y).congr HE.out
      have hZ2 := (HZ.out.below hbr (by omega)).other (k := k + 1) (b := w1.heap.size) (by omega) (.int .i64 y)
      have hsz2 := hbr.size
      have HHB : Hid (Below w.heap.size w (wq.setCell ⟨w1.heap.size, k + 1, none⟩ (.int .i64 y))) := hbs
      have HHA : Hid (ArrAt (wq.setCell ⟨w1.heap.size, k + 1, none⟩ (.int .i64 y)) w1.heap.size (pre (k + 1))) := hA2
      have HHZ : Hid (ArrAt (wq.setCell ⟨w1.heap.size, k + 1, none⟩ (.int .i64 y)) w.heap.size (fun _ => 0)) := hZ2
      clear hbs hA2 hZ2 hmk hP hbr hk1 hz1 ck
      go_wp2
      go_roundw
      case rel => exact ⟨k + 1, by omega, by go_num, by simp; omega, HHB, HHA, HHZ⟩
      case measure => simp [intOf]; omega
    · have hk8 : k = 8 := by omega
      have hki : ¬ (k : Int) < 8 := by omega
      obtain ⟨c0, c1, c2, c3, c4, c5, c6, c7, c8⟩ := (HA.out.congr (f' := emp) (fun j hj => by unfold pre; rw [if_pos (by omega)])).cells
      obtain ⟨d0, d1, d2, d3, d4, d5, d6, d7, d8⟩ := HZ.out.cells
      obtain ⟨z0, z1, z2, z3, z4, z5, z6, z7, z8⟩ := HZ.out.froz
      clear hk8
      go_wp2
      have hB := HB.out
      exact bodyPost_ret (v := .agg (arrA emp)) (by simp [results, Tryz.results128, go_sem, arrA, d0, d1, d2, d3, d4, d5, d6, d7, d8]) rfl ⟨rfl, ((((((((hB.setCell (Nat.le_refl _) _).setCell (Nat.le_refl _) _).setCell (Nat.le_refl _) _).setCell (Nat.le_refl _) _).setCell (Nat.le_refl _) _).setCell (Nat.le_refl _) _).setCell (Nat.le_refl _) _).setCell (Nat.le_refl _) _).setCell (Nat.le_refl _) _⟩
theorem index_arr (f : Nat → Int) (k : Nat) (hk : k < 9) (w : World) : (Instr.index 176 (.agg (arrA f)) (.int .i64 (k : Int))).run Tryz.prog w = .ok (.int .i64 (f k)) w := by
  rcases lt9 hk with rfl | rfl | rfl | rfl | rfl | rfl | rfl | rfl | rfl <;> kernel_rfl
end U
end Go.Proofs.YtljbcpkjhnbpeaaGreatDoor

/- Rows of sums, as the program makes them. -/
namespace Go.Proofs.YtljbcpkjhnbpeaaGreatDoor
open Go.RowKit
namespace U
theorem Tryz.infoPl : (Tryz.prog.info? 237).map (fun i => (i.zero, i.size, i.bytes)) = some (some (.agg #[.int .i64 0, .int .i64 0]), 2, 16) := by kernel_rfl
/-- The leaves of the first slots. -/
def leaves (l : Prl) (k : Nat) : Prl := (l.take k).map fun p => (p.1, l3 p)
theorem leaves_zero (l : Prl) : leaves l 0 = [] := rfl
theorem leaves_all (l : Prl) : leaves l l.length = rows l 0 := by unfold leaves rows; rw [List.take_length]
theorem leaves_succ {l : Prl} {k : Nat} (h : k < l.length) : leaves l (k + 1) = leaves l k ++ [((pAt l k).1, l3 (pAt l k))] := by
  unfold leaves
  rw [takeP h, List.map_append]
  rfl
theorem leaves_len {l : Prl} {k : Nat} (h : k ≤ l.length) : (leaves l k).length = k := by unfold leaves; rw [List.length_map, List.length_take]; omega
set_option maxRecDepth 100000 in
set_option maxHeartbeats 2000000 in
theorem leafRow_any (v : Value) (l : Prl) (w : World) (hv : Prs w v l) (hn : l.length ≤ 12) (hf : ∀ p ∈ l, fine p = true) :
    Calls Tryz.prog 171 #[v] w fun e w' => ∃ v', e = .returned v' ∧ w'.ownsRow w.heap.size 237 2 v' (rows l 0).length ((fl (rows l 0)).map (Value.int .i64)) ∧ Below w.heap.size w w' := by
  obtain ⟨i0, hi, hz0, hz1, hz2⟩ := info_parts Tryz.infoPl
  have HV : Hid (Prs w v l) := hv
  obtain ⟨ad, c, rfl⟩ := hv.shape
  obtain ⟨n, hnl⟩ : ∃ n, n = l.length := ⟨_, rfl⟩
  have HN : Hid (n = l.length) := hnl
  have HF : Hid (∀ p ∈ l, fine p = true) := hf
  rw [← hnl] at hn HV ⊢
  clear hv hnl hf
  go_enter Tryz.func171, Tryz.ntmps171
  go_wp2
  go_loopw [3, 9] (fun u i wr => ∃ k : Nat, k ≤ n ∧ i = .int .i64 k ∧ Hid (Below w.heap.size w wr) ∧ Hid (wr.ownsRow w.heap.size 237 2 u (leaves l k).length ((fl (leaves l k)).map (Value.int .i64)))) (fun _ i _ => n - (intOf i).toNat)
  case atStart => exact ⟨0, Nat.zero_le _, rfl, Below.refl _ _, World.ownsRow_nil _ _ _ _⟩
  case round =>
    obtain ⟨k, hk, rfl, hB, ho⟩ := hrel
    obtain ⟨a', c', rfl⟩ := own_shape2 ho.out
    by_cases hkn : k < n
    · have hki : (k : Int) < (n : Int) := by omega
      have hkl : k < l.length := by have := HN.out; omega
      obtain ⟨-, bk, off, rfl, hbk, hc⟩ := HV.out.at (by omega)
      have hc1 := (hB.out.cell (p := ⟨bk, off + k * 2, none⟩) hbk).trans (hc k hkl).1
      have hc2 := (hB.out.cell (p := ⟨bk, off + k * 2 + 1, none⟩) hbk).trans (hc k hkl).2
      have hfx := fine_bd (HF.out (pAt l k) (by rw [pAt_eq hkl]; exact List.getElem_mem _))
      have hS := leaves_succ hkl
      have hlen : (leaves l k).length ≤ 12 := by rw [leaves_len (Nat.le_of_lt hkl)]; omega
      have hp := pair_tag (tag := 3) (by omega) (a := (pAt l k).1) (b := (pAt l k).2) (by omega) hfx.2
      have e0 : sumL (tagL 3 [(pAt l k).1, (pAt l k).2]) = l3 (pAt l k) := rfl
      rw [e0] at hp
      have hT := fun v w hv => implTagSum_any 3 v [(pAt l k).1, (pAt l k).2] w hv (by simp)
      rw [hp.1, hp.2] at hT
      generalize l3 (pAt l k) = z at *
      generalize (pAt l k).1 = x at *
      generalize (pAt l k).2 = y at *
      have HS : Hid (leaves l (k + 1) = leaves l k ++ [(x, z)]) := hS
      generalize leaves l k = m at *
      have kf := fun w => field_IR1 0 z w
      have hbs : bk < wr.heap.size := Nat.lt_of_lt_of_le hbk hB.out.size
      clear hc hfx hp e0 hS
      go_wp2_with fail
      refine (hT _ _ (two_ints_at (by simp))).mono ?_
      rintro e w1 ⟨rfl, hb1⟩
      clear hT
      have hb1' := below_after hb1
      obtain ⟨g0, g1, -, -⟩ := two_cellsV ((hb1'.block wr.heap.size (by simp)).trans (heap_alloc_new wr _))
      have hB1 := below_after_of (hB.out.alloc hB.out.size _) hb1'
      have ho1 := own_below (ho.out.alloc _) hb1'
      have hsz : wr.heap.size < w1.heap.size := by have := hb1'.size; simp at this; omega
      have hwz := hB1.size
      clear hb1 hb1' ho hc1 hc2
      go_wp2_with (at_builtin; refine wpList_append_own _ rfl _ _ 233 rfl w.heap.size 237 i0 (.agg #[.int .i64 0, .int .i64 0]) 2 16 Tryz.underlying233 hi hz0 hz1 hz2 rfl (by decide) _ _ _ rfl (ho1.alloc _) ⟨w1.heap.size, 0, none⟩ 1 1 [.int .i64 x, .int .i64 z] rfl rfl (World.news_of_block (heap_alloc_new _ _)) (ints_oneCell .i64 [x, z]) (by unfold maxLen; omega) (by omega) (by simp; omega) ?_)
      intro v' w2 hown' hgrow _
      have hb2 : Below w.heap.size w w2 := (hB1.alloc (by omega) _).grown hgrow (by simp; omega) (fun k hk => (ho1.lt k hk).1)
      have own2 := own_snoc hown'
      clear hgrow hown' ho1
      go_wp2
      go_roundw
      case rel => exact ⟨k + 1, by omega, by go_num, hb2, by rw [HS.out]; exact own2⟩
      case measure => simp [intOf]; omega
    · have hkn : k = n := by omega
      subst hkn
      have e1 : leaves l k = rows l 0 := by rw [HN.out]; exact leaves_all _
      rw [e1] at ho ⊢
      go_wp2
      go_ret
      exact ⟨_, rfl, ho.out, hB.out⟩
/-- The sum above the first one of a row, and how many are in it. -/
def fp (e : Int) : Prl → Int × Nat
  | [] => (0, 1)
  | [(q, s)] => (if q % 2 = 1 then t2 e s else t2 s e, 1)
  | (q, s) :: (q', s') :: _ => if q % 2 = 1 then (t2 e s, 1) else if q' = q + 1 then (t2 s s', 2) else (t2 s e, 1)
theorem abv_fp (e : Int) {r : Prl} (h : 0 < r.length) : abv e r = ((pAt r 0).1 / 2, (fp e r).1) :: abv e (r.drop (fp e r).2) ∧ 1 ≤ (fp e r).2 ∧ (fp e r).2 ≤ r.length := by
  match r, h with
  | [(q, s)], _ => refine ⟨?_, by simp [fp], by simp [fp]⟩; simp [abv, fp, pAt]
  | (q, s) :: (q', s') :: t, _ =>
    by_cases h1 : q % 2 = 1
    · have e1 : fp e ((q, s) :: (q', s') :: t) = (t2 e s, 1) := by simp [fp, h1]
      rw [e1]
      refine ⟨?_, by simp, by simp⟩
      rw [abv, if_pos h1]
      simp [pAt]
    · by_cases h2 : q' = q + 1
      · have e1 : fp e ((q, s) :: (q', s') :: t) = (t2 s s', 2) := by simp [fp, h1, h2]
        rw [e1]
        refine ⟨?_, by simp, by simp⟩
        rw [abv, if_neg h1, if_pos h2]
        simp [pAt]
      · have e1 : fp e ((q, s) :: (q', s') :: t) = (t2 s e, 1) := by simp [fp, h1, h2]
        rw [e1]
        refine ⟨?_, by simp, by simp⟩
        rw [abv, if_neg h1, if_neg h2]
        simp [pAt]
theorem fp_odd (e : Int) {r : Prl} (h : 0 < r.length) (h1 : (pAt r 0).1 % 2 = 1) : fp e r = (t2 e (pAt r 0).2, 1) := by
  match r, h with
  | [(q, s)], _ => simp [pAt] at h1; simp [fp, pAt, h1]
  | (q, s) :: (q', s') :: t, _ => simp [pAt] at h1; simp [fp, pAt, h1]
theorem fp_pair (e : Int) {r : Prl} (h : 1 < r.length) (h1 : ¬ (pAt r 0).1 % 2 = 1) (h2 : (pAt r 1).1 = (pAt r 0).1 + 1) : fp e r = (t2 (pAt r 0).2 (pAt r 1).2, 2) := by
  match r, h with
  | (q, s) :: (q', s') :: t, _ => simp [pAt] at h1 h2; simp [fp, pAt, h1, h2]
theorem fp_one (e : Int) {r : Prl} (h : 0 < r.length) (h1 : ¬ (pAt r 0).1 % 2 = 1) (h2 : ¬ (1 < r.length ∧ (pAt r 1).1 = (pAt r 0).1 + 1)) : fp e r = (t2 (pAt r 0).2 e, 1) := by
  match r, h with
  | [(q, s)], _ => simp [pAt] at h1; simp [fp, pAt, h1]
  | (q, s) :: (q', s') :: t, _ => simp [pAt] at h1 h2; simp [fp, pAt, h1, h2]
end U
end Go.Proofs.YtljbcpkjhnbpeaaGreatDoor

/- The row above a row, as the program makes it. -/
namespace Go.Proofs.YtljbcpkjhnbpeaaGreatDoor
open Go.RowKit
namespace U
/-- Places and sums that are so. -/
def Pls (r : Prl) : Prop := ∀ p ∈ r, (0 ≤ p.1 ∧ p.1 ≤ 255) ∧ 0 ≤ p.2 ∧ p.2 ≤ 65520
theorem Pls.at {r : Prl} (h : Pls r) {k : Nat} (hk : k < r.length) : (0 ≤ (pAt r k).1 ∧ (pAt r k).1 ≤ 255) ∧ 0 ≤ (pAt r k).2 ∧ (pAt r k).2 ≤ 65520 := by
  rw [pAt_eq hk]; exact h _ (List.getElem_mem _)
set_option maxRecDepth 100000 in
set_option maxHeartbeats 4000000 in
theorem firstPair_any (b off c n : Nat) (r : Prl) (e : Int) (w : World) (HN : Hid (n = r.length)) (hn0 : 0 < n) (hn : n ≤ 12) (hb : b < w.heap.size) (he : 0 ≤ e ∧ e ≤ 65520) (HR : Hid (Pls r))
    (hc : ∀ j, j < n → w.cell? ⟨b, off + j * 2, none⟩ = some (.int .i64 (pAt r j).1) ∧ w.cell? ⟨b, off + j * 2 + 1, none⟩ = some (.int .i64 (pAt r j).2)) :
    Calls Tryz.prog 190 #[.slice (some ⟨b, off, none⟩) n c, .int .i64 e] w fun en w' => en = .returned (.tuple #[.int .i64 (fp e r).1, .int .i64 (fp e r).2]) ∧ Below w.heap.size w w' := by
  have hr0 : 0 < r.length := by have := HN.out; omega
  obtain ⟨c0, d0⟩ := hc 0 hn0
  simp only [Nat.zero_mul, Nat.add_zero] at c0 d0
  have hb0 := HR.out.at hr0
  have hni : (0 : Int) < (n : Int) := by omega
  have h1i : ∀ h : 1 < n, 1 < r.length := fun h => by have := HN.out; omega
  have HO : Hid ((pAt r 0).1 % 2 = 1 → fp e r = (t2 e (pAt r 0).2, 1)) := fp_odd e hr0
  have HP : Hid (1 < n → ¬ (pAt r 0).1 % 2 = 1 → (pAt r 1).1 = (pAt r 0).1 + 1 → fp e r = (t2 (pAt r 0).2 (pAt r 1).2, 2)) := fun h => fp_pair e (h1i h)
  have HU : Hid (¬ (pAt r 0).1 % 2 = 1 → ¬ (1 < n ∧ (pAt r 1).1 = (pAt r 0).1 + 1) → fp e r = (t2 (pAt r 0).2 e, 1)) := fun h h2 => fp_one e hr0 h (by have := HN.out; intro hh; exact h2 ⟨by omega, hh.2⟩)
  have HC1 : Hid (1 < n → w.cell? ⟨b, off + 1 * 2, none⟩ = some (.int .i64 (pAt r 1).1) ∧ w.cell? ⟨b, off + 1 * 2 + 1, none⟩ = some (.int .i64 (pAt r 1).2)) := hc 1
  have HB1 : Hid (1 < n → (0 ≤ (pAt r 1).1 ∧ (pAt r 1).1 ≤ 255) ∧ 0 ≤ (pAt r 1).2 ∧ (pAt r 1).2 ≤ 65520) := fun h => HR.out.at (h1i h)
  generalize fp e r = F at *
  generalize (pAt r 0).1 = q at *
  generalize (pAt r 0).2 = s at *
  generalize (pAt r 1).1 = q' at *
  generalize (pAt r 1).2 = s' at *
  have hq1 : q.tmod 2 = q % 2 := by rw [Int.tmod_eq_emod_of_nonneg (by omega)]
  clear hc h1i hr0
  by_cases h1 : q % 2 = 1
  · have hF := HO.out h1
    subst hF
    have hS := fun w => pairSum_any e s w he hb0.2
    generalize t2 e s = z at *
    have h1b : (q % 2 == 1) = true := by simpa using h1
    clear HO HP HU HC1 HB1
    go_enter Tryz.func190, Tryz.ntmps190
    go_wp2_with fail
    refine (hS _).mono ?_
    rintro en w1 ⟨rfl, hb1⟩
    clear hS
    go_wp2
    go_ret2
    exact ⟨rfl, below_after hb1⟩
  · have h1b : (q % 2 == 1) = false := by simpa using h1
    by_cases h2 : 1 < n ∧ q' = q + 1
    · have hF := HP.out h2.1 h1 h2.2
      subst hF
      obtain ⟨c1, d1⟩ := HC1.out h2.1
      have hb1 := HB1.out h2.1
      simp only [Nat.one_mul] at c1 d1
      have hS := fun w => pairSum_any s s' w hb0.2 hb1.2
      generalize t2 s s' = z at *
      have h21 : 1 < n := h2.1
      have h22 : (1 : Int) < (n : Int) := by omega
      have h2b : (q' == q + 1) = true := by simpa using h2.2
      have h2d : decide ((1 : Int) < (n : Int)) = true := by simpa using h22
      have hqw : IntKind.i64.wrap (q + 1) = q + 1 := by rw [IntKind.wrap_i64]; omega
      clear HO HP HU HC1 HB1 h2
      go_enter Tryz.func190, Tryz.ntmps190
      go_wp2
      go_quiet (fail)
      go_wp2
      have W0 : Below w.heap.size w ((w.alloc (.cells #[.int .i64 q, .int .i64 s] 237)).drewN nq) := below_drewN (one_new _) _
      have a1 := After.cell (W := (w.alloc (.cells #[.int .i64 q, .int .i64 s] 237)).drewN nq) (two_cellsV (heap_alloc_new w (.cells #[.int .i64 q, .int .i64 s] 237))).2.1
      have a2 := After.cell ((W0.cell (p := ⟨b, off + 2 + 1, none⟩) hb).trans d1)
      have a3 : ∀ n : After ((w.alloc (.cells #[.int .i64 q, .int .i64 s] 237)).drewN nq), n.w.cell? ⟨b, off + 3, none⟩ = some (.int .i64 s') := a2
      have hne := After.ne ((w.alloc (.cells #[.int .i64 q, .int .i64 s] 237)).drewN nq)
      have HW0 : Hid (Below w.heap.size w ((w.alloc (.cells #[.int .i64 q, .int .i64 s] 237)).drewN nq)) := W0
      clear W0
      refine wp_region_after (by kernel_rfl) (by kernel_rfl) ?_
      repeat (first | go_big_quiet_skip | (go_big_quiet_want; go_big_quiet_op; first | go_big_quiet_on | go_big_quiet_call (first | (go_at_call 173; refine (hS _).mono ?_; rintro e wq ⟨rfl, hbq⟩; exact ⟨rfl, after_mk (below_after_of (After.b _) hbq)⟩))))
      refine wpQuiet_nil ?_
      rintro _ ⟨n2, rfl⟩
      have hB2 : Below w.heap.size w n2.w := below_after_of HW0.out n2.b
      go_wp2
      go_ret2
      exact ⟨rfl, hB2⟩
    · have hF := HU.out h1 h2
      subst hF
      have hS := fun w => pairSum_any s e w hb0.2 he
      generalize t2 s e = z at *
      by_cases h21 : 1 < n
      · obtain ⟨c1, d1⟩ := HC1.out h21
        simp only [Nat.one_mul] at c1 d1
        have h22 : (1 : Int) < (n : Int) := by omega
        have h2b : (q' == q + 1) = false := by simpa using fun h => h2 ⟨h21, h⟩
        have h2d : decide ((1 : Int) < (n : Int)) = true := by simpa using h22
        have hqw : IntKind.i64.wrap (q + 1) = q + 1 := by rw [IntKind.wrap_i64]; omega
        clear HO HP HU HC1 HB1 h2 d1
        go_enter Tryz.func190, Tryz.ntmps190
        go_wp2
        go_quiet (fail)
        go_wp2_with fail
        refine (hS _).mono ?_
        rintro en w1 ⟨rfl, hb1⟩
        clear hS
        go_wp2
        go_ret2
        exact ⟨rfl, below_after_of (below_drewN (one_new _) _) hb1⟩
      · have h22 : ¬ (1 : Int) < (n : Int) := by omega
        have h2d : decide ((1 : Int) < (n : Int)) = false := by simpa using h22
        clear HO HP HU HC1 HB1 h2
        go_enter Tryz.func190, Tryz.ntmps190
        go_wp2
        go_quiet (fail)
        go_wp2_with fail
        refine (hS _).mono ?_
        rintro en w1 ⟨rfl, hb1⟩
        clear hS
        go_wp2
        go_ret2
        exact ⟨rfl, below_after_of (below_drewN (one_new _) _) hb1⟩
theorem drop_at {r : Prl} {j k : Nat} : pAt (r.drop j) k = pAt r (j + k) := by
  unfold pAt
  rw [List.getD_eq_getElem?_getD, List.getD_eq_getElem?_getD, List.getElem?_drop]
theorem Pls.drop {r : Prl} (h : Pls r) (j : Nat) : Pls (r.drop j) := fun p hp => h p (List.mem_of_mem_drop hp)
set_option maxRecDepth 100000 in
set_option maxHeartbeats 4000000 in
theorem rowAbove_any (v : Value) (r : Prl) (e : Int) (w : World) (hv : Prs w v r) (hcap : ∀ a n c, v = .slice a n c → n ≤ c) (hn : r.length ≤ 12) (he : 0 ≤ e ∧ e ≤ 65520) (hR : Pls r) :
    Calls Tryz.prog 172 #[v, .int .i64 e] w fun en w' => ∃ v', en = .returned v' ∧ w'.ownsRow w.heap.size 237 2 v' (abv e r).length ((fl (abv e r)).map (Value.int .i64)) ∧ Below w.heap.size w w' := by
  obtain ⟨i0, hi, hz0, hz1, hz2⟩ := info_parts Tryz.infoPl
  have HV : Hid (Prs w v r) := hv
  obtain ⟨ad, c, rfl⟩ := hv.shape
  have hcp := hcap _ _ _ rfl
  have HR : Hid (Pls r) := hR
  have HC : Hid (r.length ≤ c) := hcp
  have HA0 : Hid ([] ++ abv e (r.drop 0) = abv e r) := by show _ = _; simp
  have HN : Hid (r.length ≤ 12) := hn
  have HV0 : Hid (Prs w (.slice ad r.length c) (r.drop 0)) := hv
  have e0 : Hid ((r.drop 0).length = r.length) := by show _ = _; simp
  generalize r.length = n at *
  clear hv hcap hR hcp HV hn
  go_enter Tryz.func172, Tryz.ntmps172
  go_wp2
  go_loopw [0, 5] (fun u a wr => ∃ (j : Nat) (ac : Prl) (ad : Option Addr) (m c : Nat), u = .slice ad m c ∧ m ≤ c ∧ Hid ((r.drop j).length = m) ∧ m ≤ 12 ∧ Hid (Prs w u (r.drop j)) ∧ Hid (ac ++ abv e (r.drop j) = abv e r) ∧ ac.length + m ≤ 12 ∧ Hid (Below w.heap.size w wr) ∧ Hid (wr.ownsRow w.heap.size 237 2 a ac.length ((fl ac).map (Value.int .i64)))) (fun u _ _ => (match u with | .slice _ m _ => m | _ => 0))
  case atStart => exact ⟨0, [], ad, n, c, rfl, HC.out, e0, HN.out, HV0, HA0, by have := HN.out; simp; omega, Below.refl _ _, World.ownsRow_nil _ _ _ _⟩
  case round =>
    obtain ⟨j, ac, ad, m, c, rfl, hmc, HM, hm, HP, HA, hac, HB, HO⟩ := hrel
    obtain ⟨a', c', rfl⟩ := own_shape2 HO.out
    by_cases hm0 : 0 < m
    · have hmi : (0 : Int) < (m : Int) := by omega
      obtain ⟨-, b, off, rfl, hb, hc⟩ := HP.out.at (by rw [HM.out]; exact hm0)
      rw [HM.out] at hc
      obtain ⟨HA1, hu1, hu2⟩ := abv_fp e (r := r.drop j) (by rw [HM.out]; exact hm0)
      rw [HM.out] at hu2
      have hF := fun w' h => firstPair_any b off c m (r.drop j) e w' HM.out.symm hm0 hm (Nat.lt_of_lt_of_le hb (Below.size (B := w.heap.size) h)) he (HR.out.drop j) (fun k hk => ⟨(h.cell (p := ⟨b, off + k * 2, none⟩) hb).trans (hc k hk).1, (h.cell (p := ⟨b, off + k * 2 + 1, none⟩) hb).trans (hc k hk).2⟩)
      have hb0 := (HR.out.drop j).at (k := 0) (by rw [HM.out]; exact hm0)
      have c0 : ∀ w', Below w.heap.size w w' → w'.cell? ⟨b, off, none⟩ = some (.int .i64 (pAt (r.drop j) 0).1) := fun w' h => by
        have := (h.cell (p := ⟨b, off + 0 * 2, none⟩) hb).trans (hc 0 hm0).1
        simpa using this
      have HCC : Hid (∀ k, k < m → w.cell? ⟨b, off + k * 2, none⟩ = some (.int .i64 (pAt (r.drop j) k).1) ∧ w.cell? ⟨b, off + k * 2 + 1, none⟩ = some (.int .i64 (pAt (r.drop j) k).2)) := hc
      generalize (fp e (r.drop j)).1 = z at *
      generalize (fp e (r.drop j)).2 = u at *
      generalize (pAt (r.drop j) 0).1 = q at *
      have HA2 : Hid ((ac ++ [(q / 2, z)]) ++ abv e (r.drop (j + u)) = abv e r) := by
        show _ = _
        rw [← HA.out, HA1, List.drop_drop, List.append_assoc]
        rfl
      have hq1 : q.tdiv 2 = q / 2 := by rw [Int.tdiv_eq_ediv_of_nonneg (by omega)]
      have hqw : IntKind.i64.wrap (q / 2) = q / 2 := by rw [IntKind.wrap_i64]; omega
      clear hc HA1
      go_wp2_with fail
      refine (hF _ HB.out).mono ?_
      rintro en w1 ⟨rfl, hb1⟩
      have hB1 := below_after_of HB.out hb1
      have hc0 := c0 _ hB1
      have ho1 := own_below HO.out hb1
      have hwz := hB1.size
      have hbw1 : b < w1.heap.size := by omega
      clear hF c0 hb1 HO
      have hui : (u : Int) ≤ (m : Int) := by omega
      have hu0 : (0 : Int) ≤ (u : Int) := by omega
      have hcl : ac.length ≤ 12 := by omega
      go_wp2_with (at_builtin; refine wpList_append_own _ rfl _ _ 233 rfl w.heap.size 237 i0 (.agg #[.int .i64 0, .int .i64 0]) 2 16 Tryz.underlying233 hi hz0 hz1 hz2 rfl (by decide) _ _ _ rfl (ho1.alloc _) ⟨w1.heap.size, 0, none⟩ 1 1 [.int .i64 (q / 2), .int .i64 z] rfl rfl (World.news_of_block (heap_alloc_new _ _)) (ints_oneCell .i64 [q / 2, z]) (by unfold maxLen; omega) (by omega) (by simp; omega) ?_)
      intro v' w2 hown' hgrow _
      have hb2 : Below w.heap.size w w2 := (hB1.alloc (by omega) _).grown hgrow (by simp; omega) (fun k hk => (ho1.lt k hk).1)
      have own2 := own_snoc hown'
      clear hgrow hown' ho1
      have HPn : Hid (Prs w (.slice (if c = u then some ⟨b, off, none⟩ else some ⟨b, off + u * 2, none⟩) (m - u) (c - u)) (r.drop (j + u))) := by
        have hl : (r.drop (j + u)).length = m - u := by rw [← List.drop_drop, List.length_drop, HM.out]
        by_cases hmu : m = u
        · left
          exact ⟨List.eq_nil_of_length_eq_zero (by rw [hl]; omega), _, _, by rw [hmu, Nat.sub_self]⟩
        · right
          rw [if_neg (by omega)]
          refine ⟨b, off + u * 2, c - u, by rw [hl], hb, fun k hk => ?_⟩
          rw [hl] at hk
          have h3 := HCC.out (u + k) (by omega)
          rw [drop_at] at h3
          rw [drop_at, Nat.add_assoc j u k, show off + u * 2 + k * 2 = off + (u + k) * 2 by omega]
          exact h3
      have HMn : Hid ((r.drop (j + u)).length = m - u) := by show _ = _; rw [← List.drop_drop, List.length_drop, HM.out]
      go_wp2
      go_roundw
      case rel => exact ⟨j + u, ac ++ [(q / 2, z)], _, m - u, c - u, rfl, by omega, HMn, by omega, HPn, HA2, by simp; omega, hb2, own2⟩
      case measure => show m - u < m; omega
    · have hm0 : m = 0 := by omega
      subst hm0
      have e1 : ac = abv e r := by
        have := HA.out
        rw [List.eq_nil_of_length_eq_zero HM.out] at this
        simpa [abv] using this
      subst e1
      go_wp2
      go_ret
      exact ⟨_, rfl, HO.out, HB.out⟩
end U
end Go.Proofs.YtljbcpkjhnbpeaaGreatDoor

/- The sum of a part, and the root, as the program makes them. -/
namespace Go.Proofs.YtljbcpkjhnbpeaaGreatDoor
open Go.RowKit
namespace U
theorem rows_pls {l : Prl} (h : Ris l) (hf : ∀ p ∈ l, fine p = true) (n : Nat) : Pls (rows l n) := by
  have h0 : ∀ p ∈ l, 0 ≤ p.1 := fun p hp => (fine_bd (hf p hp)).1.1
  intro p hp
  have h1 := rows_bd h h0 n p hp
  obtain ⟨p', hp', e⟩ := ((rows_row h h0 n).2 p.1).1 ⟨p.2, hp⟩
  have h2 := (fine_bd (hf p' hp')).1
  have h3 : p'.1 / (2 ^ n : Nat) ≤ p'.1 := Int.ediv_le_self _ h2.1
  exact ⟨⟨h1.1, by omega⟩, h1.2⟩
theorem own_cap {w : World} {B : Nat} {e : TypeId} {v : Value} {m : Nat} {xs : List Value} (h : w.ownsRow B e 2 v m xs) : ∀ a n c, v = .slice a n c → n ≤ c := by
  intro a n c hv
  subst hv
  rcases h.2 with ⟨h1, _⟩ | ⟨g, cap, cur, h1, _, _, hc, _⟩
  · cases h1; omega
  · cases h1; exact hc
theorem prt_nil {l : Prl} {n : Nat} (h : (rows l n).length = 0) : prt l n = emp n := by
  unfold prt
  rw [List.eq_nil_of_length_eq_zero h]
theorem prt_cons {l : Prl} {n : Nat} (h : 0 < (rows l n).length) : prt l n = (pAt (rows l n) 0).2 := by
  unfold prt
  rcases hr : rows l n with _ | ⟨p, t⟩
  · rw [hr] at h; simp at h
  · simp [pAt]
set_option maxRecDepth 100000 in
set_option maxHeartbeats 4000000 in
theorem partSum_any (v : Value) (l : Prl) (n : Nat) (w : World) (hv : Prs w v l) (hl : l.length ≤ 12) (hr : Ris l) (hf : ∀ p ∈ l, fine p = true) (hn : n ≤ 8) :
    Calls Tryz.prog 127 #[v, .int .i64 (n : Int), .agg (arrA emp)] w fun e w' => e = .returned (.int .i64 (prt l n)) ∧ Below w.heap.size w w' := by
  have hL := fun o => leafRow_any v l _ (hv.below (one_new o)) hl hf
  obtain ⟨ad, c, rfl⟩ := hv.shape
  generalize l.length = len at hv ⊢ hL
  have HL : Hid (l.length ≤ 12) := hl
  have HR : Hid (Ris l) := hr
  have HF : Hid (∀ p ∈ l, fine p = true) := hf
  have A0 := ArrAt.of (f := emp) (heap_alloc_new w (.cells (arrA emp) 176))
  clear hv hr hf hl
  go_enter Tryz.func127, Tryz.ntmps127
  go_wp2_with fail
  refine (hL _).mono ?_
  rintro e w1 ⟨v1, rfl, ho1, hb1⟩
  rw [World.size_alloc] at ho1
  have A1 := A0.below hb1 (by simp)
  have hB1 := below_after hb1
  have hz1 : w.heap.size < w1.heap.size := by have := hb1.size; simp at this; omega
  have HA1 : Hid (ArrAt w1 w.heap.size emp) := A1
  have HB1 : Hid (Below w.heap.size w w1) := hB1
  have HO1 : Hid (w1.ownsRow (w.heap.size + 1) 237 2 v1 (rows l 0).length ((fl (rows l 0)).map (Value.int .i64))) := ho1
  clear hL A0 A1 hb1 ho1 hB1
  go_wp2
  go_loopw [7, 12] (fun u i wr => ∃ k : Nat, k ≤ n ∧ i = .int .i64 k ∧ w.heap.size < wr.heap.size ∧ Hid (Below w.heap.size w wr) ∧ Hid (ArrAt wr w.heap.size emp) ∧ Hid (wr.ownsRow (w.heap.size + 1) 237 2 u (rows l k).length ((fl (rows l k)).map (Value.int .i64)))) (fun _ i _ => n - (intOf i).toNat)
  case atStart => exact ⟨0, Nat.zero_le _, rfl, hz1, HB1, HA1, HO1⟩
  case round =>
    obtain ⟨k, hk, rfl, hz, HB, HA, HO⟩ := hrel
    have hprs := own_prs HO.out
    have hcap := own_cap HO.out
    obtain ⟨a', c', rfl⟩ := own_shape2 HO.out
    by_cases hkn : k < n
    · have hki : (k : Int) < (n : Int) := by omega
      have hk9 : (k : Int) < 9 := by omega
      have hk0 : (0 : Int) ≤ (k : Int) := by omega
      have ck := HA.out.c k (by omega)
      have hR := rowAbove_any _ (rows l k) (emp k) wr hprs hcap (Nat.le_trans (rows_len l k) HL.out) (emp_bd k) (rows_pls HR.out HF.out k)
      have e1 : abv (emp k) (rows l k) = rows l (k + 1) := rfl
      rw [e1] at hR
      obtain ⟨r2, hr2⟩ : ∃ r2, r2 = rows l (k + 1) := ⟨_, rfl⟩
      have HR2 : Hid (rows l (k + 1) = r2) := hr2.symm
      rw [← hr2] at hR
      clear hr2 e1
      generalize emp k = x at *
      generalize (rows l k).length = m at *
      clear hprs hcap HO
      go_wp2_with fail
      refine hR.mono ?_
      rintro e w2 ⟨v2, rfl, ho2, hb2⟩
      have hB2 := below_after_of HB.out hb2
      have A2 := HA.out.below hb2 hz
      have ho3 := own_mono ho2 (show w.heap.size + 1 ≤ wr.heap.size by omega)
      have hz2 := hb2.size
      clear hR hb2 ho2 ck
      go_wp2
      go_roundw
      case rel => exact ⟨k + 1, by omega, by go_num, by omega, hB2, A2, by rw [HR2.out]; exact ho3⟩
      case measure => simp [intOf]; omega
    · have hkn : k = n := by omega
      subst hkn
      have hki : ¬ (k : Int) < (k : Int) := by omega
      have hk9 : (k : Int) < 9 := by omega
      have hk0 : (0 : Int) ≤ (k : Int) := by omega
      have ck := HA.out.c k (by omega)
      have HZ : Hid ((rows l k).length = 0 → prt l k = emp k) := prt_nil
      have HC : Hid (0 < (rows l k).length → prt l k = (pAt (rows l k) 0).2) := prt_cons
      by_cases h0 : (rows l k).length = 0
      · have e1 := HZ.out h0
        have E1 : Hid (prt l k = emp k) := e1
        rw [h0]
        generalize emp k = x at *
        clear hprs hcap e1
        go_wp2
        go_ret
        exact ⟨ret_int E1.out.symm, HB.out⟩
      · obtain ⟨-, b, off, rfl, hb, hc⟩ := hprs.at (by omega)
        have g1 := (hc 0 (by omega)).2
        have E1 : Hid (prt l k = (pAt (rows l k) 0).2) := HC.out (by omega)
        simp only [Nat.zero_mul, Nat.add_zero] at g1
        generalize (pAt (rows l k) 0).2 = y at *
        have hm1 : 0 < (rows l k).length := by omega
        have hm2 : ¬ ((rows l k).length : Int) = 0 := by omega
        have hm3 : (0 : Int) < ((rows l k).length : Int) := by omega
        generalize (rows l k).length = m at *
        clear hprs hcap hc HZ HC ck
        go_wp2
        go_ret
        exact ⟨ret_int E1.out.symm, HB.out⟩
theorem cut_whole {l : Prl} (hf : ∀ p ∈ l, fine p = true) : ∀ p ∈ l, p.1 / (2 ^ 8 : Nat) = 0 := fun p hp => by
  have := (fine_bd (hf p hp)).1
  show p.1 / 256 = 0
  omega
/-- The code and the value of the root. -/
def orC (l : Prl) : Int := slF l
def orV (l : Prl) : Int := if slF l = 0 then nd l 8 0 else 0
set_option maxRecDepth 100000 in
set_option maxHeartbeats 1000000 in
theorem implOldRoot_any (v : Value) (l : Prl) (w : World) (hv : Prs w v l) (hx : l.length ≤ 1099511627776) :
    Calls Tryz.prog 72 #[v] w fun e w' => IntAns w (orC l) (orV l) e w' := by
  have hF := fun w' h => implSlotsFault_any v l w' (hv.below h) hx
  have hE := fun w => emptySums_any w
  unfold orC orV
  by_cases h0 : slF l = 0
  · have hs := slF_ok h0
    have hP := fun w' h => partSum_any v l 8 w' (hv.below h) hs.len hs.ris hs.fin (by omega)
    have e1 : prt l 8 = nd l 8 0 := prt_nd hs.ris hs.pos (cut_whole hs.fin)
    rw [e1] at hP
    rw [if_pos h0, h0]
    rw [h0] at hF
    obtain ⟨ad, c, rfl⟩ := hv.shape
    generalize nd l 8 0 = x at *
    generalize l.length = n at *
    generalize arrA emp = A at *
    clear hv e1 h0 hs
    go_enter Tryz.func72, Tryz.ntmps72
    go_wp2_with fail
    refine (hF _ (one_new _)).mono ?_
    rintro e w1 ⟨rfl, hb1⟩
    clear hF
    go_wp2_with fail
    refine (hE _).mono ?_
    rintro e w2 ⟨rfl, hb2⟩
    have hb2' := below_after_of hb1 hb2
    clear hE
    go_wp2_with fail
    refine (hP _ (below_after hb2')).mono ?_
    rintro e w3 ⟨rfl, hb3⟩
    have hb3' := below_after_of hb2' hb3
    obtain ⟨g0, g1, f0, f1⟩ := two_cellsV ((hb3'.block w.heap.size (by simp)).trans (heap_alloc_new w _))
    have hB3 := below_after hb3'
    clear hP hb1 hb2 hb3 hb2' hb3'
    go_wp2
    exact bodyPost_ret (v := .agg #[.int .i64 0, .int .i64 x]) (by simp [results, Tryz.results72, go_sem, *]) rfl ⟨rfl, (hB3.setCell (by simp) _).setCell (by simp) _⟩
  · rw [if_neg h0]
    obtain ⟨ad, c, rfl⟩ := hv.shape
    generalize slF l = f at *
    generalize l.length = n at *
    have hfn : (f != 0) = true := by simpa using h0
    clear hv hE h0
    go_enter Tryz.func72, Tryz.ntmps72
    go_wp2_with fail
    refine (hF _ (one_new _)).mono ?_
    rintro e w1 ⟨rfl, hb1⟩
    obtain ⟨g0, g1, f0, f1⟩ := two_cellsV ((hb1.block w.heap.size (by simp)).trans (heap_alloc_new w _))
    have hB1 := below_after hb1
    clear hF hb1
    go_wp2
    exact bodyPost_ret (v := .agg #[.int .i64 f, .int .i64 0]) (by simp [results, Tryz.results72, go_sem, *]) rfl ⟨rfl, (hB1.setCell (by simp) _).setCell (by simp) _⟩
set_option maxRecDepth 100000 in
theorem l4Root_any (v : Value) (l : Prl) (w : World) (hv : Prs w v l) (hl : l.length ≤ 1048576) (hf : ∀ p ∈ l, fine p = true) :
    Calls Tryz.prog 76 #[v] w fun e w' => e = .returned (.int .i64 (nd l 8 0)) ∧ Below w.heap.size w w' := by
  have hN := fun w' h => l4Node_8 v l 0 0 w' (hv.below h) hl hf (by show _ = _; rfl) (by omega)
  obtain ⟨ad, c, rfl⟩ := hv.shape
  generalize nd l 8 0 = x at *
  generalize l.length = n at *
  clear hv hf
  go_enter Tryz.func76, Tryz.ntmps76
  go_wp2_with fail
  refine (hN _ (Below.refl _ _)).mono ?_
  rintro e w1 ⟨rfl, hb1⟩
  clear hN
  go_wp2
  go_ret
  exact ⟨rfl, hb1⟩
end U
end Go.Proofs.YtljbcpkjhnbpeaaGreatDoor

/- The path of a key, by the model. -/
namespace Go.Proofs.YtljbcpkjhnbpeaaGreatDoor
open Go.RowKit
namespace U
/-- The other side of a key at a level. -/
def sib (x : Int) (n : Nat) : Int := if x / (2 ^ n : Nat) % 2 = 0 then x / (2 ^ n : Nat) + 1 else x / (2 ^ n : Nat) - 1
/-- The first sums of a path. -/
def pth (l : Prl) (x : Int) : Nat → List Int
  | 0 => []
  | n + 1 => pth l x n ++ [nd l n (sib x n)]
theorem pth_len (l : Prl) (x : Int) (n : Nat) : (pth l x n).length = n := by
  induction n with
  | zero => rfl
  | succ n ih => unfold pth; simp [ih]
def opC (l : Prl) (x : Int) : Int := if slF l = 0 then (if inB x 0 255 = true then 0 else 3) else slF l
def opL (l : Prl) (x : Int) : List Int := if slF l = 0 ∧ inB x 0 255 = true then pth l x 8 else []
theorem opL_len (l : Prl) (x : Int) : (opL l x).length ≤ 8 := by
  unfold opL
  split
  · rw [pth_len]; omega
  · simp
theorem sib_even {x q : Int} {n : Nat} {S : Int} (hS : ((2 ^ n : Nat) : Int) = S) (hq : q = x / S) (h : q % 2 = 0) : sib x n = q + 1 := by
  unfold sib
  rw [hS, ← hq, if_pos h]
theorem sib_odd {x q : Int} {n : Nat} {S : Int} (hS : ((2 ^ n : Nat) : Int) = S) (hq : q = x / S) (h : ¬ q % 2 = 0) : sib x n = q - 1 := by
  unfold sib
  rw [hS, ← hq, if_neg h]
theorem own_one {w : World} {B : Nat} {e : TypeId} {v : Value} {zs : List Int} {b : Int} (h : w.ownsRow B e 1 v (zs.length + 1) (zs.map (Value.int .i64) ++ [.int .i64 b])) : w.ownsRow B e 1 v (zs ++ [b]).length ((zs ++ [b]).map (Value.int .i64)) := by
  rw [List.map_append, List.length_append]; exact h
theorem none_own1 (w : World) (e : TypeId) (B : Nat) (hB : B ≤ w.heap.size) : (w.alloc (.cells #[] e)).ownsRow B e 1 (.slice (some ⟨w.heap.size, 0, none⟩) 0 0) 0 [] :=
  World.ownsRow_made w #[] 0 hB (by decide) rfl
set_option maxRecDepth 100000 in
set_option maxHeartbeats 16000000 in
theorem l4Path_any (v : Value) (l : Prl) (x : Int) (w : World) (hv : Prs w v l) (hl : l.length ≤ 1048576) (hf : ∀ p ∈ l, fine p = true) (hx : 0 ≤ x ∧ x ≤ 255) :
    Calls Tryz.prog 121 #[v, .int .i64 x] w fun e w' => ∃ v', e = .returned v' ∧ w'.ownsRow w.heap.size 2 1 v' (pth l x 8).length ((pth l x 8).map (Value.int .i64)) ∧ Below w.heap.size w w' := by
  obtain ⟨i0, hi, hz0, hz1, hz2⟩ := info_parts Tryz.infoI64
  have HV : Hid (∀ w', Below w.heap.size w w' → Prs w' v l) := fun w' h => hv.below h
  obtain ⟨ad, c, rfl⟩ := hv.shape
  have HF : Hid (∀ p ∈ l, fine p = true) := hf
  have HL : Hid (l.length ≤ 1048576) := hl
  obtain ⟨n, hn⟩ : ∃ n, n = l.length := ⟨_, rfl⟩
  rw [← hn] at HV hl ⊢
  clear hv hf hn
  go_enter Tryz.func121, Tryz.ntmps121
  go_wp2
  go_loopw [5, 6] (fun u i wr => ∃ k : Nat, k ≤ 8 ∧ i = .int .i64 k ∧ Hid (Below w.heap.size w wr) ∧ Hid (wr.ownsRow w.heap.size 2 1 u (pth l x k).length ((pth l x k).map (Value.int .i64)))) (fun _ i _ => 8 - (intOf i).toNat)
  case atStart => exact ⟨0, Nat.zero_le _, rfl, one_new _, none_own1 w _ _ (Nat.le_refl _)⟩
  case round =>
    obtain ⟨k, hk, rfl, hB, ho⟩ := hrel
    have hlen : (pth l x k).length ≤ 8 := by rw [pth_len]; exact hk
    obtain ⟨K, hK⟩ : ∃ K : Int, K = (k : Int) := ⟨_, rfl⟩
    rw [← hK]
    by_cases hk8 : k < 8
    · have HS : Hid (pth l x (k + 1) = pth l x k ++ [nd l k (sib x k)]) := by show _ = _; rfl
      have ho2 := ho.out
      obtain ⟨a', c', rfl⟩ := own_shape ho2
      have hsz := hB.out.size
      generalize pth l x k = m at *
      clear ho
      rcases (by omega : (k = 0 ∧ K = 0) ∨ (k = 1 ∧ K = 1) ∨ (k = 2 ∧ K = 2) ∨ (k = 3 ∧ K = 3) ∨ (k = 4 ∧ K = 4) ∨ (k = 5 ∧ K = 5) ∨ (k = 6 ∧ K = 6) ∨ (k = 7 ∧ K = 7)) with ⟨rfl, rfl⟩ | ⟨rfl, rfl⟩ | ⟨rfl, rfl⟩ | ⟨rfl, rfl⟩ | ⟨rfl, rfl⟩ | ⟨rfl, rfl⟩ | ⟨rfl, rfl⟩ | ⟨rfl, rfl⟩
      · have HQ : Hid (x = x / 1) := by show _ = _; omega
        have e3 : x.tmod 2 = x % 2 := by rw [Int.tmod_eq_emod_of_nonneg (by omega)]
        clear hK hk hk8
        by_cases h2 : x % 2 = 0
        · skip
          have hN := fun w' h => l4Node_0 (.slice ad n c) l (x + 1) (x + 1) w' (HV.out w' h) HL.out HF.out (by show _ = _; omega) (by omega)
          have HSB : Hid (pth l x (0 + 1) = m ++ [nd l 0 (x + 1)]) := by
            show _ = _
            rw [HS.out, sib_even (S := 1) rfl HQ.out h2]
          generalize nd l 0 (x + 1) = y at *
          have h2b : (x % 2 == 0) = true := by simpa using h2
          clear HS h2
          go_wp2_with fail
          refine (hN _ hB.out).mono ?_
          rintro e w1 ⟨rfl, hb1⟩
          have hB1 := below_after_of hB.out hb1
          have ho1 := own_below ho2 hb1
          have hsz1 := hB1.size
          clear hN hb1 ho2
          go_wp2_with (at_builtin; refine wpList_append_own _ rfl _ _ 41 rfl w.heap.size 2 i0 (.int .i64 0) 1 8 Tryz.underlying41 hi hz0 hz1 hz2 rfl (by decide) _ _ _ rfl (ho1.alloc _) ⟨w1.heap.size, 0, none⟩ 1 1 [.int .i64 y] rfl rfl (World.news_of_block (heap_alloc_new _ _)) (ints_oneCell .i64 [y]) (by unfold maxLen; omega) (by omega) (by simp; omega) ?_)
          intro v2 w2 hown' hgrow _
          have hb2 : Below w.heap.size w w2 := (hB1.alloc (by omega) _).grown hgrow (by simp; omega) (fun k hk => (ho1.lt k hk).1)
          have own2 := own_one hown'
          clear hgrow hown' ho1
          go_wp2
          go_roundw
          case rel => exact ⟨0 + 1, by omega, by go_num, hb2, by rw [HSB.out]; exact own2⟩
          case measure => simp [intOf]
        · have hq1 : 1 ≤ x := by omega
          have hN := fun w' h => l4Node_0 (.slice ad n c) l (x - 1) (x - 1) w' (HV.out w' h) HL.out HF.out (by show _ = _; omega) (by omega)
          have HSB : Hid (pth l x (0 + 1) = m ++ [nd l 0 (x - 1)]) := by
            show _ = _
            rw [HS.out, sib_odd (S := 1) rfl HQ.out h2]
          generalize nd l 0 (x - 1) = y at *
          have h2b : (x % 2 == 0) = false := by simpa using h2
          clear HS h2
          go_wp2_with fail
          refine (hN _ hB.out).mono ?_
          rintro e w1 ⟨rfl, hb1⟩
          have hB1 := below_after_of hB.out hb1
          have ho1 := own_below ho2 hb1
          have hsz1 := hB1.size
          clear hN hb1 ho2
          go_wp2_with (at_builtin; refine wpList_append_own _ rfl _ _ 41 rfl w.heap.size 2 i0 (.int .i64 0) 1 8 Tryz.underlying41 hi hz0 hz1 hz2 rfl (by decide) _ _ _ rfl (ho1.alloc _) ⟨w1.heap.size, 0, none⟩ 1 1 [.int .i64 y] rfl rfl (World.news_of_block (heap_alloc_new _ _)) (ints_oneCell .i64 [y]) (by unfold maxLen; omega) (by omega) (by simp; omega) ?_)
          intro v2 w2 hown' hgrow _
          have hb2 : Below w.heap.size w w2 := (hB1.alloc (by omega) _).grown hgrow (by simp; omega) (fun k hk => (ho1.lt k hk).1)
          have own2 := own_one hown'
          clear hgrow hown' ho1
          go_wp2
          go_roundw
          case rel => exact ⟨0 + 1, by omega, by go_num, hb2, by rw [HSB.out]; exact own2⟩
          case measure => simp [intOf]
      · obtain ⟨q, hq⟩ : ∃ q : Int, q = x / 2 := ⟨_, rfl⟩
        have HQ : Hid (q = x / 2) := hq
        have hqb : 0 ≤ q ∧ q * 2 ≤ 255 := by omega
        have e1 : x.tdiv 2 = q := by rw [Int.tdiv_eq_ediv_of_nonneg (by omega)]; exact hq.symm
        have e2 : (q * 2).tdiv 2 = q := Int.mul_tdiv_cancel q (by omega)
        have e3 : q.tmod 2 = q % 2 := by rw [Int.tmod_eq_emod_of_nonneg (by omega)]
        clear hq hK hk hk8
        by_cases h2 : q % 2 = 0
        · skip
          have hN := fun w' h => l4Node_1 (.slice ad n c) l (q * 2 + 2) (q + 1) w' (HV.out w' h) HL.out HF.out (by show _ = _; omega) (by omega)
          have HSB : Hid (pth l x (1 + 1) = m ++ [nd l 1 (q + 1)]) := by
            show _ = _
            rw [HS.out, sib_even (S := 2) rfl HQ.out h2]
          generalize nd l 1 (q + 1) = y at *
          have h2b : (q % 2 == 0) = true := by simpa using h2
          clear HS h2
          go_wp2_with fail
          refine (hN _ hB.out).mono ?_
          rintro e w1 ⟨rfl, hb1⟩
          have hB1 := below_after_of hB.out hb1
          have ho1 := own_below ho2 hb1
          have hsz1 := hB1.size
          clear hN hb1 ho2
          go_wp2_with (at_builtin; refine wpList_append_own _ rfl _ _ 41 rfl w.heap.size 2 i0 (.int .i64 0) 1 8 Tryz.underlying41 hi hz0 hz1 hz2 rfl (by decide) _ _ _ rfl (ho1.alloc _) ⟨w1.heap.size, 0, none⟩ 1 1 [.int .i64 y] rfl rfl (World.news_of_block (heap_alloc_new _ _)) (ints_oneCell .i64 [y]) (by unfold maxLen; omega) (by omega) (by simp; omega) ?_)
          intro v2 w2 hown' hgrow _
          have hb2 : Below w.heap.size w w2 := (hB1.alloc (by omega) _).grown hgrow (by simp; omega) (fun k hk => (ho1.lt k hk).1)
          have own2 := own_one hown'
          clear hgrow hown' ho1
          go_wp2
          go_roundw
          case rel => exact ⟨1 + 1, by omega, by go_num, hb2, by rw [HSB.out]; exact own2⟩
          case measure => simp [intOf]
        · have hq1 : 1 ≤ q := by omega
          have hN := fun w' h => l4Node_1 (.slice ad n c) l (q * 2 - 2) (q - 1) w' (HV.out w' h) HL.out HF.out (by show _ = _; omega) (by omega)
          have HSB : Hid (pth l x (1 + 1) = m ++ [nd l 1 (q - 1)]) := by
            show _ = _
            rw [HS.out, sib_odd (S := 2) rfl HQ.out h2]
          generalize nd l 1 (q - 1) = y at *
          have h2b : (q % 2 == 0) = false := by simpa using h2
          clear HS h2
          go_wp2_with fail
          refine (hN _ hB.out).mono ?_
          rintro e w1 ⟨rfl, hb1⟩
          have hB1 := below_after_of hB.out hb1
          have ho1 := own_below ho2 hb1
          have hsz1 := hB1.size
          clear hN hb1 ho2
          go_wp2_with (at_builtin; refine wpList_append_own _ rfl _ _ 41 rfl w.heap.size 2 i0 (.int .i64 0) 1 8 Tryz.underlying41 hi hz0 hz1 hz2 rfl (by decide) _ _ _ rfl (ho1.alloc _) ⟨w1.heap.size, 0, none⟩ 1 1 [.int .i64 y] rfl rfl (World.news_of_block (heap_alloc_new _ _)) (ints_oneCell .i64 [y]) (by unfold maxLen; omega) (by omega) (by simp; omega) ?_)
          intro v2 w2 hown' hgrow _
          have hb2 : Below w.heap.size w w2 := (hB1.alloc (by omega) _).grown hgrow (by simp; omega) (fun k hk => (ho1.lt k hk).1)
          have own2 := own_one hown'
          clear hgrow hown' ho1
          go_wp2
          go_roundw
          case rel => exact ⟨1 + 1, by omega, by go_num, hb2, by rw [HSB.out]; exact own2⟩
          case measure => simp [intOf]
      · obtain ⟨q, hq⟩ : ∃ q : Int, q = x / 4 := ⟨_, rfl⟩
        have HQ : Hid (q = x / 4) := hq
        have hqb : 0 ≤ q ∧ q * 4 ≤ 255 := by omega
        have e1 : x.tdiv 4 = q := by rw [Int.tdiv_eq_ediv_of_nonneg (by omega)]; exact hq.symm
        have e2 : (q * 4).tdiv 4 = q := Int.mul_tdiv_cancel q (by omega)
        have e3 : q.tmod 2 = q % 2 := by rw [Int.tmod_eq_emod_of_nonneg (by omega)]
        clear hq hK hk hk8
        by_cases h2 : q % 2 = 0
        · skip
          have hN := fun w' h => l4Node_2 (.slice ad n c) l (q * 4 + 4) (q + 1) w' (HV.out w' h) HL.out HF.out (by show _ = _; omega) (by omega)
          have HSB : Hid (pth l x (2 + 1) = m ++ [nd l 2 (q + 1)]) := by
            show _ = _
            rw [HS.out, sib_even (S := 4) rfl HQ.out h2]
          generalize nd l 2 (q + 1) = y at *
          have h2b : (q % 2 == 0) = true := by simpa using h2
          clear HS h2
          go_wp2_with fail
          refine (hN _ hB.out).mono ?_
          rintro e w1 ⟨rfl, hb1⟩
          have hB1 := below_after_of hB.out hb1
          have ho1 := own_below ho2 hb1
          have hsz1 := hB1.size
          clear hN hb1 ho2
          go_wp2_with (at_builtin; refine wpList_append_own _ rfl _ _ 41 rfl w.heap.size 2 i0 (.int .i64 0) 1 8 Tryz.underlying41 hi hz0 hz1 hz2 rfl (by decide) _ _ _ rfl (ho1.alloc _) ⟨w1.heap.size, 0, none⟩ 1 1 [.int .i64 y] rfl rfl (World.news_of_block (heap_alloc_new _ _)) (ints_oneCell .i64 [y]) (by unfold maxLen; omega) (by omega) (by simp; omega) ?_)
          intro v2 w2 hown' hgrow _
          have hb2 : Below w.heap.size w w2 := (hB1.alloc (by omega) _).grown hgrow (by simp; omega) (fun k hk => (ho1.lt k hk).1)
          have own2 := own_one hown'
          clear hgrow hown' ho1
          go_wp2
          go_roundw
          case rel => exact ⟨2 + 1, by omega, by go_num, hb2, by rw [HSB.out]; exact own2⟩
          case measure => simp [intOf]
        · have hq1 : 1 ≤ q := by omega
          have hN := fun w' h => l4Node_2 (.slice ad n c) l (q * 4 - 4) (q - 1) w' (HV.out w' h) HL.out HF.out (by show _ = _; omega) (by omega)
          have HSB : Hid (pth l x (2 + 1) = m ++ [nd l 2 (q - 1)]) := by
            show _ = _
            rw [HS.out, sib_odd (S := 4) rfl HQ.out h2]
          generalize nd l 2 (q - 1) = y at *
          have h2b : (q % 2 == 0) = false := by simpa using h2
          clear HS h2
          go_wp2_with fail
          refine (hN _ hB.out).mono ?_
          rintro e w1 ⟨rfl, hb1⟩
          have hB1 := below_after_of hB.out hb1
          have ho1 := own_below ho2 hb1
          have hsz1 := hB1.size
          clear hN hb1 ho2
          go_wp2_with (at_builtin; refine wpList_append_own _ rfl _ _ 41 rfl w.heap.size 2 i0 (.int .i64 0) 1 8 Tryz.underlying41 hi hz0 hz1 hz2 rfl (by decide) _ _ _ rfl (ho1.alloc _) ⟨w1.heap.size, 0, none⟩ 1 1 [.int .i64 y] rfl rfl (World.news_of_block (heap_alloc_new _ _)) (ints_oneCell .i64 [y]) (by unfold maxLen; omega) (by omega) (by simp; omega) ?_)
          intro v2 w2 hown' hgrow _
          have hb2 : Below w.heap.size w w2 := (hB1.alloc (by omega) _).grown hgrow (by simp; omega) (fun k hk => (ho1.lt k hk).1)
          have own2 := own_one hown'
          clear hgrow hown' ho1
          go_wp2
          go_roundw
          case rel => exact ⟨2 + 1, by omega, by go_num, hb2, by rw [HSB.out]; exact own2⟩
          case measure => simp [intOf]
      · obtain ⟨q, hq⟩ : ∃ q : Int, q = x / 8 := ⟨_, rfl⟩
        have HQ : Hid (q = x / 8) := hq
        have hqb : 0 ≤ q ∧ q * 8 ≤ 255 := by omega
        have e1 : x.tdiv 8 = q := by rw [Int.tdiv_eq_ediv_of_nonneg (by omega)]; exact hq.symm
        have e2 : (q * 8).tdiv 8 = q := Int.mul_tdiv_cancel q (by omega)
        have e3 : q.tmod 2 = q % 2 := by rw [Int.tmod_eq_emod_of_nonneg (by omega)]
        clear hq hK hk hk8
        by_cases h2 : q % 2 = 0
        · skip
          have hN := fun w' h => l4Node_3 (.slice ad n c) l (q * 8 + 8) (q + 1) w' (HV.out w' h) HL.out HF.out (by show _ = _; omega) (by omega)
          have HSB : Hid (pth l x (3 + 1) = m ++ [nd l 3 (q + 1)]) := by
            show _ = _
            rw [HS.out, sib_even (S := 8) rfl HQ.out h2]
          generalize nd l 3 (q + 1) = y at *
          have h2b : (q % 2 == 0) = true := by simpa using h2
          clear HS h2
          go_wp2_with fail
          refine (hN _ hB.out).mono ?_
          rintro e w1 ⟨rfl, hb1⟩
          have hB1 := below_after_of hB.out hb1
          have ho1 := own_below ho2 hb1
          have hsz1 := hB1.size
          clear hN hb1 ho2
          go_wp2_with (at_builtin; refine wpList_append_own _ rfl _ _ 41 rfl w.heap.size 2 i0 (.int .i64 0) 1 8 Tryz.underlying41 hi hz0 hz1 hz2 rfl (by decide) _ _ _ rfl (ho1.alloc _) ⟨w1.heap.size, 0, none⟩ 1 1 [.int .i64 y] rfl rfl (World.news_of_block (heap_alloc_new _ _)) (ints_oneCell .i64 [y]) (by unfold maxLen; omega) (by omega) (by simp; omega) ?_)
          intro v2 w2 hown' hgrow _
          have hb2 : Below w.heap.size w w2 := (hB1.alloc (by omega) _).grown hgrow (by simp; omega) (fun k hk => (ho1.lt k hk).1)
          have own2 := own_one hown'
          clear hgrow hown' ho1
          go_wp2
          go_roundw
          case rel => exact ⟨3 + 1, by omega, by go_num, hb2, by rw [HSB.out]; exact own2⟩
          case measure => simp [intOf]
        · have hq1 : 1 ≤ q := by omega
          have hN := fun w' h => l4Node_3 (.slice ad n c) l (q * 8 - 8) (q - 1) w' (HV.out w' h) HL.out HF.out (by show _ = _; omega) (by omega)
          have HSB : Hid (pth l x (3 + 1) = m ++ [nd l 3 (q - 1)]) := by
            show _ = _
            rw [HS.out, sib_odd (S := 8) rfl HQ.out h2]
          generalize nd l 3 (q - 1) = y at *
          have h2b : (q % 2 == 0) = false := by simpa using h2
          clear HS h2
          go_wp2_with fail
          refine (hN _ hB.out).mono ?_
          rintro e w1 ⟨rfl, hb1⟩
          have hB1 := below_after_of hB.out hb1
          have ho1 := own_below ho2 hb1
          have hsz1 := hB1.size
          clear hN hb1 ho2
          go_wp2_with (at_builtin; refine wpList_append_own _ rfl _ _ 41 rfl w.heap.size 2 i0 (.int .i64 0) 1 8 Tryz.underlying41 hi hz0 hz1 hz2 rfl (by decide) _ _ _ rfl (ho1.alloc _) ⟨w1.heap.size, 0, none⟩ 1 1 [.int .i64 y] rfl rfl (World.news_of_block (heap_alloc_new _ _)) (ints_oneCell .i64 [y]) (by unfold maxLen; omega) (by omega) (by simp; omega) ?_)
          intro v2 w2 hown' hgrow _
          have hb2 : Below w.heap.size w w2 := (hB1.alloc (by omega) _).grown hgrow (by simp; omega) (fun k hk => (ho1.lt k hk).1)
          have own2 := own_one hown'
          clear hgrow hown' ho1
          go_wp2
          go_roundw
          case rel => exact ⟨3 + 1, by omega, by go_num, hb2, by rw [HSB.out]; exact own2⟩
          case measure => simp [intOf]
      · obtain ⟨q, hq⟩ : ∃ q : Int, q = x / 16 := ⟨_, rfl⟩
        have HQ : Hid (q = x / 16) := hq
        have hqb : 0 ≤ q ∧ q * 16 ≤ 255 := by omega
        have e1 : x.tdiv 16 = q := by rw [Int.tdiv_eq_ediv_of_nonneg (by omega)]; exact hq.symm
        have e2 : (q * 16).tdiv 16 = q := Int.mul_tdiv_cancel q (by omega)
        have e3 : q.tmod 2 = q % 2 := by rw [Int.tmod_eq_emod_of_nonneg (by omega)]
        clear hq hK hk hk8
        by_cases h2 : q % 2 = 0
        · skip
          have hN := fun w' h => l4Node_4 (.slice ad n c) l (q * 16 + 16) (q + 1) w' (HV.out w' h) HL.out HF.out (by show _ = _; omega) (by omega)
          have HSB : Hid (pth l x (4 + 1) = m ++ [nd l 4 (q + 1)]) := by
            show _ = _
            rw [HS.out, sib_even (S := 16) rfl HQ.out h2]
          generalize nd l 4 (q + 1) = y at *
          have h2b : (q % 2 == 0) = true := by simpa using h2
          clear HS h2
          go_wp2_with fail
          refine (hN _ hB.out).mono ?_
          rintro e w1 ⟨rfl, hb1⟩
          have hB1 := below_after_of hB.out hb1
          have ho1 := own_below ho2 hb1
          have hsz1 := hB1.size
          clear hN hb1 ho2
          go_wp2_with (at_builtin; refine wpList_append_own _ rfl _ _ 41 rfl w.heap.size 2 i0 (.int .i64 0) 1 8 Tryz.underlying41 hi hz0 hz1 hz2 rfl (by decide) _ _ _ rfl (ho1.alloc _) ⟨w1.heap.size, 0, none⟩ 1 1 [.int .i64 y] rfl rfl (World.news_of_block (heap_alloc_new _ _)) (ints_oneCell .i64 [y]) (by unfold maxLen; omega) (by omega) (by simp; omega) ?_)
          intro v2 w2 hown' hgrow _
          have hb2 : Below w.heap.size w w2 := (hB1.alloc (by omega) _).grown hgrow (by simp; omega) (fun k hk => (ho1.lt k hk).1)
          have own2 := own_one hown'
          clear hgrow hown' ho1
          go_wp2
          go_roundw
          case rel => exact ⟨4 + 1, by omega, by go_num, hb2, by rw [HSB.out]; exact own2⟩
          case measure => simp [intOf]
        · have hq1 : 1 ≤ q := by omega
          have hN := fun w' h => l4Node_4 (.slice ad n c) l (q * 16 - 16) (q - 1) w' (HV.out w' h) HL.out HF.out (by show _ = _; omega) (by omega)
          have HSB : Hid (pth l x (4 + 1) = m ++ [nd l 4 (q - 1)]) := by
            show _ = _
            rw [HS.out, sib_odd (S := 16) rfl HQ.out h2]
          generalize nd l 4 (q - 1) = y at *
          have h2b : (q % 2 == 0) = false := by simpa using h2
          clear HS h2
          go_wp2_with fail
          refine (hN _ hB.out).mono ?_
          rintro e w1 ⟨rfl, hb1⟩
          have hB1 := below_after_of hB.out hb1
          have ho1 := own_below ho2 hb1
          have hsz1 := hB1.size
          clear hN hb1 ho2
          go_wp2_with (at_builtin; refine wpList_append_own _ rfl _ _ 41 rfl w.heap.size 2 i0 (.int .i64 0) 1 8 Tryz.underlying41 hi hz0 hz1 hz2 rfl (by decide) _ _ _ rfl (ho1.alloc _) ⟨w1.heap.size, 0, none⟩ 1 1 [.int .i64 y] rfl rfl (World.news_of_block (heap_alloc_new _ _)) (ints_oneCell .i64 [y]) (by unfold maxLen; omega) (by omega) (by simp; omega) ?_)
          intro v2 w2 hown' hgrow _
          have hb2 : Below w.heap.size w w2 := (hB1.alloc (by omega) _).grown hgrow (by simp; omega) (fun k hk => (ho1.lt k hk).1)
          have own2 := own_one hown'
          clear hgrow hown' ho1
          go_wp2
          go_roundw
          case rel => exact ⟨4 + 1, by omega, by go_num, hb2, by rw [HSB.out]; exact own2⟩
          case measure => simp [intOf]
      · obtain ⟨q, hq⟩ : ∃ q : Int, q = x / 32 := ⟨_, rfl⟩
        have HQ : Hid (q = x / 32) := hq
        have hqb : 0 ≤ q ∧ q * 32 ≤ 255 := by omega
        have e1 : x.tdiv 32 = q := by rw [Int.tdiv_eq_ediv_of_nonneg (by omega)]; exact hq.symm
        have e2 : (q * 32).tdiv 32 = q := Int.mul_tdiv_cancel q (by omega)
        have e3 : q.tmod 2 = q % 2 := by rw [Int.tmod_eq_emod_of_nonneg (by omega)]
        clear hq hK hk hk8
        by_cases h2 : q % 2 = 0
        · skip
          have hN := fun w' h => l4Node_5 (.slice ad n c) l (q * 32 + 32) (q + 1) w' (HV.out w' h) HL.out HF.out (by show _ = _; omega) (by omega)
          have HSB : Hid (pth l x (5 + 1) = m ++ [nd l 5 (q + 1)]) := by
            show _ = _
            rw [HS.out, sib_even (S := 32) rfl HQ.out h2]
          generalize nd l 5 (q + 1) = y at *
          have h2b : (q % 2 == 0) = true := by simpa using h2
          clear HS h2
          go_wp2_with fail
          refine (hN _ hB.out).mono ?_
          rintro e w1 ⟨rfl, hb1⟩
          have hB1 := below_after_of hB.out hb1
          have ho1 := own_below ho2 hb1
          have hsz1 := hB1.size
          clear hN hb1 ho2
          go_wp2_with (at_builtin; refine wpList_append_own _ rfl _ _ 41 rfl w.heap.size 2 i0 (.int .i64 0) 1 8 Tryz.underlying41 hi hz0 hz1 hz2 rfl (by decide) _ _ _ rfl (ho1.alloc _) ⟨w1.heap.size, 0, none⟩ 1 1 [.int .i64 y] rfl rfl (World.news_of_block (heap_alloc_new _ _)) (ints_oneCell .i64 [y]) (by unfold maxLen; omega) (by omega) (by simp; omega) ?_)
          intro v2 w2 hown' hgrow _
          have hb2 : Below w.heap.size w w2 := (hB1.alloc (by omega) _).grown hgrow (by simp; omega) (fun k hk => (ho1.lt k hk).1)
          have own2 := own_one hown'
          clear hgrow hown' ho1
          go_wp2
          go_roundw
          case rel => exact ⟨5 + 1, by omega, by go_num, hb2, by rw [HSB.out]; exact own2⟩
          case measure => simp [intOf]
        · have hq1 : 1 ≤ q := by omega
          have hN := fun w' h => l4Node_5 (.slice ad n c) l (q * 32 - 32) (q - 1) w' (HV.out w' h) HL.out HF.out (by show _ = _; omega) (by omega)
          have HSB : Hid (pth l x (5 + 1) = m ++ [nd l 5 (q - 1)]) := by
            show _ = _
            rw [HS.out, sib_odd (S := 32) rfl HQ.out h2]
          generalize nd l 5 (q - 1) = y at *
          have h2b : (q % 2 == 0) = false := by simpa using h2
          clear HS h2
          go_wp2_with fail
          refine (hN _ hB.out).mono ?_
          rintro e w1 ⟨rfl, hb1⟩
          have hB1 := below_after_of hB.out hb1
          have ho1 := own_below ho2 hb1
          have hsz1 := hB1.size
          clear hN hb1 ho2
          go_wp2_with (at_builtin; refine wpList_append_own _ rfl _ _ 41 rfl w.heap.size 2 i0 (.int .i64 0) 1 8 Tryz.underlying41 hi hz0 hz1 hz2 rfl (by decide) _ _ _ rfl (ho1.alloc _) ⟨w1.heap.size, 0, none⟩ 1 1 [.int .i64 y] rfl rfl (World.news_of_block (heap_alloc_new _ _)) (ints_oneCell .i64 [y]) (by unfold maxLen; omega) (by omega) (by simp; omega) ?_)
          intro v2 w2 hown' hgrow _
          have hb2 : Below w.heap.size w w2 := (hB1.alloc (by omega) _).grown hgrow (by simp; omega) (fun k hk => (ho1.lt k hk).1)
          have own2 := own_one hown'
          clear hgrow hown' ho1
          go_wp2
          go_roundw
          case rel => exact ⟨5 + 1, by omega, by go_num, hb2, by rw [HSB.out]; exact own2⟩
          case measure => simp [intOf]
      · obtain ⟨q, hq⟩ : ∃ q : Int, q = x / 64 := ⟨_, rfl⟩
        have HQ : Hid (q = x / 64) := hq
        have hqb : 0 ≤ q ∧ q * 64 ≤ 255 := by omega
        have e1 : x.tdiv 64 = q := by rw [Int.tdiv_eq_ediv_of_nonneg (by omega)]; exact hq.symm
        have e2 : (q * 64).tdiv 64 = q := Int.mul_tdiv_cancel q (by omega)
        have e3 : q.tmod 2 = q % 2 := by rw [Int.tmod_eq_emod_of_nonneg (by omega)]
        clear hq hK hk hk8
        by_cases h2 : q % 2 = 0
        · skip
          have hN := fun w' h => l4Node_6 (.slice ad n c) l (q * 64 + 64) (q + 1) w' (HV.out w' h) HL.out HF.out (by show _ = _; omega) (by omega)
          have HSB : Hid (pth l x (6 + 1) = m ++ [nd l 6 (q + 1)]) := by
            show _ = _
            rw [HS.out, sib_even (S := 64) rfl HQ.out h2]
          generalize nd l 6 (q + 1) = y at *
          have h2b : (q % 2 == 0) = true := by simpa using h2
          clear HS h2
          go_wp2_with fail
          refine (hN _ hB.out).mono ?_
          rintro e w1 ⟨rfl, hb1⟩
          have hB1 := below_after_of hB.out hb1
          have ho1 := own_below ho2 hb1
          have hsz1 := hB1.size
          clear hN hb1 ho2
          go_wp2_with (at_builtin; refine wpList_append_own _ rfl _ _ 41 rfl w.heap.size 2 i0 (.int .i64 0) 1 8 Tryz.underlying41 hi hz0 hz1 hz2 rfl (by decide) _ _ _ rfl (ho1.alloc _) ⟨w1.heap.size, 0, none⟩ 1 1 [.int .i64 y] rfl rfl (World.news_of_block (heap_alloc_new _ _)) (ints_oneCell .i64 [y]) (by unfold maxLen; omega) (by omega) (by simp; omega) ?_)
          intro v2 w2 hown' hgrow _
          have hb2 : Below w.heap.size w w2 := (hB1.alloc (by omega) _).grown hgrow (by simp; omega) (fun k hk => (ho1.lt k hk).1)
          have own2 := own_one hown'
          clear hgrow hown' ho1
          go_wp2
          go_roundw
          case rel => exact ⟨6 + 1, by omega, by go_num, hb2, by rw [HSB.out]; exact own2⟩
          case measure => simp [intOf]
        · have hq1 : 1 ≤ q := by omega
          have hN := fun w' h => l4Node_6 (.slice ad n c) l (q * 64 - 64) (q - 1) w' (HV.out w' h) HL.out HF.out (by show _ = _; omega) (by omega)
          have HSB : Hid (pth l x (6 + 1) = m ++ [nd l 6 (q - 1)]) := by
            show _ = _
            rw [HS.out, sib_odd (S := 64) rfl HQ.out h2]
          generalize nd l 6 (q - 1) = y at *
          have h2b : (q % 2 == 0) = false := by simpa using h2
          clear HS h2
          go_wp2_with fail
          refine (hN _ hB.out).mono ?_
          rintro e w1 ⟨rfl, hb1⟩
          have hB1 := below_after_of hB.out hb1
          have ho1 := own_below ho2 hb1
          have hsz1 := hB1.size
          clear hN hb1 ho2
          go_wp2_with (at_builtin; refine wpList_append_own _ rfl _ _ 41 rfl w.heap.size 2 i0 (.int .i64 0) 1 8 Tryz.underlying41 hi hz0 hz1 hz2 rfl (by decide) _ _ _ rfl (ho1.alloc _) ⟨w1.heap.size, 0, none⟩ 1 1 [.int .i64 y] rfl rfl (World.news_of_block (heap_alloc_new _ _)) (ints_oneCell .i64 [y]) (by unfold maxLen; omega) (by omega) (by simp; omega) ?_)
          intro v2 w2 hown' hgrow _
          have hb2 : Below w.heap.size w w2 := (hB1.alloc (by omega) _).grown hgrow (by simp; omega) (fun k hk => (ho1.lt k hk).1)
          have own2 := own_one hown'
          clear hgrow hown' ho1
          go_wp2
          go_roundw
          case rel => exact ⟨6 + 1, by omega, by go_num, hb2, by rw [HSB.out]; exact own2⟩
          case measure => simp [intOf]
      · obtain ⟨q, hq⟩ : ∃ q : Int, q = x / 128 := ⟨_, rfl⟩
        have HQ : Hid (q = x / 128) := hq
        have hqb : 0 ≤ q ∧ q * 128 ≤ 255 := by omega
        have e1 : x.tdiv 128 = q := by rw [Int.tdiv_eq_ediv_of_nonneg (by omega)]; exact hq.symm
        have e2 : (q * 128).tdiv 128 = q := Int.mul_tdiv_cancel q (by omega)
        have e3 : q.tmod 2 = q % 2 := by rw [Int.tmod_eq_emod_of_nonneg (by omega)]
        clear hq hK hk hk8
        by_cases h2 : q % 2 = 0
        · skip
          have hN := fun w' h => l4Node_7 (.slice ad n c) l (q * 128 + 128) (q + 1) w' (HV.out w' h) HL.out HF.out (by show _ = _; omega) (by omega)
          have HSB : Hid (pth l x (7 + 1) = m ++ [nd l 7 (q + 1)]) := by
            show _ = _
            rw [HS.out, sib_even (S := 128) rfl HQ.out h2]
          generalize nd l 7 (q + 1) = y at *
          have h2b : (q % 2 == 0) = true := by simpa using h2
          clear HS h2
          go_wp2_with fail
          refine (hN _ hB.out).mono ?_
          rintro e w1 ⟨rfl, hb1⟩
          have hB1 := below_after_of hB.out hb1
          have ho1 := own_below ho2 hb1
          have hsz1 := hB1.size
          clear hN hb1 ho2
          go_wp2_with (at_builtin; refine wpList_append_own _ rfl _ _ 41 rfl w.heap.size 2 i0 (.int .i64 0) 1 8 Tryz.underlying41 hi hz0 hz1 hz2 rfl (by decide) _ _ _ rfl (ho1.alloc _) ⟨w1.heap.size, 0, none⟩ 1 1 [.int .i64 y] rfl rfl (World.news_of_block (heap_alloc_new _ _)) (ints_oneCell .i64 [y]) (by unfold maxLen; omega) (by omega) (by simp; omega) ?_)
          intro v2 w2 hown' hgrow _
          have hb2 : Below w.heap.size w w2 := (hB1.alloc (by omega) _).grown hgrow (by simp; omega) (fun k hk => (ho1.lt k hk).1)
          have own2 := own_one hown'
          clear hgrow hown' ho1
          go_wp2
          go_roundw
          case rel => exact ⟨7 + 1, by omega, by go_num, hb2, by rw [HSB.out]; exact own2⟩
          case measure => simp [intOf]
        · have hq1 : 1 ≤ q := by omega
          have hN := fun w' h => l4Node_7 (.slice ad n c) l (q * 128 - 128) (q - 1) w' (HV.out w' h) HL.out HF.out (by show _ = _; omega) (by omega)
          have HSB : Hid (pth l x (7 + 1) = m ++ [nd l 7 (q - 1)]) := by
            show _ = _
            rw [HS.out, sib_odd (S := 128) rfl HQ.out h2]
          generalize nd l 7 (q - 1) = y at *
          have h2b : (q % 2 == 0) = false := by simpa using h2
          clear HS h2
          go_wp2_with fail
          refine (hN _ hB.out).mono ?_
          rintro e w1 ⟨rfl, hb1⟩
          have hB1 := below_after_of hB.out hb1
          have ho1 := own_below ho2 hb1
          have hsz1 := hB1.size
          clear hN hb1 ho2
          go_wp2_with (at_builtin; refine wpList_append_own _ rfl _ _ 41 rfl w.heap.size 2 i0 (.int .i64 0) 1 8 Tryz.underlying41 hi hz0 hz1 hz2 rfl (by decide) _ _ _ rfl (ho1.alloc _) ⟨w1.heap.size, 0, none⟩ 1 1 [.int .i64 y] rfl rfl (World.news_of_block (heap_alloc_new _ _)) (ints_oneCell .i64 [y]) (by unfold maxLen; omega) (by omega) (by simp; omega) ?_)
          intro v2 w2 hown' hgrow _
          have hb2 : Below w.heap.size w w2 := (hB1.alloc (by omega) _).grown hgrow (by simp; omega) (fun k hk => (ho1.lt k hk).1)
          have own2 := own_one hown'
          clear hgrow hown' ho1
          go_wp2
          go_roundw
          case rel => exact ⟨7 + 1, by omega, by go_num, hb2, by rw [HSB.out]; exact own2⟩
          case measure => simp [intOf]
    · have hk8 : k = 8 := by omega
      subst hk8 hK
      obtain ⟨a', c', rfl⟩ := own_shape ho.out
      go_wp2
      go_ret
      exact ⟨_, rfl, ho.out, hB.out⟩
end U
end Go.Proofs.YtljbcpkjhnbpeaaGreatDoor

/- Climbing from a leaf, by mathematics alone. -/
namespace Go.Proofs.YtljbcpkjhnbpeaaGreatDoor
open Go.RowKit
namespace U
/-- The sum at a level, and the two sums below the next one. -/
def clm (x s : Int) (p : List Int) : Nat → Int
  | 0 => s
  | n + 1 => if x / (2 ^ n : Nat) % 2 = 0 then t2 (clm x s p n) (p.getD n 0) else t2 (p.getD n 0) (clm x s p n)
def sdL (x s : Int) (p : List Int) (n : Nat) : Int := if x / (2 ^ n : Nat) % 2 = 0 then clm x s p n else p.getD n 0
def sdR (x s : Int) (p : List Int) (n : Nat) : Int := if x / (2 ^ n : Nat) % 2 = 0 then p.getD n 0 else clm x s p n
theorem clm_zero (x s : Int) (p : List Int) : clm x s p 0 = s := rfl
theorem clm_succ (x s : Int) (p : List Int) (n : Nat) : clm x s p (n + 1) = t2 (sdL x s p n) (sdR x s p n) := by
  unfold sdL sdR
  rw [clm]
  split <;> rfl
theorem clm_even {x s : Int} {p : List Int} {n : Nat} (h : x / (2 ^ n : Nat) % 2 = 0) : clm x s p (n + 1) = t2 (clm x s p n) (p.getD n 0) := by rw [clm, if_pos h]
theorem clm_odd {x s : Int} {p : List Int} {n : Nat} (h : ¬ x / (2 ^ n : Nat) % 2 = 0) : clm x s p (n + 1) = t2 (p.getD n 0) (clm x s p n) := by rw [clm, if_neg h]
theorem clm_bd {x s : Int} {p : List Int} (h : 0 ≤ s ∧ s ≤ 65520) (n : Nat) : 0 ≤ clm x s p n ∧ clm x s p n ≤ 65520 := by
  cases n with
  | zero => exact h
  | succ n => rw [clm_succ]; exact t2_bd _ _
theorem path_at {p : List Int} (h : p.all sumB = true) (n : Nat) : 0 ≤ p.getD n 0 ∧ p.getD n 0 ≤ 65520 := by
  by_cases hn : n < p.length
  · rw [getD_eq hn]
    exact (sumB_iff _).1 (List.all_eq_true.1 h _ (List.getElem_mem hn))
  · rw [List.getD_eq_getElem?_getD, List.getElem?_eq_none (by omega)]; simp
theorem sd_bd {x s : Int} {p : List Int} (h : 0 ≤ s ∧ s ≤ 65520) (hp : p.all sumB = true) (n : Nat) : (0 ≤ sdL x s p n ∧ sdL x s p n ≤ 65520) ∧ 0 ≤ sdR x s p n ∧ sdR x s p n ≤ 65520 := by
  unfold sdL sdR
  have h1 := clm_bd (x := x) (p := p) h n
  have h2 := path_at hp n
  split
  · exact ⟨h1, h2⟩
  · exact ⟨h2, h1⟩
theorem clm_take {x s : Int} {p : List Int} {i : Nat} : ∀ n, n ≤ i → clm x s (p.take i) n = clm x s p n := by
  intro n
  induction n with
  | zero => intro _; rfl
  | succ n ih =>
    intro h
    have e : (p.take i).getD n 0 = p.getD n 0 := by
      rw [List.getD_eq_getElem?_getD, List.getD_eq_getElem?_getD, List.getElem?_take, if_pos (by omega)]
    rw [clm, clm, ih (by omega), e]
/-- A part is the sum above its two halves, whether it has a slot or not. -/
theorem nd_both (l : Prl) (n : Nat) (q : Int) : nd l (n + 1) q = t2 (nd l n (2 * q)) (nd l n (2 * q + 1)) := by
  rw [nd_succ]
  split
  · rfl
  · rename_i h
    rw [has_succ] at h
    rw [nd_none (fun e => h (Or.inl e)), nd_none (fun e => h (Or.inr e))]
    rfl
theorem pth_at (l : Prl) (x : Int) : ∀ (m n : Nat), n < m → (pth l x m).getD n 0 = nd l n (sib x n) := by
  intro m
  induction m with
  | zero => intro n h; omega
  | succ m ih =>
    intro n h
    rw [pth]
    by_cases hn : n < m
    · rw [← ih n hn, List.getD_eq_getElem?_getD, List.getD_eq_getElem?_getD, List.getElem?_append_left (by rw [pth_len]; exact hn)]
    · have : n = m := by omega
      subst this
      rw [List.getD_eq_getElem?_getD, List.getElem?_append_right (by rw [pth_len]; exact Nat.le_refl _), pth_len]
      simp
/-- Of a tree as it is, climbing is the sum of the part. -/
theorem clm_honest (l : Prl) (x : Int) {s : Int} (hs : s = nd l 0 x) : ∀ n, n ≤ 8 → clm x s (pth l x 8) n = nd l n (x / (2 ^ n : Nat)) := by
  intro n
  induction n with
  | zero => intro _; rw [clm_zero, hs]; simp
  | succ n ih =>
    intro h
    have e1 := pth_at l x 8 n (by omega)
    have e2 := ih (by omega)
    have hd := div_succ x n
    generalize hq : x / (2 ^ n : Nat) = q at *
    rw [nd_both, hd]
    by_cases h0 : q % 2 = 0
    · have hs := sib_even (x := x) (q := q) (n := n) rfl hq.symm h0
      rw [clm_even (by rw [hq]; exact h0), e1, e2, hs, show 2 * (q / 2) = q by omega]
    · have hs := sib_odd (x := x) (q := q) (n := n) rfl hq.symm h0
      rw [clm_odd (by rw [hq]; exact h0), e1, e2, hs, show 2 * (q / 2) = q - 1 by omega, show q - 1 + 1 = q by omega]
theorem pth_ok (l : Prl) (x : Int) : ∀ m, (pth l x m).all sumB = true := by
  intro m
  induction m with
  | zero => rfl
  | succ m ih =>
    rw [pth, List.all_append, ih]
    simp [sumB_iff, nd_bd]
/-- What is summed for the leaf of a key, as there is. -/
def lfT (l : Prl) (x : Int) : List Int := leafL x (thr l x) (fsV l x)
theorem lfT_there {l : Prl} {x : Int} (h0 : slF l = 0) (h : thr l x = true) : lfT l x = tagL 3 [x, (pAt l (low l x)).2] := by
  unfold lfT fsV leafL
  rw [if_pos h, if_pos ⟨h0, h⟩]
theorem lfT_none {l : Prl} {x : Int} (h : thr l x = false) : lfT l x = [] := by
  unfold lfT leafL
  rw [h]; simp
theorem lfT_sum {l : Prl} {x : Int} (h0 : slF l = 0) : sumL (lfT l x) = nd l 0 x := by
  have hl := slF_ok h0
  rcases Bool.eq_false_or_eq_true (thr l x) with h | h
  · rw [lfT_there h0 h]
    have hlt := thr_lt h
    have hk : (pAt l (low l x)).1 = x := by
      unfold thr at h
      rw [Bool.and_eq_true] at h
      exact of_decide_eq_true h.2
    unfold nd
    have : l.find? (fun p => p.1 == x) = some (pAt l (low l x)) := by
      rw [List.find?_eq_some_iff_getElem]
      refine ⟨by simp [hk], low l x, hlt, (pAt_eq hlt).symm, fun j hj => ?_⟩
      have := (low_iff hl.ris x (Nat.lt_trans hj hlt)).2 hj
      rw [pAt_eq (Nat.lt_trans hj hlt)] at this
      simp
      omega
    rw [this]
    show _ = sumL (tagL 3 [(pAt l (low l x)).1, (pAt l (low l x)).2])
    rw [hk]
  · rw [lfT_none h]
    unfold nd
    have : l.find? (fun p => p.1 == x) = none := by
      rw [List.find?_eq_none]
      intro p hp e
      have := (thr_iff hl.ris x).2 ⟨p, hp, (beq_iff_eq).1 e⟩
      rw [h] at this; cases this
    rw [this]
    rfl
theorem lfT_askd {l : Prl} {x : Int} (h0 : slF l = 0) (hx : 0 ≤ x ∧ x ≤ 255) : askd x (thr l x) (fsV l x) = true := by
  have hl := slF_ok h0
  rcases Bool.eq_false_or_eq_true (thr l x) with h | h
  · have e : fsV l x = (pAt l (low l x)).2 := by unfold fsV; rw [if_pos ⟨h0, h⟩]
    rw [h, lb_there (inB_t hx.1 hx.2), e, sumB_iff]
    exact (hl.at (thr_lt h)).2
  · have e : fsV l x = 0 := by unfold fsV; rw [if_neg (by rw [h]; simp)]
    rw [h, lb_none (inB_t hx.1 hx.2), e]
    rfl
/-- What climbing answers. -/
def coC (x : Int) (b : Bool) (v : Int) (p : List Int) : Int := if askd x b v = true then (if p.length = 8 then (if p.all sumB = true then 0 else 3) else 9) else 3
def coV (x : Int) (b : Bool) (v : Int) (p : List Int) : Int := if askd x b v = true ∧ p.length = 8 ∧ p.all sumB = true then clm x (sumL (leafL x b v)) p 8 else 0
end U
end Go.Proofs.YtljbcpkjhnbpeaaGreatDoor

/- Climbing, by the program. -/
namespace Go.Proofs.YtljbcpkjhnbpeaaGreatDoor
open Go.RowKit
namespace U
/-- Eight values in a block. -/
structure ArrV (w : World) (g : Nat) (f : Nat → Value) : Prop where
  c : ∀ j, j < 8 → w.cell? ⟨g, j, none⟩ = some (f j)
  z : ∀ j, j < 8 → w.frozen? ⟨g, j, none⟩ = false
def arrV (f : Nat → Value) : Array Value := #[f 0, f 1, f 2, f 3, f 4, f 5, f 6, f 7]
theorem lt8 {j : Nat} (h : j < 8) : j = 0 ∨ j = 1 ∨ j = 2 ∨ j = 3 ∨ j = 4 ∨ j = 5 ∨ j = 6 ∨ j = 7 := by omega
theorem ArrV.of {w : World} {g : Nat} {f : Nat → Value} {t : TypeId} (h : w.heap[g]? = some (.cells (arrV f) t)) : ArrV w g f := by
  constructor
  · intro j hj
    rcases lt8 hj with rfl | rfl | rfl | rfl | rfl | rfl | rfl | rfl <;> (unfold World.cell?; rw [h]; rfl)
  · intro j hj
    rcases lt8 hj with rfl | rfl | rfl | rfl | rfl | rfl | rfl | rfl <;> (unfold World.frozen?; rw [h]; rfl)
theorem ArrV.below {w w' : World} {g B : Nat} {f : Nat → Value} (h : ArrV w g f) (hb : Below B w w') (hg : g < B) : ArrV w' g f :=
  ⟨fun j hj => (hb.cell (p := ⟨g, j, none⟩) hg).trans (h.c j hj), fun j hj => (hb.frozen (p := ⟨g, j, none⟩) hg).trans (h.z j hj)⟩
theorem ArrV.set {w : World} {g k : Nat} {f : Nat → Value} (h : ArrV w g f) (hk : k < 8) (x : Value) : ArrV (w.setCell ⟨g, k, none⟩ x) g (fun j => if j = k then x else f j) := by
  refine ⟨fun j hj => ?_, fun j hj => (World.frozen?_setCell _ _ _ _).trans (h.z j hj)⟩
  by_cases e : j = k
  · subst e
    rw [if_pos rfl]
    exact World.cell?_setCell_same _ _ _ (h.c j hj)
  · rw [if_neg e]
    exact (World.cell?_setCell_other _ _ _ _ (by simp)).trans (h.c j hj)
theorem ArrV.other {w : World} {g k b : Nat} {f : Nat → Value} (h : ArrV w g f) (hb : b ≠ g) (x : Value) : ArrV (w.setCell ⟨b, k, none⟩ x) g f :=
  ⟨fun j hj => (World.cell?_setCell_other _ _ _ _ (by simp)).trans (h.c j hj), fun j hj => (World.frozen?_setCell _ _ _ _).trans (h.z j hj)⟩
theorem ArrV.cells {w : World} {g : Nat} {f : Nat → Value} (h : ArrV w g f) : w.cell? ⟨g, 0, none⟩ = some (f 0) ∧ w.cell? ⟨g, 1, none⟩ = some (f 1) ∧ w.cell? ⟨g, 2, none⟩ = some (f 2) ∧ w.cell? ⟨g, 3, none⟩ = some (f 3) ∧ w.cell? ⟨g, 4, none⟩ = some (f 4) ∧ w.cell? ⟨g, 5, none⟩ = some (f 5) ∧ w.cell? ⟨g, 6, none⟩ = some (f 6) ∧ w.cell? ⟨g, 7, none⟩ = some (f 7) :=
  ⟨h.c 0 (by omega), h.c 1 (by omega), h.c 2 (by omega), h.c 3 (by omega), h.c 4 (by omega), h.c 5 (by omega), h.c 6 (by omega), h.c 7 (by omega)⟩
theorem ArrV.froz {w : World} {g : Nat} {f : Nat → Value} (h : ArrV w g f) : w.frozen? ⟨g, 0, none⟩ = false ∧ w.frozen? ⟨g, 1, none⟩ = false ∧ w.frozen? ⟨g, 2, none⟩ = false ∧ w.frozen? ⟨g, 3, none⟩ = false ∧ w.frozen? ⟨g, 4, none⟩ = false ∧ w.frozen? ⟨g, 5, none⟩ = false ∧ w.frozen? ⟨g, 6, none⟩ = false ∧ w.frozen? ⟨g, 7, none⟩ = false :=
  ⟨h.z 0 (by omega), h.z 1 (by omega), h.z 2 (by omega), h.z 3 (by omega), h.z 4 (by omega), h.z 5 (by omega), h.z 6 (by omega), h.z 7 (by omega)⟩
theorem ArrV.congr {w : World} {g : Nat} {f f' : Nat → Value} (h : ArrV w g f) (e : ∀ j, j < 8 → f j = f' j) : ArrV w g f' := ⟨fun j hj => by rw [← e j hj]; exact h.c j hj, h.z⟩
/-- A scope with one label to which the run jumps back: a pass is walked once. -/
theorem wp_scope_once {P : Program} {a : Act} {w : World} {Q : Exit → Act → World → Prop} {c R : Code} (l : Nat) (J : Act → World → Prop) (μ : Act → World → Nat) (hf : findLabel c l = some (Code.skip.seq R))
    (pass : ∀ a w, J a w → R.wp P (Exit.jump l (fun a' w' => J a' w' ∧ μ a' w' < μ a w) Q) a w)
    (first : (∀ a w, J a w → R.wp P (Exit.jump l J Q) a w) → c.wp P (Exit.jump l J Q) a w) : (Code.scope c).wp P Q a w := by
  refine wp_scope_jumps l J μ hf (first fun a w h => Code.wp_mono ?_ (pass a w h)) (fun a w h => wp_seq (wp_skip (pass a w h)))
  intro e a' w' h'
  cases e <;> first | exact h' | exact ⟨h'.1, h'.2.1⟩
theorem two_lie (w : World) (o o' : Obj) : ((w.alloc o).alloc o').heap[w.heap.size]? = some o ∧ ((w.alloc o).alloc o').heap[w.heap.size + 1]? = some o' := by
  have h1 := heap_alloc_new (w.alloc o) o'
  simp only [World.size_alloc] at h1
  exact ⟨(Below.heap_alloc _ _ _ (by simp)).trans (heap_alloc_new w o), h1⟩
/-- The nodes up to a level, as numbers; nothing behind it. -/
def nds (x s : Int) (p : List Int) (k j : Nat) : Value := if j < k then cx (sdL x s p j) (sdR x s p j) else .complex .f64 0 0
theorem nds_set (x s : Int) (p : List Int) (k : Nat) : ∀ j, j < 8 → (fun j => if j = k then cx (sdL x s p k) (sdR x s p k) else nds x s p k j) j = nds x s p (k + 1) j := by
  intro j _
  show (if j = k then cx (sdL x s p k) (sdR x s p k) else nds x s p k j) = nds x s p (k + 1) j
  unfold nds
  by_cases e : j = k
  · subst e
    rw [if_pos rfl, if_pos (by omega)]
  · rw [if_neg e]
    by_cases e2 : j < k
    · rw [if_pos e2, if_pos (by omega)]
    · rw [if_neg e2, if_neg (by omega)]
def zro : Nat → Value := fun _ => .complex .f64 0 0
theorem ArrV.zcells {w : World} {g : Nat} (h : ArrV w g zro) : w.cell? ⟨g, 0, none⟩ = some (.complex .f64 0 0) ∧ w.cell? ⟨g, 1, none⟩ = some (.complex .f64 0 0) ∧ w.cell? ⟨g, 2, none⟩ = some (.complex .f64 0 0) ∧ w.cell? ⟨g, 3, none⟩ = some (.complex .f64 0 0) ∧ w.cell? ⟨g, 4, none⟩ = some (.complex .f64 0 0) ∧ w.cell? ⟨g, 5, none⟩ = some (.complex .f64 0 0) ∧ w.cell? ⟨g, 6, none⟩ = some (.complex .f64 0 0) ∧ w.cell? ⟨g, 7, none⟩ = some (.complex .f64 0 0) := h.cells
theorem nds_zero (x s : Int) (p : List Int) : nds x s p 0 = zro := by
  funext j
  unfold nds zro
  rw [if_neg (by omega)]
set_option maxRecDepth 100000 in
set_option maxHeartbeats 4000000 in
theorem climb_any (x : Int) (v u : Value) (ls p : List Int) (w : World) (hx : 0 ≤ x ∧ x ≤ 255) (hv : Ints .u8 w v ls) (hB : Bts ls) (hl : ls.length ≤ 200) (hu : Ints .i64 w u p) (hp : p.length = 8) (hs : p.all sumB = true) :
    Calls Tryz.prog 164 #[.int .i64 x, v, u] w fun e w' => e = .returned (.tuple #[.agg (arrV (nds x (sumL ls) p 8)), .int .i64 (clm x (sumL ls) p 8)]) ∧ Below w.heap.size w w' := by
  have hS := fun w' h => implSumOf_any v ls w' (hv.below h) hB (by omega)
  rw [(sm_ok (bs := ls) (by omega)).1, (sm_ok (bs := ls) (by omega)).2] at hS
  have hsb := sumL_bd ls
  have hR := fun n => clm_bd (x := x) (p := p) hsb n
  have hD := fun n => sd_bd (x := x) hsb hs n
  obtain ⟨va, vc, rfl⟩ := hv.shape
  generalize ls.length = vn at *
  generalize sumL ls = s0 at *
  obtain ⟨ua, uc, rfl⟩ := hu.shape
  obtain ⟨-, b, off, rfl, hb, hc⟩ := hu.at (by omega : 0 < p.length)
  rw [hp] at hu hc ⊢
  have kf := fun w => field_IR1 0 s0 w
  have HC : Hid (∀ w', Below w.heap.size w w' → ∀ j, j < 8 → w'.cell? ⟨b, off + j, none⟩ = some (.int .i64 (p.getD j 0))) := fun w' h j hj => (h.cell (p := ⟨b, off + j, none⟩) hb).trans (hc j hj)
  clear hu hv hc hB hl
  have HZ0 : Hid (nds x s0 p 0 = zro) := nds_zero x s0 p
  go_enter Tryz.func164, Tryz.ntmps164
  go_wp2
  rename_i Q0
  have HQ : Hid (∀ a' w', bodyPost Tryz.prog Tryz.f164 (fun e w' => e = .returned (.tuple #[.agg (arrV (nds x s0 p 8)), .int .i64 (clm x s0 p 8)]) ∧ Below w.heap.size w w') .ret a' w' → Q0 .ret a' w') := fun _ _ h => h
  clear_value Q0
  refine wp_scope_once 0 (fun a' w' => ∃ (k : Nat) (u14 u15 u16 u17 u18 u19 u20 u21 u22 u23 u24 u25 u26 u27 u28 u29 u30 u31 u32 u33 u34 : Value), k < 8 ∧ a' = { tmps := #[.int .i64 x, .slice va vn vc, .slice (some ⟨b, off, none⟩) 8 uc, undef, undef, undef, .pointer (some ⟨w.heap.size, 0, none⟩), .int .i64 0, .pointer (some ⟨w.heap.size + 1, 0, none⟩), .int .i64 (clm x s0 p k), .int .i64 k, .slice va vn vc, .agg #[.int .i64 0, .int .i64 s0], .int .i64 s0, u14, u15, u16, u17, u18, u19, u20, u21, u22, u23, u24, u25, u26, u27, u28, u29, u30, u31, u32, u33, u34], defers := [] } ∧ w.heap.size + 1 < w'.heap.size ∧ Hid (Below w.heap.size w w') ∧ Hid (ArrV w' (w.heap.size + 1) (nds x s0 p k)) ∧ Hid (ArrV w' w.heap.size zro)) (fun a' _ => 8 - (intOf (a'.tmps.getD 10 undef)).toNat) rfl ?_ ?_
  · rintro a' wr ⟨k, u14, u15, u16, u17, u18, u19, u20, u21, u22, u23, u24, u25, u26, u27, u28, u29, u30, u31, u32, u33, u34, hk, rfl, hsz, HB, HA, HZ⟩
    have ck := HC.out _ HB.out k hk
    have hck := HA.out.c k hk
    have hcz := HA.out.z k hk
    have hk0 : (0 : Int) ≤ (k : Int) := by omega
    have hk8 : (k : Int) < 8 := by omega
    have hkw : IntKind.i64.wrap ((k : Int) + 1) = (k : Int) + 1 := by rw [IntKind.wrap_i64]; omega
    have hAB := hD k
    have hnx : Hid (clm x s0 p (k + 1) = t2 (sdL x s0 p k) (sdR x s0 p k)) := clm_succ x s0 p k
    have hset : Hid (ArrV (wr.setCell ⟨w.heap.size + 1, k, none⟩ (cx (sdL x s0 p k) (sdR x s0 p k))) (w.heap.size + 1) (nds x s0 p (k + 1))) := (HA.out.set hk _).congr (nds_set x s0 p k)
    have hz2 : Hid (ArrV (wr.setCell ⟨w.heap.size + 1, k, none⟩ (cx (sdL x s0 p k) (sdR x s0 p k))) w.heap.size zro) := HZ.out.other (k := k) (b := w.heap.size + 1) (by omega) _
    have hB2 : Hid (Below w.heap.size w (wr.setCell ⟨w.heap.size + 1, k, none⟩ (cx (sdL x s0 p k) (sdR x s0 p k)))) := HB.out.setCell (Nat.le_succ _) _
    have hS0 : ∀ w', Calls Tryz.prog 184 #[.int .i64 (x / 2 ^ k), .int .i64 (clm x s0 p k), .int .i64 (p.getD k 0)] w' fun e w'' => e = .returned (cx (sdL x s0 p k) (sdR x s0 p k)) ∧ w'' = w' := by
      intro w'
      have e : x / 2 ^ k = x / (2 ^ k : Nat) := by simp
      rw [e]
      have hq : 0 ≤ x / (2 ^ k : Nat) := Int.ediv_nonneg hx.1 (Int.natCast_nonneg _)
      unfold sdL sdR
      split
      · exact bothSides_even _ _ _ w' hq (by assumption)
      · exact bothSides_odd _ _ _ w' hq (by assumption)
    have hN0 := fun w' => nodeSum_any _ _ w' hAB.1 hAB.2
    rw [← hnx.out] at hN0
    have hck2 : (wr.setCell ⟨w.heap.size + 1, k, none⟩ (cx (sdL x s0 p k) (sdR x s0 p k))).cell? ⟨w.heap.size + 1, k, none⟩ = some (cx (sdL x s0 p k) (sdR x s0 p k)) := World.cell?_setCell_same _ _ _ hck
    clear hAB hnx hD hR HA HZ HB
    generalize hcv : cx (sdL x s0 p k) (sdR x s0 p k) = cv at *
    obtain ⟨fa, fb, rfl⟩ : ∃ fa fb, cv = .complex .f64 fa fb := ⟨_, _, hcv.symm⟩
    clear hcv
    generalize p.getD k 0 = o at *
    generalize hcc : clm x s0 p k = cc at *
    generalize hcd : clm x s0 p (k + 1) = cd at *
    have HCC : Hid (clm x s0 p k = cc) := hcc
    have HCD : Hid (clm x s0 p (k + 1) = cd) := hcd
    clear hcc hcd
    have kst := fun (w : World) (a : Addr) (m : Mode) => run_store Tryz.prog w a (.complex .f64 fa fb) m rfl
    have hd1 : wr.drew.cell? ⟨w.heap.size + 1, k, none⟩ = some (nds x s0 p k k) := hck
    have hd2 : wr.drew.frozen? ⟨w.heap.size + 1, k, none⟩ = false := hcz
    go_wp2
    go_region_held3 (fun w' => w'.cell? ⟨b, off + k, none⟩ = some (.int .i64 o))
      (first | exact ck | exact (World.cell?_setCell_other _ _ _ _ (by simp)).trans ck)
      (first | (go_at_call 184; refine (hS0 _).mono ?_; rintro e wq ⟨rfl, rfl⟩))
    obtain ⟨W2, hW2⟩ : ∃ W2, W2 = (wr.setCell ⟨w.heap.size + 1, k, none⟩ (.complex .f64 fa fb)).drew := ⟨_, rfl⟩
    have hck3 : W2.cell? ⟨w.heap.size + 1, k, none⟩ = some (.complex .f64 fa fb) := by rw [hW2]; exact hck2
    have hset : Hid (ArrV W2 (w.heap.size + 1) (nds x s0 p (k + 1))) := by rw [hW2]; exact ⟨hset.out.c, hset.out.z⟩
    have hz2 : Hid (ArrV W2 w.heap.size zro) := by rw [hW2]; exact ⟨hz2.out.c, hz2.out.z⟩
    have hB2 : Hid (Below w.heap.size w W2) := by rw [hW2]; exact hB2.out.drew
    have hsz2 : w.heap.size + 1 < W2.heap.size := by rw [hW2]; simpa using hsz
    rw [← hW2]
    clear hW2 hck hcz hck2 hd1 hd2 ck kst hS0 hsz
    go_wp2_with fail
    refine (hN0 _).mono ?_
    rintro e w3 ⟨rfl, hb3⟩
    have hset3 : Hid (ArrV w3 (w.heap.size + 1) (nds x s0 p (k + 1))) := hset.out.below hb3 hsz2
    have hz3 : Hid (ArrV w3 w.heap.size zro) := hz2.out.below hb3 (by omega)
    have hB3 : Hid (Below w.heap.size w w3) := below_after_of hB2.out hb3
    clear hset hz2 hB2
    have hsz3 : w.heap.size + 1 < w3.heap.size := Nat.lt_of_lt_of_le hsz2 hb3.size
    clear hN0 hb3 hck3 hsz2
    by_cases h7 : k = 7
    · subst h7
      obtain ⟨c0, c1, c2, c3, c4, c5, c6, c7⟩ := hset3.out.cells
      obtain ⟨d0, d1, d2, d3, d4, d5, d6, d7⟩ := hz3.out.zcells
      obtain ⟨z0, z1, z2, z3, z4, z5, z6, z7⟩ := hz3.out.froz
      have HF : Hid (∀ j, j < 8 → ∃ r i, nds x s0 p 8 j = .complex .f64 r i) := fun j hj => by
        unfold nds
        rw [if_pos hj]
        exact ⟨_, _, rfl⟩
      obtain ⟨r0, i0, e0⟩ := HF.out 0 (by omega)
      obtain ⟨r1, i1, e1⟩ := HF.out 1 (by omega)
      obtain ⟨r2, i2, e2⟩ := HF.out 2 (by omega)
      obtain ⟨r3, i3, e3⟩ := HF.out 3 (by omega)
      obtain ⟨r4, i4, e4⟩ := HF.out 4 (by omega)
      obtain ⟨r5, i5, e5⟩ := HF.out 5 (by omega)
      obtain ⟨r6, i6, e6⟩ := HF.out 6 (by omega)
      obtain ⟨r7, i7, e7⟩ := HF.out 7 (by omega)
      have HR : Hid (arrV (nds x s0 p 8) = #[.complex .f64 r0 i0, .complex .f64 r1 i1, .complex .f64 r2 i2, .complex .f64 r3 i3, .complex .f64 r4 i4, .complex .f64 r5 i5, .complex .f64 r6 i6, .complex .f64 r7 i7]) := by
        show arrV _ = _
        unfold arrV
        rw [e0, e1, e2, e3, e4, e5, e6, e7]
      rw [e0] at c0
      rw [e1] at c1
      rw [e2] at c2
      rw [e3] at c3
      rw [e4] at c4
      rw [e5] at c5
      rw [e6] at c6
      rw [e7] at c7
      have kst := fun (w : World) (a : Addr) (m : Mode) (r i : Nat) => run_store Tryz.prog w a (.complex .f64 r i) m rfl
      have HCD : Hid (clm x s0 p 8 = cd) := HCD.out
      clear HF e0 e1 e2 e3 e4 e5 e6 e7 HCC hset3 hz3
      go_wp2
      have hB := hB3.out
      show Q0 .ret _ _
      refine HQ.out _ _ ?_
      exact bodyPost_ret (v := .tuple #[.agg #[.complex .f64 r0 i0, .complex .f64 r1 i1, .complex .f64 r2 i2, .complex .f64 r3 i3, .complex .f64 r4 i4, .complex .f64 r5 i5, .complex .f64 r6 i6, .complex .f64 r7 i7], .int .i64 cd]) (by simp [results, Tryz.results164, go_sem, d0, d1, d2, d3, d4, d5, d6, d7]) rfl ⟨by rw [HR.out, HCD.out], ((((((((hB.setCell (Nat.le_refl _) _).setCell (Nat.le_refl _) _).setCell (Nat.le_refl _) _).setCell (Nat.le_refl _) _).setCell (Nat.le_refl _) _).setCell (Nat.le_refl _) _).setCell (Nat.le_refl _) _).setCell (Nat.le_refl _) _)⟩
    · have hk7 : (k : Int) + 1 < 8 := by omega
      go_wp2
      go_step3
      have hcd := HCD.out
      subst hcd
      refine ⟨rfl, ⟨k + 1, _, _, _, _, _, _, _, _, _, _, _, _, _, _, _, _, _, _, _, _, _, by omega, rfl, hsz3, hB3, hset3, hz3⟩, ?_⟩
      simp [intOf]
      omega
  · intro hpass
    go_wp2_with fail
    refine (hS _ ?_).mono ?_
    · exact two_new _ _
    rintro e w1 ⟨rfl, hb1⟩
    have A1 : ArrV w1 (w.heap.size + 1) (nds x s0 p 0) := by
      rw [HZ0.out]
      exact ArrV.of (f := zro) ((hb1.block (w.heap.size + 1) (by simp)).trans (two_lie w _ _).2)
    have A0 : ArrV w1 w.heap.size zro := ArrV.of (f := zro) ((hb1.block w.heap.size (by simp; omega)).trans (two_lie w _ _).1)
    have hB1 : Below w.heap.size w w1 := below_after (below_after hb1)
    have hsz1 : w.heap.size + 1 < w1.heap.size := by have := hb1.size; simp at this; omega
    clear hS hb1
    go_wp2
    go_step3
    rename_i hK
    exact hK _ _ (hpass _ _ ⟨0, _, _, _, _, _, _, _, _, _, _, _, _, _, _, _, _, _, _, _, _, _, by omega, rfl, hsz1, hB1, A1, A0⟩)
end U
end Go.Proofs.YtljbcpkjhnbpeaaGreatDoor

/- Climbing, by the model; ClimbOld and AcceptOld of both. -/
namespace Go.Proofs.YtljbcpkjhnbpeaaGreatDoor
open Go.RowKit
namespace U
set_option maxRecDepth 100000 in
set_option maxHeartbeats 4000000 in
theorem l5Climb_any (x s : Int) (u : Value) (p : List Int) (w : World) (hx : 0 ≤ x ∧ x ≤ 255) (hs : 0 ≤ s ∧ s ≤ 65520) (hu : Ints .i64 w u p) (hp : p.length ≤ 8) (hall : p.all sumB = true) :
    Calls Tryz.prog 188 #[.int .i64 x, .int .i64 s, u] w fun e w' => e = .returned (.int .i64 (clm x s p p.length)) ∧ Below w.heap.size w w' := by
  have HV : Hid (∀ w', Below w.heap.size w w' → Ints .i64 w' u p) := fun w' h => hu.below h
  obtain ⟨ua, uc, rfl⟩ := hu.shape
  have HA : Hid (∀ n, 0 ≤ p.getD n 0 ∧ p.getD n 0 ≤ 65520) := path_at hall
  have HC : Hid (∀ n, 0 ≤ clm x s p n ∧ clm x s p n ≤ 65520) := clm_bd hs
  obtain ⟨n, hn⟩ : ∃ n, n = p.length := ⟨_, rfl⟩
  rw [← hn] at HV hp ⊢
  have HN : Hid (n = p.length) := hn
  clear hn hu hall
  go_enter Tryz.func188, Tryz.ntmps188
  go_wp2
  go_loopw [1, 7] (fun c i wr => ∃ k : Nat, k ≤ n ∧ i = .int .i64 k ∧ c = .int .i64 (clm x s p k) ∧ Below w.heap.size w wr) (fun _ i _ => n - (intOf i).toNat)
  case atStart => exact ⟨0, Nat.zero_le _, rfl, rfl, Below.refl _ _⟩
  case round =>
    obtain ⟨k, hk, rfl, rfl, hB⟩ := hrel
    by_cases hkn : k < n
    · have hki : (k : Int) < (n : Int) := by omega
      have hk0 : (0 : Int) ≤ (k : Int) := by omega
      have hiw := HV.out _ hB
      obtain ⟨-, b, off, rfl, hbb, hcc⟩ := hiw.at (by rw [← HN.out]; omega)
      have ck := hcc k (by rw [← HN.out]; omega)
      have hbo := HA.out k
      have hbc := HC.out k
      clear hcc hiw
      have hx2 : x / 2 ^ k = x / (2 ^ k : Nat) := by simp
      have HX : Hid (x / 2 ^ k = x / (2 ^ k : Nat)) := hx2
      have hq0 : 0 ≤ x / 2 ^ k := by rw [hx2]; exact Int.ediv_nonneg hx.1 (Int.natCast_nonneg _)
      clear hx2
      have HE : Hid ((x / 2 ^ k) % 2 = 0 → clm x s p (k + 1) = sumL (tagL 2 [clm x s p k, p.getD k 0])) := fun h => clm_even (by rw [← HX.out]; exact h)
      have HO : Hid (¬ (x / 2 ^ k) % 2 = 0 → clm x s p (k + 1) = sumL (tagL 2 [p.getD k 0, clm x s p k])) := fun h => clm_odd (by rw [← HX.out]; exact h)
      generalize p.getD k 0 = o at *
      generalize hcc : clm x s p k = cc at *
      clear hcc
      generalize hcd : clm x s p (k + 1) = cd at *
      have HCD : Hid (clm x s p (k + 1) = cd) := hcd
      clear hcd HX
      by_cases h2 : (x / 2 ^ k) % 2 = 0
      · have ht : Int.tmod (x / 2 ^ k) 2 = 0 := by rw [Int.tmod_eq_emod_of_nonneg hq0]; exact h2
        have hT := fun w u hu => l2Tag2_any 2 cc o u w (by omega) hu hbc hbo
        rw [← HE.out h2] at hT
        go_wp2_with fail
        refine (hT _ _ (two_ints_at (by first | rfl | simp))).mono ?_
        rintro e w2 ⟨rfl, hb2⟩
        have hB2 := below_after_of hB (below_after hb2)
        clear hT hb2 hB ck
        go_wp2
        go_roundw
        case rel => exact ⟨k + 1, by omega, by go_num, by rw [HCD.out], hB2⟩
        case measure => simp [intOf]; omega
      · have ht : ¬ Int.tmod (x / 2 ^ k) 2 = 0 := by rw [Int.tmod_eq_emod_of_nonneg hq0]; exact h2
        have hT := fun w u hu => l2Tag2_any 2 o cc u w (by omega) hu hbo hbc
        rw [← HO.out h2] at hT
        go_wp2_with fail
        refine (hT _ _ (two_ints_at (by first | rfl | simp))).mono ?_
        rintro e w2 ⟨rfl, hb2⟩
        have hB2 := below_after_of hB (below_after hb2)
        clear hT hb2 hB ck
        go_wp2
        go_roundw
        case rel => exact ⟨k + 1, by omega, by go_num, by rw [HCD.out], hB2⟩
        case measure => simp [intOf]; omega
    · have : k = n := by omega
      subst this
      have hki : ¬ (k : Int) < (k : Int) := by omega
      go_wp2
      go_ret
      exact ⟨rfl, hB⟩
theorem co_no {x v : Int} {b : Bool} {p : List Int} (h : askd x b v = false) : coC x b v p = 3 ∧ coV x b v p = 0 := by simp [coC, coV, h]
theorem co_len {x v : Int} {b : Bool} {p : List Int} (h : askd x b v = true) (hp : ¬ p.length = 8) : coC x b v p = 9 ∧ coV x b v p = 0 := by simp [coC, coV, h, hp]
theorem co_sum {x v : Int} {b : Bool} {p : List Int} (h : askd x b v = true) (hp : p.length = 8) (hs : p.all sumB = false) : coC x b v p = 3 ∧ coV x b v p = 0 := by
  unfold coC coV
  rw [if_pos h, if_pos hp, hs, if_neg (by simp), if_neg (by simp)]
  exact ⟨rfl, rfl⟩
theorem co_ok {x v : Int} {b : Bool} {p : List Int} (h : askd x b v = true) (hp : p.length = 8) (hs : p.all sumB = true) : coC x b v p = 0 ∧ coV x b v p = clm x (sumL (leafL x b v)) p 8 := by
  unfold coC coV
  rw [if_pos h, if_pos hp, if_pos hs, if_pos ⟨h, hp, hs⟩]
  exact ⟨rfl, rfl⟩
set_option maxRecDepth 100000 in
set_option maxHeartbeats 4000000 in
theorem specClimbOld_any (x : Int) (b : Bool) (v : Int) (u : Value) (p : List Int) (w : World) (hu : Ints .i64 w u p) (hx : p.length ≤ 1099511627776) :
    Calls Tryz.prog 167 #[.int .i64 x, .bool b, .int .i64 v, u] w fun e w' => IntAns w (coC x b v p) (coV x b v p) e w' := by
  have HA := fun w => l5Asked_any x b v w
  have HV : Hid (∀ w', Below w.heap.size w w' → Ints .i64 w' u p) := fun w' h => hu.below h
  obtain ⟨ua, uc, rfl⟩ := hu.shape
  rcases Bool.eq_false_or_eq_true (askd x b v) with ha | ha
  · rw [ha] at HA
    by_cases h8 : p.length = 8
    · have HL := fun w' h => l1All_any _ p w' (HV.out w' h) hx
      rcases Bool.eq_false_or_eq_true (p.all sumB) with hs | hs
      · rw [hs] at HL
        rw [(co_ok ha h8 hs).1, (co_ok ha h8 hs).2]
        have HF := fun w => l5Leaf_any x b v w ha
        have HS := fun v' w h => l2Sum_any v' (leafL x b v) w h (leafL_bts ha) (by have := leafL_len x b v; omega)
        have HM := fun w' h => l5Climb_any x (sumL (leafL x b v)) _ p w' (askd_key ha) (sumL_bd _) (HV.out w' h) (by omega) hs
        rw [h8] at HM HL ⊢
        generalize clm x (sumL (leafL x b v)) p 8 = y at *
        generalize sumL (leafL x b v) = s at *
        generalize leafL x b v = ls at *
        clear ha hs hu h8 hx
        go_enter Tryz.func167, Tryz.ntmps167
        go_wp2_with fail
        refine (HA _).mono ?_
        rintro e w1 ⟨rfl, rfl⟩
        clear HA
        go_wp2_with fail
        refine (HL _ (one_new _)).mono ?_
        rintro e w1 ⟨rfl, rfl⟩
        clear HL
        go_wp2_with fail
        refine (HF _).mono ?_
        rintro e w1 ⟨v', rfl, own1, hb1⟩
        have hB1 := below_after hb1
        have i1 := own_ints own1
        obtain ⟨a', c', rfl⟩ := own_shape own1
        obtain ⟨hc0, hc1, hf0, hf1⟩ := two_cells ((hb1.block w.heap.size (by simp)).trans (heap_alloc_new w _))
        have hsz1 : w.heap.size < w1.heap.size := by have := hb1.size; simp at this; omega
        clear HF own1 hb1
        go_wp2_with fail
        refine (HS _ _ i1).mono ?_
        rintro e w2 ⟨rfl, rfl⟩
        clear HS i1
        go_wp2_with fail
        refine (HM _ hB1).mono ?_
        rintro e w3 ⟨rfl, hb3⟩
        have hc0 := (hb3.cell (p := ⟨w.heap.size, 0, none⟩) hsz1).trans hc0
        have hc1 := (hb3.cell (p := ⟨w.heap.size, 1, none⟩) hsz1).trans hc1
        have hf0 := (hb3.frozen (p := ⟨w.heap.size, 0, none⟩) hsz1).trans hf0
        have hf1 := (hb3.frozen (p := ⟨w.heap.size, 1, none⟩) hsz1).trans hf1
        have hB3 := below_after_of hB1 hb3
        clear HM hb3 hB1
        go_wp2
        exact bodyPost_ret (v := .agg #[.int .i64 0, .int .i64 y]) (by simp [results, Tryz.results167, go_sem, hc0, hc1]) rfl ⟨rfl, (hB3.setCell (Nat.le_refl _) _).setCell (Nat.le_refl _) _⟩
      · rw [hs] at HL
        rw [(co_sum ha h8 hs).1, (co_sum ha h8 hs).2]
        rw [h8] at HL ⊢
        clear ha hs hu h8 hx
        go_enter Tryz.func167, Tryz.ntmps167
        go_wp2_with fail
        refine (HA _).mono ?_
        rintro e w1 ⟨rfl, rfl⟩
        clear HA
        go_wp2_with fail
        refine (HL _ (one_new _)).mono ?_
        rintro e w1 ⟨rfl, rfl⟩
        clear HL
        go_wp2
        exact bodyPost_ret (v := .agg #[.int .i64 3, .int .i64 0]) (by simp [results, Tryz.results167, go_sem]) rfl ⟨rfl, one_new _⟩
    · rw [(co_len ha h8).1, (co_len ha h8).2]
      generalize p.length = n at *
      have hni : ¬ (n : Int) = 8 := by omega
      clear hu ha
      go_enter Tryz.func167, Tryz.ntmps167
      go_wp2_with fail
      refine (HA _).mono ?_
      rintro e w1 ⟨rfl, rfl⟩
      clear HA
      go_wp2
      exact bodyPost_ret (v := .agg #[.int .i64 9, .int .i64 0]) (by simp [results, Tryz.results167, go_sem]) rfl ⟨rfl, one_new _⟩
  · rw [ha] at HA
    rw [(co_no ha).1, (co_no ha).2]
    generalize p.length = n at *
    clear hu ha
    go_enter Tryz.func167, Tryz.ntmps167
    go_wp2_with fail
    refine (HA _).mono ?_
    rintro e w1 ⟨rfl, rfl⟩
    clear HA
    go_wp2
    exact bodyPost_ret (v := .agg #[.int .i64 3, .int .i64 0]) (by simp [results, Tryz.results167, go_sem]) rfl ⟨rfl, one_new _⟩
end U
end Go.Proofs.YtljbcpkjhnbpeaaGreatDoor

/- ClimbOld, by the program. -/
namespace Go.Proofs.YtljbcpkjhnbpeaaGreatDoor
open Go.RowKit
namespace U
theorem arr_cx (x s : Int) (p : List Int) : ∃ r0 i0 r1 i1 r2 i2 r3 i3 r4 i4 r5 i5 r6 i6 r7 i7, arrV (nds x s p 8) = #[.complex .f64 r0 i0, .complex .f64 r1 i1, .complex .f64 r2 i2, .complex .f64 r3 i3, .complex .f64 r4 i4, .complex .f64 r5 i5, .complex .f64 r6 i6, .complex .f64 r7 i7] := by
  exact ⟨_, _, _, _, _, _, _, _, _, _, _, _, _, _, _, _, rfl⟩
theorem cells8 {w : World} {b : Nat} {f : Nat → Value} {t : TypeId} (h : w.heap[b]? = some (.cells (arrV f) t)) : ArrV w b f := ArrV.of h
set_option maxRecDepth 100000 in
set_option maxHeartbeats 4000000 in
theorem implClimbOld_any (x : Int) (b : Bool) (v : Int) (u : Value) (p : List Int) (w : World) (hu : Ints .i64 w u p) :
    Calls Tryz.prog 161 #[.int .i64 x, .bool b, .int .i64 v, u] w fun e w' => IntAns w (coC x b v p) (coV x b v p) e w' := by
  have HL := fun w => implLeafBytes_any x b v w
  have HV : Hid (∀ w', Below w.heap.size w w' → Ints .i64 w' u p) := fun w' h => hu.below h
  obtain ⟨ua, uc, rfl⟩ := hu.shape
  rcases Bool.eq_false_or_eq_true (askd x b v) with ha | ha
  · rw [(lb_ok ha).1, (lb_ok ha).2] at HL
    by_cases h8 : p.length = 8
    · have HNO : Hid (p.all sumB = false → coC x b v p = 3 ∧ coV x b v p = 0) := fun h => co_sum ha h8 h
      have HYES : Hid (p.all sumB = true → coC x b v p = 0 ∧ coV x b v p = clm x (sumL (leafL x b v)) p 8) := fun h => co_ok ha h8 h
      have HM : Hid (∀ v' u' w' (_ : Ints .u8 w' v' (leafL x b v)) (_ : Ints .i64 w' u' p) (_ : p.all sumB = true), Calls Tryz.prog 164 #[.int .i64 x, v', u'] w' fun e w'' => e = .returned (.tuple #[.agg (arrV (nds x (sumL (leafL x b v)) p 8)), .int .i64 (clm x (sumL (leafL x b v)) p 8)]) ∧ Below w'.heap.size w' w'') :=
        fun v' u' w' h1 h2 h3 => climb_any x v' u' (leafL x b v) p w' (askd_key ha) h1 (leafL_bts ha) (by have := leafL_len x b v; omega) h2 h8 h3
      have HX8 := arr_cx x (sumL (leafL x b v)) p
      generalize clm x (sumL (leafL x b v)) p 8 = y at *
      generalize sumL (leafL x b v) = s at *
      generalize leafL x b v = ls at *
      generalize arrV (nds x s p 8) = ar at *
      have HN : Hid (p.length = 8) := h8
      rw [h8] at HV ⊢
      generalize coC x b v p = cC at *
      generalize coV x b v p = cV at *
      clear hu ha h8
      go_enter Tryz.func161, Tryz.ntmps161
      go_wp2_with fail
      refine (HL _).mono ?_
      intro e w1 h1
      obtain ⟨a1, c1, rfl, hb1, own1⟩ := h1.use
      obtain ⟨W2, hW2⟩ : ∃ W2, W2 = w1.alloc (.cells #[.int .i64 0, .slice a1 ls.length c1] 218) := ⟨_, rfl⟩
      have hb2 := below_after_of hb1 (one_new (.cells #[.int .i64 0, .slice a1 ls.length c1] 218))
      have P2 := Pair.new w1 (.int .i64 0) (.slice a1 ls.length c1) 218
      rw [← hW2] at hb2 P2
      have i2 : Ints .u8 W2 (.slice a1 ls.length c1) ls := by rw [hW2]; exact (own_ints own1).below (one_new _)
      have HI2 : Hid (Ints .u8 W2 (.slice a1 ls.length c1) ls) := i2
      obtain ⟨hc0, hc1, hf0, hf1⟩ := two_cells ((hb2.block w.heap.size (by simp)).trans (heap_alloc_new w _))
      have hB2 : Hid (Below w.heap.size w W2) := below_after hb2
      have hsz2 : w.heap.size < W2.heap.size := by have := hb2.size; simp at this; omega
      have HW2 : Hid (W2 = w1.alloc (.cells #[.int .i64 0, .slice a1 ls.length c1] 218)) := hW2
      have p0 := P2.2.1
      have p1 := P2.2.2
      have p2 := P2.1
      have hi2 := HV.out _ hB2.out
      obtain ⟨-, bb, off, rfl, hbl, hcl⟩ := hi2.at (by rw [HN.out]; omega)
      have HC : Hid (∀ j, j < 8 → W2.cell? ⟨bb, off + j, none⟩ = some (.int .i64 (p.getD j 0))) := fun j hj => hcl j (by rw [HN.out]; exact hj)
      clear h1 HL own1 hb1 hb2 i2 hW2 hi2 hcl
      go_wp2_with fail
      rw [← HW2.out]
      go_loop [30] (fun i => ∃ k : Nat, k ≤ 8 ∧ i = .int .i64 k ∧ Hid (AllS p k)) (fun i => 8 - (intOf i).toNat)
      case atStart => exact ⟨0, Nat.zero_le _, rfl, fun j hj => by omega⟩
      case round =>
        obtain ⟨k, hk, rfl, hA⟩ := hrel
        by_cases hkn : k < 8
        · have hki : (k : Int) < 8 := by omega
          have hcj := HC.out k hkn
          have hkx : Hid (k < p.length) := by show _ < _; rw [HN.out]; exact hkn
          obtain ⟨z, hxx⟩ : ∃ z, z = p.getD k 0 := ⟨_, rfl⟩
          have HX : Hid (z = p.getD k 0) := hxx
          rw [← hxx] at hcj
          clear hxx
          rcases Bool.eq_false_or_eq_true (sumB z) with hr | hr
          · go_wp2_with fail
            refine (isSum_any z _).mono ?_
            rintro e w3 ⟨rfl, rfl⟩
            go_wp2
            go_round
            case rel => exact ⟨k + 1, by omega, by go_num, hA.out.succ (by rw [← HX.out]; exact hr)⟩
            case measure => simp [intOf]; omega
          · have e := HNO.out (sums_no hkx.out (by rw [← HX.out]; exact hr))
            have HE : Hid (cC = 3 ∧ cV = 0) := e
            clear e
            go_wp2_with fail
            refine (isSum_any z _).mono ?_
            rintro e w3 ⟨rfl, rfl⟩
            go_wp2
            exact bodyPost_ret (v := .agg #[.int .i64 3, .int .i64 0]) (by simp [results, Tryz.results161, go_sem, hc0, hc1]) rfl (by rw [HE.out.1, HE.out.2]; exact ⟨rfl, (hB2.out.setCell (Nat.le_refl _) _).setCell (Nat.le_refl _) _⟩)
        · have hkn : k = 8 := by omega
          subst hkn
          have hall : p.all sumB = true := AllS.all (by rw [HN.out]; exact hA.out)
          have HE : Hid (cC = 0 ∧ cV = y) := HYES.out hall
          have hM := fun v' u' w' h1 h2 => HM.out v' u' w' h1 h2 hall
          obtain ⟨r0, i0, r1, i1, r2, i2, r3, i3, r4, i4, r5, i5, r6, i6, r7, i7, rfl⟩ := HX8
          clear hall HYES HNO HM HC
          go_wp2_with fail
          refine (hM _ _ _ HI2.out (HV.out _ hB2.out)).mono ?_
          rintro e w3 ⟨rfl, hb3⟩
          have hc0 := (hb3.cell (p := ⟨w.heap.size, 0, none⟩) hsz2).trans hc0
          have hc1 := (hb3.cell (p := ⟨w.heap.size, 1, none⟩) hsz2).trans hc1
          have hf0 := (hb3.frozen (p := ⟨w.heap.size, 0, none⟩) hsz2).trans hf0
          have hf1 := (hb3.frozen (p := ⟨w.heap.size, 1, none⟩) hsz2).trans hf1
          have hB3 := below_after_of hB2.out hb3
          have hsz3 : w.heap.size < w3.heap.size := Nat.lt_of_lt_of_le hsz2 hb3.size
          have kst := fun (w : World) (a : Addr) (m : Mode) (r i : Nat) => run_store Tryz.prog w a (.complex .f64 r i) m rfl
          clear hM hb3 p0 p1 p2
          go_wp2
          have hq0 : ∀ o, (((w3.setCell ⟨w.heap.size, 0, none⟩ (.int .i64 0)).setCell ⟨w.heap.size, 1, none⟩ (.int .i64 y)).alloc o).cell? ⟨w.heap.size, 0, none⟩ = some (.int .i64 0) := fun o =>
            ((one_new o).cell (p := ⟨w.heap.size, 0, none⟩) (by simpa using hsz3)).trans ((World.cell?_setCell_other _ _ _ _ (by simp)).trans (World.cell?_setCell_same _ _ _ hc0))
          have hq1 : ∀ o, (((w3.setCell ⟨w.heap.size, 0, none⟩ (.int .i64 0)).setCell ⟨w.heap.size, 1, none⟩ (.int .i64 y)).alloc o).cell? ⟨w.heap.size, 1, none⟩ = some (.int .i64 y) := fun o =>
            ((one_new o).cell (p := ⟨w.heap.size, 1, none⟩) (by simpa using hsz3)).trans (World.cell?_setCell_same _ _ _ ((World.cell?_setCell_other _ _ _ _ (by simp)).trans hc1))
          exact bodyPost_ret (v := .agg #[.int .i64 0, .int .i64 y]) (by simp [results, Tryz.results161, go_sem, hq0, hq1]) rfl (by rw [HE.out.1, HE.out.2]; exact ⟨rfl, ((hB3.setCell (Nat.le_refl _) _).setCell (Nat.le_refl _) _).alloc (by simpa using Nat.le_of_lt hsz3) _⟩)
    · rw [(co_len ha h8).1, (co_len ha h8).2]
      generalize leafL x b v = ls at *
      generalize p.length = n at *
      have hni : ¬ (n : Int) = 8 := by omega
      clear hu ha
      go_enter Tryz.func161, Tryz.ntmps161
      go_wp2_with fail
      refine (HL _).mono ?_
      intro e w1 h1
      obtain ⟨a1, c1, rfl, hb1, own1⟩ := h1.use
      have hb2 := below_after_of hb1 (one_new (.cells #[.int .i64 0, .slice a1 ls.length c1] 218))
      have P2 := Pair.new w1 (.int .i64 0) (.slice a1 ls.length c1) 218
      obtain ⟨hc0, hc1, hf0, hf1⟩ := two_cells ((hb2.block w.heap.size (by simp)).trans (heap_alloc_new w _))
      have hB2 : Hid (Below w.heap.size w (w1.alloc (.cells #[.int .i64 0, .slice a1 ls.length c1] 218))) := below_after hb2
      have p0 := P2.2.1
      have p1 := P2.2.2
      clear h1 HL own1 hb1 hb2
      go_wp2
      exact bodyPost_ret (v := .agg #[.int .i64 9, .int .i64 0]) (by simp [results, Tryz.results161, go_sem, hc0, hc1]) rfl ⟨rfl, (hB2.out.setCell (Nat.le_refl _) _).setCell (Nat.le_refl _) _⟩
  · rw [(lb_no ha).1, (lb_no ha).2] at HL
    rw [(co_no ha).1, (co_no ha).2]
    generalize p.length = n at *
    clear hu ha
    go_enter Tryz.func161, Tryz.ntmps161
    go_wp2_with fail
    refine (HL _).mono ?_
    intro e w1 h1
    obtain ⟨a1, c1, rfl, hb1, own1⟩ := h1.use
    have hb2 := below_after_of hb1 (one_new (.cells #[.int .i64 3, .slice a1 0 c1] 218))
    have P2 := Pair.new w1 (.int .i64 3) (.slice a1 0 c1) 218
    obtain ⟨hc0, hc1, hf0, hf1⟩ := two_cells ((hb2.block w.heap.size (by simp)).trans (heap_alloc_new w _))
    have hB2 : Hid (Below w.heap.size w (w1.alloc (.cells #[.int .i64 3, .slice a1 0 c1] 218))) := below_after hb2
    have p0 := P2.2.1
    have p1 := P2.2.2
    clear h1 HL own1 hb1 hb2
    go_wp2
    exact bodyPost_ret (v := .agg #[.int .i64 3, .int .i64 0]) (by simp [results, Tryz.results161, go_sem, hc0, hc1]) rfl ⟨rfl, (hB2.out.setCell (Nat.le_refl _) _).setCell (Nat.le_refl _) _⟩
def acB (x : Int) (b : Bool) (v : Int) (p : List Int) (r : Int) : Bool := coC x b v p == 0 && coV x b v p == r
end U
end Go.Proofs.YtljbcpkjhnbpeaaGreatDoor

/- The clash that an old proof shows, by mathematics; the leaf that there is, by both. -/
namespace Go.Proofs.YtljbcpkjhnbpeaaGreatDoor
open Go.RowKit
namespace U
/-- The piece of a node, as it is told and as it is there. -/
def ndP (x s : Int) (p : List Int) (n : Nat) : List Int := tagL 2 [sdL x s p n, sdR x s p n]
def ndT (l : Prl) (x : Int) (n : Nat) : List Int := tagL 2 [nd l n (2 * (x / (2 ^ (n + 1) : Nat))), nd l n (2 * (x / (2 ^ (n + 1) : Nat)) + 1)]
theorem sd_honest {l : Prl} {x : Int} (h0 : slF l = 0) {n : Nat} (hn : n < 8) :
    sdL x (sumL (lfT l x)) (pth l x 8) n = nd l n (2 * (x / (2 ^ (n + 1) : Nat))) ∧ sdR x (sumL (lfT l x)) (pth l x 8) n = nd l n (2 * (x / (2 ^ (n + 1) : Nat)) + 1) := by
  have e1 := pth_at l x 8 n hn
  have e2 := clm_honest l x (s := sumL (lfT l x)) (lfT_sum h0) n (by omega)
  have hd := div_succ x n
  unfold sdL sdR
  generalize hq : x / (2 ^ n : Nat) = q at *
  rw [hd, e1, e2]
  by_cases h0 : q % 2 = 0
  · have hs := sib_even (x := x) (q := q) (n := n) rfl hq.symm h0
    rw [if_pos h0, if_pos h0, hs, show 2 * (q / 2) = q by omega]
    exact ⟨rfl, rfl⟩
  · have hs := sib_odd (x := x) (q := q) (n := n) rfl hq.symm h0
    rw [if_neg h0, if_neg h0, hs, show 2 * (q / 2) = q - 1 by omega, show q - 1 + 1 = q by omega]
    exact ⟨rfl, rfl⟩
theorem ndP_there {l : Prl} {x : Int} (h0 : slF l = 0) {n : Nat} (hn : n < 8) : ndP x (sumL (lfT l x)) (pth l x 8) n = ndT l x n := by
  unfold ndP ndT
  rw [(sd_honest h0 hn).1, (sd_honest h0 hn).2]
theorem nd_two_bts {a b : Int} (ha : 0 ≤ a ∧ a ≤ 65520) (hb : 0 ≤ b ∧ b ≤ 65520) : Bts (tagL 2 [a, b]) := tagL_bts (by omega) (by simp [sumB_iff, ha, hb])
theorem nd_two_len (a b : Int) : (tagL 2 [a, b]).length = 5 := by rw [tagL_len]; rfl
theorem ndP_len (x s : Int) (p : List Int) (n : Nat) : (ndP x s p n).length = 5 := nd_two_len _ _
theorem ndT_len (l : Prl) (x : Int) (n : Nat) : (ndT l x n).length = 5 := nd_two_len _ _
theorem ndP_bts {x s : Int} {p : List Int} (h : 0 ≤ s ∧ s ≤ 65520) (hp : p.all sumB = true) (n : Nat) : Bts (ndP x s p n) := nd_two_bts (sd_bd h hp n).1 (sd_bd h hp n).2
theorem ndT_bts (l : Prl) (x : Int) (n : Nat) : Bts (ndT l x n) := nd_two_bts (nd_bd _ _ _) (nd_bd _ _ _)
/-- The pieces that are shown: the first nodes from the root that are a clash, or the leaves. -/
def ocW (l : Prl) (x s : Int) (p a b : List Int) : Nat → List Int × List Int
  | 0 => (a, b)
  | n + 1 => if l2B (ndP x s p n) (ndT l x n) = true then (ndP x s p n, ndT l x n) else ocW l x s p a b n
theorem ocW_yes {l : Prl} {x s : Int} {p a b : List Int} {n : Nat} (h : l2B (ndP x s p n) (ndT l x n) = true) : ocW l x s p a b (n + 1) = (ndP x s p n, ndT l x n) := by rw [ocW, if_pos h]
theorem ocW_no {l : Prl} {x s : Int} {p a b : List Int} {n : Nat} (h : l2B (ndP x s p n) (ndT l x n) = false) : ocW l x s p a b (n + 1) = ocW l x s p a b n := by rw [ocW, h]; simp
theorem ocW_len {l : Prl} {x s : Int} {p a b : List Int} (ha : a.length ≤ 5) (hb : b.length ≤ 5) : ∀ n, (ocW l x s p a b n).1.length ≤ 5 ∧ (ocW l x s p a b n).2.length ≤ 5 := by
  intro n
  induction n with
  | zero => exact ⟨ha, hb⟩
  | succ n ih =>
    rw [ocW]
    split
    · exact ⟨Nat.le_of_eq (ndP_len _ _ _ _), Nat.le_of_eq (ndT_len _ _ _)⟩
    · exact ih
/-- What OldClash answers. -/
def ocC (l : Prl) (x : Int) (b : Bool) (v : Int) (p : List Int) : Int := if slF l = 0 then (if coC x b v p = 0 then (if coV x b v p = nd l 8 0 then 0 else 9) else coC x b v p) else slF l
def ocP (l : Prl) (x : Int) (b : Bool) (v : Int) (p : List Int) : List Int × List Int := ocW l x (sumL (leafL x b v)) p (leafL x b v) (lfT l x) 8
def ocF (l : Prl) (x : Int) (b : Bool) (v : Int) (p : List Int) : Bool := decide (ocC l x b v p = 0) && l2B (ocP l x b v p).1 (ocP l x b v p).2
theorem oc_slots {l : Prl} {x v : Int} {b : Bool} {p : List Int} (h : ¬ slF l = 0) : ocC l x b v p = slF l ∧ ocF l x b v p = false := by
  have e : ocC l x b v p = slF l := by unfold ocC; rw [if_neg h]
  refine ⟨e, ?_⟩
  unfold ocF
  rw [e, decide_eq_false h]; rfl
theorem oc_told {l : Prl} {x v : Int} {b : Bool} {p : List Int} (h0 : slF l = 0) (h : ¬ coC x b v p = 0) : ocC l x b v p = coC x b v p ∧ ocF l x b v p = false := by
  have e : ocC l x b v p = coC x b v p := by unfold ocC; rw [if_pos h0, if_neg h]
  refine ⟨e, ?_⟩
  unfold ocF
  rw [e, decide_eq_false h]; rfl
theorem oc_root {l : Prl} {x v : Int} {b : Bool} {p : List Int} (h0 : slF l = 0) (h : coC x b v p = 0) (hr : ¬ coV x b v p = nd l 8 0) : ocC l x b v p = 9 ∧ ocF l x b v p = false := by
  have e : ocC l x b v p = 9 := by unfold ocC; rw [if_pos h0, if_pos h, if_neg hr]
  refine ⟨e, ?_⟩
  unfold ocF
  rw [e]; rfl
theorem oc_ok {l : Prl} {x v : Int} {b : Bool} {p : List Int} (h0 : slF l = 0) (h : coC x b v p = 0) (hr : coV x b v p = nd l 8 0) : ocC l x b v p = 0 ∧ ocF l x b v p = l2B (ocP l x b v p).1 (ocP l x b v p).2 := by
  have e : ocC l x b v p = 0 := by unfold ocC; rw [if_pos h0, if_pos h, if_pos hr]
  refine ⟨e, ?_⟩
  unfold ocF
  rw [e]; rfl
theorem co_zero {x v : Int} {b : Bool} {p : List Int} (h : coC x b v p = 0) : askd x b v = true ∧ p.length = 8 ∧ p.all sumB = true := by
  rcases Bool.eq_false_or_eq_true (askd x b v) with ha | ha
  · by_cases h8 : p.length = 8
    · rcases Bool.eq_false_or_eq_true (p.all sumB) with hs | hs
      · exact ⟨ha, h8, hs⟩
      · rw [(co_sum ha h8 hs).1] at h; omega
    · rw [(co_len ha h8).1] at h; omega
  · rw [(co_no ha).1] at h; omega
theorem co_codes (x : Int) (b : Bool) (v : Int) (p : List Int) : coC x b v p = 0 ∨ coC x b v p = 3 ∨ coC x b v p = 9 := by
  unfold coC
  split
  · split
    · split
      · simp
      · simp
    · simp
  · simp
set_option maxRecDepth 100000 in
set_option maxHeartbeats 1000000 in
theorem leafOf_any (v : Value) (l : Prl) (k : Int) (w : World) (hv : Prs w v l) (hx : l.length ≤ 1099511627776) (h0 : slF l = 0) (hk : 0 ≤ k ∧ k ≤ 255) :
    Calls Tryz.prog 163 #[v, .int .i64 k] w fun e w' => ∃ v', e = .returned v' ∧ w'.ownsRow w.heap.size 5 1 v' (lfT l k).length ((lfT l k).map (Value.int .u8)) ∧ Below w.heap.size w w' := by
  have hF := implFindSlot_any v l k w hv hx
  have hL := fun w => implLeafBytes_any k (thr l k) (fsV l k) w
  rw [(lb_ok (lfT_askd h0 hk)).1, (lb_ok (lfT_askd h0 hk)).2] at hL
  have e0 : fsC l k = if thr l k = true then 0 else 4 := by unfold fsC; rw [if_pos h0]
  obtain ⟨a, c, rfl⟩ := hv.shape
  have e1 : leafL k (thr l k) (fsV l k) = lfT l k := rfl
  rw [e1] at hL
  generalize lfT l k = ys at *
  generalize fsV l k = fv at *
  generalize l.length = n at *
  rcases Bool.eq_false_or_eq_true (thr l k) with ht | ht
  · rw [ht] at hL e0
    rw [if_pos rfl] at e0
    rw [e0] at hF
    clear hv e0 e1 ht h0
    go_enter Tryz.func163, Tryz.ntmps163
    go_wp2_with fail
    refine hF.mono ?_
    rintro e w1 ⟨rfl, hb1⟩
    have hB1 := below_after_of hb1 (one_new (.cells #[.int .i64 0, .int .i64 fv] 38))
    clear hF hb1
    go_wp2_with fail
    refine (hL _).mono ?_
    intro e w2 h2
    obtain ⟨a', c', rfl, hb2, ho2⟩ := h2.use
    have kf := fun w => field_BR1 0 a' ys.length c' w
    have HO : w2.ownsRow w.heap.size 5 1 (.slice a' ys.length c') ys.length (ys.map (Value.int .u8)) := own_mono ho2 hB1.size
    have hB2 := below_after_of hB1 hb2
    clear hL h2 ho2 hb2 hB1
    go_wp2
    go_ret
    exact ⟨_, rfl, HO, hB2⟩
  · rw [ht] at hL e0
    rw [if_neg (by simp)] at e0
    rw [e0] at hF
    clear hv e0 e1 ht h0
    go_enter Tryz.func163, Tryz.ntmps163
    go_wp2_with fail
    refine hF.mono ?_
    rintro e w1 ⟨rfl, hb1⟩
    have hB1 := below_after_of hb1 (one_new (.cells #[.int .i64 4, .int .i64 fv] 38))
    clear hF hb1
    go_wp2_with fail
    refine (hL _).mono ?_
    intro e w2 h2
    obtain ⟨a', c', rfl, hb2, ho2⟩ := h2.use
    have kf := fun w => field_BR1 0 a' ys.length c' w
    have HO : w2.ownsRow w.heap.size 5 1 (.slice a' ys.length c') ys.length (ys.map (Value.int .u8)) := own_mono ho2 hB1.size
    have hB2 := below_after_of hB1 hb2
    clear hL h2 ho2 hb2 hB1
    go_wp2
    go_ret
    exact ⟨_, rfl, HO, hB2⟩
set_option maxRecDepth 100000 in
set_option maxHeartbeats 1000000 in
theorem l5There_any (v : Value) (l : Prl) (k : Int) (w : World) (hv : Prs w v l) (h0 : slF l = 0) (hk : 0 ≤ k ∧ k ≤ 255) :
    Calls Tryz.prog 134 #[v, .int .i64 k] w fun e w' => ∃ v', e = .returned v' ∧ w'.ownsRow w.heap.size 5 1 v' (lfT l k).length ((lfT l k).map (Value.int .u8)) ∧ Below w.heap.size w w' := by
  have hl := slF_ok h0
  have hA := l4At_any v l k w hv hl.len hl.ris
  have HV : Hid (Prs w v l) := hv
  have hlen := hl.len
  obtain ⟨a, c, rfl⟩ := hv.shape
  rcases Bool.eq_false_or_eq_true (thr l k) with ht | ht
  · have hlt := thr_lt ht
    have hL := fun w => l5Leaf_any k true (pAt l (low l k)).2 w (by
      have := lfT_askd (l := l) h0 hk
      have e : fsV l k = (pAt l (low l k)).2 := by unfold fsV; rw [if_pos ⟨h0, ht⟩]
      rw [ht, e] at this
      exact this)
    have e1 : leafL k true (pAt l (low l k)).2 = lfT l k := by rw [lfT_there h0 ht]; rfl
    rw [e1] at hL
    rw [if_pos ht] at hA
    obtain ⟨-, b, off, rfl, hbb, hcc⟩ := HV.out.at (by omega)
    obtain ⟨ck, cv⟩ := hcc (low l k) hlt
    generalize lfT l k = ys at *
    generalize (pAt l (low l k)).2 = pv at *
    generalize low l k = m at *
    have hm0 : (0 : Int) ≤ (m : Int) := by omega
    have hml : (m : Int) < (l.length : Int) := by omega
    generalize l.length = n at *
    clear hv hcc ck ht e1 HV hl h0
    go_enter Tryz.func134, Tryz.ntmps134
    go_wp2_with fail
    refine hA.mono ?_
    rintro e w1 ⟨rfl, rfl⟩
    clear hA
    go_wp2_with fail
    refine (hL _).mono ?_
    rintro e w2 ⟨v', rfl, ho2, hb2⟩
    obtain ⟨a', c', rfl⟩ := own_shape ho2
    clear hL
    go_wp2
    go_ret
    exact ⟨_, rfl, ho2, hb2⟩
  · rw [ht, if_neg (by simp)] at hA
    rw [lfT_none ht]
    generalize l.length = n at *
    clear hv HV hl h0 ht
    go_enter Tryz.func134, Tryz.ntmps134
    go_wp2_with fail
    refine hA.mono ?_
    rintro e w1 ⟨rfl, rfl⟩
    clear hA
    go_wp2
    go_ret
    exact ⟨_, rfl, World.ownsRow_made _ #[] 0 (Nat.le_refl _) (by decide) rfl, one_new _⟩
end U
end Go.Proofs.YtljbcpkjhnbpeaaGreatDoor

/- Two nodes held against each other, by the model. -/
namespace Go.Proofs.YtljbcpkjhnbpeaaGreatDoor
open Go.RowKit
namespace U
/-- A clash that is handed back. -/
def ClAns (w : World) (f : Bool) (ls bs : List Int) (e : Ending) (w' : World) : Prop :=
  Below w.heap.size w w' ∧ ∃ a1 n1 c1 a2 n2 c2, e = .returned (.agg #[.bool f, .slice a1 n1 c1, .slice a2 n2 c2]) ∧ Rows2 w w' (.slice a1 n1 c1) (.slice a2 n2 c2) f ls bs
theorem Rows2.to3 {w w3 w' : World} {v1 v2 : Value} {f : Bool} {ls bs : List Int} (h : Rows2 w3 w' v1 v2 f ls bs) (hs : w.heap.size + 1 ≤ w3.heap.size) : Rows3 w w' v1 v2 (pick f ls) (pick f bs) := ⟨own_mono h.1 hs, own_mono h.2.1 hs, h.2.2⟩
theorem Rows3.below {w w1 w2 : World} {v1 v2 : Value} {xs ys : List Int} (h : Rows3 w w1 v1 v2 xs ys) (hb : Below w1.heap.size w1 w2) : Rows3 w w2 v1 v2 xs ys := ⟨own_below h.1 hb, own_below h.2.1 hb, h.2.2⟩
theorem clAns_of {w w' : World} {f : Bool} {ls bs : List Int} {e : Ending} (h : Below w.heap.size w w' ∧ ∃ v1 v2, e = .returned (.agg #[.bool f, v1, v2]) ∧ Rows2 w w' v1 v2 f ls bs) : ClAns w f ls bs e w' := by
  obtain ⟨hb, v1, v2, rfl, hr⟩ := h
  obtain ⟨⟨a1, c1, rfl⟩, a2, c2, rfl⟩ := hr.shape
  exact ⟨hb, _, _, _, _, _, _, rfl, hr⟩
set_option maxRecDepth 100000 in
set_option maxHeartbeats 2000000 in
theorem l5Nodes_any (a b c d : Int) (w : World) (ha : 0 ≤ a ∧ a ≤ 65520) (hb : 0 ≤ b ∧ b ≤ 65520) (hc : 0 ≤ c ∧ c ≤ 65520) (hd : 0 ≤ d ∧ d ≤ 65520) :
    Calls Tryz.prog 135 #[.int .i64 a, .int .i64 b, .int .i64 c, .int .i64 d] w fun e w' => ClAns w (l2B (tagL 2 [a, b]) (tagL 2 [c, d])) (tagL 2 [a, b]) (tagL 2 [c, d]) e w' := by
  have h1 := nd_two_bts ha hb
  have h2 := nd_two_bts hc hd
  have l1 := nd_two_len a b
  have l2 := nd_two_len c d
  have hB1 := fun w u h => l2Bytes_any 2 u [a, b] w h (by simp) (by omega) (by simp [sumB_iff, ha, hb])
  have hB2 := fun w u h => l2Bytes_any 2 u [c, d] w h (by simp) (by omega) (by simp [sumB_iff, hc, hd])
  have hC := fun A B v u w hv hu => l2Clash_any A B v u (tagL 2 [a, b]) (tagL 2 [c, d]) w hv hu h1 h2 (by omega) (by omega)
  generalize l2B (tagL 2 [a, b]) (tagL 2 [c, d]) = f at *
  generalize tagL 2 [a, b] = ls at *
  generalize tagL 2 [c, d] = bs at *
  have HL : Hid (ls.length = 5 ∧ bs.length = 5) := ⟨l1, l2⟩
  clear h1 h2 l1 l2 ha hb hc hd
  go_enter Tryz.func135, Tryz.ntmps135
  go_wp2_with fail
  refine (hB1 _ _ (two_ints_at (by simp))).mono ?_
  rintro e w1 ⟨v1, rfl, own1, hb1⟩
  rw [HL.out.1] at own1
  obtain ⟨a1, c1, rfl⟩ := own_shape own1
  have hb1' := below_after_of (one_new (.cells #[.int .i64 a, .int .i64 b] 2)) hb1
  clear hB1 hb1
  go_wp2_with fail
  refine (hB2 _ _ (two_ints_at (by first | rfl | simp))).mono ?_
  rintro e w2 ⟨v2, rfl, own2, hb2⟩
  rw [HL.out.2] at own2
  obtain ⟨a2, c2, rfl⟩ := own_shape own2
  have hb2' := below_after_of (one_new (.cells #[.int .i64 c, .int .i64 d] 2)) hb2
  have own1 := own_below own1 hb2'
  have hb3 := below_after_of hb1' hb2'
  have hsz : w.heap.size + 1 ≤ w2.heap.size := by have := hb3.size; simp at this; omega
  have own1 : w2.ownsRow 0 5 1 (.slice a1 5 c1) ls.length (ls.map (Value.int .u8)) := by rw [HL.out.1]; exact own_mono own1 (Nat.zero_le _)
  have own2 : w2.ownsRow 0 5 1 (.slice a2 5 c2) bs.length (bs.map (Value.int .u8)) := by rw [HL.out.2]; exact own_mono own2 (Nat.zero_le _)
  obtain ⟨q0, q1, q2, f0, f1, f2⟩ := three_cellsV ((hb3.block w.heap.size (by simp)).trans (heap_alloc_new w _))
  have hB3 := below_after hb3
  clear hB2 hb2 hb2' hb1' hb3
  go_wp2_with fail
  refine (hC _ _ _ _ _ own1 own2).mono ?_
  rintro e w4 h4
  obtain ⟨hb4, a3, n3, c3, a4, n4, c4, rfl, hr⟩ := clAns_of h4
  have q0 := (hb4.cell (p := ⟨w.heap.size, 0, none⟩) (by exact hsz)).trans q0
  have q1 := (hb4.cell (p := ⟨w.heap.size, 1, none⟩) (by exact hsz)).trans q1
  have q2 := (hb4.cell (p := ⟨w.heap.size, 2, none⟩) (by exact hsz)).trans q2
  have f0 := (hb4.frozen (p := ⟨w.heap.size, 0, none⟩) (by exact hsz)).trans f0
  have f1 := (hb4.frozen (p := ⟨w.heap.size, 1, none⟩) (by exact hsz)).trans f1
  have f2 := (hb4.frozen (p := ⟨w.heap.size, 2, none⟩) (by exact hsz)).trans f2
  have hB4 := below_after_of hB3 hb4
  have HR : Hid (Rows3 w w4 (.slice a3 n3 c3) (.slice a4 n4 c4) (pick f ls) (pick f bs)) := hr.to3 hsz
  clear h4 hr hb4 hB3 own1 own2 hC
  go_wp2
  exact bodyPost_ret (v := .agg #[.bool f, .slice a3 n3 c3, .slice a4 n4 c4]) (by simp [results, Tryz.results135, go_sem, q0, q1, q2]) rfl ⟨((hB4.setCell (Nat.le_refl _) _).setCell (Nat.le_refl _) _).setCell (Nat.le_refl _) _, _, _, _, _, _, _, rfl, Rows3.rows (((HR.out.set 0 _).set 1 _).set 2 _)⟩
end U
end Go.Proofs.YtljbcpkjhnbpeaaGreatDoor

/- A clash in two old trees of one root, by mathematics: where there is none, the slots are the same. -/
namespace Go.Proofs.YtljbcpkjhnbpeaaGreatDoor
namespace U
theorem numB_injO {a b : Int} (h : numB a = numB b) : a = b := by
  unfold numB at h
  simp only [List.cons.injEq, and_true] at h
  omega
theorem tag2_injO {t a b c d : Int} (h : tagL t [a, b] = tagL t [c, d]) : a = c ∧ b = d := by
  unfold tagL at h
  simp only [List.flatMap_cons, List.flatMap_nil, List.append_nil, List.cons.injEq, true_and] at h
  have h1 := List.append_inj_left h (by simp [numB])
  have h2 := List.append_inj_right h (by simp [numB])
  exact ⟨numB_injO h1, numB_injO h2⟩
theorem l2B_sameO {a b : List Int} (h : l2B a b = false) (hs : sumL a = sumL b) : a = b := by
  unfold l2B at h
  have := of_decide_eq_false h
  apply Classical.byContradiction
  intro e
  exact this ⟨hs, e⟩
/-- The piece of a part of slots. -/
def optL (l : Prl) (n : Nat) (q : Int) : List Int := tagL 2 [nd l n (2 * q), nd l n (2 * q + 1)]
/-- The first two pieces of one sum that are not the same, down both trees. -/
def otc (l m : Prl) : Nat → Int → Option (List Int × List Int)
  | 0, q => if l2B (lfT l q) (lfT m q) = true then some (lfT l q, lfT m q) else none
  | n + 1, q => if l2B (optL l n q) (optL m n q) = true then some (optL l n q, optL m n q) else match otc l m n (2 * q) with | some c => some c | none => otc l m n (2 * q + 1)
theorem otc_leaf {l m : Prl} (h0 : slF l = 0) (h1 : slF m = 0) : ∀ (n : Nat) (q : Int), nd l n q = nd m n q → otc l m n q = none → ∀ k : Int, k / (2 ^ n : Nat) = q → lfT l k = lfT m k := by
  intro n
  induction n with
  | zero =>
    intro q hs hn k hk
    have ek : k = q := by rw [← hk]; simp
    subst ek
    have h2 : l2B (lfT l k) (lfT m k) = false := by
      rcases Bool.eq_false_or_eq_true (l2B (lfT l k) (lfT m k)) with h | h
      · rw [otc, if_pos h] at hn; cases hn
      · exact h
    exact l2B_sameO h2 (by rw [lfT_sum h0, lfT_sum h1, hs])
  | succ n ih =>
    intro q hs hn k hk
    have h2 : l2B (optL l n q) (optL m n q) = false := by
      rcases Bool.eq_false_or_eq_true (l2B (optL l n q) (optL m n q)) with h | h
      · rw [otc, if_pos h] at hn; cases hn
      · exact h
    rw [nd_both, nd_both] at hs
    have e := l2B_sameO h2 hs
    obtain ⟨e1, e2⟩ := tag2_injO e
    rw [otc, if_neg (by rw [h2]; decide)] at hn
    have hl : otc l m n (2 * q) = none := by
      rcases hh : otc l m n (2 * q) with _ | x
      · rfl
      · rw [hh] at hn; cases hn
    rw [hl] at hn
    rw [div_succ] at hk
    rcases (show k / (2 ^ n : Nat) = 2 * q ∨ k / (2 ^ n : Nat) = 2 * q + 1 by omega) with h | h
    · exact ih _ e1 hl k h
    · exact ih _ e2 hn k h
theorem lfT_mem {l m : Prl} (h0 : slF l = 0) (h1 : slF m = 0) (h : ∀ k : Int, 0 ≤ k → k ≤ 255 → lfT l k = lfT m k) {p : Int × Int} (hp : p ∈ l) : p ∈ m := by
  have hl := slF_ok h0
  have hm := slF_ok h1
  have hb := (fine_bd (hl.fin p hp)).1
  have ht : thr l p.1 = true := (thr_iff hl.ris p.1).2 ⟨p, hp, rfl⟩
  have e := h p.1 hb.1 hb.2
  rcases Bool.eq_false_or_eq_true (thr m p.1) with hm1 | hm1
  · rw [lfT_there h0 ht, lfT_there h1 hm1] at e
    have e2 := (tag2_injO e).2
    have a1 : (pAt l (low l p.1)).1 = p.1 := by unfold thr at ht; simp at ht; exact ht.2
    have a2 : (pAt m (low m p.1)).1 = p.1 := by unfold thr at hm1; simp at hm1; exact hm1.2
    have l1 := thr_lt ht
    have l2 := thr_lt hm1
    have hq : pAt l (low l p.1) = p := by
      have hmem : pAt l (low l p.1) ∈ l := by rw [pAt_eq l1]; exact List.getElem_mem _
      refine Classical.byContradiction fun hne => ?_
      have := List.pairwise_iff_getElem.1 hl.ris
      obtain ⟨i, hi, ei⟩ := List.getElem_of_mem hmem
      obtain ⟨j, hj, ej⟩ := List.getElem_of_mem hp
      rcases Nat.lt_trichotomy i j with hij | hij | hij
      · have h3 := this i j hi hj hij
        rw [ei, ej] at h3
        omega
      · subst hij
        exact hne (ei.symm.trans ej)
      · have h3 := this j i hj hi hij
        rw [ei, ej] at h3
        omega
    have hm2 : pAt m (low m p.1) = p := by
      have : (pAt m (low m p.1)).2 = p.2 := by rw [← e2, hq]
      exact Prod.ext a2 this
    rw [← hm2, pAt_eq l2]
    exact List.getElem_mem _
  · rw [lfT_there h0 ht, lfT_none hm1] at e
    unfold tagL at e
    cases e
theorem ris_same : ∀ {l m : Prl}, Ris l → Ris m → (∀ p, p ∈ l ↔ p ∈ m) → l = m
  | [], [], _, _, _ => rfl
  | [], q :: m, _, _, h => by have := (h q).2 (List.mem_cons_self ..); cases this
  | p :: l, [], _, _, h => by have := (h p).1 (List.mem_cons_self ..); cases this
  | p :: l, q :: m, hl, hm, h => by
    have hl1 := List.pairwise_cons.1 hl
    have hm1 := List.pairwise_cons.1 hm
    have e : p = q := by
      rcases List.mem_cons.1 ((h p).1 (List.mem_cons_self ..)) with e | hp
      · exact e
      · rcases List.mem_cons.1 ((h q).2 (List.mem_cons_self ..)) with e | hq
        · exact e.symm
        · have h1 := hm1.1 p hp
          have h2 := hl1.1 q hq
          omega
    subst e
    rw [ris_same hl1.2 hm1.2 (fun r => ?_)]
    constructor
    · intro hr
      rcases List.mem_cons.1 ((h r).1 (List.mem_cons_of_mem _ hr)) with e | h3
      · subst e; have := hl1.1 r hr; omega
      · exact h3
    · intro hr
      rcases List.mem_cons.1 ((h r).2 (List.mem_cons_of_mem _ hr)) with e | h3
      · subst e; have := hm1.1 r hr; omega
      · exact h3
/-- Two sets of slots of one root are the same, or there is a clash. -/
theorem otc_same {l m : Prl} (h0 : slF l = 0) (h1 : slF m = 0) (hs : nd l 8 0 = nd m 8 0) (hn : otc l m 8 0 = none) : l = m := by
  have h : ∀ k : Int, 0 ≤ k → k ≤ 255 → lfT l k = lfT m k := fun k hk0 hk1 => otc_leaf h0 h1 8 0 hs hn k (by
    have : ((2 ^ 8 : Nat) : Int) = 256 := rfl
    rw [this]
    omega)
  exact ris_same (slF_ok h0).ris (slF_ok h1).ris (fun p => ⟨fun hp => lfT_mem h0 h1 h hp, fun hp => lfT_mem h1 h0 (fun k a b => (h k a b).symm) hp⟩)
end U
end Go.Proofs.YtljbcpkjhnbpeaaGreatDoor

/- A region that draws its order, driven by hand: what is passed over, what is taken first. -/
namespace Go.Proofs.YtljbcpkjhnbpeaaGreatDoor
open Go.RowKit
namespace U
section
variable {P : Program} {ops : Array Oper} {Q : Exit → Act → World → Prop} {md : Region.Mode} {S : World → Prop}
theorem h_skip {i : Nat} {d : Option Tmp} {fuel : Nat} {listed : Array Bool} {a : Act} {w : World} (hd : (ops[i]?).map (·.dst) = some d)
    (hs : Region.noSelect ops = true) (hf : Region.free md ops listed i = true) (hr : (Region.ready md ops listed).contains i = true)
    (hQ : ∀ c a w, Q (.panic c) (a.put d undef) w → Q (.panic c) a w) (hw : (ops[i]?).map (fun o => Region.wanted o (yielded ops a.tmps)) = some false) (hS : S w)
    (h : wpAnyH P md ops Q S fuel (listed.setIfInBounds i true) (a.put d undef) w) : wpAnyH P md ops Q S (fuel + 1) listed a w := by
  rcases ho : ops[i]? with _ | o
  · rw [ho] at hd; cases hd
  · rw [ho] at hd hw
    cases hd
    exact wpAnyH_take ho hs hf hr hQ (Or.inr ⟨Option.some.inj hw, rfl⟩) hS h
theorem h_take {i : Nat} {d : Option Tmp} {v : Value} {fuel : Nat} {listed : Array Bool} {a : Act} {w : World} (hd : (ops[i]?).map (·.dst) = some d)
    (hs : Region.noSelect ops = true) (hf : Region.free md ops listed i = true) (hr : (Region.ready md ops listed).contains i = true)
    (hQ : ∀ c a w, Q (.panic c) (a.put d v) w → Q (.panic c) a w) (hw : (ops[i]?).map (fun o => Region.wanted o (yielded ops a.tmps)) = some true)
    (hy : ∀ o, ops[i]? = some o → ∀ w, S w → (execOp a.eval o).run P w = .ok (.value v) w) (hS : S w)
    (h : wpAnyH P md ops Q S fuel (listed.setIfInBounds i true) (a.put d v) w) : wpAnyH P md ops Q S (fuel + 1) listed a w := by
  rcases ho : ops[i]? with _ | o
  · rw [ho] at hd; cases hd
  · rw [ho] at hd hw
    cases hd
    exact wpAnyH_take ho hs hf hr hQ (Or.inl ⟨Option.some.inj hw, hy o ho⟩) hS h
end
end U
end Go.Proofs.YtljbcpkjhnbpeaaGreatDoor

/- What is summed for a part of the old tree, as the program tells it. -/
namespace Go.Proofs.YtljbcpkjhnbpeaaGreatDoor
open Go.RowKit
namespace U
theorem nd_side8 {l : Prl} (hr : Ris l) (hf : ∀ p ∈ l, fine p = true) (k : Nat) (q : Int) : prt (cut l (q * (2 ^ k : Nat)) (q * (2 ^ k : Nat) + (2 ^ k : Nat))) k = nd l k q := by
  rw [prt_nd (cut_ris hr _ _) (fun p hp => (fine_bd (hf p (cut_mem.1 hp).1)).1.1) (q := q) (fun p hp => in_part.2 (cut_mem.1 hp).2), nd_cut]
theorem nd_sideK {l : Prl} (hr : Ris l) (hf : ∀ p ∈ l, fine p = true) (k : Nat) (K q a b : Int) (hK : K = ((2 ^ k : Nat) : Int)) (ha : a = q * K) (hb : b = a + K) : prt (cut l a b) k = nd l k q := by
  subst hK ha hb
  exact nd_side8 hr hf k q
theorem ex_load_mid {P : Program} {w : World} {a : Act} {o : Oper} (ty : TypeId) (x : Operand) (ho : o.op = .load ty x) (b off : Nat) (hx : a.eval x = .pointer (some ⟨b, off, none⟩)) (cs : List Value) (d : TypeDesc) (hc : w.rangeAt b off cs)
    (hu : P.underlying ty = some d) (hd : d.isRow = true) (hi : (P.info? ty).map (·.size) = some cs.length) : (execOp a.eval o).run P w = .ok (.value (.agg cs.toArray)) w := by
  unfold execOp
  simp only [ho, hx, Instr.loadAt, Instr.sureAddr, Sem.run_bind, Sem.run_pure, Result.andThen_ok, run_loadVar_mid w b off ty cs d hc hu hd hi]
/-- The sums of nothing, as they lie. -/
def emL : List Value := [.int .i64 (emp 0), .int .i64 (emp 1), .int .i64 (emp 2), .int .i64 (emp 3), .int .i64 (emp 4), .int .i64 (emp 5), .int .i64 (emp 6), .int .i64 (emp 7), .int .i64 (emp 8)]
theorem emL_arr : arrA emp = emL.toArray := rfl
theorem emL_len : emL.length = 9 := rfl
theorem Tryz.infoLs : (Tryz.prog.info? 176).map (·.size) = some emL.length := by kernel_rfl
/-- The box of the sums of nothing. -/
structure EmB (w : World) (g : Nat) : Prop where
  r : w.rangeAt g 0 emL
  lt : g < w.heap.size
theorem EmB.below {w w' : World} {g : Nat} (h : EmB w g) (hb : Below w.heap.size w w') : EmB w' g := ⟨fun j v hv => (hb.cell (p := ⟨g, 0 + j, none⟩) h.lt).trans (h.r j v hv), Nat.lt_of_lt_of_le h.lt hb.size⟩
theorem EmB.new (w : World) (t : TypeId) : EmB (w.alloc (.cells emL.toArray t)) w.heap.size := by
  refine ⟨fun j v hv => ?_, by simp⟩
  have hh := heap_alloc_new w (.cells emL.toArray t)
  unfold World.cell?
  rw [hh]
  simp [hv]
/-- The piece of a part, by its level. -/
def ptL (l : Prl) : Nat → Int → List Int
  | 0, q => lfT l q
  | n + 1, q => optL l n q
theorem ptL_ok {l : Prl} (h0 : slF l = 0) (n : Nat) {q : Int} (hq : n = 0 → 0 ≤ q ∧ q ≤ 255) : Bts (ptL l n q) ∧ (ptL l n q).length ≤ 200 := by
  rcases n with _ | n
  · exact ⟨leafL_bts (lfT_askd h0 (hq rfl)), Nat.le_trans (leafL_len _ _ _) (by omega)⟩
  · exact ⟨nd_two_bts (nd_bd _ _ _) (nd_bd _ _ _), by show (tagL 2 _).length ≤ 200; rw [nd_two_len]; omega⟩
/-- What is summed for a part. -/
structure PbAt (l : Prl) (n : Nat) (f q : Int) : Prop where
  c : ∀ v w, Prs w v l → Okv v → Calls Tryz.prog 130 #[v, .int .i64 f, .int .i64 (n : Int), .agg emL.toArray] w fun e w' => ∃ v', e = .returned v' ∧ w'.ownsRow w.heap.size 5 1 v' (ptL l n q).length ((ptL l n q).map (Value.int .u8)) ∧ Below w.heap.size w w'
set_option maxRecDepth 100000 in
set_option maxHeartbeats 1000000 in
theorem partBytes_0 {l : Prl} {q : Int} (h0 : slF l = 0) (hq : 0 ≤ q ∧ q ≤ 255) : PbAt l 0 q q := by
  refine ⟨fun v w hv ho => ?_⟩
  have hL := fun w' h => leafOf_any v l q w' (hv.below (w' := w') h) (by have := (slF_ok h0).len; omega) h0 hq
  rw [show ptL l 0 q = lfT l q from rfl]
  obtain ⟨a, c, rfl⟩ := hv.shape
  generalize lfT l q = ys at *
  generalize l.length = n at *
  generalize emL = cs at *
  clear hv ho h0
  go_enter Tryz.func130, Tryz.ntmps130
  go_wp2_with fail
  refine (hL _ (one_new _)).mono ?_
  rintro e w1 ⟨v1, rfl, own1, hb1⟩
  have HO : Hid (w1.ownsRow w.heap.size 5 1 v1 ys.length (ys.map (Value.int .u8))) := own_mono own1 (by simp)
  obtain ⟨a1, c1, rfl⟩ := own_shape own1
  have hB1 := below_after hb1
  clear hL own1 hb1
  go_wp2
  go_ret
  exact ⟨_, rfl, HO.out, hB1⟩
set_option maxRecDepth 100000 in
set_option maxHeartbeats 2000000 in
theorem partBytes_1 {l : Prl} {f q : Int} (h0 : slF l = 0) (HF : Hid (f = q * 2)) (hq : 0 ≤ f ∧ f ≤ 255) : PbAt l 1 f q := by
  refine ⟨fun v w hv ho => ?_⟩
  have hs := slF_ok h0
  have hC1 := fun w' h => slotsBetween_any v l f (f + 1) w' (hv.below (w' := w') h) ho hs.len hs.ris (by omega)
  have hC2 := fun w' h => slotsBetween_any v l (f + 1) (f + 2) w' (hv.below (w' := w') h) ho hs.len hs.ris (by omega)
  have hP1 := fun v w h => partSum_any v (cut l f (f + 1)) 0 w h (Nat.le_trans (cut_len _ _ _) hs.len) (cut_ris hs.ris _ _) (fun p hp => hs.fin p (cut_mem.1 hp).1) (by omega)
  have hP2 := fun v w h => partSum_any v (cut l (f + 1) (f + 2)) 0 w h (Nat.le_trans (cut_len _ _ _) hs.len) (cut_ris hs.ris _ _) (fun p hp => hs.fin p (cut_mem.1 hp).1) (by omega)
  rw [nd_sideK hs.ris hs.fin 0 1 (2 * q) f (f + 1) rfl (by have := HF.out; omega) rfl] at hP1
  rw [nd_sideK hs.ris hs.fin 0 1 (2 * q + 1) (f + 1) (f + 2) rfl (by have := HF.out; omega) (by omega)] at hP2
  have hT := fun u w hu => implTagBytes_any 2 u [nd l 0 (2 * q), nd l 0 (2 * q + 1)] w hu (by simp)
  have htg := tg_ok (tag := 2) (xs := [nd l 0 (2 * q), nd l 0 (2 * q + 1)]) rfl (by simp) (by have := nd_bd l 0 (2 * q); have := nd_bd l 0 (2 * q + 1); simp [sumB_iff]; omega)
  rw [htg.1, htg.2] at hT
  rw [show ptL l 1 q = tagL 2 [nd l 0 (2 * q), nd l 0 (2 * q + 1)] from rfl]
  generalize tagL 2 [nd l 0 (2 * q), nd l 0 (2 * q + 1)] = ys at *
  generalize nd l 0 (2 * q) = x at *
  generalize nd l 0 (2 * q + 1) = y at *
  obtain ⟨c1, hc1⟩ : ∃ c1, c1 = cut l f (f + 1) := ⟨_, rfl⟩
  obtain ⟨c2, hc2⟩ : ∃ c2, c2 = cut l (f + 1) (f + 2) := ⟨_, rfl⟩
  rw [← hc1] at hC1 hP1
  rw [← hc2] at hC2 hP2
  obtain ⟨a, c, rfl⟩ := hv.shape
  generalize l.length = n at *
  clear hv ho h0 hs htg hc1 hc2
  have hE0 := EmB.new w 176
  obtain ⟨W, hW⟩ : ∃ W, W = w.alloc (.cells emL.toArray 176) := ⟨_, rfl⟩
  have HW : Hid (w.alloc (.cells emL.toArray 176) = W) := hW.symm
  have hBW : Below w.heap.size w W := by rw [hW]; exact one_new _
  rw [← hW] at hE0
  have HE0 : Hid (∀ w', Below W.heap.size W w' → w'.rangeAt w.heap.size 0 emL) := fun w' h => (hE0.below h).r
  have hul := Tryz.underlying176
  have hil := Tryz.infoLs
  have hld : ∀ (w' : World), w'.rangeAt w.heap.size 0 emL → ∀ (a : Act) (o : Oper), o.op = .load 176 (.tmp 7) → a.eval (.tmp 7) = .pointer (some ⟨w.heap.size, 0, none⟩) → (execOp a.eval o).run Tryz.prog w' = .ok (Next.value (.agg emL.toArray)) w' := fun w' h a o h1 h2 => ex_load_mid _ _ h1 _ _ h2 emL _ h hul rfl hil
  clear hul hil
  rw [emL_arr] at hP1 hP2
  clear hW hE0
  generalize emL = cs at *
  go_enter Tryz.func130, Tryz.ntmps130
  go_wp2_with fail
  rw [HW.out]
  refine (hC1 _ hBW).mono ?_
  rintro e w1 ⟨⟨a1, d1, rfl, hp1, -⟩, hb1⟩
  have hB1 := below_after_of hBW hb1
  have hp1 := hp1.below hb1
  clear hC1
  go_wp2_with fail
  refine (hC2 _ hB1).mono ?_
  rintro e w2 ⟨⟨a2, d2, rfl, hp2, -⟩, hb2⟩
  have hB2 := below_after_of hB1 hb2
  have hp1 := hp1.below hb2
  have hp2 := hp2.below hb2
  have HE : Hid (∀ w', Below w2.heap.size w2 w' → w'.rangeAt w.heap.size 0 cs) := fun w' h => HE0.out w' (below_after_of (below_after_of hb1 hb2) h)
  have hbr := Below.refl w2.heap.size w2
  have hp2' := fun w' h => hp2.below (w' := w') h
  have hp1' := fun w' h => hp1.below (w' := w') h
  have e0 := HE.out _ hbr
  generalize c1.length = m1 at *
  generalize c2.length = m2 at *
  clear hC2 hb1 hb2 hp1 hp2 hB1 HE0
  go_wp2
  refine wp_region_held_drew (S := fun w' => w'.rangeAt w.heap.size 0 cs) (by kernel_rfl) (HE.out _ hbr.drew) (fun hHeld => ?_)
  refine h_take (i := 0) (d := (some 36)) (v := ?vp1) (by rfl) (by kernel_rfl) (by kernel_rfl) (by kernel_rfl) (fun _ _ _ h => h) (by rfl) ?hyp1 hHeld ?restp1
  case hyp1 =>
    intro o ho
    simp only [List.getElem?_toArray, List.getElem?_cons_zero, Option.some.injEq] at ho
    subst ho
    intro w' hSw
    first | (go_simp; done) | (go_simp; with_reducible rfl)
  try simp only [Act.put, List.setIfInBounds_toArray, List.set_cons_zero, List.set_cons_succ]
  refine h_take (i := 1) (d := (some 37)) (v := ?vp2) (by rfl) (by kernel_rfl) (by kernel_rfl) (by kernel_rfl) (fun _ _ _ h => h) (by rfl) ?hyp2 hHeld ?restp2
  case hyp2 =>
    intro o ho
    simp only [List.getElem?_toArray, List.getElem?_cons_succ, List.getElem?_cons_zero, Option.some.injEq] at ho
    subst ho
    intro w' hSw
    first | (go_simp; done) | (go_simp; with_reducible rfl)
  try simp only [Act.put, List.setIfInBounds_toArray, List.set_cons_zero, List.set_cons_succ]
  refine h_take (i := 2) (d := (some 38)) (v := ?vp3) (by rfl) (by kernel_rfl) (by kernel_rfl) (by kernel_rfl) (fun _ _ _ h => h) (by rfl) ?hyp3 hHeld ?restp3
  case hyp3 =>
    intro o ho
    simp only [List.getElem?_toArray, List.getElem?_cons_succ, List.getElem?_cons_zero, Option.some.injEq] at ho
    subst ho
    intro w' hSw
    first | (go_simp; done) | (go_simp; with_reducible rfl)
  try simp only [Act.put, List.setIfInBounds_toArray, List.set_cons_zero, List.set_cons_succ]
  refine h_take (i := 3) (d := (some 39)) (v := ?vp4) (by rfl) (by kernel_rfl) (by kernel_rfl) (by kernel_rfl) (fun _ _ _ h => h) (by rfl) ?hyp4 hHeld ?restp4
  case hyp4 =>
    intro o ho
    simp only [List.getElem?_toArray, List.getElem?_cons_succ, List.getElem?_cons_zero, Option.some.injEq] at ho
    subst ho
    intro w' hSw
    (rw [hld w' hSw] <;> first | with_reducible rfl | rfl)
  try simp only [Act.put, List.setIfInBounds_toArray, List.set_cons_zero, List.set_cons_succ]
  refine h_take (i := 5) (d := (some 41)) (v := ?vp5) (by rfl) (by kernel_rfl) (by kernel_rfl) (by kernel_rfl) (fun _ _ _ h => h) (by rfl) ?hyp5 hHeld ?restp5
  case hyp5 =>
    intro o ho
    simp only [List.getElem?_toArray, List.getElem?_cons_succ, List.getElem?_cons_zero, Option.some.injEq] at ho
    subst ho
    intro w' hSw
    first | (go_simp; done) | (go_simp; with_reducible rfl)
  try simp only [Act.put, List.setIfInBounds_toArray, List.set_cons_zero, List.set_cons_succ]
  refine h_take (i := 6) (d := (some 42)) (v := ?vp6) (by rfl) (by kernel_rfl) (by kernel_rfl) (by kernel_rfl) (fun _ _ _ h => h) (by rfl) ?hyp6 hHeld ?restp6
  case hyp6 =>
    intro o ho
    simp only [List.getElem?_toArray, List.getElem?_cons_succ, List.getElem?_cons_zero, Option.some.injEq] at ho
    subst ho
    intro w' hSw
    first | (go_simp; done) | (go_simp; with_reducible rfl)
  try simp only [Act.put, List.setIfInBounds_toArray, List.set_cons_zero, List.set_cons_succ]
  refine h_take (i := 7) (d := (some 43)) (v := ?vp7) (by rfl) (by kernel_rfl) (by kernel_rfl) (by kernel_rfl) (fun _ _ _ h => h) (by rfl) ?hyp7 hHeld ?restp7
  case hyp7 =>
    intro o ho
    simp only [List.getElem?_toArray, List.getElem?_cons_succ, List.getElem?_cons_zero, Option.some.injEq] at ho
    subst ho
    intro w' hSw
    first | (go_simp; done) | (go_simp; with_reducible rfl)
  try simp only [Act.put, List.setIfInBounds_toArray, List.set_cons_zero, List.set_cons_succ]
  refine h_take (i := 8) (d := (some 44)) (v := ?vp8) (by rfl) (by kernel_rfl) (by kernel_rfl) (by kernel_rfl) (fun _ _ _ h => h) (by rfl) ?hyp8 hHeld ?restp8
  case hyp8 =>
    intro o ho
    simp only [List.getElem?_toArray, List.getElem?_cons_succ, List.getElem?_cons_zero, Option.some.injEq] at ho
    subst ho
    intro w' hSw
    (rw [hld w' hSw] <;> first | with_reducible rfl | rfl)
  try simp only [Act.put, List.setIfInBounds_toArray, List.set_cons_zero, List.set_cons_succ]
  refine wpAnyH_ready (rs := [4]) (by kernel_rfl) (by simp) ?_
  refine AllReadyH.cons rfl (fun K hK => ?_) AllReadyH.nil
  go_simp
  refine (hP1 _ _ (hp1' _ hbr.drew)).mono ?_
  rintro e wq ⟨rfl, hbq⟩
  have hbr : Below w2.heap.size w2 wq := below_after_of hbr.drew hbq
  refine hK.out _ _ ?_ (fun hHeld => ?_)
  · first | exact HE.out _ hbr | exact HE.out _ (hbr.alloc hbr.size _)
  clear hK K
  try simp only [Act.put, List.setIfInBounds_toArray, List.set_cons_zero, List.set_cons_succ]
  refine wpAnyH_ready (rs := [9]) (by kernel_rfl) (by simp) ?_
  refine AllReadyH.cons rfl (fun K hK => ?_) AllReadyH.nil
  go_simp
  refine (hP2 _ _ (hp2' _ hbr)).mono ?_
  rintro e wr ⟨rfl, hbq2⟩
  have hbr : Below w2.heap.size w2 wr := below_after_of hbr hbq2
  refine hK.out _ _ ?_ (fun hHeld => ?_)
  · first | exact HE.out _ hbr | exact HE.out _ (hbr.alloc hbr.size _)
  clear hK K
  try simp only [Act.put, List.setIfInBounds_toArray, List.set_cons_zero, List.set_cons_succ]
  refine wpAnyH_ready (rs := [10]) (by kernel_rfl) (by simp) ?_
  refine AllReadyH.cons rfl (fun K hK => ?_) AllReadyH.nil
  go_simp
  try skip
  refine hK.out _ _ ?_ (fun hHeld => ?_)
  · first | exact HE.out _ hbr | exact HE.out _ (hbr.alloc hbr.size _)
  clear hK K
  try simp only [Act.put, List.setIfInBounds_toArray, List.set_cons_zero, List.set_cons_succ]
  refine h_take (i := 11) (d := (some 12)) (v := ?vp9) (by rfl) (by kernel_rfl) (by kernel_rfl) (by kernel_rfl) (fun _ _ _ h => h) (by rfl) ?hyp9 hHeld ?restp9
  case hyp9 =>
    intro o ho
    simp only [List.getElem?_toArray, List.getElem?_cons_succ, List.getElem?_cons_zero, Option.some.injEq] at ho
    subst ho
    intro w' hSw
    first | (go_simp; done) | (go_simp; with_reducible rfl)
  try simp only [Act.put, List.setIfInBounds_toArray, List.set_cons_zero, List.set_cons_succ]
  refine wpAnyH_done (by kernel_rfl) ?_ _
  have hNA := one_new (w := wr) (.cells #[.int .i64 x, .int .i64 y] 2)
  have hB3 := below_after_of (below_after_of hB2 hbr) hNA
  clear hP1 hP2 hp1' hp2' hbq hbq2 HE e0 hld
  go_wp2_with fail
  refine (hT _ _ (two_ints_at rfl)).mono ?_
  intro e w4 h4
  obtain ⟨a4, c4, rfl, hb4, own4⟩ := h4.use
  have kf := fun w => field_BR1 0 a4 ys.length c4 w
  have HO : Hid (w4.ownsRow w.heap.size 5 1 (.slice a4 ys.length c4) ys.length (ys.map (Value.int .u8))) := own_mono own4 hB3.size
  have hB4 := below_after_of hB3 hb4
  clear hT h4 own4 hb4
  go_wp2
  go_ret
  exact ⟨_, rfl, HO.out, hB4⟩
set_option maxRecDepth 100000 in
set_option maxHeartbeats 2000000 in
theorem partBytes_2 {l : Prl} {f q : Int} (h0 : slF l = 0) (HF : Hid (f = q * 4)) (hq : 0 ≤ f ∧ f ≤ 255) : PbAt l 2 f q := by
  refine ⟨fun v w hv ho => ?_⟩
  have hs := slF_ok h0
  have hC1 := fun w' h => slotsBetween_any v l f (f + 2) w' (hv.below (w' := w') h) ho hs.len hs.ris (by omega)
  have hC2 := fun w' h => slotsBetween_any v l (f + 2) (f + 4) w' (hv.below (w' := w') h) ho hs.len hs.ris (by omega)
  have hP1 := fun v w h => partSum_any v (cut l f (f + 2)) 1 w h (Nat.le_trans (cut_len _ _ _) hs.len) (cut_ris hs.ris _ _) (fun p hp => hs.fin p (cut_mem.1 hp).1) (by omega)
  have hP2 := fun v w h => partSum_any v (cut l (f + 2) (f + 4)) 1 w h (Nat.le_trans (cut_len _ _ _) hs.len) (cut_ris hs.ris _ _) (fun p hp => hs.fin p (cut_mem.1 hp).1) (by omega)
  rw [nd_sideK hs.ris hs.fin 1 2 (2 * q) f (f + 2) rfl (by have := HF.out; omega) rfl] at hP1
  rw [nd_sideK hs.ris hs.fin 1 2 (2 * q + 1) (f + 2) (f + 4) rfl (by have := HF.out; omega) (by omega)] at hP2
  have hT := fun u w hu => implTagBytes_any 2 u [nd l 1 (2 * q), nd l 1 (2 * q + 1)] w hu (by simp)
  have htg := tg_ok (tag := 2) (xs := [nd l 1 (2 * q), nd l 1 (2 * q + 1)]) rfl (by simp) (by have := nd_bd l 1 (2 * q); have := nd_bd l 1 (2 * q + 1); simp [sumB_iff]; omega)
  rw [htg.1, htg.2] at hT
  rw [show ptL l 2 q = tagL 2 [nd l 1 (2 * q), nd l 1 (2 * q + 1)] from rfl]
  generalize tagL 2 [nd l 1 (2 * q), nd l 1 (2 * q + 1)] = ys at *
  generalize nd l 1 (2 * q) = x at *
  generalize nd l 1 (2 * q + 1) = y at *
  obtain ⟨c1, hc1⟩ : ∃ c1, c1 = cut l f (f + 2) := ⟨_, rfl⟩
  obtain ⟨c2, hc2⟩ : ∃ c2, c2 = cut l (f + 2) (f + 4) := ⟨_, rfl⟩
  rw [← hc1] at hC1 hP1
  rw [← hc2] at hC2 hP2
  obtain ⟨a, c, rfl⟩ := hv.shape
  generalize l.length = n at *
  clear hv ho h0 hs htg hc1 hc2
  have hE0 := EmB.new w 176
  obtain ⟨W, hW⟩ : ∃ W, W = w.alloc (.cells emL.toArray 176) := ⟨_, rfl⟩
  have HW : Hid (w.alloc (.cells emL.toArray 176) = W) := hW.symm
  have hBW : Below w.heap.size w W := by rw [hW]; exact one_new _
  rw [← hW] at hE0
  have HE0 : Hid (∀ w', Below W.heap.size W w' → w'.rangeAt w.heap.size 0 emL) := fun w' h => (hE0.below h).r
  have hul := Tryz.underlying176
  have hil := Tryz.infoLs
  have hld : ∀ (w' : World), w'.rangeAt w.heap.size 0 emL → ∀ (a : Act) (o : Oper), o.op = .load 176 (.tmp 7) → a.eval (.tmp 7) = .pointer (some ⟨w.heap.size, 0, none⟩) → (execOp a.eval o).run Tryz.prog w' = .ok (Next.value (.agg emL.toArray)) w' := fun w' h a o h1 h2 => ex_load_mid _ _ h1 _ _ h2 emL _ h hul rfl hil
  clear hul hil
  rw [emL_arr] at hP1 hP2
  clear hW hE0
  generalize emL = cs at *
  go_enter Tryz.func130, Tryz.ntmps130
  go_wp2_with fail
  rw [HW.out]
  refine (hC1 _ hBW).mono ?_
  rintro e w1 ⟨⟨a1, d1, rfl, hp1, -⟩, hb1⟩
  have hB1 := below_after_of hBW hb1
  have hp1 := hp1.below hb1
  clear hC1
  go_wp2_with fail
  refine (hC2 _ hB1).mono ?_
  rintro e w2 ⟨⟨a2, d2, rfl, hp2, -⟩, hb2⟩
  have hB2 := below_after_of hB1 hb2
  have hp1 := hp1.below hb2
  have hp2 := hp2.below hb2
  have HE : Hid (∀ w', Below w2.heap.size w2 w' → w'.rangeAt w.heap.size 0 cs) := fun w' h => HE0.out w' (below_after_of (below_after_of hb1 hb2) h)
  have hbr := Below.refl w2.heap.size w2
  have hp2' := fun w' h => hp2.below (w' := w') h
  have hp1' := fun w' h => hp1.below (w' := w') h
  have e0 := HE.out _ hbr
  generalize c1.length = m1 at *
  generalize c2.length = m2 at *
  clear hC2 hb1 hb2 hp1 hp2 hB1 HE0
  go_wp2
  refine wp_region_held_drew (S := fun w' => w'.rangeAt w.heap.size 0 cs) (by kernel_rfl) (HE.out _ hbr.drew) (fun hHeld => ?_)
  refine h_take (i := 0) (d := (some 36)) (v := ?vp1) (by rfl) (by kernel_rfl) (by kernel_rfl) (by kernel_rfl) (fun _ _ _ h => h) (by rfl) ?hyp1 hHeld ?restp1
  case hyp1 =>
    intro o ho
    simp only [List.getElem?_toArray, List.getElem?_cons_zero, Option.some.injEq] at ho
    subst ho
    intro w' hSw
    first | (go_simp; done) | (go_simp; with_reducible rfl)
  try simp only [Act.put, List.setIfInBounds_toArray, List.set_cons_zero, List.set_cons_succ]
  refine h_take (i := 1) (d := (some 37)) (v := ?vp2) (by rfl) (by kernel_rfl) (by kernel_rfl) (by kernel_rfl) (fun _ _ _ h => h) (by rfl) ?hyp2 hHeld ?restp2
  case hyp2 =>
    intro o ho
    simp only [List.getElem?_toArray, List.getElem?_cons_succ, List.getElem?_cons_zero, Option.some.injEq] at ho
    subst ho
    intro w' hSw
    first | (go_simp; done) | (go_simp; with_reducible rfl)
  try simp only [Act.put, List.setIfInBounds_toArray, List.set_cons_zero, List.set_cons_succ]
  refine h_take (i := 2) (d := (some 38)) (v := ?vp3) (by rfl) (by kernel_rfl) (by kernel_rfl) (by kernel_rfl) (fun _ _ _ h => h) (by rfl) ?hyp3 hHeld ?restp3
  case hyp3 =>
    intro o ho
    simp only [List.getElem?_toArray, List.getElem?_cons_succ, List.getElem?_cons_zero, Option.some.injEq] at ho
    subst ho
    intro w' hSw
    first | (go_simp; done) | (go_simp; with_reducible rfl)
  try simp only [Act.put, List.setIfInBounds_toArray, List.set_cons_zero, List.set_cons_succ]
  refine h_take (i := 3) (d := (some 39)) (v := ?vp4) (by rfl) (by kernel_rfl) (by kernel_rfl) (by kernel_rfl) (fun _ _ _ h => h) (by rfl) ?hyp4 hHeld ?restp4
  case hyp4 =>
    intro o ho
    simp only [List.getElem?_toArray, List.getElem?_cons_succ, List.getElem?_cons_zero, Option.some.injEq] at ho
    subst ho
    intro w' hSw
    (rw [hld w' hSw] <;> first | with_reducible rfl | rfl)
  try simp only [Act.put, List.setIfInBounds_toArray, List.set_cons_zero, List.set_cons_succ]
  refine h_take (i := 5) (d := (some 41)) (v := ?vp5) (by rfl) (by kernel_rfl) (by kernel_rfl) (by kernel_rfl) (fun _ _ _ h => h) (by rfl) ?hyp5 hHeld ?restp5
  case hyp5 =>
    intro o ho
    simp only [List.getElem?_toArray, List.getElem?_cons_succ, List.getElem?_cons_zero, Option.some.injEq] at ho
    subst ho
    intro w' hSw
    first | (go_simp; done) | (go_simp; with_reducible rfl)
  try simp only [Act.put, List.setIfInBounds_toArray, List.set_cons_zero, List.set_cons_succ]
  refine h_take (i := 6) (d := (some 42)) (v := ?vp6) (by rfl) (by kernel_rfl) (by kernel_rfl) (by kernel_rfl) (fun _ _ _ h => h) (by rfl) ?hyp6 hHeld ?restp6
  case hyp6 =>
    intro o ho
    simp only [List.getElem?_toArray, List.getElem?_cons_succ, List.getElem?_cons_zero, Option.some.injEq] at ho
    subst ho
    intro w' hSw
    first | (go_simp; done) | (go_simp; with_reducible rfl)
  try simp only [Act.put, List.setIfInBounds_toArray, List.set_cons_zero, List.set_cons_succ]
  refine h_take (i := 7) (d := (some 43)) (v := ?vp7) (by rfl) (by kernel_rfl) (by kernel_rfl) (by kernel_rfl) (fun _ _ _ h => h) (by rfl) ?hyp7 hHeld ?restp7
  case hyp7 =>
    intro o ho
    simp only [List.getElem?_toArray, List.getElem?_cons_succ, List.getElem?_cons_zero, Option.some.injEq] at ho
    subst ho
    intro w' hSw
    first | (go_simp; done) | (go_simp; with_reducible rfl)
  try simp only [Act.put, List.setIfInBounds_toArray, List.set_cons_zero, List.set_cons_succ]
  refine h_take (i := 8) (d := (some 44)) (v := ?vp8) (by rfl) (by kernel_rfl) (by kernel_rfl) (by kernel_rfl) (fun _ _ _ h => h) (by rfl) ?hyp8 hHeld ?restp8
  case hyp8 =>
    intro o ho
    simp only [List.getElem?_toArray, List.getElem?_cons_succ, List.getElem?_cons_zero, Option.some.injEq] at ho
    subst ho
    intro w' hSw
    (rw [hld w' hSw] <;> first | with_reducible rfl | rfl)
  try simp only [Act.put, List.setIfInBounds_toArray, List.set_cons_zero, List.set_cons_succ]
  refine wpAnyH_ready (rs := [4]) (by kernel_rfl) (by simp) ?_
  refine AllReadyH.cons rfl (fun K hK => ?_) AllReadyH.nil
  go_simp
  refine (hP1 _ _ (hp1' _ hbr.drew)).mono ?_
  rintro e wq ⟨rfl, hbq⟩
  have hbr : Below w2.heap.size w2 wq := below_after_of hbr.drew hbq
  refine hK.out _ _ ?_ (fun hHeld => ?_)
  · first | exact HE.out _ hbr | exact HE.out _ (hbr.alloc hbr.size _)
  clear hK K
  try simp only [Act.put, List.setIfInBounds_toArray, List.set_cons_zero, List.set_cons_succ]
  refine wpAnyH_ready (rs := [9]) (by kernel_rfl) (by simp) ?_
  refine AllReadyH.cons rfl (fun K hK => ?_) AllReadyH.nil
  go_simp
  refine (hP2 _ _ (hp2' _ hbr)).mono ?_
  rintro e wr ⟨rfl, hbq2⟩
  have hbr : Below w2.heap.size w2 wr := below_after_of hbr hbq2
  refine hK.out _ _ ?_ (fun hHeld => ?_)
  · first | exact HE.out _ hbr | exact HE.out _ (hbr.alloc hbr.size _)
  clear hK K
  try simp only [Act.put, List.setIfInBounds_toArray, List.set_cons_zero, List.set_cons_succ]
  refine wpAnyH_ready (rs := [10]) (by kernel_rfl) (by simp) ?_
  refine AllReadyH.cons rfl (fun K hK => ?_) AllReadyH.nil
  go_simp
  try skip
  refine hK.out _ _ ?_ (fun hHeld => ?_)
  · first | exact HE.out _ hbr | exact HE.out _ (hbr.alloc hbr.size _)
  clear hK K
  try simp only [Act.put, List.setIfInBounds_toArray, List.set_cons_zero, List.set_cons_succ]
  refine h_take (i := 11) (d := (some 12)) (v := ?vp9) (by rfl) (by kernel_rfl) (by kernel_rfl) (by kernel_rfl) (fun _ _ _ h => h) (by rfl) ?hyp9 hHeld ?restp9
  case hyp9 =>
    intro o ho
    simp only [List.getElem?_toArray, List.getElem?_cons_succ, List.getElem?_cons_zero, Option.some.injEq] at ho
    subst ho
    intro w' hSw
    first | (go_simp; done) | (go_simp; with_reducible rfl)
  try simp only [Act.put, List.setIfInBounds_toArray, List.set_cons_zero, List.set_cons_succ]
  refine wpAnyH_done (by kernel_rfl) ?_ _
  have hNA := one_new (w := wr) (.cells #[.int .i64 x, .int .i64 y] 2)
  have hB3 := below_after_of (below_after_of hB2 hbr) hNA
  clear hP1 hP2 hp1' hp2' hbq hbq2 HE e0 hld
  go_wp2_with fail
  refine (hT _ _ (two_ints_at rfl)).mono ?_
  intro e w4 h4
  obtain ⟨a4, c4, rfl, hb4, own4⟩ := h4.use
  have kf := fun w => field_BR1 0 a4 ys.length c4 w
  have HO : Hid (w4.ownsRow w.heap.size 5 1 (.slice a4 ys.length c4) ys.length (ys.map (Value.int .u8))) := own_mono own4 hB3.size
  have hB4 := below_after_of hB3 hb4
  clear hT h4 own4 hb4
  go_wp2
  go_ret
  exact ⟨_, rfl, HO.out, hB4⟩
set_option maxRecDepth 100000 in
set_option maxHeartbeats 2000000 in
theorem partBytes_3 {l : Prl} {f q : Int} (h0 : slF l = 0) (HF : Hid (f = q * 8)) (hq : 0 ≤ f ∧ f ≤ 255) : PbAt l 3 f q := by
  refine ⟨fun v w hv ho => ?_⟩
  have hs := slF_ok h0
  have hC1 := fun w' h => slotsBetween_any v l f (f + 4) w' (hv.below (w' := w') h) ho hs.len hs.ris (by omega)
  have hC2 := fun w' h => slotsBetween_any v l (f + 4) (f + 8) w' (hv.below (w' := w') h) ho hs.len hs.ris (by omega)
  have hP1 := fun v w h => partSum_any v (cut l f (f + 4)) 2 w h (Nat.le_trans (cut_len _ _ _) hs.len) (cut_ris hs.ris _ _) (fun p hp => hs.fin p (cut_mem.1 hp).1) (by omega)
  have hP2 := fun v w h => partSum_any v (cut l (f + 4) (f + 8)) 2 w h (Nat.le_trans (cut_len _ _ _) hs.len) (cut_ris hs.ris _ _) (fun p hp => hs.fin p (cut_mem.1 hp).1) (by omega)
  rw [nd_sideK hs.ris hs.fin 2 4 (2 * q) f (f + 4) rfl (by have := HF.out; omega) rfl] at hP1
  rw [nd_sideK hs.ris hs.fin 2 4 (2 * q + 1) (f + 4) (f + 8) rfl (by have := HF.out; omega) (by omega)] at hP2
  have hT := fun u w hu => implTagBytes_any 2 u [nd l 2 (2 * q), nd l 2 (2 * q + 1)] w hu (by simp)
  have htg := tg_ok (tag := 2) (xs := [nd l 2 (2 * q), nd l 2 (2 * q + 1)]) rfl (by simp) (by have := nd_bd l 2 (2 * q); have := nd_bd l 2 (2 * q + 1); simp [sumB_iff]; omega)
  rw [htg.1, htg.2] at hT
  rw [show ptL l 3 q = tagL 2 [nd l 2 (2 * q), nd l 2 (2 * q + 1)] from rfl]
  generalize tagL 2 [nd l 2 (2 * q), nd l 2 (2 * q + 1)] = ys at *
  generalize nd l 2 (2 * q) = x at *
  generalize nd l 2 (2 * q + 1) = y at *
  obtain ⟨c1, hc1⟩ : ∃ c1, c1 = cut l f (f + 4) := ⟨_, rfl⟩
  obtain ⟨c2, hc2⟩ : ∃ c2, c2 = cut l (f + 4) (f + 8) := ⟨_, rfl⟩
  rw [← hc1] at hC1 hP1
  rw [← hc2] at hC2 hP2
  obtain ⟨a, c, rfl⟩ := hv.shape
  generalize l.length = n at *
  clear hv ho h0 hs htg hc1 hc2
  have hE0 := EmB.new w 176
  obtain ⟨W, hW⟩ : ∃ W, W = w.alloc (.cells emL.toArray 176) := ⟨_, rfl⟩
  have HW : Hid (w.alloc (.cells emL.toArray 176) = W) := hW.symm
  have hBW : Below w.heap.size w W := by rw [hW]; exact one_new _
  rw [← hW] at hE0
  have HE0 : Hid (∀ w', Below W.heap.size W w' → w'.rangeAt w.heap.size 0 emL) := fun w' h => (hE0.below h).r
  have hul := Tryz.underlying176
  have hil := Tryz.infoLs
  have hld : ∀ (w' : World), w'.rangeAt w.heap.size 0 emL → ∀ (a : Act) (o : Oper), o.op = .load 176 (.tmp 7) → a.eval (.tmp 7) = .pointer (some ⟨w.heap.size, 0, none⟩) → (execOp a.eval o).run Tryz.prog w' = .ok (Next.value (.agg emL.toArray)) w' := fun w' h a o h1 h2 => ex_load_mid _ _ h1 _ _ h2 emL _ h hul rfl hil
  clear hul hil
  rw [emL_arr] at hP1 hP2
  clear hW hE0
  generalize emL = cs at *
  go_enter Tryz.func130, Tryz.ntmps130
  go_wp2_with fail
  rw [HW.out]
  refine (hC1 _ hBW).mono ?_
  rintro e w1 ⟨⟨a1, d1, rfl, hp1, -⟩, hb1⟩
  have hB1 := below_after_of hBW hb1
  have hp1 := hp1.below hb1
  clear hC1
  go_wp2_with fail
  refine (hC2 _ hB1).mono ?_
  rintro e w2 ⟨⟨a2, d2, rfl, hp2, -⟩, hb2⟩
  have hB2 := below_after_of hB1 hb2
  have hp1 := hp1.below hb2
  have hp2 := hp2.below hb2
  have HE : Hid (∀ w', Below w2.heap.size w2 w' → w'.rangeAt w.heap.size 0 cs) := fun w' h => HE0.out w' (below_after_of (below_after_of hb1 hb2) h)
  have hbr := Below.refl w2.heap.size w2
  have hp2' := fun w' h => hp2.below (w' := w') h
  have hp1' := fun w' h => hp1.below (w' := w') h
  have e0 := HE.out _ hbr
  generalize c1.length = m1 at *
  generalize c2.length = m2 at *
  clear hC2 hb1 hb2 hp1 hp2 hB1 HE0
  go_wp2
  refine wp_region_held_drew (S := fun w' => w'.rangeAt w.heap.size 0 cs) (by kernel_rfl) (HE.out _ hbr.drew) (fun hHeld => ?_)
  refine h_take (i := 0) (d := (some 36)) (v := ?vp1) (by rfl) (by kernel_rfl) (by kernel_rfl) (by kernel_rfl) (fun _ _ _ h => h) (by rfl) ?hyp1 hHeld ?restp1
  case hyp1 =>
    intro o ho
    simp only [List.getElem?_toArray, List.getElem?_cons_zero, Option.some.injEq] at ho
    subst ho
    intro w' hSw
    first | (go_simp; done) | (go_simp; with_reducible rfl)
  try simp only [Act.put, List.setIfInBounds_toArray, List.set_cons_zero, List.set_cons_succ]
  refine h_take (i := 1) (d := (some 37)) (v := ?vp2) (by rfl) (by kernel_rfl) (by kernel_rfl) (by kernel_rfl) (fun _ _ _ h => h) (by rfl) ?hyp2 hHeld ?restp2
  case hyp2 =>
    intro o ho
    simp only [List.getElem?_toArray, List.getElem?_cons_succ, List.getElem?_cons_zero, Option.some.injEq] at ho
    subst ho
    intro w' hSw
    first | (go_simp; done) | (go_simp; with_reducible rfl)
  try simp only [Act.put, List.setIfInBounds_toArray, List.set_cons_zero, List.set_cons_succ]
  refine h_take (i := 2) (d := (some 38)) (v := ?vp3) (by rfl) (by kernel_rfl) (by kernel_rfl) (by kernel_rfl) (fun _ _ _ h => h) (by rfl) ?hyp3 hHeld ?restp3
  case hyp3 =>
    intro o ho
    simp only [List.getElem?_toArray, List.getElem?_cons_succ, List.getElem?_cons_zero, Option.some.injEq] at ho
    subst ho
    intro w' hSw
    first | (go_simp; done) | (go_simp; with_reducible rfl)
  try simp only [Act.put, List.setIfInBounds_toArray, List.set_cons_zero, List.set_cons_succ]
  refine h_take (i := 3) (d := (some 39)) (v := ?vp4) (by rfl) (by kernel_rfl) (by kernel_rfl) (by kernel_rfl) (fun _ _ _ h => h) (by rfl) ?hyp4 hHeld ?restp4
  case hyp4 =>
    intro o ho
    simp only [List.getElem?_toArray, List.getElem?_cons_succ, List.getElem?_cons_zero, Option.some.injEq] at ho
    subst ho
    intro w' hSw
    (rw [hld w' hSw] <;> first | with_reducible rfl | rfl)
  try simp only [Act.put, List.setIfInBounds_toArray, List.set_cons_zero, List.set_cons_succ]
  refine h_take (i := 5) (d := (some 41)) (v := ?vp5) (by rfl) (by kernel_rfl) (by kernel_rfl) (by kernel_rfl) (fun _ _ _ h => h) (by rfl) ?hyp5 hHeld ?restp5
  case hyp5 =>
    intro o ho
    simp only [List.getElem?_toArray, List.getElem?_cons_succ, List.getElem?_cons_zero, Option.some.injEq] at ho
    subst ho
    intro w' hSw
    first | (go_simp; done) | (go_simp; with_reducible rfl)
  try simp only [Act.put, List.setIfInBounds_toArray, List.set_cons_zero, List.set_cons_succ]
  refine h_take (i := 6) (d := (some 42)) (v := ?vp6) (by rfl) (by kernel_rfl) (by kernel_rfl) (by kernel_rfl) (fun _ _ _ h => h) (by rfl) ?hyp6 hHeld ?restp6
  case hyp6 =>
    intro o ho
    simp only [List.getElem?_toArray, List.getElem?_cons_succ, List.getElem?_cons_zero, Option.some.injEq] at ho
    subst ho
    intro w' hSw
    first | (go_simp; done) | (go_simp; with_reducible rfl)
  try simp only [Act.put, List.setIfInBounds_toArray, List.set_cons_zero, List.set_cons_succ]
  refine h_take (i := 7) (d := (some 43)) (v := ?vp7) (by rfl) (by kernel_rfl) (by kernel_rfl) (by kernel_rfl) (fun _ _ _ h => h) (by rfl) ?hyp7 hHeld ?restp7
  case hyp7 =>
    intro o ho
    simp only [List.getElem?_toArray, List.getElem?_cons_succ, List.getElem?_cons_zero, Option.some.injEq] at ho
    subst ho
    intro w' hSw
    first | (go_simp; done) | (go_simp; with_reducible rfl)
  try simp only [Act.put, List.setIfInBounds_toArray, List.set_cons_zero, List.set_cons_succ]
  refine h_take (i := 8) (d := (some 44)) (v := ?vp8) (by rfl) (by kernel_rfl) (by kernel_rfl) (by kernel_rfl) (fun _ _ _ h => h) (by rfl) ?hyp8 hHeld ?restp8
  case hyp8 =>
    intro o ho
    simp only [List.getElem?_toArray, List.getElem?_cons_succ, List.getElem?_cons_zero, Option.some.injEq] at ho
    subst ho
    intro w' hSw
    (rw [hld w' hSw] <;> first | with_reducible rfl | rfl)
  try simp only [Act.put, List.setIfInBounds_toArray, List.set_cons_zero, List.set_cons_succ]
  refine wpAnyH_ready (rs := [4]) (by kernel_rfl) (by simp) ?_
  refine AllReadyH.cons rfl (fun K hK => ?_) AllReadyH.nil
  go_simp
  refine (hP1 _ _ (hp1' _ hbr.drew)).mono ?_
  rintro e wq ⟨rfl, hbq⟩
  have hbr : Below w2.heap.size w2 wq := below_after_of hbr.drew hbq
  refine hK.out _ _ ?_ (fun hHeld => ?_)
  · first | exact HE.out _ hbr | exact HE.out _ (hbr.alloc hbr.size _)
  clear hK K
  try simp only [Act.put, List.setIfInBounds_toArray, List.set_cons_zero, List.set_cons_succ]
  refine wpAnyH_ready (rs := [9]) (by kernel_rfl) (by simp) ?_
  refine AllReadyH.cons rfl (fun K hK => ?_) AllReadyH.nil
  go_simp
  refine (hP2 _ _ (hp2' _ hbr)).mono ?_
  rintro e wr ⟨rfl, hbq2⟩
  have hbr : Below w2.heap.size w2 wr := below_after_of hbr hbq2
  refine hK.out _ _ ?_ (fun hHeld => ?_)
  · first | exact HE.out _ hbr | exact HE.out _ (hbr.alloc hbr.size _)
  clear hK K
  try simp only [Act.put, List.setIfInBounds_toArray, List.set_cons_zero, List.set_cons_succ]
  refine wpAnyH_ready (rs := [10]) (by kernel_rfl) (by simp) ?_
  refine AllReadyH.cons rfl (fun K hK => ?_) AllReadyH.nil
  go_simp
  try skip
  refine hK.out _ _ ?_ (fun hHeld => ?_)
  · first | exact HE.out _ hbr | exact HE.out _ (hbr.alloc hbr.size _)
  clear hK K
  try simp only [Act.put, List.setIfInBounds_toArray, List.set_cons_zero, List.set_cons_succ]
  refine h_take (i := 11) (d := (some 12)) (v := ?vp9) (by rfl) (by kernel_rfl) (by kernel_rfl) (by kernel_rfl) (fun _ _ _ h => h) (by rfl) ?hyp9 hHeld ?restp9
  case hyp9 =>
    intro o ho
    simp only [List.getElem?_toArray, List.getElem?_cons_succ, List.getElem?_cons_zero, Option.some.injEq] at ho
    subst ho
    intro w' hSw
    first | (go_simp; done) | (go_simp; with_reducible rfl)
  try simp only [Act.put, List.setIfInBounds_toArray, List.set_cons_zero, List.set_cons_succ]
  refine wpAnyH_done (by kernel_rfl) ?_ _
  have hNA := one_new (w := wr) (.cells #[.int .i64 x, .int .i64 y] 2)
  have hB3 := below_after_of (below_after_of hB2 hbr) hNA
  clear hP1 hP2 hp1' hp2' hbq hbq2 HE e0 hld
  go_wp2_with fail
  refine (hT _ _ (two_ints_at rfl)).mono ?_
  intro e w4 h4
  obtain ⟨a4, c4, rfl, hb4, own4⟩ := h4.use
  have kf := fun w => field_BR1 0 a4 ys.length c4 w
  have HO : Hid (w4.ownsRow w.heap.size 5 1 (.slice a4 ys.length c4) ys.length (ys.map (Value.int .u8))) := own_mono own4 hB3.size
  have hB4 := below_after_of hB3 hb4
  clear hT h4 own4 hb4
  go_wp2
  go_ret
  exact ⟨_, rfl, HO.out, hB4⟩
set_option maxRecDepth 100000 in
set_option maxHeartbeats 2000000 in
theorem partBytes_4 {l : Prl} {f q : Int} (h0 : slF l = 0) (HF : Hid (f = q * 16)) (hq : 0 ≤ f ∧ f ≤ 255) : PbAt l 4 f q := by
  refine ⟨fun v w hv ho => ?_⟩
  have hs := slF_ok h0
  have hC1 := fun w' h => slotsBetween_any v l f (f + 8) w' (hv.below (w' := w') h) ho hs.len hs.ris (by omega)
  have hC2 := fun w' h => slotsBetween_any v l (f + 8) (f + 16) w' (hv.below (w' := w') h) ho hs.len hs.ris (by omega)
  have hP1 := fun v w h => partSum_any v (cut l f (f + 8)) 3 w h (Nat.le_trans (cut_len _ _ _) hs.len) (cut_ris hs.ris _ _) (fun p hp => hs.fin p (cut_mem.1 hp).1) (by omega)
  have hP2 := fun v w h => partSum_any v (cut l (f + 8) (f + 16)) 3 w h (Nat.le_trans (cut_len _ _ _) hs.len) (cut_ris hs.ris _ _) (fun p hp => hs.fin p (cut_mem.1 hp).1) (by omega)
  rw [nd_sideK hs.ris hs.fin 3 8 (2 * q) f (f + 8) rfl (by have := HF.out; omega) rfl] at hP1
  rw [nd_sideK hs.ris hs.fin 3 8 (2 * q + 1) (f + 8) (f + 16) rfl (by have := HF.out; omega) (by omega)] at hP2
  have hT := fun u w hu => implTagBytes_any 2 u [nd l 3 (2 * q), nd l 3 (2 * q + 1)] w hu (by simp)
  have htg := tg_ok (tag := 2) (xs := [nd l 3 (2 * q), nd l 3 (2 * q + 1)]) rfl (by simp) (by have := nd_bd l 3 (2 * q); have := nd_bd l 3 (2 * q + 1); simp [sumB_iff]; omega)
  rw [htg.1, htg.2] at hT
  rw [show ptL l 4 q = tagL 2 [nd l 3 (2 * q), nd l 3 (2 * q + 1)] from rfl]
  generalize tagL 2 [nd l 3 (2 * q), nd l 3 (2 * q + 1)] = ys at *
  generalize nd l 3 (2 * q) = x at *
  generalize nd l 3 (2 * q + 1) = y at *
  obtain ⟨c1, hc1⟩ : ∃ c1, c1 = cut l f (f + 8) := ⟨_, rfl⟩
  obtain ⟨c2, hc2⟩ : ∃ c2, c2 = cut l (f + 8) (f + 16) := ⟨_, rfl⟩
  rw [← hc1] at hC1 hP1
  rw [← hc2] at hC2 hP2
  obtain ⟨a, c, rfl⟩ := hv.shape
  generalize l.length = n at *
  clear hv ho h0 hs htg hc1 hc2
  have hE0 := EmB.new w 176
  obtain ⟨W, hW⟩ : ∃ W, W = w.alloc (.cells emL.toArray 176) := ⟨_, rfl⟩
  have HW : Hid (w.alloc (.cells emL.toArray 176) = W) := hW.symm
  have hBW : Below w.heap.size w W := by rw [hW]; exact one_new _
  rw [← hW] at hE0
  have HE0 : Hid (∀ w', Below W.heap.size W w' → w'.rangeAt w.heap.size 0 emL) := fun w' h => (hE0.below h).r
  have hul := Tryz.underlying176
  have hil := Tryz.infoLs
  have hld : ∀ (w' : World), w'.rangeAt w.heap.size 0 emL → ∀ (a : Act) (o : Oper), o.op = .load 176 (.tmp 7) → a.eval (.tmp 7) = .pointer (some ⟨w.heap.size, 0, none⟩) → (execOp a.eval o).run Tryz.prog w' = .ok (Next.value (.agg emL.toArray)) w' := fun w' h a o h1 h2 => ex_load_mid _ _ h1 _ _ h2 emL _ h hul rfl hil
  clear hul hil
  rw [emL_arr] at hP1 hP2
  clear hW hE0
  generalize emL = cs at *
  go_enter Tryz.func130, Tryz.ntmps130
  go_wp2_with fail
  rw [HW.out]
  refine (hC1 _ hBW).mono ?_
  rintro e w1 ⟨⟨a1, d1, rfl, hp1, -⟩, hb1⟩
  have hB1 := below_after_of hBW hb1
  have hp1 := hp1.below hb1
  clear hC1
  go_wp2_with fail
  refine (hC2 _ hB1).mono ?_
  rintro e w2 ⟨⟨a2, d2, rfl, hp2, -⟩, hb2⟩
  have hB2 := below_after_of hB1 hb2
  have hp1 := hp1.below hb2
  have hp2 := hp2.below hb2
  have HE : Hid (∀ w', Below w2.heap.size w2 w' → w'.rangeAt w.heap.size 0 cs) := fun w' h => HE0.out w' (below_after_of (below_after_of hb1 hb2) h)
  have hbr := Below.refl w2.heap.size w2
  have hp2' := fun w' h => hp2.below (w' := w') h
  have hp1' := fun w' h => hp1.below (w' := w') h
  have e0 := HE.out _ hbr
  generalize c1.length = m1 at *
  generalize c2.length = m2 at *
  clear hC2 hb1 hb2 hp1 hp2 hB1 HE0
  go_wp2
  refine wp_region_held_drew (S := fun w' => w'.rangeAt w.heap.size 0 cs) (by kernel_rfl) (HE.out _ hbr.drew) (fun hHeld => ?_)
  refine h_take (i := 0) (d := (some 36)) (v := ?vp1) (by rfl) (by kernel_rfl) (by kernel_rfl) (by kernel_rfl) (fun _ _ _ h => h) (by rfl) ?hyp1 hHeld ?restp1
  case hyp1 =>
    intro o ho
    simp only [List.getElem?_toArray, List.getElem?_cons_zero, Option.some.injEq] at ho
    subst ho
    intro w' hSw
    first | (go_simp; done) | (go_simp; with_reducible rfl)
  try simp only [Act.put, List.setIfInBounds_toArray, List.set_cons_zero, List.set_cons_succ]
  refine h_take (i := 1) (d := (some 37)) (v := ?vp2) (by rfl) (by kernel_rfl) (by kernel_rfl) (by kernel_rfl) (fun _ _ _ h => h) (by rfl) ?hyp2 hHeld ?restp2
  case hyp2 =>
    intro o ho
    simp only [List.getElem?_toArray, List.getElem?_cons_succ, List.getElem?_cons_zero, Option.some.injEq] at ho
    subst ho
    intro w' hSw
    first | (go_simp; done) | (go_simp; with_reducible rfl)
  try simp only [Act.put, List.setIfInBounds_toArray, List.set_cons_zero, List.set_cons_succ]
  refine h_take (i := 2) (d := (some 38)) (v := ?vp3) (by rfl) (by kernel_rfl) (by kernel_rfl) (by kernel_rfl) (fun _ _ _ h => h) (by rfl) ?hyp3 hHeld ?restp3
  case hyp3 =>
    intro o ho
    simp only [List.getElem?_toArray, List.getElem?_cons_succ, List.getElem?_cons_zero, Option.some.injEq] at ho
    subst ho
    intro w' hSw
    first | (go_simp; done) | (go_simp; with_reducible rfl)
  try simp only [Act.put, List.setIfInBounds_toArray, List.set_cons_zero, List.set_cons_succ]
  refine h_take (i := 3) (d := (some 39)) (v := ?vp4) (by rfl) (by kernel_rfl) (by kernel_rfl) (by kernel_rfl) (fun _ _ _ h => h) (by rfl) ?hyp4 hHeld ?restp4
  case hyp4 =>
    intro o ho
    simp only [List.getElem?_toArray, List.getElem?_cons_succ, List.getElem?_cons_zero, Option.some.injEq] at ho
    subst ho
    intro w' hSw
    (rw [hld w' hSw] <;> first | with_reducible rfl | rfl)
  try simp only [Act.put, List.setIfInBounds_toArray, List.set_cons_zero, List.set_cons_succ]
  refine h_take (i := 5) (d := (some 41)) (v := ?vp5) (by rfl) (by kernel_rfl) (by kernel_rfl) (by kernel_rfl) (fun _ _ _ h => h) (by rfl) ?hyp5 hHeld ?restp5
  case hyp5 =>
    intro o ho
    simp only [List.getElem?_toArray, List.getElem?_cons_succ, List.getElem?_cons_zero, Option.some.injEq] at ho
    subst ho
    intro w' hSw
    first | (go_simp; done) | (go_simp; with_reducible rfl)
  try simp only [Act.put, List.setIfInBounds_toArray, List.set_cons_zero, List.set_cons_succ]
  refine h_take (i := 6) (d := (some 42)) (v := ?vp6) (by rfl) (by kernel_rfl) (by kernel_rfl) (by kernel_rfl) (fun _ _ _ h => h) (by rfl) ?hyp6 hHeld ?restp6
  case hyp6 =>
    intro o ho
    simp only [List.getElem?_toArray, List.getElem?_cons_succ, List.getElem?_cons_zero, Option.some.injEq] at ho
    subst ho
    intro w' hSw
    first | (go_simp; done) | (go_simp; with_reducible rfl)
  try simp only [Act.put, List.setIfInBounds_toArray, List.set_cons_zero, List.set_cons_succ]
  refine h_take (i := 7) (d := (some 43)) (v := ?vp7) (by rfl) (by kernel_rfl) (by kernel_rfl) (by kernel_rfl) (fun _ _ _ h => h) (by rfl) ?hyp7 hHeld ?restp7
  case hyp7 =>
    intro o ho
    simp only [List.getElem?_toArray, List.getElem?_cons_succ, List.getElem?_cons_zero, Option.some.injEq] at ho
    subst ho
    intro w' hSw
    first | (go_simp; done) | (go_simp; with_reducible rfl)
  try simp only [Act.put, List.setIfInBounds_toArray, List.set_cons_zero, List.set_cons_succ]
  refine h_take (i := 8) (d := (some 44)) (v := ?vp8) (by rfl) (by kernel_rfl) (by kernel_rfl) (by kernel_rfl) (fun _ _ _ h => h) (by rfl) ?hyp8 hHeld ?restp8
  case hyp8 =>
    intro o ho
    simp only [List.getElem?_toArray, List.getElem?_cons_succ, List.getElem?_cons_zero, Option.some.injEq] at ho
    subst ho
    intro w' hSw
    (rw [hld w' hSw] <;> first | with_reducible rfl | rfl)
  try simp only [Act.put, List.setIfInBounds_toArray, List.set_cons_zero, List.set_cons_succ]
  refine wpAnyH_ready (rs := [4]) (by kernel_rfl) (by simp) ?_
  refine AllReadyH.cons rfl (fun K hK => ?_) AllReadyH.nil
  go_simp
  refine (hP1 _ _ (hp1' _ hbr.drew)).mono ?_
  rintro e wq ⟨rfl, hbq⟩
  have hbr : Below w2.heap.size w2 wq := below_after_of hbr.drew hbq
  refine hK.out _ _ ?_ (fun hHeld => ?_)
  · first | exact HE.out _ hbr | exact HE.out _ (hbr.alloc hbr.size _)
  clear hK K
  try simp only [Act.put, List.setIfInBounds_toArray, List.set_cons_zero, List.set_cons_succ]
  refine wpAnyH_ready (rs := [9]) (by kernel_rfl) (by simp) ?_
  refine AllReadyH.cons rfl (fun K hK => ?_) AllReadyH.nil
  go_simp
  refine (hP2 _ _ (hp2' _ hbr)).mono ?_
  rintro e wr ⟨rfl, hbq2⟩
  have hbr : Below w2.heap.size w2 wr := below_after_of hbr hbq2
  refine hK.out _ _ ?_ (fun hHeld => ?_)
  · first | exact HE.out _ hbr | exact HE.out _ (hbr.alloc hbr.size _)
  clear hK K
  try simp only [Act.put, List.setIfInBounds_toArray, List.set_cons_zero, List.set_cons_succ]
  refine wpAnyH_ready (rs := [10]) (by kernel_rfl) (by simp) ?_
  refine AllReadyH.cons rfl (fun K hK => ?_) AllReadyH.nil
  go_simp
  try skip
  refine hK.out _ _ ?_ (fun hHeld => ?_)
  · first | exact HE.out _ hbr | exact HE.out _ (hbr.alloc hbr.size _)
  clear hK K
  try simp only [Act.put, List.setIfInBounds_toArray, List.set_cons_zero, List.set_cons_succ]
  refine h_take (i := 11) (d := (some 12)) (v := ?vp9) (by rfl) (by kernel_rfl) (by kernel_rfl) (by kernel_rfl) (fun _ _ _ h => h) (by rfl) ?hyp9 hHeld ?restp9
  case hyp9 =>
    intro o ho
    simp only [List.getElem?_toArray, List.getElem?_cons_succ, List.getElem?_cons_zero, Option.some.injEq] at ho
    subst ho
    intro w' hSw
    first | (go_simp; done) | (go_simp; with_reducible rfl)
  try simp only [Act.put, List.setIfInBounds_toArray, List.set_cons_zero, List.set_cons_succ]
  refine wpAnyH_done (by kernel_rfl) ?_ _
  have hNA := one_new (w := wr) (.cells #[.int .i64 x, .int .i64 y] 2)
  have hB3 := below_after_of (below_after_of hB2 hbr) hNA
  clear hP1 hP2 hp1' hp2' hbq hbq2 HE e0 hld
  go_wp2_with fail
  refine (hT _ _ (two_ints_at rfl)).mono ?_
  intro e w4 h4
  obtain ⟨a4, c4, rfl, hb4, own4⟩ := h4.use
  have kf := fun w => field_BR1 0 a4 ys.length c4 w
  have HO : Hid (w4.ownsRow w.heap.size 5 1 (.slice a4 ys.length c4) ys.length (ys.map (Value.int .u8))) := own_mono own4 hB3.size
  have hB4 := below_after_of hB3 hb4
  clear hT h4 own4 hb4
  go_wp2
  go_ret
  exact ⟨_, rfl, HO.out, hB4⟩
set_option maxRecDepth 100000 in
set_option maxHeartbeats 2000000 in
theorem partBytes_5 {l : Prl} {f q : Int} (h0 : slF l = 0) (HF : Hid (f = q * 32)) (hq : 0 ≤ f ∧ f ≤ 255) : PbAt l 5 f q := by
  refine ⟨fun v w hv ho => ?_⟩
  have hs := slF_ok h0
  have hC1 := fun w' h => slotsBetween_any v l f (f + 16) w' (hv.below (w' := w') h) ho hs.len hs.ris (by omega)
  have hC2 := fun w' h => slotsBetween_any v l (f + 16) (f + 32) w' (hv.below (w' := w') h) ho hs.len hs.ris (by omega)
  have hP1 := fun v w h => partSum_any v (cut l f (f + 16)) 4 w h (Nat.le_trans (cut_len _ _ _) hs.len) (cut_ris hs.ris _ _) (fun p hp => hs.fin p (cut_mem.1 hp).1) (by omega)
  have hP2 := fun v w h => partSum_any v (cut l (f + 16) (f + 32)) 4 w h (Nat.le_trans (cut_len _ _ _) hs.len) (cut_ris hs.ris _ _) (fun p hp => hs.fin p (cut_mem.1 hp).1) (by omega)
  rw [nd_sideK hs.ris hs.fin 4 16 (2 * q) f (f + 16) rfl (by have := HF.out; omega) rfl] at hP1
  rw [nd_sideK hs.ris hs.fin 4 16 (2 * q + 1) (f + 16) (f + 32) rfl (by have := HF.out; omega) (by omega)] at hP2
  have hT := fun u w hu => implTagBytes_any 2 u [nd l 4 (2 * q), nd l 4 (2 * q + 1)] w hu (by simp)
  have htg := tg_ok (tag := 2) (xs := [nd l 4 (2 * q), nd l 4 (2 * q + 1)]) rfl (by simp) (by have := nd_bd l 4 (2 * q); have := nd_bd l 4 (2 * q + 1); simp [sumB_iff]; omega)
  rw [htg.1, htg.2] at hT
  rw [show ptL l 5 q = tagL 2 [nd l 4 (2 * q), nd l 4 (2 * q + 1)] from rfl]
  generalize tagL 2 [nd l 4 (2 * q), nd l 4 (2 * q + 1)] = ys at *
  generalize nd l 4 (2 * q) = x at *
  generalize nd l 4 (2 * q + 1) = y at *
  obtain ⟨c1, hc1⟩ : ∃ c1, c1 = cut l f (f + 16) := ⟨_, rfl⟩
  obtain ⟨c2, hc2⟩ : ∃ c2, c2 = cut l (f + 16) (f + 32) := ⟨_, rfl⟩
  rw [← hc1] at hC1 hP1
  rw [← hc2] at hC2 hP2
  obtain ⟨a, c, rfl⟩ := hv.shape
  generalize l.length = n at *
  clear hv ho h0 hs htg hc1 hc2
  have hE0 := EmB.new w 176
  obtain ⟨W, hW⟩ : ∃ W, W = w.alloc (.cells emL.toArray 176) := ⟨_, rfl⟩
  have HW : Hid (w.alloc (.cells emL.toArray 176) = W) := hW.symm
  have hBW : Below w.heap.size w W := by rw [hW]; exact one_new _
  rw [← hW] at hE0
  have HE0 : Hid (∀ w', Below W.heap.size W w' → w'.rangeAt w.heap.size 0 emL) := fun w' h => (hE0.below h).r
  have hul := Tryz.underlying176
  have hil := Tryz.infoLs
  have hld : ∀ (w' : World), w'.rangeAt w.heap.size 0 emL → ∀ (a : Act) (o : Oper), o.op = .load 176 (.tmp 7) → a.eval (.tmp 7) = .pointer (some ⟨w.heap.size, 0, none⟩) → (execOp a.eval o).run Tryz.prog w' = .ok (Next.value (.agg emL.toArray)) w' := fun w' h a o h1 h2 => ex_load_mid _ _ h1 _ _ h2 emL _ h hul rfl hil
  clear hul hil
  rw [emL_arr] at hP1 hP2
  clear hW hE0
  generalize emL = cs at *
  go_enter Tryz.func130, Tryz.ntmps130
  go_wp2_with fail
  rw [HW.out]
  refine (hC1 _ hBW).mono ?_
  rintro e w1 ⟨⟨a1, d1, rfl, hp1, -⟩, hb1⟩
  have hB1 := below_after_of hBW hb1
  have hp1 := hp1.below hb1
  clear hC1
  go_wp2_with fail
  refine (hC2 _ hB1).mono ?_
  rintro e w2 ⟨⟨a2, d2, rfl, hp2, -⟩, hb2⟩
  have hB2 := below_after_of hB1 hb2
  have hp1 := hp1.below hb2
  have hp2 := hp2.below hb2
  have HE : Hid (∀ w', Below w2.heap.size w2 w' → w'.rangeAt w.heap.size 0 cs) := fun w' h => HE0.out w' (below_after_of (below_after_of hb1 hb2) h)
  have hbr := Below.refl w2.heap.size w2
  have hp2' := fun w' h => hp2.below (w' := w') h
  have hp1' := fun w' h => hp1.below (w' := w') h
  have e0 := HE.out _ hbr
  generalize c1.length = m1 at *
  generalize c2.length = m2 at *
  clear hC2 hb1 hb2 hp1 hp2 hB1 HE0
  go_wp2
  refine wp_region_held_drew (S := fun w' => w'.rangeAt w.heap.size 0 cs) (by kernel_rfl) (HE.out _ hbr.drew) (fun hHeld => ?_)
  refine h_take (i := 0) (d := (some 36)) (v := ?vp1) (by rfl) (by kernel_rfl) (by kernel_rfl) (by kernel_rfl) (fun _ _ _ h => h) (by rfl) ?hyp1 hHeld ?restp1
  case hyp1 =>
    intro o ho
    simp only [List.getElem?_toArray, List.getElem?_cons_zero, Option.some.injEq] at ho
    subst ho
    intro w' hSw
    first | (go_simp; done) | (go_simp; with_reducible rfl)
  try simp only [Act.put, List.setIfInBounds_toArray, List.set_cons_zero, List.set_cons_succ]
  refine h_take (i := 1) (d := (some 37)) (v := ?vp2) (by rfl) (by kernel_rfl) (by kernel_rfl) (by kernel_rfl) (fun _ _ _ h => h) (by rfl) ?hyp2 hHeld ?restp2
  case hyp2 =>
    intro o ho
    simp only [List.getElem?_toArray, List.getElem?_cons_succ, List.getElem?_cons_zero, Option.some.injEq] at ho
    subst ho
    intro w' hSw
    first | (go_simp; done) | (go_simp; with_reducible rfl)
  try simp only [Act.put, List.setIfInBounds_toArray, List.set_cons_zero, List.set_cons_succ]
  refine h_take (i := 2) (d := (some 38)) (v := ?vp3) (by rfl) (by kernel_rfl) (by kernel_rfl) (by kernel_rfl) (fun _ _ _ h => h) (by rfl) ?hyp3 hHeld ?restp3
  case hyp3 =>
    intro o ho
    simp only [List.getElem?_toArray, List.getElem?_cons_succ, List.getElem?_cons_zero, Option.some.injEq] at ho
    subst ho
    intro w' hSw
    first | (go_simp; done) | (go_simp; with_reducible rfl)
  try simp only [Act.put, List.setIfInBounds_toArray, List.set_cons_zero, List.set_cons_succ]
  refine h_take (i := 3) (d := (some 39)) (v := ?vp4) (by rfl) (by kernel_rfl) (by kernel_rfl) (by kernel_rfl) (fun _ _ _ h => h) (by rfl) ?hyp4 hHeld ?restp4
  case hyp4 =>
    intro o ho
    simp only [List.getElem?_toArray, List.getElem?_cons_succ, List.getElem?_cons_zero, Option.some.injEq] at ho
    subst ho
    intro w' hSw
    (rw [hld w' hSw] <;> first | with_reducible rfl | rfl)
  try simp only [Act.put, List.setIfInBounds_toArray, List.set_cons_zero, List.set_cons_succ]
  refine h_take (i := 5) (d := (some 41)) (v := ?vp5) (by rfl) (by kernel_rfl) (by kernel_rfl) (by kernel_rfl) (fun _ _ _ h => h) (by rfl) ?hyp5 hHeld ?restp5
  case hyp5 =>
    intro o ho
    simp only [List.getElem?_toArray, List.getElem?_cons_succ, List.getElem?_cons_zero, Option.some.injEq] at ho
    subst ho
    intro w' hSw
    first | (go_simp; done) | (go_simp; with_reducible rfl)
  try simp only [Act.put, List.setIfInBounds_toArray, List.set_cons_zero, List.set_cons_succ]
  refine h_take (i := 6) (d := (some 42)) (v := ?vp6) (by rfl) (by kernel_rfl) (by kernel_rfl) (by kernel_rfl) (fun _ _ _ h => h) (by rfl) ?hyp6 hHeld ?restp6
  case hyp6 =>
    intro o ho
    simp only [List.getElem?_toArray, List.getElem?_cons_succ, List.getElem?_cons_zero, Option.some.injEq] at ho
    subst ho
    intro w' hSw
    first | (go_simp; done) | (go_simp; with_reducible rfl)
  try simp only [Act.put, List.setIfInBounds_toArray, List.set_cons_zero, List.set_cons_succ]
  refine h_take (i := 7) (d := (some 43)) (v := ?vp7) (by rfl) (by kernel_rfl) (by kernel_rfl) (by kernel_rfl) (fun _ _ _ h => h) (by rfl) ?hyp7 hHeld ?restp7
  case hyp7 =>
    intro o ho
    simp only [List.getElem?_toArray, List.getElem?_cons_succ, List.getElem?_cons_zero, Option.some.injEq] at ho
    subst ho
    intro w' hSw
    first | (go_simp; done) | (go_simp; with_reducible rfl)
  try simp only [Act.put, List.setIfInBounds_toArray, List.set_cons_zero, List.set_cons_succ]
  refine h_take (i := 8) (d := (some 44)) (v := ?vp8) (by rfl) (by kernel_rfl) (by kernel_rfl) (by kernel_rfl) (fun _ _ _ h => h) (by rfl) ?hyp8 hHeld ?restp8
  case hyp8 =>
    intro o ho
    simp only [List.getElem?_toArray, List.getElem?_cons_succ, List.getElem?_cons_zero, Option.some.injEq] at ho
    subst ho
    intro w' hSw
    (rw [hld w' hSw] <;> first | with_reducible rfl | rfl)
  try simp only [Act.put, List.setIfInBounds_toArray, List.set_cons_zero, List.set_cons_succ]
  refine wpAnyH_ready (rs := [4]) (by kernel_rfl) (by simp) ?_
  refine AllReadyH.cons rfl (fun K hK => ?_) AllReadyH.nil
  go_simp
  refine (hP1 _ _ (hp1' _ hbr.drew)).mono ?_
  rintro e wq ⟨rfl, hbq⟩
  have hbr : Below w2.heap.size w2 wq := below_after_of hbr.drew hbq
  refine hK.out _ _ ?_ (fun hHeld => ?_)
  · first | exact HE.out _ hbr | exact HE.out _ (hbr.alloc hbr.size _)
  clear hK K
  try simp only [Act.put, List.setIfInBounds_toArray, List.set_cons_zero, List.set_cons_succ]
  refine wpAnyH_ready (rs := [9]) (by kernel_rfl) (by simp) ?_
  refine AllReadyH.cons rfl (fun K hK => ?_) AllReadyH.nil
  go_simp
  refine (hP2 _ _ (hp2' _ hbr)).mono ?_
  rintro e wr ⟨rfl, hbq2⟩
  have hbr : Below w2.heap.size w2 wr := below_after_of hbr hbq2
  refine hK.out _ _ ?_ (fun hHeld => ?_)
  · first | exact HE.out _ hbr | exact HE.out _ (hbr.alloc hbr.size _)
  clear hK K
  try simp only [Act.put, List.setIfInBounds_toArray, List.set_cons_zero, List.set_cons_succ]
  refine wpAnyH_ready (rs := [10]) (by kernel_rfl) (by simp) ?_
  refine AllReadyH.cons rfl (fun K hK => ?_) AllReadyH.nil
  go_simp
  try skip
  refine hK.out _ _ ?_ (fun hHeld => ?_)
  · first | exact HE.out _ hbr | exact HE.out _ (hbr.alloc hbr.size _)
  clear hK K
  try simp only [Act.put, List.setIfInBounds_toArray, List.set_cons_zero, List.set_cons_succ]
  refine h_take (i := 11) (d := (some 12)) (v := ?vp9) (by rfl) (by kernel_rfl) (by kernel_rfl) (by kernel_rfl) (fun _ _ _ h => h) (by rfl) ?hyp9 hHeld ?restp9
  case hyp9 =>
    intro o ho
    simp only [List.getElem?_toArray, List.getElem?_cons_succ, List.getElem?_cons_zero, Option.some.injEq] at ho
    subst ho
    intro w' hSw
    first | (go_simp; done) | (go_simp; with_reducible rfl)
  try simp only [Act.put, List.setIfInBounds_toArray, List.set_cons_zero, List.set_cons_succ]
  refine wpAnyH_done (by kernel_rfl) ?_ _
  have hNA := one_new (w := wr) (.cells #[.int .i64 x, .int .i64 y] 2)
  have hB3 := below_after_of (below_after_of hB2 hbr) hNA
  clear hP1 hP2 hp1' hp2' hbq hbq2 HE e0 hld
  go_wp2_with fail
  refine (hT _ _ (two_ints_at rfl)).mono ?_
  intro e w4 h4
  obtain ⟨a4, c4, rfl, hb4, own4⟩ := h4.use
  have kf := fun w => field_BR1 0 a4 ys.length c4 w
  have HO : Hid (w4.ownsRow w.heap.size 5 1 (.slice a4 ys.length c4) ys.length (ys.map (Value.int .u8))) := own_mono own4 hB3.size
  have hB4 := below_after_of hB3 hb4
  clear hT h4 own4 hb4
  go_wp2
  go_ret
  exact ⟨_, rfl, HO.out, hB4⟩
set_option maxRecDepth 100000 in
set_option maxHeartbeats 2000000 in
theorem partBytes_6 {l : Prl} {f q : Int} (h0 : slF l = 0) (HF : Hid (f = q * 64)) (hq : 0 ≤ f ∧ f ≤ 255) : PbAt l 6 f q := by
  refine ⟨fun v w hv ho => ?_⟩
  have hs := slF_ok h0
  have hC1 := fun w' h => slotsBetween_any v l f (f + 32) w' (hv.below (w' := w') h) ho hs.len hs.ris (by omega)
  have hC2 := fun w' h => slotsBetween_any v l (f + 32) (f + 64) w' (hv.below (w' := w') h) ho hs.len hs.ris (by omega)
  have hP1 := fun v w h => partSum_any v (cut l f (f + 32)) 5 w h (Nat.le_trans (cut_len _ _ _) hs.len) (cut_ris hs.ris _ _) (fun p hp => hs.fin p (cut_mem.1 hp).1) (by omega)
  have hP2 := fun v w h => partSum_any v (cut l (f + 32) (f + 64)) 5 w h (Nat.le_trans (cut_len _ _ _) hs.len) (cut_ris hs.ris _ _) (fun p hp => hs.fin p (cut_mem.1 hp).1) (by omega)
  rw [nd_sideK hs.ris hs.fin 5 32 (2 * q) f (f + 32) rfl (by have := HF.out; omega) rfl] at hP1
  rw [nd_sideK hs.ris hs.fin 5 32 (2 * q + 1) (f + 32) (f + 64) rfl (by have := HF.out; omega) (by omega)] at hP2
  have hT := fun u w hu => implTagBytes_any 2 u [nd l 5 (2 * q), nd l 5 (2 * q + 1)] w hu (by simp)
  have htg := tg_ok (tag := 2) (xs := [nd l 5 (2 * q), nd l 5 (2 * q + 1)]) rfl (by simp) (by have := nd_bd l 5 (2 * q); have := nd_bd l 5 (2 * q + 1); simp [sumB_iff]; omega)
  rw [htg.1, htg.2] at hT
  rw [show ptL l 6 q = tagL 2 [nd l 5 (2 * q), nd l 5 (2 * q + 1)] from rfl]
  generalize tagL 2 [nd l 5 (2 * q), nd l 5 (2 * q + 1)] = ys at *
  generalize nd l 5 (2 * q) = x at *
  generalize nd l 5 (2 * q + 1) = y at *
  obtain ⟨c1, hc1⟩ : ∃ c1, c1 = cut l f (f + 32) := ⟨_, rfl⟩
  obtain ⟨c2, hc2⟩ : ∃ c2, c2 = cut l (f + 32) (f + 64) := ⟨_, rfl⟩
  rw [← hc1] at hC1 hP1
  rw [← hc2] at hC2 hP2
  obtain ⟨a, c, rfl⟩ := hv.shape
  generalize l.length = n at *
  clear hv ho h0 hs htg hc1 hc2
  have hE0 := EmB.new w 176
  obtain ⟨W, hW⟩ : ∃ W, W = w.alloc (.cells emL.toArray 176) := ⟨_, rfl⟩
  have HW : Hid (w.alloc (.cells emL.toArray 176) = W) := hW.symm
  have hBW : Below w.heap.size w W := by rw [hW]; exact one_new _
  rw [← hW] at hE0
  have HE0 : Hid (∀ w', Below W.heap.size W w' → w'.rangeAt w.heap.size 0 emL) := fun w' h => (hE0.below h).r
  have hul := Tryz.underlying176
  have hil := Tryz.infoLs
  have hld : ∀ (w' : World), w'.rangeAt w.heap.size 0 emL → ∀ (a : Act) (o : Oper), o.op = .load 176 (.tmp 7) → a.eval (.tmp 7) = .pointer (some ⟨w.heap.size, 0, none⟩) → (execOp a.eval o).run Tryz.prog w' = .ok (Next.value (.agg emL.toArray)) w' := fun w' h a o h1 h2 => ex_load_mid _ _ h1 _ _ h2 emL _ h hul rfl hil
  clear hul hil
  rw [emL_arr] at hP1 hP2
  clear hW hE0
  generalize emL = cs at *
  go_enter Tryz.func130, Tryz.ntmps130
  go_wp2_with fail
  rw [HW.out]
  refine (hC1 _ hBW).mono ?_
  rintro e w1 ⟨⟨a1, d1, rfl, hp1, -⟩, hb1⟩
  have hB1 := below_after_of hBW hb1
  have hp1 := hp1.below hb1
  clear hC1
  go_wp2_with fail
  refine (hC2 _ hB1).mono ?_
  rintro e w2 ⟨⟨a2, d2, rfl, hp2, -⟩, hb2⟩
  have hB2 := below_after_of hB1 hb2
  have hp1 := hp1.below hb2
  have hp2 := hp2.below hb2
  have HE : Hid (∀ w', Below w2.heap.size w2 w' → w'.rangeAt w.heap.size 0 cs) := fun w' h => HE0.out w' (below_after_of (below_after_of hb1 hb2) h)
  have hbr := Below.refl w2.heap.size w2
  have hp2' := fun w' h => hp2.below (w' := w') h
  have hp1' := fun w' h => hp1.below (w' := w') h
  have e0 := HE.out _ hbr
  generalize c1.length = m1 at *
  generalize c2.length = m2 at *
  clear hC2 hb1 hb2 hp1 hp2 hB1 HE0
  go_wp2
  refine wp_region_held_drew (S := fun w' => w'.rangeAt w.heap.size 0 cs) (by kernel_rfl) (HE.out _ hbr.drew) (fun hHeld => ?_)
  refine h_take (i := 0) (d := (some 36)) (v := ?vp1) (by rfl) (by kernel_rfl) (by kernel_rfl) (by kernel_rfl) (fun _ _ _ h => h) (by rfl) ?hyp1 hHeld ?restp1
  case hyp1 =>
    intro o ho
    simp only [List.getElem?_toArray, List.getElem?_cons_zero, Option.some.injEq] at ho
    subst ho
    intro w' hSw
    first | (go_simp; done) | (go_simp; with_reducible rfl)
  try simp only [Act.put, List.setIfInBounds_toArray, List.set_cons_zero, List.set_cons_succ]
  refine h_take (i := 1) (d := (some 37)) (v := ?vp2) (by rfl) (by kernel_rfl) (by kernel_rfl) (by kernel_rfl) (fun _ _ _ h => h) (by rfl) ?hyp2 hHeld ?restp2
  case hyp2 =>
    intro o ho
    simp only [List.getElem?_toArray, List.getElem?_cons_succ, List.getElem?_cons_zero, Option.some.injEq] at ho
    subst ho
    intro w' hSw
    first | (go_simp; done) | (go_simp; with_reducible rfl)
  try simp only [Act.put, List.setIfInBounds_toArray, List.set_cons_zero, List.set_cons_succ]
  refine h_take (i := 2) (d := (some 38)) (v := ?vp3) (by rfl) (by kernel_rfl) (by kernel_rfl) (by kernel_rfl) (fun _ _ _ h => h) (by rfl) ?hyp3 hHeld ?restp3
  case hyp3 =>
    intro o ho
    simp only [List.getElem?_toArray, List.getElem?_cons_succ, List.getElem?_cons_zero, Option.some.injEq] at ho
    subst ho
    intro w' hSw
    first | (go_simp; done) | (go_simp; with_reducible rfl)
  try simp only [Act.put, List.setIfInBounds_toArray, List.set_cons_zero, List.set_cons_succ]
  refine h_take (i := 3) (d := (some 39)) (v := ?vp4) (by rfl) (by kernel_rfl) (by kernel_rfl) (by kernel_rfl) (fun _ _ _ h => h) (by rfl) ?hyp4 hHeld ?restp4
  case hyp4 =>
    intro o ho
    simp only [List.getElem?_toArray, List.getElem?_cons_succ, List.getElem?_cons_zero, Option.some.injEq] at ho
    subst ho
    intro w' hSw
    (rw [hld w' hSw] <;> first | with_reducible rfl | rfl)
  try simp only [Act.put, List.setIfInBounds_toArray, List.set_cons_zero, List.set_cons_succ]
  refine h_take (i := 5) (d := (some 41)) (v := ?vp5) (by rfl) (by kernel_rfl) (by kernel_rfl) (by kernel_rfl) (fun _ _ _ h => h) (by rfl) ?hyp5 hHeld ?restp5
  case hyp5 =>
    intro o ho
    simp only [List.getElem?_toArray, List.getElem?_cons_succ, List.getElem?_cons_zero, Option.some.injEq] at ho
    subst ho
    intro w' hSw
    first | (go_simp; done) | (go_simp; with_reducible rfl)
  try simp only [Act.put, List.setIfInBounds_toArray, List.set_cons_zero, List.set_cons_succ]
  refine h_take (i := 6) (d := (some 42)) (v := ?vp6) (by rfl) (by kernel_rfl) (by kernel_rfl) (by kernel_rfl) (fun _ _ _ h => h) (by rfl) ?hyp6 hHeld ?restp6
  case hyp6 =>
    intro o ho
    simp only [List.getElem?_toArray, List.getElem?_cons_succ, List.getElem?_cons_zero, Option.some.injEq] at ho
    subst ho
    intro w' hSw
    first | (go_simp; done) | (go_simp; with_reducible rfl)
  try simp only [Act.put, List.setIfInBounds_toArray, List.set_cons_zero, List.set_cons_succ]
  refine h_take (i := 7) (d := (some 43)) (v := ?vp7) (by rfl) (by kernel_rfl) (by kernel_rfl) (by kernel_rfl) (fun _ _ _ h => h) (by rfl) ?hyp7 hHeld ?restp7
  case hyp7 =>
    intro o ho
    simp only [List.getElem?_toArray, List.getElem?_cons_succ, List.getElem?_cons_zero, Option.some.injEq] at ho
    subst ho
    intro w' hSw
    first | (go_simp; done) | (go_simp; with_reducible rfl)
  try simp only [Act.put, List.setIfInBounds_toArray, List.set_cons_zero, List.set_cons_succ]
  refine h_take (i := 8) (d := (some 44)) (v := ?vp8) (by rfl) (by kernel_rfl) (by kernel_rfl) (by kernel_rfl) (fun _ _ _ h => h) (by rfl) ?hyp8 hHeld ?restp8
  case hyp8 =>
    intro o ho
    simp only [List.getElem?_toArray, List.getElem?_cons_succ, List.getElem?_cons_zero, Option.some.injEq] at ho
    subst ho
    intro w' hSw
    (rw [hld w' hSw] <;> first | with_reducible rfl | rfl)
  try simp only [Act.put, List.setIfInBounds_toArray, List.set_cons_zero, List.set_cons_succ]
  refine wpAnyH_ready (rs := [4]) (by kernel_rfl) (by simp) ?_
  refine AllReadyH.cons rfl (fun K hK => ?_) AllReadyH.nil
  go_simp
  refine (hP1 _ _ (hp1' _ hbr.drew)).mono ?_
  rintro e wq ⟨rfl, hbq⟩
  have hbr : Below w2.heap.size w2 wq := below_after_of hbr.drew hbq
  refine hK.out _ _ ?_ (fun hHeld => ?_)
  · first | exact HE.out _ hbr | exact HE.out _ (hbr.alloc hbr.size _)
  clear hK K
  try simp only [Act.put, List.setIfInBounds_toArray, List.set_cons_zero, List.set_cons_succ]
  refine wpAnyH_ready (rs := [9]) (by kernel_rfl) (by simp) ?_
  refine AllReadyH.cons rfl (fun K hK => ?_) AllReadyH.nil
  go_simp
  refine (hP2 _ _ (hp2' _ hbr)).mono ?_
  rintro e wr ⟨rfl, hbq2⟩
  have hbr : Below w2.heap.size w2 wr := below_after_of hbr hbq2
  refine hK.out _ _ ?_ (fun hHeld => ?_)
  · first | exact HE.out _ hbr | exact HE.out _ (hbr.alloc hbr.size _)
  clear hK K
  try simp only [Act.put, List.setIfInBounds_toArray, List.set_cons_zero, List.set_cons_succ]
  refine wpAnyH_ready (rs := [10]) (by kernel_rfl) (by simp) ?_
  refine AllReadyH.cons rfl (fun K hK => ?_) AllReadyH.nil
  go_simp
  try skip
  refine hK.out _ _ ?_ (fun hHeld => ?_)
  · first | exact HE.out _ hbr | exact HE.out _ (hbr.alloc hbr.size _)
  clear hK K
  try simp only [Act.put, List.setIfInBounds_toArray, List.set_cons_zero, List.set_cons_succ]
  refine h_take (i := 11) (d := (some 12)) (v := ?vp9) (by rfl) (by kernel_rfl) (by kernel_rfl) (by kernel_rfl) (fun _ _ _ h => h) (by rfl) ?hyp9 hHeld ?restp9
  case hyp9 =>
    intro o ho
    simp only [List.getElem?_toArray, List.getElem?_cons_succ, List.getElem?_cons_zero, Option.some.injEq] at ho
    subst ho
    intro w' hSw
    first | (go_simp; done) | (go_simp; with_reducible rfl)
  try simp only [Act.put, List.setIfInBounds_toArray, List.set_cons_zero, List.set_cons_succ]
  refine wpAnyH_done (by kernel_rfl) ?_ _
  have hNA := one_new (w := wr) (.cells #[.int .i64 x, .int .i64 y] 2)
  have hB3 := below_after_of (below_after_of hB2 hbr) hNA
  clear hP1 hP2 hp1' hp2' hbq hbq2 HE e0 hld
  go_wp2_with fail
  refine (hT _ _ (two_ints_at rfl)).mono ?_
  intro e w4 h4
  obtain ⟨a4, c4, rfl, hb4, own4⟩ := h4.use
  have kf := fun w => field_BR1 0 a4 ys.length c4 w
  have HO : Hid (w4.ownsRow w.heap.size 5 1 (.slice a4 ys.length c4) ys.length (ys.map (Value.int .u8))) := own_mono own4 hB3.size
  have hB4 := below_after_of hB3 hb4
  clear hT h4 own4 hb4
  go_wp2
  go_ret
  exact ⟨_, rfl, HO.out, hB4⟩
set_option maxRecDepth 100000 in
set_option maxHeartbeats 2000000 in
theorem partBytes_7 {l : Prl} {f q : Int} (h0 : slF l = 0) (HF : Hid (f = q * 128)) (hq : 0 ≤ f ∧ f ≤ 255) : PbAt l 7 f q := by
  refine ⟨fun v w hv ho => ?_⟩
  have hs := slF_ok h0
  have hC1 := fun w' h => slotsBetween_any v l f (f + 64) w' (hv.below (w' := w') h) ho hs.len hs.ris (by omega)
  have hC2 := fun w' h => slotsBetween_any v l (f + 64) (f + 128) w' (hv.below (w' := w') h) ho hs.len hs.ris (by omega)
  have hP1 := fun v w h => partSum_any v (cut l f (f + 64)) 6 w h (Nat.le_trans (cut_len _ _ _) hs.len) (cut_ris hs.ris _ _) (fun p hp => hs.fin p (cut_mem.1 hp).1) (by omega)
  have hP2 := fun v w h => partSum_any v (cut l (f + 64) (f + 128)) 6 w h (Nat.le_trans (cut_len _ _ _) hs.len) (cut_ris hs.ris _ _) (fun p hp => hs.fin p (cut_mem.1 hp).1) (by omega)
  rw [nd_sideK hs.ris hs.fin 6 64 (2 * q) f (f + 64) rfl (by have := HF.out; omega) rfl] at hP1
  rw [nd_sideK hs.ris hs.fin 6 64 (2 * q + 1) (f + 64) (f + 128) rfl (by have := HF.out; omega) (by omega)] at hP2
  have hT := fun u w hu => implTagBytes_any 2 u [nd l 6 (2 * q), nd l 6 (2 * q + 1)] w hu (by simp)
  have htg := tg_ok (tag := 2) (xs := [nd l 6 (2 * q), nd l 6 (2 * q + 1)]) rfl (by simp) (by have := nd_bd l 6 (2 * q); have := nd_bd l 6 (2 * q + 1); simp [sumB_iff]; omega)
  rw [htg.1, htg.2] at hT
  rw [show ptL l 7 q = tagL 2 [nd l 6 (2 * q), nd l 6 (2 * q + 1)] from rfl]
  generalize tagL 2 [nd l 6 (2 * q), nd l 6 (2 * q + 1)] = ys at *
  generalize nd l 6 (2 * q) = x at *
  generalize nd l 6 (2 * q + 1) = y at *
  obtain ⟨c1, hc1⟩ : ∃ c1, c1 = cut l f (f + 64) := ⟨_, rfl⟩
  obtain ⟨c2, hc2⟩ : ∃ c2, c2 = cut l (f + 64) (f + 128) := ⟨_, rfl⟩
  rw [← hc1] at hC1 hP1
  rw [← hc2] at hC2 hP2
  obtain ⟨a, c, rfl⟩ := hv.shape
  generalize l.length = n at *
  clear hv ho h0 hs htg hc1 hc2
  have hE0 := EmB.new w 176
  obtain ⟨W, hW⟩ : ∃ W, W = w.alloc (.cells emL.toArray 176) := ⟨_, rfl⟩
  have HW : Hid (w.alloc (.cells emL.toArray 176) = W) := hW.symm
  have hBW : Below w.heap.size w W := by rw [hW]; exact one_new _
  rw [← hW] at hE0
  have HE0 : Hid (∀ w', Below W.heap.size W w' → w'.rangeAt w.heap.size 0 emL) := fun w' h => (hE0.below h).r
  have hul := Tryz.underlying176
  have hil := Tryz.infoLs
  have hld : ∀ (w' : World), w'.rangeAt w.heap.size 0 emL → ∀ (a : Act) (o : Oper), o.op = .load 176 (.tmp 7) → a.eval (.tmp 7) = .pointer (some ⟨w.heap.size, 0, none⟩) → (execOp a.eval o).run Tryz.prog w' = .ok (Next.value (.agg emL.toArray)) w' := fun w' h a o h1 h2 => ex_load_mid _ _ h1 _ _ h2 emL _ h hul rfl hil
  clear hul hil
  rw [emL_arr] at hP1 hP2
  clear hW hE0
  generalize emL = cs at *
  go_enter Tryz.func130, Tryz.ntmps130
  go_wp2_with fail
  rw [HW.out]
  refine (hC1 _ hBW).mono ?_
  rintro e w1 ⟨⟨a1, d1, rfl, hp1, -⟩, hb1⟩
  have hB1 := below_after_of hBW hb1
  have hp1 := hp1.below hb1
  clear hC1
  go_wp2_with fail
  refine (hC2 _ hB1).mono ?_
  rintro e w2 ⟨⟨a2, d2, rfl, hp2, -⟩, hb2⟩
  have hB2 := below_after_of hB1 hb2
  have hp1 := hp1.below hb2
  have hp2 := hp2.below hb2
  have HE : Hid (∀ w', Below w2.heap.size w2 w' → w'.rangeAt w.heap.size 0 cs) := fun w' h => HE0.out w' (below_after_of (below_after_of hb1 hb2) h)
  have hbr := Below.refl w2.heap.size w2
  have hp2' := fun w' h => hp2.below (w' := w') h
  have hp1' := fun w' h => hp1.below (w' := w') h
  have e0 := HE.out _ hbr
  generalize c1.length = m1 at *
  generalize c2.length = m2 at *
  clear hC2 hb1 hb2 hp1 hp2 hB1 HE0
  go_wp2
  refine wp_region_held_drew (S := fun w' => w'.rangeAt w.heap.size 0 cs) (by kernel_rfl) (HE.out _ hbr.drew) (fun hHeld => ?_)
  refine h_take (i := 0) (d := (some 36)) (v := ?vp1) (by rfl) (by kernel_rfl) (by kernel_rfl) (by kernel_rfl) (fun _ _ _ h => h) (by rfl) ?hyp1 hHeld ?restp1
  case hyp1 =>
    intro o ho
    simp only [List.getElem?_toArray, List.getElem?_cons_zero, Option.some.injEq] at ho
    subst ho
    intro w' hSw
    first | (go_simp; done) | (go_simp; with_reducible rfl)
  try simp only [Act.put, List.setIfInBounds_toArray, List.set_cons_zero, List.set_cons_succ]
  refine h_take (i := 1) (d := (some 37)) (v := ?vp2) (by rfl) (by kernel_rfl) (by kernel_rfl) (by kernel_rfl) (fun _ _ _ h => h) (by rfl) ?hyp2 hHeld ?restp2
  case hyp2 =>
    intro o ho
    simp only [List.getElem?_toArray, List.getElem?_cons_succ, List.getElem?_cons_zero, Option.some.injEq] at ho
    subst ho
    intro w' hSw
    first | (go_simp; done) | (go_simp; with_reducible rfl)
  try simp only [Act.put, List.setIfInBounds_toArray, List.set_cons_zero, List.set_cons_succ]
  refine h_take (i := 2) (d := (some 38)) (v := ?vp3) (by rfl) (by kernel_rfl) (by kernel_rfl) (by kernel_rfl) (fun _ _ _ h => h) (by rfl) ?hyp3 hHeld ?restp3
  case hyp3 =>
    intro o ho
    simp only [List.getElem?_toArray, List.getElem?_cons_succ, List.getElem?_cons_zero, Option.some.injEq] at ho
    subst ho
    intro w' hSw
    first | (go_simp; done) | (go_simp; with_reducible rfl)
  try simp only [Act.put, List.setIfInBounds_toArray, List.set_cons_zero, List.set_cons_succ]
  refine h_take (i := 3) (d := (some 39)) (v := ?vp4) (by rfl) (by kernel_rfl) (by kernel_rfl) (by kernel_rfl) (fun _ _ _ h => h) (by rfl) ?hyp4 hHeld ?restp4
  case hyp4 =>
    intro o ho
    simp only [List.getElem?_toArray, List.getElem?_cons_succ, List.getElem?_cons_zero, Option.some.injEq] at ho
    subst ho
    intro w' hSw
    (rw [hld w' hSw] <;> first | with_reducible rfl | rfl)
  try simp only [Act.put, List.setIfInBounds_toArray, List.set_cons_zero, List.set_cons_succ]
  refine h_take (i := 5) (d := (some 41)) (v := ?vp5) (by rfl) (by kernel_rfl) (by kernel_rfl) (by kernel_rfl) (fun _ _ _ h => h) (by rfl) ?hyp5 hHeld ?restp5
  case hyp5 =>
    intro o ho
    simp only [List.getElem?_toArray, List.getElem?_cons_succ, List.getElem?_cons_zero, Option.some.injEq] at ho
    subst ho
    intro w' hSw
    first | (go_simp; done) | (go_simp; with_reducible rfl)
  try simp only [Act.put, List.setIfInBounds_toArray, List.set_cons_zero, List.set_cons_succ]
  refine h_take (i := 6) (d := (some 42)) (v := ?vp6) (by rfl) (by kernel_rfl) (by kernel_rfl) (by kernel_rfl) (fun _ _ _ h => h) (by rfl) ?hyp6 hHeld ?restp6
  case hyp6 =>
    intro o ho
    simp only [List.getElem?_toArray, List.getElem?_cons_succ, List.getElem?_cons_zero, Option.some.injEq] at ho
    subst ho
    intro w' hSw
    first | (go_simp; done) | (go_simp; with_reducible rfl)
  try simp only [Act.put, List.setIfInBounds_toArray, List.set_cons_zero, List.set_cons_succ]
  refine h_take (i := 7) (d := (some 43)) (v := ?vp7) (by rfl) (by kernel_rfl) (by kernel_rfl) (by kernel_rfl) (fun _ _ _ h => h) (by rfl) ?hyp7 hHeld ?restp7
  case hyp7 =>
    intro o ho
    simp only [List.getElem?_toArray, List.getElem?_cons_succ, List.getElem?_cons_zero, Option.some.injEq] at ho
    subst ho
    intro w' hSw
    first | (go_simp; done) | (go_simp; with_reducible rfl)
  try simp only [Act.put, List.setIfInBounds_toArray, List.set_cons_zero, List.set_cons_succ]
  refine h_take (i := 8) (d := (some 44)) (v := ?vp8) (by rfl) (by kernel_rfl) (by kernel_rfl) (by kernel_rfl) (fun _ _ _ h => h) (by rfl) ?hyp8 hHeld ?restp8
  case hyp8 =>
    intro o ho
    simp only [List.getElem?_toArray, List.getElem?_cons_succ, List.getElem?_cons_zero, Option.some.injEq] at ho
    subst ho
    intro w' hSw
    (rw [hld w' hSw] <;> first | with_reducible rfl | rfl)
  try simp only [Act.put, List.setIfInBounds_toArray, List.set_cons_zero, List.set_cons_succ]
  refine wpAnyH_ready (rs := [4]) (by kernel_rfl) (by simp) ?_
  refine AllReadyH.cons rfl (fun K hK => ?_) AllReadyH.nil
  go_simp
  refine (hP1 _ _ (hp1' _ hbr.drew)).mono ?_
  rintro e wq ⟨rfl, hbq⟩
  have hbr : Below w2.heap.size w2 wq := below_after_of hbr.drew hbq
  refine hK.out _ _ ?_ (fun hHeld => ?_)
  · first | exact HE.out _ hbr | exact HE.out _ (hbr.alloc hbr.size _)
  clear hK K
  try simp only [Act.put, List.setIfInBounds_toArray, List.set_cons_zero, List.set_cons_succ]
  refine wpAnyH_ready (rs := [9]) (by kernel_rfl) (by simp) ?_
  refine AllReadyH.cons rfl (fun K hK => ?_) AllReadyH.nil
  go_simp
  refine (hP2 _ _ (hp2' _ hbr)).mono ?_
  rintro e wr ⟨rfl, hbq2⟩
  have hbr : Below w2.heap.size w2 wr := below_after_of hbr hbq2
  refine hK.out _ _ ?_ (fun hHeld => ?_)
  · first | exact HE.out _ hbr | exact HE.out _ (hbr.alloc hbr.size _)
  clear hK K
  try simp only [Act.put, List.setIfInBounds_toArray, List.set_cons_zero, List.set_cons_succ]
  refine wpAnyH_ready (rs := [10]) (by kernel_rfl) (by simp) ?_
  refine AllReadyH.cons rfl (fun K hK => ?_) AllReadyH.nil
  go_simp
  try skip
  refine hK.out _ _ ?_ (fun hHeld => ?_)
  · first | exact HE.out _ hbr | exact HE.out _ (hbr.alloc hbr.size _)
  clear hK K
  try simp only [Act.put, List.setIfInBounds_toArray, List.set_cons_zero, List.set_cons_succ]
  refine h_take (i := 11) (d := (some 12)) (v := ?vp9) (by rfl) (by kernel_rfl) (by kernel_rfl) (by kernel_rfl) (fun _ _ _ h => h) (by rfl) ?hyp9 hHeld ?restp9
  case hyp9 =>
    intro o ho
    simp only [List.getElem?_toArray, List.getElem?_cons_succ, List.getElem?_cons_zero, Option.some.injEq] at ho
    subst ho
    intro w' hSw
    first | (go_simp; done) | (go_simp; with_reducible rfl)
  try simp only [Act.put, List.setIfInBounds_toArray, List.set_cons_zero, List.set_cons_succ]
  refine wpAnyH_done (by kernel_rfl) ?_ _
  have hNA := one_new (w := wr) (.cells #[.int .i64 x, .int .i64 y] 2)
  have hB3 := below_after_of (below_after_of hB2 hbr) hNA
  clear hP1 hP2 hp1' hp2' hbq hbq2 HE e0 hld
  go_wp2_with fail
  refine (hT _ _ (two_ints_at rfl)).mono ?_
  intro e w4 h4
  obtain ⟨a4, c4, rfl, hb4, own4⟩ := h4.use
  have kf := fun w => field_BR1 0 a4 ys.length c4 w
  have HO : Hid (w4.ownsRow w.heap.size 5 1 (.slice a4 ys.length c4) ys.length (ys.map (Value.int .u8))) := own_mono own4 hB3.size
  have hB4 := below_after_of hB3 hb4
  clear hT h4 own4 hb4
  go_wp2
  go_ret
  exact ⟨_, rfl, HO.out, hB4⟩
set_option maxRecDepth 100000 in
set_option maxHeartbeats 2000000 in
theorem partBytes_8 {l : Prl} {f q : Int} (h0 : slF l = 0) (HF : Hid (f = q * 256)) (hq : 0 ≤ f ∧ f ≤ 255) : PbAt l 8 f q := by
  refine ⟨fun v w hv ho => ?_⟩
  have hs := slF_ok h0
  have hC1 := fun w' h => slotsBetween_any v l f (f + 128) w' (hv.below (w' := w') h) ho hs.len hs.ris (by omega)
  have hC2 := fun w' h => slotsBetween_any v l (f + 128) (f + 256) w' (hv.below (w' := w') h) ho hs.len hs.ris (by omega)
  have hP1 := fun v w h => partSum_any v (cut l f (f + 128)) 7 w h (Nat.le_trans (cut_len _ _ _) hs.len) (cut_ris hs.ris _ _) (fun p hp => hs.fin p (cut_mem.1 hp).1) (by omega)
  have hP2 := fun v w h => partSum_any v (cut l (f + 128) (f + 256)) 7 w h (Nat.le_trans (cut_len _ _ _) hs.len) (cut_ris hs.ris _ _) (fun p hp => hs.fin p (cut_mem.1 hp).1) (by omega)
  rw [nd_sideK hs.ris hs.fin 7 128 (2 * q) f (f + 128) rfl (by have := HF.out; omega) rfl] at hP1
  rw [nd_sideK hs.ris hs.fin 7 128 (2 * q + 1) (f + 128) (f + 256) rfl (by have := HF.out; omega) (by omega)] at hP2
  have hT := fun u w hu => implTagBytes_any 2 u [nd l 7 (2 * q), nd l 7 (2 * q + 1)] w hu (by simp)
  have htg := tg_ok (tag := 2) (xs := [nd l 7 (2 * q), nd l 7 (2 * q + 1)]) rfl (by simp) (by have := nd_bd l 7 (2 * q); have := nd_bd l 7 (2 * q + 1); simp [sumB_iff]; omega)
  rw [htg.1, htg.2] at hT
  rw [show ptL l 8 q = tagL 2 [nd l 7 (2 * q), nd l 7 (2 * q + 1)] from rfl]
  generalize tagL 2 [nd l 7 (2 * q), nd l 7 (2 * q + 1)] = ys at *
  generalize nd l 7 (2 * q) = x at *
  generalize nd l 7 (2 * q + 1) = y at *
  obtain ⟨c1, hc1⟩ : ∃ c1, c1 = cut l f (f + 128) := ⟨_, rfl⟩
  obtain ⟨c2, hc2⟩ : ∃ c2, c2 = cut l (f + 128) (f + 256) := ⟨_, rfl⟩
  rw [← hc1] at hC1 hP1
  rw [← hc2] at hC2 hP2
  obtain ⟨a, c, rfl⟩ := hv.shape
  generalize l.length = n at *
  clear hv ho h0 hs htg hc1 hc2
  have hE0 := EmB.new w 176
  obtain ⟨W, hW⟩ : ∃ W, W = w.alloc (.cells emL.toArray 176) := ⟨_, rfl⟩
  have HW : Hid (w.alloc (.cells emL.toArray 176) = W) := hW.symm
  have hBW : Below w.heap.size w W := by rw [hW]; exact one_new _
  rw [← hW] at hE0
  have HE0 : Hid (∀ w', Below W.heap.size W w' → w'.rangeAt w.heap.size 0 emL) := fun w' h => (hE0.below h).r
  have hul := Tryz.underlying176
  have hil := Tryz.infoLs
  have hld : ∀ (w' : World), w'.rangeAt w.heap.size 0 emL → ∀ (a : Act) (o : Oper), o.op = .load 176 (.tmp 7) → a.eval (.tmp 7) = .pointer (some ⟨w.heap.size, 0, none⟩) → (execOp a.eval o).run Tryz.prog w' = .ok (Next.value (.agg emL.toArray)) w' := fun w' h a o h1 h2 => ex_load_mid _ _ h1 _ _ h2 emL _ h hul rfl hil
  clear hul hil
  rw [emL_arr] at hP1 hP2
  clear hW hE0
  generalize emL = cs at *
  go_enter Tryz.func130, Tryz.ntmps130
  go_wp2_with fail
  rw [HW.out]
  refine (hC1 _ hBW).mono ?_
  rintro e w1 ⟨⟨a1, d1, rfl, hp1, -⟩, hb1⟩
  have hB1 := below_after_of hBW hb1
  have hp1 := hp1.below hb1
  clear hC1
  go_wp2_with fail
  refine (hC2 _ hB1).mono ?_
  rintro e w2 ⟨⟨a2, d2, rfl, hp2, -⟩, hb2⟩
  have hB2 := below_after_of hB1 hb2
  have hp1 := hp1.below hb2
  have hp2 := hp2.below hb2
  have HE : Hid (∀ w', Below w2.heap.size w2 w' → w'.rangeAt w.heap.size 0 cs) := fun w' h => HE0.out w' (below_after_of (below_after_of hb1 hb2) h)
  have hbr := Below.refl w2.heap.size w2
  have hp2' := fun w' h => hp2.below (w' := w') h
  have hp1' := fun w' h => hp1.below (w' := w') h
  have e0 := HE.out _ hbr
  generalize c1.length = m1 at *
  generalize c2.length = m2 at *
  clear hC2 hb1 hb2 hp1 hp2 hB1 HE0
  go_wp2
  refine wp_region_held_drew (S := fun w' => w'.rangeAt w.heap.size 0 cs) (by kernel_rfl) (HE.out _ hbr.drew) (fun hHeld => ?_)
  refine h_take (i := 0) (d := (some 36)) (v := ?vp1) (by rfl) (by kernel_rfl) (by kernel_rfl) (by kernel_rfl) (fun _ _ _ h => h) (by rfl) ?hyp1 hHeld ?restp1
  case hyp1 =>
    intro o ho
    simp only [List.getElem?_toArray, List.getElem?_cons_zero, Option.some.injEq] at ho
    subst ho
    intro w' hSw
    first | (go_simp; done) | (go_simp; with_reducible rfl)
  try simp only [Act.put, List.setIfInBounds_toArray, List.set_cons_zero, List.set_cons_succ]
  refine h_take (i := 1) (d := (some 37)) (v := ?vp2) (by rfl) (by kernel_rfl) (by kernel_rfl) (by kernel_rfl) (fun _ _ _ h => h) (by rfl) ?hyp2 hHeld ?restp2
  case hyp2 =>
    intro o ho
    simp only [List.getElem?_toArray, List.getElem?_cons_succ, List.getElem?_cons_zero, Option.some.injEq] at ho
    subst ho
    intro w' hSw
    first | (go_simp; done) | (go_simp; with_reducible rfl)
  try simp only [Act.put, List.setIfInBounds_toArray, List.set_cons_zero, List.set_cons_succ]
  refine h_take (i := 2) (d := (some 38)) (v := ?vp3) (by rfl) (by kernel_rfl) (by kernel_rfl) (by kernel_rfl) (fun _ _ _ h => h) (by rfl) ?hyp3 hHeld ?restp3
  case hyp3 =>
    intro o ho
    simp only [List.getElem?_toArray, List.getElem?_cons_succ, List.getElem?_cons_zero, Option.some.injEq] at ho
    subst ho
    intro w' hSw
    first | (go_simp; done) | (go_simp; with_reducible rfl)
  try simp only [Act.put, List.setIfInBounds_toArray, List.set_cons_zero, List.set_cons_succ]
  refine h_take (i := 3) (d := (some 39)) (v := ?vp4) (by rfl) (by kernel_rfl) (by kernel_rfl) (by kernel_rfl) (fun _ _ _ h => h) (by rfl) ?hyp4 hHeld ?restp4
  case hyp4 =>
    intro o ho
    simp only [List.getElem?_toArray, List.getElem?_cons_succ, List.getElem?_cons_zero, Option.some.injEq] at ho
    subst ho
    intro w' hSw
    (rw [hld w' hSw] <;> first | with_reducible rfl | rfl)
  try simp only [Act.put, List.setIfInBounds_toArray, List.set_cons_zero, List.set_cons_succ]
  refine h_take (i := 5) (d := (some 41)) (v := ?vp5) (by rfl) (by kernel_rfl) (by kernel_rfl) (by kernel_rfl) (fun _ _ _ h => h) (by rfl) ?hyp5 hHeld ?restp5
  case hyp5 =>
    intro o ho
    simp only [List.getElem?_toArray, List.getElem?_cons_succ, List.getElem?_cons_zero, Option.some.injEq] at ho
    subst ho
    intro w' hSw
    first | (go_simp; done) | (go_simp; with_reducible rfl)
  try simp only [Act.put, List.setIfInBounds_toArray, List.set_cons_zero, List.set_cons_succ]
  refine h_take (i := 6) (d := (some 42)) (v := ?vp6) (by rfl) (by kernel_rfl) (by kernel_rfl) (by kernel_rfl) (fun _ _ _ h => h) (by rfl) ?hyp6 hHeld ?restp6
  case hyp6 =>
    intro o ho
    simp only [List.getElem?_toArray, List.getElem?_cons_succ, List.getElem?_cons_zero, Option.some.injEq] at ho
    subst ho
    intro w' hSw
    first | (go_simp; done) | (go_simp; with_reducible rfl)
  try simp only [Act.put, List.setIfInBounds_toArray, List.set_cons_zero, List.set_cons_succ]
  refine h_take (i := 7) (d := (some 43)) (v := ?vp7) (by rfl) (by kernel_rfl) (by kernel_rfl) (by kernel_rfl) (fun _ _ _ h => h) (by rfl) ?hyp7 hHeld ?restp7
  case hyp7 =>
    intro o ho
    simp only [List.getElem?_toArray, List.getElem?_cons_succ, List.getElem?_cons_zero, Option.some.injEq] at ho
    subst ho
    intro w' hSw
    first | (go_simp; done) | (go_simp; with_reducible rfl)
  try simp only [Act.put, List.setIfInBounds_toArray, List.set_cons_zero, List.set_cons_succ]
  refine h_take (i := 8) (d := (some 44)) (v := ?vp8) (by rfl) (by kernel_rfl) (by kernel_rfl) (by kernel_rfl) (fun _ _ _ h => h) (by rfl) ?hyp8 hHeld ?restp8
  case hyp8 =>
    intro o ho
    simp only [List.getElem?_toArray, List.getElem?_cons_succ, List.getElem?_cons_zero, Option.some.injEq] at ho
    subst ho
    intro w' hSw
    (rw [hld w' hSw] <;> first | with_reducible rfl | rfl)
  try simp only [Act.put, List.setIfInBounds_toArray, List.set_cons_zero, List.set_cons_succ]
  refine wpAnyH_ready (rs := [4]) (by kernel_rfl) (by simp) ?_
  refine AllReadyH.cons rfl (fun K hK => ?_) AllReadyH.nil
  go_simp
  refine (hP1 _ _ (hp1' _ hbr.drew)).mono ?_
  rintro e wq ⟨rfl, hbq⟩
  have hbr : Below w2.heap.size w2 wq := below_after_of hbr.drew hbq
  refine hK.out _ _ ?_ (fun hHeld => ?_)
  · first | exact HE.out _ hbr | exact HE.out _ (hbr.alloc hbr.size _)
  clear hK K
  try simp only [Act.put, List.setIfInBounds_toArray, List.set_cons_zero, List.set_cons_succ]
  refine wpAnyH_ready (rs := [9]) (by kernel_rfl) (by simp) ?_
  refine AllReadyH.cons rfl (fun K hK => ?_) AllReadyH.nil
  go_simp
  refine (hP2 _ _ (hp2' _ hbr)).mono ?_
  rintro e wr ⟨rfl, hbq2⟩
  have hbr : Below w2.heap.size w2 wr := below_after_of hbr hbq2
  refine hK.out _ _ ?_ (fun hHeld => ?_)
  · first | exact HE.out _ hbr | exact HE.out _ (hbr.alloc hbr.size _)
  clear hK K
  try simp only [Act.put, List.setIfInBounds_toArray, List.set_cons_zero, List.set_cons_succ]
  refine wpAnyH_ready (rs := [10]) (by kernel_rfl) (by simp) ?_
  refine AllReadyH.cons rfl (fun K hK => ?_) AllReadyH.nil
  go_simp
  try skip
  refine hK.out _ _ ?_ (fun hHeld => ?_)
  · first | exact HE.out _ hbr | exact HE.out _ (hbr.alloc hbr.size _)
  clear hK K
  try simp only [Act.put, List.setIfInBounds_toArray, List.set_cons_zero, List.set_cons_succ]
  refine h_take (i := 11) (d := (some 12)) (v := ?vp9) (by rfl) (by kernel_rfl) (by kernel_rfl) (by kernel_rfl) (fun _ _ _ h => h) (by rfl) ?hyp9 hHeld ?restp9
  case hyp9 =>
    intro o ho
    simp only [List.getElem?_toArray, List.getElem?_cons_succ, List.getElem?_cons_zero, Option.some.injEq] at ho
    subst ho
    intro w' hSw
    first | (go_simp; done) | (go_simp; with_reducible rfl)
  try simp only [Act.put, List.setIfInBounds_toArray, List.set_cons_zero, List.set_cons_succ]
  refine wpAnyH_done (by kernel_rfl) ?_ _
  have hNA := one_new (w := wr) (.cells #[.int .i64 x, .int .i64 y] 2)
  have hB3 := below_after_of (below_after_of hB2 hbr) hNA
  clear hP1 hP2 hp1' hp2' hbq hbq2 HE e0 hld
  go_wp2_with fail
  refine (hT _ _ (two_ints_at rfl)).mono ?_
  intro e w4 h4
  obtain ⟨a4, c4, rfl, hb4, own4⟩ := h4.use
  have kf := fun w => field_BR1 0 a4 ys.length c4 w
  have HO : Hid (w4.ownsRow w.heap.size 5 1 (.slice a4 ys.length c4) ys.length (ys.map (Value.int .u8))) := own_mono own4 hB3.size
  have hB4 := below_after_of hB3 hb4
  clear hT h4 own4 hb4
  go_wp2
  go_ret
  exact ⟨_, rfl, HO.out, hB4⟩
end U
end Go.Proofs.YtljbcpkjhnbpeaaGreatDoor
