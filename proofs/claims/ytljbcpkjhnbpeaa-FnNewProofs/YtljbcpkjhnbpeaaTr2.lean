/- The new tree of slots, as the program makes it. -/
import Derived.Test.YtljbcpkjhnbpeaaTr1
import Derived.Test.YtljbcpkjhnbpeaaSl11
namespace Go.Proofs.Ytljbcpkjhnbpeaa
open Go.RowKit
namespace U
set_option maxRecDepth 100000 in
theorem trieOf_none (a : Option Addr) (c : Nat) (w : World) : Calls Try.prog 41 #[.slice a 0 c] w fun e w' => e = .returned Tr.none.val ∧ Below w.heap.size w w' := by
  rw [Tr.val_none]
  go_enter Try.func41, Try.ntmps41
  go_wp2
  go_ret
  exact ⟨rfl, Below.refl _ _⟩
set_option maxRecDepth 100000 in
theorem trieOf_leaf (b off c : Nat) (k v : Int) (w : World) (c0 : w.cell? ⟨b, off, none⟩ = some (.int .i64 k)) (c1 : w.cell? ⟨b, off + 1, none⟩ = some (.int .i64 v)) :
    Calls Try.prog 41 #[.slice (some ⟨b, off, none⟩) 1 c] w fun e w' => e = .returned (Tr.leaf k v).val ∧ Below w.heap.size w w' := by
  rw [Tr.val_leaf]
  go_enter Try.func41, Try.ntmps41
  go_wp2
  go_ret
  exact ⟨rfl, Below.refl _ _⟩
/-- What the program makes of a slice, from a world on. -/
structure TrAt (W : World) (v x : Value) : Prop where
  c : ∀ w', Below W.heap.size W w' → Calls Try.prog 41 #[v] w' fun e w'' => e = .returned x ∧ Below w'.heap.size w' w''
set_option maxRecDepth 100000 in
set_option maxHeartbeats 1000000 in
theorem trieOf_fork (l : Prl) (b : Nat) (L R : Tr) (h2 : 2 ≤ l.length) (hb : FB l b)
    (ih1 : ∀ (v : Value) (w : World), Prs w v (sd l b 0) → Okv v → Calls Try.prog 41 #[v] w fun e w' => e = .returned L.val ∧ Below w.heap.size w w')
    (ih2 : ∀ (v : Value) (w : World), Prs w v (sd l b 1) → Okv v → Calls Try.prog 41 #[v] w fun e w' => e = .returned R.val ∧ Below w.heap.size w w')
    (v : Value) (w : World) (hv : Prs w v l) (hcap : Okv v) (hs : Sls l) :
    Calls Try.prog 41 #[v] w fun e w' => e = .returned (Tr.fork b L R).val ∧ Below w.heap.size w w' := by
  have hF := fun w' h => forkBitOf_any v l b w' (hv.below h) hs h2 hb
  have hP := fun w' h => placeOf_any v l (ones l b) w' (hv.below h) hs.len hs.ris
  obtain ⟨a, c, rfl⟩ := hv.shape
  obtain ⟨-, bb, off, rfl, hlt, hc⟩ := hv.at (by omega)
  have hcp := (hcap _ _ _ rfl).1
  have hn := hs.len
  have hb7 := hb.le
  have c1 := (hc (l.length - 1) (by omega)).1
  have hK := (hs.at (show l.length - 1 < l.length by omega)).1
  have e0 := sd_zero hs.ris hb (by omega)
  have e1 := sd_one hs.ris hb (by omega)
  have hlo : 0 < low l (ones l b) ∧ low l (ones l b) < l.length := by
    have s0 := fb_some (s := 0) hb (by omega) (Or.inl rfl)
    have s1 := fb_some (s := 1) hb (by omega) (Or.inr rfl)
    rw [e0, List.length_take] at s0
    rw [e1, List.length_drop] at s1
    omega
  have hp1 : ∀ cc, Prs w (.slice (some ⟨bb, off, none⟩) (low l (ones l b)) cc) (sd l b 0) := fun cc => by
    rw [e0]
    exact prs_part (i := 0) rfl hlt (Nat.zero_le _) (Nat.le_of_lt hlo.2) hc
  have hp2 : ∀ cc, Prs w (.slice (some ⟨bb, off + low l (ones l b) * 2, none⟩) (l.length - low l (ones l b)) cc) (sd l b 1) := fun cc => by
    have := prs_part (c := cc) rfl hlt (show low l (ones l b) ≤ l.length by omega) (Nat.le_refl _) hc
    rw [List.take_length] at this
    rw [e1]
    exact this
  have hX : wrap64 ((pAt l (l.length - 1)).1 / 2 ^ b * 2 ^ b) = ones l b := by
    have h1 := Int.ediv_mul_le (pAt l (l.length - 1)).1 (Int.ne_of_gt (pow_pos b))
    have h3 : 0 ≤ ones l b := Int.mul_nonneg (Int.ediv_nonneg hK.1 (Int.le_of_lt (pow_pos b))) (Int.le_of_lt (pow_pos b))
    have e : (pAt l (l.length - 1)).1 / 2 ^ b * 2 ^ b = ones l b := by unfold ones; rw [Int.natCast_pow]; rfl
    rw [e]
    have h4 : ones l b ≤ (pAt l (l.length - 1)).1 := h1
    generalize ones l b = z at *
    generalize (pAt l (l.length - 1)).1 = y at *
    go_arith
  generalize (pAt l (l.length - 1)).1 = q at *
  generalize ones l b = X at *
  generalize low l X = lo at *
  generalize thr l X = th at *
  have T1 : TrAt w (.slice (some ⟨bb, off, none⟩) lo c) L.val := ⟨fun w' h => ih1 _ w' ((hp1 c).below (w' := w') h) (by intro a n c' e; cases e; exact ⟨by omega, fun h => by cases h⟩)⟩
  have T2 : TrAt w (.slice (some ⟨bb, off + lo * 2, none⟩) (l.length - lo) (c - lo)) R.val := ⟨fun w' h => ih2 _ w' ((hp2 (c - lo)).below (w' := w') h) (by intro a n c' e; cases e; exact ⟨by omega, fun h => by cases h⟩)⟩
  clear ih1 ih2 hp1 hp2 e0 e1 hc hv hs hcap hb
  generalize l.length = n at *
  obtain ⟨m, rfl⟩ : ∃ m, n = m + 1 := ⟨n - 1, by omega⟩
  rw [Nat.add_sub_cancel] at c1
  rw [Tr.val_fork]
  obtain ⟨tL, xL, eL⟩ := L.isIface
  obtain ⟨tR, xR, eR⟩ := R.isIface
  rw [eL] at T1 ⊢
  rw [eR] at T2 ⊢
  clear eL eR
  have hm1 : 1 ≤ m := by omega
  have hm2 : m ≤ 11 := by omega
  have hb0 : (0 : Int) ≤ (b : Int) := by omega
  have hb8 : (b : Int) ≤ 64 := by omega
  have d1 : ¬ ((m : Int) + 1 = 0) := by omega
  have d2 : ¬ ((m : Int) + 1 = 1) := by omega
  have d3 : ¬ (m = 0) := by omega
  go_enter Try.func41, Try.ntmps41
  go_wp2_with fail
  refine (hF _ (Below.refl _ _)).mono ?_
  rintro e w1 ⟨rfl, k1, rfl⟩
  have hb1 : Below w.heap.size w (w.drewN k1) := below_drewN (Below.refl _ _) _
  clear hF
  go_wp2_with fail
  refine (hP _ hb1).mono ?_
  rintro e w2 ⟨rfl, hb2⟩
  have hB2 := below_after_of hb1 hb2
  have hne := After.ne w2
  clear hP hb1 hb2
  go_wp2_with fail
  refine wp_region_after (by kernel_rfl) (by kernel_rfl) ?_
  repeat (first | go_big_quiet_skip | (go_big_quiet_want; go_big_quiet_op; first | go_big_quiet_on | go_big_quiet_call (first
    | (go_at_call 41; refine (TrAt.c (by assumption) _ (below_after_of hB2 (After.b _))).mono ?_; rintro e wq ⟨rfl, hbq⟩; exact ⟨rfl, after_mk (below_after_of (After.b _) hbq)⟩))))
  refine wpQuiet_nil ?_
  rintro _ ⟨n3, rfl⟩
  have hB3 := below_after_of hB2 n3.b
  generalize n3.w = w3 at *
  clear hne n3 hB2 T1 T2
  go_wp2
  go_ret
  exact ⟨rfl, hB3⟩
theorem trieOf_any {l : Prl} {t : Tr} (h : IsTr l t) : ∀ (v : Value) (w : World), Sls l → Prs w v l → Okv v → Calls Try.prog 41 #[v] w fun e w' => e = .returned t.val ∧ Below w.heap.size w w' := by
  induction h using IsTr.ind with
  | none =>
    intro v w _ hv _
    obtain ⟨a, c, rfl⟩ := hv.shape
    exact trieOf_none a c w
  | leaf k y =>
    intro v w _ hv _
    obtain ⟨a, c, rfl⟩ := hv.shape
    obtain ⟨-, b, off, rfl, -, hc⟩ := hv.at (by simp)
    have h0 := hc 0 (by simp)
    exact trieOf_leaf b off c k y w (by simpa [pAt] using h0.1) (by simpa [pAt] using h0.2)
  | fork h2 hb h3 h4 ih1 ih2 =>
    intro v w hs hv ho
    exact trieOf_fork _ _ _ _ h2 hb (fun v w hp ho => ih1 v w (sd_sls hs _ _) hp ho) (fun v w hp ho => ih2 v w (sd_sls hs _ _) hp ho) v w hv ho hs
end U
end Go.Proofs.Ytljbcpkjhnbpeaa
