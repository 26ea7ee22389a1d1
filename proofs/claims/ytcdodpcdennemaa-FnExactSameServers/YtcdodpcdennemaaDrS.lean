/- Directories that are the same, by the program and by the model. -/
import Derived.Test.YtcdodpcdennemaaDrE
namespace Go.Proofs.Ytcdodpcdennemaa
open Go.RowKit
namespace U
def rcB (r s : Rc) : Bool := (r.l.toList == s.l.toList) && ((r.v == s.v) && ((r.o == s.o) && (r.p == s.p)))
theorem rcB_iff (r s : Rc) : rcB r s = true ↔ r = s := by
  obtain ⟨l, v, o, p⟩ := r
  obtain ⟨l', v', o', p'⟩ := s
  unfold rcB
  simp only [Bool.and_eq_true, beq_iff_eq, Rc.mk.injEq, toList_iff]
theorem rcB_same (r : Rc) : rcB r r = true := (rcB_iff r r).2 rfl
def sameL (l m : Rcl) : Bool := (l.length == m.length) && (List.range l.length).all fun j => rcB (rAt l j) (rAt m j)
theorem sameL_len {l m : Rcl} (h : ¬ l.length = m.length) : sameL l m = false := by unfold sameL; rw [beq_eq_false_iff_ne.2 h]; rfl
theorem sameL_no {l m : Rcl} {k : Nat} (hk : k < l.length) (h : rcB (rAt l k) (rAt m k) = false) : sameL l m = false := by
  unfold sameL
  rw [Bool.and_eq_false_iff]
  right
  rw [List.all_eq_false]
  exact ⟨k, List.mem_range.2 hk, by rw [h]; decide⟩
theorem sameL_yes {l m : Rcl} (h : l.length = m.length) (ha : ∀ j, j < l.length → rcB (rAt l j) (rAt m j) = true) : sameL l m = true := by
  unfold sameL
  rw [h, beq_self_eq_true, Bool.true_and, List.all_eq_true]
  intro j hj
  exact ha j (by rw [h]; exact List.mem_range.1 hj)
theorem sameL_iff (l m : Rcl) : sameL l m = true ↔ l = m := by
  constructor
  · intro h
    have hl : l.length = m.length := by
      by_cases h1 : l.length = m.length
      · exact h1
      · rw [sameL_len h1] at h; cases h
    apply List.ext_getElem hl
    intro j h1 h2
    rw [← rAt_eq h1, ← rAt_eq h2, ← rcB_iff]
    cases hb : rcB (rAt l j) (rAt m j)
    · rw [sameL_no h1 hb] at h; cases h
    · rfl
  · rintro rfl
    exact sameL_yes rfl (fun j _ => rcB_same _)
theorem rec_neq_any (r s : Rc) (w : World) : (binOp .neq 31 (recV r.l r.v r.o r.p) (recV s.l s.v s.o s.p)).run Try.prog w = .ok (.bool (!rcB r s)) w := by
  unfold recV rcB
  simp [go_sem]
  by_cases h : r.l.toList = s.l.toList <;> by_cases h1 : r.v = s.v <;> by_cases h2 : r.o = s.o <;> by_cases h3 : r.p = s.p <;> simp [h, h1, h2, h3]
set_option maxRecDepth 100000 in
set_option maxHeartbeats 4000000 in
theorem sliceEqual_core (b off c b' off' c' n : Nat) (l m : Rcl) (w : World) (HN : Hid (n = l.length ∧ n = m.length)) (hx : n ≤ 1048576) (hb : b < w.heap.size) (hb' : b' < w.heap.size) (hc : ∀ j, j < n → RecS w b (off + j * 4) (rAt l j)) (hc' : ∀ j, j < n → RecS w b' (off' + j * 4) (rAt m j)) :
    Calls Try.prog 151 #[.slice (some ⟨b, off, none⟩) n c, .slice (some ⟨b', off', none⟩) n c'] w fun e w' => e = .returned (.bool (sameL l m)) ∧ Below w.heap.size w w' := by
  have hnn := hne_all
  go_enter Try.func151, Try.ntmps151
  go_wp2
  go_loopw [13] (fun i wr => ∃ k : Nat, k ≤ n ∧ i = .int .i64 k ∧ Hid (Below w.heap.size w wr) ∧ Hid (∀ j, j < k → rcB (rAt l j) (rAt m j) = true)) (fun i _ => n - (intOf i).toNat)
  case atStart => exact ⟨0, Nat.zero_le _, rfl, Below.refl _ _, fun j hj => by omega⟩
  case round =>
    obtain ⟨k, hk, rfl, hB, HA⟩ := hrel
    by_cases hkn : k < n
    · have hki : (k : Int) < (n : Int) := by omega
      obtain ⟨d0, d1, d2, d3⟩ := (hc k hkn).below hB.out hb
      obtain ⟨d0', d1', d2', d3'⟩ := (hc' k hkn).below hB.out hb'
      have hE := rec_neq_any (rAt l k) (rAt m k)
      unfold recV at hE
      have HNO : Hid (rcB (rAt l k) (rAt m k) = false → sameL l m = false) := sameL_no (by have := HN.out; omega)
      have HYE : Hid (rcB (rAt l k) (rAt m k) = true → ∀ j, j < k + 1 → rcB (rAt l j) (rAt m j) = true) := (fun h j hj => by
        by_cases e : j = k
        · subst e; exact h
        · exact HA.out j (by omega) : rcB (rAt l k) (rAt m k) = true → ∀ j, j < k + 1 → rcB (rAt l j) (rAt m j) = true)
      generalize rcB (rAt l k) (rAt m k) = rb at *
      generalize (rAt l k).l = x0 at *
      generalize (rAt l k).v = x1 at *
      generalize (rAt l k).o = x2 at *
      generalize (rAt l k).p = x3 at *
      generalize (rAt m k).l = y0 at *
      generalize (rAt m k).v = y1 at *
      generalize (rAt m k).o = y2 at *
      generalize (rAt m k).p = y3 at *
      clear hc hc'
      cases rb
      · have HQ : Hid (sameL l m = false) := HNO.out rfl
        clear HNO HYE
        go_wp2
        go_quiet (fail)
        go_wp2
        go_ret
        exact ⟨ret_bool HQ.out.symm, below_drewN hB.out _⟩
      · have HQ : Hid (∀ j, j < k + 1 → rcB (rAt l j) (rAt m j) = true) := HYE.out rfl
        clear HNO HYE
        go_wp2
        go_quiet (fail)
        go_wp2
        go_roundw
        case rel => exact ⟨k + 1, by omega, by go_num, below_drewN hB.out _, HQ⟩
        case measure => simp [intOf]; omega
    · have hkn : k = n := by omega
      subst hkn
      have HQ : Hid (sameL l m = true) := sameL_yes (by rw [← HN.out.1, ← HN.out.2]) (fun j hj => HA.out j (by rw [HN.out.1]; exact hj))
      clear hc hc'
      go_wp2
      go_ret
      exact ⟨ret_bool HQ.out.symm, hB.out⟩
set_option maxRecDepth 100000 in
set_option maxHeartbeats 1000000 in
theorem sliceEqual_any (v u : Value) (l m : Rcl) (w : World) (hv : Rcs w v l) (hu : Rcs w u m) (hx : l.length ≤ 1048576) (hy : m.length ≤ 1048576) :
    Calls Try.prog 151 #[v, u] w fun e w' => e = .returned (.bool (sameL l m)) ∧ Below w.heap.size w w' := by
  obtain ⟨a, c, rfl⟩ := hv.shape
  obtain ⟨a', c', rfl⟩ := hu.shape
  by_cases hlm : l.length = m.length
  · rw [← hlm] at hu ⊢
    by_cases h0 : 0 < l.length
    · obtain ⟨_, b, off, rfl, hb, hc⟩ := hv.at h0
      obtain ⟨_, b', off', rfl, hb', hc'⟩ := hu.at (by omega)
      exact sliceEqual_core b off c b' off' c' l.length l m w ⟨rfl, hlm⟩ hx hb hb' hc (fun j hj => hc' j (by omega))
    · have e1 : l = [] := List.eq_nil_of_length_eq_zero (by omega)
      have e2 : m = [] := List.eq_nil_of_length_eq_zero (by omega)
      subst e1 e2
      have e3 : sameL [] [] = true := rfl
      rw [e3]
      simp only [List.length_nil] at *
      clear hv hu h0 hlm
      go_enter Try.func151, Try.ntmps151
      go_wp2
      refine wp_loop_rounds 1 ?_; rw [rounds_succ]
      go_wp2
      go_ret
      exact ⟨rfl, Below.refl _ _⟩
  · rw [sameL_len hlm]
    have hnb : (((l.length : Nat) : Int) != ((m.length : Nat) : Int)) = true := by simp; omega
    generalize l.length = n at *
    generalize m.length = k at *
    clear hv hu hlm
    go_enter Try.func151, Try.ntmps151
    go_wp2
    go_ret
    exact ⟨rfl, Below.refl _ _⟩
set_option maxRecDepth 100000 in
set_option maxHeartbeats 1000000 in
theorem implSameDirectories_any (v u : Value) (l m : Rcl) (w : World) (hv : Rcs w v l) (hu : Rcs w u m) (hx : l.length ≤ 1048576) (hy : m.length ≤ 1048576) :
    Calls Try.prog 110 #[.agg #[v], .agg #[u]] w fun e w' => e = .returned (.bool (sameL l m)) ∧ Below w.heap.size w w' := by
  have hE := fun o o' => sliceEqual_any v u l m ((w.alloc o).alloc o') (hv.below (two_new _ _)) (hu.below (two_new _ _)) hx hy
  obtain ⟨a, c, rfl⟩ := hv.shape
  obtain ⟨a', c', rfl⟩ := hu.shape
  generalize sameL l m = q at *
  generalize l.length = n at *
  generalize m.length = k at *
  clear hv hu
  go_enter Try.func110, Try.ntmps110
  go_wp2_with fail
  refine (hE _ _).mono ?_
  rintro e w1 ⟨rfl, hb1⟩
  clear hE
  go_wp2
  go_ret
  exact ⟨rfl, below_after (below_after hb1)⟩
set_option maxRecDepth 100000 in
set_option maxHeartbeats 4000000 in
theorem l9Same_core (g og g' og' b off c b' off' c' n : Nat) (l m : Rcl) (w : World) (HN : Hid (n = l.length ∧ n = m.length)) (hx : n ≤ 1048576) (hg : g < w.heap.size) (hg' : g' < w.heap.size) (hb : b < w.heap.size) (hb' : b' < w.heap.size) (hD : w.cell? ⟨g, og, none⟩ = some (.slice (some ⟨b, off, none⟩) n c)) (hD' : w.cell? ⟨g', og', none⟩ = some (.slice (some ⟨b', off', none⟩) n c'))
    (hc : ∀ j, j < n → RecS w b (off + j * 4) (rAt l j)) (hc' : ∀ j, j < n → RecS w b' (off' + j * 4) (rAt m j)) :
    Calls Try.prog 105 #[.pointer (some ⟨g, og, none⟩), .pointer (some ⟨g', og', none⟩)] w fun e w' => e = .returned (.bool (sameL l m)) ∧ Below w.heap.size w w' := by
  have hnn := hne_all
  have HD : Hid (∀ w', Below w.heap.size w w' → w'.cell? ⟨g, og, none⟩ = some (.slice (some ⟨b, off, none⟩) n c) ∧ w'.cell? ⟨g', og', none⟩ = some (.slice (some ⟨b', off', none⟩) n c')) := fun w' h => ⟨(h.cell (p := ⟨g, og, none⟩) hg).trans hD, (h.cell (p := ⟨g', og', none⟩) hg').trans hD'⟩
  go_enter Try.func105, Try.ntmps105
  go_wp2
  go_quiet (fail)
  go_wp2
  go_loopw [5] (fun i wr => ∃ k : Nat, k ≤ n ∧ i = .int .i64 k ∧ Hid (Below w.heap.size w wr) ∧ Hid (∀ j, j < k → rcB (rAt l j) (rAt m j) = true)) (fun i _ => n - (intOf i).toNat)
  case atStart => exact ⟨0, Nat.zero_le _, rfl, below_drewN (Below.refl _ _) _, fun j hj => by omega⟩
  case round =>
    obtain ⟨k, hk, rfl, hB, HA⟩ := hrel
    obtain ⟨hDk, hDk'⟩ := HD.out _ hB.out
    by_cases hkn : k < n
    · have hki : (k : Int) < (n : Int) := by omega
      obtain ⟨d0, d1, d2, d3⟩ := (hc k hkn).below hB.out hb
      obtain ⟨d0', d1', d2', d3'⟩ := (hc' k hkn).below hB.out hb'
      have hE := rec_neq_any (rAt l k) (rAt m k)
      unfold recV at hE
      have HNO : Hid (rcB (rAt l k) (rAt m k) = false → sameL l m = false) := sameL_no (by have := HN.out; omega)
      have HYE : Hid (rcB (rAt l k) (rAt m k) = true → ∀ j, j < k + 1 → rcB (rAt l j) (rAt m j) = true) := (fun h j hj => by
        by_cases e : j = k
        · subst e; exact h
        · exact HA.out j (by omega) : rcB (rAt l k) (rAt m k) = true → ∀ j, j < k + 1 → rcB (rAt l j) (rAt m j) = true)
      generalize rcB (rAt l k) (rAt m k) = rb at *
      generalize (rAt l k).l = x0 at *
      generalize (rAt l k).v = x1 at *
      generalize (rAt l k).o = x2 at *
      generalize (rAt l k).p = x3 at *
      generalize (rAt m k).l = y0 at *
      generalize (rAt m k).v = y1 at *
      generalize (rAt m k).o = y2 at *
      generalize (rAt m k).p = y3 at *
      clear hc hc'
      cases rb
      · have HQ : Hid (sameL l m = false) := HNO.out rfl
        clear HNO HYE
        go_wp2
        go_quiet (fail)
        go_wp2
        go_ret
        exact ⟨ret_bool HQ.out.symm, below_drewN hB.out _⟩
      · have HQ : Hid (∀ j, j < k + 1 → rcB (rAt l j) (rAt m j) = true) := HYE.out rfl
        clear HNO HYE
        go_wp2
        go_quiet (fail)
        go_wp2
        go_roundw
        case rel => exact ⟨k + 1, by omega, by go_num, below_drewN hB.out _, HQ⟩
        case measure => simp [intOf]; omega
    · have hkn : k = n := by omega
      subst hkn
      have HQ : Hid (sameL l m = true) := sameL_yes (by rw [← HN.out.1, ← HN.out.2]) (fun j hj => HA.out j (by rw [HN.out.1]; exact hj))
      clear hc hc'
      go_wp2
      go_ret
      exact ⟨ret_bool HQ.out.symm, hB.out⟩
set_option maxRecDepth 100000 in
set_option maxHeartbeats 1000000 in
theorem l9Same_off (g og g' og' : Nat) (v u : Value) (l m : Rcl) (w : World) (hg : g < w.heap.size) (hg' : g' < w.heap.size) (hD : w.cell? ⟨g, og, none⟩ = some v) (hD' : w.cell? ⟨g', og', none⟩ = some u) (hv : Rcs w v l) (hu : Rcs w u m) (hx : l.length ≤ 1048576) (hy : m.length ≤ 1048576) :
    Calls Try.prog 105 #[.pointer (some ⟨g, og, none⟩), .pointer (some ⟨g', og', none⟩)] w fun e w' => e = .returned (.bool (sameL l m)) ∧ Below w.heap.size w w' := by
  obtain ⟨a, c, rfl⟩ := hv.shape
  obtain ⟨a', c', rfl⟩ := hu.shape
  by_cases hlm : l.length = m.length
  · rw [← hlm] at hu hD'
    by_cases h0 : 0 < l.length
    · obtain ⟨_, b, off, rfl, hb, hc⟩ := hv.at h0
      obtain ⟨_, b', off', rfl, hb', hc'⟩ := hu.at (by omega)
      exact l9Same_core g og g' og' b off c b' off' c' l.length l m w ⟨rfl, hlm⟩ hx hg hg' hb hb' hD hD' hc (fun j hj => hc' j (by omega))
    · have e1 : l = [] := List.eq_nil_of_length_eq_zero (by omega)
      have e2 : m = [] := List.eq_nil_of_length_eq_zero (by omega)
      subst e1 e2
      have e3 : sameL [] [] = true := rfl
      rw [e3]
      simp only [List.length_nil] at *
      clear hv hu h0 hlm
      go_enter Try.func105, Try.ntmps105
      go_wp2
      go_quiet (fail)
      go_wp2
      refine wp_loop_rounds 1 ?_; rw [rounds_succ]
      go_wp2
      go_ret
      exact ⟨rfl, below_drewN (Below.refl _ _) _⟩
  · rw [sameL_len hlm]
    have hnb : (((l.length : Nat) : Int) != ((m.length : Nat) : Int)) = true := by simp; omega
    generalize l.length = n at *
    generalize m.length = k at *
    clear hv hu hlm
    go_enter Try.func105, Try.ntmps105
    go_wp2
    go_quiet (fail)
    go_wp2
    go_ret
    exact ⟨rfl, below_drewN (Below.refl _ _) _⟩
theorem l9Same_any (g g' : Nat) (v u : Value) (l m : Rcl) (w : World) (hg : g < w.heap.size) (hg' : g' < w.heap.size) (hD : w.cell? ⟨g, 0, none⟩ = some v) (hD' : w.cell? ⟨g', 0, none⟩ = some u) (hv : Rcs w v l) (hu : Rcs w u m) (hx : l.length ≤ 1048576) (hy : m.length ≤ 1048576) :
    Calls Try.prog 105 #[.pointer (some ⟨g, 0, none⟩), .pointer (some ⟨g', 0, none⟩)] w fun e w' => e = .returned (.bool (sameL l m)) ∧ Below w.heap.size w w' := l9Same_off g 0 g' 0 v u l m w hg hg' hD hD' hv hu hx hy
end U
end Go.Proofs.Ytcdodpcdennemaa
