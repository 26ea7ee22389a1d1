/- Two trails compared, as the program and as the model do it. -/
import Derived.Test.YtcdodpcdennemaaNpL
namespace Go.Proofs.Ytcdodpcdennemaa
open Go.RowKit
namespace U
theorem cellB {W wr : World} {b i : Nat} {v : Value} (h : Below W.heap.size W wr) (hc : W.cell? ⟨b, i, none⟩ = some v) : wr.cell? ⟨b, i, none⟩ = some v := After.cell hc ⟨wr, h⟩
set_option maxRecDepth 100000 in
set_option maxHeartbeats 2000000 in
theorem equalForks_core (b off c b' off' c' n : Nat) (l m : Prl) (w : World) (HL : Hid (l.length = n)) (HM : Hid (m.length = n)) (hn : n ≤ 1099511627776) (hb : b < w.heap.size) (hb' : b' < w.heap.size)
    (hc : ∀ j, j < n → w.cell? ⟨b, off + j * 2, none⟩ = some (.int .i64 (pAt l j).1) ∧ w.cell? ⟨b, off + j * 2 + 1, none⟩ = some (.int .i64 (pAt l j).2))
    (hc' : ∀ j, j < n → w.cell? ⟨b', off' + j * 2, none⟩ = some (.int .i64 (pAt m j).1) ∧ w.cell? ⟨b', off' + j * 2 + 1, none⟩ = some (.int .i64 (pAt m j).2)) :
    Calls Try.prog 159 #[.slice (some ⟨b, off, none⟩) n c, .slice (some ⟨b', off', none⟩) n c'] w fun e w' => e = .returned (.bool (decide (l = m))) ∧ Below w.heap.size w w' := by
  go_enter Try.func159, Try.ntmps159
  go_wp2
  go_loopw [13] (fun i wr => ∃ k : Nat, k ≤ n ∧ i = .int .i64 k ∧ Hid (AgreeP l m k) ∧ Below w.heap.size w wr) (fun i _ => n - (intOf i).toNat)
  case atStart => exact ⟨0, Nat.zero_le _, rfl, fun j hj => by omega, Below.refl _ _⟩
  case round =>
    obtain ⟨k, hk, rfl, hA, hB⟩ := hrel
    by_cases hkn : k < n
    · have hki : (k : Int) < (n : Int) := by omega
      have c1 := After.cell ((hB.cell (p := ⟨b, off + k * 2, none⟩) hb).trans (hc k hkn).1)
      have c2 := After.cell ((hB.cell (p := ⟨b, off + k * 2 + 1, none⟩) hb).trans (hc k hkn).2)
      have c3 := After.cell ((hB.cell (p := ⟨b', off' + k * 2, none⟩) hb').trans (hc' k hkn).1)
      have c4 := After.cell ((hB.cell (p := ⟨b', off' + k * 2 + 1, none⟩) hb').trans (hc' k hkn).2)
      have hne := After.ne wr
      generalize hx : (pAt l k).1 = x at *
      generalize hy : (pAt l k).2 = y at *
      generalize hx' : (pAt m k).1 = x' at *
      generalize hy' : (pAt m k).2 = y' at *
      have HP : Hid (pAt l k = (x, y) ∧ pAt m k = (x', y')) := ⟨by rw [← hx, ← hy], by rw [← hx', ← hy']⟩
      have HB : Hid (Below w.heap.size w wr) := hB
      clear hx hy hx' hy' hc hc' hB
      by_cases h : (x, y) = (x', y')
      · cases h
        go_wp2
        refine wp_region_after (by kernel_rfl) (by kernel_rfl) ?_
        repeat (first | go_big_quiet_skip | (go_big_quiet_want; go_big_quiet_op; first | go_big_quiet_on))
        refine wpQuiet_nil ?_
        rintro _ ⟨n2, rfl⟩
        have hB2 : Below w.heap.size w n2.w := below_after_of HB.out n2.b
        go_wp2
        go_roundw
        case rel => exact ⟨k + 1, by omega, by go_num, hA.out.succ (by rw [HP.out.1, HP.out.2]), hB2⟩
        case measure => simp [intOf]; omega
      · have e1 : Hid (¬ l = m) := fun e => h (by rw [← HP.out.1, ← HP.out.2, e])
        by_cases h1 : x = x'
        · subst h1
          have h2 : (y == y') = false := by
            have : y ≠ y' := fun e => h (by rw [e])
            simpa using this
          clear h
          go_wp2
          refine wp_region_after (by kernel_rfl) (by kernel_rfl) ?_
          repeat (first | go_big_quiet_skip | (go_big_quiet_want; go_big_quiet_op; first | go_big_quiet_on))
          refine wpQuiet_nil ?_
          rintro _ ⟨n2, rfl⟩
          have hB2 : Below w.heap.size w n2.w := below_after_of HB.out n2.b
          go_wp2
          go_ret
          exact ⟨ret_bool (by symm; rw [decide_eq_false_iff_not]; exact e1.out), hB2⟩
        · have h2 : (x == x') = false := by simpa using h1
          clear h h1
          go_wp2
          refine wp_region_after (by kernel_rfl) (by kernel_rfl) ?_
          repeat (first | go_big_quiet_skip | (go_big_quiet_want; go_big_quiet_op; first | go_big_quiet_on))
          refine wpQuiet_nil ?_
          rintro _ ⟨n2, rfl⟩
          have hB2 : Below w.heap.size w n2.w := below_after_of HB.out n2.b
          go_wp2
          go_ret
          exact ⟨ret_bool (by symm; rw [decide_eq_false_iff_not]; exact e1.out), hB2⟩
    · clear hc hc'
      go_wp2
      go_ret
      refine ⟨ret_bool ?_, hB⟩
      symm
      rw [decide_eq_true_iff]
      have hkn : k = n := by omega
      subst hkn
      have hxl := HL.out
      exact AgreeP.all (by rw [hxl]; exact hA.out) (HL.out.trans HM.out.symm)
set_option maxRecDepth 100000 in
set_option maxHeartbeats 1000000 in
theorem equalForks_any (v u : Value) (l m : Prl) (w : World) (hv : Prs w v l) (hu : Prs w u m) (hx : l.length ≤ 1099511627776) (hy : m.length ≤ 1099511627776) :
    Calls Try.prog 159 #[v, u] w fun e w' => e = .returned (.bool (decide (l = m))) ∧ Below w.heap.size w w' := by
  obtain ⟨a, c, rfl⟩ := hv.shape
  obtain ⟨a', c', rfl⟩ := hu.shape
  by_cases hl : l.length = m.length
  · by_cases h0 : 0 < l.length
    · obtain ⟨_, b, off, rfl, hb, hc⟩ := hv.at h0
      obtain ⟨_, b', off', rfl, hb', hc'⟩ := hu.at (by omega)
      rw [← hl] at hc' ⊢
      exact equalForks_core b off c b' off' c' l.length l m w rfl hl.symm hx hb hb' hc hc'
    · have e1 : l = [] := List.eq_nil_of_length_eq_zero (by omega)
      have e2 : m = [] := List.eq_nil_of_length_eq_zero (by omega)
      subst e1 e2
      simp only [List.length_nil]
      clear hv hu hl h0 hx hy
      go_enter Try.func159, Try.ntmps159
      go_wp2
      refine wp_loop_rounds 1 ?_; rw [rounds_succ]
      go_wp2
      go_ret
      exact ⟨rfl, Below.refl _ _⟩
  · have hne : decide (l = m) = false := by rw [decide_eq_false_iff_not]; intro e; exact hl (by rw [e])
    rw [hne]
    obtain ⟨n, hn⟩ : ∃ n, n = l.length := ⟨_, rfl⟩
    obtain ⟨k, hk⟩ : ∃ n, n = m.length := ⟨_, rfl⟩
    rw [← hn, ← hk] at hl ⊢
    have h1 : ((n : Int) != (k : Int)) = true := by simp; omega
    clear hv hu hl hne hn hk
    go_enter Try.func159, Try.ntmps159
    go_wp2
    go_ret
    exact ⟨rfl, Below.refl _ _⟩
/-- Are two trails the same? -/
def stB (x : Bool) (k y : Int) (l : Prl) (x' : Bool) (k' y' : Int) (m : Prl) : Bool := decide (x = x' ∧ k = k' ∧ y = y' ∧ l = m)
theorem stB_x {x x' : Bool} {k y k' y' : Int} {l m : Prl} (h : x ≠ x') : stB x k y l x' k' y' m = false := decide_eq_false (fun e => h e.1)
theorem stB_k {x x' : Bool} {k y k' y' : Int} {l m : Prl} (h : ¬ k = k') : stB x k y l x' k' y' m = false := decide_eq_false (fun e => h e.2.1)
theorem stB_y {x x' : Bool} {k y k' y' : Int} {l m : Prl} (h : ¬ y = y') : stB x k y l x' k' y' m = false := decide_eq_false (fun e => h e.2.2.1)
theorem stB_l {x : Bool} {k y : Int} {l m : Prl} : stB x k y l x k y m = decide (l = m) := by unfold stB; simp
set_option maxRecDepth 100000 in
set_option maxHeartbeats 2000000 in
theorem implSameTrails_any (x : Bool) (k y : Int) (v : Value) (l : Prl) (x' : Bool) (k' y' : Int) (u : Value) (m : Prl) (w : World) (hv : Prs w v l) (hu : Prs w u m) (hx : l.length ≤ 1099511627776) (hy : m.length ≤ 1099511627776) :
    Calls Try.prog 123 #[.agg #[.bool x, .int .i64 k, .int .i64 y, v], .agg #[.bool x', .int .i64 k', .int .i64 y', u]] w fun e w' => e = .returned (.bool (stB x k y l x' k' y' m)) ∧ Below w.heap.size w w' := by
  have hE := fun w' h => equalForks_any v u l m w' (hv.below (w' := w') h) (hu.below h) hx hy
  obtain ⟨a, c, rfl⟩ := hv.shape
  obtain ⟨a', c', rfl⟩ := hu.shape
  obtain ⟨W, hW⟩ : ∃ W, W = (w.alloc (.cells #[.bool x, .int .i64 k, .int .i64 y, .slice a l.length c] 91)).alloc (.cells #[.bool x', .int .i64 k', .int .i64 y', .slice a' m.length c'] 91) := ⟨_, rfl⟩
  have HW : Hid ((w.alloc (.cells #[.bool x, .int .i64 k, .int .i64 y, .slice a l.length c] 91)).alloc (.cells #[.bool x', .int .i64 k', .int .i64 y', .slice a' m.length c'] 91) = W) := hW.symm
  have hB : Below w.heap.size w W := by rw [hW]; exact two_new _ _
  have H1 : TlBlk W w.heap.size x k y (.slice a l.length c) := by rw [hW]; exact (tl_box w x k y _).below (one_new _)
  have H2 : TlBlk W (w.heap.size + 1) x' k' y' (.slice a' m.length c') := by
    have h := tl_box (w.alloc (.cells #[.bool x, .int .i64 k, .int .i64 y, .slice a l.length c] 91)) x' k' y' (.slice a' m.length c')
    rw [World.size_alloc] at h
    rw [hW]
    exact h
  have hp1 := H1.lt
  have hp2 := H2.lt
  obtain ⟨p0, p1, p2, p3⟩ := H1.cells
  obtain ⟨q0, q1, q2, q3⟩ := H2.cells
  by_cases h1 : x = x'
  · subst h1
    have hxx : (x == x) = true := by simp
    by_cases h2 : k = k'
    · subst h2
      by_cases h3 : y = y'
      · subst h3
        rw [stB_l]
        generalize decide (l = m) = q at *
        generalize l.length = n at *
        generalize m.length = n' at *
        clear hv hu H1 H2 hW
        go_enter Try.func123, Try.ntmps123
        go_wp2_with fail
        rw [HW.out]
        refine (hE _ hB).mono ?_
        rintro e w1 ⟨rfl, hb1⟩
        have hB1 := below_after_of hB hb1
        clear hE hb1
        go_wp2
        go_ret
        exact ⟨rfl, hB1⟩
      · rw [stB_y h3]
        have h4 : (y == y') = false := by simpa using h3
        generalize l.length = n at *
        generalize m.length = n' at *
        clear hv hu H1 H2 hW hE h3
        go_enter Try.func123, Try.ntmps123
        go_wp2
        go_ret
        exact ⟨rfl, two_new _ _⟩
    · rw [stB_k h2]
      have h4 : (k == k') = false := by simpa using h2
      generalize l.length = n at *
      generalize m.length = n' at *
      clear hv hu H1 H2 hW hE h2
      go_enter Try.func123, Try.ntmps123
      go_wp2
      go_ret
      exact ⟨rfl, two_new _ _⟩
  · rw [stB_x h1]
    have h4 : (x == x') = false := by simpa using h1
    generalize l.length = n at *
    generalize m.length = n' at *
    clear hv hu H1 H2 hW hE h1
    go_enter Try.func123, Try.ntmps123
    go_wp2
    go_ret
    exact ⟨rfl, two_new _ _⟩
end U
end Go.Proofs.Ytcdodpcdennemaa
