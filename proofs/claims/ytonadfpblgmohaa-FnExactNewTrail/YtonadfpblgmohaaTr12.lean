/- Helpers of the laws on trails: rows of forks compared, marked and held. -/
import Derived.Test.YtonadfpblgmohaaSlR
import Derived.Test.YtonadfpblgmohaaTr10
namespace Go.Proofs.Ytonadfpblgmohaa
open Go.RowKit
namespace U
set_option maxRecDepth 100000 in
theorem eqFork_any (x y x' y' : Int) (w : World) :
    Calls Try.prog 96 #[.agg #[.int .i64 x, .int .i64 y], .agg #[.int .i64 x', .int .i64 y']] w fun e w' => e = .returned (.bool (decide ((x, y) = (x', y')))) ∧ Below w.heap.size w w' := by
  by_cases h1 : x = x'
  · by_cases h2 : y = y'
    · subst h1 h2
      rw [decide_eq_true rfl]
      go_enter Try.func96, Try.ntmps96
      go_wp2
      go_ret
      exact ⟨rfl, two_new _ _⟩
    · subst h1
      have e1 : (y != y') = true := by simpa using h2
      rw [decide_eq_false (fun h => h2 (by cases h; rfl))]
      clear h2
      go_enter Try.func96, Try.ntmps96
      go_wp2
      go_ret
      exact ⟨rfl, two_new _ _⟩
  · have e1 : (x != x') = true := by simpa using h1
    rw [decide_eq_false (fun h => h1 (by cases h; rfl))]
    clear h1
    go_enter Try.func96, Try.ntmps96
    go_wp2
    go_ret
    exact ⟨rfl, two_new _ _⟩
set_option maxRecDepth 100000 in
set_option maxHeartbeats 2000000 in
theorem eqForkS_core (b off c b' off' c' n : Nat) (l m : Prl) (w : World) (HL : Hid (l.length = n)) (HM : Hid (m.length = n)) (hn : n ≤ 1099511627776) (hb : b < w.heap.size) (hb' : b' < w.heap.size)
    (hc : ∀ j, j < n → w.cell? ⟨b, off + j * 2, none⟩ = some (.int .i64 (pAt l j).1) ∧ w.cell? ⟨b, off + j * 2 + 1, none⟩ = some (.int .i64 (pAt l j).2))
    (hc' : ∀ j, j < n → w.cell? ⟨b', off' + j * 2, none⟩ = some (.int .i64 (pAt m j).1) ∧ w.cell? ⟨b', off' + j * 2 + 1, none⟩ = some (.int .i64 (pAt m j).2)) :
    Calls Try.prog 88 #[.slice (some ⟨b, off, none⟩) n c, .slice (some ⟨b', off', none⟩) n c'] w fun e w' => e = .returned (.bool (decide (l = m))) ∧ Below w.heap.size w w' := by
  go_enter Try.func88, Try.ntmps88
  go_wp2
  go_loopw [5] (fun i wr => ∃ k : Nat, k ≤ n ∧ i = .int .i64 k ∧ Hid (AgreeP l m k) ∧ Below w.heap.size w wr) (fun i _ => n - (intOf i).toNat)
  case atStart => exact ⟨0, Nat.zero_le _, rfl, fun j hj => by omega, Below.refl _ _⟩
  case round =>
    obtain ⟨k, hk, rfl, hA, hB⟩ := hrel
    by_cases hkn : k < n
    · have hki : (k : Int) < (n : Int) := by omega
      have c1 := After.cell ((hB.cell (p := ⟨b, off + k * 2, none⟩) hb).trans (hc k hkn).1)
      have c2 := After.cell ((hB.cell (p := ⟨b, off + k * 2 + 1, none⟩) hb).trans (hc k hkn).2)
      have c3 := After.cell ((hB.cell (p := ⟨b', off' + k * 2, none⟩) hb').trans (hc' k hkn).1)
      have c4 := After.cell ((hB.cell (p := ⟨b', off' + k * 2 + 1, none⟩) hb').trans (hc' k hkn).2)
      have hne := After.ne wr
      have hE := fun w => eqFork_any (pAt l k).1 (pAt l k).2 (pAt m k).1 (pAt m k).2 w
      have HL2 : Hid (l.length = n) := HL
      generalize hx : (pAt l k).1 = x at *
      generalize hy : (pAt l k).2 = y at *
      generalize hx' : (pAt m k).1 = x' at *
      generalize hy' : (pAt m k).2 = y' at *
      have HP : Hid (pAt l k = (x, y) ∧ pAt m k = (x', y')) := ⟨by rw [← hx, ← hy], by rw [← hx', ← hy']⟩
      obtain ⟨d, hd⟩ : ∃ d, d = decide ((x, y) = (x', y')) := ⟨_, rfl⟩
      have HD : Hid (d = decide ((x, y) = (x', y'))) := hd
      rw [← hd] at hE
      have HB : Hid (Below w.heap.size w wr) := hB
      clear hx hy hx' hy' hc hc' hd hB
      go_wp2
      refine wp_region_after (by kernel_rfl) (by kernel_rfl) ?_
      repeat (first | go_big_quiet_skip | (go_big_quiet_want; go_big_quiet_op; first | go_big_quiet_on | go_big_quiet_call (first | (go_at_call 96; refine (hE _).mono ?_; rintro e wq ⟨rfl, hbq⟩; exact ⟨rfl, after_mk (below_after_of (After.b _) hbq)⟩))))
      refine wpQuiet_nil ?_
      rintro _ ⟨n2, rfl⟩
      have hB2 : Below w.heap.size w n2.w := below_after_of HB.out n2.b
      cases d
      · have e1 : Hid (¬ l = m) := fun e => by
          have := HD.out.symm
          rw [decide_eq_false_iff_not] at this
          exact this (by rw [← HP.out.1, ← HP.out.2, e])
        go_wp2
        go_ret
        exact ⟨ret_bool (by symm; rw [decide_eq_false_iff_not]; exact e1.out), hB2⟩
      · go_wp2
        go_roundw
        case rel => exact ⟨k + 1, by omega, by go_num, hA.out.succ (by rw [HP.out.1, HP.out.2]; exact of_decide_eq_true HD.out.symm), hB2⟩
        case measure => simp [intOf]; omega
    · clear hc hc'
      go_wp2
      go_ret
      refine ⟨ret_bool ?_, hB⟩
      symm
      rw [decide_eq_true_iff]
      have hkn : k = n := by omega
      subst hkn
      have hxl := HL.out
      exact AgreeP.all (by rw [hxl]; exact hA.out) (HL.out.trans HM.out.symm)
set_option maxRecDepth 100000 in
set_option maxHeartbeats 1000000 in
theorem eqForkS_any (v u : Value) (l m : Prl) (w : World) (hv : Prs w v l) (hu : Prs w u m) (hx : l.length ≤ 1099511627776) (hy : m.length ≤ 1099511627776) :
    Calls Try.prog 88 #[v, u] w fun e w' => e = .returned (.bool (decide (l = m))) ∧ Below w.heap.size w w' := by
  obtain ⟨a, c, rfl⟩ := hv.shape
  obtain ⟨a', c', rfl⟩ := hu.shape
  by_cases hl : l.length = m.length
  · by_cases h0 : 0 < l.length
    · obtain ⟨_, b, off, rfl, hb, hc⟩ := hv.at h0
      obtain ⟨_, b', off', rfl, hb', hc'⟩ := hu.at (by omega)
      rw [← hl] at hc' ⊢
      exact eqForkS_core b off c b' off' c' l.length l m w rfl hl.symm hx hb hb' hc hc'
    · have e1 : l = [] := List.eq_nil_of_length_eq_zero (by omega)
      have e2 : m = [] := List.eq_nil_of_length_eq_zero (by omega)
      subst e1 e2
      simp only [List.length_nil]
      clear hv hu hl h0 hx hy
      go_enter Try.func88, Try.ntmps88
      go_wp2
      refine wp_loop_rounds 1 ?_; rw [rounds_succ]
      go_wp2
      go_ret
      exact ⟨rfl, Below.refl _ _⟩
  · have hne : decide (l = m) = false := by rw [decide_eq_false_iff_not]; intro e; exact hl (by rw [e])
    rw [hne]
    obtain ⟨n, hn⟩ : ∃ n, n = l.length := ⟨_, rfl⟩
    obtain ⟨k, hk⟩ : ∃ n, n = m.length := ⟨_, rfl⟩
    rw [← hn, ← hk] at hl ⊢
    have h1 : ((n : Int) != (k : Int)) = true := by simp; omega
    clear hv hu hl hne hn hk
    go_enter Try.func88, Try.ntmps88
    go_wp2
    go_ret
    exact ⟨rfl, Below.refl _ _⟩
set_option maxRecDepth 100000 in
set_option maxHeartbeats 1000000 in
theorem markForkS_any (B : Nat) (v : Value) (l : Prl) (k0 : Nat) (w : World) (hown : w.ownsRow B 98 2 v l.length ((fl l).map (Value.int .i64))) (hx : l.length ≤ 1099511627776) (hk0 : k0 ≤ 1099511627776) :
    Calls Try.prog 89 #[v, .int .i64 k0] w fun e w' => e = .returned (.int .i64 ((k0 + l.length * 2 : Nat) : Int)) ∧ w.grownBy w' v.ownBlock ∧ w'.ownsRow B 98 2 v l.length ((fl (mkP k0 l.length)).map (Value.int .i64)) := by
  by_cases h0 : l.length = 0
  · have e1 : l = [] := List.eq_nil_of_length_eq_zero h0
    subst e1
    obtain ⟨a, c, rfl⟩ : ∃ a c, v = .slice a 0 c := by
      rcases hown.2 with ⟨rfl, hn⟩ | ⟨g, cap, cur, rfl, _⟩
      · exact ⟨none, 0, rfl⟩
      · exact ⟨_, _, rfl⟩
    simp only [List.length_nil] at *
    go_enter Try.func89, Try.ntmps89
    go_wp2
    refine wp_loop_rounds 1 ?_; rw [rounds_succ]
    go_wp2
    go_ret
    exact ⟨rfl, World.grownBy.refl _ _, hown⟩
  · rcases hown.2 with ⟨_, h⟩ | ⟨g, cap, cur, rfl, hB, hg, _⟩
    · exact absurd h h0
    have hgs : g < w.heap.size := (Array.getElem?_eq_some_iff.1 hg).1
    have hfl := fl_len l
    have hml : fl (mkP k0 l.length) = marks k0 (fl l).length := by rw [fl_mkP, hfl]
    rw [hml]
    clear hg hB hml
    obtain ⟨n, hn⟩ : ∃ n, n = l.length := ⟨_, rfl⟩
    have HN : Hid ((fl l).length = n * 2) := by show _ = _; rw [hn]; exact hfl
    rw [← hn] at hown hx h0 ⊢
    generalize fl l = xs at *
    clear hn h0 hfl
    go_enter Try.func89, Try.ntmps89
    go_wp2
    go_loopw [1, 5] (fun k i wr => ∃ j : Nat, j ≤ n ∧ i = .int .i64 j ∧ k = .int .i64 ((k0 + j * 2 : Nat) : Int) ∧ w.grownBy wr (some g) ∧ wr.ownsRow B 98 2 (.slice (some ⟨g, 0, none⟩) n cap) n ((half xs k0 (j * 2)).map (Value.int .i64))) (fun _ i _ => n - (intOf i).toNat)
    case atStart => exact ⟨0, Nat.zero_le _, rfl, by simp, World.grownBy.refl _ _, by rw [Nat.zero_mul, half_zero]; exact hown⟩
    case round =>
      obtain ⟨j, hj, rfl, rfl, hgr, ho⟩ := hrel
      by_cases hjn : j < n
      · have hji : (j : Int) < (n : Int) := by omega
        have f0 := ho.frozenAt (j * 2)
        have f1 := ho.frozenAt (j * 2 + 1)
        obtain ⟨x, c0⟩ := own_some2 ho (j := j * 2) (by omega)
        obtain ⟨y, c1⟩ := own_some2 ho (j := j * 2 + 1) (by omega)
        obtain ⟨s1, s2⟩ := ho.stored (j * 2) (.int .i64 ((k0 + j * 2 : Nat) : Int))
        obtain ⟨s3, s4⟩ := s1.stored (j * 2 + 1) (.int .i64 ((k0 + (j * 2 + 1) : Nat) : Int))
        have s5 := grown_trans (grown_trans hgr s2) s4
        rw [← List.map_set, half_set xs k0 (j * 2) (by have := HN.out; omega), ← List.map_set, half_set xs k0 (j * 2 + 1) (by have := HN.out; omega)] at s3
        have e5 : (((k0 + j * 2 : Nat) : Int) + 1) = ((k0 + (j * 2 + 1) : Nat) : Int) := by omega
        have H3 : Hid (((wr.setCell ⟨g, j * 2, none⟩ (.int .i64 ((k0 + j * 2 : Nat) : Int))).setCell ⟨g, j * 2 + 1, none⟩ (.int .i64 ((k0 + (j * 2 + 1) : Nat) : Int))).ownsRow B 98 2 (.slice (some ⟨g, 0, none⟩) n cap) n ((half xs k0 (j * 2 + 1 + 1)).map (Value.int .i64)) ∧ w.grownBy ((wr.setCell ⟨g, j * 2, none⟩ (.int .i64 ((k0 + j * 2 : Nat) : Int))).setCell ⟨g, j * 2 + 1, none⟩ (.int .i64 ((k0 + (j * 2 + 1) : Nat) : Int))) (some g)) := ⟨s3, s5⟩
        rw [← e5] at H3
        clear ho hown hgr s1 s2 s3 s4 s5 e5
        go_wp2
        go_roundw
        case rel =>
          exact ⟨j + 1, by omega, by go_num, by go_num, by simpa using H3.out.2, by rw [show (j + 1) * 2 = j * 2 + 1 + 1 by omega]; simpa using H3.out.1⟩
        case measure => simp [intOf]; omega
      · have hjn : j = n := by omega
        subst hjn
        rw [← HN.out, half_all] at ho
        go_wp2
        go_ret
        exact ⟨rfl, hgr, ho⟩
set_option maxRecDepth 100000 in
set_option maxHeartbeats 1000000 in
theorem heldForkS_any (v : Value) (n k0 : Nat) (w : World) (hv : Prs w v (mkP k0 n)) (hx : n ≤ 1099511627776) (hk0 : k0 ≤ 1099511627776) :
    Calls Try.prog 90 #[v, .int .i64 k0] w fun e w' => e = .returned (.int .i64 ((k0 + n * 2 : Nat) : Int)) ∧ w' = w := by
  obtain ⟨a, c, rfl⟩ := hv.shape
  by_cases h0 : n = 0
  · subst h0
    simp only [mkP_len]
    clear hv
    go_enter Try.func90, Try.ntmps90
    go_wp2
    refine wp_loop_rounds 1 ?_; rw [rounds_succ]
    go_wp2
    go_ret
    exact ⟨rfl, rfl⟩
  · obtain ⟨_, b, off, rfl, hb, hc⟩ := hv.at (by rw [mkP_len]; omega)
    have hcm : ∀ j, j < n → w.cell? ⟨b, off + j * 2, none⟩ = some (.int .i64 ((k0 + j * 2 : Nat) : Int)) ∧ w.cell? ⟨b, off + j * 2 + 1, none⟩ = some (.int .i64 (((k0 + j * 2 : Nat) : Int) + 1)) := fun j hj => by
      have h1 := hc j (by rw [mkP_len]; exact hj)
      rw [mkP_at _ _ _ hj] at h1
      refine ⟨h1.1, h1.2.trans ?_⟩
      congr 2
    rw [mkP_len]
    clear hv hc h0
    go_enter Try.func90, Try.ntmps90
    go_wp2
    go_loop [1, 5] (fun k i => ∃ j : Nat, j ≤ n ∧ i = .int .i64 j ∧ k = .int .i64 ((k0 + j * 2 : Nat) : Int)) (fun _ i => n - (intOf i).toNat)
    case atStart => exact ⟨0, Nat.zero_le _, rfl, by simp⟩
    case round =>
      obtain ⟨j, hj, rfl, rfl⟩ := hrel
      by_cases hjn : j < n
      · have hji : (j : Int) < (n : Int) := by omega
        obtain ⟨c0, c1⟩ := hcm j hjn
        have HQ : Hid (((k0 + j * 2 : Nat) : Int) + 1 + 1 = ((k0 + (j + 1) * 2 : Nat) : Int)) := by show _ = _; omega
        have hq : (k0 + j * 2 : Nat) ≤ 4398046511104 := by omega
        generalize k0 + j * 2 = q at *
        clear hcm
        go_wp2
        go_round
        case rel => exact ⟨j + 1, by omega, by go_num, by rw [← HQ.out]⟩
        case measure => simp [intOf]; omega
      · have hjn : j = n := by omega
        subst hjn
        clear hcm
        go_wp2
        go_ret
        exact ⟨rfl, rfl⟩
set_option maxRecDepth 100000 in
set_option maxHeartbeats 1000000 in
theorem eqTrail_same (x : Bool) (k y : Int) (v u : Value) (l : Prl) (w : World) (hv : Prs w v l) (hu : Prs w u l) (hx : l.length ≤ 1099511627776) :
    Calls Try.prog 64 #[.agg #[.bool x, .int .i64 k, .int .i64 y, v], .agg #[.bool x, .int .i64 k, .int .i64 y, u]] w fun e w' => e = .returned (.bool true) ∧ Below w.heap.size w w' := by
  obtain ⟨a, c', rfl⟩ := hv.shape
  obtain ⟨a', d', rfl⟩ := hu.shape
  have hE := fun w' h => eqForkS_any _ _ l l w' (hv.below h) (hu.below h) hx hx
  have hS := fun w => eqSlot_any k y k y w
  have hxx : (x != x) = false := by simp
  rw [decide_eq_true rfl] at hE hS
  generalize l.length = n at *
  clear hv hu
  obtain ⟨W, hW⟩ : ∃ W, W = (w.alloc (.cells #[.bool x, .int .i64 k, .int .i64 y, .slice a n c'] 54)).alloc (.cells #[.bool x, .int .i64 k, .int .i64 y, .slice a' n d'] 54) := ⟨_, rfl⟩
  have HW : Hid ((w.alloc (.cells #[.bool x, .int .i64 k, .int .i64 y, .slice a n c'] 54)).alloc (.cells #[.bool x, .int .i64 k, .int .i64 y, .slice a' n d'] 54) = W) := hW.symm
  have hB : Below w.heap.size w W := by rw [hW]; exact two_new _ _
  have H1 : W.heap[w.heap.size]? = some (.cells #[.bool x, .int .i64 k, .int .i64 y, .slice a n c'] 54) := by
    rw [hW]; exact ((one_new _).block w.heap.size (by simp)).trans (heap_alloc_new w _)
  have H2 : W.heap[w.heap.size + 1]? = some (.cells #[.bool x, .int .i64 k, .int .i64 y, .slice a' n d'] 54) := by
    have h := heap_alloc_new (w.alloc (.cells #[.bool x, .int .i64 k, .int .i64 y, .slice a n c'] 54)) (.cells #[.bool x, .int .i64 k, .int .i64 y, .slice a' n d'] 54)
    rw [World.size_alloc] at h
    rw [hW]
    exact h
  have hsz : w.heap.size + 1 < W.heap.size := (Array.getElem?_eq_some_iff.1 H2).1
  obtain ⟨⟨p0, p1, p2, p3⟩, -⟩ := blk4V H1
  obtain ⟨⟨q0, q1, q2, q3⟩, -⟩ := blk4V H2
  clear hW
  go_enter Try.func64, Try.ntmps64
  go_wp2_with fail
  rw [HW.out]
  refine (hS _).mono ?_
  rintro e w1 ⟨rfl, hb1⟩
  have hB1 := below_after_of hB hb1
  obtain ⟨⟨r0, r1, r2, r3⟩, -⟩ := blk4V ((hb1.block w.heap.size (by omega)).trans H1)
  obtain ⟨⟨s0, s1, s2, s3⟩, -⟩ := blk4V ((hb1.block (w.heap.size + 1) hsz).trans H2)
  clear hS H1 H2 p0 p1 p2 p3 q0 q1 q2 q3 hb1
  go_wp2_with fail
  refine (hE _ hB1).mono ?_
  rintro e w2 ⟨rfl, hb2⟩
  have hB2 := below_after_of hB1 hb2
  clear hE r0 r1 r2 r3 s0 s1 s2 s3
  go_wp2
  go_ret
  exact ⟨rfl, hB2⟩
set_option maxRecDepth 100000 in
set_option maxHeartbeats 1000000 in
theorem eqTrailResult_same (q : Int) (x : Bool) (k y : Int) (v u : Value) (l : Prl) (w : World) (hv : Prs w v l) (hu : Prs w u l) (hx : l.length ≤ 1099511627776) :
    Calls Try.prog 34 #[.agg #[.int .i64 q, .bool x, .int .i64 k, .int .i64 y, v], .agg #[.int .i64 q, .bool x, .int .i64 k, .int .i64 y, u]] w fun e w' => e = .returned (.bool true) ∧ Below w.heap.size w w' := by
  have hE := fun o o' => eqTrail_same x k y v u l _ (hv.below (two_new o o')) (hu.below (two_new o o')) hx
  obtain ⟨a, c', rfl⟩ := hv.shape
  obtain ⟨a', d', rfl⟩ := hu.shape
  generalize l.length = n at *
  clear hv hu
  go_enter Try.func34, Try.ntmps34
  go_wp2_with fail
  refine (hE _ _).mono ?_
  rintro e w1 ⟨rfl, hb1⟩
  clear hE
  go_wp2
  go_ret
  exact ⟨rfl, below_after_of (two_new _ _) hb1⟩
set_option maxRecDepth 100000 in
set_option maxHeartbeats 1000000 in
theorem markTrail_any (B : Nat) (x : Bool) (k y : Int) (v : Value) (l : Prl) (k0 : Nat) (w : World) (hown : w.ownsRow B 98 2 v l.length ((fl l).map (Value.int .i64))) (hx : l.length ≤ 1099511627776) (hk0 : k0 ≤ 1099511627776) :
    Calls Try.prog 65 #[.agg #[.bool x, .int .i64 k, .int .i64 y, v], .int .i64 k0] w fun e w' => e = .returned (.int .i64 ((k0 + l.length * 2 : Nat) : Int)) ∧ w.grownBy w' v.ownBlock ∧ w'.ownsRow B 98 2 v l.length ((fl (mkP k0 l.length)).map (Value.int .i64)) := by
  have hM := fun o => markForkS_any B v l k0 _ (hown.alloc o) hx hk0
  obtain ⟨a, c', rfl⟩ := own_shape2 hown
  generalize l.length = n at *
  clear hown
  go_enter Try.func65, Try.ntmps65
  go_wp2_with fail
  refine (hM _).mono ?_
  rintro e w1 ⟨rfl, hg, ho⟩
  have HH : Hid (w.grownBy w1 (Value.slice a n c').ownBlock ∧ w1.ownsRow B 98 2 (.slice a n c') n ((fl (mkP k0 n)).map (Value.int .i64))) := ⟨grown_trans (World.grownBy_alloc _ _ _) hg, ho⟩
  clear hM hg ho
  go_wp2
  go_ret
  exact ⟨rfl, HH.out⟩
set_option maxRecDepth 100000 in
set_option maxHeartbeats 1000000 in
theorem markTrailResult_any (B : Nat) (q : Int) (x : Bool) (k y : Int) (v : Value) (l : Prl) (k0 : Nat) (w : World) (hown : w.ownsRow B 98 2 v l.length ((fl l).map (Value.int .i64))) (hx : l.length ≤ 1099511627776) (hk0 : k0 ≤ 1099511627776) :
    Calls Try.prog 36 #[.agg #[.int .i64 q, .bool x, .int .i64 k, .int .i64 y, v], .int .i64 k0] w fun e w' => e = .returned (.int .i64 ((k0 + l.length * 2 : Nat) : Int)) ∧ w.grownBy w' v.ownBlock ∧ w'.ownsRow B 98 2 v l.length ((fl (mkP k0 l.length)).map (Value.int .i64)) := by
  have hM := fun o => markTrail_any B x k y v l k0 _ (hown.alloc o) hx hk0
  obtain ⟨a, c', rfl⟩ := own_shape2 hown
  generalize l.length = n at *
  clear hown
  go_enter Try.func36, Try.ntmps36
  go_wp2_with fail
  refine (hM _).mono ?_
  rintro e w1 ⟨rfl, hg, ho⟩
  have HH : Hid (w.grownBy w1 (Value.slice a n c').ownBlock ∧ w1.ownsRow B 98 2 (.slice a n c') n ((fl (mkP k0 n)).map (Value.int .i64))) := ⟨grown_trans (World.grownBy_alloc _ _ _) hg, ho⟩
  clear hM hg ho
  go_wp2
  go_ret
  exact ⟨rfl, HH.out⟩
set_option maxRecDepth 100000 in
set_option maxHeartbeats 1000000 in
theorem heldTrail_any (x : Bool) (k y : Int) (v : Value) (n k0 : Nat) (w : World) (hv : Prs w v (mkP k0 n)) (hx : n ≤ 1099511627776) (hk0 : k0 ≤ 1099511627776) :
    Calls Try.prog 66 #[.agg #[.bool x, .int .i64 k, .int .i64 y, v], .int .i64 k0] w fun e w' => e = .returned (.int .i64 ((k0 + n * 2 : Nat) : Int)) ∧ Below w.heap.size w w' := by
  have hH := fun o => heldForkS_any v n k0 _ (hv.below (one_new o)) hx hk0
  obtain ⟨a, c', rfl⟩ := hv.shape
  rw [mkP_len] at *
  have hs : ¬ ((k0 + n * 2 : Nat) : Int) < 0 := by omega
  generalize ((k0 + n * 2 : Nat) : Int) = z at *
  clear hv
  go_enter Try.func66, Try.ntmps66
  go_wp2_with fail
  refine (hH _).mono ?_
  rintro e w1 ⟨rfl, rfl⟩
  clear hH
  go_wp2
  go_ret
  exact ⟨rfl, one_new _⟩
set_option maxRecDepth 100000 in
set_option maxHeartbeats 1000000 in
theorem heldTrailResult_any (q : Int) (x : Bool) (k y : Int) (v : Value) (n k0 : Nat) (w : World) (hv : Prs w v (mkP k0 n)) (hx : n ≤ 1099511627776) (hk0 : k0 ≤ 1099511627776) :
    Calls Try.prog 37 #[.agg #[.int .i64 q, .bool x, .int .i64 k, .int .i64 y, v], .int .i64 k0] w fun e w' => e = .returned (.int .i64 ((k0 + n * 2 : Nat) : Int)) ∧ Below w.heap.size w w' := by
  have hH := fun o => heldTrail_any x k y v n k0 _ (hv.below (one_new o)) hx hk0
  obtain ⟨a, c', rfl⟩ := hv.shape
  rw [mkP_len] at *
  have hs : ¬ ((k0 + n * 2 : Nat) : Int) < 0 := by omega
  generalize ((k0 + n * 2 : Nat) : Int) = z at *
  clear hv
  go_enter Try.func37, Try.ntmps37
  go_wp2_with fail
  refine (hH _).mono ?_
  rintro e w1 ⟨rfl, hb1⟩
  clear hH
  go_wp2
  go_ret
  exact ⟨rfl, below_after_of (one_new _) hb1⟩
end U
end Go.Proofs.Ytonadfpblgmohaa
