/- A directory's records, marked, and looked at anew. -/
import Derived.Test.YtcdodpcdennemaaDrK
import Derived.Test.YtcdodpcdennemaaSlR
namespace Go.Proofs.Ytcdodpcdennemaa
open Go.RowKit
namespace U
theorem grown_of_below {w w' : World} {N : Nat} (h : Below N w w') (hN : w.heap.size ≤ N) (row : Option Nat) : w.grownBy w' row := ⟨h.os, h.tape, h.output, h.size, fun i hi _ => h.block i (Nat.lt_of_lt_of_le hi hN)⟩
/-- A record of marks. -/
def mkR1 (k : Nat) : Rc := ⟨mkT k, ((k + 1 : Nat) : Int), ((k + 2 : Nat) : Int), ((k + 3 : Nat) : Int)⟩
def mkR (k n : Nat) : Rcl := (List.range n).map fun j => mkR1 (k + j * 4)
theorem mkR_len (k n : Nat) : (mkR k n).length = n := by simp [mkR]
theorem mkR_at (k n j : Nat) (h : j < n) : rAt (mkR k n) j = mkR1 (k + j * 4) := by
  rw [rAt_eq (by rw [mkR_len]; exact h)]
  simp [mkR]
/-- The first records marked. -/
def mkd (l : Rcl) (k0 : Nat) (k : Nat) : Rcl := mkR k0 k ++ l.drop k
theorem mkd_len (l : Rcl) (k0 : Nat) {k : Nat} (h : k ≤ l.length) : (mkd l k0 k).length = l.length := by unfold mkd; rw [List.length_append, mkR_len, List.length_drop]; omega
theorem mkd_zero (l : Rcl) (k0 : Nat) : mkd l k0 0 = l := by unfold mkd; simp [mkR]
theorem mkd_all (l : Rcl) (k0 : Nat) : mkd l k0 l.length = mkR k0 l.length := by unfold mkd; simp
theorem mkd_set (l : Rcl) (k0 : Nat) {k : Nat} (h : k < l.length) : (mkd l k0 k).set k (mkR1 (k0 + k * 4)) = mkd l k0 (k + 1) := by
  have h1 : mkR k0 (k + 1) = mkR k0 k ++ [mkR1 (k0 + k * 4)] := by unfold mkR; rw [List.range_succ, List.map_append]; rfl
  unfold mkd
  rw [h1, List.set_append_right _ _ (by rw [mkR_len]; exact Nat.le_refl _), mkR_len, Nat.sub_self, List.append_assoc]
  congr 1
  rw [List.drop_eq_getElem_cons h]
  rfl
set_option maxRecDepth 100000 in
set_option maxHeartbeats 4000000 in
theorem markRecordS_any (B : Nat) (v : Value) (l : Rcl) (k0 : Nat) (w : World) (hown : w.ownsRow B 31 4 v l.length (flR l)) (hx : l.length ≤ 1048576) (hk0 : 0 < k0 ∧ k0 ≤ 1099511627776) :
    Calls Try.prog 174 #[v, .int .i64 k0] w fun e w' => e = .returned (.int .i64 ((k0 + l.length * 4 : Nat) : Int)) ∧ w.grownBy w' v.ownBlock ∧ w'.ownsRow B 31 4 v l.length (flR (mkR k0 l.length)) := by
  by_cases h0 : l.length = 0
  · have e1 : l = [] := List.eq_nil_of_length_eq_zero h0
    subst e1
    obtain ⟨a, c, rfl⟩ : ∃ a c, v = .slice a 0 c := by
      rcases hown.2 with ⟨rfl, hn⟩ | ⟨g, cap, cur, rfl, _⟩
      · exact ⟨none, 0, rfl⟩
      · exact ⟨_, _, rfl⟩
    simp only [List.length_nil] at *
    go_enter Try.func174, Try.ntmps174
    go_wp2
    refine wp_loop_rounds 1 ?_; rw [rounds_succ]
    go_wp2
    go_ret
    exact ⟨rfl, World.grownBy.refl _ _, hown⟩
  · rcases hown.2 with ⟨_, h⟩ | ⟨g, cap, cur, rfl, hB, hg, _⟩
    · exact absurd h h0
    have hgs : g < w.heap.size := (Array.getElem?_eq_some_iff.1 hg).1
    clear hg hB
    obtain ⟨n, hn⟩ : ∃ n, n = l.length := ⟨_, rfl⟩
    have HN : Hid (n = l.length) := hn
    rw [← hn] at hown hx h0 ⊢
    have HA : Hid (mkd l k0 n = mkR k0 n) := (by rw [hn]; exact mkd_all l k0 : mkd l k0 n = mkR k0 n)
    clear hn h0
    go_enter Try.func174, Try.ntmps174
    go_wp2
    go_loopw [1, 5] (fun k i wr => ∃ j : Nat, j ≤ n ∧ i = .int .i64 j ∧ k = .int .i64 ((k0 + j * 4 : Nat) : Int) ∧ Hid (w.grownBy wr (some g)) ∧ Hid (wr.ownsRow B 31 4 (.slice (some ⟨g, 0, none⟩) n cap) n (flR (mkd l k0 j)))) (fun _ i _ => n - (intOf i).toNat)
    case atStart => exact ⟨0, Nat.zero_le _, rfl, by simp, World.grownBy.refl _ _, by rw [mkd_zero]; exact hown⟩
    case round =>
      obtain ⟨j, hj, rfl, rfl, hgr, ho⟩ := hrel
      by_cases hjn : j < n
      · have hji : (j : Int) < (n : Int) := by omega
        have hM := fun w => markText_any (k0 + j * 4) w (by omega) (by omega)
        have hts : ((((flR (mkd l k0 j)).set (j * 4) (.string (mkT (k0 + j * 4)))).set (j * 4 + 1) (.int .i64 ((k0 + j * 4 + 1 : Nat) : Int))).set (j * 4 + 2) (.int .i64 ((k0 + j * 4 + 2 : Nat) : Int))).set (j * 4 + 3) (.int .i64 ((k0 + j * 4 + 3 : Nat) : Int)) = flR (mkd l k0 (j + 1)) := by
          have := HN.out
          rw [← mkd_set l k0 (by omega), flR_set _ _ j (by rw [mkd_len l k0 (by omega)]; omega)]
          rfl
        have HQ : Hid (k0 + (j + 1) * 4 = k0 + j * 4 + 4) := (by omega : k0 + (j + 1) * 4 = k0 + j * 4 + 4)
        generalize mkT (k0 + j * 4) = t at *
        have hqb : k0 + j * 4 ≤ 1099515822080 := by omega
        generalize k0 + j * 4 = q at *
        have HT : Hid (((((flR (mkd l k0 j)).set (j * 4) (.string t)).set (j * 4 + 1) (.int .i64 ((q : Int) + 1))).set (j * 4 + 2) (.int .i64 ((q : Int) + 1 + 1))).set (j * 4 + 3) (.int .i64 ((q : Int) + 1 + 1 + 1)) = flR (mkd l k0 (j + 1))) := hts
        have hgw : g < wr.heap.size := Nat.lt_of_lt_of_le hgs hgr.out.size
        clear hts hown
        go_wp2_with fail
        refine (hM _).mono ?_
        rintro e w2 ⟨rfl, hb2⟩
        have ho2 := own_below ho.out hb2
        have f0 := ho2.frozenAt (j * 4)
        have f1 := ho2.frozenAt (j * 4 + 1)
        have f2 := ho2.frozenAt (j * 4 + 2)
        have f3 := ho2.frozenAt (j * 4 + 3)
        obtain ⟨z0, g0⟩ := own_some4 ho2 (j := j * 4) (by omega)
        obtain ⟨z1, g1⟩ := own_some4 ho2 (j := j * 4 + 1) (by omega)
        obtain ⟨z2, g2⟩ := own_some4 ho2 (j := j * 4 + 2) (by omega)
        obtain ⟨z3, g3⟩ := own_some4 ho2 (j := j * 4 + 3) (by omega)
        obtain ⟨s1, r1⟩ := ho2.stored (j * 4) (.string t)
        obtain ⟨s2, r2⟩ := s1.stored (j * 4 + 1) (.int .i64 ((q : Int) + 1))
        obtain ⟨s3, r3⟩ := s2.stored (j * 4 + 2) (.int .i64 ((q : Int) + 1 + 1))
        obtain ⟨s4, r4⟩ := s3.stored (j * 4 + 3) (.int .i64 ((q : Int) + 1 + 1 + 1))
        have s5 := grown_trans (grown_trans (grown_trans (grown_trans (grown_trans hgr.out (grown_of_below hb2 (Nat.le_refl _) _)) r1) r2) r3) r4
        rw [HT.out] at s4
        have HS4 : Hid (((((w2.setCell ⟨g, j * 4, none⟩ (.string t)).setCell ⟨g, j * 4 + 1, none⟩ (.int .i64 ((q : Int) + 1))).setCell ⟨g, j * 4 + 2, none⟩ (.int .i64 ((q : Int) + 1 + 1))).setCell ⟨g, j * 4 + 3, none⟩ (.int .i64 ((q : Int) + 1 + 1 + 1))).ownsRow B 31 4 (.slice (some ⟨g, 0, none⟩) n cap) n (flR (mkd l k0 (j + 1)))) := s4
        have HS5 : Hid (w.grownBy ((((w2.setCell ⟨g, j * 4, none⟩ (.string t)).setCell ⟨g, j * 4 + 1, none⟩ (.int .i64 ((q : Int) + 1))).setCell ⟨g, j * 4 + 2, none⟩ (.int .i64 ((q : Int) + 1 + 1))).setCell ⟨g, j * 4 + 3, none⟩ (.int .i64 ((q : Int) + 1 + 1 + 1))) (some g)) := s5
        have hg2 : g < w2.heap.size := Nat.lt_of_lt_of_le hgw hb2.size
        clear ho2 s1 s2 s3 s4 s5 r1 r2 r3 r4 hb2 hM
        go_wp2
        go_roundw
        case rel => exact ⟨j + 1, by omega, by go_num, by rw [HQ.out]; congr 1, HS5, HS4⟩
        case measure => simp [intOf]; omega
      · have hjn : j = n := by omega
        subst hjn
        rw [HA.out] at ho
        go_wp2
        go_ret
        exact ⟨rfl, hgr.out, ho.out⟩
set_option maxRecDepth 100000 in
set_option maxHeartbeats 4000000 in
theorem heldRecordS_any (v : Value) (n k0 : Nat) (w : World) (hv : Rcs w v (mkR k0 n)) (hx : n ≤ 1048576) (hk0 : 0 < k0 ∧ k0 ≤ 1099511627776) :
    Calls Try.prog 175 #[v, .int .i64 k0] w fun e w' => e = .returned (.int .i64 ((k0 + n * 4 : Nat) : Int)) ∧ Below w.heap.size w w' := by
  obtain ⟨a, c, rfl⟩ := hv.shape
  by_cases h0 : n = 0
  · subst h0
    simp only [mkR_len]
    clear hv
    go_enter Try.func175, Try.ntmps175
    go_wp2
    refine wp_loop_rounds 1 ?_; rw [rounds_succ]
    go_wp2
    go_ret
    exact ⟨rfl, Below.refl _ _⟩
  · obtain ⟨_, b, off, rfl, hb, hc⟩ := hv.at (by rw [mkR_len]; omega)
    have HC : Hid (∀ j, j < n → RecS w b (off + j * 4) (mkR1 (k0 + j * 4))) := fun j hj => by
      have h1 := hc j (by rw [mkR_len]; exact hj)
      rw [mkR_at _ _ _ hj] at h1
      exact h1
    rw [mkR_len]
    clear hv hc h0
    go_enter Try.func175, Try.ntmps175
    go_wp2
    go_loopw [1, 5] (fun k i wr => ∃ j : Nat, j ≤ n ∧ i = .int .i64 j ∧ k = .int .i64 ((k0 + j * 4 : Nat) : Int) ∧ Hid (Below w.heap.size w wr)) (fun _ i _ => n - (intOf i).toNat)
    case atStart => exact ⟨0, Nat.zero_le _, rfl, by simp, Below.refl _ _⟩
    case round =>
      obtain ⟨j, hj, rfl, rfl, hB⟩ := hrel
      by_cases hjn : j < n
      · have hji : (j : Int) < (n : Int) := by omega
        have hr := HC.out j hjn
        have hM := fun w => markText_any (k0 + j * 4) w (by omega) (by omega)
        have HR : Hid (∀ w', Below w.heap.size w w' → w'.cell? ⟨b, off + j * 4, none⟩ = some (.string (mkT (k0 + j * 4))) ∧ w'.cell? ⟨b, off + j * 4 + 1, none⟩ = some (.int .i64 (((k0 + j * 4 : Nat) : Int) + 1)) ∧ w'.cell? ⟨b, off + j * 4 + 2, none⟩ = some (.int .i64 (((k0 + j * 4 : Nat) : Int) + 1 + 1)) ∧ w'.cell? ⟨b, off + j * 4 + 3, none⟩ = some (.int .i64 (((k0 + j * 4 : Nat) : Int) + 1 + 1 + 1))) := fun w' h => ⟨(hr.below h hb).c0, (hr.below h hb).c1, (hr.below h hb).c2, (hr.below h hb).c3⟩
        have HQ : Hid (((k0 + j * 4 : Nat) : Int) + 1 + 1 + 1 + 1 = ((k0 + (j + 1) * 4 : Nat) : Int)) := (by omega : ((k0 + j * 4 : Nat) : Int) + 1 + 1 + 1 + 1 = ((k0 + (j + 1) * 4 : Nat) : Int))
        have hqb : k0 + j * 4 ≤ 1099515822080 := by omega
        generalize mkT (k0 + j * 4) = t at *
        generalize k0 + j * 4 = q at *
        obtain ⟨d0, -, -, -⟩ := HR.out _ hB.out
        have q0 := After.cell d0
        have hne := After.ne wr
        have htt : (t.toList == t.toList) = true := by simp
        have hbw : b < wr.heap.size := Nat.lt_of_lt_of_le hb hB.out.size
        clear hr d0
        go_wp2_with fail
        refine wp_region_after (by kernel_rfl) (by kernel_rfl) ?_
        repeat (first | go_big_quiet_skip | (go_big_quiet_want; go_big_quiet_op; first | go_big_quiet_on | go_big_quiet_call (first | (go_at_call 188; refine (hM _).mono ?_; rintro e wq ⟨rfl, hbq⟩; exact ⟨rfl, after_mk (below_after_of (After.b _) hbq)⟩))))
        refine wpQuiet_nil ?_
        rintro _ ⟨n6, rfl⟩
        have HB6 : Hid (Below w.heap.size w n6.w) := below_after_of hB.out n6.b
        generalize n6.w = w6 at *
        obtain ⟨d0, d1, d2, d3⟩ := HR.out _ HB6.out
        have hnn := hne_all
        clear hne q0 n6 hM HR
        go_wp2
        go_roundw
        case rel => exact ⟨j + 1, by omega, by go_num, by rw [← HQ.out], HB6⟩
        case measure => simp [intOf]; omega
      · have hjn : j = n := by omega
        subst hjn
        go_wp2
        go_ret
        exact ⟨rfl, hB.out⟩
set_option maxRecDepth 100000 in
set_option maxHeartbeats 1000000 in
theorem markDirectory_any (B : Nat) (v : Value) (l : Rcl) (k0 : Nat) (w : World) (hown : w.ownsRow B 31 4 v l.length (flR l)) (hx : l.length ≤ 1048576) (hk0 : 0 < k0 ∧ k0 ≤ 1099511627776) :
    Calls Try.prog 140 #[.agg #[v], .int .i64 k0] w fun e w' => e = .returned (.int .i64 ((k0 + l.length * 4 : Nat) : Int)) ∧ w.grownBy w' v.ownBlock ∧ w'.ownsRow B 31 4 v l.length (flR (mkR k0 l.length)) := by
  have hM := fun o => markRecordS_any B v l k0 _ (hown.alloc o) hx hk0
  obtain ⟨a, c', rfl⟩ : ∃ a c, v = .slice a l.length c := by
    rcases hown.2 with ⟨rfl, hn⟩ | ⟨g, cap, cur, rfl, _⟩
    · exact ⟨none, 0, by rw [hn]⟩
    · exact ⟨_, _, rfl⟩
  generalize l.length = n at *
  clear hown
  go_enter Try.func140, Try.ntmps140
  go_wp2_with fail
  refine (hM _).mono ?_
  rintro e w1 ⟨rfl, hg, ho⟩
  have HH : Hid (w.grownBy w1 (Value.slice a n c').ownBlock ∧ w1.ownsRow B 31 4 (.slice a n c') n (flR (mkR k0 n))) := ⟨grown_trans (World.grownBy_alloc _ _ _) hg, ho⟩
  clear hM hg ho
  go_wp2
  go_ret
  exact ⟨rfl, HH.out⟩
/-- A box of one cell. -/
def One (w : World) (b : Nat) (x : Value) : Prop := b < w.heap.size ∧ w.cell? ⟨b, 0, none⟩ = some x
theorem One.below {w w' : World} {b : Nat} {x : Value} (h : One w b x) (hb : Below w.heap.size w w') : One w' b x := ⟨Nat.lt_of_lt_of_le h.1 hb.size, (hb.cell (p := ⟨b, 0, none⟩) h.1).trans h.2⟩
theorem One.grown {w w' : World} {b : Nat} {x : Value} {row : Option Nat} (h : One w b x) (hg : w.grownBy w' row) (hne : some b ≠ row) : One w' b x := ⟨Nat.lt_of_lt_of_le h.1 hg.size, hg.cell h.2 hne⟩
theorem One.new (w : World) (x : Value) (t : TypeId) : One (w.alloc (.cells #[x] t)) w.heap.size x := ⟨by simp, one_cellV (heap_alloc_new w _)⟩
end U
end Go.Proofs.Ytcdodpcdennemaa
