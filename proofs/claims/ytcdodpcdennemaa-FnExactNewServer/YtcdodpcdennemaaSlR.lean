/- Answers of a code and slots: compared, marked and looked at anew. -/
import Derived.Test.YtcdodpcdennemaaSlL
import Derived.Test.YtcdodpcdennemaaOwn
import Derived.Test.YtcdodpcdennemaaPairs
namespace Go.Proofs.Ytcdodpcdennemaa
open Go.RowKit
namespace U
def mkP (k n : Nat) : Prl := (List.range n).map fun j => (((k + j * 2 : Nat) : Int), ((k + (j * 2 + 1) : Nat) : Int))
theorem mkP_len (k n : Nat) : (mkP k n).length = n := by simp [mkP]
theorem mkP_at (k n j : Nat) (h : j < n) : pAt (mkP k n) j = (((k + j * 2 : Nat) : Int), ((k + (j * 2 + 1) : Nat) : Int)) := by
  rw [pAt_eq (by rw [mkP_len]; exact h)]
  simp [mkP]
theorem fl_mkP (k n : Nat) : fl (mkP k n) = marks k (n * 2) := by
  apply List.ext_getElem?
  intro i
  by_cases h : i < n * 2
  · have h1 := fl_at (mkP k n) (i / 2) (by rw [mkP_len]; omega)
    rw [mkP_at k n (i / 2) (by omega)] at h1
    have e : (marks k (n * 2))[i]? = some ((k + i : Nat) : Int) := by simp [marks, h]
    rw [e]
    rcases (by omega : i = i / 2 * 2 ∨ i = i / 2 * 2 + 1) with hh | hh
    · rw [hh, h1.1]
    · rw [hh, h1.2]
  · rw [List.getElem?_eq_none (by rw [fl_len, mkP_len]; omega), List.getElem?_eq_none (by rw [marks_len]; omega)]
theorem Prs.grown {w w' : World} {v : Value} {l : Prl} {row : Option Nat} (h : Prs w v l) (hg : w.grownBy w' row) (hne : v.ownBlock = none ∨ v.ownBlock ≠ row) : Prs w' v l := by
  rcases h with h | ⟨b, off, c, rfl, hlt, hc⟩
  · exact Or.inl h
  · have hnb : some b ≠ row := by
      rcases hne with hh | hh
      · simp [Value.ownBlock] at hh
      · exact hh
    exact Or.inr ⟨b, off, c, rfl, Nat.lt_of_lt_of_le hlt hg.size, fun j hj => ⟨hg.cell (hc j hj).1 hnb, hg.cell (hc j hj).2 hnb⟩⟩
theorem own_prs_n {w : World} {B n : Nat} {e : TypeId} {v : Value} {l : Prl} (HN : n = l.length) (h : w.ownsRow B e 2 v n ((fl l).map (Value.int .i64))) : Prs w v l := by
  subst HN; exact own_prs h
set_option maxRecDepth 100000 in
set_option maxHeartbeats 1000000 in
theorem markSlotS_any (B : Nat) (v : Value) (l : Prl) (k0 : Nat) (w : World) (hown : w.ownsRow B 88 2 v l.length ((fl l).map (Value.int .i64))) (hx : l.length ≤ 1099511627776) (hk0 : k0 ≤ 1099511627776) :
    Calls Try.prog 141 #[v, .int .i64 k0] w fun e w' => e = .returned (.int .i64 ((k0 + l.length * 2 : Nat) : Int)) ∧ w.grownBy w' v.ownBlock ∧ w'.ownsRow B 88 2 v l.length ((fl (mkP k0 l.length)).map (Value.int .i64)) := by
  by_cases h0 : l.length = 0
  · have e1 : l = [] := List.eq_nil_of_length_eq_zero h0
    subst e1
    obtain ⟨a, c, rfl⟩ : ∃ a c, v = .slice a 0 c := by
      rcases hown.2 with ⟨rfl, hn⟩ | ⟨g, cap, cur, rfl, _⟩
      · exact ⟨none, 0, rfl⟩
      · exact ⟨_, _, rfl⟩
    simp only [List.length_nil] at *
    go_enter Try.func141, Try.ntmps141
    go_wp2
    refine wp_loop_rounds 1 ?_; rw [rounds_succ]
    go_wp2
    go_ret
    exact ⟨rfl, World.grownBy.refl _ _, hown⟩
  · rcases hown.2 with ⟨_, h⟩ | ⟨g, cap, cur, rfl, hB, hg, _⟩
    · exact absurd h h0
    have hgs : g < w.heap.size := (Array.getElem?_eq_some_iff.1 hg).1
    have hfl := fl_len l
    have hml : fl (mkP k0 l.length) = marks k0 (fl l).length := by rw [fl_mkP, hfl]
    rw [hml]
    clear hg hB hml
    obtain ⟨n, hn⟩ : ∃ n, n = l.length := ⟨_, rfl⟩
    have HN : Hid ((fl l).length = n * 2) := by show _ = _; rw [hn]; exact hfl
    rw [← hn] at hown hx h0 ⊢
    generalize fl l = xs at *
    clear hn h0 hfl
    go_enter Try.func141, Try.ntmps141
    go_wp2
    go_loopw [1, 5] (fun k i wr => ∃ j : Nat, j ≤ n ∧ i = .int .i64 j ∧ k = .int .i64 ((k0 + j * 2 : Nat) : Int) ∧ w.grownBy wr (some g) ∧ wr.ownsRow B 88 2 (.slice (some ⟨g, 0, none⟩) n cap) n ((half xs k0 (j * 2)).map (Value.int .i64))) (fun _ i _ => n - (intOf i).toNat)
    case atStart => exact ⟨0, Nat.zero_le _, rfl, by simp, World.grownBy.refl _ _, by rw [Nat.zero_mul, half_zero]; exact hown⟩
    case round =>
      obtain ⟨j, hj, rfl, rfl, hgr, ho⟩ := hrel
      by_cases hjn : j < n
      · have hji : (j : Int) < (n : Int) := by omega
        have f0 := ho.frozenAt (j * 2)
        have f1 := ho.frozenAt (j * 2 + 1)
        obtain ⟨x, c0⟩ := own_some2 ho (j := j * 2) (by omega)
        obtain ⟨y, c1⟩ := own_some2 ho (j := j * 2 + 1) (by omega)
        obtain ⟨s1, s2⟩ := ho.stored (j * 2) (.int .i64 ((k0 + j * 2 : Nat) : Int))
        obtain ⟨s3, s4⟩ := s1.stored (j * 2 + 1) (.int .i64 ((k0 + (j * 2 + 1) : Nat) : Int))
        have s5 := grown_trans (grown_trans hgr s2) s4
        rw [← List.map_set, half_set xs k0 (j * 2) (by have := HN.out; omega), ← List.map_set, half_set xs k0 (j * 2 + 1) (by have := HN.out; omega)] at s3
        have e5 : (((k0 + j * 2 : Nat) : Int) + 1) = ((k0 + (j * 2 + 1) : Nat) : Int) := by omega
        have H3 : Hid (((wr.setCell ⟨g, j * 2, none⟩ (.int .i64 ((k0 + j * 2 : Nat) : Int))).setCell ⟨g, j * 2 + 1, none⟩ (.int .i64 ((k0 + (j * 2 + 1) : Nat) : Int))).ownsRow B 88 2 (.slice (some ⟨g, 0, none⟩) n cap) n ((half xs k0 (j * 2 + 1 + 1)).map (Value.int .i64)) ∧ w.grownBy ((wr.setCell ⟨g, j * 2, none⟩ (.int .i64 ((k0 + j * 2 : Nat) : Int))).setCell ⟨g, j * 2 + 1, none⟩ (.int .i64 ((k0 + (j * 2 + 1) : Nat) : Int))) (some g)) := ⟨s3, s5⟩
        rw [← e5] at H3
        clear ho hown hgr s1 s2 s3 s4 s5 e5
        go_wp2
        go_roundw
        case rel =>
          exact ⟨j + 1, by omega, by go_num, by go_num, by simpa using H3.out.2, by rw [show (j + 1) * 2 = j * 2 + 1 + 1 by omega]; simpa using H3.out.1⟩
        case measure => simp [intOf]; omega
      · have hjn : j = n := by omega
        subst hjn
        rw [← HN.out, half_all] at ho
        go_wp2
        go_ret
        exact ⟨rfl, hgr, ho⟩
set_option maxRecDepth 100000 in
set_option maxHeartbeats 1000000 in
theorem heldSlotS_any (v : Value) (n k0 : Nat) (w : World) (hv : Prs w v (mkP k0 n)) (hx : n ≤ 1099511627776) (hk0 : k0 ≤ 1099511627776) :
    Calls Try.prog 145 #[v, .int .i64 k0] w fun e w' => e = .returned (.int .i64 ((k0 + n * 2 : Nat) : Int)) ∧ w' = w := by
  obtain ⟨a, c, rfl⟩ := hv.shape
  by_cases h0 : n = 0
  · subst h0
    simp only [mkP_len]
    clear hv
    go_enter Try.func145, Try.ntmps145
    go_wp2
    refine wp_loop_rounds 1 ?_; rw [rounds_succ]
    go_wp2
    go_ret
    exact ⟨rfl, rfl⟩
  · obtain ⟨_, b, off, rfl, hb, hc⟩ := hv.at (by rw [mkP_len]; omega)
    have hcm : ∀ j, j < n → w.cell? ⟨b, off + j * 2, none⟩ = some (.int .i64 ((k0 + j * 2 : Nat) : Int)) ∧ w.cell? ⟨b, off + j * 2 + 1, none⟩ = some (.int .i64 (((k0 + j * 2 : Nat) : Int) + 1)) := fun j hj => by
      have h1 := hc j (by rw [mkP_len]; exact hj)
      rw [mkP_at _ _ _ hj] at h1
      refine ⟨h1.1, h1.2.trans ?_⟩
      congr 2
    rw [mkP_len]
    clear hv hc h0
    go_enter Try.func145, Try.ntmps145
    go_wp2
    go_loop [1, 5] (fun k i => ∃ j : Nat, j ≤ n ∧ i = .int .i64 j ∧ k = .int .i64 ((k0 + j * 2 : Nat) : Int)) (fun _ i => n - (intOf i).toNat)
    case atStart => exact ⟨0, Nat.zero_le _, rfl, by simp⟩
    case round =>
      obtain ⟨j, hj, rfl, rfl⟩ := hrel
      by_cases hjn : j < n
      · have hji : (j : Int) < (n : Int) := by omega
        obtain ⟨c0, c1⟩ := hcm j hjn
        have HQ : Hid (((k0 + j * 2 : Nat) : Int) + 1 + 1 = ((k0 + (j + 1) * 2 : Nat) : Int)) := by show _ = _; omega
        have hq : (k0 + j * 2 : Nat) ≤ 4398046511104 := by omega
        generalize k0 + j * 2 = q at *
        clear hcm
        go_wp2
        go_round
        case rel => exact ⟨j + 1, by omega, by go_num, by rw [← HQ.out]⟩
        case measure => simp [intOf]; omega
      · have hjn : j = n := by omega
        subst hjn
        clear hcm
        go_wp2
        go_ret
        exact ⟨rfl, rfl⟩
end U
end Go.Proofs.Ytcdodpcdennemaa
