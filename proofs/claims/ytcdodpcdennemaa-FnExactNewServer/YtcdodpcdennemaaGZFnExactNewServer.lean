/- Joined: what the texts behind it need. -/
import Derived.Test.YtcdodpcdennemaaDrE
import Derived.Test.YtcdodpcdennemaaFold0
import Derived.Test.YtcdodpcdennemaaOwn
import Derived.Test.YtcdodpcdennemaaSlL
import Derived.Test.YtcdodpcdennemaaPairs
import Derived.Test.YtcdodpcdennemaaStO
import Derived.Test.YtcdodpcdennemaaStT
import Derived.Test.YtcdodpcdennemaaHdT
import Derived.Test.YtcdodpcdennemaaStS
import Derived.Test.YtcdodpcdennemaaRows
import Derived.WalkKit
import Derived.ProofKit
import Derived.OpenShut
import Derived.ShutString
import Derived.WalkSmall
/- Marks in a directory's records, and how they are looked at anew. -/
namespace Go.Proofs.Ytcdodpcdennemaa
open Go.RowKit
namespace U
def digB (d : Nat) : ByteArray := ⟨#[UInt8.ofNat (48 + d)]⟩
theorem bt_digB {d : Nat} (h : d < 10) : bt (digB d) 0 = ((48 + d : Nat) : Int) := by
  rcases (by omega : d = 0 ∨ d = 1 ∨ d = 2 ∨ d = 3 ∨ d = 4 ∨ d = 5 ∨ d = 6 ∨ d = 7 ∨ d = 8 ∨ d = 9) with rfl | rfl | rfl | rfl | rfl | rfl | rfl | rfl | rfl | rfl <;> rfl
def mtL : Nat → Nat → ByteArray → ByteArray
  | 0, _, out => out
  | f + 1, k, out => if k = 0 then out else mtL f (k / 10) (digB (k % 10) ++ out)
theorem mtL_zero (f : Nat) (out : ByteArray) : mtL f 0 out = out := by cases f <;> rfl
theorem mtL_st : ∀ (f g k : Nat) (out : ByteArray), k ≤ f → k ≤ g → mtL f k out = mtL g k out
  | 0, g, k, out, h, _ => by
    have e : k = 0 := by omega
    subst e
    rw [mtL_zero, mtL_zero]
  | f + 1, g, k, out, h1, h2 => by
    by_cases e : k = 0
    · subst e; rw [mtL_zero, mtL_zero]
    · obtain ⟨g', rfl⟩ : ∃ g', g = g' + 1 := ⟨g - 1, by omega⟩
      rw [mtL, mtL, if_neg e, if_neg e]
      exact mtL_st f g' (k / 10) _ (by omega) (by omega)
theorem mtL_step {k : Nat} {out : ByteArray} (h : ¬ k = 0) : mtL k k out = mtL (k / 10) (k / 10) (digB (k % 10) ++ out) := by
  obtain ⟨f, hf⟩ : ∃ f, k = f + 1 := ⟨k - 1, by omega⟩
  have e : mtL (f + 1) k out = mtL f (k / 10) (digB (k % 10) ++ out) := by rw [mtL, if_neg h]
  rw [← hf] at e
  rw [e]
  exact mtL_st _ _ _ _ (by omega) (Nat.le_refl _)
/-- The mark of a number, as a text. -/
def mkT (k : Nat) : ByteArray := ⟨#[109]⟩ ++ mtL k k ⟨#[]⟩
theorem conv_dig (w : World) (d : Nat) (h : d < 10) : (convert 27 9 (.slice (some ⟨w.heap.size, 0, none⟩) 1 1)).run Try.prog (w.alloc (.cells #[.int .u8 (48 + (d : Int))] 5)) = .ok (.string (digB d)) (w.alloc (.cells #[.int .u8 (48 + (d : Int))] 5)) := by
  refine conv_back (P := Try.prog) _ 27 9 5 w.heap.size 0 1 (digB d) Try.underlying27 Try.underlying5 Try.underlying9 (fun j hj => ?_)
  have hj1 : j < 1 := hj
  obtain rfl : j = 0 := by omega
  rw [bt_digB h, show ((48 + d : Nat) : Int) = 48 + (d : Int) by omega]
  unfold World.cell?
  rw [heap_alloc_new]
  rfl
set_option maxRecDepth 100000 in
set_option maxHeartbeats 1000000 in
theorem markText_any (k : Nat) (w : World) (h0 : 0 < k) (hk : k ≤ 4398046511104) : Calls Try.prog 188 #[.int .i64 (k : Int)] w fun e w' => e = .returned (.string (mkT k)) ∧ Below w.heap.size w w' := by
  obtain ⟨T, hT⟩ : ∃ T, T = mtL k k ⟨#[]⟩ := ⟨_, rfl⟩
  have HT : Hid (mtL k k ⟨#[]⟩ = T) := hT.symm
  unfold mkT
  rw [← hT]
  have hn : ¬ ((k : Int) ≤ 0) := by omega
  clear hT
  go_enter Try.func188, Try.ntmps188
  go_wp2
  go_loopw [0, 3] (fun a u wr => ∃ (j : Nat) (out : ByteArray), out.size + j ≤ k ∧ a = .int .i64 (j : Int) ∧ u = .string out ∧ Hid (mtL j j out = T) ∧ Hid (Below w.heap.size w wr)) (fun a _ _ => (intOf a).toNat)
  case atStart => exact ⟨k, ⟨#[]⟩, by show 0 + k ≤ k; omega, rfl, rfl, HT, Below.refl _ _⟩
  case round =>
    obtain ⟨j, out, hj, rfl, rfl, HM, hB⟩ := hrel
    by_cases hj0 : j = 0
    · subst hj0
      have e : Hid (out = T) := (by rw [← HM.out]; rfl : out = T)
      have hso : ¬ 9223372036854775807 < (⟨#[109]⟩ : ByteArray).size + out.size := by show ¬ 9223372036854775807 < 1 + out.size; omega
      have hso2 : ¬ 9223372036854775807 < 1 + out.size := by omega
      go_wp2
      go_ret
      exact ⟨by rw [e.out]; rfl, hB.out⟩
    · have hjp : ((j : Int) > 0) := by omega
      have HM2 : Hid (mtL (j / 10) (j / 10) (digB (j % 10) ++ out) = T) := (by rw [← mtL_step hj0]; exact HM.out : mtL (j / 10) (j / 10) (digB (j % 10) ++ out) = T)
      have hr : (j : Int).tmod 10 = ((j % 10 : Nat) : Int) := by rw [Int.tmod_eq_emod_of_nonneg (by omega)]; rfl
      have hq : (j : Int).tdiv 10 = ((j / 10 : Nat) : Int) := by rw [Int.tdiv_eq_ediv_of_nonneg (by omega)]; rfl
      have hd := fun w => conv_dig w (j % 10) (by omega)
      have hd10 : j % 10 < 10 := by omega
      have hq10 : j / 10 < j := by omega
      generalize j % 10 = d at *
      generalize j / 10 = q at *
      have hsd : (digB d).size = 1 := rfl
      have hso : ¬ 9223372036854775807 < (digB d).size + out.size := by rw [hsd]; omega
      have hsz : (digB d ++ out).size + q ≤ k := by rw [ByteArray.size_append, hsd]; omega
      have HZ : Hid ((digB d ++ out).size + q ≤ k) := hsz
      clear hsd hsz
      go_wp2
      go_roundw
      case rel => exact ⟨q, _, HZ.out, rfl, rfl, HM2, hB.out.alloc hB.out.size _⟩
      case measure => simp [intOf]; omega
end U
end Go.Proofs.Ytcdodpcdennemaa

/- Answers of a code and slots: compared, marked and looked at anew. -/
namespace Go.Proofs.Ytcdodpcdennemaa
open Go.RowKit
namespace U
def mkP (k n : Nat) : Prl := (List.range n).map fun j => (((k + j * 2 : Nat) : Int), ((k + (j * 2 + 1) : Nat) : Int))
theorem mkP_len (k n : Nat) : (mkP k n).length = n := by simp [mkP]
theorem mkP_at (k n j : Nat) (h : j < n) : pAt (mkP k n) j = (((k + j * 2 : Nat) : Int), ((k + (j * 2 + 1) : Nat) : Int)) := by
  rw [pAt_eq (by rw [mkP_len]; exact h)]
  simp [mkP]
theorem fl_mkP (k n : Nat) : fl (mkP k n) = marks k (n * 2) := by
  apply List.ext_getElem?
  intro i
  by_cases h : i < n * 2
  · have h1 := fl_at (mkP k n) (i / 2) (by rw [mkP_len]; omega)
    rw [mkP_at k n (i / 2) (by omega)] at h1
    have e : (marks k (n * 2))[i]? = some ((k + i : Nat) : Int) := by simp [marks, h]
    rw [e]
    rcases (by omega : i = i / 2 * 2 ∨ i = i / 2 * 2 + 1) with hh | hh
    · rw [hh, h1.1]
    · rw [hh, h1.2]
  · rw [List.getElem?_eq_none (by rw [fl_len, mkP_len]; omega), List.getElem?_eq_none (by rw [marks_len]; omega)]
theorem Prs.grown {w w' : World} {v : Value} {l : Prl} {row : Option Nat} (h : Prs w v l) (hg : w.grownBy w' row) (hne : v.ownBlock = none ∨ v.ownBlock ≠ row) : Prs w' v l := by
  rcases h with h | ⟨b, off, c, rfl, hlt, hc⟩
  · exact Or.inl h
  · have hnb : some b ≠ row := by
      rcases hne with hh | hh
      · simp [Value.ownBlock] at hh
      · exact hh
    exact Or.inr ⟨b, off, c, rfl, Nat.lt_of_lt_of_le hlt hg.size, fun j hj => ⟨hg.cell (hc j hj).1 hnb, hg.cell (hc j hj).2 hnb⟩⟩
theorem own_prs_n {w : World} {B n : Nat} {e : TypeId} {v : Value} {l : Prl} (HN : n = l.length) (h : w.ownsRow B e 2 v n ((fl l).map (Value.int .i64))) : Prs w v l := by
  subst HN; exact own_prs h
set_option maxRecDepth 100000 in
set_option maxHeartbeats 1000000 in
theorem markSlotS_any (B : Nat) (v : Value) (l : Prl) (k0 : Nat) (w : World) (hown : w.ownsRow B 88 2 v l.length ((fl l).map (Value.int .i64))) (hx : l.length ≤ 1099511627776) (hk0 : k0 ≤ 1099511627776) :
    Calls Try.prog 141 #[v, .int .i64 k0] w fun e w' => e = .returned (.int .i64 ((k0 + l.length * 2 : Nat) : Int)) ∧ w.grownBy w' v.ownBlock ∧ w'.ownsRow B 88 2 v l.length ((fl (mkP k0 l.length)).map (Value.int .i64)) := by
  by_cases h0 : l.length = 0
  · have e1 : l = [] := List.eq_nil_of_length_eq_zero h0
    subst e1
    obtain ⟨a, c, rfl⟩ : ∃ a c, v = .slice a 0 c := by
      rcases hown.2 with ⟨rfl, hn⟩ | ⟨g, cap, cur, rfl, _⟩
      · exact ⟨none, 0, rfl⟩
      · exact ⟨_, _, rfl⟩
    simp only [List.length_nil] at *
    go_enter Try.func141, Try.ntmps141
    go_wp2
    refine wp_loop_rounds 1 ?_; rw [rounds_succ]
    go_wp2
    go_ret
    exact ⟨rfl, World.grownBy.refl _ _, hown⟩
  · rcases hown.2 with ⟨_, h⟩ | ⟨g, cap, cur, rfl, hB, hg, _⟩
    · exact absurd h h0
    have hgs : g < w.heap.size := (Array.getElem?_eq_some_iff.1 hg).1
    have hfl := fl_len l
    have hml : fl (mkP k0 l.length) = marks k0 (fl l).length := by rw [fl_mkP, hfl]
    rw [hml]
    clear hg hB hml
    obtain ⟨n, hn⟩ : ∃ n, n = l.length := ⟨_, rfl⟩
    have HN : Hid ((fl l).length = n * 2) := by show _ = _; rw [hn]; exact hfl
    rw [← hn] at hown hx h0 ⊢
    generalize fl l = xs at *
    clear hn h0 hfl
    go_enter Try.func141, Try.ntmps141
    go_wp2
    go_loopw [1, 5] (fun k i wr => ∃ j : Nat, j ≤ n ∧ i = .int .i64 j ∧ k = .int .i64 ((k0 + j * 2 : Nat) : Int) ∧ w.grownBy wr (some g) ∧ wr.ownsRow B 88 2 (.slice (some ⟨g, 0, none⟩) n cap) n ((half xs k0 (j * 2)).map (Value.int .i64))) (fun _ i _ => n - (intOf i).toNat)
    case atStart => exact ⟨0, Nat.zero_le _, rfl, by simp, World.grownBy.refl _ _, by rw [Nat.zero_mul, half_zero]; exact hown⟩
    case round =>
      obtain ⟨j, hj, rfl, rfl, hgr, ho⟩ := hrel
      by_cases hjn : j < n
      · have hji : (j : Int) < (n : Int) := by omega
        have f0 := ho.frozenAt (j * 2)
        have f1 := ho.frozenAt (j * 2 + 1)
        obtain ⟨x, c0⟩ := own_some2 ho (j := j * 2) (by omega)
        obtain ⟨y, c1⟩ := own_some2 ho (j := j * 2 + 1) (by omega)
        obtain ⟨s1, s2⟩ := ho.stored (j * 2) (.int .i64 ((k0 + j * 2 : Nat) : Int))
        obtain ⟨s3, s4⟩ := s1.stored (j * 2 + 1) (.int .i64 ((k0 + (j * 2 + 1) : Nat) : Int))
        have s5 := grown_trans (grown_trans hgr s2) s4
        rw [← List.map_set, half_set xs k0 (j * 2) (by have := HN.out; omega), ← List.map_set, half_set xs k0 (j * 2 + 1) (by have := HN.out; omega)] at s3
        have e5 : (((k0 + j * 2 : Nat) : Int) + 1) = ((k0 + (j * 2 + 1) : Nat) : Int) := by omega
        have H3 : Hid (((wr.setCell ⟨g, j * 2, none⟩ (.int .i64 ((k0 + j * 2 : Nat) : Int))).setCell ⟨g, j * 2 + 1, none⟩ (.int .i64 ((k0 + (j * 2 + 1) : Nat) : Int))).ownsRow B 88 2 (.slice (some ⟨g, 0, none⟩) n cap) n ((half xs k0 (j * 2 + 1 + 1)).map (Value.int .i64)) ∧ w.grownBy ((wr.setCell ⟨g, j * 2, none⟩ (.int .i64 ((k0 + j * 2 : Nat) : Int))).setCell ⟨g, j * 2 + 1, none⟩ (.int .i64 ((k0 + (j * 2 + 1) : Nat) : Int))) (some g)) := ⟨s3, s5⟩
        rw [← e5] at H3
        clear ho hown hgr s1 s2 s3 s4 s5 e5
        go_wp2
        go_roundw
        case rel =>
          exact ⟨j + 1, by omega, by go_num, by go_num, by simpa using H3.out.2, by rw [show (j + 1) * 2 = j * 2 + 1 + 1 by omega]; simpa using H3.out.1⟩
        case measure => simp [intOf]; omega
      · have hjn : j = n := by omega
        subst hjn
        rw [← HN.out, half_all] at ho
        go_wp2
        go_ret
        exact ⟨rfl, hgr, ho⟩
set_option maxRecDepth 100000 in
set_option maxHeartbeats 1000000 in
theorem heldSlotS_any (v : Value) (n k0 : Nat) (w : World) (hv : Prs w v (mkP k0 n)) (hx : n ≤ 1099511627776) (hk0 : k0 ≤ 1099511627776) :
    Calls Try.prog 145 #[v, .int .i64 k0] w fun e w' => e = .returned (.int .i64 ((k0 + n * 2 : Nat) : Int)) ∧ w' = w := by
  obtain ⟨a, c, rfl⟩ := hv.shape
  by_cases h0 : n = 0
  · subst h0
    simp only [mkP_len]
    clear hv
    go_enter Try.func145, Try.ntmps145
    go_wp2
    refine wp_loop_rounds 1 ?_; rw [rounds_succ]
    go_wp2
    go_ret
    exact ⟨rfl, rfl⟩
  · obtain ⟨_, b, off, rfl, hb, hc⟩ := hv.at (by rw [mkP_len]; omega)
    have hcm : ∀ j, j < n → w.cell? ⟨b, off + j * 2, none⟩ = some (.int .i64 ((k0 + j * 2 : Nat) : Int)) ∧ w.cell? ⟨b, off + j * 2 + 1, none⟩ = some (.int .i64 (((k0 + j * 2 : Nat) : Int) + 1)) := fun j hj => by
      have h1 := hc j (by rw [mkP_len]; exact hj)
      rw [mkP_at _ _ _ hj] at h1
      refine ⟨h1.1, h1.2.trans ?_⟩
      congr 2
    rw [mkP_len]
    clear hv hc h0
    go_enter Try.func145, Try.ntmps145
    go_wp2
    go_loop [1, 5] (fun k i => ∃ j : Nat, j ≤ n ∧ i = .int .i64 j ∧ k = .int .i64 ((k0 + j * 2 : Nat) : Int)) (fun _ i => n - (intOf i).toNat)
    case atStart => exact ⟨0, Nat.zero_le _, rfl, by simp⟩
    case round =>
      obtain ⟨j, hj, rfl, rfl⟩ := hrel
      by_cases hjn : j < n
      · have hji : (j : Int) < (n : Int) := by omega
        obtain ⟨c0, c1⟩ := hcm j hjn
        have HQ : Hid (((k0 + j * 2 : Nat) : Int) + 1 + 1 = ((k0 + (j + 1) * 2 : Nat) : Int)) := by show _ = _; omega
        have hq : (k0 + j * 2 : Nat) ≤ 4398046511104 := by omega
        generalize k0 + j * 2 = q at *
        clear hcm
        go_wp2
        go_round
        case rel => exact ⟨j + 1, by omega, by go_num, by rw [← HQ.out]⟩
        case measure => simp [intOf]; omega
      · have hjn : j = n := by omega
        subst hjn
        clear hcm
        go_wp2
        go_ret
        exact ⟨rfl, rfl⟩
end U
end Go.Proofs.Ytcdodpcdennemaa

/- A directory's records, marked, and looked at anew. -/
namespace Go.Proofs.Ytcdodpcdennemaa
open Go.RowKit
namespace U
theorem grown_of_below {w w' : World} {N : Nat} (h : Below N w w') (hN : w.heap.size ≤ N) (row : Option Nat) : w.grownBy w' row := ⟨h.os, h.tape, h.output, h.size, fun i hi _ => h.block i (Nat.lt_of_lt_of_le hi hN)⟩
/-- A record of marks. -/
def mkR1 (k : Nat) : Rc := ⟨mkT k, ((k + 1 : Nat) : Int), ((k + 2 : Nat) : Int), ((k + 3 : Nat) : Int)⟩
def mkR (k n : Nat) : Rcl := (List.range n).map fun j => mkR1 (k + j * 4)
theorem mkR_len (k n : Nat) : (mkR k n).length = n := by simp [mkR]
theorem mkR_at (k n j : Nat) (h : j < n) : rAt (mkR k n) j = mkR1 (k + j * 4) := by
  rw [rAt_eq (by rw [mkR_len]; exact h)]
  simp [mkR]
/-- The first records marked. -/
def mkd (l : Rcl) (k0 : Nat) (k : Nat) : Rcl := mkR k0 k ++ l.drop k
theorem mkd_len (l : Rcl) (k0 : Nat) {k : Nat} (h : k ≤ l.length) : (mkd l k0 k).length = l.length := by unfold mkd; rw [List.length_append, mkR_len, List.length_drop]; omega
theorem mkd_zero (l : Rcl) (k0 : Nat) : mkd l k0 0 = l := by unfold mkd; simp [mkR]
theorem mkd_all (l : Rcl) (k0 : Nat) : mkd l k0 l.length = mkR k0 l.length := by unfold mkd; simp
theorem mkd_set (l : Rcl) (k0 : Nat) {k : Nat} (h : k < l.length) : (mkd l k0 k).set k (mkR1 (k0 + k * 4)) = mkd l k0 (k + 1) := by
  have h1 : mkR k0 (k + 1) = mkR k0 k ++ [mkR1 (k0 + k * 4)] := by unfold mkR; rw [List.range_succ, List.map_append]; rfl
  unfold mkd
  rw [h1, List.set_append_right _ _ (by rw [mkR_len]; exact Nat.le_refl _), mkR_len, Nat.sub_self, List.append_assoc]
  congr 1
  rw [List.drop_eq_getElem_cons h]
  rfl
set_option maxRecDepth 100000 in
set_option maxHeartbeats 4000000 in
theorem markRecordS_any (B : Nat) (v : Value) (l : Rcl) (k0 : Nat) (w : World) (hown : w.ownsRow B 31 4 v l.length (flR l)) (hx : l.length ≤ 1048576) (hk0 : 0 < k0 ∧ k0 ≤ 1099511627776) :
    Calls Try.prog 174 #[v, .int .i64 k0] w fun e w' => e = .returned (.int .i64 ((k0 + l.length * 4 : Nat) : Int)) ∧ w.grownBy w' v.ownBlock ∧ w'.ownsRow B 31 4 v l.length (flR (mkR k0 l.length)) := by
  by_cases h0 : l.length = 0
  · have e1 : l = [] := List.eq_nil_of_length_eq_zero h0
    subst e1
    obtain ⟨a, c, rfl⟩ : ∃ a c, v = .slice a 0 c := by
      rcases hown.2 with ⟨rfl, hn⟩ | ⟨g, cap, cur, rfl, _⟩
      · exact ⟨none, 0, rfl⟩
      · exact ⟨_, _, rfl⟩
    simp only [List.length_nil] at *
    go_enter Try.func174, Try.ntmps174
    go_wp2
    refine wp_loop_rounds 1 ?_; rw [rounds_succ]
    go_wp2
    go_ret
    exact ⟨rfl, World.grownBy.refl _ _, hown⟩
  · rcases hown.2 with ⟨_, h⟩ | ⟨g, cap, cur, rfl, hB, hg, _⟩
    · exact absurd h h0
    have hgs : g < w.heap.size := (Array.getElem?_eq_some_iff.1 hg).1
    clear hg hB
    obtain ⟨n, hn⟩ : ∃ n, n = l.length := ⟨_, rfl⟩
    have HN : Hid (n = l.length) := hn
    rw [← hn] at hown hx h0 ⊢
    have HA : Hid (mkd l k0 n = mkR k0 n) := (by rw [hn]; exact mkd_all l k0 : mkd l k0 n = mkR k0 n)
    clear hn h0
    go_enter Try.func174, Try.ntmps174
    go_wp2
    go_loopw [1, 5] (fun k i wr => ∃ j : Nat, j ≤ n ∧ i = .int .i64 j ∧ k = .int .i64 ((k0 + j * 4 : Nat) : Int) ∧ Hid (w.grownBy wr (some g)) ∧ Hid (wr.ownsRow B 31 4 (.slice (some ⟨g, 0, none⟩) n cap) n (flR (mkd l k0 j)))) (fun _ i _ => n - (intOf i).toNat)
    case atStart => exact ⟨0, Nat.zero_le _, rfl, by simp, World.grownBy.refl _ _, by rw [mkd_zero]; exact hown⟩
    case round =>
      obtain ⟨j, hj, rfl, rfl, hgr, ho⟩ := hrel
      by_cases hjn : j < n
      · have hji : (j : Int) < (n : Int) := by omega
        have hM := fun w => markText_any (k0 + j * 4) w (by omega) (by omega)
        have hts : ((((flR (mkd l k0 j)).set (j * 4) (.string (mkT (k0 + j * 4)))).set (j * 4 + 1) (.int .i64 ((k0 + j * 4 + 1 : Nat) : Int))).set (j * 4 + 2) (.int .i64 ((k0 + j * 4 + 2 : Nat) : Int))).set (j * 4 + 3) (.int .i64 ((k0 + j * 4 + 3 : Nat) : Int)) = flR (mkd l k0 (j + 1)) := by
          have := HN.out
          rw [← mkd_set l k0 (by omega), flR_set _ _ j (by rw [mkd_len l k0 (by omega)]; omega)]
          rfl
        have HQ : Hid (k0 + (j + 1) * 4 = k0 + j * 4 + 4) := (by omega : k0 + (j + 1) * 4 = k0 + j * 4 + 4)
        generalize mkT (k0 + j * 4) = t at *
        have hqb : k0 + j * 4 ≤ 1099515822080 := by omega
        generalize k0 + j * 4 = q at *
        have HT : Hid (((((flR (mkd l k0 j)).set (j * 4) (.string t)).set (j * 4 + 1) (.int .i64 ((q : Int) + 1))).set (j * 4 + 2) (.int .i64 ((q : Int) + 1 + 1))).set (j * 4 + 3) (.int .i64 ((q : Int) + 1 + 1 + 1)) = flR (mkd l k0 (j + 1))) := hts
        have hgw : g < wr.heap.size := Nat.lt_of_lt_of_le hgs hgr.out.size
        clear hts hown
        go_wp2_with fail
        refine (hM _).mono ?_
        rintro e w2 ⟨rfl, hb2⟩
        have ho2 := own_below ho.out hb2
        have f0 := ho2.frozenAt (j * 4)
        have f1 := ho2.frozenAt (j * 4 + 1)
        have f2 := ho2.frozenAt (j * 4 + 2)
        have f3 := ho2.frozenAt (j * 4 + 3)
        obtain ⟨z0, g0⟩ := own_some4 ho2 (j := j * 4) (by omega)
        obtain ⟨z1, g1⟩ := own_some4 ho2 (j := j * 4 + 1) (by omega)
        obtain ⟨z2, g2⟩ := own_some4 ho2 (j := j * 4 + 2) (by omega)
        obtain ⟨z3, g3⟩ := own_some4 ho2 (j := j * 4 + 3) (by omega)
        obtain ⟨s1, r1⟩ := ho2.stored (j * 4) (.string t)
        obtain ⟨s2, r2⟩ := s1.stored (j * 4 + 1) (.int .i64 ((q : Int) + 1))
        obtain ⟨s3, r3⟩ := s2.stored (j * 4 + 2) (.int .i64 ((q : Int) + 1 + 1))
        obtain ⟨s4, r4⟩ := s3.stored (j * 4 + 3) (.int .i64 ((q : Int) + 1 + 1 + 1))
        have s5 := grown_trans (grown_trans (grown_trans (grown_trans (grown_trans hgr.out (grown_of_below hb2 (Nat.le_refl _) _)) r1) r2) r3) r4
        rw [HT.out] at s4
        have HS4 : Hid (((((w2.setCell ⟨g, j * 4, none⟩ (.string t)).setCell ⟨g, j * 4 + 1, none⟩ (.int .i64 ((q : Int) + 1))).setCell ⟨g, j * 4 + 2, none⟩ (.int .i64 ((q : Int) + 1 + 1))).setCell ⟨g, j * 4 + 3, none⟩ (.int .i64 ((q : Int) + 1 + 1 + 1))).ownsRow B 31 4 (.slice (some ⟨g, 0, none⟩) n cap) n (flR (mkd l k0 (j + 1)))) := s4
        have HS5 : Hid (w.grownBy ((((w2.setCell ⟨g, j * 4, none⟩ (.string t)).setCell ⟨g, j * 4 + 1, none⟩ (.int .i64 ((q : Int) + 1))).setCell ⟨g, j * 4 + 2, none⟩ (.int .i64 ((q : Int) + 1 + 1))).setCell ⟨g, j * 4 + 3, none⟩ (.int .i64 ((q : Int) + 1 + 1 + 1))) (some g)) := s5
        have hg2 : g < w2.heap.size := Nat.lt_of_lt_of_le hgw hb2.size
        clear ho2 s1 s2 s3 s4 s5 r1 r2 r3 r4 hb2 hM
        go_wp2
        go_roundw
        case rel => exact ⟨j + 1, by omega, by go_num, by rw [HQ.out]; congr 1, HS5, HS4⟩
        case measure => simp [intOf]; omega
      · have hjn : j = n := by omega
        subst hjn
        rw [HA.out] at ho
        go_wp2
        go_ret
        exact ⟨rfl, hgr.out, ho.out⟩
set_option maxRecDepth 100000 in
set_option maxHeartbeats 4000000 in
theorem heldRecordS_any (v : Value) (n k0 : Nat) (w : World) (hv : Rcs w v (mkR k0 n)) (hx : n ≤ 1048576) (hk0 : 0 < k0 ∧ k0 ≤ 1099511627776) :
    Calls Try.prog 175 #[v, .int .i64 k0] w fun e w' => e = .returned (.int .i64 ((k0 + n * 4 : Nat) : Int)) ∧ Below w.heap.size w w' := by
  obtain ⟨a, c, rfl⟩ := hv.shape
  by_cases h0 : n = 0
  · subst h0
    simp only [mkR_len]
    clear hv
    go_enter Try.func175, Try.ntmps175
    go_wp2
    refine wp_loop_rounds 1 ?_; rw [rounds_succ]
    go_wp2
    go_ret
    exact ⟨rfl, Below.refl _ _⟩
  · obtain ⟨_, b, off, rfl, hb, hc⟩ := hv.at (by rw [mkR_len]; omega)
    have HC : Hid (∀ j, j < n → RecS w b (off + j * 4) (mkR1 (k0 + j * 4))) := fun j hj => by
      have h1 := hc j (by rw [mkR_len]; exact hj)
      rw [mkR_at _ _ _ hj] at h1
      exact h1
    rw [mkR_len]
    clear hv hc h0
    go_enter Try.func175, Try.ntmps175
    go_wp2
    go_loopw [1, 5] (fun k i wr => ∃ j : Nat, j ≤ n ∧ i = .int .i64 j ∧ k = .int .i64 ((k0 + j * 4 : Nat) : Int) ∧ Hid (Below w.heap.size w wr)) (fun _ i _ => n - (intOf i).toNat)
    case atStart => exact ⟨0, Nat.zero_le _, rfl, by simp, Below.refl _ _⟩
    case round =>
      obtain ⟨j, hj, rfl, rfl, hB⟩ := hrel
      by_cases hjn : j < n
      · have hji : (j : Int) < (n : Int) := by omega
        have hr := HC.out j hjn
        have hM := fun w => markText_any (k0 + j * 4) w (by omega) (by omega)
        have HR : Hid (∀ w', Below w.heap.size w w' → w'.cell? ⟨b, off + j * 4, none⟩ = some (.string (mkT (k0 + j * 4))) ∧ w'.cell? ⟨b, off + j * 4 + 1, none⟩ = some (.int .i64 (((k0 + j * 4 : Nat) : Int) + 1)) ∧ w'.cell? ⟨b, off + j * 4 + 2, none⟩ = some (.int .i64 (((k0 + j * 4 : Nat) : Int) + 1 + 1)) ∧ w'.cell? ⟨b, off + j * 4 + 3, none⟩ = some (.int .i64 (((k0 + j * 4 : Nat) : Int) + 1 + 1 + 1))) := fun w' h => ⟨(hr.below h hb).c0, (hr.below h hb).c1, (hr.below h hb).c2, (hr.below h hb).c3⟩
        have HQ : Hid (((k0 + j * 4 : Nat) : Int) + 1 + 1 + 1 + 1 = ((k0 + (j + 1) * 4 : Nat) : Int)) := (by omega : ((k0 + j * 4 : Nat) : Int) + 1 + 1 + 1 + 1 = ((k0 + (j + 1) * 4 : Nat) : Int))
        have hqb : k0 + j * 4 ≤ 1099515822080 := by omega
        generalize mkT (k0 + j * 4) = t at *
        generalize k0 + j * 4 = q at *
        obtain ⟨d0, -, -, -⟩ := HR.out _ hB.out
        have q0 := After.cell d0
        have hne := After.ne wr
        have htt : (t.toList == t.toList) = true := by simp
        have hbw : b < wr.heap.size := Nat.lt_of_lt_of_le hb hB.out.size
        clear hr d0
        go_wp2_with fail
        refine wp_region_after (by kernel_rfl) (by kernel_rfl) ?_
        repeat (first | go_big_quiet_skip | (go_big_quiet_want; go_big_quiet_op; first | go_big_quiet_on | go_big_quiet_call (first | (go_at_call 188; refine (hM _).mono ?_; rintro e wq ⟨rfl, hbq⟩; exact ⟨rfl, after_mk (below_after_of (After.b _) hbq)⟩))))
        refine wpQuiet_nil ?_
        rintro _ ⟨n6, rfl⟩
        have HB6 : Hid (Below w.heap.size w n6.w) := below_after_of hB.out n6.b
        generalize n6.w = w6 at *
        obtain ⟨d0, d1, d2, d3⟩ := HR.out _ HB6.out
        have hnn := hne_all
        clear hne q0 n6 hM HR
        go_wp2
        go_roundw
        case rel => exact ⟨j + 1, by omega, by go_num, by rw [← HQ.out], HB6⟩
        case measure => simp [intOf]; omega
      · have hjn : j = n := by omega
        subst hjn
        go_wp2
        go_ret
        exact ⟨rfl, hB.out⟩
set_option maxRecDepth 100000 in
set_option maxHeartbeats 1000000 in
theorem markDirectory_any (B : Nat) (v : Value) (l : Rcl) (k0 : Nat) (w : World) (hown : w.ownsRow B 31 4 v l.length (flR l)) (hx : l.length ≤ 1048576) (hk0 : 0 < k0 ∧ k0 ≤ 1099511627776) :
    Calls Try.prog 140 #[.agg #[v], .int .i64 k0] w fun e w' => e = .returned (.int .i64 ((k0 + l.length * 4 : Nat) : Int)) ∧ w.grownBy w' v.ownBlock ∧ w'.ownsRow B 31 4 v l.length (flR (mkR k0 l.length)) := by
  have hM := fun o => markRecordS_any B v l k0 _ (hown.alloc o) hx hk0
  obtain ⟨a, c', rfl⟩ : ∃ a c, v = .slice a l.length c := by
    rcases hown.2 with ⟨rfl, hn⟩ | ⟨g, cap, cur, rfl, _⟩
    · exact ⟨none, 0, by rw [hn]⟩
    · exact ⟨_, _, rfl⟩
  generalize l.length = n at *
  clear hown
  go_enter Try.func140, Try.ntmps140
  go_wp2_with fail
  refine (hM _).mono ?_
  rintro e w1 ⟨rfl, hg, ho⟩
  have HH : Hid (w.grownBy w1 (Value.slice a n c').ownBlock ∧ w1.ownsRow B 31 4 (.slice a n c') n (flR (mkR k0 n))) := ⟨grown_trans (World.grownBy_alloc _ _ _) hg, ho⟩
  clear hM hg ho
  go_wp2
  go_ret
  exact ⟨rfl, HH.out⟩
/-- A box of one cell. -/
def One (w : World) (b : Nat) (x : Value) : Prop := b < w.heap.size ∧ w.cell? ⟨b, 0, none⟩ = some x
theorem One.below {w w' : World} {b : Nat} {x : Value} (h : One w b x) (hb : Below w.heap.size w w') : One w' b x := ⟨Nat.lt_of_lt_of_le h.1 hb.size, (hb.cell (p := ⟨b, 0, none⟩) h.1).trans h.2⟩
theorem One.grown {w w' : World} {b : Nat} {x : Value} {row : Option Nat} (h : One w b x) (hg : w.grownBy w' row) (hne : some b ≠ row) : One w' b x := ⟨Nat.lt_of_lt_of_le h.1 hg.size, hg.cell h.2 hne⟩
theorem One.new (w : World) (x : Value) (t : TypeId) : One (w.alloc (.cells #[x] t)) w.heap.size x := ⟨by simp, one_cellV (heap_alloc_new w _)⟩
end U
end Go.Proofs.Ytcdodpcdennemaa

/- A code and a directory: compared, marked, looked at anew. -/
namespace Go.Proofs.Ytcdodpcdennemaa
open Go.RowKit
namespace U
set_option maxRecDepth 100000 in
set_option maxHeartbeats 1000000 in
theorem heldDirectory_any (v : Value) (n k0 : Nat) (w : World) (hv : Rcs w v (mkR k0 n)) (hx : n ≤ 1048576) (hk0 : 0 < k0 ∧ k0 ≤ 1099511627776) :
    Calls Try.prog 144 #[.agg #[v], .int .i64 k0] w fun e w' => e = .returned (.int .i64 ((k0 + n * 4 : Nat) : Int)) ∧ Below w.heap.size w w' := by
  have hH := fun o => heldRecordS_any v n k0 _ (hv.below (one_new o)) hx hk0
  obtain ⟨a, c', rfl⟩ := hv.shape
  rw [mkR_len] at *
  have hs : ¬ ((k0 + n * 4 : Nat) : Int) < 0 := by omega
  generalize ((k0 + n * 4 : Nat) : Int) = z at *
  clear hv
  go_enter Try.func144, Try.ntmps144
  go_wp2_with fail
  refine (hH _).mono ?_
  rintro e w1 ⟨rfl, hb1⟩
  clear hH
  go_wp2
  go_ret
  exact ⟨rfl, below_after hb1⟩
end U
end Go.Proofs.Ytcdodpcdennemaa

/- Marks in heads and in rows of directories, and how they are looked at anew. -/
namespace Go.Proofs.Ytcdodpcdennemaa
open Go.RowKit
namespace U
/-- A head of marks. -/
def mkH1 (k : Nat) : Hd := ⟨((k : Nat) : Int), ((k + 1 : Nat) : Int), ((k + 2 : Nat) : Int), ((k + 3 : Nat) : Int), ((k + 4 : Nat) : Int)⟩
def mkH (k n : Nat) : Hdl := (List.range n).map fun j => mkH1 (k + j * 5)
theorem mkH_len (k n : Nat) : (mkH k n).length = n := by simp [mkH]
theorem mkH_at (k n j : Nat) (h : j < n) : hAt (mkH k n) j = mkH1 (k + j * 5) := by
  rw [hAt_eq (by rw [mkH_len]; exact h)]
  simp [mkH]
def mhd (l : Hdl) (k0 : Nat) (k : Nat) : Hdl := mkH k0 k ++ l.drop k
theorem mhd_len (l : Hdl) (k0 : Nat) {k : Nat} (h : k ≤ l.length) : (mhd l k0 k).length = l.length := by unfold mhd; rw [List.length_append, mkH_len, List.length_drop]; omega
theorem mhd_zero (l : Hdl) (k0 : Nat) : mhd l k0 0 = l := by unfold mhd; simp [mkH]
theorem mhd_all (l : Hdl) (k0 : Nat) : mhd l k0 l.length = mkH k0 l.length := by unfold mhd; simp
theorem mhd_set (l : Hdl) (k0 : Nat) {k : Nat} (h : k < l.length) : (mhd l k0 k).set k (mkH1 (k0 + k * 5)) = mhd l k0 (k + 1) := by
  have h1 : mkH k0 (k + 1) = mkH k0 k ++ [mkH1 (k0 + k * 5)] := by unfold mkH; rw [List.range_succ, List.map_append]; rfl
  unfold mhd
  rw [h1, List.set_append_right _ _ (by rw [mkH_len]; exact Nat.le_refl _), mkH_len, Nat.sub_self, List.append_assoc]
  congr 1
  rw [List.drop_eq_getElem_cons h]
  rfl
set_option maxRecDepth 100000 in
set_option maxHeartbeats 4000000 in
theorem markHeadS_any (B : Nat) (v : Value) (l : Hdl) (k0 : Nat) (w : World) (hown : w.ownsRow B 147 5 v l.length (flH l)) (hx : l.length ≤ 1048576) (hk0 : 0 < k0 ∧ k0 ≤ 1099511627776) :
    Calls Try.prog 142 #[v, .int .i64 k0] w fun e w' => e = .returned (.int .i64 ((k0 + l.length * 5 : Nat) : Int)) ∧ w.grownBy w' v.ownBlock ∧ w'.ownsRow B 147 5 v l.length (flH (mkH k0 l.length)) := by
  by_cases h0 : l.length = 0
  · have e1 : l = [] := List.eq_nil_of_length_eq_zero h0
    subst e1
    obtain ⟨a, c, rfl⟩ := own_shape hown
    simp only [List.length_nil] at *
    go_enter Try.func142, Try.ntmps142
    go_wp2
    refine wp_loop_rounds 1 ?_; rw [rounds_succ]
    go_wp2
    go_ret
    exact ⟨rfl, World.grownBy.refl _ _, hown⟩
  · rcases hown.2 with ⟨_, h⟩ | ⟨g, cap, cur, rfl, hB, hg, _⟩
    · exact absurd h h0
    have hgs : g < w.heap.size := (Array.getElem?_eq_some_iff.1 hg).1
    clear hg hB
    obtain ⟨n, hn⟩ : ∃ n, n = l.length := ⟨_, rfl⟩
    have HN : Hid (n = l.length) := hn
    rw [← hn] at hown hx h0 ⊢
    have HA : Hid (mhd l k0 n = mkH k0 n) := (by rw [hn]; exact mhd_all l k0 : mhd l k0 n = mkH k0 n)
    clear hn h0
    go_enter Try.func142, Try.ntmps142
    go_wp2
    go_loopw [1, 5] (fun k i wr => ∃ j : Nat, j ≤ n ∧ i = .int .i64 j ∧ k = .int .i64 ((k0 + j * 5 : Nat) : Int) ∧ Hid (w.grownBy wr (some g)) ∧ Hid (wr.ownsRow B 147 5 (.slice (some ⟨g, 0, none⟩) n cap) n (flH (mhd l k0 j)))) (fun _ i _ => n - (intOf i).toNat)
    case atStart => exact ⟨0, Nat.zero_le _, rfl, by simp, World.grownBy.refl _ _, by rw [mhd_zero]; exact hown⟩
    case round =>
      obtain ⟨j, hj, rfl, rfl, hgr, ho⟩ := hrel
      by_cases hjn : j < n
      · have hji : (j : Int) < (n : Int) := by omega
        have hts : (((((flH (mhd l k0 j)).set (j * 5) (.int .i64 ((k0 + j * 5 : Nat) : Int))).set (j * 5 + 1) (.int .i64 ((k0 + j * 5 + 1 : Nat) : Int))).set (j * 5 + 2) (.int .i64 ((k0 + j * 5 + 2 : Nat) : Int))).set (j * 5 + 3) (.int .i64 ((k0 + j * 5 + 3 : Nat) : Int))).set (j * 5 + 4) (.int .i64 ((k0 + j * 5 + 4 : Nat) : Int)) = flH (mhd l k0 (j + 1)) := by
          have := HN.out
          rw [← mhd_set l k0 (by omega), flH_set _ _ j (by rw [mhd_len l k0 (by omega)]; omega)]
          rfl
        have HQ : Hid (k0 + (j + 1) * 5 = k0 + j * 5 + 5) := (by omega : k0 + (j + 1) * 5 = k0 + j * 5 + 5)
        have hqb : k0 + j * 5 ≤ 1099516870656 := by omega
        generalize k0 + j * 5 = q at *
        have HT : Hid ((((((flH (mhd l k0 j)).set (j * 5) (.int .i64 (q : Int))).set (j * 5 + 1) (.int .i64 ((q : Int) + 1))).set (j * 5 + 2) (.int .i64 ((q : Int) + 1 + 1))).set (j * 5 + 3) (.int .i64 ((q : Int) + 1 + 1 + 1))).set (j * 5 + 4) (.int .i64 ((q : Int) + 1 + 1 + 1 + 1)) = flH (mhd l k0 (j + 1))) := hts
        have hgw : g < wr.heap.size := Nat.lt_of_lt_of_le hgs hgr.out.size
        have ho2 := ho.out
        have f0 := ho2.frozenAt (j * 5)
        have f1 := ho2.frozenAt (j * 5 + 1)
        have f2 := ho2.frozenAt (j * 5 + 2)
        have f3 := ho2.frozenAt (j * 5 + 3)
        have f4 := ho2.frozenAt (j * 5 + 4)
        obtain ⟨z0, g0⟩ := own_some5 ho2 (j := j * 5) (by omega)
        obtain ⟨z1, g1⟩ := own_some5 ho2 (j := j * 5 + 1) (by omega)
        obtain ⟨z2, g2⟩ := own_some5 ho2 (j := j * 5 + 2) (by omega)
        obtain ⟨z3, g3⟩ := own_some5 ho2 (j := j * 5 + 3) (by omega)
        obtain ⟨z4, g4⟩ := own_some5 ho2 (j := j * 5 + 4) (by omega)
        obtain ⟨s1, r1⟩ := ho2.stored (j * 5) (.int .i64 (q : Int))
        obtain ⟨s2, r2⟩ := s1.stored (j * 5 + 1) (.int .i64 ((q : Int) + 1))
        obtain ⟨s3, r3⟩ := s2.stored (j * 5 + 2) (.int .i64 ((q : Int) + 1 + 1))
        obtain ⟨s4, r4⟩ := s3.stored (j * 5 + 3) (.int .i64 ((q : Int) + 1 + 1 + 1))
        obtain ⟨s5, r5⟩ := s4.stored (j * 5 + 4) (.int .i64 ((q : Int) + 1 + 1 + 1 + 1))
        have s6 := grown_trans (grown_trans (grown_trans (grown_trans (grown_trans hgr.out r1) r2) r3) r4) r5
        rw [HT.out] at s5
        have HS5 : Hid ((((((wr.setCell ⟨g, j * 5, none⟩ (.int .i64 (q : Int))).setCell ⟨g, j * 5 + 1, none⟩ (.int .i64 ((q : Int) + 1))).setCell ⟨g, j * 5 + 2, none⟩ (.int .i64 ((q : Int) + 1 + 1))).setCell ⟨g, j * 5 + 3, none⟩ (.int .i64 ((q : Int) + 1 + 1 + 1))).setCell ⟨g, j * 5 + 4, none⟩ (.int .i64 ((q : Int) + 1 + 1 + 1 + 1))).ownsRow B 147 5 (.slice (some ⟨g, 0, none⟩) n cap) n (flH (mhd l k0 (j + 1)))) := s5
        have HS6 : Hid (w.grownBy (((((wr.setCell ⟨g, j * 5, none⟩ (.int .i64 (q : Int))).setCell ⟨g, j * 5 + 1, none⟩ (.int .i64 ((q : Int) + 1))).setCell ⟨g, j * 5 + 2, none⟩ (.int .i64 ((q : Int) + 1 + 1))).setCell ⟨g, j * 5 + 3, none⟩ (.int .i64 ((q : Int) + 1 + 1 + 1))).setCell ⟨g, j * 5 + 4, none⟩ (.int .i64 ((q : Int) + 1 + 1 + 1 + 1))) (some g)) := s6
        clear ho2 s1 s2 s3 s4 s5 s6 r1 r2 r3 r4 r5 hts hown ho hgr
        go_wp2
        go_roundw
        case rel => exact ⟨j + 1, by omega, by go_num, by rw [HQ.out]; congr 1, HS6, HS5⟩
        case measure => simp [intOf]; omega
      · have hjn : j = n := by omega
        subst hjn
        rw [HA.out] at ho
        go_wp2
        go_ret
        exact ⟨rfl, hgr.out, ho.out⟩
set_option maxRecDepth 100000 in
set_option maxHeartbeats 4000000 in
theorem heldHeadS_any (v : Value) (n k0 : Nat) (w : World) (hv : Hds w v (mkH k0 n)) (hx : n ≤ 1048576) (hk0 : 0 < k0 ∧ k0 ≤ 1099511627776) :
    Calls Try.prog 146 #[v, .int .i64 k0] w fun e w' => e = .returned (.int .i64 ((k0 + n * 5 : Nat) : Int)) ∧ w' = w := by
  have hnn := hne_all
  obtain ⟨a, c, rfl⟩ := hv.shape
  by_cases h0 : n = 0
  · subst h0
    simp only [mkH_len]
    clear hv
    go_enter Try.func146, Try.ntmps146
    go_wp2
    refine wp_loop_rounds 1 ?_; rw [rounds_succ]
    go_wp2
    go_ret
    exact ⟨rfl, rfl⟩
  · obtain ⟨-, b, off, rfl, hb, hc⟩ := hv.at (by rw [mkH_len]; omega)
    have hcm : ∀ j, j < n → HdS w b (off + j * 5) (mkH1 (k0 + j * 5)) := fun j hj => by
      have h1 := hc j (by rw [mkH_len]; exact hj)
      rw [mkH_at _ _ _ hj] at h1
      exact h1
    rw [mkH_len]
    clear hv hc h0
    go_enter Try.func146, Try.ntmps146
    go_wp2
    go_loop [1, 5] (fun k i => ∃ j : Nat, j ≤ n ∧ i = .int .i64 j ∧ k = .int .i64 ((k0 + j * 5 : Nat) : Int)) (fun _ i => n - (intOf i).toNat)
    case atStart => exact ⟨0, Nat.zero_le _, rfl, by simp⟩
    case round =>
      obtain ⟨j, hj, rfl, rfl⟩ := hrel
      by_cases hjn : j < n
      · have hji : (j : Int) < (n : Int) := by omega
        have hr := hcm j hjn
        have d0 : w.cell? ⟨b, off + j * 5, none⟩ = some (.int .i64 ((k0 + j * 5 : Nat) : Int)) := hr.c0
        have d1 : w.cell? ⟨b, off + j * 5 + 1, none⟩ = some (.int .i64 (((k0 + j * 5 : Nat) : Int) + 1)) := hr.c1
        have d2 : w.cell? ⟨b, off + j * 5 + 2, none⟩ = some (.int .i64 (((k0 + j * 5 : Nat) : Int) + 1 + 1)) := hr.c2
        have d3 : w.cell? ⟨b, off + j * 5 + 3, none⟩ = some (.int .i64 (((k0 + j * 5 : Nat) : Int) + 1 + 1 + 1)) := hr.c3
        have d4 : w.cell? ⟨b, off + j * 5 + 4, none⟩ = some (.int .i64 (((k0 + j * 5 : Nat) : Int) + 1 + 1 + 1 + 1)) := hr.c4
        have HQ : Hid (((k0 + j * 5 : Nat) : Int) + 1 + 1 + 1 + 1 + 1 = ((k0 + (j + 1) * 5 : Nat) : Int)) := by show _ = _; omega
        have hq : (k0 + j * 5 : Nat) ≤ 4398046511104 := by omega
        generalize k0 + j * 5 = q at *
        clear hcm hr
        go_wp2
        go_round
        case rel => exact ⟨j + 1, by omega, by go_num, by rw [← HQ.out]⟩
        case measure => simp [intOf]; omega
      · have hjn : j = n := by omega
        subst hjn
        clear hcm
        go_wp2
        go_ret
        exact ⟨rfl, rfl⟩
/-- The rows of directories, by a function. -/
def rowsF (us : List Value) (f : Nat → Rcl) : Nat → List Rw
  | 0 => []
  | k + 1 => rowsF us f k ++ [dRow (uAt us k) (f k)]
theorem rowsF_p (us : List Value) (p : Pst) : ∀ k, pRows us p k = rowsF us (dAt p) k
  | 0 => rfl
  | k + 1 => by show pRows us p k ++ _ = rowsF us (dAt p) k ++ _; rw [rowsF_p us p k]
theorem rowsF_eq {us : List Value} {f f' : Nat → Rcl} : ∀ k, (∀ i, i < k → f i = f' i) → rowsF us f k = rowsF us f' k
  | 0, _ => rfl
  | k + 1, h => by
    show rowsF us f k ++ [dRow (uAt us k) (f k)] = rowsF us f' k ++ [dRow (uAt us k) (f' k)]
    rw [rowsF_eq k (fun i hi => h i (by omega)), h k (by omega)]
theorem rowsF_split (us : List Value) (f : Nat → Rcl) (j : Nat) : ∀ n, j < n → ∃ A B, ∀ f' : Nat → Rcl, (∀ i, i ≠ j → f' i = f i) → rowsF us f' n = A ++ dRow (uAt us j) (f' j) :: B
  | n + 1, h => by
    by_cases e : j = n
    · subst e
      refine ⟨rowsF us f j, [], fun f' hf => ?_⟩
      show rowsF us f' j ++ [dRow (uAt us j) (f' j)] = _
      rw [rowsF_eq j (fun i hi => hf i (by omega))]
    · obtain ⟨A, B, hAB⟩ := rowsF_split us f j n (by omega)
      refine ⟨A, B ++ [dRow (uAt us n) (f n)], fun f' hf => ?_⟩
      show rowsF us f' n ++ [dRow (uAt us n) (f' n)] = _
      rw [hAB f' hf, hf n (by omega)]
      simp
/-- The mark ahead of a directory. -/
def kAt (p : Pst) (k0 : Nat) : Nat → Nat
  | 0 => k0
  | j + 1 => kAt p k0 j + (dAt p j).length * 4
theorem kAt_tot (p : Pst) (k0 : Nat) : ∀ j, kAt p k0 j = k0 + tot p j * 4
  | 0 => by show k0 = k0 + 0 * 4; omega
  | j + 1 => by
    show kAt p k0 j + (dAt p j).length * 4 = k0 + (tot p j + (dAt p j).length) * 4
    rw [kAt_tot p k0 j]
    omega
def mkD (p : Pst) (k0 : Nat) : Pst := (List.range p.length).map fun j => mkR (kAt p k0 j) (dAt p j).length
theorem mkD_len (p : Pst) (k0 : Nat) : (mkD p k0).length = p.length := by simp [mkD]
theorem mkD_at (p : Pst) (k0 : Nat) {j : Nat} (h : j < p.length) : dAt (mkD p k0) j = mkR (kAt p k0 j) (dAt p j).length := by
  rw [dAt_eq (by rw [mkD_len]; exact h)]
  simp [mkD]
/-- The first directories marked. -/
def fJ (p : Pst) (k0 j : Nat) (i : Nat) : Rcl := if i < j then mkR (kAt p k0 i) (dAt p i).length else dAt p i
theorem fJ_zero (p : Pst) (k0 : Nat) : fJ p k0 0 = dAt p := by funext i; unfold fJ; rw [if_neg (by omega)]
theorem fJ_at (p : Pst) (k0 j : Nat) : fJ p k0 j j = dAt p j := by unfold fJ; rw [if_neg (by omega)]
theorem fJ_new (p : Pst) (k0 j : Nat) : fJ p k0 (j + 1) j = mkR (kAt p k0 j) (dAt p j).length := by unfold fJ; rw [if_pos (by omega)]
theorem fJ_other (p : Pst) (k0 j : Nat) : ∀ i, i ≠ j → fJ p k0 (j + 1) i = fJ p k0 j i := fun i hi => by
  unfold fJ
  by_cases h : i < j
  · rw [if_pos h, if_pos (by omega)]
  · rw [if_neg h, if_neg (by omega)]
set_option maxRecDepth 100000 in
set_option maxHeartbeats 4000000 in
theorem markDirectoryS_any (lo hi : Nat) (AA : List Rw) (v : Value) (us : List Value) (p : Pst) (k0 : Nat) (w : World) (ho : Own lo hi w ((AA ++ [oRow v us]) ++ pRows us p p.length)) (hl : us.length = p.length) (hx : p.length ≤ 1048576) (hpd : ∀ j, j < p.length → (dAt p j).length ≤ 1048576) (ht : ∀ j, j ≤ p.length → tot p j ≤ 1048576) (hk0 : 0 < k0 ∧ k0 ≤ 16777216) :
    Calls Try.prog 143 #[v, .int .i64 k0] w fun e w' => e = .returned (.int .i64 ((kAt p k0 p.length : Nat) : Int)) ∧ Tch lo hi w w' ∧ Own lo hi w' ((AA ++ [oRow v us]) ++ pRows us (mkD p k0) p.length) := by
  have hrow : w.ownsRow lo 47 1 v us.length us := ho.own (oRow v us) (by simp)
  by_cases h0 : p.length = 0
  · have e1 : p = [] := List.eq_nil_of_length_eq_zero h0
    subst e1
    obtain ⟨a, c, rfl⟩ := own_shape hrow
    rw [hl]
    have HO : Hid (Own lo hi w ((AA ++ [oRow (.slice a us.length c) us]) ++ pRows us (mkD [] k0) 0)) := ho
    rw [hl] at HO
    have e2 : kAt [] k0 0 = k0 := rfl
    simp only [List.length_nil] at *
    rw [e2]
    clear ho hrow hpd ht
    go_enter Try.func143, Try.ntmps143
    go_wp2
    refine wp_loop_rounds 1 ?_; rw [rounds_succ]
    go_wp2
    go_ret
    exact ⟨rfl, Tch.refl _ _ _, HO.out⟩
  · rcases hrow.2 with ⟨_, h⟩ | ⟨g, cap, cur, rfl, hB, hg, _⟩
    · omega
    have hgs : g < w.heap.size := (Array.getElem?_eq_some_iff.1 hg).1
    clear hg hB hrow
    obtain ⟨n, hn⟩ : ∃ n, n = p.length := ⟨_, rfl⟩
    have HN : Hid (n = p.length) := hn
    rw [← hn] at ho hl hx h0 hpd ht ⊢
    rw [hl] at ho ⊢
    have HL : Hid (us.length = n) := hl
    have HE : Hid (rowsF us (fJ p k0 n) n = pRows us (mkD p k0) n) := (by
      rw [rowsF_p]
      exact rowsF_eq n (fun i hi => by
        unfold fJ
        rw [if_pos hi, mkD_at p k0 (by omega)]) : rowsF us (fJ p k0 n) n = pRows us (mkD p k0) n)
    rw [← HE.out]
    rw [rowsF_p, ← fJ_zero p k0] at ho
    have HK : Hid (∀ j, j ≤ n → 0 < kAt p k0 j ∧ kAt p k0 j ≤ 1099511627776) := fun j hj => by
      rw [kAt_tot]
      have := ht j hj
      omega
    have HO0 : Hid (Own lo hi w ((AA ++ [oRow (.slice (some ⟨g, 0, none⟩) n cap) us]) ++ rowsF us (fJ p k0 0) n)) := ho
    generalize hoo : oRow (.slice (some ⟨g, 0, none⟩) n cap) us = ob at *
    have HOO : Hid (oRow (.slice (some ⟨g, 0, none⟩) n cap) us = ob) := hoo
    clear hn h0 hl ht ho hoo HE
    go_enter Try.func143, Try.ntmps143
    go_wp2
    go_loopw [1, 5] (fun k i wr => ∃ j : Nat, j ≤ n ∧ i = .int .i64 j ∧ k = .int .i64 ((kAt p k0 j : Nat) : Int) ∧ Hid (Tch lo hi w wr) ∧ Hid (Own lo hi wr ((AA ++ [ob]) ++ rowsF us (fJ p k0 j) n))) (fun _ i _ => n - (intOf i).toNat)
    case atStart => exact ⟨0, Nat.zero_le _, rfl, rfl, Tch.refl _ _ _, HO0⟩
    case round =>
      obtain ⟨j, hj, rfl, rfl, HT, HO⟩ := hrel
      by_cases hjn : j < n
      · have hji : (j : Int) < (n : Int) := by omega
        obtain ⟨A, B, hAB⟩ := rowsF_split us (fJ p k0 j) j n hjn
        have hrows := HO.out
        have e0 := hAB (fJ p k0 j) (fun i _ => rfl)
        rw [fJ_at] at e0
        have e1 := hAB (fJ p k0 (j + 1)) (fJ_other p k0 j)
        rw [fJ_new] at e1
        rw [e0, ← List.append_assoc] at hrows
        have hr : wr.ownsRow lo 31 4 (uAt us j) (dAt p j).length (flR (dAt p j)) := hrows.own (dRow (uAt us j) (dAt p j)) (by simp)
        have hro := HO.out.own ob (by simp)
        rw [← HOO.out] at hro
        have hro : wr.ownsRow lo 47 1 (.slice (some ⟨g, 0, none⟩) n cap) us.length us := hro
        rw [HL.out] at hro
        have d0 : wr.cell? ⟨g, j, none⟩ = some (uAt us j) := by
          have := hro.cellAt j (by omega)
          rw [this]
          unfold uAt
          rw [List.getD_eq_getElem?_getD, List.getElem?_eq_getElem (by rw [HL.out]; exact hjn)]
          rfl
        have hM := markRecordS_any lo (uAt us j) (dAt p j) (kAt p k0 j) wr hr (hpd j hjn) (HK.out j (by omega))
        have HBK : Hid (∀ g, (uAt us j).ownBlock = some g → lo ≤ g ∧ g < hi) := fun g hg => ⟨(own_blk hr hg).1, hrows.hi g (mem_blks (r := dRow (uAt us j) (dAt p j)) (by simp) hg)⟩
        have HW2 : Hid (∀ w2, wr.grownBy w2 (uAt us j).ownBlock → w2.ownsRow lo 31 4 (uAt us j) (dAt p j).length (flR (mkR (kAt p k0 j) (dAt p j).length)) → Own lo hi w2 ((AA ++ [ob]) ++ rowsF us (fJ p k0 (j + 1)) n)) := fun w2 hg2 ho2 => by
          rw [e1, ← List.append_assoc]
          refine hrows.set (r' := dRow (uAt us j) (mkR (kAt p k0 j) (dAt p j).length)) rfl hg2 ?_
          show w2.ownsRow lo 31 4 (uAt us j) (mkR (kAt p k0 j) (dAt p j).length).length (flR (mkR (kAt p k0 j) (dAt p j).length))
          rw [mkR_len]
          exact ho2
        obtain ⟨ua, uc, hua⟩ := own_shape hr
        have HKN : Hid (kAt p k0 (j + 1) = kAt p k0 j + (dAt p j).length * 4) := rfl
        have hgw : g < wr.heap.size := Nat.lt_of_lt_of_le hgs HT.out.size
        rw [hua] at d0 hM HBK HW2
        have hkb := HK.out j (by omega)
        obtain ⟨q, hq⟩ : ∃ q, q = kAt p k0 j := ⟨_, rfl⟩
        rw [← hq] at hM hkb HW2 HKN ⊢
        have hmb := hpd j hjn
        generalize (dAt p j).length = m at *
        clear hAB hrows e0 e1 hr hro hua hpd HO hq HK
        go_wp2_with fail
        refine hM.mono ?_
        rintro e w2 ⟨rfl, hg2, ho2⟩
        have HT2 : Hid (Tch lo hi w w2) := HT.out.trans (Tch.of_grown hg2 HBK.out)
        have HO2 : Hid (Own lo hi w2 ((AA ++ [ob]) ++ rowsF us (fJ p k0 (j + 1)) n)) := HW2.out w2 hg2 ho2
        clear hM hg2 ho2 HW2 HBK HT
        go_wp2
        go_roundw
        case rel => exact ⟨j + 1, by omega, by go_num, by rw [HKN.out]; congr 1, HT2, HO2⟩
        case measure => simp [intOf]; omega
      · have hjn : j = n := by omega
        subst hjn
        go_wp2
        go_ret
        exact ⟨rfl, HT.out, HO.out⟩
set_option maxRecDepth 100000 in
set_option maxHeartbeats 4000000 in
theorem heldDirectoryS_any (v : Value) (p : Pst) (k0 : Nat) (w : World) (hv : Dss w v (mkD p k0)) (hx : p.length ≤ 1048576) (hpd : ∀ j, j < p.length → (dAt p j).length ≤ 1048576) (ht : ∀ j, j ≤ p.length → tot p j ≤ 1048576) (hk0 : 0 < k0 ∧ k0 ≤ 16777216) :
    Calls Try.prog 147 #[v, .int .i64 k0] w fun e w' => e = .returned (.int .i64 ((kAt p k0 p.length : Nat) : Int)) ∧ Below w.heap.size w w' := by
  obtain ⟨a, c, rfl⟩ := hv.shape
  rw [mkD_len] at hv ⊢
  by_cases h0 : p.length = 0
  · have e1 : p = [] := List.eq_nil_of_length_eq_zero h0
    subst e1
    have e2 : kAt [] k0 0 = k0 := rfl
    simp only [List.length_nil] at *
    rw [e2]
    clear hv hpd ht
    go_enter Try.func147, Try.ntmps147
    go_wp2
    refine wp_loop_rounds 1 ?_; rw [rounds_succ]
    go_wp2
    go_ret
    exact ⟨rfl, Below.refl _ _⟩
  · obtain ⟨-, b, off, rfl, hb, hc⟩ := hv.at (by rw [mkD_len]; omega)
    have HC : Hid (∀ j, j < p.length → ∃ u, w.cell? ⟨b, off + j, none⟩ = some u ∧ Rcs w u (mkR (kAt p k0 j) (dAt p j).length)) := fun j hj => by
      have := hc j (by rw [mkD_len]; exact hj)
      rw [mkD_at p k0 hj] at this
      exact this
    have HK : Hid (∀ j, j ≤ p.length → 0 < kAt p k0 j ∧ kAt p k0 j ≤ 1099511627776) := fun j hj => by
      rw [kAt_tot]
      have := ht j hj
      omega
    obtain ⟨n, hn⟩ : ∃ n, n = p.length := ⟨_, rfl⟩
    rw [← hn] at HC HK hx hpd ⊢
    clear hv hc hn h0 ht
    go_enter Try.func147, Try.ntmps147
    go_wp2
    go_loopw [1, 5] (fun k i wr => ∃ j : Nat, j ≤ n ∧ i = .int .i64 j ∧ k = .int .i64 ((kAt p k0 j : Nat) : Int) ∧ Hid (Below w.heap.size w wr)) (fun _ i _ => n - (intOf i).toNat)
    case atStart => exact ⟨0, Nat.zero_le _, rfl, rfl, Below.refl _ _⟩
    case round =>
      obtain ⟨j, hj, rfl, rfl, hB⟩ := hrel
      by_cases hjn : j < n
      · have hji : (j : Int) < (n : Int) := by omega
        obtain ⟨u, hu, hr⟩ := HC.out j hjn
        have d0 := (hB.out.cell (p := ⟨b, off + j, none⟩) hb).trans hu
        have hM := heldRecordS_any u (dAt p j).length (kAt p k0 j) wr (hr.below hB.out) (hpd j hjn) (HK.out j (by omega))
        obtain ⟨ua, uc, rfl⟩ := hr.shape
        rw [mkR_len] at d0 hM
        have HKN : Hid (kAt p k0 (j + 1) = kAt p k0 j + (dAt p j).length * 4) := rfl
        have hkb := HK.out j (by omega)
        have hmb := hpd j hjn
        have hbr : b < wr.heap.size := Nat.lt_of_lt_of_le hb hB.out.size
        obtain ⟨q, hq⟩ : ∃ q, q = kAt p k0 j := ⟨_, rfl⟩
        rw [← hq] at hM hkb HKN ⊢
        generalize (dAt p j).length = m at *
        have hs : ¬ ((q + m * 4 : Nat) : Int) < 0 := by omega
        clear hr hu hpd hq HK HC
        go_wp2_with fail
        refine hM.mono ?_
        rintro e w2 ⟨rfl, hb2⟩
        have HB2 : Hid (Below w.heap.size w w2) := below_after_of hB.out hb2
        clear hM hb2
        go_wp2
        go_roundw
        case rel => exact ⟨j + 1, by omega, by go_num, by rw [HKN.out]; congr 1, HB2⟩
        case measure => simp [intOf]; omega
      · have hjn : j = n := by omega
        subst hjn
        go_wp2
        go_ret
        exact ⟨rfl, hB.out⟩
end U
end Go.Proofs.Ytcdodpcdennemaa

/- States, marked, and looked at anew. -/
namespace Go.Proofs.Ytcdodpcdennemaa
open Go.RowKit
namespace U
/-- The marks ahead of a state's lists. -/
def ks1 (s : St) (k : Nat) : Nat := k + s.d.length * 4
def ks2 (s : St) (k : Nat) : Nat := ks1 s k + s.n.length * 2
def ks3 (s : St) (k : Nat) : Nat := ks2 s k + s.h.length * 5
def ks4 (s : St) (k : Nat) : Nat := kAt s.p (ks3 s k) s.p.length
/-- A state of marks. -/
def mkSt (s : St) (k : Nat) : St := ⟨s.ph, s.cu, mkR k s.d.length, mkP (ks1 s k) s.n.length, mkH (ks2 s k) s.h.length, mkD s.p (ks3 s k)⟩
theorem Own.one {lo hi : Nat} {w : World} {A B : List Rw} {r : Rw} (h : Own lo hi w (A ++ ([r] ++ B))) : w.ownsRow lo r.e r.z r.v r.n r.xs ∧ ∀ g, r.v.ownBlock = some g → lo ≤ g ∧ g < hi := by
  have h1 := h.own r (by simp)
  exact ⟨h1, fun g hg => ⟨(own_blk h1 hg).1, h.hi g (mem_blks (r := r) (by simp) hg)⟩⟩
theorem Own.set1 {lo hi : Nat} {w w' : World} {A B : List Rw} {r r' : Rw} (h : Own lo hi w (A ++ ([r] ++ B))) (hv : r'.v = r.v) (hg : w.grownBy w' r.v.ownBlock) (ho : w'.ownsRow lo r'.e r'.z r'.v r'.n r'.xs) : Own lo hi w' (A ++ ([r'] ++ B)) := Own.set (A := A) (B := B) h hv hg ho
theorem Tch.box {lo hi b : Nat} {w w' : World} {s : St} {v : Sv} (h : StC w b s v) (ht : Tch lo hi w w') (hb : hi ≤ b) : StC w' b s v := by
  have e : w'.heap[b]? = w.heap[b]? := ht.block b h.lt (Or.inr hb)
  have q := fun j => World.cell?_of_block (a := ⟨b, j, none⟩) e
  exact ⟨Nat.lt_of_lt_of_le h.lt ht.size, (q 0).trans h.c0, (q 1).trans h.c1, (q 2).trans h.c2, (q 3).trans h.c3, (q 4).trans h.c4, (q 5).trans h.c5⟩
set_option maxRecDepth 100000 in
set_option maxHeartbeats 4000000 in
theorem markState_any (lo hi : Nat) (s : St) (v : Sv) (us : List Value) (k0 : Nat) (w : World) (ho : StOwn lo hi w v us s) (hhi : hi ≤ w.heap.size) (hB : StB s) (hk0 : 0 < k0 ∧ k0 ≤ 4) :
    Calls Try.prog 97 #[stV s v, .int .i64 k0] w fun e w' => e = .returned (.int .i64 ((ks4 s k0 : Nat) : Int)) ∧ Tch lo hi w w' ∧ StOwn lo hi w' v us (mkSt s k0) := by
  obtain ⟨W, hW⟩ : ∃ W, W = w.alloc (stC s v 52) := ⟨_, rfl⟩
  have hBW : Below w.heap.size w W := by rw [hW]; exact one_new _
  have hC0 : StC W w.heap.size s v := by rw [hW]; exact StC.new w s v _
  have hsts := ho.sts
  have O0 : Own lo hi W ([] ++ ([dRow v.d s.d] ++ ([nRow v.n s.n] ++ ([hRow v.h s.h] ++ ([oRow v.p us] ++ pRows us s.p s.p.length))))) := ho.own.below hBW
  have b1 := hB.d; have b2 := hB.n; have b3 := hB.h
  have hM1 := markDirectory_any lo v.d s.d k0 W O0.one.1 hB.d (by omega)
  have HM2 : Hid (∀ w', w'.ownsRow lo 88 2 v.n s.n.length ((fl s.n).map (Value.int .i64)) → Calls Try.prog 141 #[v.n, .int .i64 ((ks1 s k0 : Nat) : Int)] w' fun e w'' => e = .returned (.int .i64 ((ks2 s k0 : Nat) : Int)) ∧ w'.grownBy w'' v.n.ownBlock ∧ w''.ownsRow lo 88 2 v.n s.n.length ((fl (mkP (ks1 s k0) s.n.length)).map (Value.int .i64))) := fun w' h => markSlotS_any lo v.n s.n (ks1 s k0) w' h (by omega) (by unfold ks1; omega)
  have HM3 : Hid (∀ w', w'.ownsRow lo 147 5 v.h s.h.length (flH s.h) → Calls Try.prog 142 #[v.h, .int .i64 ((ks2 s k0 : Nat) : Int)] w' fun e w'' => e = .returned (.int .i64 ((ks3 s k0 : Nat) : Int)) ∧ w'.grownBy w'' v.h.ownBlock ∧ w''.ownsRow lo 147 5 v.h s.h.length (flH (mkH (ks2 s k0) s.h.length))) := fun w' h => markHeadS_any lo v.h s.h (ks2 s k0) w' h hB.h (by unfold ks2 ks1; omega)
  have HM4 : Hid (∀ AA w', Own lo hi w' ((AA ++ [oRow v.p us]) ++ pRows us s.p s.p.length) → Calls Try.prog 143 #[v.p, .int .i64 ((ks3 s k0 : Nat) : Int)] w' fun e w'' => e = .returned (.int .i64 ((ks4 s k0 : Nat) : Int)) ∧ Tch lo hi w' w'' ∧ Own lo hi w'' ((AA ++ [oRow v.p us]) ++ pRows us (mkD s.p (ks3 s k0)) s.p.length)) := fun AA w' h => markDirectoryS_any lo hi AA v.p us s.p (ks3 s k0) w' h ho.len hB.p (fun j hj => (hB.pd j hj).1) hB.t (by unfold ks3 ks2 ks1; omega)
  have HO0 : Hid (Own lo hi W ([] ++ ([dRow v.d s.d] ++ ([nRow v.n s.n] ++ ([hRow v.h s.h] ++ ([oRow v.p us] ++ pRows us s.p s.p.length)))))) := O0
  have HT0 : Hid (Tch lo hi w W) := Tch.of_below hBW
  have HC : Hid (∀ w', Tch lo hi W w' → StC w' w.heap.size s v) := fun w' ht => Tch.box hC0 ht hhi
  have HLN : Hid (us.length = s.p.length) := ho.len
  have HK1 : Hid (((k0 + s.d.length * 4 : Nat) : Int) = ((ks1 s k0 : Nat) : Int)) := rfl
  obtain ⟨a1, c1, e1⟩ := hsts.d.shape
  obtain ⟨a2, c2, e2⟩ := hsts.n.shape
  obtain ⟨a3, c3, e3⟩ := hsts.h.shape
  obtain ⟨a4, c4, e4⟩ := hsts.p.shape
  have HD2 : Hid ((mkR k0 s.d.length).length = s.d.length ∧ (mkP (ks1 s k0) s.n.length).length = s.n.length ∧ (mkH (ks2 s k0) s.h.length).length = s.h.length ∧ (mkD s.p (ks3 s k0)).length = s.p.length) := ⟨mkR_len _ _, mkP_len _ _, mkH_len _ _, mkD_len _ _⟩
  have HFIN : Hid (∀ w', Own lo hi w' ([dRow v.d (mkR k0 s.d.length)] ++ ([nRow v.n (mkP (ks1 s k0) s.n.length)] ++ ([hRow v.h (mkH (ks2 s k0) s.h.length)] ++ ([oRow v.p us] ++ pRows us (mkD s.p (ks3 s k0)) s.p.length)))) → StOwn lo hi w' v us (mkSt s k0)) := fun w' h => ⟨by
    show Own lo hi w' ([dRow v.d (mkR k0 s.d.length)] ++ ([nRow v.n (mkP (ks1 s k0) s.n.length)] ++ ([hRow v.h (mkH (ks2 s k0) s.h.length)] ++ ([oRow v.p us] ++ pRows us (mkD s.p (ks3 s k0)) (mkD s.p (ks3 s k0)).length))))
    rw [mkD_len]
    exact h, by show us.length = (mkD s.p (ks3 s k0)).length; rw [mkD_len]; exact HLN.out⟩
  generalize hf : mkSt s k0 = sm at *
  unfold stC at hW
  unfold stV
  rw [e1, e2, e3, e4] at hW ⊢
  have HW : Hid (w.alloc (.cells #[.int .i64 s.ph, .int .i64 s.cu, .slice a1 s.d.length c1, .slice a2 s.n.length c2, .slice a3 s.h.length c3, .slice a4 s.p.length c4] 52) = W) := hW.symm
  have HE : Hid (v.d = .slice a1 s.d.length c1 ∧ v.n = .slice a2 s.n.length c2 ∧ v.h = .slice a3 s.h.length c3 ∧ v.p = .slice a4 s.p.length c4) := ⟨e1, e2, e3, e4⟩
  have HCC : Hid (∀ w', Tch lo hi W w' → w'.cell? ⟨w.heap.size, 3, none⟩ = some (.slice a2 s.n.length c2) ∧ w'.cell? ⟨w.heap.size, 4, none⟩ = some (.slice a3 s.h.length c3) ∧ w'.cell? ⟨w.heap.size, 5, none⟩ = some (.slice a4 s.p.length c4)) := fun w' ht => by
    obtain ⟨-, -, -, -, q3, q4, q5⟩ := HC.out w' ht
    rw [HE.out.2.1] at q3
    rw [HE.out.2.2.1] at q4
    rw [HE.out.2.2.2] at q5
    exact ⟨q3, q4, q5⟩
  rw [e1] at hM1
  rw [e2] at HM2
  rw [e3] at HM3
  rw [e4] at HM4
  generalize s.ph = ph at *
  generalize s.cu = cu at *
  clear hW hBW hC0 hsts O0 HC hf ho hB e1 e2 e3 e4
  go_enter Try.func97, Try.ntmps97
  go_wp2_with fail
  rw [HW.out]
  refine hM1.mono ?_
  rintro e w1 ⟨rfl, hg1, ho1⟩
  rw [HK1.out]
  have t1 : Tch lo hi W w1 := Tch.of_grown hg1 (by have := HO0.out.one.2; rw [← HE.out.1]; exact this)
  have O1 : Own lo hi w1 ([dRow v.d (mkR k0 s.d.length)] ++ ([nRow v.n s.n] ++ ([hRow v.h s.h] ++ ([oRow v.p us] ++ pRows us s.p s.p.length)))) := by
    rw [← HE.out.1] at hg1 ho1
    refine HO0.out.set1 (r' := dRow v.d (mkR k0 s.d.length)) rfl hg1 ?_
    show w1.ownsRow lo 31 4 v.d (mkR k0 s.d.length).length (flR (mkR k0 s.d.length))
    rw [HD2.out.1]
    exact ho1
  have HO1 : Hid (Own lo hi w1 ([dRow v.d (mkR k0 s.d.length)] ++ ([nRow v.n s.n] ++ ([hRow v.h s.h] ++ ([oRow v.p us] ++ pRows us s.p s.p.length))))) := O1
  have HT1 : Hid (Tch lo hi W w1) := t1
  obtain ⟨x3, -, -⟩ := HCC.out _ t1
  have hm2 := HM2.out w1 (by rw [← HE.out.2.1]; exact O1.one.1)
  clear hM1 hg1 ho1 t1 O1 HM2 HO0 HW
  go_wp2_with fail
  refine hm2.mono ?_
  rintro e w2 ⟨rfl, hg2, ho2⟩
  have t2 : Tch lo hi W w2 := HT1.out.trans (Tch.of_grown hg2 (by have := HO1.out.one.2; rw [← HE.out.2.1]; exact this))
  have O2 : Own lo hi w2 ([dRow v.d (mkR k0 s.d.length)] ++ ([nRow v.n (mkP (ks1 s k0) s.n.length)] ++ ([hRow v.h s.h] ++ ([oRow v.p us] ++ pRows us s.p s.p.length)))) := by
    rw [← HE.out.2.1] at hg2 ho2
    refine HO1.out.set1 (r' := nRow v.n (mkP (ks1 s k0) s.n.length)) rfl hg2 ?_
    show w2.ownsRow lo 88 2 v.n (mkP (ks1 s k0) s.n.length).length ((fl (mkP (ks1 s k0) s.n.length)).map (Value.int .i64))
    rw [HD2.out.2.1]
    exact ho2
  rw [← List.append_assoc] at O2
  have HO2 : Hid (Own lo hi w2 (([dRow v.d (mkR k0 s.d.length)] ++ [nRow v.n (mkP (ks1 s k0) s.n.length)]) ++ ([hRow v.h s.h] ++ ([oRow v.p us] ++ pRows us s.p s.p.length)))) := O2
  have HT2 : Hid (Tch lo hi W w2) := t2
  obtain ⟨-, x4, -⟩ := HCC.out _ t2
  have hm3 := HM3.out w2 (by rw [← HE.out.2.2.1]; exact O2.one.1)
  clear hm2 hg2 ho2 t2 O2 HM3 HO1 x3
  go_wp2_with fail
  refine hm3.mono ?_
  rintro e w3 ⟨rfl, hg3, ho3⟩
  have t3 : Tch lo hi W w3 := HT2.out.trans (Tch.of_grown hg3 (by have := HO2.out.one.2; rw [← HE.out.2.2.1]; exact this))
  have O3 : Own lo hi w3 (([dRow v.d (mkR k0 s.d.length)] ++ [nRow v.n (mkP (ks1 s k0) s.n.length)]) ++ ([hRow v.h (mkH (ks2 s k0) s.h.length)] ++ ([oRow v.p us] ++ pRows us s.p s.p.length))) := by
    rw [← HE.out.2.2.1] at hg3 ho3
    refine HO2.out.set1 (r' := hRow v.h (mkH (ks2 s k0) s.h.length)) rfl hg3 ?_
    show w3.ownsRow lo 147 5 v.h (mkH (ks2 s k0) s.h.length).length (flH (mkH (ks2 s k0) s.h.length))
    rw [HD2.out.2.2.1]
    exact ho3
  rw [← List.append_assoc] at O3
  have HO3 : Hid (Own lo hi w3 ((([dRow v.d (mkR k0 s.d.length)] ++ [nRow v.n (mkP (ks1 s k0) s.n.length)]) ++ [hRow v.h (mkH (ks2 s k0) s.h.length)]) ++ ([oRow v.p us] ++ pRows us s.p s.p.length))) := O3
  have HT3 : Hid (Tch lo hi W w3) := t3
  obtain ⟨-, -, x5⟩ := HCC.out _ t3
  have hm4 := HM4.out (([dRow v.d (mkR k0 s.d.length)] ++ [nRow v.n (mkP (ks1 s k0) s.n.length)]) ++ [hRow v.h (mkH (ks2 s k0) s.h.length)]) w3 (by rw [← HE.out.2.2.2, List.append_assoc (([dRow v.d (mkR k0 s.d.length)] ++ [nRow v.n (mkP (ks1 s k0) s.n.length)]) ++ [hRow v.h (mkH (ks2 s k0) s.h.length)])]; exact O3)
  clear hm3 hg3 ho3 t3 O3 HM4 HO2 x4
  go_wp2_with fail
  refine hm4.mono ?_
  rintro e w4 ⟨rfl, t4, o4⟩
  have HT4 : Hid (Tch lo hi w w4) := HT0.out.trans (HT3.out.trans t4)
  have HO4 : Hid (StOwn lo hi w4 v us sm) := (by
    refine HFIN.out w4 ?_
    rw [← HE.out.2.2.2] at o4
    simp only [List.append_assoc] at o4
    exact o4 : StOwn lo hi w4 v us sm)
  clear hm4 t4 o4 x5 HO3 HFIN
  go_wp2
  go_ret
  exact ⟨rfl, HT4.out, HO4.out⟩
set_option maxRecDepth 100000 in
set_option maxHeartbeats 4000000 in
theorem heldState_any (s : St) (v : Sv) (k0 : Nat) (ph cu : Int) (w : World) (hv : Sts w v (mkSt s k0)) (hB : StB s) (hk0 : 0 < k0 ∧ k0 ≤ 4) :
    Calls Try.prog 99 #[.agg #[.int .i64 ph, .int .i64 cu, v.d, v.n, v.h, v.p], .int .i64 k0] w fun e w' => e = .returned (.int .i64 ((ks4 s k0 : Nat) : Int)) ∧ Below w.heap.size w w' := by
  obtain ⟨W, hW⟩ : ∃ W, W = w.alloc (.cells #[.int .i64 ph, .int .i64 cu, v.d, v.n, v.h, v.p] 52) := ⟨_, rfl⟩
  have hBW : Below w.heap.size w W := by rw [hW]; exact one_new _
  have b1 := hB.d; have b2 := hB.n; have b3 := hB.h
  have hd : Rcs w v.d (mkR k0 s.d.length) := hv.d
  have hn : Prs w v.n (mkP (ks1 s k0) s.n.length) := hv.n
  have hh : Hds w v.h (mkH (ks2 s k0) s.h.length) := hv.h
  have hp : Dss w v.p (mkD s.p (ks3 s k0)) := hv.p
  have hM1 := heldDirectory_any v.d s.d.length k0 W (hd.below hBW) hB.d (by omega)
  have HM2 : Hid (∀ w', Below W.heap.size W w' → Calls Try.prog 145 #[v.n, .int .i64 ((ks1 s k0 : Nat) : Int)] w' fun e w'' => e = .returned (.int .i64 ((ks2 s k0 : Nat) : Int)) ∧ w'' = w') := fun w' hb => heldSlotS_any v.n s.n.length (ks1 s k0) w' ((hn.below hBW).below hb) (by omega) (by unfold ks1; omega)
  have HM3 : Hid (∀ w', Below W.heap.size W w' → Calls Try.prog 146 #[v.h, .int .i64 ((ks2 s k0 : Nat) : Int)] w' fun e w'' => e = .returned (.int .i64 ((ks3 s k0 : Nat) : Int)) ∧ w'' = w') := fun w' hb => heldHeadS_any v.h s.h.length (ks2 s k0) w' ((hh.below hBW).below hb) hB.h (by unfold ks2 ks1; omega)
  have HM4 : Hid (∀ w', Below W.heap.size W w' → Calls Try.prog 147 #[v.p, .int .i64 ((ks3 s k0 : Nat) : Int)] w' fun e w'' => e = .returned (.int .i64 ((ks4 s k0 : Nat) : Int)) ∧ Below w'.heap.size w' w'') := fun w' hb => heldDirectoryS_any v.p s.p (ks3 s k0) w' ((hp.below hBW).below hb) hB.p (fun j hj => (hB.pd j hj).1) hB.t (by unfold ks3 ks2 ks1; omega)
  have HK1 : Hid (((k0 + s.d.length * 4 : Nat) : Int) = ((ks1 s k0 : Nat) : Int)) := rfl
  obtain ⟨a1, c1, e1⟩ := hd.shape
  obtain ⟨a2, c2, e2⟩ := hn.shape
  obtain ⟨a3, c3, e3⟩ := hh.shape
  obtain ⟨a4, c4, e4⟩ := hp.shape
  rw [mkR_len] at e1
  rw [mkP_len] at e2
  rw [mkH_len] at e3
  rw [mkD_len] at e4
  rw [e1, e2, e3, e4] at hW ⊢
  rw [e1] at hM1
  rw [e2] at HM2
  rw [e3] at HM3
  rw [e4] at HM4
  rw [HK1.out] at hM1
  have HX : Hid (∀ w', Below W.heap.size W w' → w'.cell? ⟨w.heap.size, 3, none⟩ = some (.slice a2 s.n.length c2) ∧ w'.cell? ⟨w.heap.size, 4, none⟩ = some (.slice a3 s.h.length c3) ∧ w'.cell? ⟨w.heap.size, 5, none⟩ = some (.slice a4 s.p.length c4)) := fun w' hb => by
    have h1 := heap_alloc_new w (.cells #[.int .i64 ph, .int .i64 cu, .slice a1 s.d.length c1, .slice a2 s.n.length c2, .slice a3 s.h.length c3, .slice a4 s.p.length c4] 52)
    rw [← hW] at h1
    obtain ⟨⟨-, -, -, q3, q4, q5⟩, -⟩ := six_cellsS ((hb.block _ (Array.getElem?_eq_some_iff.1 h1).1).trans h1)
    exact ⟨q3, q4, q5⟩
  have HW : Hid (w.alloc (.cells #[.int .i64 ph, .int .i64 cu, .slice a1 s.d.length c1, .slice a2 s.n.length c2, .slice a3 s.h.length c3, .slice a4 s.p.length c4] 52) = W) := hW.symm
  have n1 : ¬ ((ks1 s k0 : Nat) : Int) < 0 := by omega
  have n2 : ¬ ((ks2 s k0 : Nat) : Int) < 0 := by omega
  have n3 : ¬ ((ks3 s k0 : Nat) : Int) < 0 := by omega
  have n4 : ¬ ((ks4 s k0 : Nat) : Int) < 0 := by omega
  generalize ((ks1 s k0 : Nat) : Int) = z1 at *
  generalize ((ks2 s k0 : Nat) : Int) = z2 at *
  generalize ((ks3 s k0 : Nat) : Int) = z3 at *
  generalize ((ks4 s k0 : Nat) : Int) = z4 at *
  generalize s.d.length = m1 at *
  generalize s.n.length = m2 at *
  generalize s.h.length = m3 at *
  generalize s.p.length = m4 at *
  clear hv hB hd hn hh hp hW e1 e2 e3 e4 HK1
  go_enter Try.func99, Try.ntmps99
  go_wp2_with fail
  rw [HW.out]
  refine hM1.mono ?_
  rintro e w1 ⟨rfl, hb1⟩
  obtain ⟨x3, -, -⟩ := HX.out _ hb1
  have hm := HM2.out _ hb1
  clear hM1 HW
  go_wp2_with fail
  refine hm.mono ?_
  rintro e w2 ⟨rfl, hw2⟩
  have hb2 : Below W.heap.size W w2 := by rw [hw2]; exact hb1
  obtain ⟨-, x4, -⟩ := HX.out _ hb2
  have hm3 := HM3.out _ hb2
  clear hm x3 hw2 hb1
  go_wp2_with fail
  refine hm3.mono ?_
  rintro e w3 ⟨rfl, hw3⟩
  have hb3 : Below W.heap.size W w3 := by rw [hw3]; exact hb2
  obtain ⟨-, -, x5⟩ := HX.out _ hb3
  have hm4 := HM4.out _ hb3
  clear hm3 x4 hw3 hb2
  go_wp2_with fail
  refine hm4.mono ?_
  rintro e w4 ⟨rfl, hb4⟩
  have hb5 := below_after_of hBW (below_after_of hb3 hb4)
  clear hm4 x5 hb3 hb4
  go_wp2
  go_ret
  exact ⟨rfl, hb5⟩
end U
end Go.Proofs.Ytcdodpcdennemaa

/- States as the laws look at them: compared. -/
namespace Go.Proofs.Ytcdodpcdennemaa
open Go.RowKit
namespace U
set_option maxRecDepth 100000 in
set_option maxHeartbeats 4000000 in
theorem eqDirectoryS_core (b off c b' off' c' n : Nat) (p : Pst) (w : World) (hx : n ≤ 1048576) (hb : b < w.heap.size) (hb' : b' < w.heap.size) (hpd : ∀ j, j < n → (dAt p j).length ≤ 1048576) (hc : ∀ j, j < n → ∃ u, w.cell? ⟨b, off + j, none⟩ = some u ∧ Rcs w u (dAt p j)) (hc' : ∀ j, j < n → ∃ u, w.cell? ⟨b', off' + j, none⟩ = some u ∧ Rcs w u (dAt p j)) :
    Calls Try.prog 115 #[.slice (some ⟨b, off, none⟩) n c, .slice (some ⟨b', off', none⟩) n c'] w fun e w' => e = .returned (.bool true) ∧ Below w.heap.size w w' := by
  have hnn := hne_all
  go_enter Try.func115, Try.ntmps115
  go_wp2
  go_loopw [5] (fun i wr => ∃ k : Nat, k ≤ n ∧ i = .int .i64 k ∧ Hid (Below w.heap.size w wr)) (fun i _ => n - (intOf i).toNat)
  case atStart => exact ⟨0, Nat.zero_le _, rfl, Below.refl _ _⟩
  case round =>
    obtain ⟨k, hk, rfl, hB⟩ := hrel
    by_cases hkn : k < n
    · have hki : (k : Int) < (n : Int) := by omega
      obtain ⟨u, hu, hr⟩ := hc k hkn
      obtain ⟨u', hu', hr'⟩ := hc' k hkn
      have d0 := (hB.out.cell (p := ⟨b, off + k, none⟩) hb).trans hu
      have d0' := (hB.out.cell (p := ⟨b', off' + k, none⟩) hb').trans hu'
      have hE := fun w' (h : Below wr.heap.size wr w') => eqDirectory_same u u' (dAt p k) w' (hr.below (below_after_of hB.out h)) (hr'.below (below_after_of hB.out h)) (hpd k hkn)
      obtain ⟨a1, c1, rfl⟩ := hr.shape
      obtain ⟨a2, c2, rfl⟩ := hr'.shape
      generalize (dAt p k).length = m at *
      have q0 := After.cell d0
      have p0 := After.cell d0'
      have hne := After.ne wr
      clear hc hc' d0 d0' hu hu' hr hr' hpd
      go_wp2_with fail
      refine wp_region_after (by kernel_rfl) (by kernel_rfl) ?_
      repeat (first | go_big_quiet_skip | (go_big_quiet_want; go_big_quiet_op; first | go_big_quiet_on | go_big_quiet_call (first | (go_at_call 113; refine (hE _ (After.b _)).mono ?_; rintro e wq ⟨rfl, hbq⟩; exact ⟨rfl, after_mk (below_after_of (After.b _) hbq)⟩))))
      refine wpQuiet_nil ?_
      rintro _ ⟨n6, rfl⟩
      have HB6 : Hid (Below w.heap.size w n6.w) := below_after_of hB.out n6.b
      generalize n6.w = w6 at *
      clear hne q0 p0 n6 hE
      go_wp2
      go_roundw
      case rel => exact ⟨k + 1, by omega, by go_num, HB6⟩
      case measure => simp [intOf]; omega
    · have hkn : k = n := by omega
      subst hkn
      clear hc hc'
      go_wp2
      go_ret
      exact ⟨rfl, hB.out⟩
set_option maxRecDepth 100000 in
set_option maxHeartbeats 1000000 in
theorem eqDirectoryS_same (v u : Value) (p : Pst) (w : World) (hv : Dss w v p) (hu : Dss w u p) (hx : p.length ≤ 1048576) (hpd : ∀ j, j < p.length → (dAt p j).length ≤ 1048576) :
    Calls Try.prog 115 #[v, u] w fun e w' => e = .returned (.bool true) ∧ Below w.heap.size w w' := by
  obtain ⟨a, c, rfl⟩ := hv.shape
  obtain ⟨a', c', rfl⟩ := hu.shape
  by_cases h0 : 0 < p.length
  · obtain ⟨-, b, off, rfl, hb, hc⟩ := hv.at h0
    obtain ⟨-, b', off', rfl, hb', hc'⟩ := hu.at h0
    exact eqDirectoryS_core b off c b' off' c' p.length p w hx hb hb' hpd hc hc'
  · have e1 : p = [] := List.eq_nil_of_length_eq_zero (by omega)
    subst e1
    simp only [List.length_nil] at *
    clear hv hu h0
    go_enter Try.func115, Try.ntmps115
    go_wp2
    refine wp_loop_rounds 1 ?_; rw [rounds_succ]
    go_wp2
    go_ret
    exact ⟨rfl, Below.refl _ _⟩
set_option maxRecDepth 100000 in
set_option maxHeartbeats 2000000 in
theorem eqState_same (s : St) (v u : Sv) (w : World) (hv : Sts w v s) (hu : Sts w u s) (hB : StB s) :
    Calls Try.prog 68 #[stV s v, stV s u] w fun e w' => e = .returned (.bool true) ∧ Below w.heap.size w w' := by
  obtain ⟨W, hW⟩ : ∃ W, W = (w.alloc (stC s v 52)).alloc (stC s u 52) := ⟨_, rfl⟩
  have hBW : Below w.heap.size w W := by rw [hW]; exact two_new _ _
  have hC1 : StC W w.heap.size s v := by rw [hW]; exact (StC.new w s v _).below (one_new _) (by simp)
  have hC2 : StC W (w.heap.size + 1) s u := by
    have := StC.new (w.alloc (stC s v 52)) s u 52
    rw [World.size_alloc] at this
    rw [hW]
    exact this
  have hnn := hne_all
  have HC : Hid (∀ w', Below W.heap.size W w' → StC w' w.heap.size s v ∧ StC w' (w.heap.size + 1) s u) := fun w' hb => ⟨hC1.below hb hC1.lt, hC2.below hb hC2.lt⟩
  have HD : Hid (∀ w', Below W.heap.size W w' → Calls Try.prog 113 #[.agg #[v.d], .agg #[u.d]] w' fun e w'' => e = .returned (.bool true) ∧ Below w'.heap.size w' w'') := fun w' hb => eqDirectory_same v.d u.d s.d w' ((hv.d.below hBW).below hb) ((hu.d.below hBW).below hb) hB.d
  have HN : Hid (∀ w', Below W.heap.size W w' → Calls Try.prog 114 #[v.n, u.n] w' fun e w'' => e = .returned (.bool true) ∧ Below w'.heap.size w' w'') := fun w' hb => by
    have := eqSlotS_any v.n u.n s.n s.n w' ((hv.n.below hBW).below hb) ((hu.n.below hBW).below hb) (by have := hB.n; omega) (by have := hB.n; omega)
    rw [decide_eq_true rfl] at this
    exact this
  have HH : Hid (∀ w', Below W.heap.size W w' → Calls Try.prog 41 #[v.h, u.h] w' fun e w'' => e = .returned (.bool true) ∧ Below w'.heap.size w' w'') := fun w' hb => eqHeadS_same v.h u.h s.h w' ((hv.h.below hBW).below hb) ((hu.h.below hBW).below hb) hB.h
  have HP : Hid (∀ w', Below W.heap.size W w' → Calls Try.prog 115 #[v.p, u.p] w' fun e w'' => e = .returned (.bool true) ∧ Below w'.heap.size w' w'') := fun w' hb => eqDirectoryS_same v.p u.p s.p w' ((hv.p.below hBW).below hb) ((hu.p.below hBW).below hb) hB.p (fun j hj => (hB.pd j hj).1)
  obtain ⟨a1, c1, e1⟩ := hv.d.shape
  obtain ⟨a2, c2, e2⟩ := hv.n.shape
  obtain ⟨a3, c3, e3⟩ := hv.h.shape
  obtain ⟨a4, c4, e4⟩ := hv.p.shape
  obtain ⟨b1, k1, f1⟩ := hu.d.shape
  obtain ⟨b2, k2, f2⟩ := hu.n.shape
  obtain ⟨b3, k3, f3⟩ := hu.h.shape
  obtain ⟨b4, k4, f4⟩ := hu.p.shape
  obtain ⟨ph, cu, d, n, h, p⟩ := s
  obtain ⟨vd, vn, vh, vp⟩ := v
  obtain ⟨ud, un, uh, up⟩ := u
  dsimp only at *
  subst e1 e2 e3 e4 f1 f2 f3 f4
  unfold stC at hW
  unfold stV
  dsimp only at *
  have HLN : Hid (∀ w', Below W.heap.size W w' → (w'.cell? ⟨w.heap.size, 0, none⟩ = some (.int .i64 ph) ∧ w'.cell? ⟨w.heap.size, 1, none⟩ = some (.int .i64 cu) ∧ w'.cell? ⟨w.heap.size, 2, none⟩ = some (.slice a1 d.length c1) ∧ w'.cell? ⟨w.heap.size, 3, none⟩ = some (.slice a2 n.length c2) ∧ w'.cell? ⟨w.heap.size, 4, none⟩ = some (.slice a3 h.length c3) ∧ w'.cell? ⟨w.heap.size, 5, none⟩ = some (.slice a4 p.length c4)) ∧ w'.cell? ⟨w.heap.size + 1, 0, none⟩ = some (.int .i64 ph) ∧ w'.cell? ⟨w.heap.size + 1, 1, none⟩ = some (.int .i64 cu) ∧ w'.cell? ⟨w.heap.size + 1, 2, none⟩ = some (.slice b1 d.length k1) ∧ w'.cell? ⟨w.heap.size + 1, 3, none⟩ = some (.slice b2 n.length k2) ∧ w'.cell? ⟨w.heap.size + 1, 4, none⟩ = some (.slice b3 h.length k3) ∧ w'.cell? ⟨w.heap.size + 1, 5, none⟩ = some (.slice b4 p.length k4)) := fun w' hb => by
    obtain ⟨x, y⟩ := HC.out w' hb
    exact ⟨⟨x.c0, x.c1, x.c2, x.c3, x.c4, x.c5⟩, y.c0, y.c1, y.c2, y.c3, y.c4, y.c5⟩
  have HW : Hid ((w.alloc (.cells #[.int .i64 ph, .int .i64 cu, .slice a1 d.length c1, .slice a2 n.length c2, .slice a3 h.length c3, .slice a4 p.length c4] 52)).alloc (.cells #[.int .i64 ph, .int .i64 cu, .slice b1 d.length k1, .slice b2 n.length k2, .slice b3 h.length k3, .slice b4 p.length k4] 52) = W) := hW.symm
  have HBW : Hid (Below w.heap.size w W) := hBW
  generalize d.length = dn at *
  generalize n.length = nn at *
  generalize h.length = hn at *
  generalize p.length = pn at *
  clear hv hu hB hC1 hC2 HC hW hBW
  go_enter Try.func68, Try.ntmps68
  go_wp2_with fail
  rw [HW.out]
  refine (HD.out _ (Below.refl _ _)).mono ?_
  rintro e w1 ⟨rfl, hb1⟩
  obtain ⟨⟨-, -, -, x3, -, -⟩, -, -, -, y3, -, -⟩ := HLN.out _ hb1
  go_wp2_with fail
  refine (HN.out _ hb1).mono ?_
  rintro e w2 ⟨rfl, hb2⟩
  have hb2 := below_after_of hb1 hb2
  clear hb1 x3 y3
  obtain ⟨⟨-, -, -, -, x4, -⟩, -, -, -, -, y4, -⟩ := HLN.out _ hb2
  go_wp2_with fail
  refine (HH.out _ hb2).mono ?_
  rintro e w3 ⟨rfl, hb3⟩
  have hb3 := below_after_of hb2 hb3
  clear hb2 x4 y4
  obtain ⟨⟨-, -, -, -, -, x5⟩, -, -, -, -, -, y5⟩ := HLN.out _ hb3
  go_wp2_with fail
  refine (HP.out _ hb3).mono ?_
  rintro e w4 ⟨rfl, hb4⟩
  have hb4 := below_after_of hb3 hb4
  clear hb3 x5 y5
  go_wp2
  go_ret
  exact ⟨rfl, below_after_of HBW.out hb4⟩
end U
end Go.Proofs.Ytcdodpcdennemaa

/- The law on NewServer, walked: true, and nothing that was there has turned. -/
namespace Go.Proofs.Ytcdodpcdennemaa
open Go.RowKit
namespace U
def nvS : St := ⟨1, 0, [], [], [], []⟩
def nvU : Sv := ⟨.slice none 0 0, .slice none 0 0, .slice none 0 0, .slice none 0 0⟩
theorem nvS_sts (w : World) : Sts w nvU nvS := ⟨Rcs.nil _ _ _, Or.inl ⟨rfl, _, _, rfl⟩, Hds.nil _ _ _, Dss.nil _ _ _⟩
theorem nvS_stb : StB nvS := by
  refine ⟨Nat.zero_le _, ?_, Nat.zero_le _, Nat.zero_le _, Nat.zero_le _, ?_, ?_⟩
  · intro r hr
    cases hr
  · intro j hj
    exact absurd hj (Nat.not_lt_zero j)
  · intro j hj
    have : j = 0 := Nat.le_zero.1 hj
    subst this
    exact Nat.zero_le _
theorem nvS_own (w : World) : StOwn 0 0 w nvU [] nvS := by
  refine ⟨⟨fun r hr => ?_, fun g hg => ?_, ?_⟩, rfl⟩
  · have : r = dRow (.slice none 0 0) [] ∨ r = nRow (.slice none 0 0) [] ∨ r = hRow (.slice none 0 0) [] ∨ r = oRow (.slice none 0 0) [] := by simpa [sRows, nvU, nvS, pRows] using hr
    rcases this with rfl | rfl | rfl | rfl <;> exact ⟨rfl, Or.inl ⟨rfl, rfl⟩⟩
  · simp [sRows, nvU, nvS, pRows, blks, dRow, nRow, hRow, oRow, Value.ownBlock] at hg
  · simp [sRows, nvU, nvS, pRows, blks, dRow, nRow, hRow, oRow, Value.ownBlock]
theorem Tch.noneV {w w' : World} (h : Tch 0 0 w w') : Below w.heap.size w w' := ⟨h.os, h.tape, h.output, h.size, fun k hk => h.block k hk (Or.inr (Nat.zero_le _))⟩
theorem seven_cellsV {w : World} {b : Nat} {x0 x1 x2 x3 x4 x5 x6 : Value} {t : TypeId} (h : w.heap[b]? = some (.cells #[x0, x1, x2, x3, x4, x5, x6] t)) : (w.cell? ⟨b, 0, none⟩ = some x0 ∧ w.cell? ⟨b, 1, none⟩ = some x1 ∧ w.cell? ⟨b, 2, none⟩ = some x2 ∧ w.cell? ⟨b, 3, none⟩ = some x3 ∧ w.cell? ⟨b, 4, none⟩ = some x4 ∧ w.cell? ⟨b, 5, none⟩ = some x5 ∧ w.cell? ⟨b, 6, none⟩ = some x6) ∧ w.frozen? ⟨b, 0, none⟩ = false ∧ w.frozen? ⟨b, 1, none⟩ = false ∧ w.frozen? ⟨b, 2, none⟩ = false ∧ w.frozen? ⟨b, 3, none⟩ = false ∧ w.frozen? ⟨b, 4, none⟩ = false ∧ w.frozen? ⟨b, 5, none⟩ = false ∧ w.frozen? ⟨b, 6, none⟩ = false := by
  simp [World.cell?, World.frozen?, h]
theorem eight_cellsV {w : World} {b : Nat} {x0 x1 x2 x3 x4 x5 x6 x7 : Value} {t : TypeId} (h : w.heap[b]? = some (.cells #[x0, x1, x2, x3, x4, x5, x6, x7] t)) : (w.cell? ⟨b, 0, none⟩ = some x0 ∧ w.cell? ⟨b, 1, none⟩ = some x1 ∧ w.cell? ⟨b, 2, none⟩ = some x2 ∧ w.cell? ⟨b, 3, none⟩ = some x3 ∧ w.cell? ⟨b, 4, none⟩ = some x4 ∧ w.cell? ⟨b, 5, none⟩ = some x5 ∧ w.cell? ⟨b, 6, none⟩ = some x6 ∧ w.cell? ⟨b, 7, none⟩ = some x7) ∧ w.frozen? ⟨b, 0, none⟩ = false ∧ w.frozen? ⟨b, 1, none⟩ = false ∧ w.frozen? ⟨b, 2, none⟩ = false ∧ w.frozen? ⟨b, 3, none⟩ = false ∧ w.frozen? ⟨b, 4, none⟩ = false ∧ w.frozen? ⟨b, 5, none⟩ = false ∧ w.frozen? ⟨b, 6, none⟩ = false ∧ w.frozen? ⟨b, 7, none⟩ = false := by
  simp [World.cell?, World.frozen?, h]
theorem nine_cellsV {w : World} {b : Nat} {x0 x1 x2 x3 x4 x5 x6 x7 x8 : Value} {t : TypeId} (h : w.heap[b]? = some (.cells #[x0, x1, x2, x3, x4, x5, x6, x7, x8] t)) : (w.cell? ⟨b, 0, none⟩ = some x0 ∧ w.cell? ⟨b, 1, none⟩ = some x1 ∧ w.cell? ⟨b, 2, none⟩ = some x2 ∧ w.cell? ⟨b, 3, none⟩ = some x3 ∧ w.cell? ⟨b, 4, none⟩ = some x4 ∧ w.cell? ⟨b, 5, none⟩ = some x5 ∧ w.cell? ⟨b, 6, none⟩ = some x6 ∧ w.cell? ⟨b, 7, none⟩ = some x7 ∧ w.cell? ⟨b, 8, none⟩ = some x8) ∧ w.frozen? ⟨b, 0, none⟩ = false ∧ w.frozen? ⟨b, 1, none⟩ = false ∧ w.frozen? ⟨b, 2, none⟩ = false ∧ w.frozen? ⟨b, 3, none⟩ = false ∧ w.frozen? ⟨b, 4, none⟩ = false ∧ w.frozen? ⟨b, 5, none⟩ = false ∧ w.frozen? ⟨b, 6, none⟩ = false ∧ w.frozen? ⟨b, 7, none⟩ = false ∧ w.frozen? ⟨b, 8, none⟩ = false := by
  simp [World.cell?, World.frozen?, h]
set_option maxRecDepth 100000 in
set_option maxHeartbeats 1000000 in
theorem implNewState_v (w : World) : Calls Try.prog 58 #[] w fun e w' => e = .returned (.agg #[.int .i64 0, .int .i64 1, .int .i64 0, .slice none 0 0, .slice none 0 0, .slice none 0 0, .slice none 0 0]) ∧ Below w.heap.size w w' := by
  go_enter Try.func58, Try.ntmps58
  go_wp2
  exact bodyPost_ret (v := .agg #[.int .i64 0, .int .i64 1, .int .i64 0, .slice none 0 0, .slice none 0 0, .slice none 0 0, .slice none 0 0]) (by simp [results, Try.results58, go_sem]) rfl ⟨rfl, one_new _⟩
set_option maxRecDepth 100000 in
set_option maxHeartbeats 1000000 in
theorem l12New_v (w : World) : Calls Try.prog 57 #[] w fun e w' => e = .returned (.agg #[.int .i64 1, .int .i64 0, .slice none 0 0, .slice none 0 0, .slice none 0 0, .slice none 0 0, .slice none 0 0, .int .i64 0]) ∧ Below w.heap.size w w' := by
  have hS : ∀ w : World, Calls Try.prog 96 #[] w fun e w' => e = .returned (.agg #[.int .i64 1, .int .i64 0, .slice none 0 0, .slice none 0 0, .slice none 0 0, .slice none 0 0]) ∧ Below w.heap.size w w' := fun w => by
    go_enter Try.func96, Try.ntmps96
    go_wp2
    exact bodyPost_ret (v := .agg #[.int .i64 1, .int .i64 0, .slice none 0 0, .slice none 0 0, .slice none 0 0, .slice none 0 0]) (by simp [results, Try.results96, go_sem]) rfl ⟨rfl, one_new _⟩
  obtain ⟨W, hW⟩ : ∃ W, W = w.alloc (.cells #[.int .i64 0, .int .i64 0, .slice none 0 0, .slice none 0 0, .slice none 0 0, .slice none 0 0, .slice none 0 0, .int .i64 0] 55) := ⟨_, rfl⟩
  have HW : Hid (w.alloc (.cells #[.int .i64 0, .int .i64 0, .slice none 0 0, .slice none 0 0, .slice none 0 0, .slice none 0 0, .slice none 0 0, .int .i64 0] 55) = W) := hW.symm
  have hB : Below w.heap.size w W := by rw [hW]; exact one_new _
  have hH : W.heap[w.heap.size]? = some (.cells #[.int .i64 0, .int .i64 0, .slice none 0 0, .slice none 0 0, .slice none 0 0, .slice none 0 0, .slice none 0 0, .int .i64 0] 55) := by rw [hW]; exact heap_alloc_new w _
  clear hW
  go_enter Try.func57, Try.ntmps57
  go_wp2_with fail
  rw [HW.out]
  refine (hS _).mono ?_
  rintro e w1 ⟨rfl, hb1⟩
  obtain ⟨⟨c0, c1, c2, c3, c4, c5, c6, c7⟩, f0, f1, f2, f3, f4, f5, f6, f7⟩ := eight_cellsV ((hb1.block _ (Array.getElem?_eq_some_iff.1 hH).1).trans hH)
  have hB1 := below_after_of hB hb1
  clear hS HW hb1 hH
  go_wp2
  exact bodyPost_ret (v := .agg #[.int .i64 1, .int .i64 0, .slice none 0 0, .slice none 0 0, .slice none 0 0, .slice none 0 0, .slice none 0 0, .int .i64 0]) (by simp [results, Try.results57, go_sem, c0, c1, c2, c3, c4, c5, c6, c7]) rfl ⟨rfl, (((((((hB1.setCell (Nat.le_refl _) _).setCell (Nat.le_refl _) _).setCell (Nat.le_refl _) _).setCell (Nat.le_refl _) _).setCell (Nat.le_refl _) _).setCell (Nat.le_refl _) _).setCell (Nat.le_refl _) _).setCell (Nat.le_refl _) _⟩
set_option maxRecDepth 100000 in
set_option maxHeartbeats 1000000 in
theorem specNewServer_v (w : World) : Calls Try.prog 22 #[] w fun e w' => e = .returned (.agg #[.int .i64 0, .int .i64 1, .int .i64 0, .slice none 0 0, .slice none 0 0, .slice none 0 0, .slice none 0 0, .slice none 0 0, .int .i64 0]) ∧ Below w.heap.size w w' := by
  have hS := fun w => l12New_v w
  obtain ⟨W, hW⟩ : ∃ W, W = w.alloc (.cells #[.int .i64 0, .int .i64 0, .int .i64 0, .slice none 0 0, .slice none 0 0, .slice none 0 0, .slice none 0 0, .slice none 0 0, .int .i64 0] 57) := ⟨_, rfl⟩
  have HW : Hid (w.alloc (.cells #[.int .i64 0, .int .i64 0, .int .i64 0, .slice none 0 0, .slice none 0 0, .slice none 0 0, .slice none 0 0, .slice none 0 0, .int .i64 0] 57) = W) := hW.symm
  have hB : Below w.heap.size w W := by rw [hW]; exact one_new _
  have hH : W.heap[w.heap.size]? = some (.cells #[.int .i64 0, .int .i64 0, .int .i64 0, .slice none 0 0, .slice none 0 0, .slice none 0 0, .slice none 0 0, .slice none 0 0, .int .i64 0] 57) := by rw [hW]; exact heap_alloc_new w _
  clear hW
  go_enter Try.func22, Try.ntmps22
  go_wp2_with fail
  rw [HW.out]
  refine (hS _).mono ?_
  rintro e w1 ⟨rfl, hb1⟩
  obtain ⟨⟨c0, c1, c2, c3, c4, c5, c6, c7, c8⟩, f0, f1, f2, f3, f4, f5, f6, f7, f8⟩ := nine_cellsV ((hb1.block _ (Array.getElem?_eq_some_iff.1 hH).1).trans hH)
  have hB1 := below_after_of hB hb1
  clear hS HW hb1 hH
  go_wp2
  exact bodyPost_ret (v := .agg #[.int .i64 0, .int .i64 1, .int .i64 0, .slice none 0 0, .slice none 0 0, .slice none 0 0, .slice none 0 0, .slice none 0 0, .int .i64 0]) (by simp [results, Try.results22, go_sem, c0, c1, c2, c3, c4, c5, c6, c7, c8]) rfl ⟨rfl, ((((((((hB1.setCell (Nat.le_refl _) _).setCell (Nat.le_refl _) _).setCell (Nat.le_refl _) _).setCell (Nat.le_refl _) _).setCell (Nat.le_refl _) _).setCell (Nat.le_refl _) _).setCell (Nat.le_refl _) _).setCell (Nat.le_refl _) _).setCell (Nat.le_refl _) _⟩
theorem fldSR1v (w : World) : (Instr.field 123 (.agg #[.int .i64 0, .int .i64 1, .int .i64 0, .slice none 0 0, .slice none 0 0, .slice none 0 0, .slice none 0 0]) 1).run Try.prog w = .ok (.agg #[.int .i64 1, .int .i64 0, .slice none 0 0, .slice none 0 0, .slice none 0 0, .slice none 0 0]) w := by kernel_rfl
set_option maxRecDepth 100000 in
set_option maxHeartbeats 1000000 in
theorem implNewServer_v (w : World) : Calls Try.prog 23 #[] w fun e w' => e = .returned (.agg #[.int .i64 0, .int .i64 1, .int .i64 0, .slice none 0 0, .slice none 0 0, .slice none 0 0, .slice none 0 0, .slice none 0 0, .int .i64 0]) ∧ Below w.heap.size w w' := by
  have hS := fun w => implNewState_v w
  have hf := fun w => fldSR1v w
  obtain ⟨W, hW⟩ : ∃ W, W = w.alloc (.cells #[.int .i64 0, .int .i64 0, .int .i64 0, .slice none 0 0, .slice none 0 0, .slice none 0 0, .slice none 0 0, .slice none 0 0, .int .i64 0] 57) := ⟨_, rfl⟩
  have HW : Hid (w.alloc (.cells #[.int .i64 0, .int .i64 0, .int .i64 0, .slice none 0 0, .slice none 0 0, .slice none 0 0, .slice none 0 0, .slice none 0 0, .int .i64 0] 57) = W) := hW.symm
  have hB : Below w.heap.size w W := by rw [hW]; exact one_new _
  have hH : W.heap[w.heap.size]? = some (.cells #[.int .i64 0, .int .i64 0, .int .i64 0, .slice none 0 0, .slice none 0 0, .slice none 0 0, .slice none 0 0, .slice none 0 0, .int .i64 0] 57) := by rw [hW]; exact heap_alloc_new w _
  clear hW
  go_enter Try.func23, Try.ntmps23
  go_wp2_with fail
  rw [HW.out]
  refine (hS _).mono ?_
  rintro e w1 ⟨rfl, hb1⟩
  obtain ⟨⟨c0, c1, c2, c3, c4, c5, c6, c7, c8⟩, f0, f1, f2, f3, f4, f5, f6, f7, f8⟩ := nine_cellsV ((hb1.block _ (Array.getElem?_eq_some_iff.1 hH).1).trans hH)
  have hB1 := below_after_of hB hb1
  clear hS HW hb1 hH
  go_wp2
  exact bodyPost_ret (v := .agg #[.int .i64 0, .int .i64 1, .int .i64 0, .slice none 0 0, .slice none 0 0, .slice none 0 0, .slice none 0 0, .slice none 0 0, .int .i64 0]) (by simp [results, Try.results23, go_sem, c0, c1, c2, c3, c4, c5, c6, c7, c8]) rfl ⟨rfl, ((((((((hB1.setCell (Nat.le_refl _) _).setCell (Nat.le_refl _) _).setCell (Nat.le_refl _) _).setCell (Nat.le_refl _) _).setCell (Nat.le_refl _) _).setCell (Nat.le_refl _) _).setCell (Nat.le_refl _) _).setCell (Nat.le_refl _) _).setCell (Nat.le_refl _) _⟩
set_option maxRecDepth 100000 in
set_option maxHeartbeats 1000000 in
theorem eqByteSS_v (w : World) : Calls Try.prog 69 #[.slice none 0 0, .slice none 0 0] w fun e w' => e = .returned (.bool true) ∧ Below w.heap.size w w' := by
  go_enter Try.func69, Try.ntmps69
  go_wp2
  refine wp_loop_rounds 1 ?_; rw [rounds_succ]
  go_wp2
  go_ret
  exact ⟨rfl, Below.refl _ _⟩
set_option maxRecDepth 100000 in
set_option maxHeartbeats 1000000 in
theorem markByteSS_v (w : World) : Calls Try.prog 98 #[.slice none 0 0, .int .i64 1] w fun e w' => e = .returned (.int .i64 1) ∧ Below w.heap.size w w' := by
  go_enter Try.func98, Try.ntmps98
  go_wp2
  refine wp_loop_rounds 1 ?_; rw [rounds_succ]
  go_wp2
  go_ret
  exact ⟨rfl, Below.refl _ _⟩
set_option maxRecDepth 100000 in
set_option maxHeartbeats 1000000 in
theorem heldByteSS_v (w : World) : Calls Try.prog 100 #[.slice none 0 0, .int .i64 1] w fun e w' => e = .returned (.int .i64 1) ∧ Below w.heap.size w w' := by
  go_enter Try.func100, Try.ntmps100
  go_wp2
  refine wp_loop_rounds 1 ?_; rw [rounds_succ]
  go_wp2
  go_ret
  exact ⟨rfl, Below.refl _ _⟩
set_option maxRecDepth 100000 in
set_option maxHeartbeats 1000000 in
theorem eqServer_v (w : World) : Calls Try.prog 31 #[.agg #[.int .i64 1, .int .i64 0, .slice none 0 0, .slice none 0 0, .slice none 0 0, .slice none 0 0, .slice none 0 0, .int .i64 0], .agg #[.int .i64 1, .int .i64 0, .slice none 0 0, .slice none 0 0, .slice none 0 0, .slice none 0 0, .slice none 0 0, .int .i64 0]] w fun e w' => e = .returned (.bool true) ∧ Below w.heap.size w w' := by
  have hE : ∀ w : World, Calls Try.prog 68 #[.agg #[.int .i64 1, .int .i64 0, .slice none 0 0, .slice none 0 0, .slice none 0 0, .slice none 0 0], .agg #[.int .i64 1, .int .i64 0, .slice none 0 0, .slice none 0 0, .slice none 0 0, .slice none 0 0]] w fun e w' => e = .returned (.bool true) ∧ Below w.heap.size w w' := fun w => eqState_same nvS nvU nvU w (nvS_sts w) (nvS_sts w) nvS_stb
  have hL := fun w => eqByteSS_v w
  obtain ⟨W, hW⟩ : ∃ W, W = (w.alloc (.cells #[.int .i64 1, .int .i64 0, .slice none 0 0, .slice none 0 0, .slice none 0 0, .slice none 0 0, .slice none 0 0, .int .i64 0] 55)).alloc (.cells #[.int .i64 1, .int .i64 0, .slice none 0 0, .slice none 0 0, .slice none 0 0, .slice none 0 0, .slice none 0 0, .int .i64 0] 55) := ⟨_, rfl⟩
  have HW : Hid ((w.alloc (.cells #[.int .i64 1, .int .i64 0, .slice none 0 0, .slice none 0 0, .slice none 0 0, .slice none 0 0, .slice none 0 0, .int .i64 0] 55)).alloc (.cells #[.int .i64 1, .int .i64 0, .slice none 0 0, .slice none 0 0, .slice none 0 0, .slice none 0 0, .slice none 0 0, .int .i64 0] 55) = W) := hW.symm
  have hB : Below w.heap.size w W := by rw [hW]; exact two_new _ _
  have hH1 : W.heap[w.heap.size]? = some (.cells #[.int .i64 1, .int .i64 0, .slice none 0 0, .slice none 0 0, .slice none 0 0, .slice none 0 0, .slice none 0 0, .int .i64 0] 55) := by rw [hW]; exact heap_alloc_old' _ _ _ (heap_alloc_new w _)
  have hH2 : W.heap[w.heap.size + 1]? = some (.cells #[.int .i64 1, .int .i64 0, .slice none 0 0, .slice none 0 0, .slice none 0 0, .slice none 0 0, .slice none 0 0, .int .i64 0] 55) := by rw [hW]; exact heap_new2 w _ _
  clear hW
  go_enter Try.func31, Try.ntmps31
  go_wp2_with fail
  rw [HW.out]
  refine (hE _).mono ?_
  rintro e w1 ⟨rfl, hb1⟩
  obtain ⟨⟨x0, x1, x2, x3, x4, x5, x6, x7⟩, -⟩ := eight_cellsV ((hb1.block _ (Array.getElem?_eq_some_iff.1 hH1).1).trans hH1)
  obtain ⟨⟨y0, y1, y2, y3, y4, y5, y6, y7⟩, -⟩ := eight_cellsV ((hb1.block _ (Array.getElem?_eq_some_iff.1 hH2).1).trans hH2)
  clear HW
  go_wp2_with fail
  refine (hL _).mono ?_
  rintro e w2 ⟨rfl, hb2⟩
  have hb12 := below_after_of hb1 hb2
  clear x0 x1 x2 x3 x4 x5 x6 x7 y0 y1 y2 y3 y4 y5 y6 y7
  obtain ⟨⟨u0, u1, u2, u3, u4, u5, u6, u7⟩, -⟩ := eight_cellsV ((hb12.block _ (Array.getElem?_eq_some_iff.1 hH1).1).trans hH1)
  obtain ⟨⟨v0, v1, v2, v3, v4, v5, v6, v7⟩, -⟩ := eight_cellsV ((hb12.block _ (Array.getElem?_eq_some_iff.1 hH2).1).trans hH2)
  have hB2 := below_after_of hB hb12
  go_wp2
  go_ret
  exact ⟨rfl, hB2⟩
set_option maxRecDepth 100000 in
set_option maxHeartbeats 1000000 in
theorem markServer_v (w : World) : Calls Try.prog 59 #[.agg #[.int .i64 1, .int .i64 0, .slice none 0 0, .slice none 0 0, .slice none 0 0, .slice none 0 0, .slice none 0 0, .int .i64 0], .int .i64 1] w fun e w' => e = .returned (.int .i64 1) ∧ Below w.heap.size w w' := by
  have hE : ∀ w : World, Calls Try.prog 97 #[.agg #[.int .i64 1, .int .i64 0, .slice none 0 0, .slice none 0 0, .slice none 0 0, .slice none 0 0], .int .i64 1] w fun e w' => e = .returned (.int .i64 1) ∧ Below w.heap.size w w' := fun w => by
    refine (markState_any 0 0 nvS nvU [] 1 w (nvS_own w) (Nat.zero_le _) nvS_stb ⟨by omega, by omega⟩).mono ?_
    rintro e w' ⟨rfl, h1, -⟩
    exact ⟨rfl, h1.noneV⟩
  have hL := fun w => markByteSS_v w
  obtain ⟨W, hW⟩ : ∃ W, W = w.alloc (.cells #[.int .i64 1, .int .i64 0, .slice none 0 0, .slice none 0 0, .slice none 0 0, .slice none 0 0, .slice none 0 0, .int .i64 0] 55) := ⟨_, rfl⟩
  have HW : Hid (w.alloc (.cells #[.int .i64 1, .int .i64 0, .slice none 0 0, .slice none 0 0, .slice none 0 0, .slice none 0 0, .slice none 0 0, .int .i64 0] 55) = W) := hW.symm
  have hB : Below w.heap.size w W := by rw [hW]; exact one_new _
  have hH1 : W.heap[w.heap.size]? = some (.cells #[.int .i64 1, .int .i64 0, .slice none 0 0, .slice none 0 0, .slice none 0 0, .slice none 0 0, .slice none 0 0, .int .i64 0] 55) := by rw [hW]; exact heap_alloc_new w _
  clear hW
  go_enter Try.func59, Try.ntmps59
  go_wp2_with fail
  rw [HW.out]
  refine (hE _).mono ?_
  rintro e w1 ⟨rfl, hb1⟩
  obtain ⟨⟨x0, x1, x2, x3, x4, x5, x6, x7⟩, -⟩ := eight_cellsV ((hb1.block _ (Array.getElem?_eq_some_iff.1 hH1).1).trans hH1)
  clear HW
  go_wp2_with fail
  refine (hL _).mono ?_
  rintro e w2 ⟨rfl, hb2⟩
  have hb12 := below_after_of hb1 hb2
  have hB2 := below_after_of hB hb12
  go_wp2
  go_ret
  exact ⟨rfl, hB2⟩
set_option maxRecDepth 100000 in
set_option maxHeartbeats 1000000 in
theorem heldServer_v (w : World) : Calls Try.prog 60 #[.agg #[.int .i64 1, .int .i64 0, .slice none 0 0, .slice none 0 0, .slice none 0 0, .slice none 0 0, .slice none 0 0, .int .i64 0], .int .i64 1] w fun e w' => e = .returned (.int .i64 1) ∧ Below w.heap.size w w' := by
  have hE : ∀ w : World, Calls Try.prog 99 #[.agg #[.int .i64 1, .int .i64 0, .slice none 0 0, .slice none 0 0, .slice none 0 0, .slice none 0 0], .int .i64 1] w fun e w' => e = .returned (.int .i64 1) ∧ Below w.heap.size w w' := fun w => by
    refine (heldState_any nvS nvU 1 1 0 w (nvS_sts w) nvS_stb ⟨by omega, by omega⟩).mono ?_
    rintro e w' ⟨rfl, h1⟩
    exact ⟨rfl, h1⟩
  have hL := fun w => heldByteSS_v w
  obtain ⟨W, hW⟩ : ∃ W, W = w.alloc (.cells #[.int .i64 1, .int .i64 0, .slice none 0 0, .slice none 0 0, .slice none 0 0, .slice none 0 0, .slice none 0 0, .int .i64 0] 55) := ⟨_, rfl⟩
  have HW : Hid (w.alloc (.cells #[.int .i64 1, .int .i64 0, .slice none 0 0, .slice none 0 0, .slice none 0 0, .slice none 0 0, .slice none 0 0, .int .i64 0] 55) = W) := hW.symm
  have hB : Below w.heap.size w W := by rw [hW]; exact one_new _
  have hH1 : W.heap[w.heap.size]? = some (.cells #[.int .i64 1, .int .i64 0, .slice none 0 0, .slice none 0 0, .slice none 0 0, .slice none 0 0, .slice none 0 0, .int .i64 0] 55) := by rw [hW]; exact heap_alloc_new w _
  clear hW
  go_enter Try.func60, Try.ntmps60
  go_wp2_with fail
  rw [HW.out]
  refine (hE _).mono ?_
  rintro e w1 ⟨rfl, hb1⟩
  obtain ⟨⟨x0, x1, x2, x3, x4, x5, x6, x7⟩, -⟩ := eight_cellsV ((hb1.block _ (Array.getElem?_eq_some_iff.1 hH1).1).trans hH1)
  clear HW
  go_wp2_with fail
  refine (hL _).mono ?_
  rintro e w2 ⟨rfl, hb2⟩
  have hb12 := below_after_of hb1 hb2
  have hB2 := below_after_of hB hb12
  go_wp2
  go_ret
  exact ⟨rfl, hB2⟩
set_option maxRecDepth 100000 in
set_option maxHeartbeats 1000000 in
theorem eqServerResult_v (w : World) : Calls Try.prog 24 #[.agg #[.int .i64 0, .int .i64 1, .int .i64 0, .slice none 0 0, .slice none 0 0, .slice none 0 0, .slice none 0 0, .slice none 0 0, .int .i64 0], .agg #[.int .i64 0, .int .i64 1, .int .i64 0, .slice none 0 0, .slice none 0 0, .slice none 0 0, .slice none 0 0, .slice none 0 0, .int .i64 0]] w fun e w' => e = .returned (.bool true) ∧ Below w.heap.size w w' := by
  have hE := fun w => eqServer_v w
  go_enter Try.func24, Try.ntmps24
  go_wp2_with fail
  refine (hE _).mono ?_
  rintro e w1 ⟨rfl, hb1⟩
  go_wp2
  go_ret
  exact ⟨rfl, below_after (below_after hb1)⟩
set_option maxRecDepth 100000 in
set_option maxHeartbeats 1000000 in
theorem markServerResult_v (w : World) : Calls Try.prog 25 #[.agg #[.int .i64 0, .int .i64 1, .int .i64 0, .slice none 0 0, .slice none 0 0, .slice none 0 0, .slice none 0 0, .slice none 0 0, .int .i64 0], .int .i64 1] w fun e w' => e = .returned (.int .i64 1) ∧ Below w.heap.size w w' := by
  have hE := fun w => markServer_v w
  go_enter Try.func25, Try.ntmps25
  go_wp2_with fail
  refine (hE _).mono ?_
  rintro e w1 ⟨rfl, hb1⟩
  go_wp2
  go_ret
  exact ⟨rfl, below_after hb1⟩
set_option maxRecDepth 100000 in
set_option maxHeartbeats 1000000 in
theorem heldServerResult_v (w : World) : Calls Try.prog 26 #[.agg #[.int .i64 0, .int .i64 1, .int .i64 0, .slice none 0 0, .slice none 0 0, .slice none 0 0, .slice none 0 0, .slice none 0 0, .int .i64 0], .int .i64 1] w fun e w' => e = .returned (.int .i64 1) ∧ Below w.heap.size w w' := by
  have hE := fun w => heldServer_v w
  go_enter Try.func26, Try.ntmps26
  go_wp2_with fail
  refine (hE _).mono ?_
  rintro e w1 ⟨rfl, hb1⟩
  go_wp2
  go_ret
  exact ⟨rfl, below_after hb1⟩
/-- A box of nine cells. -/
structure B9 (w : World) (b : Nat) : Prop where
  h : w.heap[b]? = some (.cells #[.int .i64 0, .int .i64 1, .int .i64 0, .slice none 0 0, .slice none 0 0, .slice none 0 0, .slice none 0 0, .slice none 0 0, .int .i64 0] 57)
theorem B9.below {w w' : World} {b : Nat} (h : B9 w b) (hb : Below w.heap.size w w') : B9 w' b := ⟨(hb.block b (Array.getElem?_eq_some_iff.1 h.h).1).trans h.h⟩
theorem B9.new (w : World) : B9 (w.alloc (.cells #[.int .i64 0, .int .i64 1, .int .i64 0, .slice none 0 0, .slice none 0 0, .slice none 0 0, .slice none 0 0, .slice none 0 0, .int .i64 0] 57)) w.heap.size := ⟨heap_alloc_new w _⟩
set_option maxRecDepth 100000 in
set_option maxHeartbeats 4000000 in
theorem fnExactNewServer_walk (w : World) : Calls Try.prog 5 #[] w fun e w' => e = .returned (.bool true) ∧ Below w.heap.size w w' := by
  have hS := fun w => specNewServer_v w
  have hI := fun w => implNewServer_v w
  have hE := fun w => eqServerResult_v w
  have hM := fun w => markServerResult_v w
  have hH := fun w => heldServerResult_v w
  go_enter Try.func5, Try.ntmps5
  go_wp2_with fail
  refine (hS _).mono ?_
  rintro e w1 ⟨rfl, hb1⟩
  have P1 := B9.new w1
  have hb1 := below_after_of hb1 (one_new (.cells #[.int .i64 0, .int .i64 1, .int .i64 0, .slice none 0 0, .slice none 0 0, .slice none 0 0, .slice none 0 0, .slice none 0 0, .int .i64 0] 57))
  go_wp2_with fail
  refine (hI _).mono ?_
  rintro e w2 ⟨rfl, hb2⟩
  have P1 := (P1.below hb2).below (one_new (.cells #[.int .i64 0, .int .i64 1, .int .i64 0, .slice none 0 0, .slice none 0 0, .slice none 0 0, .slice none 0 0, .slice none 0 0, .int .i64 0] 57))
  have P2 := B9.new w2
  have hb := below_after_of (below_after_of hb1 hb2) (one_new (.cells #[.int .i64 0, .int .i64 1, .int .i64 0, .slice none 0 0, .slice none 0 0, .slice none 0 0, .slice none 0 0, .slice none 0 0, .int .i64 0] 57))
  have hlt : w1.heap.size < w2.heap.size := Nat.lt_of_lt_of_le (by simp) hb2.size
  obtain ⟨⟨x0, x1, x2, x3, x4, x5, x6, x7, x8⟩, -⟩ := nine_cellsV P1.h
  clear hb1 hb2
  go_wp2_with fail
  refine (hE _).mono ?_
  rintro e w3 ⟨rfl, hb3⟩
  have P1 := P1.below hb3
  have P2 := P2.below hb3
  have hb := below_after_of hb hb3
  clear x0 x1 x2 x3 x4 x5 x6 x7 x8 hb3
  obtain ⟨⟨y0, y1, y2, y3, y4, y5, y6, y7, y8⟩, -⟩ := nine_cellsV P2.h
  go_wp2_with fail
  refine (hM _).mono ?_
  rintro e w4 ⟨rfl, hb4⟩
  have P1 := P1.below hb4
  have P2 := P2.below hb4
  have hb := below_after_of hb hb4
  clear y0 y1 y2 y3 y4 y5 y6 y7 y8 hb4
  obtain ⟨⟨y0, y1, y2, y3, y4, y5, y6, y7, y8⟩, -⟩ := nine_cellsV P2.h
  go_wp2_with fail
  refine (hH _).mono ?_
  rintro e w5 ⟨rfl, hb5⟩
  have P1 := P1.below hb5
  have P2 := P2.below hb5
  have hb := below_after_of hb hb5
  clear y0 y1 y2 y3 y4 y5 y6 y7 y8 hb5
  go_wp2_with fail
  refine (hI _).mono ?_
  rintro e w6 ⟨rfl, hb6⟩
  have P1 := (P1.below hb6).below (one_new (.cells #[.int .i64 0, .int .i64 1, .int .i64 0, .slice none 0 0, .slice none 0 0, .slice none 0 0, .slice none 0 0, .slice none 0 0, .int .i64 0] 57))
  have P2 := (P2.below hb6).below (one_new (.cells #[.int .i64 0, .int .i64 1, .int .i64 0, .slice none 0 0, .slice none 0 0, .slice none 0 0, .slice none 0 0, .slice none 0 0, .int .i64 0] 57))
  have P3 := B9.new w6
  have hb := below_after_of (below_after_of hb hb6) (one_new (.cells #[.int .i64 0, .int .i64 1, .int .i64 0, .slice none 0 0, .slice none 0 0, .slice none 0 0, .slice none 0 0, .slice none 0 0, .int .i64 0] 57))
  have hlt6 : w1.heap.size < w6.heap.size := by
    have h1 := (Array.getElem?_eq_some_iff.1 P1.h).1
    have h2 := (Array.getElem?_eq_some_iff.1 P2.h).1
    simp at h1 h2
    omega
  obtain ⟨⟨x0, x1, x2, x3, x4, x5, x6, x7, x8⟩, -⟩ := nine_cellsV P1.h
  clear hb6
  go_wp2_with fail
  refine (hE _).mono ?_
  rintro e w7 ⟨rfl, hb7⟩
  have P2 := P2.below hb7
  have hb := below_after_of hb hb7
  clear x0 x1 x2 x3 x4 x5 x6 x7 x8 hb7
  obtain ⟨⟨y0, y1, y2, y3, y4, y5, y6, y7, y8⟩, -⟩ := nine_cellsV P2.h
  go_wp2_with fail
  refine (hH _).mono ?_
  rintro e w8 ⟨rfl, hb8⟩
  have hb := below_after_of hb hb8
  clear y0 y1 y2 y3 y4 y5 y6 y7 y8 hb8
  go_wp2
  go_ret
  exact ⟨rfl, hb⟩
end U
end Go.Proofs.Ytcdodpcdennemaa

/- What every law's row asks behind its walk: the arguments and the named variables read as they did, for nothing that was there has turned. -/
namespace Go.Proofs.Ytcdodpcdennemaa
namespace U
open Go.ChangeShapes Go.WideShapes Go.ChangeAt Go.RowKit
section
variable {H : Type} {enc : TypeId × Value → H} {P : Program} {W W' : World}
theorem all_stays (hl : laidOutB P = true) (hb : Below W.heap.size W W') : ∀ (ts : List TypeId) (vs : List Value) (ds : List (DataW H)) (ps : List MemPlace), (∀ t ∈ ts, P.readableRec t = true ∧ t < P.types.size) →
    DataW.TrodAll enc P W 0 (fun _ => true) true ts vs ds ps → (∀ x ∈ ps, x.block < W.heap.size) → DataW.TrodAll enc P W' 0 (fun b => decide (b < W.heap.size)) true ts vs ds ps
  | [], [], [], _, _, h, _ => h
  | t :: ts, v :: vs, d :: ds, ps, ht, h, hlt => by
    obtain ⟨p, q, h1, h2, rfl⟩ := h
    have hp := ht t (by simp)
    exact ⟨p, q, Below.trod hl hp.1 hp.2 h1 hb (fun x hx => hlt x (by simp [hx])), all_stays hl hb ts vs ds q (fun t h => ht t (by simp [h])) h2 (fun x hx => hlt x (by simp [hx])), rfl⟩
  | [], [], _ :: _, _, _, h, _ => h.elim
  | [], _ :: _, _, _, _, h, _ => by cases h
  | _ :: _, [], _, _, _, h, _ => by cases h
  | _ :: _, _ :: _, [], _, _, h, _ => h.elim
theorem vars_stay (hl : laidOutB P = true) (hb : Below W.heap.size W W') : ∀ (ns : List String) (ds : List (DataW H)) (ps : List MemPlace), (∀ n ∈ ns, ∀ g t, P.globalNamed n = some g → (P.globals[g]?).map (·.type) = some t → P.readableRec t = true ∧ t < P.types.size) →
    DataW.TrodVars enc P W (fun _ => true) ns ds ps → (∀ x ∈ ps, x.block < W.heap.size) → DataW.TrodVars enc P W' (fun b => decide (b < W.heap.size)) ns ds ps
  | [], [], _, _, h, _ => h
  | n :: ns, d :: ds, ps, ht, h, hlt => by
    obtain ⟨g, t, cs, fuel, p, q, h1, h2, h3, h4, h5, rfl⟩ := h
    have hp := ht n (by simp) g t h1 h2
    have hg : g < W.heap.size := by
      have h3' := h3
      simp only [World.var?, h1, Option.bind_some] at h3'
      rcases hh : W.heap[g]? with _ | o
      · rw [hh] at h3'; cases h3'
      · exact (Array.getElem?_eq_some_iff.1 hh).1
    refine ⟨g, t, cs, fuel, p, q, h1, h2, var?_below hb h1 hg h3, ?_, vars_stay hl hb ns ds q (fun m hm => ht m (by simp [hm])) h5 (fun x hx => hlt x (by simp [hx])), rfl⟩
    exact DataW.trod_stays (kids_book hl hp.1) (book_sized hp.1) (fun h => by cases h) ⟨hp.2, book_self t⟩ h4 (fun x hx => hb.same (hlt x (by simp [hx]))) (fun x hx => by simpa using hlt x (by simp [hx]))
  | [], _ :: _, _, _, h, _ => h.elim
  | _ :: _, [], _, _, h, _ => h.elim
/-- A law that answered true and turned nothing. -/
theorem law_post {f : Func} {s : ChangeSpec} {apart : Bool} {args : Array Value} {ds gs : List (DataW H)} {before : List MemPlace} {tb : TypeId}
    (hW : DataW.Whole enc P f.params.toList s.vars apart W args.toList ds gs before) (hb : Below W.heap.size W W') (hl : laidOutB P = true)
    (ht : ∀ t ∈ f.params.toList, P.readableRec t = true ∧ t < P.types.size)
    (hv : ∀ n ∈ s.vars, ∀ g t, P.globalNamed n = some g → (P.globals[g]?).map (·.type) = some t → P.readableRec t = true ∧ t < P.types.size)
    (hr : f.resultTypes = #[tb]) (htb : P.underlying tb = some .bool)
    (hf1 : (s.fn H (ds ++ gs)).results = [.lit (.bool true)]) (hf2 : (s.fn H (ds ++ gs)).args = ds) (hf3 : (s.fn H (ds ++ gs)).vars = gs) :
    s.post enc P f apart true false false W args (.bool true) W' := by
  have hlt := hW.lt
  have hW2 := hW
  obtain ⟨p, q, hA, hV, rfl, _, _⟩ := hW
  refine ⟨ds, gs, p ++ q, [], p, q, hW2, ?_, ?_, ?_, hb.frame _, fun h => by cases h⟩
  · rw [hf1, hr]
    exact trodAll_cons_mk (shut_bool htb _) trodAll_mk0
  · rw [hf2]
    exact all_stays hl hb _ _ _ _ ht hA (fun x hx => hlt x (by simp [hx]))
  · rw [hf3]
    exact vars_stay hl hb _ _ _ hv hV (fun x hx => hlt x (by simp [hx]))
end
end U
end Go.Proofs.Ytcdodpcdennemaa

/- The law FnExactNewServer holds at every argument: it answers true, and the arguments read as they did. -/
namespace Go.Proofs.Ytcdodpcdennemaa
namespace fnExactNewServer
open Go.ChangeShapes Go.WideShapes Go.ChangeAt Go.RowKit

theorem laidOut : laidOutB Try.prog = true := by kernel_rfl
theorem own : ownKnob Try.prog.godebug = none := by kernel_rfl

set_option maxRecDepth 100000 in
theorem lifted (os : Os) (started : os.Started) (H : Type) (enc : TypeId × Value → H) :
    ReturnsInHanded {} Try.checked os 5 .any (Rows.fnExactNewServerSpec.pre6 enc Try.prog Try.f5 Rows.fnExactNewServerRow.domain false) (Rows.fnExactNewServerSpec.post enc Try.prog Try.f5 false true false false) := by
  refine returnsInHanded_of_change (C := Try.checked) own started (by kernel_rfl) Try.func5
    (ChangeSpec.witness6 (enc := enc) (C := Try.checked) false ⟨#[], #[], []⟩ 8 (by kernel_rfl) (by kernel_rfl) (by kernel_rfl) (by kernel_rfl)) ?_
  intro W base args ds gs before hval0 hW hcnd _
  have hval : ∀ (j : Nat) t v, Try.f5.params[j]? = some t → args[j]? = some v → Value.okWide Try.prog W .any base t v := hval0
  have hW' := hW
  obtain ⟨p, q, hA0, hV, rfl, hfz, hnd⟩ := hW
  have hA : DataW.TrodAll enc Try.prog W 0 (fun _ => true) true Try.f5.params.toList args.toList ds p := hA0
  rw [Try.params5] at hA hval
  obtain ⟨hae, rfl, rfl⟩ := trodAll_nil hA
  obtain rfl : args = #[] := by cases args; simp_all
  obtain ⟨rfl, rfl⟩ := trodVars_none hV
  clear hA0 hval0
  refine (U.fnExactNewServer_walk W).mono fun e W' ⟨he, hg⟩ => ?_
  subst he
  refine ⟨_, rfl, U.law_post (tb := 4) hW' hg laidOut ?_ (fun n hn => by cases hn) (by kernel_rfl) Try.underlying4 rfl rfl rfl⟩
  rw [Try.params5]; intro t ht; simp at ht

theorem over : Rows.fnExactNewServerRow.holds Try.pinned (OpenSpec.ofChange Rows.fnExactNewServerSpec) :=
  OpenClaim.holds_of_wide 5 Try.f5 rfl rfl rfl rfl rfl rfl rfl ⟨rfl, rfl, rfl, rfl, rfl⟩ rfl rfl rfl rfl rfl (by kernel_rfl) Try.func5 (by kernel_rfl)
    (of_decide_eq_true (by kernel_rfl)) (by unfold Func.isWrapper; first | (rw [if_pos (by decide +kernel)]; kernel_rfl) | (rw [if_neg (by decide +kernel)]; exact ⟨rfl, rfl⟩))
    (fun os started H enc _ => lifted os started H enc)
end fnExactNewServer
/-- The law FnExactNewServer: whatever the arguments, the call returns true and they read as before. -/
theorem fnExactNewServer_holds : Rows.FnExactNewServerSaid := fnExactNewServer.over
#print axioms fnExactNewServer_holds
end Go.Proofs.Ytcdodpcdennemaa
