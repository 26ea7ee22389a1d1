/- Joined: what the texts behind it need. -/
import Derived.Test.YthmnjojjnlnbjaaSl1
import Derived.Test.YthmnjojjnlnbjaaQuiet
import Derived.Deep.RegionHeld3
import Derived.Test.YthmnjojjnlnbjaaSlL
import Derived.Deep.AppendLies
import Derived.Test.YthmnjojjnlnbjaaOwn
import Derived.Test.YthmnjojjnlnbjaaPairs
import Derived.Test.YthmnjojjnlnbjaaSl9
import Derived.Test.YthmnjojjnlnbjaaDr3
import Derived.Test.YthmnjojjnlnbjaaUpM
import Derived.Test.YthmnjojjnlnbjaaKs3
import Derived.Deep.RegionLaw
import Derived.Test.YthmnjojjnlnbjaaUp1
import Derived.Test.YthmnjojjnlnbjaaDrL
import Derived.Test.YthmnjojjnlnbjaaFold0
import Derived.Test.YthmnjojjnlnbjaaHeldBy
import Derived.Test.YthmnjojjnlnbjaaRecL
import Derived.Test.YthmnjojjnlnbjaaRows
import Derived.WalkKit
import Derived.ProofKit
import Derived.OpenShut
import Derived.ShutString
import Derived.WalkSmall
import Derived.Deep.SlicePairs
import Derived.Lib.SmallJoins
import Derived.Test.YthmnjojjnlnbjaaInts
/- The sums of what is empty, by the program and by the model. -/
namespace Go.Proofs.Ythmnjojjnlnbjaa
open Go.RowKit
namespace U
theorem pair_tag {tag a b : Int} (ht : 1 ≤ tag ∧ tag ≤ 9) (ha : 0 ≤ a ∧ a ≤ 65520) (hb : 0 ≤ b ∧ b ≤ 65520) : tgC tag [a, b] = 0 ∧ tsV tag [a, b] = sumL (tagL tag [a, b]) := by
  have h1 : inB tag 1 9 = true := inB_t ht.1 ht.2
  have h3 : [a, b].all sumB = true := by simp [sumB_iff, ha, hb]
  have h2 : ¬ 20 < [a, b].length := by simp
  have := tg_ok h1 h2 h3
  exact ⟨this.1, by rw [ts_ok this.1, this.2]⟩
theorem two_ints (w : World) (a b : Int) (t : TypeId) : Ints .i64 (w.alloc (.cells #[.int .i64 a, .int .i64 b] t)) (.slice (some ⟨w.heap.size, 0, none⟩) 2 2) [a, b] := by
  refine Or.inr ⟨w.heap.size, 0, 2, rfl, by simp, fun j hj => ?_⟩
  have hh := heap_alloc_new w (.cells #[.int .i64 a, .int .i64 b] t)
  have hj2 : j < 2 := hj
  rcases (by omega : j = 0 ∨ j = 1) with rfl | rfl <;> (unfold World.cell?; rw [hh]; rfl)
theorem two_ints_at {w : World} {g : Nat} {a b : Int} {t : TypeId} (hg : g = w.heap.size) : Ints .i64 (w.alloc (.cells #[.int .i64 a, .int .i64 b] t)) (.slice (some ⟨g, 0, none⟩) 2 2) [a, b] := by subst hg; exact two_ints w a b t
theorem field_IR1 (x y : Int) (w : World) : (Instr.field 39 (.agg #[.int .i64 x, .int .i64 y]) 1).run Try.prog w = .ok (.int .i64 y) w := by kernel_rfl
set_option maxRecDepth 100000 in
set_option maxHeartbeats 1000000 in
theorem l2Tag2_any (tag a b : Int) (u : Value) (w : World) (ht : 0 ≤ tag ∧ tag ≤ 255) (hu : Ints .i64 w u [a, b]) (ha : 0 ≤ a ∧ a ≤ 65520) (hb : 0 ≤ b ∧ b ≤ 65520) :
    Calls Try.prog 109 #[.int .i64 tag, u] w fun e w' => e = .returned (.int .i64 (sumL (tagL tag [a, b]))) ∧ Below w.heap.size w w' := by
  have h3 : [a, b].all sumB = true := by simp [sumB_iff, ha, hb]
  have hB := fun w h => l2Bytes_any tag u [a, b] w h (by simp) ht h3
  have hS := fun v w h => l2Sum_any v (tagL tag [a, b]) w h (tagL_bts ht h3) (by rw [tagL_len]; simp)
  have hl : (tagL tag [a, b]).length = 5 := by rw [tagL_len]; rfl
  have HU : Hid (Ints .i64 w u [a, b]) := hu
  obtain ⟨a', c', hu2⟩ := hu.shape
  have hu3 : u = .slice a' 2 c' := hu2
  subst hu3
  clear hu2
  rw [hl] at hB
  have HL : Hid ((tagL tag [a, b]).length = 5) := hl
  generalize sumL (tagL tag [a, b]) = s at *
  generalize tagL tag [a, b] = ys at *
  clear hu hl h3 ha hb ht
  go_enter Try.func109, Try.ntmps109
  go_wp2_with fail
  refine (hB _ HU.out).mono ?_
  rintro e w1 ⟨v', rfl, own1, hb1⟩
  rw [← HL.out] at own1
  have HI : Hid (Ints .u8 w1 v' ys) := own_ints own1
  obtain ⟨a1, c1, rfl⟩ := own_shape own1
  rw [HL.out] at HI ⊢
  clear hB own1
  go_wp2_with fail
  refine (hS _ _ HI.out).mono ?_
  rintro e w2 ⟨rfl, rfl⟩
  clear hS
  go_wp2
  go_ret
  exact ⟨rfl, hb1⟩
/-- The code and the value of the sum of what is empty. -/
def eC (n : Int) : Int := if inB n 0 8 = true then 0 else 3
def eV (n : Int) : Int := if inB n 0 8 = true then emp n.toNat else 0
end U
end Go.Proofs.Ythmnjojjnlnbjaa

/- What is cut out of slots, and the sum of a part, by the model. -/
namespace Go.Proofs.Ythmnjojjnlnbjaa
open Go.RowKit
namespace U
def cutAt (l : Prl) (a b : Int) (k : Nat) : Prl := cut (l.take k) a b
theorem cutAt_zero (l : Prl) (a b : Int) : cutAt l a b 0 = [] := rfl
theorem cutAt_all (l : Prl) (a b : Int) : cutAt l a b l.length = cut l a b := by unfold cutAt; rw [List.take_length]
theorem takeP {l : Prl} {k : Nat} (h : k < l.length) : l.take (k + 1) = l.take k ++ [pAt l k] := by
  rw [List.take_succ_eq_append_getElem h, pAt_eq h]
theorem cutAt_in {l : Prl} {a b : Int} {k : Nat} (h : k < l.length) (h1 : a ≤ (pAt l k).1) (h2 : (pAt l k).1 < b) : cutAt l a b (k + 1) = cutAt l a b k ++ [pAt l k] := by
  unfold cutAt cut
  rw [takeP h, List.filter_append, List.filter_cons_of_pos (by simp [h1, h2])]
  rfl
theorem cutAt_out {l : Prl} {a b : Int} {k : Nat} (h : k < l.length) (h1 : ¬ (a ≤ (pAt l k).1 ∧ (pAt l k).1 < b)) : cutAt l a b (k + 1) = cutAt l a b k := by
  unfold cutAt cut
  rw [takeP h, List.filter_append, List.filter_cons_of_neg (by simp; omega)]
  simp
theorem cutAt_len (l : Prl) (a b : Int) (k : Nat) : (cutAt l a b k).length ≤ l.length := by
  have h1 := cut_len (l.take k) a b
  rw [List.length_take] at h1
  unfold cutAt
  omega
theorem own_snoc {w : World} {B : Nat} {e : TypeId} {v : Value} {l : Prl} {x y : Int} (h : w.ownsRow B e 2 v (l.length + 1) ((fl l).map (Value.int .i64) ++ [.int .i64 x, .int .i64 y])) : w.ownsRow B e 2 v (l ++ [(x, y)]).length ((fl (l ++ [(x, y)])).map (Value.int .i64)) := by
  rw [fl_app, List.map_append, List.length_append]
  exact h
theorem own_shape2 {w : World} {B n : Nat} {e : TypeId} {v : Value} {xs : List Value} (h : w.ownsRow B e 2 v n xs) : ∃ a c, v = .slice a n c := by
  rcases h.2 with ⟨rfl, hn⟩ | ⟨g, cap, cur, rfl, _⟩
  · exact ⟨none, 0, by rw [hn]⟩
  · exact ⟨_, _, rfl⟩
theorem none_own (w : World) (e : TypeId) (B : Nat) (hB : B ≤ w.heap.size) : (w.alloc (.cells #[] e)).ownsRow B e 2 (.slice (some ⟨w.heap.size, 0, none⟩) 0 0) 0 [] :=
  World.ownsRow_made w #[] 0 hB (by decide) rfl
end U
end Go.Proofs.Ythmnjojjnlnbjaa

/- Answers of a code and slots: compared, marked and looked at anew. -/
namespace Go.Proofs.Ythmnjojjnlnbjaa
open Go.RowKit
namespace U
def mkP (k n : Nat) : Prl := (List.range n).map fun j => (((k + j * 2 : Nat) : Int), ((k + (j * 2 + 1) : Nat) : Int))
theorem mkP_len (k n : Nat) : (mkP k n).length = n := by simp [mkP]
theorem mkP_at (k n j : Nat) (h : j < n) : pAt (mkP k n) j = (((k + j * 2 : Nat) : Int), ((k + (j * 2 + 1) : Nat) : Int)) := by
  rw [pAt_eq (by rw [mkP_len]; exact h)]
  simp [mkP]
theorem fl_mkP (k n : Nat) : fl (mkP k n) = marks k (n * 2) := by
  apply List.ext_getElem?
  intro i
  by_cases h : i < n * 2
  · have h1 := fl_at (mkP k n) (i / 2) (by rw [mkP_len]; omega)
    rw [mkP_at k n (i / 2) (by omega)] at h1
    have e : (marks k (n * 2))[i]? = some ((k + i : Nat) : Int) := by simp [marks, h]
    rw [e]
    rcases (by omega : i = i / 2 * 2 ∨ i = i / 2 * 2 + 1) with hh | hh
    · rw [hh, h1.1]
    · rw [hh, h1.2]
  · rw [List.getElem?_eq_none (by rw [fl_len, mkP_len]; omega), List.getElem?_eq_none (by rw [marks_len]; omega)]
theorem Prs.grown {w w' : World} {v : Value} {l : Prl} {row : Option Nat} (h : Prs w v l) (hg : w.grownBy w' row) (hne : v.ownBlock = none ∨ v.ownBlock ≠ row) : Prs w' v l := by
  rcases h with h | ⟨b, off, c, rfl, hlt, hc⟩
  · exact Or.inl h
  · have hnb : some b ≠ row := by
      rcases hne with hh | hh
      · simp [Value.ownBlock] at hh
      · exact hh
    exact Or.inr ⟨b, off, c, rfl, Nat.lt_of_lt_of_le hlt hg.size, fun j hj => ⟨hg.cell (hc j hj).1 hnb, hg.cell (hc j hj).2 hnb⟩⟩
theorem own_prs_n {w : World} {B n : Nat} {e : TypeId} {v : Value} {l : Prl} (HN : n = l.length) (h : w.ownsRow B e 2 v n ((fl l).map (Value.int .i64))) : Prs w v l := by
  subst HN; exact own_prs h
set_option maxRecDepth 100000 in
set_option maxHeartbeats 1000000 in
theorem markSlotS_any (B : Nat) (v : Value) (l : Prl) (k0 : Nat) (w : World) (hown : w.ownsRow B 112 2 v l.length ((fl l).map (Value.int .i64))) (hx : l.length ≤ 1099511627776) (hk0 : k0 ≤ 1099511627776) :
    Calls Try.prog 89 #[v, .int .i64 k0] w fun e w' => e = .returned (.int .i64 ((k0 + l.length * 2 : Nat) : Int)) ∧ w.grownBy w' v.ownBlock ∧ w'.ownsRow B 112 2 v l.length ((fl (mkP k0 l.length)).map (Value.int .i64)) := by
  by_cases h0 : l.length = 0
  · have e1 : l = [] := List.eq_nil_of_length_eq_zero h0
    subst e1
    obtain ⟨a, c, rfl⟩ : ∃ a c, v = .slice a 0 c := by
      rcases hown.2 with ⟨rfl, hn⟩ | ⟨g, cap, cur, rfl, _⟩
      · exact ⟨none, 0, rfl⟩
      · exact ⟨_, _, rfl⟩
    simp only [List.length_nil] at *
    go_enter Try.func89, Try.ntmps89
    go_wp2
    refine wp_loop_rounds 1 ?_; rw [rounds_succ]
    go_wp2
    go_ret
    exact ⟨rfl, World.grownBy.refl _ _, hown⟩
  · rcases hown.2 with ⟨_, h⟩ | ⟨g, cap, cur, rfl, hB, hg, _⟩
    · exact absurd h h0
    have hgs : g < w.heap.size := (Array.getElem?_eq_some_iff.1 hg).1
    have hfl := fl_len l
    have hml : fl (mkP k0 l.length) = marks k0 (fl l).length := by rw [fl_mkP, hfl]
    rw [hml]
    clear hg hB hml
    obtain ⟨n, hn⟩ : ∃ n, n = l.length := ⟨_, rfl⟩
    have HN : Hid ((fl l).length = n * 2) := by show _ = _; rw [hn]; exact hfl
    rw [← hn] at hown hx h0 ⊢
    generalize fl l = xs at *
    clear hn h0 hfl
    go_enter Try.func89, Try.ntmps89
    go_wp2
    go_loopw [1, 5] (fun k i wr => ∃ j : Nat, j ≤ n ∧ i = .int .i64 j ∧ k = .int .i64 ((k0 + j * 2 : Nat) : Int) ∧ w.grownBy wr (some g) ∧ wr.ownsRow B 112 2 (.slice (some ⟨g, 0, none⟩) n cap) n ((half xs k0 (j * 2)).map (Value.int .i64))) (fun _ i _ => n - (intOf i).toNat)
    case atStart => exact ⟨0, Nat.zero_le _, rfl, by simp, World.grownBy.refl _ _, by rw [Nat.zero_mul, half_zero]; exact hown⟩
    case round =>
      obtain ⟨j, hj, rfl, rfl, hgr, ho⟩ := hrel
      by_cases hjn : j < n
      · have hji : (j : Int) < (n : Int) := by omega
        have f0 := ho.frozenAt (j * 2)
        have f1 := ho.frozenAt (j * 2 + 1)
        obtain ⟨x, c0⟩ := own_some2 ho (j := j * 2) (by omega)
        obtain ⟨y, c1⟩ := own_some2 ho (j := j * 2 + 1) (by omega)
        obtain ⟨s1, s2⟩ := ho.stored (j * 2) (.int .i64 ((k0 + j * 2 : Nat) : Int))
        obtain ⟨s3, s4⟩ := s1.stored (j * 2 + 1) (.int .i64 ((k0 + (j * 2 + 1) : Nat) : Int))
        have s5 := grown_trans (grown_trans hgr s2) s4
        rw [← List.map_set, half_set xs k0 (j * 2) (by have := HN.out; omega), ← List.map_set, half_set xs k0 (j * 2 + 1) (by have := HN.out; omega)] at s3
        have e5 : (((k0 + j * 2 : Nat) : Int) + 1) = ((k0 + (j * 2 + 1) : Nat) : Int) := by omega
        have H3 : Hid (((wr.setCell ⟨g, j * 2, none⟩ (.int .i64 ((k0 + j * 2 : Nat) : Int))).setCell ⟨g, j * 2 + 1, none⟩ (.int .i64 ((k0 + (j * 2 + 1) : Nat) : Int))).ownsRow B 112 2 (.slice (some ⟨g, 0, none⟩) n cap) n ((half xs k0 (j * 2 + 1 + 1)).map (Value.int .i64)) ∧ w.grownBy ((wr.setCell ⟨g, j * 2, none⟩ (.int .i64 ((k0 + j * 2 : Nat) : Int))).setCell ⟨g, j * 2 + 1, none⟩ (.int .i64 ((k0 + (j * 2 + 1) : Nat) : Int))) (some g)) := ⟨s3, s5⟩
        rw [← e5] at H3
        clear ho hown hgr s1 s2 s3 s4 s5 e5
        go_wp2
        go_roundw
        case rel =>
          exact ⟨j + 1, by omega, by go_num, by go_num, by simpa using H3.out.2, by rw [show (j + 1) * 2 = j * 2 + 1 + 1 by omega]; simpa using H3.out.1⟩
        case measure => simp [intOf]; omega
      · have hjn : j = n := by omega
        subst hjn
        rw [← HN.out, half_all] at ho
        go_wp2
        go_ret
        exact ⟨rfl, hgr, ho⟩
set_option maxRecDepth 100000 in
set_option maxHeartbeats 1000000 in
theorem heldSlotS_any (v : Value) (n k0 : Nat) (w : World) (hv : Prs w v (mkP k0 n)) (hx : n ≤ 1099511627776) (hk0 : k0 ≤ 1099511627776) :
    Calls Try.prog 90 #[v, .int .i64 k0] w fun e w' => e = .returned (.int .i64 ((k0 + n * 2 : Nat) : Int)) ∧ w' = w := by
  obtain ⟨a, c, rfl⟩ := hv.shape
  by_cases h0 : n = 0
  · subst h0
    simp only [mkP_len]
    clear hv
    go_enter Try.func90, Try.ntmps90
    go_wp2
    refine wp_loop_rounds 1 ?_; rw [rounds_succ]
    go_wp2
    go_ret
    exact ⟨rfl, rfl⟩
  · obtain ⟨_, b, off, rfl, hb, hc⟩ := hv.at (by rw [mkP_len]; omega)
    have hcm : ∀ j, j < n → w.cell? ⟨b, off + j * 2, none⟩ = some (.int .i64 ((k0 + j * 2 : Nat) : Int)) ∧ w.cell? ⟨b, off + j * 2 + 1, none⟩ = some (.int .i64 (((k0 + j * 2 : Nat) : Int) + 1)) := fun j hj => by
      have h1 := hc j (by rw [mkP_len]; exact hj)
      rw [mkP_at _ _ _ hj] at h1
      refine ⟨h1.1, h1.2.trans ?_⟩
      congr 2
    rw [mkP_len]
    clear hv hc h0
    go_enter Try.func90, Try.ntmps90
    go_wp2
    go_loop [1, 5] (fun k i => ∃ j : Nat, j ≤ n ∧ i = .int .i64 j ∧ k = .int .i64 ((k0 + j * 2 : Nat) : Int)) (fun _ i => n - (intOf i).toNat)
    case atStart => exact ⟨0, Nat.zero_le _, rfl, by simp⟩
    case round =>
      obtain ⟨j, hj, rfl, rfl⟩ := hrel
      by_cases hjn : j < n
      · have hji : (j : Int) < (n : Int) := by omega
        obtain ⟨c0, c1⟩ := hcm j hjn
        have HQ : Hid (((k0 + j * 2 : Nat) : Int) + 1 + 1 = ((k0 + (j + 1) * 2 : Nat) : Int)) := by show _ = _; omega
        have hq : (k0 + j * 2 : Nat) ≤ 4398046511104 := by omega
        generalize k0 + j * 2 = q at *
        clear hcm
        go_wp2
        go_round
        case rel => exact ⟨j + 1, by omega, by go_num, by rw [← HQ.out]⟩
        case measure => simp [intOf]; omega
      · have hjn : j = n := by omega
        subst hjn
        clear hcm
        go_wp2
        go_ret
        exact ⟨rfl, rfl⟩
set_option maxRecDepth 100000 in
set_option maxHeartbeats 1000000 in
theorem eqSlotsResult_same (q : Int) (v u : Value) (l : Prl) (w : World) (hv : Prs w v l) (hu : Prs w u l) (hx : l.length ≤ 1099511627776) :
    Calls Try.prog 47 #[.agg #[.int .i64 q, v], .agg #[.int .i64 q, u]] w fun e w' => e = .returned (.bool true) ∧ Below w.heap.size w w' := by
  obtain ⟨a, c', rfl⟩ := hv.shape
  obtain ⟨a', d', rfl⟩ := hu.shape
  have hE := fun o o' => eqSlotS_any _ _ l l _ (hv.below (two_new o o')) (hu.below (two_new o o')) hx hx
  rw [decide_eq_true rfl] at hE
  generalize l.length = n at *
  clear hv hu
  go_enter Try.func47, Try.ntmps47
  go_wp2_with fail
  refine (hE _ _).mono ?_
  rintro e w1 ⟨rfl, hb1⟩
  clear hE
  go_wp2
  go_ret
  exact ⟨rfl, below_after_of (two_new _ _) hb1⟩
set_option maxRecDepth 100000 in
set_option maxHeartbeats 1000000 in
theorem markSlotsResult_any (B : Nat) (q : Int) (v : Value) (l : Prl) (k0 : Nat) (w : World) (hown : w.ownsRow B 112 2 v l.length ((fl l).map (Value.int .i64))) (hx : l.length ≤ 1099511627776) (hk0 : k0 ≤ 1099511627776) :
    Calls Try.prog 48 #[.agg #[.int .i64 q, v], .int .i64 k0] w fun e w' => e = .returned (.int .i64 ((k0 + l.length * 2 : Nat) : Int)) ∧ w.grownBy w' v.ownBlock ∧ w'.ownsRow B 112 2 v l.length ((fl (mkP k0 l.length)).map (Value.int .i64)) := by
  have hM := fun o => markSlotS_any B v l k0 _ (hown.alloc o) hx hk0
  obtain ⟨a, c', rfl⟩ : ∃ a c, v = .slice a l.length c := by
    rcases hown.2 with ⟨rfl, hn⟩ | ⟨g, cap, cur, rfl, _⟩
    · exact ⟨none, 0, by rw [hn]⟩
    · exact ⟨_, _, rfl⟩
  generalize l.length = n at *
  clear hown
  go_enter Try.func48, Try.ntmps48
  go_wp2_with fail
  refine (hM _).mono ?_
  rintro e w1 ⟨rfl, hg, ho⟩
  have HH : Hid (w.grownBy w1 (Value.slice a n c').ownBlock ∧ w1.ownsRow B 112 2 (.slice a n c') n ((fl (mkP k0 n)).map (Value.int .i64))) := ⟨grown_trans (World.grownBy_alloc _ _ _) hg, ho⟩
  clear hM hg ho
  go_wp2
  go_ret
  exact ⟨rfl, HH.out⟩
set_option maxRecDepth 100000 in
set_option maxHeartbeats 1000000 in
theorem heldSlotsResult_any (q : Int) (v : Value) (n k0 : Nat) (w : World) (hv : Prs w v (mkP k0 n)) (hx : n ≤ 1099511627776) (hk0 : k0 ≤ 1099511627776) :
    Calls Try.prog 49 #[.agg #[.int .i64 q, v], .int .i64 k0] w fun e w' => e = .returned (.int .i64 ((k0 + n * 2 : Nat) : Int)) ∧ Below w.heap.size w w' := by
  have hH := fun o => heldSlotS_any v n k0 _ (hv.below (one_new o)) hx hk0
  obtain ⟨a, c', rfl⟩ := hv.shape
  rw [mkP_len] at *
  have hs : ¬ ((k0 + n * 2 : Nat) : Int) < 0 := by omega
  generalize ((k0 + n * 2 : Nat) : Int) = z at *
  clear hv
  go_enter Try.func49, Try.ntmps49
  go_wp2_with fail
  refine (hH _).mono ?_
  rintro e w1 ⟨rfl, rfl⟩
  clear hH
  go_wp2
  go_ret
  exact ⟨rfl, one_new _⟩
end U
end Go.Proofs.Ythmnjojjnlnbjaa

/- What is cut out of slots, by the program; CutSlots. -/
namespace Go.Proofs.Ythmnjojjnlnbjaa
open Go.RowKit
namespace U
/-- The answer of a function that hands back a code and slots of its own. -/
def SlotsAns (w : World) (code : Int) (l : Prl) (e : Ending) (w' : World) : Prop :=
  Below w.heap.size w w' ∧ ∃ v, e = .returned (.agg #[.int .i64 code, v]) ∧ w'.ownsRow w.heap.size 112 2 v l.length ((fl l).map (Value.int .i64))
theorem SlotsAns.use {w w' : World} {code : Int} {l : Prl} {e : Ending} (h : SlotsAns w code l e w') : ∃ a c, e = .returned (.agg #[.int .i64 code, .slice a l.length c]) ∧ Below w.heap.size w w' ∧ w'.ownsRow w.heap.size 112 2 (.slice a l.length c) l.length ((fl l).map (Value.int .i64)) := by
  obtain ⟨hb, v, rfl, ho⟩ := h
  obtain ⟨a, c, rfl⟩ := own_shape2 ho
  exact ⟨a, c, rfl, hb, ho⟩
/-- A slice value as it may be: no more in it than it has room for; without an address there is no room. -/
def Okv (v : Value) : Prop := ∀ a n c, v = .slice a n c → n ≤ c ∧ (a = none → c = 0)
theorem own_okv {w : World} {B : Nat} {e : TypeId} {v : Value} {m : Nat} {xs : List Value} (h : w.ownsRow B e 2 v m xs) : Okv v := by
  intro a n c hv
  subst hv
  rcases h.2 with ⟨h1, _⟩ | ⟨g, cap, cur, h1, _, _, hc, _⟩
  · cases h1; exact ⟨by omega, fun _ => rfl⟩
  · cases h1; exact ⟨hc, fun h => by cases h⟩
/-- Slots between two keys: it shares memory with the list. -/
theorem prs_part {w : World} {b off n c i j : Nat} {l : Prl} (hn : n = l.length) (hb : b < w.heap.size) (hij : i ≤ j) (hj : j ≤ n)
    (hc : ∀ j, j < n → w.cell? ⟨b, off + j * 2, none⟩ = some (.int .i64 (pAt l j).1) ∧ w.cell? ⟨b, off + j * 2 + 1, none⟩ = some (.int .i64 (pAt l j).2)) :
    Prs w (.slice (some ⟨b, off + i * 2, none⟩) (j - i) c) ((l.take j).drop i) := by
  right
  have hl : ((l.take j).drop i).length = j - i := by rw [List.length_drop, List.length_take]; omega
  refine ⟨b, off + i * 2, c, by rw [hl], hb, fun k hk => ?_⟩
  rw [hl] at hk
  have h1 := hc (i + k) (by omega)
  have e : pAt ((l.take j).drop i) k = pAt l (i + k) := by
    unfold pAt
    rw [List.getD_eq_getElem?_getD, List.getD_eq_getElem?_getD, List.getElem?_drop, List.getElem?_take, if_pos (by omega)]
  rw [e, show off + i * 2 + k * 2 = off + (i + k) * 2 by omega]
  exact h1
/-- The code and the slots that are cut out. -/
def cutB (a b : Int) : Bool := inB a 0 256 && inB b a 256
def csC (l : Prl) (a b : Int) : Int := if slF l = 0 then (if cutB a b = true then 0 else 3) else slF l
def csL (l : Prl) (a b : Int) : Prl := if slF l = 0 ∧ cutB a b = true then cut l a b else []
theorem csL_len (l : Prl) (a b : Int) : (csL l a b).length ≤ l.length := by
  unfold csL
  split
  · exact cut_len _ _ _
  · simp
theorem pair_cells {w : World} {g : Nat} {x y : Value} {t : TypeId} : w.heap[g]? = some (.cells #[x, y] t) → w.cell? ⟨g, 0, none⟩ = some x ∧ w.cell? ⟨g, 1, none⟩ = some y ∧ w.frozen? ⟨g, 0, none⟩ = false ∧ w.frozen? ⟨g, 1, none⟩ = false := two_cellsV
theorem prs_news {w : World} {ad : Addr} {m c : Nat} {l : Prl} (h : Prs w (.slice (some ad) m c) l) : ∀ j u, ((fl l).map (Value.int .i64))[j]? = some u → w.cell? (ad.add j) = some u := by
  intro j u hu
  have hj : j < l.length * 2 := by
    have := (List.getElem?_eq_some_iff.1 hu).1
    rwa [List.length_map, fl_len] at this
  obtain ⟨_, b, off, e, hb, hc⟩ := h.at (by omega)
  cases e
  have h1 := hc (j / 2) (by omega)
  have h2 := fl_at l (j / 2) (by omega)
  rw [List.getElem?_map] at hu
  rw [Go.WideShapes.add_plain]
  rcases (by omega : j = j / 2 * 2 ∨ j = j / 2 * 2 + 1) with e | e
  · rw [e, h2.1] at hu
    rw [show off + j = off + j / 2 * 2 by omega, h1.1]
    exact hu
  · rw [e, h2.2] at hu
    rw [show off + j = off + j / 2 * 2 + 1 by omega, h1.2]
    exact hu
end U
end Go.Proofs.Ythmnjojjnlnbjaa

/- The slots of a directory, as the program tells them. -/
namespace Go.Proofs.Ythmnjojjnlnbjaa
open Go.RowKit
namespace U
/-- The sum of a record. -/
def Rc.s (r : Rc) : Int := sumL (packL r.l r.v r.o r.p)
theorem Rc.sbd (r : Rc) : 0 ≤ r.s ∧ r.s ≤ 65520 := sumL_bd _
/-- The slots of the first records. -/
def slTo (l : Rcl) : Nat → Prl
  | 0 => []
  | k + 1 => slTo l k ++ [((rAt l k).k, (rAt l k).s)]
theorem slTo_len (l : Rcl) : ∀ k, (slTo l k).length = k
  | 0 => rfl
  | k + 1 => by show (slTo l k ++ _).length = _; rw [List.length_append, slTo_len l k]; rfl
def dirSl (l : Rcl) : Prl := slTo l l.length
def sfL (l : Rcl) : Prl := if dirF l = 0 then dirSl l else []
/-- One element more, where it stands among operations. -/
theorem step_append_one {P : Program} {w : World} {ops : Array Oper} {o : Oper} {a : Act} {K : Act → World → Prop} {Q : Exit → Act → World → Prop} {E : Prop} (hgd : o.guard = none) (s x : Operand) (t : TypeId)
    (ho : o.op = .call { callee := .builtin .append, args := #[s, x], argTypes := #[t, t] })
    (base : Nat) (e : TypeId) (i : TypeInfo) (z : Value) (size bytes : Nat) (ht : P.underlying t = some (.slice e)) (hi : P.info? e = some i) (hz : i.zero = some z)
    (hsize : i.size = size) (hby : i.bytes = bytes) (hzs : z.cells.size = size) (hsz : 0 < size)
    (v : Value) (n : Nat) (xs : List Value) (hs : a.eval s = v) (hown : w.ownsRow base e size v n xs)
    (ad : Addr) (c : Nat) (news : List Value) (hx : a.eval x = .slice (some ad) 1 c) (hl : news.length = 1 * size) (hnews : ∀ j u, news[j]? = some u → w.cell? (ad.add j) = some u) (h1 : ∀ u ∈ news, u.oneCell' = true)
    (h63 : n + 1 ≤ maxLen) (hbytes : (n + 1) * bytes ≤ 140737488355328) (hbase : base ≤ w.heap.size)
    (h : ∀ g c' w', w'.ownsRow base e size (.slice (some ⟨g, 0, none⟩) (n + 1) c') (n + 1) (xs ++ news) → w.grownBy w' v.ownBlock → K (a.put o.dst (.slice (some ⟨g, 0, none⟩) (n + 1) c')) w') :
    if Region.wanted o (yielded ops a.tmps) = true then Oper.wp P o a w K Q else E := by
  have hw : Region.wanted o (yielded ops a.tmps) = true := by simp [Region.wanted, hgd]
  rw [if_pos hw]
  refine wp_append_own w s x t ho base e i z size bytes ht hi hz hsize hby hzs hsz v n xs hs hown ad 1 c news hx hl hnews h1 h63 hbytes hbase fun v' w' h2 h3 _ => ?_
  rcases h2.2 with ⟨rfl, hn⟩ | ⟨g, cap, cur, rfl, _⟩
  · omega
  · exact h g cap w' h2 h3
theorem own_snocS {w : World} {B : Nat} {v : Value} {m : Prl} {x y : Int} {n : Nat} (h : w.ownsRow B 112 2 v (n + 1) ((fl m).map (Value.int .i64) ++ [.int .i64 x, .int .i64 y])) : w.ownsRow B 112 2 v (n + 1) ((fl (m ++ [(x, y)])).map (Value.int .i64)) := by
  rw [fl_app, List.map_append]
  exact h
theorem field_IRx (x y : Int) (w : World) : (Instr.field 39 (.agg #[.int .i64 x, .int .i64 y]) 1).run Try.prog w = .ok (.int .i64 y) w := by kernel_rfl
theorem own_sh {w : World} {B e size n : Nat} {v : Value} {xs : List Value} (h : w.ownsRow B e size v n xs) : ∃ a c, v = .slice a n c := by
  rcases h.2 with ⟨rfl, rfl⟩ | ⟨g, cap, cur, rfl, _⟩
  · exact ⟨none, 0, rfl⟩
  · exact ⟨_, _, rfl⟩
set_option maxRecDepth 100000 in
set_option maxHeartbeats 4000000 in
theorem implSlotsOf_core (b off c n : Nat) (l : Rcl) (w : World) (hn : n ≤ 12) (hb : b < w.heap.size) (hok : ∀ j, j < n → (rAt l j).c = 0) (hc : ∀ j, j < n → RecS w b (off + j * 4) (rAt l j))
    (hF : ∀ w', Below w.heap.size w w' → Calls Try.prog 16 #[.agg #[.slice (some ⟨b, off, none⟩) n c]] w' fun e w'' => e = .returned (.int .i64 0) ∧ Below w'.heap.size w' w'') :
    Calls Try.prog 25 #[.agg #[.slice (some ⟨b, off, none⟩) n c]] w fun e w' => ∃ u, e = .returned (.agg #[.int .i64 0, u]) ∧ Below w.heap.size w w' ∧ w'.ownsRow w.heap.size 112 2 u n ((fl (slTo l n)).map (Value.int .i64)) := by
  obtain ⟨i0, hi, hz0, hz1, hz2⟩ := info_parts Try.infoSl
  obtain ⟨W, hW⟩ : ∃ W, W = (w.alloc (.cells #[.slice (some ⟨b, off, none⟩) n c] 26)).alloc (.cells #[.int .i64 0, .slice none 0 0] 53) := ⟨_, rfl⟩
  have HW : Hid ((w.alloc (.cells #[.slice (some ⟨b, off, none⟩) n c] 26)).alloc (.cells #[.int .i64 0, .slice none 0 0] 53) = W) := hW.symm
  have hB : Below w.heap.size w W := by rw [hW]; exact two_new _ _
  have h1 : W.heap[w.heap.size + 1]? = some (.cells #[.int .i64 0, .slice none 0 0] 53) := by rw [hW]; exact heap_new2 w _ _
  have h2 : W.heap[w.heap.size]? = some (.cells #[.slice (some ⟨b, off, none⟩) n c] 26) := by rw [hW]; exact heap_alloc_old' _ _ _ (heap_alloc_new w _)
  have hF := hF W hB
  clear hW
  go_enter Try.func25, Try.ntmps25
  go_wp2_with fail
  rw [HW.out]
  refine hF.mono ?_
  rintro e w1 ⟨rfl, hb1⟩
  have hB1 := below_after_of hB hb1
  have h1 := (hb1.block _ (Array.getElem?_eq_some_iff.1 h1).1).trans h1
  have h2 := (hb1.block _ (Array.getElem?_eq_some_iff.1 h2).1).trans h2
  have k2 : w1.cell? ⟨w.heap.size, 0, none⟩ = some (.slice (some ⟨b, off, none⟩) n c) := by unfold World.cell?; rw [h2]; rfl
  have hlt1 : w.heap.size + 1 < w1.heap.size := (Array.getElem?_eq_some_iff.1 h1).1
  have HH : Hid (w1.heap[w.heap.size + 1]? = some (.cells #[.int .i64 0, .slice none 0 0] 53)) := h1
  have HC : Hid (∀ j, j < n → RecS w1 b (off + j * 4) (rAt l j)) := fun j hj => (hc j hj).below hB1 hb
  have hb1' : b < w1.heap.size := Nat.lt_of_lt_of_le hb hB1.size
  have HB1 : Hid (Below w.heap.size w w1) := hB1
  clear hF hb1 hB h1 h2 hc hB1
  go_wp2
  go_loopw [4, 16] (fun u i wr => ∃ k : Nat, k ≤ n ∧ i = .int .i64 k ∧ Hid (Below w1.heap.size w1 wr) ∧ Hid (wr.ownsRow w1.heap.size 112 2 u k ((fl (slTo l k)).map (Value.int .i64)))) (fun _ i _ => n - (intOf i).toNat)
  case atStart => exact ⟨0, Nat.zero_le _, rfl, Below.refl _ _, World.ownsRow_nil _ _ _ _⟩
  case round =>
    obtain ⟨k, hk, rfl, hB, ho⟩ := hrel
    obtain ⟨a', c', rfl⟩ := own_sh ho.out
    by_cases hkn : k < n
    · have hki : (k : Int) < (n : Int) := by omega
      have hr := (HC.out k hkn).below hB.out hb1'
      have hc0 := hok k hkn
      have hKy := fun w => recordKey_any (rAt l k).l (rAt l k).v (rAt l k).o (rAt l k).p w (Rc.labelP_of hc0)
      have hRs := fun w => implRecordSum_any (rAt l k).l (rAt l k).v (rAt l k).o (rAt l k).p w (by have := Rc.small_of hc0; omega)
      have e1 : recC (rAt l k).l (rAt l k).v (rAt l k).o (rAt l k).p = 0 := hc0
      rw [rs_ok e1, e1] at hRs
      have e2 : keyI (rAt l k).l = (rAt l k).k := rfl
      have e3 : sumL (packL (rAt l k).l (rAt l k).v (rAt l k).o (rAt l k).p) = (rAt l k).s := rfl
      rw [e2] at hKy
      rw [e3] at hRs
      have HG : Hid (slTo l (k + 1) = slTo l k ++ [((rAt l k).k, (rAt l k).s)]) := rfl
      obtain ⟨d0, d1, d2, d3⟩ := hr
      unfold recV at hKy hRs
      generalize (rAt l k).k = kz at *
      generalize (rAt l k).s = sz at *
      generalize (rAt l k).l = x0 at *
      generalize (rAt l k).v = x1 at *
      generalize (rAt l k).o = x2 at *
      generalize (rAt l k).p = x3 at *
      have hfx := field_IRx
      have hbr0 : b < wr.heap.size := Nat.lt_of_lt_of_le hb1' hB.out.size
      obtain ⟨V, hV⟩ : ∃ V, V = wr.alloc (.cells #[.string x0, .int .i64 x1, .int .i64 x2, .int .i64 x3] 28) := ⟨_, rfl⟩
      have HV : Hid (wr.alloc (.cells #[.string x0, .int .i64 x1, .int .i64 x2, .int .i64 x3] 28) = V) := hV.symm
      have hVB : Below wr.heap.size wr V := by rw [hV]; exact one_new _
      have hVH : V.heap[wr.heap.size]? = some (.cells #[.string x0, .int .i64 x1, .int .i64 x2, .int .i64 x3] 28) := by rw [hV]; exact heap_alloc_new wr _
      have hlt := (Array.getElem?_eq_some_iff.1 hVH).1
      have HVC : Hid (∀ w', Below V.heap.size V w' → w'.cell? ⟨wr.heap.size, 0, none⟩ = some (.string x0) ∧ w'.cell? ⟨wr.heap.size, 1, none⟩ = some (.int .i64 x1) ∧ w'.cell? ⟨wr.heap.size, 2, none⟩ = some (.int .i64 x2) ∧ w'.cell? ⟨wr.heap.size, 3, none⟩ = some (.int .i64 x3)) := fun w' h => four_cellsV ((h.block wr.heap.size hlt).trans hVH)
      have HOW : Hid (∀ w', Below V.heap.size V w' → w'.ownsRow w1.heap.size 112 2 (.slice a' k c') k ((fl (slTo l k)).map (Value.int .i64))) := fun w' h => own_below (own_below ho.out hVB) h
      have hoB : ∀ j, (Value.slice a' k c').ownBlock = some j → w1.heap.size ≤ j ∧ j < wr.heap.size := fun j hj => ho.out.lt j hj
      obtain ⟨g0, g1, g2, g3⟩ := four_cellsV hVH
      have hbr := Below.refl V.heap.size V
      have HZS : Hid (w1.heap.size ≤ wr.heap.size) := hB.out.size
      have HVS : Hid (wr.heap.size ≤ V.heap.size) := hVB.size
      have HVB : Hid (Below wr.heap.size wr V) := hVB
      clear hc0 e1 e2 e3 hV hVH hVB
      go_wp2_with fail
      rw [HV.out]
      go_region_held3 (fun w' => w'.cell? ⟨wr.heap.size, 0, none⟩ = some (.string x0) ∧ w'.cell? ⟨wr.heap.size, 1, none⟩ = some (.int .i64 x1) ∧ w'.cell? ⟨wr.heap.size, 2, none⟩ = some (.int .i64 x2) ∧ w'.cell? ⟨wr.heap.size, 3, none⟩ = some (.int .i64 x3))
        (first | with_reducible exact ⟨g0, g1, g2, g3⟩ | with_reducible exact HVC.out _ hbr | with_reducible exact HVC.out _ hbr.drew | with_reducible exact HVC.out _ (hbr.alloc hbr.size _) | with_reducible exact hlast)
        (first
          | (go_at_call 61; refine (hKy _).mono ?_; rintro e w5 ⟨rfl, hb5⟩; have hbr : Below V.heap.size V w5 := (by first | exact below_after_of hbr hb5 | exact below_after_of hbr.drew hb5))
          | (go_at_call 34; refine (hRs _).mono ?_; rintro e w6 ⟨rfl, hb6⟩; have hbr : Below V.heap.size V w6 := (by first | exact below_after_of hbr hb6 | exact below_after_of hbr.drew hb6))
          | (refine step_append_one (by rfl) _ _ _ (by rfl) w1.heap.size 112 i0 (.agg #[.int .i64 0, .int .i64 0]) 2 16 Try.underlying51 hi hz0 hz1 hz2 rfl (by decide) (.slice a' k c') k _ (by rfl) (HOW.out _ (hbr.alloc hbr.size _)) ⟨w6.heap.size, 0, none⟩ 1 [.int .i64 kz, .int .i64 sz] (by rfl) (by rfl) (World.news_of_block (heap_alloc_new _ _)) (ints_oneCell .i64 [kz, sz]) (by unfold maxLen; omega) (by omega) (by have := HZS.out; have := HVS.out; have := hbr.size; simp; omega) ?_; intro g7 c7 w7 ho7 hg7; have hlast : w7.cell? ⟨wr.heap.size, 0, none⟩ = some (.string x0) ∧ w7.cell? ⟨wr.heap.size, 1, none⟩ = some (.int .i64 x1) ∧ w7.cell? ⟨wr.heap.size, 2, none⟩ = some (.int .i64 x2) ∧ w7.cell? ⟨wr.heap.size, 3, none⟩ = some (.int .i64 x3) := (by
              have hne : some wr.heap.size ≠ (Value.slice a' k c').ownBlock := (fun e => by have := hoB _ e.symm; omega)
              have q := HVC.out _ (hbr.alloc hbr.size (.cells #[.int .i64 kz, .int .i64 sz] 112))
              exact ⟨hg7.cell q.1 hne, hg7.cell q.2.1 hne, hg7.cell q.2.2.1 hne, hg7.cell q.2.2.2 hne⟩)))
      have HO7 : Hid (w7.ownsRow w1.heap.size 112 2 (.slice (some ⟨g7, 0, none⟩) (k + 1) c7) (k + 1) ((fl (slTo l (k + 1))).map (Value.int .i64))) := (by rw [HG.out]; exact own_snocS ho7 : w7.ownsRow w1.heap.size 112 2 (.slice (some ⟨g7, 0, none⟩) (k + 1) c7) (k + 1) ((fl (slTo l (k + 1))).map (Value.int .i64)))
      have hbA : Below w1.heap.size w1 (w6.alloc (.cells #[.int .i64 kz, .int .i64 sz] 112)) := below_after_of hB.out (below_after_of HVB.out (hbr.alloc hbr.size _))
      have HB7 : Hid (Below w1.heap.size w1 w7) := hbA.grown hg7 hbA.size (fun j hj => (hoB j hj).1)
      clear hbA hg7 ho7 hlast HOW HVC
      go_wp2
      go_roundw
      case rel => exact ⟨k + 1, by omega, by go_num, HB7, HO7⟩
      case measure => simp [intOf]; omega
    · have hkn : k = n := by omega
      subst hkn
      have hh := (hB.out.block _ hlt1).trans HH.out
      obtain ⟨c0, c1, f0, f1⟩ := two_cells hh
      have HBE : Hid (Below w.heap.size w wr) := below_after_of HB1.out hB.out
      have HL1 : Hid (w.heap.size ≤ w1.heap.size) := HB1.out.size
      clear hh HC
      go_wp2
      refine bodyPost_ret (v := .agg #[.int .i64 0, .slice a' k c']) (by simp [results, Try.results25, go_sem, c0, c1]) rfl ⟨.slice a' k c', rfl, (HBE.out.setCell (Nat.le_succ _) _).setCell (Nat.le_succ _) _, ?_⟩
      exact own_mono (ownsRow_setCell_below (ownsRow_setCell_below ho.out (by show w.heap.size + 1 < w1.heap.size; exact hlt1) _) (by show w.heap.size + 1 < w1.heap.size; exact hlt1) _) HL1.out
set_option maxRecDepth 100000 in
set_option maxHeartbeats 1000000 in
theorem implSlotsOf_any (v : Value) (l : Rcl) (w : World) (hv : Rcs w v l) (hl : Lbs l) (hx : l.length ≤ 1048576) :
    Calls Try.prog 25 #[.agg #[v]] w fun e w' => SlotsAns w (dirF l) (sfL l) e w' := by
  have hF := fun w' hb => implDirectoryFault_any v l w' (hv.below (w' := w') hb) hl (by omega)
  obtain ⟨a, c, rfl⟩ := hv.shape
  by_cases h0 : dirF l = 0
  · have hok := dirOk h0
    have e1 : sfL l = slTo l l.length := by unfold sfL; rw [if_pos h0]; rfl
    rw [h0] at hF ⊢
    rw [e1]
    by_cases hl0 : 0 < l.length
    · obtain ⟨_, b, off, rfl, hb, hc⟩ := hv.at hl0
      refine (implSlotsOf_core b off c l.length l w hok.len hb hok.ok hc hF).mono ?_
      rintro e w' ⟨u, rfl, hB, ho⟩
      exact ⟨hB, u, rfl, by rw [slTo_len]; exact ho⟩
    · have e2 : l = [] := List.eq_nil_of_length_eq_zero (by omega)
      subst e2
      simp only [List.length_nil] at *
      have hF := fun o o' => hF ((w.alloc o).alloc o') (two_new _ _)
      clear hv hl0 hok e1 h0 hl
      go_enter Try.func25, Try.ntmps25
      go_wp2_with fail
      refine (hF _ _).mono ?_
      rintro e w1 ⟨rfl, hb1⟩
      obtain ⟨c0, c1, f0, f1⟩ := two_cells ((hb1.block (w.heap.size + 1) (by simp)).trans (heap_new2 w _ _))
      have k2 : w1.cell? ⟨w.heap.size, 0, none⟩ = some (.slice a 0 c) := by unfold World.cell?; rw [(hb1.block w.heap.size (by simp; omega)).trans (heap_alloc_old' _ _ _ (heap_alloc_new w _))]; rfl
      have hB1 : Below w.heap.size w w1 := below_after (below_after hb1)
      clear hF hb1
      go_wp2
      refine wp_loop_rounds 1 ?_; rw [rounds_succ]
      go_wp2
      exact bodyPost_ret (v := .agg #[.int .i64 0, .slice none 0 0]) (by simp [results, Try.results25, go_sem, c0, c1]) rfl ⟨(hB1.setCell (Nat.le_succ _) _).setCell (Nat.le_succ _) _, _, rfl, World.ownsRow_nil _ _ _ _⟩
  · have e1 : sfL l = [] := by unfold sfL; rw [if_neg h0]
    have hqn : (dirF l != 0) = true := by simpa using h0
    rw [e1]
    have hF := fun o o' => hF ((w.alloc o).alloc o') (two_new _ _)
    generalize dirF l = q at *
    generalize l.length = n at *
    clear hv e1 h0
    go_enter Try.func25, Try.ntmps25
    go_wp2_with fail
    refine (hF _ _).mono ?_
    rintro e w1 ⟨rfl, hb1⟩
    obtain ⟨c0, c1, f0, f1⟩ := two_cells ((hb1.block (w.heap.size + 1) (by simp)).trans (heap_new2 w _ _))
    have hB1 : Below w.heap.size w w1 := below_after (below_after hb1)
    clear hF hb1
    go_wp2
    exact bodyPost_ret (v := .agg #[.int .i64 q, .slice none 0 0]) (by simp [results, Try.results25, go_sem, c0, c1]) rfl ⟨(hB1.setCell (Nat.le_succ _) _).setCell (Nat.le_succ _) _, _, rfl, World.ownsRow_nil _ _ _ _⟩
end U
end Go.Proofs.Ythmnjojjnlnbjaa

/- A record put among those of other keys, by the model. -/
namespace Go.Proofs.Ythmnjojjnlnbjaa
open Go.RowKit
namespace U
theorem putT_len_le (l : Rcl) (r : Rc) : ∀ k, (putT l r k).2.length ≤ 2 * k
  | 0 => Nat.le_refl _
  | k + 1 => by
    have ih := putT_len_le l r k
    show (if (rAt l k).k = r.k then (if (!(putT l r k).1 && decide (r.k ≤ (rAt l k).k)) = true then (putT l r k).2 ++ [r] else (putT l r k).2) else (if (!(putT l r k).1 && decide (r.k ≤ (rAt l k).k)) = true then (putT l r k).2 ++ [r] else (putT l r k).2) ++ [rAt l k]).length ≤ _
    split <;> split <;> (try simp only [List.length_append, List.length_cons, List.length_nil]) <;> omega
theorem boxed_grown {W w1 : World} {n₀ B : Nat} {t e : TypeId} {size : Nat} {v : Value} {k : Nat} {xs : List Value} {tmp : Obj} (hv : Boxed W B t v) (hte : t ≠ e) (hrow : W.ownsRow n₀ e size v k xs) (hgrow : (W.alloc tmp).grownBy w1 v.ownBlock) : Boxed w1 B t v := (hv.alloc tmp).kept hgrow (hv.not_row hte hrow)
theorem grown_like {V W w1 : World} {row : Option Nat} (h : V.grownBy w1 row) (e1 : V.os = W.os) (e2 : V.tape = W.tape) (e3 : V.output = W.output) (e4 : V.heap = W.heap) : W.grownBy w1 row := ⟨h.os.trans e1, h.tape.trans e2, h.output.trans e3, by rw [← e4]; exact h.size, fun i hi hr => by rw [← e4] at hi ⊢; exact h.block i hi hr⟩
/-- What a round of putting does. -/
theorem putT_step (l : Rcl) (r : Rc) (k : Nat) : putT l r (k + 1) = ((putT l r k).1 || decide (r.k ≤ (rAt l k).k), if (rAt l k).k = r.k then (if (!(putT l r k).1 && decide (r.k ≤ (rAt l k).k)) = true then (putT l r k).2 ++ [r] else (putT l r k).2) else (if (!(putT l r k).1 && decide (r.k ≤ (rAt l k).k)) = true then (putT l r k).2 ++ [r] else (putT l r k).2) ++ [rAt l k]) := rfl
set_option maxRecDepth 100000 in
set_option maxHeartbeats 8000000 in
theorem l9Put_core (g b off c n : Nat) (av : Option Addr) (l : Rcl) (r0 : ByteArray) (r1 r2 r3 : Int) (w : World) (hn : n ≤ 12) (hg : g < w.heap.size) (hav : 0 < n → av = some ⟨b, off, none⟩ ∧ b < w.heap.size) (hsm : ∀ j, j < n → (rAt l j).l.size ≤ 12) (hrs : r0.size ≤ 12)
    (hD : w.cell? ⟨g, 0, none⟩ = some (.slice av n c)) (hc : ∀ j, j < n → RecS w b (off + j * 4) (rAt l j)) :
    Calls Try.prog 106 #[.pointer (some ⟨g, 0, none⟩), .agg #[.string r0, .int .i64 r1, .int .i64 r2, .int .i64 r3]] w fun e w' => ∃ a m c, e = .returned (.agg #[.slice a m c]) ∧ Below w.heap.size w w' ∧ w'.ownsRow w.heap.size 28 4 (.slice a m c) m (flR (if (putT l ⟨r0, r1, r2, r3⟩ n).1 = true then (putT l ⟨r0, r1, r2, r3⟩ n).2 else (putT l ⟨r0, r1, r2, r3⟩ n).2 ++ [⟨r0, r1, r2, r3⟩])) := by
  obtain ⟨i0, hi, hz0, hz1, hz2⟩ := info_parts Try.infoRc
  obtain ⟨r, hr⟩ : ∃ r : Rc, r = ⟨r0, r1, r2, r3⟩ := ⟨_, rfl⟩
  have HR0 : Hid (r = ⟨r0, r1, r2, r3⟩) := hr
  rw [← hr]
  obtain ⟨RL, hRL⟩ : ∃ RL, RL = if (putT l r n).1 = true then (putT l r n).2 else (putT l r n).2 ++ [r] := ⟨_, rfl⟩
  have HRL : Hid (RL = if (putT l r n).1 = true then (putT l r n).2 else (putT l r n).2 ++ [r]) := hRL
  rw [← hRL]
  clear hRL
  have hKr := fun w => l2Key_any r0 w hrs
  have e0 : keyI r0 = r.k := by rw [hr]; rfl
  rw [e0] at hKr
  clear hr e0
  obtain ⟨W, hW⟩ : ∃ W, W = ((w.alloc (.cells #[.string r0, .int .i64 r1, .int .i64 r2, .int .i64 r3] 28)).alloc (.cells #[.slice none 0 0] 26)).alloc (.cells #[.slice none 0 0] 26) := ⟨_, rfl⟩
  have HW : Hid (((w.alloc (.cells #[.string r0, .int .i64 r1, .int .i64 r2, .int .i64 r3] 28)).alloc (.cells #[.slice none 0 0] 26)).alloc (.cells #[.slice none 0 0] 26) = W) := hW.symm
  have hB : Below w.heap.size w W := by rw [hW]; exact ((one_new _).alloc (one_new _).size _).alloc ((one_new _).alloc (one_new _).size _).size _
  have q2 : Boxed W (w.heap.size + 1 + 1) 26 (.slice none 0 0) := by
    have h2 := heap_alloc_new ((w.alloc (.cells #[.string r0, .int .i64 r1, .int .i64 r2, .int .i64 r3] 28)).alloc (.cells #[.slice none 0 0] 26)) (.cells #[.slice none 0 0] 26)
    simp only [World.size_alloc] at h2
    rw [hW]
    exact h2
  have q1 : Boxed W (w.heap.size + 1) 26 (.slice none 0 0) := by
    have h1 := heap_alloc_new (w.alloc (.cells #[.string r0, .int .i64 r1, .int .i64 r2, .int .i64 r3] 28)) (.cells #[.slice none 0 0] 26)
    simp only [World.size_alloc] at h1
    rw [hW]
    exact ((one_new _).block (w.heap.size + 1) (by simp)).trans h1
  have q0 : W.heap[w.heap.size]? = some (.cells #[.string r0, .int .i64 r1, .int .i64 r2, .int .i64 r3] 28) := by
    rw [hW]
    exact ((one_new _).block w.heap.size (by simp; omega)).trans (heap_alloc_old' _ _ _ (heap_alloc_new w _))
  clear hW
  go_enter Try.func106, Try.ntmps106
  go_wp2_with fail
  rw [HW.out]
  refine (hKr _).mono ?_
  rintro e w1 ⟨rfl, hb1⟩
  have q2 : Boxed w1 (w.heap.size + 1 + 1) 26 (.slice none 0 0) := (hb1.block _ q2.lt).trans q2
  have q1 : Boxed w1 (w.heap.size + 1) 26 (.slice none 0 0) := (hb1.block _ q1.lt).trans q1
  have q0 := (hb1.block _ (Array.getElem?_eq_some_iff.1 q0).1).trans q0
  have hBW := below_after_of hB hb1
  have HD : Hid (∀ w', Below (w.heap.size + 1 + 1) w1 w' → w'.cell? ⟨g, 0, none⟩ = some (.slice av n c)) := fun w' h => (h.cell (p := ⟨g, 0, none⟩) (by show g < w.heap.size + 1 + 1; omega)).trans ((hBW.cell (p := ⟨g, 0, none⟩) hg).trans hD)
  have HX : Hid (∀ j w', j < n → Below (w.heap.size + 1 + 1) w1 w' → RecS w' b (off + j * 4) (rAt l j)) := fun j w' hj h => ((hc j hj).below hBW (hav (by omega)).2).below h (by have := (hav (by omega)).2; omega)
  have HRB : Hid (∀ w', Below (w.heap.size + 1 + 1) w1 w' → w'.cell? ⟨w.heap.size, 0, none⟩ = some (.string r0) ∧ w'.cell? ⟨w.heap.size, 1, none⟩ = some (.int .i64 r1) ∧ w'.cell? ⟨w.heap.size, 2, none⟩ = some (.int .i64 r2) ∧ w'.cell? ⟨w.heap.size, 3, none⟩ = some (.int .i64 r3)) := fun w' h => four_cellsV ((h.block _ (by omega)).trans q0)
  have HZ1 : Hid (∀ w', Below (w.heap.size + 1 + 1) w1 w' → Boxed w' (w.heap.size + 1) 26 (.slice none 0 0)) := fun w' h => (h.block _ (by omega)).trans q1
  have hzw : w.heap.size + 1 + 1 < w1.heap.size := q2.lt
  clear hKr hb1 hB q0 q1 hc hD
  go_wp2
  go_loopw [6, 8] (fun d i wr => ∃ k : Nat, k ≤ n ∧ i = .int .i64 k ∧ d = .bool (putT l r k).1 ∧ Hid (Below (w.heap.size + 1 + 1) w1 wr) ∧ Hid (w1.heap.size ≤ wr.heap.size) ∧ Hid (∃ a c, Boxed wr (w.heap.size + 1 + 1) 26 (.slice a (putT l r k).2.length c) ∧ wr.ownsRow w1.heap.size 28 4 (.slice a (putT l r k).2.length c) (putT l r k).2.length (flR (putT l r k).2))) (fun _ i _ => n - (intOf i).toNat)
  case atStart => exact ⟨0, Nat.zero_le _, rfl, rfl, Below.refl _ _, Nat.le_refl _, ⟨none, 0, q2, World.ownsRow_nil _ _ _ _⟩⟩
  case round =>
    obtain ⟨k, hk, rfl, rfl, hB, hzr, ho⟩ := hrel
    obtain ⟨a, cr, hbx, hrow⟩ := ho.out
    have hDk := HD.out _ hB.out
    have hcx := hbx.cell
    have hml := putT_len_le l r k
    obtain ⟨rr0, rr1, rr2, rr3⟩ := HRB.out _ hB.out
    have hzr' := hzr.out
    by_cases hkn : k < n
    · have hki : (k : Int) < (n : Int) := by omega
      obtain ⟨hav1, hb⟩ := hav (by omega)
      subst hav1
      have hK := fun w => l2Key_any (rAt l k).l w (hsm k hkn)
      have e2 : keyI (rAt l k).l = (rAt l k).k := rfl
      rw [e2] at hK
      have HXK : Hid (∀ w', Below (w.heap.size + 1 + 1) w1 w' → RecS w' b (off + k * 4) (rAt l k)) := fun w' h => HX.out k w' hkn h
      have HST := putT_step l r k
      have HS : Hid (putT l r (k + 1) = ((putT l r k).1 || decide (r.k ≤ (rAt l k).k), if (rAt l k).k = r.k then (if (!(putT l r k).1 && decide (r.k ≤ (rAt l k).k)) = true then (putT l r k).2 ++ [r] else (putT l r k).2) else (if (!(putT l r k).1 && decide (r.k ≤ (rAt l k).k)) = true then (putT l r k).2 ++ [r] else (putT l r k).2) ++ [rAt l k])) := HST
      generalize rAt l k = x at *
      obtain ⟨x0, x1, x2, x3⟩ := x
      generalize hxk : Rc.k ⟨x0, x1, x2, x3⟩ = xk at *
      have HXC : Hid (∀ w', Below (w.heap.size + 1 + 1) w1 w' → w'.cell? ⟨b, off + k * 4, none⟩ = some (.string x0) ∧ w'.cell? ⟨b, off + k * 4 + 1, none⟩ = some (.int .i64 x1) ∧ w'.cell? ⟨b, off + k * 4 + 2, none⟩ = some (.int .i64 x2) ∧ w'.cell? ⟨b, off + k * 4 + 3, none⟩ = some (.int .i64 x3)) := fun w' h => ⟨(HXK.out _ h).c0, (HXK.out _ h).c1, (HXK.out _ h).c2, (HXK.out _ h).c3⟩
      obtain ⟨xx0, -, -, -⟩ := HXC.out _ hB.out
      dsimp only at hK
      generalize (putT l r k).1 = d at *
      generalize (putT l r k).2 = o at *
      generalize hrk : r.k = rk at *
      have HHB : Hid (Boxed wr (w.heap.size + 1 + 1) 26 (.slice a o.length cr)) := hbx
      have HHR : Hid (wr.ownsRow w1.heap.size 28 4 (.slice a o.length cr) o.length (flR o)) := hrow
      clear HST e2 hxk hrk HXK hbx hrow ho HX
      cases d
      · by_cases hge : rk ≤ xk
        · have hdl : decide (rk ≤ xk) = true := by simpa using hge
          by_cases hxr : xk = rk
          · have hxn : (xk != rk) = false := by simpa using hxr
            have HQ : Hid (putT l r (k + 1) = (true, o ++ [r])) := (by rw [HS.out]; simp [hxr] : putT l r (k + 1) = (true, o ++ [r]))
            go_wp2_with fail
            refine (hK _).mono ?_
            rintro e w2 ⟨rfl, hb2⟩
            have hB2 : Below (w.heap.size + 1 + 1) w1 w2 := hB.out.trans (hb2.mono (by omega))
            have HHB2 : Hid (Boxed w2 (w.heap.size + 1 + 1) 26 (.slice a o.length cr)) := (hb2.block _ HHB.out.lt).trans HHB.out
            have HHR2 : Hid (w2.ownsRow w1.heap.size 28 4 (.slice a o.length cr) o.length (flR o)) := own_below HHR.out hb2
            have hzr2 : w1.heap.size ≤ w2.heap.size := Nat.le_trans hzr' hb2.size
            have hDk2 := HD.out _ hB2
            have hcx2 := HHB2.out.cell
            obtain ⟨rr0, rr1, rr2, rr3⟩ := HRB.out _ hB2
            obtain ⟨xx0, xx1, xx2, xx3⟩ := HXC.out _ hB2
            have hlt2 : w.heap.size + 1 + 1 < w2.heap.size := by omega
            clear hK hb2 HHB HHR hcx hDk
            go_wp2_with (at_builtin; refine wpList_append_own _ rfl _ _ 24 rfl w1.heap.size 28 i0 (.agg #[.string ⟨#[]⟩, .int .i64 0, .int .i64 0, .int .i64 0]) 4 40 Try.underlying24 hi hz0 hz1 hz2 rfl (by decide) _ _ _ rfl (HHR2.out.alloc _) ⟨w2.heap.size, 0, none⟩ 1 1 [.string r0, .int .i64 r1, .int .i64 r2, .int .i64 r3] rfl rfl (World.news_of_block (heap_alloc_new _ _)) (by simp [Value.oneCell']) (by unfold maxLen; omega) (by omega) (by simp; omega) ?_; intro v' w81 hown1 hgrow1 hnil1; obtain ⟨g1, p1, rfl⟩ := ownsRow_succ hown1; obtain ⟨hv11, hv21, hr21, hk21, hb21⟩ := HHB2.out.appended (by decide) (own_mono HHR2.out (by omega : w.heap.size + 1 + 1 ≤ w1.heap.size)) (by omega) (Nat.le_refl _) (own_mono hown1 (by omega : w.heap.size + 1 + 1 ≤ w1.heap.size)) hgrow1; have hc11 := hv11.cell; have hf11 := hv11.frozen; have HON1 : Hid (w81.ownsRow w1.heap.size 28 4 (.slice (some ⟨g1, 0, none⟩) (o.length + 1) p1) (o.length + 1) (flR o ++ [.string r0, .int .i64 r1, .int .i64 r2, .int .i64 r3])) := hown1; have HBN1 : Hid (Boxed (w81.setCell ⟨w.heap.size + 1 + 1, 0, none⟩ (.slice (some ⟨g1, 0, none⟩) (o.length + 1) p1)) (w.heap.size + 1 + 1) 26 (.slice (some ⟨g1, 0, none⟩) (o.length + 1) p1)) := hv21; have HBB1 : Hid (Below (w.heap.size + 1 + 1) w2 (w81.setCell ⟨w.heap.size + 1 + 1, 0, none⟩ (.slice (some ⟨g1, 0, none⟩) (o.length + 1) p1))) := hb21; have HSZ1 : Hid (w2.heap.size ≤ w81.heap.size) := Nat.le_trans (by simp) hgrow1.size; clear hgrow1 hnil1 hown1 hr21 hk21 hv21 hb21)
            have hBE : Below (w.heap.size + 1 + 1) w1 (w81.setCell ⟨w.heap.size + 1 + 1, 0, none⟩ (.slice (some ⟨g1, 0, none⟩) (o.length + 1) p1)) := hB2.trans HBB1.out
            have HRE : Hid ((w81.setCell ⟨w.heap.size + 1 + 1, 0, none⟩ (.slice (some ⟨g1, 0, none⟩) (o.length + 1) p1)).ownsRow w1.heap.size 28 4 (.slice (some ⟨g1, 0, none⟩) (o.length + 1) p1) (o.length + 1) (flR (o ++ [r]))) := (by rw [flR_app, HR0.out]; exact ownsRow_setCell_below HON1.out (by show w.heap.size + 1 + 1 < w1.heap.size; omega) _ : (w81.setCell ⟨w.heap.size + 1 + 1, 0, none⟩ (.slice (some ⟨g1, 0, none⟩) (o.length + 1) p1)).ownsRow w1.heap.size 28 4 (.slice (some ⟨g1, 0, none⟩) (o.length + 1) p1) (o.length + 1) (flR (o ++ [r])))
            have HZE : Hid (w1.heap.size ≤ (w81.setCell ⟨w.heap.size + 1 + 1, 0, none⟩ (.slice (some ⟨g1, 0, none⟩) (o.length + 1) p1)).heap.size) := hBE.size
            clear hc11 hf11 HBB1 HON1 hv11
            go_wp2
            go_roundw
            case rel => exact ⟨k + 1, by omega, by go_num, by rw [HQ.out], hBE, HZE, ⟨_, _, by rw [HQ.out, List.length_append]; exact HBN1.out, by rw [HQ.out, List.length_append]; exact HRE.out⟩⟩
            case measure => simp [intOf]; omega
          · have hxn : (xk != rk) = true := by simpa using hxr
            have HQ : Hid (putT l r (k + 1) = (true, (o ++ [r]) ++ [⟨x0, x1, x2, x3⟩])) := (by rw [HS.out]; simp [hdl, hxr] : putT l r (k + 1) = (true, (o ++ [r]) ++ [⟨x0, x1, x2, x3⟩]))
            go_wp2_with fail
            refine (hK _).mono ?_
            rintro e w2 ⟨rfl, hb2⟩
            have hB2 : Below (w.heap.size + 1 + 1) w1 w2 := hB.out.trans (hb2.mono (by omega))
            have HHB2 : Hid (Boxed w2 (w.heap.size + 1 + 1) 26 (.slice a o.length cr)) := (hb2.block _ HHB.out.lt).trans HHB.out
            have HHR2 : Hid (w2.ownsRow w1.heap.size 28 4 (.slice a o.length cr) o.length (flR o)) := own_below HHR.out hb2
            have hzr2 : w1.heap.size ≤ w2.heap.size := Nat.le_trans hzr' hb2.size
            have hDk2 := HD.out _ hB2
            have hcx2 := HHB2.out.cell
            obtain ⟨rr0, rr1, rr2, rr3⟩ := HRB.out _ hB2
            obtain ⟨xx0, xx1, xx2, xx3⟩ := HXC.out _ hB2
            have hlt2 : w.heap.size + 1 + 1 < w2.heap.size := by omega
            clear hK hb2 HHB HHR hcx hDk
            go_wp2_with (at_builtin; refine wpList_append_own _ rfl _ _ 24 rfl w1.heap.size 28 i0 (.agg #[.string ⟨#[]⟩, .int .i64 0, .int .i64 0, .int .i64 0]) 4 40 Try.underlying24 hi hz0 hz1 hz2 rfl (by decide) _ _ _ rfl (HHR2.out.alloc _) ⟨w2.heap.size, 0, none⟩ 1 1 [.string r0, .int .i64 r1, .int .i64 r2, .int .i64 r3] rfl rfl (World.news_of_block (heap_alloc_new _ _)) (by simp [Value.oneCell']) (by unfold maxLen; omega) (by omega) (by simp; omega) ?_; intro v' w81 hown1 hgrow1 hnil1; obtain ⟨g1, p1, rfl⟩ := ownsRow_succ hown1; obtain ⟨hv11, hv21, hr21, hk21, hb21⟩ := HHB2.out.appended (by decide) (own_mono HHR2.out (by omega : w.heap.size + 1 + 1 ≤ w1.heap.size)) (by omega) (Nat.le_refl _) (own_mono hown1 (by omega : w.heap.size + 1 + 1 ≤ w1.heap.size)) hgrow1; have hc11 := hv11.cell; have hf11 := hv11.frozen; have HON1 : Hid (w81.ownsRow w1.heap.size 28 4 (.slice (some ⟨g1, 0, none⟩) (o.length + 1) p1) (o.length + 1) (flR o ++ [.string r0, .int .i64 r1, .int .i64 r2, .int .i64 r3])) := hown1; have HBN1 : Hid (Boxed (w81.setCell ⟨w.heap.size + 1 + 1, 0, none⟩ (.slice (some ⟨g1, 0, none⟩) (o.length + 1) p1)) (w.heap.size + 1 + 1) 26 (.slice (some ⟨g1, 0, none⟩) (o.length + 1) p1)) := hv21; have HBB1 : Hid (Below (w.heap.size + 1 + 1) w2 (w81.setCell ⟨w.heap.size + 1 + 1, 0, none⟩ (.slice (some ⟨g1, 0, none⟩) (o.length + 1) p1))) := hb21; have HSZ1 : Hid (w2.heap.size ≤ w81.heap.size) := Nat.le_trans (by simp) hgrow1.size; clear hgrow1 hnil1 hown1 hr21 hk21 hv21 hb21)
            have hBE : Below (w.heap.size + 1 + 1) w1 (w81.setCell ⟨w.heap.size + 1 + 1, 0, none⟩ (.slice (some ⟨g1, 0, none⟩) (o.length + 1) p1)) := hB2.trans HBB1.out
            have HRE : Hid ((w81.setCell ⟨w.heap.size + 1 + 1, 0, none⟩ (.slice (some ⟨g1, 0, none⟩) (o.length + 1) p1)).ownsRow w1.heap.size 28 4 (.slice (some ⟨g1, 0, none⟩) (o.length + 1) p1) (o.length + 1) (flR (o ++ [r]))) := (by rw [flR_app, HR0.out]; exact ownsRow_setCell_below HON1.out (by show w.heap.size + 1 + 1 < w1.heap.size; omega) _ : (w81.setCell ⟨w.heap.size + 1 + 1, 0, none⟩ (.slice (some ⟨g1, 0, none⟩) (o.length + 1) p1)).ownsRow w1.heap.size 28 4 (.slice (some ⟨g1, 0, none⟩) (o.length + 1) p1) (o.length + 1) (flR (o ++ [r])))
            have HBE : Hid (Boxed (w81.setCell ⟨w.heap.size + 1 + 1, 0, none⟩ (.slice (some ⟨g1, 0, none⟩) (o.length + 1) p1)) (w.heap.size + 1 + 1) 26 (.slice (some ⟨g1, 0, none⟩) (o.length + 1) p1)) := HBN1.out
            obtain ⟨E, hE⟩ : ∃ E, E = w81.setCell ⟨w.heap.size + 1 + 1, 0, none⟩ (.slice (some ⟨g1, 0, none⟩) (o.length + 1) p1) := ⟨_, rfl⟩
            rw [← hE] at hBE HRE HBE ⊢
            have hDkE := HD.out _ hBE
            have hcxE := HBE.out.cell
            have hzrE : w1.heap.size ≤ E.heap.size := hBE.size
            obtain ⟨ex0, ex1, ex2, ex3⟩ := HXC.out _ hBE
            have hltE : w.heap.size + 1 + 1 < E.heap.size := by omega
            clear hc11 hf11 HBB1 HON1 hv11 HBN1 hE HHB2 HHR2 hcx2 hDk2 rr0 rr1 rr2 rr3 xx0 xx1 xx2 xx3 hB2 hlt2 HSZ1
            try go_wp2_with fail
            go_region_law (first
              | (refine step_append_one (by rfl) _ _ _ (by rfl) w1.heap.size 28 i0 (.agg #[.string ⟨#[]⟩, .int .i64 0, .int .i64 0, .int .i64 0]) 4 40 Try.underlying24 hi hz0 hz1 hz2 rfl (by decide) (.slice (some ⟨g1, 0, none⟩) (o.length + 1) p1) (o.length + 1) (flR (o ++ [r])) (by rfl) (by first | exact HRE.out.alloc _ | exact (HRE.out.alloc _).drew | exact ((HRE.out.alloc _).drew).drew | exact (HRE.out.drew.alloc _) | exact (HRE.out.drew.alloc _).drew) ⟨E.heap.size, 0, none⟩ 1 [.string x0, .int .i64 x1, .int .i64 x2, .int .i64 x3] (by rfl) (by rfl) (World.news_of_block (by first | exact heap_alloc_new E _ | exact heap_alloc_new E.drew _)) (by simp [Value.oneCell']) (by unfold maxLen; omega) (by omega) (by simp; omega) ?_; intro gx px wx ownx grx0; have grx : (E.alloc (.cells #[.string x0, .int .i64 x1, .int .i64 x2, .int .i64 x3] 28)).grownBy wx (Value.slice (some ⟨g1, 0, none⟩) (o.length + 1) p1).ownBlock := grown_like grx0 rfl rfl rfl rfl; clear grx0; have kx := (boxed_grown HBE.out (by decide) (own_mono HRE.out (by omega : w.heap.size + 1 + 1 ≤ w1.heap.size)) grx).cell; have kf := (boxed_grown HBE.out (by decide) (own_mono HRE.out (by omega : w.heap.size + 1 + 1 ≤ w1.heap.size)) grx).frozen))
            all_goals (
              obtain ⟨y1, y2, y3, y4, y5⟩ := HBE.out.appended (by decide) (own_mono HRE.out (by omega : w.heap.size + 1 + 1 ≤ w1.heap.size)) (by omega) (Nat.le_refl _) (own_mono ownx (by omega : w.heap.size + 1 + 1 ≤ w1.heap.size)) grx
              have HOX : Hid ((wx.setCell ⟨w.heap.size + 1 + 1, 0, none⟩ (.slice (some ⟨gx, 0, none⟩) (o.length + 1 + 1) px)).ownsRow w1.heap.size 28 4 (.slice (some ⟨gx, 0, none⟩) (o.length + 1 + 1) px) (o.length + 1 + 1) (flR (o ++ [r]) ++ [.string x0, .int .i64 x1, .int .i64 x2, .int .i64 x3])) := ownsRow_setCell_below ownx (by show w.heap.size + 1 + 1 < w1.heap.size; omega) _
              have HBX : Hid (Below (w.heap.size + 1 + 1) w1 (wx.setCell ⟨w.heap.size + 1 + 1, 0, none⟩ (.slice (some ⟨gx, 0, none⟩) (o.length + 1 + 1) px))) := hBE.trans y5
              have HZX : Hid (w1.heap.size ≤ (wx.setCell ⟨w.heap.size + 1 + 1, 0, none⟩ (.slice (some ⟨gx, 0, none⟩) (o.length + 1 + 1) px)).heap.size) := HBX.out.size
              have HYX : Hid (Boxed (wx.setCell ⟨w.heap.size + 1 + 1, 0, none⟩ (.slice (some ⟨gx, 0, none⟩) (o.length + 1 + 1) px)) (w.heap.size + 1 + 1) 26 (.slice (some ⟨gx, 0, none⟩) (o.length + 1 + 1) px)) := y2
              clear y1 y2 y3 y4 y5 ownx grx kx kf
              go_wp2
              go_roundw
              case rel => exact ⟨k + 1, by omega, by go_num, by rw [HQ.out], HBX, HZX, ⟨_, _, by rw [HQ.out, List.length_append, List.length_append]; exact HYX.out, by rw [HQ.out, List.length_append, List.length_append, flR_app]; exact HOX.out⟩⟩
              case measure => simp [intOf]; omega)
        · have hdl : decide (rk ≤ xk) = false := by simpa using hge
          by_cases hxr : xk = rk
          · omega
          · have hxn : (xk != rk) = true := by simpa using hxr
            have HQ : Hid (putT l r (k + 1) = (false, o ++ [⟨x0, x1, x2, x3⟩])) := (by rw [HS.out]; simp [hdl, hxr] : putT l r (k + 1) = (false, o ++ [⟨x0, x1, x2, x3⟩]))
            go_wp2_with fail
            refine (hK _).mono ?_
            rintro e w2 ⟨rfl, hb2⟩
            have hB2 : Below (w.heap.size + 1 + 1) w1 w2 := hB.out.trans (hb2.mono (by omega))
            have HHB2 : Hid (Boxed w2 (w.heap.size + 1 + 1) 26 (.slice a o.length cr)) := (hb2.block _ HHB.out.lt).trans HHB.out
            have HHR2 : Hid (w2.ownsRow w1.heap.size 28 4 (.slice a o.length cr) o.length (flR o)) := own_below HHR.out hb2
            have hzr2 : w1.heap.size ≤ w2.heap.size := Nat.le_trans hzr' hb2.size
            have hDk2 := HD.out _ hB2
            have hcx2 := HHB2.out.cell
            obtain ⟨rr0, rr1, rr2, rr3⟩ := HRB.out _ hB2
            obtain ⟨xx0, xx1, xx2, xx3⟩ := HXC.out _ hB2
            have hlt2 : w.heap.size + 1 + 1 < w2.heap.size := by omega
            clear hK hb2 HHB HHR hcx hDk
            go_wp2_with fail
            go_region_law (first
              | (refine step_append_one (by rfl) _ _ _ (by rfl) w1.heap.size 28 i0 (.agg #[.string ⟨#[]⟩, .int .i64 0, .int .i64 0, .int .i64 0]) 4 40 Try.underlying24 hi hz0 hz1 hz2 rfl (by decide) (.slice a o.length cr) (o.length) (flR (o)) (by rfl) (by first | exact HHR2.out.alloc _ | exact (HHR2.out.alloc _).drew | exact ((HHR2.out.alloc _).drew).drew | exact (HHR2.out.drew.alloc _) | exact (HHR2.out.drew.alloc _).drew) ⟨w2.heap.size, 0, none⟩ 1 [.string x0, .int .i64 x1, .int .i64 x2, .int .i64 x3] (by rfl) (by rfl) (World.news_of_block (by first | exact heap_alloc_new w2 _ | exact heap_alloc_new w2.drew _)) (by simp [Value.oneCell']) (by unfold maxLen; omega) (by omega) (by simp; omega) ?_; intro gx px wx ownx grx0; have grx : (w2.alloc (.cells #[.string x0, .int .i64 x1, .int .i64 x2, .int .i64 x3] 28)).grownBy wx (Value.slice a o.length cr).ownBlock := grown_like grx0 rfl rfl rfl rfl; clear grx0; have kx := (boxed_grown HHB2.out (by decide) (own_mono HHR2.out (by omega : w.heap.size + 1 + 1 ≤ w1.heap.size)) grx).cell; have kf := (boxed_grown HHB2.out (by decide) (own_mono HHR2.out (by omega : w.heap.size + 1 + 1 ≤ w1.heap.size)) grx).frozen))
            all_goals (
              obtain ⟨y1, y2, y3, y4, y5⟩ := HHB2.out.appended (by decide) (own_mono HHR2.out (by omega : w.heap.size + 1 + 1 ≤ w1.heap.size)) (by omega) (Nat.le_refl _) (own_mono ownx (by omega : w.heap.size + 1 + 1 ≤ w1.heap.size)) grx
              have HOX : Hid ((wx.setCell ⟨w.heap.size + 1 + 1, 0, none⟩ (.slice (some ⟨gx, 0, none⟩) (o.length + 1) px)).ownsRow w1.heap.size 28 4 (.slice (some ⟨gx, 0, none⟩) (o.length + 1) px) (o.length + 1) (flR (o) ++ [.string x0, .int .i64 x1, .int .i64 x2, .int .i64 x3])) := ownsRow_setCell_below ownx (by show w.heap.size + 1 + 1 < w1.heap.size; omega) _
              have HBX : Hid (Below (w.heap.size + 1 + 1) w1 (wx.setCell ⟨w.heap.size + 1 + 1, 0, none⟩ (.slice (some ⟨gx, 0, none⟩) (o.length + 1) px))) := hB2.trans y5
              have HZX : Hid (w1.heap.size ≤ (wx.setCell ⟨w.heap.size + 1 + 1, 0, none⟩ (.slice (some ⟨gx, 0, none⟩) (o.length + 1) px)).heap.size) := HBX.out.size
              have HYX : Hid (Boxed (wx.setCell ⟨w.heap.size + 1 + 1, 0, none⟩ (.slice (some ⟨gx, 0, none⟩) (o.length + 1) px)) (w.heap.size + 1 + 1) 26 (.slice (some ⟨gx, 0, none⟩) (o.length + 1) px)) := y2
              clear y1 y2 y3 y4 y5 ownx grx kx kf
              go_wp2
              go_roundw
              case rel => exact ⟨k + 1, by omega, by go_num, by rw [HQ.out], HBX, HZX, ⟨_, _, by rw [HQ.out, List.length_append]; exact HYX.out, by rw [HQ.out, List.length_append, flR_app]; exact HOX.out⟩⟩
              case measure => simp [intOf]; omega)
      · by_cases hxr : xk = rk
        · have hxn : (xk != rk) = false := by simpa using hxr
          have HQ : Hid (putT l r (k + 1) = (true, o)) := (by rw [HS.out]; simp [hxr] : putT l r (k + 1) = (true, o))
          go_wp2_with fail
          refine (hK _).mono ?_
          rintro e w2 ⟨rfl, hb2⟩
          have hB2 : Below (w.heap.size + 1 + 1) w1 w2 := hB.out.trans (hb2.mono (by omega))
          have HHB2 : Hid (Boxed w2 (w.heap.size + 1 + 1) 26 (.slice a o.length cr)) := (hb2.block _ HHB.out.lt).trans HHB.out
          have HHR2 : Hid (w2.ownsRow w1.heap.size 28 4 (.slice a o.length cr) o.length (flR o)) := own_below HHR.out hb2
          have hzr2 : w1.heap.size ≤ w2.heap.size := Nat.le_trans hzr' hb2.size
          have hDk2 := HD.out _ hB2
          have hcx2 := HHB2.out.cell
          obtain ⟨rr0, rr1, rr2, rr3⟩ := HRB.out _ hB2
          obtain ⟨xx0, xx1, xx2, xx3⟩ := HXC.out _ hB2
          have hlt2 : w.heap.size + 1 + 1 < w2.heap.size := by omega
          clear hK hb2 HHB HHR hcx hDk
          have HZ2 : Hid (w1.heap.size ≤ w2.heap.size) := hzr2
          have HB2 : Hid (Below (w.heap.size + 1 + 1) w1 w2) := hB2
          go_wp2
          go_roundw
          case rel => exact ⟨k + 1, by omega, by go_num, by rw [HQ.out], HB2, HZ2, ⟨_, _, by rw [HQ.out]; exact HHB2.out, by rw [HQ.out]; exact HHR2.out⟩⟩
          case measure => simp [intOf]; omega
        · have hxn : (xk != rk) = true := by simpa using hxr
          have HQ : Hid (putT l r (k + 1) = (true, o ++ [⟨x0, x1, x2, x3⟩])) := (by rw [HS.out]; simp [hxr] : putT l r (k + 1) = (true, o ++ [⟨x0, x1, x2, x3⟩]))
          go_wp2_with fail
          refine (hK _).mono ?_
          rintro e w2 ⟨rfl, hb2⟩
          have hB2 : Below (w.heap.size + 1 + 1) w1 w2 := hB.out.trans (hb2.mono (by omega))
          have HHB2 : Hid (Boxed w2 (w.heap.size + 1 + 1) 26 (.slice a o.length cr)) := (hb2.block _ HHB.out.lt).trans HHB.out
          have HHR2 : Hid (w2.ownsRow w1.heap.size 28 4 (.slice a o.length cr) o.length (flR o)) := own_below HHR.out hb2
          have hzr2 : w1.heap.size ≤ w2.heap.size := Nat.le_trans hzr' hb2.size
          have hDk2 := HD.out _ hB2
          have hcx2 := HHB2.out.cell
          obtain ⟨rr0, rr1, rr2, rr3⟩ := HRB.out _ hB2
          obtain ⟨xx0, xx1, xx2, xx3⟩ := HXC.out _ hB2
          have hlt2 : w.heap.size + 1 + 1 < w2.heap.size := by omega
          clear hK hb2 HHB HHR hcx hDk
          go_wp2_with fail
          go_region_law (first
            | (refine step_append_one (by rfl) _ _ _ (by rfl) w1.heap.size 28 i0 (.agg #[.string ⟨#[]⟩, .int .i64 0, .int .i64 0, .int .i64 0]) 4 40 Try.underlying24 hi hz0 hz1 hz2 rfl (by decide) (.slice a o.length cr) (o.length) (flR (o)) (by rfl) (by first | exact HHR2.out.alloc _ | exact (HHR2.out.alloc _).drew | exact ((HHR2.out.alloc _).drew).drew | exact (HHR2.out.drew.alloc _) | exact (HHR2.out.drew.alloc _).drew) ⟨w2.heap.size, 0, none⟩ 1 [.string x0, .int .i64 x1, .int .i64 x2, .int .i64 x3] (by rfl) (by rfl) (World.news_of_block (by first | exact heap_alloc_new w2 _ | exact heap_alloc_new w2.drew _)) (by simp [Value.oneCell']) (by unfold maxLen; omega) (by omega) (by simp; omega) ?_; intro gx px wx ownx grx0; have grx : (w2.alloc (.cells #[.string x0, .int .i64 x1, .int .i64 x2, .int .i64 x3] 28)).grownBy wx (Value.slice a o.length cr).ownBlock := grown_like grx0 rfl rfl rfl rfl; clear grx0; have kx := (boxed_grown HHB2.out (by decide) (own_mono HHR2.out (by omega : w.heap.size + 1 + 1 ≤ w1.heap.size)) grx).cell; have kf := (boxed_grown HHB2.out (by decide) (own_mono HHR2.out (by omega : w.heap.size + 1 + 1 ≤ w1.heap.size)) grx).frozen))
          all_goals (
            obtain ⟨y1, y2, y3, y4, y5⟩ := HHB2.out.appended (by decide) (own_mono HHR2.out (by omega : w.heap.size + 1 + 1 ≤ w1.heap.size)) (by omega) (Nat.le_refl _) (own_mono ownx (by omega : w.heap.size + 1 + 1 ≤ w1.heap.size)) grx
            have HOX : Hid ((wx.setCell ⟨w.heap.size + 1 + 1, 0, none⟩ (.slice (some ⟨gx, 0, none⟩) (o.length + 1) px)).ownsRow w1.heap.size 28 4 (.slice (some ⟨gx, 0, none⟩) (o.length + 1) px) (o.length + 1) (flR (o) ++ [.string x0, .int .i64 x1, .int .i64 x2, .int .i64 x3])) := ownsRow_setCell_below ownx (by show w.heap.size + 1 + 1 < w1.heap.size; omega) _
            have HBX : Hid (Below (w.heap.size + 1 + 1) w1 (wx.setCell ⟨w.heap.size + 1 + 1, 0, none⟩ (.slice (some ⟨gx, 0, none⟩) (o.length + 1) px))) := hB2.trans y5
            have HZX : Hid (w1.heap.size ≤ (wx.setCell ⟨w.heap.size + 1 + 1, 0, none⟩ (.slice (some ⟨gx, 0, none⟩) (o.length + 1) px)).heap.size) := HBX.out.size
            have HYX : Hid (Boxed (wx.setCell ⟨w.heap.size + 1 + 1, 0, none⟩ (.slice (some ⟨gx, 0, none⟩) (o.length + 1) px)) (w.heap.size + 1 + 1) 26 (.slice (some ⟨gx, 0, none⟩) (o.length + 1) px)) := y2
            clear y1 y2 y3 y4 y5 ownx grx kx kf
            go_wp2
            go_roundw
            case rel => exact ⟨k + 1, by omega, by go_num, by rw [HQ.out], HBX, HZX, ⟨_, _, by rw [HQ.out, List.length_append]; exact HYX.out, by rw [HQ.out, List.length_append, flR_app]; exact HOX.out⟩⟩
            case measure => simp [intOf]; omega)

    · have hkn : k = n := by omega
      subst hkn
      have hz1b := HZ1.out _ hB.out
      have hbx1 := hz1b.cell
      have hfx1 := hz1b.frozen
      have HZB : Hid (Boxed wr (w.heap.size + 1) 26 (.slice none 0 0)) := hz1b
      have HBE : Hid (Below w.heap.size w wr) := hBW.trans (hB.out.mono (by omega))
      generalize (putT l r k).1 = d at *
      generalize (putT l r k).2 = o at *
      have HHB : Hid (Boxed wr (w.heap.size + 1 + 1) 26 (.slice a o.length cr)) := hbx
      have HHR : Hid (wr.ownsRow w1.heap.size 28 4 (.slice a o.length cr) o.length (flR o)) := hrow
      have hltr : w.heap.size + 1 + 1 < wr.heap.size := by omega
      clear hbx hrow ho HX hz1b
      cases d
      · have HRE : Hid (RL = o ++ [r]) := (by rw [HRL.out]; rfl : RL = o ++ [r])
        go_wp2_with (at_builtin; refine wpList_append_own _ rfl _ _ 24 rfl w1.heap.size 28 i0 (.agg #[.string ⟨#[]⟩, .int .i64 0, .int .i64 0, .int .i64 0]) 4 40 Try.underlying24 hi hz0 hz1 hz2 rfl (by decide) _ _ _ rfl (HHR.out.alloc _) ⟨wr.heap.size, 0, none⟩ 1 1 [.string r0, .int .i64 r1, .int .i64 r2, .int .i64 r3] rfl rfl (World.news_of_block (heap_alloc_new _ _)) (by simp [Value.oneCell']) (by unfold maxLen; omega) (by omega) (by simp; omega) ?_; intro v' w81 hown1 hgrow1 hnil1; obtain ⟨g1, p1, rfl⟩ := ownsRow_succ hown1; obtain ⟨hv11, hv21, hr21, hk21, hb21⟩ := HHB.out.appended (by decide) (own_mono HHR.out (by omega : w.heap.size + 1 + 1 ≤ w1.heap.size)) (by omega) (Nat.le_refl _) (own_mono hown1 (by omega : w.heap.size + 1 + 1 ≤ w1.heap.size)) hgrow1; have hc11 := hv11.cell; have hf11 := hv11.frozen; have HON1 : Hid (w81.ownsRow w1.heap.size 28 4 (.slice (some ⟨g1, 0, none⟩) (o.length + 1) p1) (o.length + 1) (flR o ++ [.string r0, .int .i64 r1, .int .i64 r2, .int .i64 r3])) := hown1; have HBN1 : Hid (Boxed (w81.setCell ⟨w.heap.size + 1 + 1, 0, none⟩ (.slice (some ⟨g1, 0, none⟩) (o.length + 1) p1)) (w.heap.size + 1 + 1) 26 (.slice (some ⟨g1, 0, none⟩) (o.length + 1) p1)) := hv21; have HBB1 : Hid (Below (w.heap.size + 1 + 1) wr (w81.setCell ⟨w.heap.size + 1 + 1, 0, none⟩ (.slice (some ⟨g1, 0, none⟩) (o.length + 1) p1))) := hb21; have HSZ1 : Hid (wr.heap.size ≤ w81.heap.size) := Nat.le_trans (by simp) hgrow1.size; have hq1 := (HZB.out.alloc (.cells #[.string r0, .int .i64 r1, .int .i64 r2, .int .i64 r3] 28)).kept hgrow1 (fun e => by have := (HHR.out.lt _ e.symm).1; omega); have hqc := hq1.cell; have hqf := hq1.frozen; clear hgrow1 hnil1 hown1 hr21 hk21 hv21 hb21)
        have HRO : Hid ((w81.setCell ⟨w.heap.size + 1 + 1, 0, none⟩ (.slice (some ⟨g1, 0, none⟩) (o.length + 1) p1)).ownsRow w1.heap.size 28 4 (.slice (some ⟨g1, 0, none⟩) (o.length + 1) p1) (o.length + 1) (flR RL)) := (by rw [HRE.out, flR_app, HR0.out]; exact ownsRow_setCell_below HON1.out (by show w.heap.size + 1 + 1 < w1.heap.size; omega) _ : (w81.setCell ⟨w.heap.size + 1 + 1, 0, none⟩ (.slice (some ⟨g1, 0, none⟩) (o.length + 1) p1)).ownsRow w1.heap.size 28 4 (.slice (some ⟨g1, 0, none⟩) (o.length + 1) p1) (o.length + 1) (flR RL))
        have HBF : Hid (Below w.heap.size w (w81.setCell ⟨w.heap.size + 1 + 1, 0, none⟩ (.slice (some ⟨g1, 0, none⟩) (o.length + 1) p1))) := HBE.out.trans (HBB1.out.mono (by omega))
        clear HBB1 HON1 hv11 HBN1 HRE
        go_wp2
        exact bodyPost_ret (v := .agg #[.slice (some ⟨g1, 0, none⟩) (o.length + 1) p1]) (by simp [results, Try.results106, go_sem, hqc]) rfl ⟨_, _, _, rfl, HBF.out.setCell (Nat.le_succ _) _, own_mono (ownsRow_setCell_below HRO.out (by show w.heap.size + 1 < w1.heap.size; omega) _) (by omega)⟩
      · have HRE : Hid (RL = o) := (by rw [HRL.out]; rfl : RL = o)
        have HRO : Hid (wr.ownsRow w1.heap.size 28 4 (.slice a o.length cr) o.length (flR RL)) := (by rw [HRE.out]; exact HHR.out : wr.ownsRow w1.heap.size 28 4 (.slice a o.length cr) o.length (flR RL))
        go_wp2
        exact bodyPost_ret (v := .agg #[.slice a o.length cr]) (by simp [results, Try.results106, go_sem, hbx1]) rfl ⟨a, _, cr, rfl, HBE.out.setCell (Nat.le_succ _) _, own_mono (ownsRow_setCell_below HRO.out (by show w.heap.size + 1 < w1.heap.size; omega) _) (by omega)⟩
theorem l9Put_any (g : Nat) (v : Value) (l : Rcl) (r : Rc) (w : World) (hg : g < w.heap.size) (hD : w.cell? ⟨g, 0, none⟩ = some v) (hv : Rcs w v l) (hok : DirOk l) (hrs : r.l.size ≤ 12) :
    Calls Try.prog 106 #[.pointer (some ⟨g, 0, none⟩), .agg #[.string r.l, .int .i64 r.v, .int .i64 r.o, .int .i64 r.p]] w fun e w' => ∃ a m c, e = .returned (.agg #[.slice a m c]) ∧ Below w.heap.size w w' ∧ w'.ownsRow w.heap.size 28 4 (.slice a m c) m (flR (putR l r)) := by
  obtain ⟨a, c, rfl⟩ := hv.shape
  obtain ⟨b, off, hav, hc⟩ : ∃ b off, (0 < l.length → a = some ⟨b, off, none⟩ ∧ b < w.heap.size) ∧ ∀ j, j < l.length → RecS w b (off + j * 4) (rAt l j) := by
    by_cases h0 : 0 < l.length
    · obtain ⟨-, b, off, e, hb, hc⟩ := hv.at h0
      exact ⟨b, off, fun _ => ⟨e, hb⟩, hc⟩
    · exact ⟨0, 0, fun h => absurd h h0, fun j hj => by omega⟩
  exact l9Put_core g b off c l.length a l r.l r.v r.o r.p w hok.len hg hav (fun j hj => Rc.small_of (hok.ok j hj)) hrs hD hc
end U
end Go.Proofs.Ythmnjojjnlnbjaa

/- Updates, by the model. -/
namespace Go.Proofs.Ythmnjojjnlnbjaa
open Go.RowKit
namespace U
set_option maxRecDepth 100000 in
set_option maxHeartbeats 1000000 in
theorem l9May_secret (g p : Nat) (s : Int) (w : World) (hs : inB s 0 999 = false) :
    Calls Try.prog 105 #[.pointer (some ⟨g, 0, none⟩), .pointer (some ⟨p, 0, none⟩), .int .i64 s] w fun e w' => e = .returned (.int .i64 3) ∧ Below w.heap.size w w' := by
  have hI := fun w => l1In_any s 0 999 w
  rw [hs] at hI
  clear hs
  go_enter Try.func105, Try.ntmps105
  go_wp2_with fail
  refine (hI _).mono ?_
  rintro e w0 ⟨rfl, rfl⟩
  clear hI
  go_wp2
  go_ret
  exact ⟨rfl, Below.refl _ _⟩
theorem beq_comm8 (a b : List UInt8) : (a == b) = (b == a) := by
  rw [Bool.eq_iff_iff]
  simp only [beq_iff_eq]
  exact eq_comm
theorem l9May_any (g p : Nat) (v : Value) (l : Rcl) (r : Rc) (s : Int) (w : World) (hg : g < w.heap.size) (hD : w.cell? ⟨g, 0, none⟩ = some v) (hv : Rcs w v l) (hok : DirOk l) (hp : p < w.heap.size) (hr : RecS w p 0 r) (hrc : r.c = 0) :
    Calls Try.prog 105 #[.pointer (some ⟨g, 0, none⟩), .pointer (some ⟨p, 0, none⟩), .int .i64 s] w fun e w' => e = .returned (.int .i64 (mayC l r s)) ∧ Below w.heap.size w w' := by
  rcases Bool.eq_false_or_eq_true (inB s 0 999) with hs | hs
  · have e0 : mayC l r s = mayO (lkO l r.k) (decide (12 ≤ l.length)) r (ownL s) := by unfold mayC; rw [if_pos hs]
    rw [e0]
    have hK := fun w => l2Key_any r.l w (Rc.small_of hrc)
    have hA := fun w' (h : Below w.heap.size w w') => l9At_any g v l r.k w' (Nat.lt_of_lt_of_le hg h.size) ((h.cell (p := ⟨g, 0, none⟩) hg).trans hD) (hv.below h) hok
    have hO := fun w => l9Owner_any s w (inB_bd hs)
    obtain ⟨a, c, rfl⟩ := hv.shape
    rcases atI_cases l r.k with ⟨h1, -⟩ | ⟨j, hj, -, h1⟩
    · have e1 : lkO l r.k = none := by unfold lkO; rw [if_pos h1]
      rw [e1]
      rw [h1] at hA
      have hn := hok.len
      unfold mayO
      dsimp only
      by_cases hv1 : r.v = 1
      · rw [if_pos hv1]
        by_cases ho : ownL s = r.o
        · rw [if_pos ho]
          by_cases hf : 12 ≤ l.length
          · rw [if_pos (by simpa using hf)]
            exact l9May_full g p l.length c a s r.l r.v r.o (ownL s) r.k w hg hp hn hD hr.c0 hr.c1 hr.c2 hs (by simp [hv1]) (by simp [ho]) hf hK hA hO
          · rw [if_neg (by simpa using hf)]
            exact l9May_room g p l.length c a s r.l r.v r.o (ownL s) r.k w hg hp hn hD hr.c0 hr.c1 hr.c2 hs (by simp [hv1]) (by simp [ho]) hf hK hA hO
        · rw [if_neg ho]
          exact l9May_new g p l.length c a s r.l r.v r.o (ownL s) r.k w hg hp hn hD hr.c0 hr.c1 hr.c2 hs (by simp [hv1]) (by simp; exact fun e => ho e.symm) hK hA hO
      · rw [if_neg hv1]
        exact l9May_first g p l.length c a s r.l r.v r.o (ownL s) r.k w hg hp hn hD hr.c0 hr.c1 hr.c2 hs (by simp [hv1]) hK hA hO
    · have e1 : lkO l r.k = some (rAt l j) := by unfold lkO; rw [h1, if_neg (by omega), Int.toNat_natCast]
      rw [e1]
      rw [h1] at hA
      obtain ⟨-, b, off, rfl, hb, hc⟩ := hv.at (by omega)
      have hx := hc j hj
      have hxk := hok.recA hj
      have hxb : 1 ≤ (rAt l j).v ∧ (rAt l j).v ≤ 999 := ⟨hxk.v0, hxk.v1⟩
      generalize rAt l j = x at *
      unfold mayO
      dsimp only
      rcases Bool.eq_false_or_eq_true (r.l.toList == x.l.toList) with hl | hl
      · rw [if_pos hl]
        rw [beq_comm8] at hl
        by_cases ho : ownL s = x.o
        · rw [if_pos ho]
          by_cases hvv : r.v = x.v + 1
          · rw [if_pos hvv]
            exact l9May_ok g p b off c l.length j s x.l r.l x.v x.o r.v r.o (ownL s) r.k w hg hp hb hj hD hx.c0 hx.c1 hx.c2 hr.c0 hr.c1 hr.c2 hxb hs hl (by simp [ho]) (by simp [hvv]) hK hA hO
          · rw [if_neg hvv]
            exact l9May_version g p b off c l.length j s x.l r.l x.v x.o r.v r.o (ownL s) r.k w hg hp hb hj hD hx.c0 hx.c1 hx.c2 hr.c0 hr.c1 hr.c2 hxb hs hl (by simp [ho]) (by simp; exact fun e => hvv e.symm) hK hA hO
        · rw [if_neg ho]
          exact l9May_owner g p b off c l.length j s x.l r.l x.v x.o r.v r.o (ownL s) r.k w hg hp hb hj hD hx.c0 hx.c1 hx.c2 hr.c0 hr.c1 hr.c2 hxb hs hl (by simp; exact fun e => ho e.symm) hK hA hO
      · rw [if_neg (by rw [hl]; decide)]
        rw [beq_comm8] at hl
        exact l9May_taken g p b off c l.length j s x.l r.l x.v x.o r.v r.o (ownL s) r.k w hg hp hb hj hD hx.c0 hx.c1 hx.c2 hr.c0 hr.c1 hr.c2 hxb hs hl hK hA hO
  · have e0 : mayC l r s = 3 := by unfold mayC; rw [if_neg (by rw [hs]; decide)]
    rw [e0]
    exact l9May_secret g p s w hs
/-- What the model's update hands back. -/
def u9C (l : Rcl) (r : Rc) (s : Int) : Int := if r.c = 0 then mayC l r s else r.c
def u9L (l : Rcl) (r : Rc) (s : Int) : Rcl := if u9C l r s = 0 then putR l r else []
theorem own_len {w : World} {B m : Nat} {e : TypeId} {a : Option Addr} {c : Nat} {L : Rcl} (h : w.ownsRow B e 4 (.slice a m c) m (flR L)) : m = L.length := by
  have := h.1
  rw [flR_len] at this
  omega
set_option maxRecDepth 100000 in
set_option maxHeartbeats 2000000 in
theorem l9Update_any (g p : Nat) (v : Value) (l : Rcl) (r : Rc) (s : Int) (w : World) (hg : g < w.heap.size) (hD : w.cell? ⟨g, 0, none⟩ = some v) (hv : Rcs w v l) (hok : DirOk l) (hp : p < w.heap.size) (hr : RecS w p 0 r) (hrs : r.l.size ≤ 1048576) :
    Calls Try.prog 67 #[.pointer (some ⟨g, 0, none⟩), .pointer (some ⟨p, 0, none⟩), .int .i64 s] w fun e w' => ∃ a c, e = .returned (.tuple #[.agg #[.slice a (u9L l r s).length c], .int .i64 (u9C l r s)]) ∧ Below w.heap.size w w' ∧ w'.ownsRow w.heap.size 28 4 (.slice a (u9L l r s).length c) (u9L l r s).length (flR (u9L l r s)) := by
  have HF : Hid (∀ w', Below w.heap.size w w' → Calls Try.prog 103 #[.pointer (some ⟨p, 0, none⟩)] w' fun e w'' => e = .returned (.int .i64 r.c) ∧ Below w'.heap.size w' w'') := fun w' h => l3Fault_at p 0 r.l r.v r.o r.p w' (hr.below h hp) hrs
  have HM : Hid (r.c = 0 → ∀ w', Below w.heap.size w w' → Calls Try.prog 105 #[.pointer (some ⟨g, 0, none⟩), .pointer (some ⟨p, 0, none⟩), .int .i64 s] w' fun e w'' => e = .returned (.int .i64 (mayC l r s)) ∧ Below w'.heap.size w' w'') := fun h0 w' h => l9May_any g p v l r s w' (Nat.lt_of_lt_of_le hg h.size) ((h.cell (p := ⟨g, 0, none⟩) hg).trans hD) (hv.below h) hok (Nat.lt_of_lt_of_le hp h.size) (hr.below h hp) h0
  have HP : Hid (r.c = 0 → ∀ w', Below w.heap.size w w' → Calls Try.prog 106 #[.pointer (some ⟨g, 0, none⟩), .agg #[.string r.l, .int .i64 r.v, .int .i64 r.o, .int .i64 r.p]] w' fun e w'' => ∃ a m c, e = .returned (.agg #[.slice a m c]) ∧ Below w'.heap.size w' w'' ∧ w''.ownsRow w'.heap.size 28 4 (.slice a m c) m (flR (putR l r))) := fun h0 w' h => l9Put_any g v l r w' (Nat.lt_of_lt_of_le hg h.size) ((h.cell (p := ⟨g, 0, none⟩) hg).trans hD) (hv.below h) hok (Rc.small_of h0)
  have HC : Hid (∀ w', Below w.heap.size w w' → w'.cell? ⟨p, 0, none⟩ = some (.string r.l) ∧ w'.cell? ⟨p, 1, none⟩ = some (.int .i64 r.v) ∧ w'.cell? ⟨p, 2, none⟩ = some (.int .i64 r.o) ∧ w'.cell? ⟨p, 3, none⟩ = some (.int .i64 r.p)) := fun w' h => ⟨(hr.below h hp).c0, (hr.below h hp).c1, (hr.below h hp).c2, (hr.below h hp).c3⟩
  have q0 := heap_alloc_new w (.cells #[.slice none 0 0] 26)
  have hB0 := one_new (w := w) (.cells #[.slice none 0 0] 26)
  clear hv hr hok hD
  by_cases h0 : r.c = 0
  · have hM := HM.out h0
    have hP := HP.out h0
    have hF := HF.out
    rw [h0] at hF
    have e1 : u9C l r s = mayC l r s := by unfold u9C; rw [if_pos h0]
    unfold u9L
    rw [e1]
    generalize mayC l r s = q at *
    clear HF HM HP h0 e1
    by_cases hq : q = 0
    · subst hq
      rw [if_pos rfl]
      generalize putR l r = L at *
      generalize r.l = r0 at *
      generalize r.v = r1 at *
      generalize r.o = r2 at *
      generalize r.p = r3 at *
      go_enter Try.func67, Try.ntmps67
      go_wp2_with fail
      refine (hF _ hB0).mono ?_
      rintro e w1 ⟨rfl, hb1⟩
      have hB1 := below_after_of hB0 hb1
      have q1 := (hb1.block _ (by simp)).trans q0
      clear hF hb1
      go_wp2_with fail
      refine (hM _ hB1).mono ?_
      rintro e w2 ⟨rfl, hb2⟩
      have hB2 := below_after_of hB1 hb2
      have q2 := (hb2.block _ (Array.getElem?_eq_some_iff.1 q1).1).trans q1
      obtain ⟨c0, c1, c2, c3⟩ := HC.out _ hB2
      clear hM hb2 q1 hB1
      go_wp2_with fail
      refine (hP _ hB2).mono ?_
      rintro e w3 ⟨a3, m3, c3', rfl, hb3, ho3⟩
      have hB3 := below_after_of hB2 hb3
      have q3 : Boxed w3 w.heap.size 26 (.slice none 0 0) := (hb3.block _ (Array.getElem?_eq_some_iff.1 q2).1).trans q2
      have k3 := q3.cell
      have f3 := q3.frozen
      have hlt2 : w.heap.size < w2.heap.size := (Array.getElem?_eq_some_iff.1 q2).1
      have HO3 : Hid (w3.ownsRow w2.heap.size 28 4 (.slice a3 m3 c3') m3 (flR L)) := ho3
      have HL3 : Hid (m3 = L.length) := own_len ho3
      clear hP hb3 ho3 q2 q3 hB2
      go_wp2
      refine bodyPost_ret (v := .tuple #[.agg #[.slice a3 m3 c3'], .int .i64 0]) (by simp [results, Try.results67, go_sem, k3]) rfl ⟨a3, c3', by rw [← HL3.out], hB3.setCell (Nat.le_refl _) _, ?_⟩
      rw [← HL3.out]
      exact own_mono (ownsRow_setCell_below HO3.out (by show w.heap.size < w2.heap.size; exact hlt2) _) (Nat.le_of_lt hlt2)
    · rw [if_neg hq]
      have hqn : (q != 0) = true := by simpa using hq
      clear hP
      go_enter Try.func67, Try.ntmps67
      go_wp2_with fail
      refine (hF _ hB0).mono ?_
      rintro e w1 ⟨rfl, hb1⟩
      have hB1 := below_after_of hB0 hb1
      have q1 := (hb1.block _ (by simp)).trans q0
      clear hF hb1
      go_wp2_with fail
      refine (hM _ hB1).mono ?_
      rintro e w2 ⟨rfl, hb2⟩
      have hB2 := below_after_of hB1 hb2
      have q2 : Boxed w2 w.heap.size 26 (.slice none 0 0) := (hb2.block _ (Array.getElem?_eq_some_iff.1 q1).1).trans q1
      have k3 := q2.cell
      have f3 := q2.frozen
      clear hM hb2 q1 hB1 q2
      go_wp2
      exact bodyPost_ret (v := .tuple #[.agg #[.slice none 0 0], .int .i64 q]) (by simp [results, Try.results67, go_sem, k3]) rfl ⟨none, 0, rfl, hB2.setCell (Nat.le_refl _) _, World.ownsRow_nil _ _ _ _⟩
  · have e1 : u9C l r s = r.c := by unfold u9C; rw [if_neg h0]
    have hF := HF.out
    unfold u9L
    rw [e1, if_neg h0]
    generalize r.c = q at *
    have hqn : (q != 0) = true := by simpa using h0
    clear HF HM HP e1 h0
    go_enter Try.func67, Try.ntmps67
    go_wp2_with fail
    refine (hF _ hB0).mono ?_
    rintro e w1 ⟨rfl, hb1⟩
    have hB1 := below_after_of hB0 hb1
    have q1 : Boxed w1 w.heap.size 26 (.slice none 0 0) := (hb1.block _ (by simp)).trans q0
    have k3 := q1.cell
    have f3 := q1.frozen
    clear hF hb1 q1
    go_wp2
    exact bodyPost_ret (v := .tuple #[.agg #[.slice none 0 0], .int .i64 q]) (by simp [results, Try.results67, go_sem, k3]) rfl ⟨none, 0, rfl, hB1.setCell (Nat.le_refl _) _, World.ownsRow_nil _ _ _ _⟩
end U
end Go.Proofs.Ythmnjojjnlnbjaa

/- Updates, by the model, whole; what the program asks of a record that is put. -/
namespace Go.Proofs.Ythmnjojjnlnbjaa
open Go.RowKit Go.Maps
namespace U
/-- The answer of a function that hands back a code and a directory of its own. -/
def DirAns (w : World) (code : Int) (l : Rcl) (e : Ending) (w' : World) : Prop :=
  ∃ a c, e = .returned (.agg #[.int .i64 code, .slice a l.length c]) ∧ Below w.heap.size w w' ∧ w'.ownsRow w.heap.size 28 4 (.slice a l.length c) l.length (flR l)
theorem upC_u9 {l : Rcl} {r : Rc} {s : Int} (h : dirF l = 0) : upC l r s = u9C l r s ∧ upL l r s = u9L l r s := by
  have e : upC l r s = u9C l r s := by unfold upC u9C; rw [if_pos h]
  refine ⟨e, ?_⟩
  unfold upL u9L
  rw [e]
theorem upC_bad {l : Rcl} {r : Rc} {s : Int} (h : ¬ dirF l = 0) : upC l r s = dirF l ∧ upL l r s = [] := by
  have e : upC l r s = dirF l := by unfold upC; rw [if_neg h]
  refine ⟨e, ?_⟩
  unfold upL
  rw [e, if_neg h]
set_option maxRecDepth 100000 in
set_option maxHeartbeats 2000000 in
theorem specUpdateRecord_any (v : Value) (l : Rcl) (r0 : ByteArray) (r1 r2 r3 s : Int) (w : World) (hv : Rcs w v l) (hl : Lbs l) (hx : l.length ≤ 1048576) (hrs : r0.size ≤ 1048576) :
    Calls Try.prog 15 #[.agg #[v], .agg #[.string r0, .int .i64 r1, .int .i64 r2, .int .i64 r3], .int .i64 s] w fun e w' => DirAns w (upC l ⟨r0, r1, r2, r3⟩ s) (upL l ⟨r0, r1, r2, r3⟩ s) e w' := by
  obtain ⟨W, hW⟩ : ∃ W, W = ((w.alloc (.cells #[v] 26)).alloc (.cells #[.string r0, .int .i64 r1, .int .i64 r2, .int .i64 r3] 28)).alloc (.cells #[.int .i64 0, .slice none 0 0] 32) := ⟨_, rfl⟩
  have HW : Hid (((w.alloc (.cells #[v] 26)).alloc (.cells #[.string r0, .int .i64 r1, .int .i64 r2, .int .i64 r3] 28)).alloc (.cells #[.int .i64 0, .slice none 0 0] 32) = W) := hW.symm
  have hB : Below w.heap.size w W := by rw [hW]; exact ((one_new _).alloc (one_new _).size _).alloc ((one_new _).alloc (one_new _).size _).size _
  have q2 : W.heap[w.heap.size + 1 + 1]? = some (.cells #[.int .i64 0, .slice none 0 0] 32) := by
    have h2 := heap_alloc_new ((w.alloc (.cells #[v] 26)).alloc (.cells #[.string r0, .int .i64 r1, .int .i64 r2, .int .i64 r3] 28)) (.cells #[.int .i64 0, .slice none 0 0] 32)
    simp only [World.size_alloc] at h2
    rw [hW]
    exact h2
  have q1 : W.heap[w.heap.size + 1]? = some (.cells #[.string r0, .int .i64 r1, .int .i64 r2, .int .i64 r3] 28) := by
    rw [hW]
    exact ((one_new _).block (w.heap.size + 1) (by simp)).trans (heap_new2 w _ _)
  have q0 : W.heap[w.heap.size]? = some (.cells #[v] 26) := by
    rw [hW]
    exact ((one_new _).block w.heap.size (by simp; omega)).trans (heap_alloc_old' _ _ _ (heap_alloc_new w _))
  have hlt0 := (Array.getElem?_eq_some_iff.1 q0).1
  have hlt1 := (Array.getElem?_eq_some_iff.1 q1).1
  have hlt2 := (Array.getElem?_eq_some_iff.1 q2).1
  have hcv : W.cell? ⟨w.heap.size, 0, none⟩ = some v := box1_cellA q0
  have hF := l9Fault_any w.heap.size v l W hlt0 hcv (hv.below hB) hl (by omega)
  have HRS : Hid (RecS W (w.heap.size + 1) 0 ⟨r0, r1, r2, r3⟩) := (by obtain ⟨k0, k1, k2, k3⟩ := four_cellsV q1; exact ⟨k0, k1, k2, k3⟩ : RecS W (w.heap.size + 1) 0 ⟨r0, r1, r2, r3⟩)
  have HU : Hid (dirF l = 0 → ∀ w', Below W.heap.size W w' → Calls Try.prog 67 #[.pointer (some ⟨w.heap.size, 0, none⟩), .pointer (some ⟨w.heap.size + 1, 0, none⟩), .int .i64 s] w' fun e w'' => ∃ a c, e = .returned (.tuple #[.agg #[.slice a (u9L l ⟨r0, r1, r2, r3⟩ s).length c], .int .i64 (u9C l ⟨r0, r1, r2, r3⟩ s)]) ∧ Below w'.heap.size w' w'' ∧ w''.ownsRow w'.heap.size 28 4 (.slice a (u9L l ⟨r0, r1, r2, r3⟩ s).length c) (u9L l ⟨r0, r1, r2, r3⟩ s).length (flR (u9L l ⟨r0, r1, r2, r3⟩ s))) :=
    fun h0 w' h => l9Update_any w.heap.size (w.heap.size + 1) v l ⟨r0, r1, r2, r3⟩ s w' (Nat.lt_of_lt_of_le hlt0 h.size) ((h.cell (p := ⟨w.heap.size, 0, none⟩) hlt0).trans hcv) ((hv.below hB).below h) (dirOk h0) (Nat.lt_of_lt_of_le hlt1 h.size) (HRS.out.below h hlt1) hrs
  have HQ : Hid (∀ w', Below W.heap.size W w' → w'.heap[w.heap.size + 1 + 1]? = some (.cells #[.int .i64 0, .slice none 0 0] 32)) := fun w' h => (h.block _ hlt2).trans q2
  obtain ⟨a, c, rfl⟩ := hv.shape
  clear hW hv q0 q1 q2 hcv
  by_cases h0 : dirF l = 0
  · have hU := HU.out h0
    rw [(upC_u9 h0).1, (upC_u9 h0).2]
    rw [h0] at hF
    generalize u9L l ⟨r0, r1, r2, r3⟩ s = L at *
    generalize u9C l ⟨r0, r1, r2, r3⟩ s = q at *
    generalize l.length = n at *
    clear HU h0 HRS
    go_enter Try.func15, Try.ntmps15
    go_wp2_with fail
    rw [HW.out]
    refine hF.mono ?_
    rintro e w1 ⟨rfl, hb1⟩
    clear hF
    go_wp2_with fail
    refine (hU _ hb1).mono ?_
    rintro e w2 ⟨a2, c2, rfl, hb2, ho2⟩
    have hbW := below_after_of hb1 hb2
    have hbA := hbW.alloc hbW.size (.cells #[.slice a2 L.length c2] 26)
    obtain ⟨k0, k1, f0, f1⟩ := two_cells (HQ.out _ hbA)
    have HBE : Hid (Below w.heap.size w (w2.alloc (.cells #[.slice a2 L.length c2] 26))) := below_after_of hB hbA
    have HO2 : Hid ((w2.alloc (.cells #[.slice a2 L.length c2] 26)).ownsRow w1.heap.size 28 4 (.slice a2 L.length c2) L.length (flR L)) := ho2.alloc _
    have hz1 : w.heap.size + 1 + 1 < w1.heap.size := Nat.lt_of_lt_of_le hlt2 hb1.size
    clear hU hb1 hb2 hbW hbA ho2 HQ hB
    go_wp2
    refine bodyPost_ret (v := .agg #[.int .i64 q, .slice a2 L.length c2]) (by simp [results, Try.results15, go_sem, k0, k1]) rfl ⟨a2, c2, rfl, (HBE.out.setCell (by show w.heap.size ≤ w.heap.size + 1 + 1; omega) _).setCell (by show w.heap.size ≤ w.heap.size + 1 + 1; omega) _, ?_⟩
    exact own_mono (ownsRow_setCell_below (ownsRow_setCell_below HO2.out (by show w.heap.size + 1 + 1 < w1.heap.size; exact hz1) _) (by show w.heap.size + 1 + 1 < w1.heap.size; exact hz1) _) (by omega)
  · rw [(upC_bad h0).1, (upC_bad h0).2]
    have hqn : (dirF l != 0) = true := by simpa using h0
    generalize dirF l = q at *
    generalize l.length = n at *
    clear HU h0 HRS
    go_enter Try.func15, Try.ntmps15
    go_wp2_with fail
    rw [HW.out]
    refine hF.mono ?_
    rintro e w1 ⟨rfl, hb1⟩
    obtain ⟨k0, k1, f0, f1⟩ := two_cells (HQ.out _ hb1)
    have HBE : Hid (Below w.heap.size w w1) := below_after_of hB hb1
    clear hF hb1 HQ hB
    go_wp2
    exact bodyPost_ret (v := .agg #[.int .i64 q, .slice none 0 0]) (by simp [results, Try.results15, go_sem, k0, k1]) rfl ⟨none, 0, rfl, (HBE.out.setCell (by show w.heap.size ≤ w.heap.size + 1 + 1; omega) _).setCell (by show w.heap.size ≤ w.heap.size + 1 + 1; omega) _, World.ownsRow_nil _ _ _ _⟩
/-- What the program asks where a record has the key. -/
def nxC (x r : Rc) (ow : Int) : Int := if (r.l.toList == x.l.toList) = true then (if ow = x.o then (if r.v = x.v + 1 then 0 else 7) else 8) else 6
def fsC9 (r : Rc) (ow : Int) : Int := if r.v = 1 then (if ow = r.o then 0 else 8) else 7
set_option maxRecDepth 100000 in
set_option maxHeartbeats 1000000 in
theorem nextFault_any (x0 : ByteArray) (x1 x2 x3 : Int) (r0 : ByteArray) (r1 r2 r3 ow : Int) (w : World) (hv : 1 ≤ x1 ∧ x1 ≤ 999) :
    Calls Try.prog 62 #[.agg #[.string x0, .int .i64 x1, .int .i64 x2, .int .i64 x3], .agg #[.string r0, .int .i64 r1, .int .i64 r2, .int .i64 r3], .int .i64 ow] w fun e w' => e = .returned (.int .i64 (nxC ⟨x0, x1, x2, x3⟩ ⟨r0, r1, r2, r3⟩ ow)) ∧ Below w.heap.size w w' := by
  unfold nxC
  dsimp only
  rcases Bool.eq_false_or_eq_true (r0.toList == x0.toList) with hl | hl
  · rw [if_pos hl]
    by_cases ho : ow = x2
    · rw [if_pos ho]
      have hon : (ow != x2) = false := by simp [ho]
      by_cases hvv : r1 = x1 + 1
      · rw [if_pos hvv]
        have hvn : (r1 != x1 + 1) = false := by simp [hvv]
        clear ho hvv
        go_enter Try.func62, Try.ntmps62
        go_wp2
        go_ret
        exact ⟨rfl, two_new _ _⟩
      · rw [if_neg hvv]
        have hvn : (r1 != x1 + 1) = true := by simp [hvv]
        clear ho hvv
        go_enter Try.func62, Try.ntmps62
        go_wp2
        go_ret
        exact ⟨rfl, two_new _ _⟩
    · rw [if_neg ho]
      have hon : (ow != x2) = true := by simp [ho]
      clear ho
      go_enter Try.func62, Try.ntmps62
      go_wp2
      go_ret
      exact ⟨rfl, two_new _ _⟩
  · rw [if_neg (by rw [hl]; decide)]
    go_enter Try.func62, Try.ntmps62
    go_wp2
    go_ret
    exact ⟨rfl, two_new _ _⟩
set_option maxRecDepth 100000 in
set_option maxHeartbeats 1000000 in
theorem firstFault_any (r0 : ByteArray) (r1 r2 r3 ow : Int) (w : World) :
    Calls Try.prog 63 #[.agg #[.string r0, .int .i64 r1, .int .i64 r2, .int .i64 r3], .int .i64 ow] w fun e w' => e = .returned (.int .i64 (fsC9 ⟨r0, r1, r2, r3⟩ ow)) ∧ Below w.heap.size w w' := by
  unfold fsC9
  dsimp only
  by_cases hv : r1 = 1
  · rw [if_pos hv]
    have hvn : (r1 != 1) = false := by simp [hv]
    by_cases ho : ow = r2
    · rw [if_pos ho]
      have hon : (ow != r2) = false := by simp [ho]
      clear hv ho
      go_enter Try.func63, Try.ntmps63
      go_wp2
      go_ret
      exact ⟨rfl, one_new _⟩
    · rw [if_neg ho]
      have hon : (ow != r2) = true := by simp [ho]
      clear hv ho
      go_enter Try.func63, Try.ntmps63
      go_wp2
      go_ret
      exact ⟨rfl, one_new _⟩
  · rw [if_neg hv]
    have hvn : (r1 != 1) = true := by simp [hv]
    clear hv
    go_enter Try.func63, Try.ntmps63
    go_wp2
    go_ret
    exact ⟨rfl, one_new _⟩
end U
end Go.Proofs.Ythmnjojjnlnbjaa

/- Updates, by the program. -/
namespace Go.Proofs.Ythmnjojjnlnbjaa
open Go.RowKit Go.Maps
namespace U
theorem three_ints_at {w : World} {g : Nat} {a b d : Int} {t : TypeId} (hg : g = w.heap.size) : Ints .i64 (w.alloc (.cells #[.int .i64 a, .int .i64 b, .int .i64 d] t)) (.slice (some ⟨g, 0, none⟩) 3 3) [a, b, d] := by
  subst hg
  have hh := heap_alloc_new w (.cells #[.int .i64 a, .int .i64 b, .int .i64 d] t)
  refine Or.inr ⟨w.heap.size, 0, 3, rfl, by simp, fun j hj => ?_⟩
  have hj2 : j < 3 := hj
  rcases (by omega : j = 0 ∨ j = 1 ∨ j = 2) with rfl | rfl | rfl <;> (unfold World.cell?; rw [hh]; rfl)
theorem wpList_delete_mp {w : World} {ops : Array Oper} {rest : List Oper} {o : Oper} {a : Act} {Q : Exit → Act → World → Prop} (hg : o.guard = none) (m x : Operand) (hop : o.op = Op.call { callee := Callee.builtin Builtin.delete, args := #[m, x], argTypes := #[96, 2] })
    (b n : Nat) (g : Int → Option Rc) (hm : a.eval m = .map (some b)) (hM : MpAt w b n g) (k : Int) (hk : 0 ≤ k ∧ k < 256) (hx : a.eval x = .int .i64 k)
    (hK : ∀ w', MpAt w' b n (fun y => if y = k then none else g y) → w.grownBy w' (some b) → wpList Try.prog ops Q rest (a.put o.dst (.tuple #[])) w') : wpList Try.prog ops Q (o :: rest) a w := by
  refine wpList_plain hg fun K' hK' => ?_
  obtain ⟨w', hrun, r1, r2⟩ := hM.drop hk o.type
  unfold Oper.wp
  simp [execOp, hop, resolve, invoke, builtin, hm, hx, hrun, Result.andThen]
  exact hK' _ _ (hK w' r1 r2)
theorem wpList_len_mp {w : World} {ops : Array Oper} {rest : List Oper} {o : Oper} {a : Act} {Q : Exit → Act → World → Prop} (hg : o.guard = none) (m : Operand) (hop : o.op = Op.call { callee := Callee.builtin Builtin.len, args := #[m], argTypes := #[96] })
    (b n : Nat) (g : Int → Option Rc) (hm : a.eval m = .map (some b)) (hM : MpAt w b n g) (ks : List Int) (hnd : ks.Nodup) (hk : ∀ x, x ∈ ks ↔ (g x).isSome = true)
    (hK : wpList Try.prog ops Q rest (a.put o.dst (.int .i64 (ks.length : Int))) w) : wpList Try.prog ops Q (o :: rest) a w := by
  refine wpList_plain hg fun K' hK' => ?_
  unfold Oper.wp
  simp [execOp, hop, resolve, invoke, builtin, hm, hM.len hnd hk o.type, Result.andThen]
  exact hK' _ _ hK
/-- The keys that are left where one is struck. -/
def dropK (l : Rcl) (k : Int) : List Int := (l.filter fun x => decide (x.k ≠ k)).map fun x => x.k
theorem dropK_nodup {l : Rcl} (hl : DirOk l) (k : Int) : (dropK l k).Nodup := by
  unfold dropK
  have h : ((l.filter fun x => decide (x.k ≠ k)).map fun x => x.k).Pairwise (· < ·) := by
    rw [List.pairwise_map]
    exact hl.pair.filter _
  exact h.imp fun {a b} hab => by omega
theorem dropK_mem {l : Rcl} (hl : DirOk l) (k x : Int) : x ∈ dropK l k ↔ (if x = k then none else mapTo l l.length x).isSome = true := by
  unfold dropK
  rw [List.mem_map]
  by_cases h : x = k
  · rw [if_pos h]
    constructor
    · rintro ⟨y, hy, e⟩
      have := (List.mem_filter.1 hy).2
      simp at this
      exact absurd (e.trans h) this
    · intro e; cases e
  · rw [if_neg h, Option.isSome_iff_exists]
    constructor
    · rintro ⟨y, hy, e⟩
      exact ⟨y, (mapTo_mem hl).2 ⟨(List.mem_filter.1 hy).1, e⟩⟩
    · rintro ⟨y, hy⟩
      have := (mapTo_mem hl).1 hy
      exact ⟨y, List.mem_filter.2 ⟨this.1, by simp; rw [this.2]; exact h⟩, this.2⟩
theorem dropK_none {l : Rcl} (hl : DirOk l) {k : Int} (h : lkO l k = none) : (dropK l k).length = l.length := by
  unfold dropK
  rw [List.length_map]
  congr 1
  rw [List.filter_eq_self]
  intro x hx
  simp
  intro e
  have := (mapTo_mem hl (x := k) (y := x)).2 ⟨hx, e⟩
  rw [lkO_map hl, h] at this
  cases this
theorem dropK_some {l : Rcl} {k : Int} {x : Rc} (h : lkO l k = some x) : (dropK l k).length < l.length := by
  unfold dropK
  rw [List.length_map]
  have hx := lkO_key h
  by_cases e : (l.filter fun x => decide (x.k ≠ k)).length = l.length
  · have := List.length_filter_eq_length_iff.1 e x hx.2
    simp at this
    exact absurd hx.1 this
  · have := List.length_filter_le (fun x : Rc => decide (x.k ≠ k)) l
    omega
theorem upG_drop (l : Rcl) (r : Rc) : (fun y => if y = r.k then some r else (fun z => if z = r.k then none else mapTo l l.length z) y) = upG l r := by
  funext y
  unfold upG
  by_cases h : y = r.k
  · simp only [if_pos h]
  · simp only [if_neg h]
set_option maxRecDepth 100000 in
set_option maxHeartbeats 4000000 in
theorem implUpdate_bad (v : Value) (l : Rcl) (r0 : ByteArray) (r1 r2 r3 s : Int) (w : World) (hv : Rcs w v l) (hl : Lbs l) (hx : l.length ≤ 1048576) (hrs : r0.size ≤ 1048576) (q : Int) (hq : (if dirF l = 0 then (if recC r0 r1 r2 r3 = 0 then owC s else recC r0 r1 r2 r3) else dirF l) = q) (h0 : ¬ q = 0) :
    Calls Try.prog 14 #[.agg #[v], .agg #[.string r0, .int .i64 r1, .int .i64 r2, .int .i64 r3], .int .i64 s] w fun e w' => DirAns w q [] e w' := by
  obtain ⟨W, hW⟩ : ∃ W, W = ((w.alloc (.cells #[v] 26)).alloc (.cells #[.string r0, .int .i64 r1, .int .i64 r2, .int .i64 r3] 28)).alloc (.cells #[.int .i64 0, .slice none 0 0] 32) := ⟨_, rfl⟩
  have HW : Hid (((w.alloc (.cells #[v] 26)).alloc (.cells #[.string r0, .int .i64 r1, .int .i64 r2, .int .i64 r3] 28)).alloc (.cells #[.int .i64 0, .slice none 0 0] 32) = W) := hW.symm
  have hB : Below w.heap.size w W := by rw [hW]; exact ((one_new _).alloc (one_new _).size _).alloc ((one_new _).alloc (one_new _).size _).size _
  have q2 : W.heap[w.heap.size + 1 + 1]? = some (.cells #[.int .i64 0, .slice none 0 0] 32) := by
    have h2 := heap_alloc_new ((w.alloc (.cells #[v] 26)).alloc (.cells #[.string r0, .int .i64 r1, .int .i64 r2, .int .i64 r3] 28)) (.cells #[.int .i64 0, .slice none 0 0] 32)
    simp only [World.size_alloc] at h2
    rw [hW]
    exact h2
  have q1 : W.heap[w.heap.size + 1]? = some (.cells #[.string r0, .int .i64 r1, .int .i64 r2, .int .i64 r3] 28) := by
    rw [hW]
    exact ((one_new _).block (w.heap.size + 1) (by simp)).trans (heap_new2 w _ _)
  have q0 : W.heap[w.heap.size]? = some (.cells #[v] 26) := by
    rw [hW]
    exact ((one_new _).block w.heap.size (by simp; omega)).trans (heap_alloc_old' _ _ _ (heap_alloc_new w _))
  have hO := fun w => implOwnerOf_any s w
  have hOr := fun v w hv => cmpOr3 (dirF l) (recC r0 r1 r2 r3) (owC s) v w hv
  have HVL : Hid (∀ w', Below w.heap.size w w' → Rcs w' v l) := fun w' h => hv.below h
  have hDF := fun w' h => implDirectoryFault_any v l w' (HVL.out w' h) hl (by omega)
  have hRF := fun w => implRecordFault_any r0 r1 r2 r3 w hrs
  unfold recV at hRF
  obtain ⟨a, c, rfl⟩ := hv.shape
  have hqn : (q != 0) = true := by simpa using h0
  rw [hq] at hOr
  generalize dirF l = df at *
  generalize recC r0 r1 r2 r3 = rc at *
  generalize owC s = oc at *
  generalize owV s = ov at *
  obtain ⟨n, hn⟩ : ∃ n, n = l.length := ⟨_, rfl⟩
  have HN : Hid (n = l.length) := hn
  rw [← hn] at HW HVL hDF q0
  rw [← hn]
  clear hW hv hn hq h0
  go_enter Try.func14, Try.ntmps14
  go_wp2_with fail
  rw [HW.out]
  refine (hO _).mono ?_
  rintro e w1 ⟨rfl, hb1⟩
  obtain ⟨W1, hW1⟩ : ∃ W1, W1 = w1.alloc (.cells #[.int .i64 oc, .int .i64 ov] 39) := ⟨_, rfl⟩
  have HW1 : Hid (w1.alloc (.cells #[.int .i64 oc, .int .i64 ov] 39) = W1) := hW1.symm
  have hb1' : Below W.heap.size W W1 := by rw [hW1]; exact hb1.alloc hb1.size _
  have p3 : W1.heap[w1.heap.size]? = some (.cells #[.int .i64 oc, .int .i64 ov] 39) := by rw [hW1]; exact heap_alloc_new w1 _
  have p2 := (hb1'.block _ (Array.getElem?_eq_some_iff.1 q2).1).trans q2
  have p1 := (hb1'.block _ (Array.getElem?_eq_some_iff.1 q1).1).trans q1
  have p0 := (hb1'.block _ (Array.getElem?_eq_some_iff.1 q0).1).trans q0
  have hB1 := below_after_of hB hb1'
  have hl0 := (Array.getElem?_eq_some_iff.1 p0).1
  have hl1 := (Array.getElem?_eq_some_iff.1 p1).1
  have hl2 := (Array.getElem?_eq_some_iff.1 p2).1
  have hl3 := (Array.getElem?_eq_some_iff.1 p3).1
  have hls : w.heap.size + 1 + 1 < w1.heap.size := Nat.lt_of_lt_of_le (Array.getElem?_eq_some_iff.1 q2).1 hb1.size
  have HD : Hid (∀ w', Below W1.heap.size W1 w' → w'.cell? ⟨w.heap.size, 0, none⟩ = some (.slice a n c)) := fun w' h => box1_cellA ((h.block _ hl0).trans p0)
  have HR : Hid (∀ w', Below W1.heap.size W1 w' → w'.cell? ⟨w.heap.size + 1, 0, none⟩ = some (.string r0) ∧ w'.cell? ⟨w.heap.size + 1, 1, none⟩ = some (.int .i64 r1) ∧ w'.cell? ⟨w.heap.size + 1, 2, none⟩ = some (.int .i64 r2) ∧ w'.cell? ⟨w.heap.size + 1, 3, none⟩ = some (.int .i64 r3)) := fun w' h => four_cellsV ((h.block _ hl1).trans p1)
  have HP : Hid (∀ w', Below W1.heap.size W1 w' → w'.heap[w.heap.size + 1 + 1]? = some (.cells #[.int .i64 0, .slice none 0 0] 32)) := fun w' h => (h.block _ hl2).trans p2
  have HO : Hid (∀ w', Below W1.heap.size W1 w' → w'.cell? ⟨w1.heap.size, 0, none⟩ = some (.int .i64 oc) ∧ w'.cell? ⟨w1.heap.size, 1, none⟩ = some (.int .i64 ov)) := fun w' h => ⟨(two_cells ((h.block _ hl3).trans p3)).1, (two_cells ((h.block _ hl3).trans p3)).2.1⟩
  have HDF : Hid (∀ w', Below W1.heap.size W1 w' → Calls Try.prog 16 #[.agg #[.slice a n c]] w' fun e w'' => e = .returned (.int .i64 df) ∧ Below w'.heap.size w' w'') := fun w' h => hDF w' (below_after_of hB1 h)
  have HBW : Hid (∀ w', Below W1.heap.size W1 w' → Below w.heap.size w w') := fun w' h => below_after_of hB1 h
  have hbr := Below.refl W1.heap.size W1
  have HCC : Hid (∀ w', Below W1.heap.size W1 w' → w'.cell? ⟨w.heap.size, 0, none⟩ = some (.slice a n c) ∧ w'.cell? ⟨w.heap.size + 1, 0, none⟩ = some (.string r0) ∧ w'.cell? ⟨w.heap.size + 1, 1, none⟩ = some (.int .i64 r1) ∧ w'.cell? ⟨w.heap.size + 1, 2, none⟩ = some (.int .i64 r2) ∧ w'.cell? ⟨w.heap.size + 1, 3, none⟩ = some (.int .i64 r3) ∧ w'.cell? ⟨w1.heap.size, 0, none⟩ = some (.int .i64 oc)) := fun w' h => ⟨HD.out _ h, (HR.out _ h).1, (HR.out _ h).2.1, (HR.out _ h).2.2.1, (HR.out _ h).2.2.2, (HO.out _ h).1⟩
  obtain ⟨g0, g1, g2, g3, g4, g5⟩ := HCC.out _ hbr
  clear hO hb1 hb1' q0 q1 q2 p0 p1 p2 p3 hB hDF hW1 hB1
  go_wp2_with fail
  rw [HW1.out]
  go_region_held3 (fun w' => w'.cell? ⟨w.heap.size, 0, none⟩ = some (.slice a n c) ∧ w'.cell? ⟨w.heap.size + 1, 0, none⟩ = some (.string r0) ∧ w'.cell? ⟨w.heap.size + 1, 1, none⟩ = some (.int .i64 r1) ∧ w'.cell? ⟨w.heap.size + 1, 2, none⟩ = some (.int .i64 r2) ∧ w'.cell? ⟨w.heap.size + 1, 3, none⟩ = some (.int .i64 r3) ∧ w'.cell? ⟨w1.heap.size, 0, none⟩ = some (.int .i64 oc))
    (first | with_reducible exact ⟨g0, g1, g2, g3, g4, g5⟩ | with_reducible exact HCC.out _ hbr | with_reducible exact HCC.out _ hbr.drew | with_reducible exact HCC.out _ (hbr.alloc hbr.size _))
    (first
      | (go_at_call 16; refine (HDF.out _ (by first | exact hbr | exact hbr.drew)).mono ?_; rintro e w2 ⟨rfl, hb2⟩; have hbr : Below W1.heap.size W1 w2 := (by first | exact below_after_of hbr hb2 | exact below_after_of hbr.drew hb2))
      | (go_at_call 59; refine (hRF _).mono ?_; rintro e w3 ⟨rfl, hb3⟩; have hbr : Below W1.heap.size W1 w3 := (by first | exact below_after_of hbr hb3 | exact below_after_of hbr.drew hb3))
      | (go_at_call 58; refine (hOr _ _ (three_ints_at rfl)).mono ?_; rintro e w4 ⟨rfl, hw4⟩; have hbr : Below W1.heap.size W1 w4 := (by rw [hw4]; exact hbr.alloc hbr.size _); clear hw4))
  clear HDF hRF hOr HCC g0 g1 g2 g3 g4 g5
  obtain ⟨k0, k1, f0, f1⟩ := two_cells (HP.out _ hbr)
  have HBE := HBW.out _ hbr
  clear HP HBW hbr HD HR HO
  go_wp2
  exact bodyPost_ret (v := .agg #[.int .i64 q, .slice none 0 0]) (by simp [results, Try.results14, go_sem, k0, k1]) rfl ⟨none, 0, rfl, (HBE.setCell (by show w.heap.size ≤ w.heap.size + 1 + 1; omega) _).setCell (by show w.heap.size ≤ w.heap.size + 1 + 1; omega) _, World.ownsRow_nil _ _ _ _⟩
end U
end Go.Proofs.Ythmnjojjnlnbjaa

/- Updates, by the program, where what is given is right. -/
namespace Go.Proofs.Ythmnjojjnlnbjaa
open Go.RowKit Go.Maps
namespace U
set_option maxRecDepth 100000 in
set_option maxHeartbeats 4000000 in
theorem implUpdate_nxbad (v : Value) (l : Rcl) (r0 : ByteArray) (r1 r2 r3 s : Int) (w : World) (hv : Rcs w v l) (hl : Lbs l) (hx : l.length ≤ 1048576) (hrs : r0.size ≤ 1048576) (h0 : dirF l = 0) (hr0 : recC r0 r1 r2 r3 = 0) (hs0 : inB s 0 999 = true) (q : Int) (x0 : ByteArray) (x1 x2 x3 : Int) (ho : lkO l (keyI r0) = some ⟨x0, x1, x2, x3⟩) (hnx : nxC ⟨x0, x1, x2, x3⟩ ⟨r0, r1, r2, r3⟩ (ownL s) = q) (hq1 : ¬ q = 0) :
    Calls Try.prog 14 #[.agg #[v], .agg #[.string r0, .int .i64 r1, .int .i64 r2, .int .i64 r3], .int .i64 s] w fun e w' => DirAns w q [] e w' := by
  obtain ⟨W, hW⟩ : ∃ W, W = ((w.alloc (.cells #[v] 26)).alloc (.cells #[.string r0, .int .i64 r1, .int .i64 r2, .int .i64 r3] 28)).alloc (.cells #[.int .i64 0, .slice none 0 0] 32) := ⟨_, rfl⟩
  have HW : Hid (((w.alloc (.cells #[v] 26)).alloc (.cells #[.string r0, .int .i64 r1, .int .i64 r2, .int .i64 r3] 28)).alloc (.cells #[.int .i64 0, .slice none 0 0] 32) = W) := hW.symm
  have hB : Below w.heap.size w W := by rw [hW]; exact ((one_new _).alloc (one_new _).size _).alloc ((one_new _).alloc (one_new _).size _).size _
  have q2 : W.heap[w.heap.size + 1 + 1]? = some (.cells #[.int .i64 0, .slice none 0 0] 32) := by
    have h2 := heap_alloc_new ((w.alloc (.cells #[v] 26)).alloc (.cells #[.string r0, .int .i64 r1, .int .i64 r2, .int .i64 r3] 28)) (.cells #[.int .i64 0, .slice none 0 0] 32)
    simp only [World.size_alloc] at h2
    rw [hW]
    exact h2
  have q1 : W.heap[w.heap.size + 1]? = some (.cells #[.string r0, .int .i64 r1, .int .i64 r2, .int .i64 r3] 28) := by
    rw [hW]
    exact ((one_new _).block (w.heap.size + 1) (by simp)).trans (heap_new2 w _ _)
  have q0 : W.heap[w.heap.size]? = some (.cells #[v] 26) := by
    rw [hW]
    exact ((one_new _).block w.heap.size (by simp; omega)).trans (heap_alloc_old' _ _ _ (heap_alloc_new w _))
  have hO := fun w => implOwnerOf_any s w
  have hOr := fun v w hv => cmpOr3 (dirF l) (recC r0 r1 r2 r3) (owC s) v w hv
  have HVL : Hid (∀ w', Below w.heap.size w w' → Rcs w' v l) := fun w' h => hv.below h
  have hDF := fun w' h => implDirectoryFault_any v l w' (HVL.out w' h) hl (by omega)
  have hRF := fun w => implRecordFault_any r0 r1 r2 r3 w hrs
  unfold recV at hRF
  obtain ⟨a, c, rfl⟩ := hv.shape
  have hok := dirOk h0
  have hq : (if dirF l = 0 then (if recC r0 r1 r2 r3 = 0 then owC s else recC r0 r1 r2 r3) else dirF l) = 0 := by rw [if_pos h0, if_pos hr0, (ow_ok hs0).1]
  have hRO := fun w' h => recordsOf_any (.slice a l.length c) l w' (HVL.out w' h) hok
  have hrc : Rc.c ⟨r0, r1, r2, r3⟩ = 0 := hr0
  have hKy := fun w => recordKey_any r0 r1 r2 r3 w (Rc.labelP_of hrc)
  unfold recV at hKy
  have hkb := keyI_bd r0
  have hLk : ∀ w b n, MpAt w b n (mapTo l l.length) → (Instr.lookup 96 (.map (some b)) (.int .i64 (keyI r0)) true).run Try.prog w = .ok (.tuple #[valO (mapTo l l.length (keyI r0)), .bool (mapTo l l.length (keyI r0)).isSome]) w := fun w b n h => h.look hkb
  rw [lkO_map hok, ho] at hLk
  have HDK : Hid ((dropK l (keyI r0)).Nodup ∧ ∀ x, x ∈ dropK l (keyI r0) ↔ (if x = keyI r0 then none else mapTo l l.length x).isSome = true) := ⟨dropK_nodup hok _, dropK_mem hok _⟩
  have HUP : Hid ((fun y => if y = keyI r0 then some ⟨r0, r1, r2, r3⟩ else (fun z => if z = keyI r0 then none else mapTo l l.length z) y) = upG l ⟨r0, r1, r2, r3⟩) := upG_drop l ⟨r0, r1, r2, r3⟩
  have HPK : Hid (∀ ks : List Int, ks.Pairwise (· < ·) → (∀ x, x ∈ ks ↔ (upG l ⟨r0, r1, r2, r3⟩ x).isSome = true) → recsTo (upG l ⟨r0, r1, r2, r3⟩) ks ks.length = putR l ⟨r0, r1, r2, r3⟩) := fun ks h1 h2 => by
    unfold recsTo
    rw [List.take_length]
    exact put_keys hok ⟨r0, r1, r2, r3⟩ h1 h2
  have HGB : Hid (∀ x, (upG l ⟨r0, r1, r2, r3⟩ x).isSome = true → 0 ≤ x ∧ x < 256) := fun x hx => by
    obtain ⟨y, hy⟩ := Option.isSome_iff_exists.1 hx
    rw [← ((upG_mem hok).1 hy).2]
    exact y.kbd
  have hn12 : l.length ≤ 12 := hok.len
  have hOw := fun w => ownRecord_any r0 r1 r2 r3 w hrs
  rw [(ow_ok hs0).2] at hO
  have hmx := lkO_key ho
  have hxv : 1 ≤ x1 ∧ x1 ≤ 999 := by
    obtain ⟨j, hj, e⟩ := List.mem_iff_getElem.1 hmx.2
    have h := hok.ok j hj
    rw [rAt_eq hj, e] at h
    exact ⟨(recOk h).v0, (recOk h).v1⟩
  have hNx := fun w => nextFault_any x0 x1 x2 x3 r0 r1 r2 r3 (ownL s) w hxv
  rw [hnx] at hNx
  clear hmx hxv
  clear hrc
  generalize mapTo l l.length = g0 at *
  generalize keyI r0 = kz at *
  generalize dropK l kz = dk at *
  generalize ownL s = ow at *
  rw [hq] at hOr
  generalize dirF l = df at *
  generalize recC r0 r1 r2 r3 = rc at *
  generalize owC s = oc at *
  obtain ⟨n, hn⟩ : ∃ n, n = l.length := ⟨_, rfl⟩
  have HN : Hid (n = l.length) := hn
  rw [← hn] at HW HVL hDF q0 hRO hn12
  rw [← hn]
  clear hW hv hn hq h0 hr0 hs0 ho hok hnx
  go_enter Try.func14, Try.ntmps14
  go_wp2_with fail
  rw [HW.out]
  refine (hO _).mono ?_
  rintro e w1 ⟨rfl, hb1⟩
  obtain ⟨W1, hW1⟩ : ∃ W1, W1 = w1.alloc (.cells #[.int .i64 oc, .int .i64 ow] 39) := ⟨_, rfl⟩
  have HW1 : Hid (w1.alloc (.cells #[.int .i64 oc, .int .i64 ow] 39) = W1) := hW1.symm
  have hb1' : Below W.heap.size W W1 := by rw [hW1]; exact hb1.alloc hb1.size _
  have p3 : W1.heap[w1.heap.size]? = some (.cells #[.int .i64 oc, .int .i64 ow] 39) := by rw [hW1]; exact heap_alloc_new w1 _
  have p2 := (hb1'.block _ (Array.getElem?_eq_some_iff.1 q2).1).trans q2
  have p1 := (hb1'.block _ (Array.getElem?_eq_some_iff.1 q1).1).trans q1
  have p0 := (hb1'.block _ (Array.getElem?_eq_some_iff.1 q0).1).trans q0
  have hB1 := below_after_of hB hb1'
  have hl0 := (Array.getElem?_eq_some_iff.1 p0).1
  have hl1 := (Array.getElem?_eq_some_iff.1 p1).1
  have hl2 := (Array.getElem?_eq_some_iff.1 p2).1
  have hl3 := (Array.getElem?_eq_some_iff.1 p3).1
  have hls : w.heap.size + 1 + 1 < w1.heap.size := Nat.lt_of_lt_of_le (Array.getElem?_eq_some_iff.1 q2).1 hb1.size
  have HD : Hid (∀ w', Below W1.heap.size W1 w' → w'.cell? ⟨w.heap.size, 0, none⟩ = some (.slice a n c)) := fun w' h => box1_cellA ((h.block _ hl0).trans p0)
  have HR : Hid (∀ w', Below W1.heap.size W1 w' → w'.cell? ⟨w.heap.size + 1, 0, none⟩ = some (.string r0) ∧ w'.cell? ⟨w.heap.size + 1, 1, none⟩ = some (.int .i64 r1) ∧ w'.cell? ⟨w.heap.size + 1, 2, none⟩ = some (.int .i64 r2) ∧ w'.cell? ⟨w.heap.size + 1, 3, none⟩ = some (.int .i64 r3)) := fun w' h => four_cellsV ((h.block _ hl1).trans p1)
  have HP : Hid (∀ w', Below W1.heap.size W1 w' → w'.heap[w.heap.size + 1 + 1]? = some (.cells #[.int .i64 0, .slice none 0 0] 32)) := fun w' h => (h.block _ hl2).trans p2
  have HO : Hid (∀ w', Below W1.heap.size W1 w' → w'.cell? ⟨w1.heap.size, 0, none⟩ = some (.int .i64 oc) ∧ w'.cell? ⟨w1.heap.size, 1, none⟩ = some (.int .i64 ow)) := fun w' h => ⟨(two_cells ((h.block _ hl3).trans p3)).1, (two_cells ((h.block _ hl3).trans p3)).2.1⟩
  have HDF : Hid (∀ w', Below W1.heap.size W1 w' → Calls Try.prog 16 #[.agg #[.slice a n c]] w' fun e w'' => e = .returned (.int .i64 df) ∧ Below w'.heap.size w' w'') := fun w' h => hDF w' (below_after_of hB1 h)
  have HBW : Hid (∀ w', Below W1.heap.size W1 w' → Below w.heap.size w w') := fun w' h => below_after_of hB1 h
  have HRO : Hid (∀ w', Below W1.heap.size W1 w' → Calls Try.prog 60 #[.agg #[.slice a n c]] w' fun e w'' => e = .returned (.map (some (w'.heap.size + 1))) ∧ Below w'.heap.size w' w'' ∧ MpAt w'' (w'.heap.size + 1) n g0) := fun w' h => hRO w' (below_after_of hB1 h)
  have hbr := Below.refl W1.heap.size W1
  have HCC : Hid (∀ w', Below W1.heap.size W1 w' → w'.cell? ⟨w.heap.size, 0, none⟩ = some (.slice a n c) ∧ w'.cell? ⟨w.heap.size + 1, 0, none⟩ = some (.string r0) ∧ w'.cell? ⟨w.heap.size + 1, 1, none⟩ = some (.int .i64 r1) ∧ w'.cell? ⟨w.heap.size + 1, 2, none⟩ = some (.int .i64 r2) ∧ w'.cell? ⟨w.heap.size + 1, 3, none⟩ = some (.int .i64 r3) ∧ w'.cell? ⟨w1.heap.size, 0, none⟩ = some (.int .i64 oc)) := fun w' h => ⟨HD.out _ h, (HR.out _ h).1, (HR.out _ h).2.1, (HR.out _ h).2.2.1, (HR.out _ h).2.2.2, (HO.out _ h).1⟩
  obtain ⟨d0, d1, d2, d3, d4, d5⟩ := HCC.out _ hbr
  clear hRO hO hb1 hb1' q0 q1 q2 p0 p1 p2 p3 hB hDF hW1 hB1
  go_wp2_with fail
  rw [HW1.out]
  go_region_held3 (fun w' => w'.cell? ⟨w.heap.size, 0, none⟩ = some (.slice a n c) ∧ w'.cell? ⟨w.heap.size + 1, 0, none⟩ = some (.string r0) ∧ w'.cell? ⟨w.heap.size + 1, 1, none⟩ = some (.int .i64 r1) ∧ w'.cell? ⟨w.heap.size + 1, 2, none⟩ = some (.int .i64 r2) ∧ w'.cell? ⟨w.heap.size + 1, 3, none⟩ = some (.int .i64 r3) ∧ w'.cell? ⟨w1.heap.size, 0, none⟩ = some (.int .i64 oc))
    (first | with_reducible exact ⟨d0, d1, d2, d3, d4, d5⟩ | with_reducible exact HCC.out _ hbr | with_reducible exact HCC.out _ hbr.drew | with_reducible exact HCC.out _ (hbr.alloc hbr.size _))
    (first
      | (go_at_call 16; refine (HDF.out _ (by first | exact hbr | exact hbr.drew)).mono ?_; rintro e w2 ⟨rfl, hb2⟩; have hbr : Below W1.heap.size W1 w2 := (by first | exact below_after_of hbr hb2 | exact below_after_of hbr.drew hb2))
      | (go_at_call 59; refine (hRF _).mono ?_; rintro e w3 ⟨rfl, hb3⟩; have hbr : Below W1.heap.size W1 w3 := (by first | exact below_after_of hbr hb3 | exact below_after_of hbr.drew hb3))
      | (go_at_call 58; refine (hOr _ _ (three_ints_at rfl)).mono ?_; rintro e w4 ⟨rfl, hw4⟩; have hbr : Below W1.heap.size W1 w4 := (by rw [hw4]; exact hbr.alloc hbr.size _); clear hw4))
  clear HDF hRF hOr HCC d0 d1 d2 d3 d4 d5
  have hqn : (q != 0) = true := by simpa using hq1
  clear hq1 HDK HUP HPK HGB hOw hl
  have k2 := HD.out _ hbr
  go_wp2_with fail
  refine (HRO.out _ hbr).mono ?_
  rintro e w5 ⟨rfl, hb5, hM5⟩
  have hbr5 := below_after_of hbr hb5
  have hzM : W1.heap.size ≤ w4.heap.size + 1 := by have := hbr.size; omega
  generalize w4.heap.size + 1 = M at *
  obtain ⟨d0, d1, d2, d3⟩ := HR.out _ hbr5
  clear HRO hb5 k2 hbr HD
  go_wp2_with fail
  refine (hKy _).mono ?_
  rintro e w6 ⟨rfl, hb6⟩
  have hbr6 := below_after_of hbr5 hb6
  have hM6 := hM5.below hb6 hM5.lt
  have hlk := hLk _ _ _ hM6
  unfold valO at hlk
  dsimp only [Option.getD, Option.isSome, Rc.val, rcZ] at hlk
  have hbrA := hbr6.alloc hbr6.size (.cells #[.string x0, .int .i64 x1, .int .i64 x2, .int .i64 x3] 28)
  have hMA := hM6.below (one_new (.cells #[.string x0, .int .i64 x1, .int .i64 x2, .int .i64 x3] 28)) hM6.lt
  obtain ⟨d0, d1, d2, d3⟩ := HR.out _ hbrA
  obtain ⟨-, d4⟩ := HO.out _ hbrA
  obtain ⟨b0, b1, b2, b3⟩ := four_cellsV (heap_alloc_new w6 (.cells #[.string x0, .int .i64 x1, .int .i64 x2, .int .i64 x3] 28))
  clear hKy hLk hbr5 hM5 hb6 hM6 HO
  go_wp2_with fail
  refine (hNx _).mono ?_
  rintro e w7 ⟨rfl, hb7⟩
  have hbr7 := below_after_of hbrA hb7
  have hM7 := hMA.below hb7 hMA.lt
  clear hNx hMA hb7 hlk b0 b1 b2 b3 d0 d1 d2 d3 d4 hbrA
  obtain ⟨k0, k1, f0, f1⟩ := two_cells (HP.out _ hbr7)
  have HBE := HBW.out _ hbr7
  clear HP HBW hbr7 HR hM7
  go_wp2
  exact bodyPost_ret (v := .agg #[.int .i64 q, .slice none 0 0]) (by simp [results, Try.results14, go_sem, k0, k1]) rfl ⟨none, 0, rfl, (HBE.setCell (by show w.heap.size ≤ w.heap.size + 1 + 1; omega) _).setCell (by show w.heap.size ≤ w.heap.size + 1 + 1; omega) _, World.ownsRow_nil _ _ _ _⟩
set_option maxRecDepth 100000 in
set_option maxHeartbeats 4000000 in
theorem implUpdate_nxok (v : Value) (l : Rcl) (r0 : ByteArray) (r1 r2 r3 s : Int) (w : World) (hv : Rcs w v l) (hl : Lbs l) (hx : l.length ≤ 1048576) (hrs : r0.size ≤ 1048576) (h0 : dirF l = 0) (hr0 : recC r0 r1 r2 r3 = 0) (hs0 : inB s 0 999 = true) (x0 : ByteArray) (x1 x2 x3 : Int) (ho : lkO l (keyI r0) = some ⟨x0, x1, x2, x3⟩) (hnx : nxC ⟨x0, x1, x2, x3⟩ ⟨r0, r1, r2, r3⟩ (ownL s) = 0)  :
    Calls Try.prog 14 #[.agg #[v], .agg #[.string r0, .int .i64 r1, .int .i64 r2, .int .i64 r3], .int .i64 s] w fun e w' => DirAns w 0 (putR l ⟨r0, r1, r2, r3⟩) e w' := by
  obtain ⟨W, hW⟩ : ∃ W, W = ((w.alloc (.cells #[v] 26)).alloc (.cells #[.string r0, .int .i64 r1, .int .i64 r2, .int .i64 r3] 28)).alloc (.cells #[.int .i64 0, .slice none 0 0] 32) := ⟨_, rfl⟩
  have HW : Hid (((w.alloc (.cells #[v] 26)).alloc (.cells #[.string r0, .int .i64 r1, .int .i64 r2, .int .i64 r3] 28)).alloc (.cells #[.int .i64 0, .slice none 0 0] 32) = W) := hW.symm
  have hB : Below w.heap.size w W := by rw [hW]; exact ((one_new _).alloc (one_new _).size _).alloc ((one_new _).alloc (one_new _).size _).size _
  have q2 : W.heap[w.heap.size + 1 + 1]? = some (.cells #[.int .i64 0, .slice none 0 0] 32) := by
    have h2 := heap_alloc_new ((w.alloc (.cells #[v] 26)).alloc (.cells #[.string r0, .int .i64 r1, .int .i64 r2, .int .i64 r3] 28)) (.cells #[.int .i64 0, .slice none 0 0] 32)
    simp only [World.size_alloc] at h2
    rw [hW]
    exact h2
  have q1 : W.heap[w.heap.size + 1]? = some (.cells #[.string r0, .int .i64 r1, .int .i64 r2, .int .i64 r3] 28) := by
    rw [hW]
    exact ((one_new _).block (w.heap.size + 1) (by simp)).trans (heap_new2 w _ _)
  have q0 : W.heap[w.heap.size]? = some (.cells #[v] 26) := by
    rw [hW]
    exact ((one_new _).block w.heap.size (by simp; omega)).trans (heap_alloc_old' _ _ _ (heap_alloc_new w _))
  have hO := fun w => implOwnerOf_any s w
  have hOr := fun v w hv => cmpOr3 (dirF l) (recC r0 r1 r2 r3) (owC s) v w hv
  have HVL : Hid (∀ w', Below w.heap.size w w' → Rcs w' v l) := fun w' h => hv.below h
  have hDF := fun w' h => implDirectoryFault_any v l w' (HVL.out w' h) hl (by omega)
  have hRF := fun w => implRecordFault_any r0 r1 r2 r3 w hrs
  unfold recV at hRF
  obtain ⟨a, c, rfl⟩ := hv.shape
  have hok := dirOk h0
  have hq : (if dirF l = 0 then (if recC r0 r1 r2 r3 = 0 then owC s else recC r0 r1 r2 r3) else dirF l) = 0 := by rw [if_pos h0, if_pos hr0, (ow_ok hs0).1]
  have hRO := fun w' h => recordsOf_any (.slice a l.length c) l w' (HVL.out w' h) hok
  have hrc : Rc.c ⟨r0, r1, r2, r3⟩ = 0 := hr0
  have hKy := fun w => recordKey_any r0 r1 r2 r3 w (Rc.labelP_of hrc)
  unfold recV at hKy
  have hkb := keyI_bd r0
  have hLk : ∀ w b n, MpAt w b n (mapTo l l.length) → (Instr.lookup 96 (.map (some b)) (.int .i64 (keyI r0)) true).run Try.prog w = .ok (.tuple #[valO (mapTo l l.length (keyI r0)), .bool (mapTo l l.length (keyI r0)).isSome]) w := fun w b n h => h.look hkb
  rw [lkO_map hok, ho] at hLk
  have HDK : Hid ((dropK l (keyI r0)).Nodup ∧ ∀ x, x ∈ dropK l (keyI r0) ↔ (if x = keyI r0 then none else mapTo l l.length x).isSome = true) := ⟨dropK_nodup hok _, dropK_mem hok _⟩
  have HUP : Hid ((fun y => if y = keyI r0 then some ⟨r0, r1, r2, r3⟩ else (fun z => if z = keyI r0 then none else mapTo l l.length z) y) = upG l ⟨r0, r1, r2, r3⟩) := upG_drop l ⟨r0, r1, r2, r3⟩
  have HPK : Hid (∀ ks : List Int, ks.Pairwise (· < ·) → (∀ x, x ∈ ks ↔ (upG l ⟨r0, r1, r2, r3⟩ x).isSome = true) → recsTo (upG l ⟨r0, r1, r2, r3⟩) ks ks.length = putR l ⟨r0, r1, r2, r3⟩) := fun ks h1 h2 => by
    unfold recsTo
    rw [List.take_length]
    exact put_keys hok ⟨r0, r1, r2, r3⟩ h1 h2
  have HGB : Hid (∀ x, (upG l ⟨r0, r1, r2, r3⟩ x).isSome = true → 0 ≤ x ∧ x < 256) := fun x hx => by
    obtain ⟨y, hy⟩ := Option.isSome_iff_exists.1 hx
    rw [← ((upG_mem hok).1 hy).2]
    exact y.kbd
  have hn12 : l.length ≤ 12 := hok.len
  have hOw := fun w => ownRecord_any r0 r1 r2 r3 w hrs
  rw [(ow_ok hs0).2] at hO
  have hmx := lkO_key ho
  have hxv : 1 ≤ x1 ∧ x1 ≤ 999 := by
    obtain ⟨j, hj, e⟩ := List.mem_iff_getElem.1 hmx.2
    have h := hok.ok j hj
    rw [rAt_eq hj, e] at h
    exact ⟨(recOk h).v0, (recOk h).v1⟩
  have hNx := fun w => nextFault_any x0 x1 x2 x3 r0 r1 r2 r3 (ownL s) w hxv
  rw [hnx] at hNx
  clear hmx hxv
  have hdl : (dropK l (keyI r0)).length < 12 := Nat.lt_of_lt_of_le (dropK_some ho) hok.len
  clear hrc
  generalize mapTo l l.length = g0 at *
  generalize keyI r0 = kz at *
  generalize dropK l kz = dk at *
  generalize ownL s = ow at *
  rw [hq] at hOr
  generalize dirF l = df at *
  generalize recC r0 r1 r2 r3 = rc at *
  generalize owC s = oc at *
  obtain ⟨n, hn⟩ : ∃ n, n = l.length := ⟨_, rfl⟩
  have HN : Hid (n = l.length) := hn
  rw [← hn] at HW HVL hDF q0 hRO hn12
  rw [← hn]
  clear hW hv hn hq h0 hr0 hs0 ho hok hnx
  go_enter Try.func14, Try.ntmps14
  go_wp2_with fail
  rw [HW.out]
  refine (hO _).mono ?_
  rintro e w1 ⟨rfl, hb1⟩
  obtain ⟨W1, hW1⟩ : ∃ W1, W1 = w1.alloc (.cells #[.int .i64 oc, .int .i64 ow] 39) := ⟨_, rfl⟩
  have HW1 : Hid (w1.alloc (.cells #[.int .i64 oc, .int .i64 ow] 39) = W1) := hW1.symm
  have hb1' : Below W.heap.size W W1 := by rw [hW1]; exact hb1.alloc hb1.size _
  have p3 : W1.heap[w1.heap.size]? = some (.cells #[.int .i64 oc, .int .i64 ow] 39) := by rw [hW1]; exact heap_alloc_new w1 _
  have p2 := (hb1'.block _ (Array.getElem?_eq_some_iff.1 q2).1).trans q2
  have p1 := (hb1'.block _ (Array.getElem?_eq_some_iff.1 q1).1).trans q1
  have p0 := (hb1'.block _ (Array.getElem?_eq_some_iff.1 q0).1).trans q0
  have hB1 := below_after_of hB hb1'
  have hl0 := (Array.getElem?_eq_some_iff.1 p0).1
  have hl1 := (Array.getElem?_eq_some_iff.1 p1).1
  have hl2 := (Array.getElem?_eq_some_iff.1 p2).1
  have hl3 := (Array.getElem?_eq_some_iff.1 p3).1
  have hls : w.heap.size + 1 + 1 < w1.heap.size := Nat.lt_of_lt_of_le (Array.getElem?_eq_some_iff.1 q2).1 hb1.size
  have HD : Hid (∀ w', Below W1.heap.size W1 w' → w'.cell? ⟨w.heap.size, 0, none⟩ = some (.slice a n c)) := fun w' h => box1_cellA ((h.block _ hl0).trans p0)
  have HR : Hid (∀ w', Below W1.heap.size W1 w' → w'.cell? ⟨w.heap.size + 1, 0, none⟩ = some (.string r0) ∧ w'.cell? ⟨w.heap.size + 1, 1, none⟩ = some (.int .i64 r1) ∧ w'.cell? ⟨w.heap.size + 1, 2, none⟩ = some (.int .i64 r2) ∧ w'.cell? ⟨w.heap.size + 1, 3, none⟩ = some (.int .i64 r3)) := fun w' h => four_cellsV ((h.block _ hl1).trans p1)
  have HP : Hid (∀ w', Below W1.heap.size W1 w' → w'.heap[w.heap.size + 1 + 1]? = some (.cells #[.int .i64 0, .slice none 0 0] 32)) := fun w' h => (h.block _ hl2).trans p2
  have HO : Hid (∀ w', Below W1.heap.size W1 w' → w'.cell? ⟨w1.heap.size, 0, none⟩ = some (.int .i64 oc) ∧ w'.cell? ⟨w1.heap.size, 1, none⟩ = some (.int .i64 ow)) := fun w' h => ⟨(two_cells ((h.block _ hl3).trans p3)).1, (two_cells ((h.block _ hl3).trans p3)).2.1⟩
  have HDF : Hid (∀ w', Below W1.heap.size W1 w' → Calls Try.prog 16 #[.agg #[.slice a n c]] w' fun e w'' => e = .returned (.int .i64 df) ∧ Below w'.heap.size w' w'') := fun w' h => hDF w' (below_after_of hB1 h)
  have HBW : Hid (∀ w', Below W1.heap.size W1 w' → Below w.heap.size w w') := fun w' h => below_after_of hB1 h
  have HRO : Hid (∀ w', Below W1.heap.size W1 w' → Calls Try.prog 60 #[.agg #[.slice a n c]] w' fun e w'' => e = .returned (.map (some (w'.heap.size + 1))) ∧ Below w'.heap.size w' w'' ∧ MpAt w'' (w'.heap.size + 1) n g0) := fun w' h => hRO w' (below_after_of hB1 h)
  have hbr := Below.refl W1.heap.size W1
  have HCC : Hid (∀ w', Below W1.heap.size W1 w' → w'.cell? ⟨w.heap.size, 0, none⟩ = some (.slice a n c) ∧ w'.cell? ⟨w.heap.size + 1, 0, none⟩ = some (.string r0) ∧ w'.cell? ⟨w.heap.size + 1, 1, none⟩ = some (.int .i64 r1) ∧ w'.cell? ⟨w.heap.size + 1, 2, none⟩ = some (.int .i64 r2) ∧ w'.cell? ⟨w.heap.size + 1, 3, none⟩ = some (.int .i64 r3) ∧ w'.cell? ⟨w1.heap.size, 0, none⟩ = some (.int .i64 oc)) := fun w' h => ⟨HD.out _ h, (HR.out _ h).1, (HR.out _ h).2.1, (HR.out _ h).2.2.1, (HR.out _ h).2.2.2, (HO.out _ h).1⟩
  obtain ⟨d0, d1, d2, d3, d4, d5⟩ := HCC.out _ hbr
  clear hRO hO hb1 hb1' q0 q1 q2 p0 p1 p2 p3 hB hDF hW1 hB1
  go_wp2_with fail
  rw [HW1.out]
  go_region_held3 (fun w' => w'.cell? ⟨w.heap.size, 0, none⟩ = some (.slice a n c) ∧ w'.cell? ⟨w.heap.size + 1, 0, none⟩ = some (.string r0) ∧ w'.cell? ⟨w.heap.size + 1, 1, none⟩ = some (.int .i64 r1) ∧ w'.cell? ⟨w.heap.size + 1, 2, none⟩ = some (.int .i64 r2) ∧ w'.cell? ⟨w.heap.size + 1, 3, none⟩ = some (.int .i64 r3) ∧ w'.cell? ⟨w1.heap.size, 0, none⟩ = some (.int .i64 oc))
    (first | with_reducible exact ⟨d0, d1, d2, d3, d4, d5⟩ | with_reducible exact HCC.out _ hbr | with_reducible exact HCC.out _ hbr.drew | with_reducible exact HCC.out _ (hbr.alloc hbr.size _))
    (first
      | (go_at_call 16; refine (HDF.out _ (by first | exact hbr | exact hbr.drew)).mono ?_; rintro e w2 ⟨rfl, hb2⟩; have hbr : Below W1.heap.size W1 w2 := (by first | exact below_after_of hbr hb2 | exact below_after_of hbr.drew hb2))
      | (go_at_call 59; refine (hRF _).mono ?_; rintro e w3 ⟨rfl, hb3⟩; have hbr : Below W1.heap.size W1 w3 := (by first | exact below_after_of hbr hb3 | exact below_after_of hbr.drew hb3))
      | (go_at_call 58; refine (hOr _ _ (three_ints_at rfl)).mono ?_; rintro e w4 ⟨rfl, hw4⟩; have hbr : Below W1.heap.size W1 w4 := (by rw [hw4]; exact hbr.alloc hbr.size _); clear hw4))
  clear HDF hRF hOr HCC d0 d1 d2 d3 d4 d5
  obtain ⟨dn, hdk⟩ : ∃ dn, (dk.length : Int) = dn := ⟨_, rfl⟩
  have hd12 : (dn == 12) = false := by rw [← hdk]; simp; omega
  clear hdl
  clear hl
  have k2 := HD.out _ hbr
  go_wp2_with fail
  refine (HRO.out _ hbr).mono ?_
  rintro e w5 ⟨rfl, hb5, hM5⟩
  have hbr5 := below_after_of hbr hb5
  have hzM : W1.heap.size ≤ w4.heap.size + 1 := by have := hbr.size; omega
  generalize w4.heap.size + 1 = M at *
  obtain ⟨d0, d1, d2, d3⟩ := HR.out _ hbr5
  clear HRO hb5 k2 hbr HD
  go_wp2_with fail
  refine (hKy _).mono ?_
  rintro e w6 ⟨rfl, hb6⟩
  have hbr6 := below_after_of hbr5 hb6
  have hM6 := hM5.below hb6 hM5.lt
  have hlk := hLk _ _ _ hM6
  unfold valO at hlk
  dsimp only [Option.getD, Option.isSome, Rc.val, rcZ] at hlk
  have hbrA := hbr6.alloc hbr6.size (.cells #[.string x0, .int .i64 x1, .int .i64 x2, .int .i64 x3] 28)
  have hMA := hM6.below (one_new (.cells #[.string x0, .int .i64 x1, .int .i64 x2, .int .i64 x3] 28)) hM6.lt
  obtain ⟨d0, d1, d2, d3⟩ := HR.out _ hbrA
  obtain ⟨-, d4⟩ := HO.out _ hbrA
  obtain ⟨b0, b1, b2, b3⟩ := four_cellsV (heap_alloc_new w6 (.cells #[.string x0, .int .i64 x1, .int .i64 x2, .int .i64 x3] 28))
  clear hKy hLk hbr5 hM5 hb6 hM6 HO
  go_wp2_with fail
  refine (hNx _).mono ?_
  rintro e w7 ⟨rfl, hb7⟩
  have hbr7 := below_after_of hbrA hb7
  have hM7 := hMA.below hb7 hMA.lt
  clear hNx hMA hb7 hlk b0 b1 b2 b3 d0 d1 d2 d3 d4 hbrA
  go_wp2_with (first | (at_delete; refine wpList_delete_mp rfl _ _ rfl M n g0 rfl hM7 kz hkb rfl ?_; intro w8 hM8 hg8; have hbr8 : Below W1.heap.size W1 w8 := hbr7.grown hg8 hbr7.size (fun j hj => by cases hj; exact hzM); obtain ⟨d0, d1, d2, d3⟩ := HR.out _ hbr8; obtain ⟨k0, k1, f0, f1⟩ := two_cells (HP.out _ hbr8); clear hg8 hbr7 hM7) | (at_len; refine wpList_len_mp rfl _ rfl M n (fun y => if y = kz then none else g0 y) rfl hM8 dk HDK.out.1 HDK.out.2 ?_; rw [hdk]))
  refine (hOw _).mono ?_
  rintro e w9 ⟨rfl, hb9⟩
  have hbr9 := below_after_of hbr8 hb9
  obtain ⟨w10, hrun10, hM10, hg10⟩ := (hM8.below hb9 hM8.lt).store (by unfold maxLen; omega : n < maxLen) hkb ⟨r0, r1, r2, r3⟩
  dsimp only [Rc.val] at hrun10
  have hbr10 : Below W1.heap.size W1 w10 := hbr9.grown hg10 hbr9.size (fun j hj => by cases hj; exact hzM)
  have hM11 : MpAt w10 M (n + 1) (upG l ⟨r0, r1, r2, r3⟩) := by rw [← HUP.out]; exact hM10
  have hDO := directoryOf_core M (n + 1) _ w10 hM11 (by omega) HGB.out
  clear hOw hb9 hM8 hbr8 hM10 hg10 hM11 d0 d1 d2 d3 hbr9 k0 k1 f0 f1
  go_wp2_with fail
  refine hDO.mono ?_
  rintro e w11 ⟨ks, u, rfl, hks, hkm, hb11, ho11⟩
  have hbr11 := below_after_of hbr10 hb11
  have hlk2 := HPK.out ks hks hkm
  have hll : ks.length = (putR l ⟨r0, r1, r2, r3⟩).length := by rw [← hlk2, recsTo_len _ (Nat.le_refl _)]
  rw [hlk2, hll] at ho11
  obtain ⟨a2, c2, rfl⟩ := own_shape ho11
  obtain ⟨k0, k1, f0, f1⟩ := two_cells (HP.out _ hbr11)
  have HBE : Hid (Below w.heap.size w w11) := HBW.out _ hbr11
  have HOE : Hid (w11.ownsRow w10.heap.size 28 4 (.slice a2 (putR l ⟨r0, r1, r2, r3⟩).length c2) (putR l ⟨r0, r1, r2, r3⟩).length (flR (putR l ⟨r0, r1, r2, r3⟩))) := ho11
  have hz10 : w.heap.size + 1 + 1 < w10.heap.size := Nat.lt_of_lt_of_le (by omega : w.heap.size + 1 + 1 < W1.heap.size) hbr10.size
  clear HP HBW hbr11 HR hDO ho11 hks hkm hlk2 hll hb11 HPK HGB HUP HDK hrun10
  go_wp2
  refine bodyPost_ret (v := .agg #[.int .i64 0, .slice a2 (putR l ⟨r0, r1, r2, r3⟩).length c2]) (by simp [results, Try.results14, go_sem, k0, k1]) rfl ⟨a2, c2, rfl, (HBE.out.setCell (by show w.heap.size ≤ w.heap.size + 1 + 1; omega) _).setCell (by show w.heap.size ≤ w.heap.size + 1 + 1; omega) _, ?_⟩
  exact own_mono (ownsRow_setCell_below (ownsRow_setCell_below HOE.out (by show w.heap.size + 1 + 1 < w10.heap.size; exact hz10) _) (by show w.heap.size + 1 + 1 < w10.heap.size; exact hz10) _) (by omega)
end U
end Go.Proofs.Ythmnjojjnlnbjaa

/- Updates, by the program, where what is given is right. -/
namespace Go.Proofs.Ythmnjojjnlnbjaa
open Go.RowKit Go.Maps
namespace U
set_option maxRecDepth 100000 in
set_option maxHeartbeats 4000000 in
theorem implUpdate_fsbad (v : Value) (l : Rcl) (r0 : ByteArray) (r1 r2 r3 s : Int) (w : World) (hv : Rcs w v l) (hl : Lbs l) (hx : l.length ≤ 1048576) (hrs : r0.size ≤ 1048576) (h0 : dirF l = 0) (hr0 : recC r0 r1 r2 r3 = 0) (hs0 : inB s 0 999 = true) (q : Int) (ho : lkO l (keyI r0) = none) (hfs : fsC9 ⟨r0, r1, r2, r3⟩ (ownL s) = q) (hq1 : ¬ q = 0) :
    Calls Try.prog 14 #[.agg #[v], .agg #[.string r0, .int .i64 r1, .int .i64 r2, .int .i64 r3], .int .i64 s] w fun e w' => DirAns w q [] e w' := by
  obtain ⟨W, hW⟩ : ∃ W, W = ((w.alloc (.cells #[v] 26)).alloc (.cells #[.string r0, .int .i64 r1, .int .i64 r2, .int .i64 r3] 28)).alloc (.cells #[.int .i64 0, .slice none 0 0] 32) := ⟨_, rfl⟩
  have HW : Hid (((w.alloc (.cells #[v] 26)).alloc (.cells #[.string r0, .int .i64 r1, .int .i64 r2, .int .i64 r3] 28)).alloc (.cells #[.int .i64 0, .slice none 0 0] 32) = W) := hW.symm
  have hB : Below w.heap.size w W := by rw [hW]; exact ((one_new _).alloc (one_new _).size _).alloc ((one_new _).alloc (one_new _).size _).size _
  have q2 : W.heap[w.heap.size + 1 + 1]? = some (.cells #[.int .i64 0, .slice none 0 0] 32) := by
    have h2 := heap_alloc_new ((w.alloc (.cells #[v] 26)).alloc (.cells #[.string r0, .int .i64 r1, .int .i64 r2, .int .i64 r3] 28)) (.cells #[.int .i64 0, .slice none 0 0] 32)
    simp only [World.size_alloc] at h2
    rw [hW]
    exact h2
  have q1 : W.heap[w.heap.size + 1]? = some (.cells #[.string r0, .int .i64 r1, .int .i64 r2, .int .i64 r3] 28) := by
    rw [hW]
    exact ((one_new _).block (w.heap.size + 1) (by simp)).trans (heap_new2 w _ _)
  have q0 : W.heap[w.heap.size]? = some (.cells #[v] 26) := by
    rw [hW]
    exact ((one_new _).block w.heap.size (by simp; omega)).trans (heap_alloc_old' _ _ _ (heap_alloc_new w _))
  have hO := fun w => implOwnerOf_any s w
  have hOr := fun v w hv => cmpOr3 (dirF l) (recC r0 r1 r2 r3) (owC s) v w hv
  have HVL : Hid (∀ w', Below w.heap.size w w' → Rcs w' v l) := fun w' h => hv.below h
  have hDF := fun w' h => implDirectoryFault_any v l w' (HVL.out w' h) hl (by omega)
  have hRF := fun w => implRecordFault_any r0 r1 r2 r3 w hrs
  unfold recV at hRF
  obtain ⟨a, c, rfl⟩ := hv.shape
  have hok := dirOk h0
  have hq : (if dirF l = 0 then (if recC r0 r1 r2 r3 = 0 then owC s else recC r0 r1 r2 r3) else dirF l) = 0 := by rw [if_pos h0, if_pos hr0, (ow_ok hs0).1]
  have hRO := fun w' h => recordsOf_any (.slice a l.length c) l w' (HVL.out w' h) hok
  have hrc : Rc.c ⟨r0, r1, r2, r3⟩ = 0 := hr0
  have hKy := fun w => recordKey_any r0 r1 r2 r3 w (Rc.labelP_of hrc)
  unfold recV at hKy
  have hkb := keyI_bd r0
  have hLk : ∀ w b n, MpAt w b n (mapTo l l.length) → (Instr.lookup 96 (.map (some b)) (.int .i64 (keyI r0)) true).run Try.prog w = .ok (.tuple #[valO (mapTo l l.length (keyI r0)), .bool (mapTo l l.length (keyI r0)).isSome]) w := fun w b n h => h.look hkb
  rw [lkO_map hok, ho] at hLk
  have HDK : Hid ((dropK l (keyI r0)).Nodup ∧ ∀ x, x ∈ dropK l (keyI r0) ↔ (if x = keyI r0 then none else mapTo l l.length x).isSome = true) := ⟨dropK_nodup hok _, dropK_mem hok _⟩
  have HUP : Hid ((fun y => if y = keyI r0 then some ⟨r0, r1, r2, r3⟩ else (fun z => if z = keyI r0 then none else mapTo l l.length z) y) = upG l ⟨r0, r1, r2, r3⟩) := upG_drop l ⟨r0, r1, r2, r3⟩
  have HPK : Hid (∀ ks : List Int, ks.Pairwise (· < ·) → (∀ x, x ∈ ks ↔ (upG l ⟨r0, r1, r2, r3⟩ x).isSome = true) → recsTo (upG l ⟨r0, r1, r2, r3⟩) ks ks.length = putR l ⟨r0, r1, r2, r3⟩) := fun ks h1 h2 => by
    unfold recsTo
    rw [List.take_length]
    exact put_keys hok ⟨r0, r1, r2, r3⟩ h1 h2
  have HGB : Hid (∀ x, (upG l ⟨r0, r1, r2, r3⟩ x).isSome = true → 0 ≤ x ∧ x < 256) := fun x hx => by
    obtain ⟨y, hy⟩ := Option.isSome_iff_exists.1 hx
    rw [← ((upG_mem hok).1 hy).2]
    exact y.kbd
  have hn12 : l.length ≤ 12 := hok.len
  have hOw := fun w => ownRecord_any r0 r1 r2 r3 w hrs
  rw [(ow_ok hs0).2] at hO
  have hFs := fun w => firstFault_any r0 r1 r2 r3 (ownL s) w
  rw [hfs] at hFs
  clear hrc
  generalize mapTo l l.length = g0 at *
  generalize keyI r0 = kz at *
  generalize dropK l kz = dk at *
  generalize ownL s = ow at *
  rw [hq] at hOr
  generalize dirF l = df at *
  generalize recC r0 r1 r2 r3 = rc at *
  generalize owC s = oc at *
  obtain ⟨n, hn⟩ : ∃ n, n = l.length := ⟨_, rfl⟩
  have HN : Hid (n = l.length) := hn
  rw [← hn] at HW HVL hDF q0 hRO hn12
  rw [← hn]
  clear hW hv hn hq h0 hr0 hs0 ho hok hfs
  go_enter Try.func14, Try.ntmps14
  go_wp2_with fail
  rw [HW.out]
  refine (hO _).mono ?_
  rintro e w1 ⟨rfl, hb1⟩
  obtain ⟨W1, hW1⟩ : ∃ W1, W1 = w1.alloc (.cells #[.int .i64 oc, .int .i64 ow] 39) := ⟨_, rfl⟩
  have HW1 : Hid (w1.alloc (.cells #[.int .i64 oc, .int .i64 ow] 39) = W1) := hW1.symm
  have hb1' : Below W.heap.size W W1 := by rw [hW1]; exact hb1.alloc hb1.size _
  have p3 : W1.heap[w1.heap.size]? = some (.cells #[.int .i64 oc, .int .i64 ow] 39) := by rw [hW1]; exact heap_alloc_new w1 _
  have p2 := (hb1'.block _ (Array.getElem?_eq_some_iff.1 q2).1).trans q2
  have p1 := (hb1'.block _ (Array.getElem?_eq_some_iff.1 q1).1).trans q1
  have p0 := (hb1'.block _ (Array.getElem?_eq_some_iff.1 q0).1).trans q0
  have hB1 := below_after_of hB hb1'
  have hl0 := (Array.getElem?_eq_some_iff.1 p0).1
  have hl1 := (Array.getElem?_eq_some_iff.1 p1).1
  have hl2 := (Array.getElem?_eq_some_iff.1 p2).1
  have hl3 := (Array.getElem?_eq_some_iff.1 p3).1
  have hls : w.heap.size + 1 + 1 < w1.heap.size := Nat.lt_of_lt_of_le (Array.getElem?_eq_some_iff.1 q2).1 hb1.size
  have HD : Hid (∀ w', Below W1.heap.size W1 w' → w'.cell? ⟨w.heap.size, 0, none⟩ = some (.slice a n c)) := fun w' h => box1_cellA ((h.block _ hl0).trans p0)
  have HR : Hid (∀ w', Below W1.heap.size W1 w' → w'.cell? ⟨w.heap.size + 1, 0, none⟩ = some (.string r0) ∧ w'.cell? ⟨w.heap.size + 1, 1, none⟩ = some (.int .i64 r1) ∧ w'.cell? ⟨w.heap.size + 1, 2, none⟩ = some (.int .i64 r2) ∧ w'.cell? ⟨w.heap.size + 1, 3, none⟩ = some (.int .i64 r3)) := fun w' h => four_cellsV ((h.block _ hl1).trans p1)
  have HP : Hid (∀ w', Below W1.heap.size W1 w' → w'.heap[w.heap.size + 1 + 1]? = some (.cells #[.int .i64 0, .slice none 0 0] 32)) := fun w' h => (h.block _ hl2).trans p2
  have HO : Hid (∀ w', Below W1.heap.size W1 w' → w'.cell? ⟨w1.heap.size, 0, none⟩ = some (.int .i64 oc) ∧ w'.cell? ⟨w1.heap.size, 1, none⟩ = some (.int .i64 ow)) := fun w' h => ⟨(two_cells ((h.block _ hl3).trans p3)).1, (two_cells ((h.block _ hl3).trans p3)).2.1⟩
  have HDF : Hid (∀ w', Below W1.heap.size W1 w' → Calls Try.prog 16 #[.agg #[.slice a n c]] w' fun e w'' => e = .returned (.int .i64 df) ∧ Below w'.heap.size w' w'') := fun w' h => hDF w' (below_after_of hB1 h)
  have HBW : Hid (∀ w', Below W1.heap.size W1 w' → Below w.heap.size w w') := fun w' h => below_after_of hB1 h
  have HRO : Hid (∀ w', Below W1.heap.size W1 w' → Calls Try.prog 60 #[.agg #[.slice a n c]] w' fun e w'' => e = .returned (.map (some (w'.heap.size + 1))) ∧ Below w'.heap.size w' w'' ∧ MpAt w'' (w'.heap.size + 1) n g0) := fun w' h => hRO w' (below_after_of hB1 h)
  have hbr := Below.refl W1.heap.size W1
  have HCC : Hid (∀ w', Below W1.heap.size W1 w' → w'.cell? ⟨w.heap.size, 0, none⟩ = some (.slice a n c) ∧ w'.cell? ⟨w.heap.size + 1, 0, none⟩ = some (.string r0) ∧ w'.cell? ⟨w.heap.size + 1, 1, none⟩ = some (.int .i64 r1) ∧ w'.cell? ⟨w.heap.size + 1, 2, none⟩ = some (.int .i64 r2) ∧ w'.cell? ⟨w.heap.size + 1, 3, none⟩ = some (.int .i64 r3) ∧ w'.cell? ⟨w1.heap.size, 0, none⟩ = some (.int .i64 oc)) := fun w' h => ⟨HD.out _ h, (HR.out _ h).1, (HR.out _ h).2.1, (HR.out _ h).2.2.1, (HR.out _ h).2.2.2, (HO.out _ h).1⟩
  obtain ⟨d0, d1, d2, d3, d4, d5⟩ := HCC.out _ hbr
  clear hRO hO hb1 hb1' q0 q1 q2 p0 p1 p2 p3 hB hDF hW1 hB1
  go_wp2_with fail
  rw [HW1.out]
  go_region_held3 (fun w' => w'.cell? ⟨w.heap.size, 0, none⟩ = some (.slice a n c) ∧ w'.cell? ⟨w.heap.size + 1, 0, none⟩ = some (.string r0) ∧ w'.cell? ⟨w.heap.size + 1, 1, none⟩ = some (.int .i64 r1) ∧ w'.cell? ⟨w.heap.size + 1, 2, none⟩ = some (.int .i64 r2) ∧ w'.cell? ⟨w.heap.size + 1, 3, none⟩ = some (.int .i64 r3) ∧ w'.cell? ⟨w1.heap.size, 0, none⟩ = some (.int .i64 oc))
    (first | with_reducible exact ⟨d0, d1, d2, d3, d4, d5⟩ | with_reducible exact HCC.out _ hbr | with_reducible exact HCC.out _ hbr.drew | with_reducible exact HCC.out _ (hbr.alloc hbr.size _))
    (first
      | (go_at_call 16; refine (HDF.out _ (by first | exact hbr | exact hbr.drew)).mono ?_; rintro e w2 ⟨rfl, hb2⟩; have hbr : Below W1.heap.size W1 w2 := (by first | exact below_after_of hbr hb2 | exact below_after_of hbr.drew hb2))
      | (go_at_call 59; refine (hRF _).mono ?_; rintro e w3 ⟨rfl, hb3⟩; have hbr : Below W1.heap.size W1 w3 := (by first | exact below_after_of hbr hb3 | exact below_after_of hbr.drew hb3))
      | (go_at_call 58; refine (hOr _ _ (three_ints_at rfl)).mono ?_; rintro e w4 ⟨rfl, hw4⟩; have hbr : Below W1.heap.size W1 w4 := (by rw [hw4]; exact hbr.alloc hbr.size _); clear hw4))
  clear HDF hRF hOr HCC d0 d1 d2 d3 d4 d5
  have hqn : (q != 0) = true := by simpa using hq1
  clear hq1 HDK HUP HPK HGB hOw hl
  have k2 := HD.out _ hbr
  go_wp2_with fail
  refine (HRO.out _ hbr).mono ?_
  rintro e w5 ⟨rfl, hb5, hM5⟩
  have hbr5 := below_after_of hbr hb5
  have hzM : W1.heap.size ≤ w4.heap.size + 1 := by have := hbr.size; omega
  generalize w4.heap.size + 1 = M at *
  obtain ⟨d0, d1, d2, d3⟩ := HR.out _ hbr5
  clear HRO hb5 k2 hbr HD
  go_wp2_with fail
  refine (hKy _).mono ?_
  rintro e w6 ⟨rfl, hb6⟩
  have hbr6 := below_after_of hbr5 hb6
  have hM6 := hM5.below hb6 hM5.lt
  have hlk := hLk _ _ _ hM6
  unfold valO at hlk
  dsimp only [Option.getD, Option.isSome, Rc.val, rcZ] at hlk
  have hbrA := hbr6.alloc hbr6.size (.cells #[.string ⟨#[]⟩, .int .i64 0, .int .i64 0, .int .i64 0] 28)
  have hMA := hM6.below (one_new (.cells #[.string ⟨#[]⟩, .int .i64 0, .int .i64 0, .int .i64 0] 28)) hM6.lt
  obtain ⟨d0, d1, d2, d3⟩ := HR.out _ hbrA
  obtain ⟨-, d4⟩ := HO.out _ hbrA
  obtain ⟨b0, b1, b2, b3⟩ := four_cellsV (heap_alloc_new w6 (.cells #[.string ⟨#[]⟩, .int .i64 0, .int .i64 0, .int .i64 0] 28))
  clear hKy hLk hbr5 hM5 hb6 hM6 HO
  go_wp2_with fail
  refine (hFs _).mono ?_
  rintro e w7 ⟨rfl, hb7⟩
  have hbr7 := below_after_of hbrA hb7
  have hM7 := hMA.below hb7 hMA.lt
  clear hFs hMA hb7 hlk b0 b1 b2 b3 d0 d1 d2 d3 d4 hbrA
  obtain ⟨k0, k1, f0, f1⟩ := two_cells (HP.out _ hbr7)
  have HBE := HBW.out _ hbr7
  clear HP HBW hbr7 HR hM7
  go_wp2
  exact bodyPost_ret (v := .agg #[.int .i64 q, .slice none 0 0]) (by simp [results, Try.results14, go_sem, k0, k1]) rfl ⟨none, 0, rfl, (HBE.setCell (by show w.heap.size ≤ w.heap.size + 1 + 1; omega) _).setCell (by show w.heap.size ≤ w.heap.size + 1 + 1; omega) _, World.ownsRow_nil _ _ _ _⟩
set_option maxRecDepth 100000 in
set_option maxHeartbeats 4000000 in
theorem implUpdate_fsfull (v : Value) (l : Rcl) (r0 : ByteArray) (r1 r2 r3 s : Int) (w : World) (hv : Rcs w v l) (hl : Lbs l) (hx : l.length ≤ 1048576) (hrs : r0.size ≤ 1048576) (h0 : dirF l = 0) (hr0 : recC r0 r1 r2 r3 = 0) (hs0 : inB s 0 999 = true) (ho : lkO l (keyI r0) = none) (hfs : fsC9 ⟨r0, r1, r2, r3⟩ (ownL s) = 0) (hfull : l.length = 12) :
    Calls Try.prog 14 #[.agg #[v], .agg #[.string r0, .int .i64 r1, .int .i64 r2, .int .i64 r3], .int .i64 s] w fun e w' => DirAns w 11 [] e w' := by
  obtain ⟨W, hW⟩ : ∃ W, W = ((w.alloc (.cells #[v] 26)).alloc (.cells #[.string r0, .int .i64 r1, .int .i64 r2, .int .i64 r3] 28)).alloc (.cells #[.int .i64 0, .slice none 0 0] 32) := ⟨_, rfl⟩
  have HW : Hid (((w.alloc (.cells #[v] 26)).alloc (.cells #[.string r0, .int .i64 r1, .int .i64 r2, .int .i64 r3] 28)).alloc (.cells #[.int .i64 0, .slice none 0 0] 32) = W) := hW.symm
  have hB : Below w.heap.size w W := by rw [hW]; exact ((one_new _).alloc (one_new _).size _).alloc ((one_new _).alloc (one_new _).size _).size _
  have q2 : W.heap[w.heap.size + 1 + 1]? = some (.cells #[.int .i64 0, .slice none 0 0] 32) := by
    have h2 := heap_alloc_new ((w.alloc (.cells #[v] 26)).alloc (.cells #[.string r0, .int .i64 r1, .int .i64 r2, .int .i64 r3] 28)) (.cells #[.int .i64 0, .slice none 0 0] 32)
    simp only [World.size_alloc] at h2
    rw [hW]
    exact h2
  have q1 : W.heap[w.heap.size + 1]? = some (.cells #[.string r0, .int .i64 r1, .int .i64 r2, .int .i64 r3] 28) := by
    rw [hW]
    exact ((one_new _).block (w.heap.size + 1) (by simp)).trans (heap_new2 w _ _)
  have q0 : W.heap[w.heap.size]? = some (.cells #[v] 26) := by
    rw [hW]
    exact ((one_new _).block w.heap.size (by simp; omega)).trans (heap_alloc_old' _ _ _ (heap_alloc_new w _))
  have hO := fun w => implOwnerOf_any s w
  have hOr := fun v w hv => cmpOr3 (dirF l) (recC r0 r1 r2 r3) (owC s) v w hv
  have HVL : Hid (∀ w', Below w.heap.size w w' → Rcs w' v l) := fun w' h => hv.below h
  have hDF := fun w' h => implDirectoryFault_any v l w' (HVL.out w' h) hl (by omega)
  have hRF := fun w => implRecordFault_any r0 r1 r2 r3 w hrs
  unfold recV at hRF
  obtain ⟨a, c, rfl⟩ := hv.shape
  have hok := dirOk h0
  have hq : (if dirF l = 0 then (if recC r0 r1 r2 r3 = 0 then owC s else recC r0 r1 r2 r3) else dirF l) = 0 := by rw [if_pos h0, if_pos hr0, (ow_ok hs0).1]
  have hRO := fun w' h => recordsOf_any (.slice a l.length c) l w' (HVL.out w' h) hok
  have hrc : Rc.c ⟨r0, r1, r2, r3⟩ = 0 := hr0
  have hKy := fun w => recordKey_any r0 r1 r2 r3 w (Rc.labelP_of hrc)
  unfold recV at hKy
  have hkb := keyI_bd r0
  have hLk : ∀ w b n, MpAt w b n (mapTo l l.length) → (Instr.lookup 96 (.map (some b)) (.int .i64 (keyI r0)) true).run Try.prog w = .ok (.tuple #[valO (mapTo l l.length (keyI r0)), .bool (mapTo l l.length (keyI r0)).isSome]) w := fun w b n h => h.look hkb
  rw [lkO_map hok, ho] at hLk
  have HDK : Hid ((dropK l (keyI r0)).Nodup ∧ ∀ x, x ∈ dropK l (keyI r0) ↔ (if x = keyI r0 then none else mapTo l l.length x).isSome = true) := ⟨dropK_nodup hok _, dropK_mem hok _⟩
  have HUP : Hid ((fun y => if y = keyI r0 then some ⟨r0, r1, r2, r3⟩ else (fun z => if z = keyI r0 then none else mapTo l l.length z) y) = upG l ⟨r0, r1, r2, r3⟩) := upG_drop l ⟨r0, r1, r2, r3⟩
  have HPK : Hid (∀ ks : List Int, ks.Pairwise (· < ·) → (∀ x, x ∈ ks ↔ (upG l ⟨r0, r1, r2, r3⟩ x).isSome = true) → recsTo (upG l ⟨r0, r1, r2, r3⟩) ks ks.length = putR l ⟨r0, r1, r2, r3⟩) := fun ks h1 h2 => by
    unfold recsTo
    rw [List.take_length]
    exact put_keys hok ⟨r0, r1, r2, r3⟩ h1 h2
  have HGB : Hid (∀ x, (upG l ⟨r0, r1, r2, r3⟩ x).isSome = true → 0 ≤ x ∧ x < 256) := fun x hx => by
    obtain ⟨y, hy⟩ := Option.isSome_iff_exists.1 hx
    rw [← ((upG_mem hok).1 hy).2]
    exact y.kbd
  have hn12 : l.length ≤ 12 := hok.len
  have hOw := fun w => ownRecord_any r0 r1 r2 r3 w hrs
  rw [(ow_ok hs0).2] at hO
  have hFs := fun w => firstFault_any r0 r1 r2 r3 (ownL s) w
  rw [hfs] at hFs
  have hdl : (dropK l (keyI r0)).length = 12 := by rw [dropK_none hok ho]; exact hfull
  have hx2 := hx
  clear hx2
  clear hrc
  generalize mapTo l l.length = g0 at *
  generalize keyI r0 = kz at *
  generalize dropK l kz = dk at *
  generalize ownL s = ow at *
  rw [hq] at hOr
  generalize dirF l = df at *
  generalize recC r0 r1 r2 r3 = rc at *
  generalize owC s = oc at *
  obtain ⟨n, hn⟩ : ∃ n, n = l.length := ⟨_, rfl⟩
  have HN : Hid (n = l.length) := hn
  rw [← hn] at HW HVL hDF q0 hRO hn12
  rw [← hn]
  clear hW hv hn hq h0 hr0 hs0 ho hok hfs hfull
  go_enter Try.func14, Try.ntmps14
  go_wp2_with fail
  rw [HW.out]
  refine (hO _).mono ?_
  rintro e w1 ⟨rfl, hb1⟩
  obtain ⟨W1, hW1⟩ : ∃ W1, W1 = w1.alloc (.cells #[.int .i64 oc, .int .i64 ow] 39) := ⟨_, rfl⟩
  have HW1 : Hid (w1.alloc (.cells #[.int .i64 oc, .int .i64 ow] 39) = W1) := hW1.symm
  have hb1' : Below W.heap.size W W1 := by rw [hW1]; exact hb1.alloc hb1.size _
  have p3 : W1.heap[w1.heap.size]? = some (.cells #[.int .i64 oc, .int .i64 ow] 39) := by rw [hW1]; exact heap_alloc_new w1 _
  have p2 := (hb1'.block _ (Array.getElem?_eq_some_iff.1 q2).1).trans q2
  have p1 := (hb1'.block _ (Array.getElem?_eq_some_iff.1 q1).1).trans q1
  have p0 := (hb1'.block _ (Array.getElem?_eq_some_iff.1 q0).1).trans q0
  have hB1 := below_after_of hB hb1'
  have hl0 := (Array.getElem?_eq_some_iff.1 p0).1
  have hl1 := (Array.getElem?_eq_some_iff.1 p1).1
  have hl2 := (Array.getElem?_eq_some_iff.1 p2).1
  have hl3 := (Array.getElem?_eq_some_iff.1 p3).1
  have hls : w.heap.size + 1 + 1 < w1.heap.size := Nat.lt_of_lt_of_le (Array.getElem?_eq_some_iff.1 q2).1 hb1.size
  have HD : Hid (∀ w', Below W1.heap.size W1 w' → w'.cell? ⟨w.heap.size, 0, none⟩ = some (.slice a n c)) := fun w' h => box1_cellA ((h.block _ hl0).trans p0)
  have HR : Hid (∀ w', Below W1.heap.size W1 w' → w'.cell? ⟨w.heap.size + 1, 0, none⟩ = some (.string r0) ∧ w'.cell? ⟨w.heap.size + 1, 1, none⟩ = some (.int .i64 r1) ∧ w'.cell? ⟨w.heap.size + 1, 2, none⟩ = some (.int .i64 r2) ∧ w'.cell? ⟨w.heap.size + 1, 3, none⟩ = some (.int .i64 r3)) := fun w' h => four_cellsV ((h.block _ hl1).trans p1)
  have HP : Hid (∀ w', Below W1.heap.size W1 w' → w'.heap[w.heap.size + 1 + 1]? = some (.cells #[.int .i64 0, .slice none 0 0] 32)) := fun w' h => (h.block _ hl2).trans p2
  have HO : Hid (∀ w', Below W1.heap.size W1 w' → w'.cell? ⟨w1.heap.size, 0, none⟩ = some (.int .i64 oc) ∧ w'.cell? ⟨w1.heap.size, 1, none⟩ = some (.int .i64 ow)) := fun w' h => ⟨(two_cells ((h.block _ hl3).trans p3)).1, (two_cells ((h.block _ hl3).trans p3)).2.1⟩
  have HDF : Hid (∀ w', Below W1.heap.size W1 w' → Calls Try.prog 16 #[.agg #[.slice a n c]] w' fun e w'' => e = .returned (.int .i64 df) ∧ Below w'.heap.size w' w'') := fun w' h => hDF w' (below_after_of hB1 h)
  have HBW : Hid (∀ w', Below W1.heap.size W1 w' → Below w.heap.size w w') := fun w' h => below_after_of hB1 h
  have HRO : Hid (∀ w', Below W1.heap.size W1 w' → Calls Try.prog 60 #[.agg #[.slice a n c]] w' fun e w'' => e = .returned (.map (some (w'.heap.size + 1))) ∧ Below w'.heap.size w' w'' ∧ MpAt w'' (w'.heap.size + 1) n g0) := fun w' h => hRO w' (below_after_of hB1 h)
  have hbr := Below.refl W1.heap.size W1
  have HCC : Hid (∀ w', Below W1.heap.size W1 w' → w'.cell? ⟨w.heap.size, 0, none⟩ = some (.slice a n c) ∧ w'.cell? ⟨w.heap.size + 1, 0, none⟩ = some (.string r0) ∧ w'.cell? ⟨w.heap.size + 1, 1, none⟩ = some (.int .i64 r1) ∧ w'.cell? ⟨w.heap.size + 1, 2, none⟩ = some (.int .i64 r2) ∧ w'.cell? ⟨w.heap.size + 1, 3, none⟩ = some (.int .i64 r3) ∧ w'.cell? ⟨w1.heap.size, 0, none⟩ = some (.int .i64 oc)) := fun w' h => ⟨HD.out _ h, (HR.out _ h).1, (HR.out _ h).2.1, (HR.out _ h).2.2.1, (HR.out _ h).2.2.2, (HO.out _ h).1⟩
  obtain ⟨d0, d1, d2, d3, d4, d5⟩ := HCC.out _ hbr
  clear hRO hO hb1 hb1' q0 q1 q2 p0 p1 p2 p3 hB hDF hW1 hB1
  go_wp2_with fail
  rw [HW1.out]
  go_region_held3 (fun w' => w'.cell? ⟨w.heap.size, 0, none⟩ = some (.slice a n c) ∧ w'.cell? ⟨w.heap.size + 1, 0, none⟩ = some (.string r0) ∧ w'.cell? ⟨w.heap.size + 1, 1, none⟩ = some (.int .i64 r1) ∧ w'.cell? ⟨w.heap.size + 1, 2, none⟩ = some (.int .i64 r2) ∧ w'.cell? ⟨w.heap.size + 1, 3, none⟩ = some (.int .i64 r3) ∧ w'.cell? ⟨w1.heap.size, 0, none⟩ = some (.int .i64 oc))
    (first | with_reducible exact ⟨d0, d1, d2, d3, d4, d5⟩ | with_reducible exact HCC.out _ hbr | with_reducible exact HCC.out _ hbr.drew | with_reducible exact HCC.out _ (hbr.alloc hbr.size _))
    (first
      | (go_at_call 16; refine (HDF.out _ (by first | exact hbr | exact hbr.drew)).mono ?_; rintro e w2 ⟨rfl, hb2⟩; have hbr : Below W1.heap.size W1 w2 := (by first | exact below_after_of hbr hb2 | exact below_after_of hbr.drew hb2))
      | (go_at_call 59; refine (hRF _).mono ?_; rintro e w3 ⟨rfl, hb3⟩; have hbr : Below W1.heap.size W1 w3 := (by first | exact below_after_of hbr hb3 | exact below_after_of hbr.drew hb3))
      | (go_at_call 58; refine (hOr _ _ (three_ints_at rfl)).mono ?_; rintro e w4 ⟨rfl, hw4⟩; have hbr : Below W1.heap.size W1 w4 := (by rw [hw4]; exact hbr.alloc hbr.size _); clear hw4))
  clear HDF hRF hOr HCC d0 d1 d2 d3 d4 d5
  have hdk : (dk.length : Int) = 12 := by rw [hdl]; rfl
  clear hdl
  clear hl HUP HPK HGB hOw
  have k2 := HD.out _ hbr
  go_wp2_with fail
  refine (HRO.out _ hbr).mono ?_
  rintro e w5 ⟨rfl, hb5, hM5⟩
  have hbr5 := below_after_of hbr hb5
  have hzM : W1.heap.size ≤ w4.heap.size + 1 := by have := hbr.size; omega
  generalize w4.heap.size + 1 = M at *
  obtain ⟨d0, d1, d2, d3⟩ := HR.out _ hbr5
  clear HRO hb5 k2 hbr HD
  go_wp2_with fail
  refine (hKy _).mono ?_
  rintro e w6 ⟨rfl, hb6⟩
  have hbr6 := below_after_of hbr5 hb6
  have hM6 := hM5.below hb6 hM5.lt
  have hlk := hLk _ _ _ hM6
  unfold valO at hlk
  dsimp only [Option.getD, Option.isSome, Rc.val, rcZ] at hlk
  have hbrA := hbr6.alloc hbr6.size (.cells #[.string ⟨#[]⟩, .int .i64 0, .int .i64 0, .int .i64 0] 28)
  have hMA := hM6.below (one_new (.cells #[.string ⟨#[]⟩, .int .i64 0, .int .i64 0, .int .i64 0] 28)) hM6.lt
  obtain ⟨d0, d1, d2, d3⟩ := HR.out _ hbrA
  obtain ⟨-, d4⟩ := HO.out _ hbrA
  obtain ⟨b0, b1, b2, b3⟩ := four_cellsV (heap_alloc_new w6 (.cells #[.string ⟨#[]⟩, .int .i64 0, .int .i64 0, .int .i64 0] 28))
  clear hKy hLk hbr5 hM5 hb6 hM6 HO
  go_wp2_with fail
  refine (hFs _).mono ?_
  rintro e w7 ⟨rfl, hb7⟩
  have hbr7 := below_after_of hbrA hb7
  have hM7 := hMA.below hb7 hMA.lt
  clear hFs hMA hb7 hlk b0 b1 b2 b3 d0 d1 d2 d3 d4 hbrA
  go_wp2_with (first | (at_delete; refine wpList_delete_mp rfl _ _ rfl M n g0 rfl hM7 kz hkb rfl ?_; intro w8 hM8 hg8; have hbr8 : Below W1.heap.size W1 w8 := hbr7.grown hg8 hbr7.size (fun j hj => by cases hj; exact hzM); obtain ⟨d0, d1, d2, d3⟩ := HR.out _ hbr8; obtain ⟨k0, k1, f0, f1⟩ := two_cells (HP.out _ hbr8); clear hg8 hbr7 hM7) | (at_len; refine wpList_len_mp rfl _ rfl M n (fun y => if y = kz then none else g0 y) rfl hM8 dk HDK.out.1 HDK.out.2 ?_; rw [hdk]))
  have HBE := HBW.out _ hbr8
  exact bodyPost_ret (v := .agg #[.int .i64 11, .slice none 0 0]) (by simp [results, Try.results14, go_sem, k0, k1]) rfl ⟨none, 0, rfl, (HBE.setCell (by show w.heap.size ≤ w.heap.size + 1 + 1; omega) _).setCell (by show w.heap.size ≤ w.heap.size + 1 + 1; omega) _, World.ownsRow_nil _ _ _ _⟩
set_option maxRecDepth 100000 in
set_option maxHeartbeats 4000000 in
theorem implUpdate_fsok (v : Value) (l : Rcl) (r0 : ByteArray) (r1 r2 r3 s : Int) (w : World) (hv : Rcs w v l) (hl : Lbs l) (hx : l.length ≤ 1048576) (hrs : r0.size ≤ 1048576) (h0 : dirF l = 0) (hr0 : recC r0 r1 r2 r3 = 0) (hs0 : inB s 0 999 = true) (ho : lkO l (keyI r0) = none) (hfs : fsC9 ⟨r0, r1, r2, r3⟩ (ownL s) = 0) (hfull : l.length < 12) :
    Calls Try.prog 14 #[.agg #[v], .agg #[.string r0, .int .i64 r1, .int .i64 r2, .int .i64 r3], .int .i64 s] w fun e w' => DirAns w 0 (putR l ⟨r0, r1, r2, r3⟩) e w' := by
  obtain ⟨W, hW⟩ : ∃ W, W = ((w.alloc (.cells #[v] 26)).alloc (.cells #[.string r0, .int .i64 r1, .int .i64 r2, .int .i64 r3] 28)).alloc (.cells #[.int .i64 0, .slice none 0 0] 32) := ⟨_, rfl⟩
  have HW : Hid (((w.alloc (.cells #[v] 26)).alloc (.cells #[.string r0, .int .i64 r1, .int .i64 r2, .int .i64 r3] 28)).alloc (.cells #[.int .i64 0, .slice none 0 0] 32) = W) := hW.symm
  have hB : Below w.heap.size w W := by rw [hW]; exact ((one_new _).alloc (one_new _).size _).alloc ((one_new _).alloc (one_new _).size _).size _
  have q2 : W.heap[w.heap.size + 1 + 1]? = some (.cells #[.int .i64 0, .slice none 0 0] 32) := by
    have h2 := heap_alloc_new ((w.alloc (.cells #[v] 26)).alloc (.cells #[.string r0, .int .i64 r1, .int .i64 r2, .int .i64 r3] 28)) (.cells #[.int .i64 0, .slice none 0 0] 32)
    simp only [World.size_alloc] at h2
    rw [hW]
    exact h2
  have q1 : W.heap[w.heap.size + 1]? = some (.cells #[.string r0, .int .i64 r1, .int .i64 r2, .int .i64 r3] 28) := by
    rw [hW]
    exact ((one_new _).block (w.heap.size + 1) (by simp)).trans (heap_new2 w _ _)
  have q0 : W.heap[w.heap.size]? = some (.cells #[v] 26) := by
    rw [hW]
    exact ((one_new _).block w.heap.size (by simp; omega)).trans (heap_alloc_old' _ _ _ (heap_alloc_new w _))
  have hO := fun w => implOwnerOf_any s w
  have hOr := fun v w hv => cmpOr3 (dirF l) (recC r0 r1 r2 r3) (owC s) v w hv
  have HVL : Hid (∀ w', Below w.heap.size w w' → Rcs w' v l) := fun w' h => hv.below h
  have hDF := fun w' h => implDirectoryFault_any v l w' (HVL.out w' h) hl (by omega)
  have hRF := fun w => implRecordFault_any r0 r1 r2 r3 w hrs
  unfold recV at hRF
  obtain ⟨a, c, rfl⟩ := hv.shape
  have hok := dirOk h0
  have hq : (if dirF l = 0 then (if recC r0 r1 r2 r3 = 0 then owC s else recC r0 r1 r2 r3) else dirF l) = 0 := by rw [if_pos h0, if_pos hr0, (ow_ok hs0).1]
  have hRO := fun w' h => recordsOf_any (.slice a l.length c) l w' (HVL.out w' h) hok
  have hrc : Rc.c ⟨r0, r1, r2, r3⟩ = 0 := hr0
  have hKy := fun w => recordKey_any r0 r1 r2 r3 w (Rc.labelP_of hrc)
  unfold recV at hKy
  have hkb := keyI_bd r0
  have hLk : ∀ w b n, MpAt w b n (mapTo l l.length) → (Instr.lookup 96 (.map (some b)) (.int .i64 (keyI r0)) true).run Try.prog w = .ok (.tuple #[valO (mapTo l l.length (keyI r0)), .bool (mapTo l l.length (keyI r0)).isSome]) w := fun w b n h => h.look hkb
  rw [lkO_map hok, ho] at hLk
  have HDK : Hid ((dropK l (keyI r0)).Nodup ∧ ∀ x, x ∈ dropK l (keyI r0) ↔ (if x = keyI r0 then none else mapTo l l.length x).isSome = true) := ⟨dropK_nodup hok _, dropK_mem hok _⟩
  have HUP : Hid ((fun y => if y = keyI r0 then some ⟨r0, r1, r2, r3⟩ else (fun z => if z = keyI r0 then none else mapTo l l.length z) y) = upG l ⟨r0, r1, r2, r3⟩) := upG_drop l ⟨r0, r1, r2, r3⟩
  have HPK : Hid (∀ ks : List Int, ks.Pairwise (· < ·) → (∀ x, x ∈ ks ↔ (upG l ⟨r0, r1, r2, r3⟩ x).isSome = true) → recsTo (upG l ⟨r0, r1, r2, r3⟩) ks ks.length = putR l ⟨r0, r1, r2, r3⟩) := fun ks h1 h2 => by
    unfold recsTo
    rw [List.take_length]
    exact put_keys hok ⟨r0, r1, r2, r3⟩ h1 h2
  have HGB : Hid (∀ x, (upG l ⟨r0, r1, r2, r3⟩ x).isSome = true → 0 ≤ x ∧ x < 256) := fun x hx => by
    obtain ⟨y, hy⟩ := Option.isSome_iff_exists.1 hx
    rw [← ((upG_mem hok).1 hy).2]
    exact y.kbd
  have hn12 : l.length ≤ 12 := hok.len
  have hOw := fun w => ownRecord_any r0 r1 r2 r3 w hrs
  rw [(ow_ok hs0).2] at hO
  have hFs := fun w => firstFault_any r0 r1 r2 r3 (ownL s) w
  rw [hfs] at hFs
  have hdl : (dropK l (keyI r0)).length < 12 := by rw [dropK_none hok ho]; exact hfull
  clear hrc
  generalize mapTo l l.length = g0 at *
  generalize keyI r0 = kz at *
  generalize dropK l kz = dk at *
  generalize ownL s = ow at *
  rw [hq] at hOr
  generalize dirF l = df at *
  generalize recC r0 r1 r2 r3 = rc at *
  generalize owC s = oc at *
  obtain ⟨n, hn⟩ : ∃ n, n = l.length := ⟨_, rfl⟩
  have HN : Hid (n = l.length) := hn
  rw [← hn] at HW HVL hDF q0 hRO hn12
  rw [← hn]
  clear hW hv hn hq h0 hr0 hs0 ho hok hfs hfull
  go_enter Try.func14, Try.ntmps14
  go_wp2_with fail
  rw [HW.out]
  refine (hO _).mono ?_
  rintro e w1 ⟨rfl, hb1⟩
  obtain ⟨W1, hW1⟩ : ∃ W1, W1 = w1.alloc (.cells #[.int .i64 oc, .int .i64 ow] 39) := ⟨_, rfl⟩
  have HW1 : Hid (w1.alloc (.cells #[.int .i64 oc, .int .i64 ow] 39) = W1) := hW1.symm
  have hb1' : Below W.heap.size W W1 := by rw [hW1]; exact hb1.alloc hb1.size _
  have p3 : W1.heap[w1.heap.size]? = some (.cells #[.int .i64 oc, .int .i64 ow] 39) := by rw [hW1]; exact heap_alloc_new w1 _
  have p2 := (hb1'.block _ (Array.getElem?_eq_some_iff.1 q2).1).trans q2
  have p1 := (hb1'.block _ (Array.getElem?_eq_some_iff.1 q1).1).trans q1
  have p0 := (hb1'.block _ (Array.getElem?_eq_some_iff.1 q0).1).trans q0
  have hB1 := below_after_of hB hb1'
  have hl0 := (Array.getElem?_eq_some_iff.1 p0).1
  have hl1 := (Array.getElem?_eq_some_iff.1 p1).1
  have hl2 := (Array.getElem?_eq_some_iff.1 p2).1
  have hl3 := (Array.getElem?_eq_some_iff.1 p3).1
  have hls : w.heap.size + 1 + 1 < w1.heap.size := Nat.lt_of_lt_of_le (Array.getElem?_eq_some_iff.1 q2).1 hb1.size
  have HD : Hid (∀ w', Below W1.heap.size W1 w' → w'.cell? ⟨w.heap.size, 0, none⟩ = some (.slice a n c)) := fun w' h => box1_cellA ((h.block _ hl0).trans p0)
  have HR : Hid (∀ w', Below W1.heap.size W1 w' → w'.cell? ⟨w.heap.size + 1, 0, none⟩ = some (.string r0) ∧ w'.cell? ⟨w.heap.size + 1, 1, none⟩ = some (.int .i64 r1) ∧ w'.cell? ⟨w.heap.size + 1, 2, none⟩ = some (.int .i64 r2) ∧ w'.cell? ⟨w.heap.size + 1, 3, none⟩ = some (.int .i64 r3)) := fun w' h => four_cellsV ((h.block _ hl1).trans p1)
  have HP : Hid (∀ w', Below W1.heap.size W1 w' → w'.heap[w.heap.size + 1 + 1]? = some (.cells #[.int .i64 0, .slice none 0 0] 32)) := fun w' h => (h.block _ hl2).trans p2
  have HO : Hid (∀ w', Below W1.heap.size W1 w' → w'.cell? ⟨w1.heap.size, 0, none⟩ = some (.int .i64 oc) ∧ w'.cell? ⟨w1.heap.size, 1, none⟩ = some (.int .i64 ow)) := fun w' h => ⟨(two_cells ((h.block _ hl3).trans p3)).1, (two_cells ((h.block _ hl3).trans p3)).2.1⟩
  have HDF : Hid (∀ w', Below W1.heap.size W1 w' → Calls Try.prog 16 #[.agg #[.slice a n c]] w' fun e w'' => e = .returned (.int .i64 df) ∧ Below w'.heap.size w' w'') := fun w' h => hDF w' (below_after_of hB1 h)
  have HBW : Hid (∀ w', Below W1.heap.size W1 w' → Below w.heap.size w w') := fun w' h => below_after_of hB1 h
  have HRO : Hid (∀ w', Below W1.heap.size W1 w' → Calls Try.prog 60 #[.agg #[.slice a n c]] w' fun e w'' => e = .returned (.map (some (w'.heap.size + 1))) ∧ Below w'.heap.size w' w'' ∧ MpAt w'' (w'.heap.size + 1) n g0) := fun w' h => hRO w' (below_after_of hB1 h)
  have hbr := Below.refl W1.heap.size W1
  have HCC : Hid (∀ w', Below W1.heap.size W1 w' → w'.cell? ⟨w.heap.size, 0, none⟩ = some (.slice a n c) ∧ w'.cell? ⟨w.heap.size + 1, 0, none⟩ = some (.string r0) ∧ w'.cell? ⟨w.heap.size + 1, 1, none⟩ = some (.int .i64 r1) ∧ w'.cell? ⟨w.heap.size + 1, 2, none⟩ = some (.int .i64 r2) ∧ w'.cell? ⟨w.heap.size + 1, 3, none⟩ = some (.int .i64 r3) ∧ w'.cell? ⟨w1.heap.size, 0, none⟩ = some (.int .i64 oc)) := fun w' h => ⟨HD.out _ h, (HR.out _ h).1, (HR.out _ h).2.1, (HR.out _ h).2.2.1, (HR.out _ h).2.2.2, (HO.out _ h).1⟩
  obtain ⟨d0, d1, d2, d3, d4, d5⟩ := HCC.out _ hbr
  clear hRO hO hb1 hb1' q0 q1 q2 p0 p1 p2 p3 hB hDF hW1 hB1
  go_wp2_with fail
  rw [HW1.out]
  go_region_held3 (fun w' => w'.cell? ⟨w.heap.size, 0, none⟩ = some (.slice a n c) ∧ w'.cell? ⟨w.heap.size + 1, 0, none⟩ = some (.string r0) ∧ w'.cell? ⟨w.heap.size + 1, 1, none⟩ = some (.int .i64 r1) ∧ w'.cell? ⟨w.heap.size + 1, 2, none⟩ = some (.int .i64 r2) ∧ w'.cell? ⟨w.heap.size + 1, 3, none⟩ = some (.int .i64 r3) ∧ w'.cell? ⟨w1.heap.size, 0, none⟩ = some (.int .i64 oc))
    (first | with_reducible exact ⟨d0, d1, d2, d3, d4, d5⟩ | with_reducible exact HCC.out _ hbr | with_reducible exact HCC.out _ hbr.drew | with_reducible exact HCC.out _ (hbr.alloc hbr.size _))
    (first
      | (go_at_call 16; refine (HDF.out _ (by first | exact hbr | exact hbr.drew)).mono ?_; rintro e w2 ⟨rfl, hb2⟩; have hbr : Below W1.heap.size W1 w2 := (by first | exact below_after_of hbr hb2 | exact below_after_of hbr.drew hb2))
      | (go_at_call 59; refine (hRF _).mono ?_; rintro e w3 ⟨rfl, hb3⟩; have hbr : Below W1.heap.size W1 w3 := (by first | exact below_after_of hbr hb3 | exact below_after_of hbr.drew hb3))
      | (go_at_call 58; refine (hOr _ _ (three_ints_at rfl)).mono ?_; rintro e w4 ⟨rfl, hw4⟩; have hbr : Below W1.heap.size W1 w4 := (by rw [hw4]; exact hbr.alloc hbr.size _); clear hw4))
  clear HDF hRF hOr HCC d0 d1 d2 d3 d4 d5
  obtain ⟨dn, hdk⟩ : ∃ dn, (dk.length : Int) = dn := ⟨_, rfl⟩
  have hd12 : (dn == 12) = false := by rw [← hdk]; simp; omega
  clear hdl
  clear hl
  have k2 := HD.out _ hbr
  go_wp2_with fail
  refine (HRO.out _ hbr).mono ?_
  rintro e w5 ⟨rfl, hb5, hM5⟩
  have hbr5 := below_after_of hbr hb5
  have hzM : W1.heap.size ≤ w4.heap.size + 1 := by have := hbr.size; omega
  generalize w4.heap.size + 1 = M at *
  obtain ⟨d0, d1, d2, d3⟩ := HR.out _ hbr5
  clear HRO hb5 k2 hbr HD
  go_wp2_with fail
  refine (hKy _).mono ?_
  rintro e w6 ⟨rfl, hb6⟩
  have hbr6 := below_after_of hbr5 hb6
  have hM6 := hM5.below hb6 hM5.lt
  have hlk := hLk _ _ _ hM6
  unfold valO at hlk
  dsimp only [Option.getD, Option.isSome, Rc.val, rcZ] at hlk
  have hbrA := hbr6.alloc hbr6.size (.cells #[.string ⟨#[]⟩, .int .i64 0, .int .i64 0, .int .i64 0] 28)
  have hMA := hM6.below (one_new (.cells #[.string ⟨#[]⟩, .int .i64 0, .int .i64 0, .int .i64 0] 28)) hM6.lt
  obtain ⟨d0, d1, d2, d3⟩ := HR.out _ hbrA
  obtain ⟨-, d4⟩ := HO.out _ hbrA
  obtain ⟨b0, b1, b2, b3⟩ := four_cellsV (heap_alloc_new w6 (.cells #[.string ⟨#[]⟩, .int .i64 0, .int .i64 0, .int .i64 0] 28))
  clear hKy hLk hbr5 hM5 hb6 hM6 HO
  go_wp2_with fail
  refine (hFs _).mono ?_
  rintro e w7 ⟨rfl, hb7⟩
  have hbr7 := below_after_of hbrA hb7
  have hM7 := hMA.below hb7 hMA.lt
  clear hFs hMA hb7 hlk b0 b1 b2 b3 d0 d1 d2 d3 d4 hbrA
  go_wp2_with (first | (at_delete; refine wpList_delete_mp rfl _ _ rfl M n g0 rfl hM7 kz hkb rfl ?_; intro w8 hM8 hg8; have hbr8 : Below W1.heap.size W1 w8 := hbr7.grown hg8 hbr7.size (fun j hj => by cases hj; exact hzM); obtain ⟨d0, d1, d2, d3⟩ := HR.out _ hbr8; obtain ⟨k0, k1, f0, f1⟩ := two_cells (HP.out _ hbr8); clear hg8 hbr7 hM7) | (at_len; refine wpList_len_mp rfl _ rfl M n (fun y => if y = kz then none else g0 y) rfl hM8 dk HDK.out.1 HDK.out.2 ?_; rw [hdk]))
  refine (hOw _).mono ?_
  rintro e w9 ⟨rfl, hb9⟩
  have hbr9 := below_after_of hbr8 hb9
  obtain ⟨w10, hrun10, hM10, hg10⟩ := (hM8.below hb9 hM8.lt).store (by unfold maxLen; omega : n < maxLen) hkb ⟨r0, r1, r2, r3⟩
  dsimp only [Rc.val] at hrun10
  have hbr10 : Below W1.heap.size W1 w10 := hbr9.grown hg10 hbr9.size (fun j hj => by cases hj; exact hzM)
  have hM11 : MpAt w10 M (n + 1) (upG l ⟨r0, r1, r2, r3⟩) := by rw [← HUP.out]; exact hM10
  have hDO := directoryOf_core M (n + 1) _ w10 hM11 (by omega) HGB.out
  clear hOw hb9 hM8 hbr8 hM10 hg10 hM11 d0 d1 d2 d3 hbr9 k0 k1 f0 f1
  go_wp2_with fail
  refine hDO.mono ?_
  rintro e w11 ⟨ks, u, rfl, hks, hkm, hb11, ho11⟩
  have hbr11 := below_after_of hbr10 hb11
  have hlk2 := HPK.out ks hks hkm
  have hll : ks.length = (putR l ⟨r0, r1, r2, r3⟩).length := by rw [← hlk2, recsTo_len _ (Nat.le_refl _)]
  rw [hlk2, hll] at ho11
  obtain ⟨a2, c2, rfl⟩ := own_shape ho11
  obtain ⟨k0, k1, f0, f1⟩ := two_cells (HP.out _ hbr11)
  have HBE : Hid (Below w.heap.size w w11) := HBW.out _ hbr11
  have HOE : Hid (w11.ownsRow w10.heap.size 28 4 (.slice a2 (putR l ⟨r0, r1, r2, r3⟩).length c2) (putR l ⟨r0, r1, r2, r3⟩).length (flR (putR l ⟨r0, r1, r2, r3⟩))) := ho11
  have hz10 : w.heap.size + 1 + 1 < w10.heap.size := Nat.lt_of_lt_of_le (by omega : w.heap.size + 1 + 1 < W1.heap.size) hbr10.size
  clear HP HBW hbr11 HR hDO ho11 hks hkm hlk2 hll hb11 HPK HGB HUP HDK hrun10
  go_wp2
  refine bodyPost_ret (v := .agg #[.int .i64 0, .slice a2 (putR l ⟨r0, r1, r2, r3⟩).length c2]) (by simp [results, Try.results14, go_sem, k0, k1]) rfl ⟨a2, c2, rfl, (HBE.out.setCell (by show w.heap.size ≤ w.heap.size + 1 + 1; omega) _).setCell (by show w.heap.size ≤ w.heap.size + 1 + 1; omega) _, ?_⟩
  exact own_mono (ownsRow_setCell_below (ownsRow_setCell_below HOE.out (by show w.heap.size + 1 + 1 < w10.heap.size; exact hz10) _) (by show w.heap.size + 1 + 1 < w10.heap.size; exact hz10) _) (by omega)
end U
end Go.Proofs.Ythmnjojjnlnbjaa

/- Updates, by the program, whole. -/
namespace Go.Proofs.Ythmnjojjnlnbjaa
open Go.RowKit Go.Maps
namespace U
/-- The fault of what is given. -/
def gvC (l : Rcl) (r : Rc) (s : Int) : Int := if dirF l = 0 then (if r.c = 0 then owC s else r.c) else dirF l
theorem gv_bad {l : Rcl} {r : Rc} {s : Int} (h : ¬ gvC l r s = 0) : upC l r s = gvC l r s ∧ upL l r s = [] := by
  have e : upC l r s = gvC l r s := by
    unfold upC gvC at *
    by_cases h0 : dirF l = 0
    · rw [if_pos h0] at h ⊢
      rw [if_pos h0]
      by_cases h1 : r.c = 0
      · rw [if_pos h1] at h ⊢
        rw [if_pos h1]
        unfold mayC owC at *
        rcases Bool.eq_false_or_eq_true (inB s 0 999) with hs | hs
        · rw [if_pos hs] at h; exact absurd rfl h
        · rw [if_neg (by rw [hs]; decide), if_neg (by rw [hs]; decide)]
      · rw [if_neg h1, if_neg h1]
    · rw [if_neg h0, if_neg h0]
  refine ⟨e, ?_⟩
  unfold upL
  rw [e, if_neg h]
theorem gv_ok {l : Rcl} {r : Rc} {s : Int} (h : gvC l r s = 0) : dirF l = 0 ∧ r.c = 0 ∧ inB s 0 999 = true ∧ upC l r s = mayO (lkO l r.k) (decide (12 ≤ l.length)) r (ownL s) := by
  unfold gvC at h
  by_cases h0 : dirF l = 0
  · rw [if_pos h0] at h
    by_cases h1 : r.c = 0
    · rw [if_pos h1] at h
      unfold owC at h
      rcases Bool.eq_false_or_eq_true (inB s 0 999) with hs | hs
      · refine ⟨h0, h1, hs, ?_⟩
        unfold upC mayC
        rw [if_pos h0, if_pos h1, if_pos hs]
      · rw [if_neg (by rw [hs]; decide)] at h; omega
    · rw [if_neg h1] at h; exact absurd h h1
  · rw [if_neg h0] at h; exact absurd h h0
theorem mayO_none (f : Bool) (r : Rc) (ow : Int) : mayO none f r ow = if fsC9 r ow = 0 then (if f = true then 11 else 0) else fsC9 r ow := by
  unfold mayO fsC9
  dsimp only
  by_cases h1 : r.v = 1
  · by_cases h2 : ow = r.o
    · simp [h1, h2]
    · simp [h1, h2]
  · simp [h1]
theorem implUpdateRecord_any (v : Value) (l : Rcl) (r0 : ByteArray) (r1 r2 r3 s : Int) (w : World) (hv : Rcs w v l) (hl : Lbs l) (hx : l.length ≤ 1048576) (hrs : r0.size ≤ 1048576) :
    Calls Try.prog 14 #[.agg #[v], .agg #[.string r0, .int .i64 r1, .int .i64 r2, .int .i64 r3], .int .i64 s] w fun e w' => DirAns w (upC l ⟨r0, r1, r2, r3⟩ s) (upL l ⟨r0, r1, r2, r3⟩ s) e w' := by
  by_cases hg : gvC l ⟨r0, r1, r2, r3⟩ s = 0
  · obtain ⟨h0, h1, hs, e⟩ := gv_ok hg
    rcases ho : lkO l (Rc.k ⟨r0, r1, r2, r3⟩) with _ | ⟨x0, x1, x2, x3⟩
    · rw [ho, mayO_none] at e
      by_cases hf : fsC9 ⟨r0, r1, r2, r3⟩ (ownL s) = 0
      · rw [if_pos hf] at e
        by_cases hn : 12 ≤ l.length
        · rw [if_pos (by simpa using hn)] at e
          have e2 : upL l ⟨r0, r1, r2, r3⟩ s = [] := by unfold upL; rw [e, if_neg (by decide)]
          rw [e, e2]
          exact implUpdate_fsfull v l r0 r1 r2 r3 s w hv hl hx hrs h0 h1 hs ho hf (by have := (dirOk h0).len; omega)
        · rw [if_neg (by simpa using hn)] at e
          have e2 : upL l ⟨r0, r1, r2, r3⟩ s = putR l ⟨r0, r1, r2, r3⟩ := by unfold upL; rw [e, if_pos rfl]
          rw [e, e2]
          exact implUpdate_fsok v l r0 r1 r2 r3 s w hv hl hx hrs h0 h1 hs ho hf (by omega)
      · rw [if_neg hf] at e
        have e2 : upL l ⟨r0, r1, r2, r3⟩ s = [] := by unfold upL; rw [e, if_neg hf]
        rw [e, e2]
        exact implUpdate_fsbad v l r0 r1 r2 r3 s w hv hl hx hrs h0 h1 hs _ ho rfl hf
    · rw [ho] at e
      have e1 : mayO (some ⟨x0, x1, x2, x3⟩) (decide (12 ≤ l.length)) ⟨r0, r1, r2, r3⟩ (ownL s) = nxC ⟨x0, x1, x2, x3⟩ ⟨r0, r1, r2, r3⟩ (ownL s) := rfl
      rw [e1] at e
      by_cases hf : nxC ⟨x0, x1, x2, x3⟩ ⟨r0, r1, r2, r3⟩ (ownL s) = 0
      · rw [hf] at e
        have e2 : upL l ⟨r0, r1, r2, r3⟩ s = putR l ⟨r0, r1, r2, r3⟩ := by unfold upL; rw [e, if_pos rfl]
        rw [e, e2]
        exact implUpdate_nxok v l r0 r1 r2 r3 s w hv hl hx hrs h0 h1 hs _ _ _ _ ho hf
      · have e2 : upL l ⟨r0, r1, r2, r3⟩ s = [] := by unfold upL; rw [e, if_neg hf]
        rw [e, e2]
        exact implUpdate_nxbad v l r0 r1 r2 r3 s w hv hl hx hrs h0 h1 hs _ _ _ _ _ ho rfl hf
  · obtain ⟨e1, e2⟩ := gv_bad hg
    rw [e1, e2]
    exact implUpdate_bad v l r0 r1 r2 r3 s w hv hl hx hrs _ rfl hg
end U
end Go.Proofs.Ythmnjojjnlnbjaa

/- Directories as the laws look at them: copied. -/
namespace Go.Proofs.Ythmnjojjnlnbjaa
open Go.RowKit
namespace U
theorem flR_set (l : Rcl) (r : Rc) : ∀ (k : Nat), k < l.length → flR (l.set k r) = ((((flR l).set (k * 4) (.string r.l)).set (k * 4 + 1) (.int .i64 r.v)).set (k * 4 + 2) (.int .i64 r.o)).set (k * 4 + 3) (.int .i64 r.p) := by
  induction l with
  | nil => intro k h; simp at h
  | cons x t ih =>
    intro k h
    have e : ∀ t : Rcl, ∀ x : Rc, flR (x :: t) = .string x.l :: .int .i64 x.v :: .int .i64 x.o :: .int .i64 x.p :: flR t := fun t x => rfl
    cases k with
    | zero => simp [e]
    | succ k =>
      have h1 := ih k (by simpa using h)
      rw [List.set_cons_succ, e, e, h1, show (k + 1) * 4 = k * 4 + 1 + 1 + 1 + 1 by omega]
      simp
/-- The first records, nothing behind them. -/
def rset (l : Rcl) (k : Nat) : Rcl := l.take k ++ List.replicate (l.length - k) rcZ
theorem rset_len (l : Rcl) {k : Nat} (h : k ≤ l.length) : (rset l k).length = l.length := by unfold rset; rw [List.length_append, List.length_take, List.length_replicate]; omega
theorem rset_all (l : Rcl) : rset l l.length = l := by unfold rset; simp
theorem rset_at (l : Rcl) {k : Nat} (h : k ≤ l.length) (i : Nat) : (rset l k)[i]? = if i < k then l[i]? else if i < l.length then some rcZ else none := by
  unfold rset
  rw [List.getElem?_append, List.length_take, List.getElem?_take, List.getElem?_replicate]
  by_cases h1 : i < k
  · rw [if_pos (by omega), if_pos h1]
    simp [h1]
  · rw [if_neg (by omega), if_neg h1]
    by_cases h2 : i < l.length
    · rw [if_pos h2, if_pos (by omega)]
    · rw [if_neg h2, if_neg (by omega)]
theorem rset_set (l : Rcl) {k : Nat} (h : k < l.length) : (rset l k).set k (rAt l k) = rset l (k + 1) := by
  apply List.ext_getElem?
  intro i
  rw [List.getElem?_set, rset_at l (by omega), rset_at l (by omega), rset_len l (by omega)]
  by_cases e : k = i
  · subst e
    rw [if_pos rfl, if_pos h, if_pos (by omega), rAt_eq h, List.getElem?_eq_getElem h]
  · rw [if_neg e]
    by_cases h1 : i < k
    · rw [if_pos h1, if_pos (by omega)]
    · have h2 : ¬ i < k + 1 := by omega
      rw [if_neg h1, if_neg h2]
theorem made_four (n : Nat) : (madeCells #[Value.string ⟨#[]⟩, Value.int .i64 0, Value.int .i64 0, Value.int .i64 0] (n * 4)).toList = flR (List.replicate n rcZ) := by
  apply List.ext_getElem?
  intro i
  by_cases hi : i < n * 4
  · have h4 := flR_at (List.replicate n rcZ) (i / 4) (by rw [List.length_replicate]; omega)
    have hz : rAt (List.replicate n rcZ) (i / 4) = rcZ := by rw [rAt_eq (by rw [List.length_replicate]; omega), List.getElem_replicate]
    rw [hz] at h4
    have hm : (madeCells #[Value.string ⟨#[]⟩, Value.int .i64 0, Value.int .i64 0, Value.int .i64 0] (n * 4)).toList[i]? = some (#[Value.string ⟨#[]⟩, Value.int .i64 0, Value.int .i64 0, Value.int .i64 0][i % 4]!) := by
      simp only [madeCells, Array.toList_map, List.getElem?_map]
      rw [show (Array.range (n * 4)).toList[i]? = some i by simp [hi]]
      rfl
    rw [hm]
    have hd : i = i / 4 * 4 + i % 4 := by omega
    rcases (by omega : i % 4 = 0 ∨ i % 4 = 1 ∨ i % 4 = 2 ∨ i % 4 = 3) with h | h | h | h
    · rw [h, Nat.add_zero] at hd
      rw [h, hd, h4.1]
      rfl
    · rw [h] at hd
      rw [h, hd, h4.2.1]
      rfl
    · rw [h] at hd
      rw [h, hd, h4.2.2.1]
      rfl
    · rw [h] at hd
      rw [h, hd, h4.2.2.2]
      rfl
  · rw [List.getElem?_eq_none (by simp [madeCells]; omega), List.getElem?_eq_none (by rw [flR_len, List.length_replicate]; omega)]
theorem made_rcs {w1 w : World} {n : Nat} {l : Rcl} (HN : n = l.length) (h : w1.ownsRow w.heap.size 28 4 (.slice (some ⟨w.heap.size, 0, none⟩) n n) n (madeCells #[Value.string ⟨#[]⟩, Value.int .i64 0, Value.int .i64 0, Value.int .i64 0] (n * 4)).toList) :
    w1.ownsRow w.heap.size 28 4 (.slice (some ⟨w.heap.size, 0, none⟩) n n) n (flR (rset l 0)) := by
  have e : rset l 0 = List.replicate n rcZ := by unfold rset; simp [HN]
  rw [e, ← made_four]
  exact h
theorem own_some4 {w : World} {B g n cap : Nat} {e : TypeId} {xs : List Value} (h : w.ownsRow B e 4 (.slice (some ⟨g, 0, none⟩) n cap) n xs) {j : Nat} (hj : j < n * 4) : ∃ x, w.cell? ⟨g, j, none⟩ = some x :=
  ⟨_, (h.cellAt j (by omega)).trans (List.getElem?_eq_getElem (by rw [h.1]; omega))⟩
set_option maxRecDepth 100000 in
set_option maxHeartbeats 4000000 in
theorem toRecordS_core (b off c n : Nat) (l : Rcl) (w : World) (HN : Hid (n = l.length)) (hx : n ≤ 1048576) (hb : b < w.heap.size) (hc : ∀ j, j < n → RecS w b (off + j * 4) (rAt l j)) :
    Calls Try.prog 82 #[.slice (some ⟨b, off, none⟩) n c] w fun e w' => e = .returned (.slice (some ⟨w.heap.size, 0, none⟩) n n) ∧ Below w.heap.size w w' ∧ w'.ownsRow w.heap.size 28 4 (.slice (some ⟨w.heap.size, 0, none⟩) n n) n (flR l) := by
  obtain ⟨i0, hi, hz0, hz1, hz2⟩ := info_parts Try.infoRc
  go_enter Try.func82, Try.ntmps82
  go_wp2_with (at_make; refine wpList_make_full _ rfl _ _ 24 rfl w.heap.size 28 i0 (.agg #[.string ⟨#[]⟩, .int .i64 0, .int .i64 0, .int .i64 0]) 4 Try.underlying24 hi hz0 hz1 _ _ _ _ n rfl rfl rfl rfl (by rw [hz2]; omega) (by unfold maxLen; omega) (Nat.le_refl _) ?_)
  intro w1 hown1 hg1
  have own1 := made_rcs HN.out hown1
  have hB1 : Below w.heap.size w w1 := (Below.refl _ _).grown hg1 (Nat.le_refl _) (fun k hk => by cases hk)
  clear hown1 hg1
  go_wp2
  go_loopw [4] (fun i wr => ∃ k : Nat, k ≤ n ∧ i = .int .i64 k ∧ Below w.heap.size w wr ∧ w.heap.size < wr.heap.size ∧ wr.ownsRow w.heap.size 28 4 (.slice (some ⟨w.heap.size, 0, none⟩) n n) n (flR (rset l k))) (fun i _ => n - (intOf i).toNat)
  case atStart => exact ⟨0, Nat.zero_le _, rfl, hB1, (own1.lt _ rfl).2, own1⟩
  case round =>
    obtain ⟨k, hk, rfl, hB, hsz, ho⟩ := hrel
    by_cases hkn : k < n
    · have hki : (k : Int) < (n : Int) := by omega
      obtain ⟨d0, d1, d2, d3⟩ := (hc k hkn).below hB hb
      have hbr : b < wr.heap.size := Nat.lt_of_lt_of_le hb hB.size
      have hlk : k < l.length := by have := HN.out; omega
      have hts : ((((flR (rset l k)).set (k * 4) (.string (rAt l k).l)).set (k * 4 + 1) (.int .i64 (rAt l k).v)).set (k * 4 + 2) (.int .i64 (rAt l k).o)).set (k * 4 + 3) (.int .i64 (rAt l k).p) = flR (rset l (k + 1)) := by
        rw [← flR_set _ _ k (by rw [rset_len l (by omega)]; exact hlk), rset_set l hlk]
      have hT := fun w => toRecord_any (rAt l k).l (rAt l k).v (rAt l k).o (rAt l k).p w
      unfold recV at hT
      generalize (rAt l k).l = x0 at *
      generalize (rAt l k).v = x1 at *
      generalize (rAt l k).o = x2 at *
      generalize (rAt l k).p = x3 at *
      have HT : Hid (((((flR (rset l k)).set (k * 4) (.string x0)).set (k * 4 + 1) (.int .i64 x1)).set (k * 4 + 2) (.int .i64 x2)).set (k * 4 + 3) (.int .i64 x3) = flR (rset l (k + 1))) := hts
      have HB : Hid (Below w.heap.size w wr) := hB
      have HO : Hid (wr.ownsRow w.heap.size 28 4 (.slice (some ⟨w.heap.size, 0, none⟩) n n) n (flR (rset l k))) := ho
      clear hc hts own1 hB1 ho hB
      go_wp2_with fail
      refine (hT _).mono ?_
      rintro e w2 ⟨rfl, hb2⟩
      have ho2 := own_below HO.out hb2
      have f0 := ho2.frozenAt (k * 4)
      have f1 := ho2.frozenAt (k * 4 + 1)
      have f2 := ho2.frozenAt (k * 4 + 2)
      have f3 := ho2.frozenAt (k * 4 + 3)
      obtain ⟨z0, g0⟩ := own_some4 ho2 (j := k * 4) (by omega)
      obtain ⟨z1, g1⟩ := own_some4 ho2 (j := k * 4 + 1) (by omega)
      obtain ⟨z2, g2⟩ := own_some4 ho2 (j := k * 4 + 2) (by omega)
      obtain ⟨z3, g3⟩ := own_some4 ho2 (j := k * 4 + 3) (by omega)
      have s1 := (ho2.stored (k * 4) (.string x0)).1
      have s2 := (s1.stored (k * 4 + 1) (.int .i64 x1)).1
      have s3 := (s2.stored (k * 4 + 2) (.int .i64 x2)).1
      have s4 := (s3.stored (k * 4 + 3) (.int .i64 x3)).1
      rw [HT.out] at s4
      have hB2 : Below w.heap.size w ((((w2.setCell ⟨w.heap.size, k * 4, none⟩ (.string x0)).setCell ⟨w.heap.size, k * 4 + 1, none⟩ (.int .i64 x1)).setCell ⟨w.heap.size, k * 4 + 2, none⟩ (.int .i64 x2)).setCell ⟨w.heap.size, k * 4 + 3, none⟩ (.int .i64 x3)) := ((((below_after_of HB.out hb2).setCell (Nat.le_refl _) _).setCell (Nat.le_refl _) _).setCell (Nat.le_refl _) _).setCell (Nat.le_refl _) _
      have hsz2 : w.heap.size < w2.heap.size := by have := hb2.size; omega
      have HB2 : Hid (Below w.heap.size w ((((w2.setCell ⟨w.heap.size, k * 4, none⟩ (.string x0)).setCell ⟨w.heap.size, k * 4 + 1, none⟩ (.int .i64 x1)).setCell ⟨w.heap.size, k * 4 + 2, none⟩ (.int .i64 x2)).setCell ⟨w.heap.size, k * 4 + 3, none⟩ (.int .i64 x3))) := hB2
      have HS2 : Hid (((((w2.setCell ⟨w.heap.size, k * 4, none⟩ (.string x0)).setCell ⟨w.heap.size, k * 4 + 1, none⟩ (.int .i64 x1)).setCell ⟨w.heap.size, k * 4 + 2, none⟩ (.int .i64 x2)).setCell ⟨w.heap.size, k * 4 + 3, none⟩ (.int .i64 x3)).ownsRow w.heap.size 28 4 (.slice (some ⟨w.heap.size, 0, none⟩) n n) n (flR (rset l (k + 1)))) := s4
      clear ho2 s1 s2 s3 s4 hB2 hb2 hT
      go_wp2
      go_roundw
      case rel => exact ⟨k + 1, by omega, by go_num, HB2.out, by simp; omega, HS2.out⟩
      case measure => simp [intOf]; omega
    · have hkn : k = n := by omega
      subst hkn
      have e1 : rset l k = l := by rw [HN.out]; exact rset_all _
      rw [e1] at ho
      go_wp2
      go_ret
      exact ⟨rfl, hB, ho⟩
set_option maxRecDepth 100000 in
set_option maxHeartbeats 1000000 in
theorem toRecordS_any (v : Value) (l : Rcl) (w : World) (hv : Rcs w v l) (hx : l.length ≤ 1048576) :
    Calls Try.prog 82 #[v] w fun e w' => ∃ a c, e = .returned (.slice a l.length c) ∧ Below w.heap.size w w' ∧ w'.ownsRow w.heap.size 28 4 (.slice a l.length c) l.length (flR l) := by
  obtain ⟨a, c, rfl⟩ := hv.shape
  by_cases h0 : 0 < l.length
  · obtain ⟨_, b, off, rfl, hb, hc⟩ := hv.at h0
    refine (toRecordS_core b off c l.length l w rfl hx hb hc).mono ?_
    rintro e w' ⟨rfl, hB, ho⟩
    exact ⟨_, _, rfl, hB, ho⟩
  · have e1 : l = [] := List.eq_nil_of_length_eq_zero (by omega)
    subst e1
    obtain ⟨i0, hi, hz0, hz1, hz2⟩ := info_parts Try.infoRc
    simp only [List.length_nil] at *
    clear hv h0
    go_enter Try.func82, Try.ntmps82
    go_wp2_with (at_make; refine wpList_make_full _ rfl _ _ 24 rfl w.heap.size 28 i0 (.agg #[.string ⟨#[]⟩, .int .i64 0, .int .i64 0, .int .i64 0]) 4 Try.underlying24 hi hz0 hz1 _ _ _ _ 0 rfl rfl rfl rfl (by rw [hz2]; omega) (by unfold maxLen; omega) (Nat.le_refl _) ?_)
    intro w1 hown1 hg1
    have hB1 : Below w.heap.size w w1 := (Below.refl _ _).grown hg1 (Nat.le_refl _) (fun k hk => by cases hk)
    have own1 := made_rcs (l := []) rfl hown1
    clear hown1 hg1
    go_wp2
    refine wp_loop_rounds 1 ?_; rw [rounds_succ]
    go_wp2
    go_ret
    exact ⟨_, _, rfl, hB1, own1⟩
set_option maxRecDepth 100000 in
set_option maxHeartbeats 1000000 in
theorem toDirectory_any (v : Value) (l : Rcl) (w : World) (hv : Rcs w v l) (hx : l.length ≤ 1048576) :
    Calls Try.prog 36 #[.agg #[v]] w fun e w' => ∃ a c, e = .returned (.agg #[.slice a l.length c]) ∧ Below w.heap.size w w' ∧ w'.ownsRow w.heap.size 28 4 (.slice a l.length c) l.length (flR l) := by
  obtain ⟨a, c, rfl⟩ := hv.shape
  obtain ⟨W, hW⟩ : ∃ W, W = ((w.alloc (.cells #[.slice a l.length c] 65)).alloc (.cells #[.slice none 0 0] 26)).alloc (.cells #[.slice none 0 0] 26) := ⟨_, rfl⟩
  have HW : Hid (((w.alloc (.cells #[.slice a l.length c] 65)).alloc (.cells #[.slice none 0 0] 26)).alloc (.cells #[.slice none 0 0] 26) = W) := hW.symm
  have hB : Below w.heap.size w W := by rw [hW]; exact ((one_new _).alloc (one_new _).size _).alloc ((one_new _).alloc (one_new _).size _).size _
  have HH : Hid (W.heap[w.heap.size + 1]? = some (.cells #[.slice none 0 0] 26) ∧ W.heap[w.heap.size + 1 + 1]? = some (.cells #[.slice none 0 0] 26)) := (by
    rw [hW]
    have h1 := heap_alloc_new (w.alloc (.cells #[.slice a l.length c] 65)) (.cells #[.slice none 0 0] 26)
    have h2 := heap_alloc_new ((w.alloc (.cells #[.slice a l.length c] 65)).alloc (.cells #[.slice none 0 0] 26)) (.cells #[.slice none 0 0] 26)
    simp only [World.size_alloc] at h1 h2
    exact ⟨((one_new _).block (w.heap.size + 1) (by simp)).trans h1, h2⟩ : _ ∧ _)
  have hT := toRecordS_any _ l W (hv.below hB) hx
  have hzW : w.heap.size + 1 + 1 < W.heap.size := (Array.getElem?_eq_some_iff.1 HH.out.2).1
  generalize l.length = n at *
  clear hW hv
  go_enter Try.func36, Try.ntmps36
  go_wp2_with fail
  rw [HW.out]
  refine hT.mono ?_
  rintro e w1 ⟨a1, c1, rfl, hb1, o1⟩
  have HO : Hid (w1.ownsRow W.heap.size 28 4 (.slice a1 n c1) n (flR l)) := o1
  have q1 := (hb1.block (w.heap.size + 1) (by omega)).trans HH.out.1
  have q2 := (hb1.block (w.heap.size + 1 + 1) hzW).trans HH.out.2
  have k1 : w1.cell? ⟨w.heap.size + 1, 0, none⟩ = some (.slice none 0 0) := by unfold World.cell?; rw [q1]; rfl
  have k2 : w1.cell? ⟨w.heap.size + 1 + 1, 0, none⟩ = some (.slice none 0 0) := by unfold World.cell?; rw [q2]; rfl
  have f1 : w1.frozen? ⟨w.heap.size + 1, 0, none⟩ = false := by unfold World.frozen?; rw [q1]; rfl
  have f2 : w1.frozen? ⟨w.heap.size + 1 + 1, 0, none⟩ = false := by unfold World.frozen?; rw [q2]; rfl
  have HB1 : Hid (Below w.heap.size w w1) := below_after_of hB hb1
  have hz1 : w.heap.size + 1 + 1 < w1.heap.size := Nat.lt_of_lt_of_le hzW hb1.size
  clear hT hb1 o1 q1 q2
  go_wp2
  refine bodyPost_ret (v := .agg #[.slice a1 n c1]) (by simp [results, Try.results36, go_sem, *]) rfl ⟨a1, c1, rfl, (HB1.out.setCell (by show w.heap.size ≤ w.heap.size + 1 + 1; omega) _).setCell (by show w.heap.size ≤ w.heap.size + 1; omega) _, ?_⟩
  exact own_mono (ownsRow_setCell_below (ownsRow_setCell_below HO.out (by show w.heap.size + 1 + 1 < W.heap.size; omega) _) (by show w.heap.size + 1 < W.heap.size; omega) _) hB.size
end U
end Go.Proofs.Ythmnjojjnlnbjaa

/- Directories as the laws look at them: compared. -/
namespace Go.Proofs.Ythmnjojjnlnbjaa
open Go.RowKit
namespace U
theorem one_cellV {w : World} {g : Nat} {x : Value} {t : TypeId} (h : w.heap[g]? = some (.cells #[x] t)) : w.cell? ⟨g, 0, none⟩ = some x := by unfold World.cell?; rw [h]; rfl
set_option maxRecDepth 100000 in
set_option maxHeartbeats 4000000 in
theorem eqRecordS_core (b off c b' off' c' n : Nat) (l : Rcl) (w : World) (hx : n ≤ 1048576) (hb : b < w.heap.size) (hb' : b' < w.heap.size) (hc : ∀ j, j < n → RecS w b (off + j * 4) (rAt l j)) (hc' : ∀ j, j < n → RecS w b' (off' + j * 4) (rAt l j)) :
    Calls Try.prog 83 #[.slice (some ⟨b, off, none⟩) n c, .slice (some ⟨b', off', none⟩) n c'] w fun e w' => e = .returned (.bool true) ∧ Below w.heap.size w w' := by
  have hnn := hne_all
  go_enter Try.func83, Try.ntmps83
  go_wp2
  go_loopw [5] (fun i wr => ∃ k : Nat, k ≤ n ∧ i = .int .i64 k ∧ Hid (Below w.heap.size w wr)) (fun i _ => n - (intOf i).toNat)
  case atStart => exact ⟨0, Nat.zero_le _, rfl, Below.refl _ _⟩
  case round =>
    obtain ⟨k, hk, rfl, hB⟩ := hrel
    by_cases hkn : k < n
    · have hki : (k : Int) < (n : Int) := by omega
      obtain ⟨d0, d1, d2, d3⟩ := (hc k hkn).below hB.out hb
      obtain ⟨d0', d1', d2', d3'⟩ := (hc' k hkn).below hB.out hb'
      have hE := fun w => eqRecord_same (rAt l k).l (rAt l k).v (rAt l k).o (rAt l k).p w
      unfold recV at hE
      generalize (rAt l k).l = x0 at *
      generalize (rAt l k).v = x1 at *
      generalize (rAt l k).o = x2 at *
      generalize (rAt l k).p = x3 at *
      have q0 := After.cell d0
      have q1 := After.cell d1
      have q2 := After.cell d2
      have q3 := After.cell d3
      have p0 := After.cell d0'
      have p1 := After.cell d1'
      have p2 := After.cell d2'
      have p3 := After.cell d3'
      have hne := After.ne wr
      clear hc hc' d0 d1 d2 d3 d0' d1' d2' d3'
      go_wp2_with fail
      refine wp_region_after (by kernel_rfl) (by kernel_rfl) ?_
      repeat (first | go_big_quiet_skip | (go_big_quiet_want; go_big_quiet_op; first | go_big_quiet_on | go_big_quiet_call (first | (go_at_call 85; refine (hE _).mono ?_; rintro e wq ⟨rfl, hbq⟩; exact ⟨rfl, after_mk (below_after_of (After.b _) hbq)⟩))))
      refine wpQuiet_nil ?_
      rintro _ ⟨n6, rfl⟩
      have HB6 : Hid (Below w.heap.size w n6.w) := below_after_of hB.out n6.b
      generalize n6.w = w6 at *
      clear hne q0 q1 q2 q3 p0 p1 p2 p3 n6 hE
      go_wp2
      go_roundw
      case rel => exact ⟨k + 1, by omega, by go_num, HB6⟩
      case measure => simp [intOf]; omega
    · have hkn : k = n := by omega
      subst hkn
      clear hc hc'
      go_wp2
      go_ret
      exact ⟨rfl, hB.out⟩
set_option maxRecDepth 100000 in
set_option maxHeartbeats 1000000 in
theorem eqRecordS_same (v u : Value) (l : Rcl) (w : World) (hv : Rcs w v l) (hu : Rcs w u l) (hx : l.length ≤ 1048576) :
    Calls Try.prog 83 #[v, u] w fun e w' => e = .returned (.bool true) ∧ Below w.heap.size w w' := by
  obtain ⟨a, c, rfl⟩ := hv.shape
  obtain ⟨a', c', rfl⟩ := hu.shape
  by_cases h0 : 0 < l.length
  · obtain ⟨_, b, off, rfl, hb, hc⟩ := hv.at h0
    obtain ⟨_, b', off', rfl, hb', hc'⟩ := hu.at h0
    exact eqRecordS_core b off c b' off' c' l.length l w hx hb hb' hc hc'
  · have e1 : l = [] := List.eq_nil_of_length_eq_zero (by omega)
    subst e1
    simp only [List.length_nil] at *
    clear hv hu h0
    go_enter Try.func83, Try.ntmps83
    go_wp2
    refine wp_loop_rounds 1 ?_; rw [rounds_succ]
    go_wp2
    go_ret
    exact ⟨rfl, Below.refl _ _⟩
set_option maxRecDepth 100000 in
set_option maxHeartbeats 1000000 in
theorem eqDirectory_same (v u : Value) (l : Rcl) (w : World) (hv : Rcs w v l) (hu : Rcs w u l) (hx : l.length ≤ 1048576) :
    Calls Try.prog 37 #[.agg #[v], .agg #[u]] w fun e w' => e = .returned (.bool true) ∧ Below w.heap.size w w' := by
  have hE := fun o o' => eqRecordS_same v u l ((w.alloc o).alloc o') (hv.below (two_new _ _)) (hu.below (two_new _ _)) hx
  obtain ⟨a, c, rfl⟩ := hv.shape
  obtain ⟨a', c', rfl⟩ := hu.shape
  generalize l.length = n at *
  clear hv hu
  go_enter Try.func37, Try.ntmps37
  go_wp2_with fail
  refine (hE _ _).mono ?_
  rintro e w1 ⟨rfl, hb1⟩
  clear hE
  go_wp2
  go_ret
  exact ⟨rfl, below_after (below_after hb1)⟩
end U
end Go.Proofs.Ythmnjojjnlnbjaa

/- Marks in a directory's records, and how they are looked at anew. -/
namespace Go.Proofs.Ythmnjojjnlnbjaa
open Go.RowKit
namespace U
def digB (d : Nat) : ByteArray := ⟨#[UInt8.ofNat (48 + d)]⟩
theorem bt_digB {d : Nat} (h : d < 10) : bt (digB d) 0 = ((48 + d : Nat) : Int) := by
  rcases (by omega : d = 0 ∨ d = 1 ∨ d = 2 ∨ d = 3 ∨ d = 4 ∨ d = 5 ∨ d = 6 ∨ d = 7 ∨ d = 8 ∨ d = 9) with rfl | rfl | rfl | rfl | rfl | rfl | rfl | rfl | rfl | rfl <;> rfl
def mtL : Nat → Nat → ByteArray → ByteArray
  | 0, _, out => out
  | f + 1, k, out => if k = 0 then out else mtL f (k / 10) (digB (k % 10) ++ out)
theorem mtL_zero (f : Nat) (out : ByteArray) : mtL f 0 out = out := by cases f <;> rfl
theorem mtL_st : ∀ (f g k : Nat) (out : ByteArray), k ≤ f → k ≤ g → mtL f k out = mtL g k out
  | 0, g, k, out, h, _ => by
    have e : k = 0 := by omega
    subst e
    rw [mtL_zero, mtL_zero]
  | f + 1, g, k, out, h1, h2 => by
    by_cases e : k = 0
    · subst e; rw [mtL_zero, mtL_zero]
    · obtain ⟨g', rfl⟩ : ∃ g', g = g' + 1 := ⟨g - 1, by omega⟩
      rw [mtL, mtL, if_neg e, if_neg e]
      exact mtL_st f g' (k / 10) _ (by omega) (by omega)
theorem mtL_step {k : Nat} {out : ByteArray} (h : ¬ k = 0) : mtL k k out = mtL (k / 10) (k / 10) (digB (k % 10) ++ out) := by
  obtain ⟨f, hf⟩ : ∃ f, k = f + 1 := ⟨k - 1, by omega⟩
  have e : mtL (f + 1) k out = mtL f (k / 10) (digB (k % 10) ++ out) := by rw [mtL, if_neg h]
  rw [← hf] at e
  rw [e]
  exact mtL_st _ _ _ _ (by omega) (Nat.le_refl _)
/-- The mark of a number, as a text. -/
def mkT (k : Nat) : ByteArray := ⟨#[109]⟩ ++ mtL k k ⟨#[]⟩
theorem conv_dig (w : World) (d : Nat) (h : d < 10) : (convert 22 9 (.slice (some ⟨w.heap.size, 0, none⟩) 1 1)).run Try.prog (w.alloc (.cells #[.int .u8 (48 + (d : Int))] 5)) = .ok (.string (digB d)) (w.alloc (.cells #[.int .u8 (48 + (d : Int))] 5)) := by
  refine conv_back (P := Try.prog) _ 22 9 5 w.heap.size 0 1 (digB d) Try.underlying22 Try.underlying5 Try.underlying9 (fun j hj => ?_)
  have hj1 : j < 1 := hj
  obtain rfl : j = 0 := by omega
  rw [bt_digB h, show ((48 + d : Nat) : Int) = 48 + (d : Int) by omega]
  unfold World.cell?
  rw [heap_alloc_new]
  rfl
set_option maxRecDepth 100000 in
set_option maxHeartbeats 1000000 in
theorem markText_any (k : Nat) (w : World) (h0 : 0 < k) (hk : k ≤ 1099511627776) : Calls Try.prog 120 #[.int .i64 (k : Int)] w fun e w' => e = .returned (.string (mkT k)) ∧ Below w.heap.size w w' := by
  obtain ⟨T, hT⟩ : ∃ T, T = mtL k k ⟨#[]⟩ := ⟨_, rfl⟩
  have HT : Hid (mtL k k ⟨#[]⟩ = T) := hT.symm
  unfold mkT
  rw [← hT]
  have hn : ¬ ((k : Int) ≤ 0) := by omega
  clear hT
  go_enter Try.func120, Try.ntmps120
  go_wp2
  go_loopw [0, 3] (fun a u wr => ∃ (j : Nat) (out : ByteArray), out.size + j ≤ k ∧ a = .int .i64 (j : Int) ∧ u = .string out ∧ Hid (mtL j j out = T) ∧ Hid (Below w.heap.size w wr)) (fun a _ _ => (intOf a).toNat)
  case atStart => exact ⟨k, ⟨#[]⟩, by show 0 + k ≤ k; omega, rfl, rfl, HT, Below.refl _ _⟩
  case round =>
    obtain ⟨j, out, hj, rfl, rfl, HM, hB⟩ := hrel
    by_cases hj0 : j = 0
    · subst hj0
      have e : Hid (out = T) := (by rw [← HM.out]; rfl : out = T)
      have hso : ¬ 9223372036854775807 < (⟨#[109]⟩ : ByteArray).size + out.size := by show ¬ 9223372036854775807 < 1 + out.size; omega
      have hso2 : ¬ 9223372036854775807 < 1 + out.size := by omega
      go_wp2
      go_ret
      exact ⟨by rw [e.out]; rfl, hB.out⟩
    · have hjp : ((j : Int) > 0) := by omega
      have HM2 : Hid (mtL (j / 10) (j / 10) (digB (j % 10) ++ out) = T) := (by rw [← mtL_step hj0]; exact HM.out : mtL (j / 10) (j / 10) (digB (j % 10) ++ out) = T)
      have hr : (j : Int).tmod 10 = ((j % 10 : Nat) : Int) := by rw [Int.tmod_eq_emod_of_nonneg (by omega)]; rfl
      have hq : (j : Int).tdiv 10 = ((j / 10 : Nat) : Int) := by rw [Int.tdiv_eq_ediv_of_nonneg (by omega)]; rfl
      have hd := fun w => conv_dig w (j % 10) (by omega)
      have hd10 : j % 10 < 10 := by omega
      have hq10 : j / 10 < j := by omega
      generalize j % 10 = d at *
      generalize j / 10 = q at *
      have hsd : (digB d).size = 1 := rfl
      have hso : ¬ 9223372036854775807 < (digB d).size + out.size := by rw [hsd]; omega
      have hsz : (digB d ++ out).size + q ≤ k := by rw [ByteArray.size_append, hsd]; omega
      have HZ : Hid ((digB d ++ out).size + q ≤ k) := hsz
      clear hsd hsz
      go_wp2
      go_roundw
      case rel => exact ⟨q, _, HZ.out, rfl, rfl, HM2, hB.out.alloc hB.out.size _⟩
      case measure => simp [intOf]; omega
end U
end Go.Proofs.Ythmnjojjnlnbjaa

/- A directory's records, marked, and looked at anew. -/
namespace Go.Proofs.Ythmnjojjnlnbjaa
open Go.RowKit
namespace U
theorem grown_of_below {w w' : World} {N : Nat} (h : Below N w w') (hN : w.heap.size ≤ N) (row : Option Nat) : w.grownBy w' row := ⟨h.os, h.tape, h.output, h.size, fun i hi _ => h.block i (Nat.lt_of_lt_of_le hi hN)⟩
/-- A record of marks. -/
def mkR1 (k : Nat) : Rc := ⟨mkT k, ((k + 1 : Nat) : Int), ((k + 2 : Nat) : Int), ((k + 3 : Nat) : Int)⟩
def mkR (k n : Nat) : Rcl := (List.range n).map fun j => mkR1 (k + j * 4)
theorem mkR_len (k n : Nat) : (mkR k n).length = n := by simp [mkR]
theorem mkR_at (k n j : Nat) (h : j < n) : rAt (mkR k n) j = mkR1 (k + j * 4) := by
  rw [rAt_eq (by rw [mkR_len]; exact h)]
  simp [mkR]
/-- The first records marked. -/
def mkd (l : Rcl) (k0 : Nat) (k : Nat) : Rcl := mkR k0 k ++ l.drop k
theorem mkd_len (l : Rcl) (k0 : Nat) {k : Nat} (h : k ≤ l.length) : (mkd l k0 k).length = l.length := by unfold mkd; rw [List.length_append, mkR_len, List.length_drop]; omega
theorem mkd_zero (l : Rcl) (k0 : Nat) : mkd l k0 0 = l := by unfold mkd; simp [mkR]
theorem mkd_all (l : Rcl) (k0 : Nat) : mkd l k0 l.length = mkR k0 l.length := by unfold mkd; simp
theorem mkd_set (l : Rcl) (k0 : Nat) {k : Nat} (h : k < l.length) : (mkd l k0 k).set k (mkR1 (k0 + k * 4)) = mkd l k0 (k + 1) := by
  have h1 : mkR k0 (k + 1) = mkR k0 k ++ [mkR1 (k0 + k * 4)] := by unfold mkR; rw [List.range_succ, List.map_append]; rfl
  unfold mkd
  rw [h1, List.set_append_right _ _ (by rw [mkR_len]; exact Nat.le_refl _), mkR_len, Nat.sub_self, List.append_assoc]
  congr 1
  rw [List.drop_eq_getElem_cons h]
  rfl
set_option maxRecDepth 100000 in
set_option maxHeartbeats 4000000 in
theorem markRecordS_any (B : Nat) (v : Value) (l : Rcl) (k0 : Nat) (w : World) (hown : w.ownsRow B 28 4 v l.length (flR l)) (hx : l.length ≤ 1048576) (hk0 : 0 < k0 ∧ k0 ≤ 1048576) :
    Calls Try.prog 86 #[v, .int .i64 k0] w fun e w' => e = .returned (.int .i64 ((k0 + l.length * 4 : Nat) : Int)) ∧ w.grownBy w' v.ownBlock ∧ w'.ownsRow B 28 4 v l.length (flR (mkR k0 l.length)) := by
  by_cases h0 : l.length = 0
  · have e1 : l = [] := List.eq_nil_of_length_eq_zero h0
    subst e1
    obtain ⟨a, c, rfl⟩ : ∃ a c, v = .slice a 0 c := by
      rcases hown.2 with ⟨rfl, hn⟩ | ⟨g, cap, cur, rfl, _⟩
      · exact ⟨none, 0, rfl⟩
      · exact ⟨_, _, rfl⟩
    simp only [List.length_nil] at *
    go_enter Try.func86, Try.ntmps86
    go_wp2
    refine wp_loop_rounds 1 ?_; rw [rounds_succ]
    go_wp2
    go_ret
    exact ⟨rfl, World.grownBy.refl _ _, hown⟩
  · rcases hown.2 with ⟨_, h⟩ | ⟨g, cap, cur, rfl, hB, hg, _⟩
    · exact absurd h h0
    have hgs : g < w.heap.size := (Array.getElem?_eq_some_iff.1 hg).1
    clear hg hB
    obtain ⟨n, hn⟩ : ∃ n, n = l.length := ⟨_, rfl⟩
    have HN : Hid (n = l.length) := hn
    rw [← hn] at hown hx h0 ⊢
    have HA : Hid (mkd l k0 n = mkR k0 n) := (by rw [hn]; exact mkd_all l k0 : mkd l k0 n = mkR k0 n)
    clear hn h0
    go_enter Try.func86, Try.ntmps86
    go_wp2
    go_loopw [1, 5] (fun k i wr => ∃ j : Nat, j ≤ n ∧ i = .int .i64 j ∧ k = .int .i64 ((k0 + j * 4 : Nat) : Int) ∧ Hid (w.grownBy wr (some g)) ∧ Hid (wr.ownsRow B 28 4 (.slice (some ⟨g, 0, none⟩) n cap) n (flR (mkd l k0 j)))) (fun _ i _ => n - (intOf i).toNat)
    case atStart => exact ⟨0, Nat.zero_le _, rfl, by simp, World.grownBy.refl _ _, by rw [mkd_zero]; exact hown⟩
    case round =>
      obtain ⟨j, hj, rfl, rfl, hgr, ho⟩ := hrel
      by_cases hjn : j < n
      · have hji : (j : Int) < (n : Int) := by omega
        have hM := fun w => markText_any (k0 + j * 4) w (by omega) (by omega)
        have hts : ((((flR (mkd l k0 j)).set (j * 4) (.string (mkT (k0 + j * 4)))).set (j * 4 + 1) (.int .i64 ((k0 + j * 4 + 1 : Nat) : Int))).set (j * 4 + 2) (.int .i64 ((k0 + j * 4 + 2 : Nat) : Int))).set (j * 4 + 3) (.int .i64 ((k0 + j * 4 + 3 : Nat) : Int)) = flR (mkd l k0 (j + 1)) := by
          have := HN.out
          rw [← mkd_set l k0 (by omega), flR_set _ _ j (by rw [mkd_len l k0 (by omega)]; omega)]
          rfl
        have HQ : Hid (k0 + (j + 1) * 4 = k0 + j * 4 + 4) := (by omega : k0 + (j + 1) * 4 = k0 + j * 4 + 4)
        generalize mkT (k0 + j * 4) = t at *
        have hqb : k0 + j * 4 ≤ 8388608 := by omega
        generalize k0 + j * 4 = q at *
        have HT : Hid (((((flR (mkd l k0 j)).set (j * 4) (.string t)).set (j * 4 + 1) (.int .i64 ((q : Int) + 1))).set (j * 4 + 2) (.int .i64 ((q : Int) + 1 + 1))).set (j * 4 + 3) (.int .i64 ((q : Int) + 1 + 1 + 1)) = flR (mkd l k0 (j + 1))) := hts
        have hgw : g < wr.heap.size := Nat.lt_of_lt_of_le hgs hgr.out.size
        clear hts hown
        go_wp2_with fail
        refine (hM _).mono ?_
        rintro e w2 ⟨rfl, hb2⟩
        have ho2 := own_below ho.out hb2
        have f0 := ho2.frozenAt (j * 4)
        have f1 := ho2.frozenAt (j * 4 + 1)
        have f2 := ho2.frozenAt (j * 4 + 2)
        have f3 := ho2.frozenAt (j * 4 + 3)
        obtain ⟨z0, g0⟩ := own_some4 ho2 (j := j * 4) (by omega)
        obtain ⟨z1, g1⟩ := own_some4 ho2 (j := j * 4 + 1) (by omega)
        obtain ⟨z2, g2⟩ := own_some4 ho2 (j := j * 4 + 2) (by omega)
        obtain ⟨z3, g3⟩ := own_some4 ho2 (j := j * 4 + 3) (by omega)
        obtain ⟨s1, r1⟩ := ho2.stored (j * 4) (.string t)
        obtain ⟨s2, r2⟩ := s1.stored (j * 4 + 1) (.int .i64 ((q : Int) + 1))
        obtain ⟨s3, r3⟩ := s2.stored (j * 4 + 2) (.int .i64 ((q : Int) + 1 + 1))
        obtain ⟨s4, r4⟩ := s3.stored (j * 4 + 3) (.int .i64 ((q : Int) + 1 + 1 + 1))
        have s5 := grown_trans (grown_trans (grown_trans (grown_trans (grown_trans hgr.out (grown_of_below hb2 (Nat.le_refl _) _)) r1) r2) r3) r4
        rw [HT.out] at s4
        have HS4 : Hid (((((w2.setCell ⟨g, j * 4, none⟩ (.string t)).setCell ⟨g, j * 4 + 1, none⟩ (.int .i64 ((q : Int) + 1))).setCell ⟨g, j * 4 + 2, none⟩ (.int .i64 ((q : Int) + 1 + 1))).setCell ⟨g, j * 4 + 3, none⟩ (.int .i64 ((q : Int) + 1 + 1 + 1))).ownsRow B 28 4 (.slice (some ⟨g, 0, none⟩) n cap) n (flR (mkd l k0 (j + 1)))) := s4
        have HS5 : Hid (w.grownBy ((((w2.setCell ⟨g, j * 4, none⟩ (.string t)).setCell ⟨g, j * 4 + 1, none⟩ (.int .i64 ((q : Int) + 1))).setCell ⟨g, j * 4 + 2, none⟩ (.int .i64 ((q : Int) + 1 + 1))).setCell ⟨g, j * 4 + 3, none⟩ (.int .i64 ((q : Int) + 1 + 1 + 1))) (some g)) := s5
        have hg2 : g < w2.heap.size := Nat.lt_of_lt_of_le hgw hb2.size
        clear ho2 s1 s2 s3 s4 s5 r1 r2 r3 r4 hb2 hM
        go_wp2
        go_roundw
        case rel => exact ⟨j + 1, by omega, by go_num, by rw [HQ.out]; congr 1, HS5, HS4⟩
        case measure => simp [intOf]; omega
      · have hjn : j = n := by omega
        subst hjn
        rw [HA.out] at ho
        go_wp2
        go_ret
        exact ⟨rfl, hgr.out, ho.out⟩
set_option maxRecDepth 100000 in
set_option maxHeartbeats 4000000 in
theorem heldRecordS_any (v : Value) (n k0 : Nat) (w : World) (hv : Rcs w v (mkR k0 n)) (hx : n ≤ 1048576) (hk0 : 0 < k0 ∧ k0 ≤ 1048576) :
    Calls Try.prog 121 #[v, .int .i64 k0] w fun e w' => e = .returned (.int .i64 ((k0 + n * 4 : Nat) : Int)) ∧ Below w.heap.size w w' := by
  obtain ⟨a, c, rfl⟩ := hv.shape
  by_cases h0 : n = 0
  · subst h0
    simp only [mkR_len]
    clear hv
    go_enter Try.func121, Try.ntmps121
    go_wp2
    refine wp_loop_rounds 1 ?_; rw [rounds_succ]
    go_wp2
    go_ret
    exact ⟨rfl, Below.refl _ _⟩
  · obtain ⟨_, b, off, rfl, hb, hc⟩ := hv.at (by rw [mkR_len]; omega)
    have HC : Hid (∀ j, j < n → RecS w b (off + j * 4) (mkR1 (k0 + j * 4))) := fun j hj => by
      have h1 := hc j (by rw [mkR_len]; exact hj)
      rw [mkR_at _ _ _ hj] at h1
      exact h1
    rw [mkR_len]
    clear hv hc h0
    go_enter Try.func121, Try.ntmps121
    go_wp2
    go_loopw [1, 5] (fun k i wr => ∃ j : Nat, j ≤ n ∧ i = .int .i64 j ∧ k = .int .i64 ((k0 + j * 4 : Nat) : Int) ∧ Hid (Below w.heap.size w wr)) (fun _ i _ => n - (intOf i).toNat)
    case atStart => exact ⟨0, Nat.zero_le _, rfl, by simp, Below.refl _ _⟩
    case round =>
      obtain ⟨j, hj, rfl, rfl, hB⟩ := hrel
      by_cases hjn : j < n
      · have hji : (j : Int) < (n : Int) := by omega
        have hr := HC.out j hjn
        have hM := fun w => markText_any (k0 + j * 4) w (by omega) (by omega)
        have HR : Hid (∀ w', Below w.heap.size w w' → w'.cell? ⟨b, off + j * 4, none⟩ = some (.string (mkT (k0 + j * 4))) ∧ w'.cell? ⟨b, off + j * 4 + 1, none⟩ = some (.int .i64 (((k0 + j * 4 : Nat) : Int) + 1)) ∧ w'.cell? ⟨b, off + j * 4 + 2, none⟩ = some (.int .i64 (((k0 + j * 4 : Nat) : Int) + 1 + 1)) ∧ w'.cell? ⟨b, off + j * 4 + 3, none⟩ = some (.int .i64 (((k0 + j * 4 : Nat) : Int) + 1 + 1 + 1))) := fun w' h => ⟨(hr.below h hb).c0, (hr.below h hb).c1, (hr.below h hb).c2, (hr.below h hb).c3⟩
        have HQ : Hid (((k0 + j * 4 : Nat) : Int) + 1 + 1 + 1 + 1 = ((k0 + (j + 1) * 4 : Nat) : Int)) := (by omega : ((k0 + j * 4 : Nat) : Int) + 1 + 1 + 1 + 1 = ((k0 + (j + 1) * 4 : Nat) : Int))
        have hqb : k0 + j * 4 ≤ 8388608 := by omega
        generalize mkT (k0 + j * 4) = t at *
        generalize k0 + j * 4 = q at *
        obtain ⟨d0, -, -, -⟩ := HR.out _ hB.out
        have q0 := After.cell d0
        have hne := After.ne wr
        have htt : (t.toList == t.toList) = true := by simp
        have hbw : b < wr.heap.size := Nat.lt_of_lt_of_le hb hB.out.size
        clear hr d0
        go_wp2_with fail
        refine wp_region_after (by kernel_rfl) (by kernel_rfl) ?_
        repeat (first | go_big_quiet_skip | (go_big_quiet_want; go_big_quiet_op; first | go_big_quiet_on | go_big_quiet_call (first | (go_at_call 120; refine (hM _).mono ?_; rintro e wq ⟨rfl, hbq⟩; exact ⟨rfl, after_mk (below_after_of (After.b _) hbq)⟩))))
        refine wpQuiet_nil ?_
        rintro _ ⟨n6, rfl⟩
        have HB6 : Hid (Below w.heap.size w n6.w) := below_after_of hB.out n6.b
        generalize n6.w = w6 at *
        obtain ⟨d0, d1, d2, d3⟩ := HR.out _ HB6.out
        have hnn := hne_all
        clear hne q0 n6 hM HR
        go_wp2
        go_roundw
        case rel => exact ⟨j + 1, by omega, by go_num, by rw [← HQ.out], HB6⟩
        case measure => simp [intOf]; omega
      · have hjn : j = n := by omega
        subst hjn
        go_wp2
        go_ret
        exact ⟨rfl, hB.out⟩
set_option maxRecDepth 100000 in
set_option maxHeartbeats 1000000 in
theorem markDirectory_any (B : Nat) (v : Value) (l : Rcl) (k0 : Nat) (w : World) (hown : w.ownsRow B 28 4 v l.length (flR l)) (hx : l.length ≤ 1048576) (hk0 : 0 < k0 ∧ k0 ≤ 1048576) :
    Calls Try.prog 44 #[.agg #[v], .int .i64 k0] w fun e w' => e = .returned (.int .i64 ((k0 + l.length * 4 : Nat) : Int)) ∧ w.grownBy w' v.ownBlock ∧ w'.ownsRow B 28 4 v l.length (flR (mkR k0 l.length)) := by
  have hM := fun o => markRecordS_any B v l k0 _ (hown.alloc o) hx hk0
  obtain ⟨a, c', rfl⟩ : ∃ a c, v = .slice a l.length c := by
    rcases hown.2 with ⟨rfl, hn⟩ | ⟨g, cap, cur, rfl, _⟩
    · exact ⟨none, 0, by rw [hn]⟩
    · exact ⟨_, _, rfl⟩
  generalize l.length = n at *
  clear hown
  go_enter Try.func44, Try.ntmps44
  go_wp2_with fail
  refine (hM _).mono ?_
  rintro e w1 ⟨rfl, hg, ho⟩
  have HH : Hid (w.grownBy w1 (Value.slice a n c').ownBlock ∧ w1.ownsRow B 28 4 (.slice a n c') n (flR (mkR k0 n))) := ⟨grown_trans (World.grownBy_alloc _ _ _) hg, ho⟩
  clear hM hg ho
  go_wp2
  go_ret
  exact ⟨rfl, HH.out⟩
/-- A box of one cell. -/
def One (w : World) (b : Nat) (x : Value) : Prop := b < w.heap.size ∧ w.cell? ⟨b, 0, none⟩ = some x
theorem One.below {w w' : World} {b : Nat} {x : Value} (h : One w b x) (hb : Below w.heap.size w w') : One w' b x := ⟨Nat.lt_of_lt_of_le h.1 hb.size, (hb.cell (p := ⟨b, 0, none⟩) h.1).trans h.2⟩
theorem One.grown {w w' : World} {b : Nat} {x : Value} {row : Option Nat} (h : One w b x) (hg : w.grownBy w' row) (hne : some b ≠ row) : One w' b x := ⟨Nat.lt_of_lt_of_le h.1 hg.size, hg.cell h.2 hne⟩
theorem One.new (w : World) (x : Value) (t : TypeId) : One (w.alloc (.cells #[x] t)) w.heap.size x := ⟨by simp, one_cellV (heap_alloc_new w _)⟩
end U
end Go.Proofs.Ythmnjojjnlnbjaa

/- A code and a directory: compared, marked, looked at anew. -/
namespace Go.Proofs.Ythmnjojjnlnbjaa
open Go.RowKit
namespace U
set_option maxRecDepth 100000 in
set_option maxHeartbeats 1000000 in
theorem eqDirectoryResult_same (q : Int) (v u : Value) (l : Rcl) (w : World) (hv : Rcs w v l) (hu : Rcs w u l) (hx : l.length ≤ 1048576) :
    Calls Try.prog 43 #[.agg #[.int .i64 q, v], .agg #[.int .i64 q, u]] w fun e w' => e = .returned (.bool true) ∧ Below w.heap.size w w' := by
  have hE := fun o o' => eqDirectory_same v u l ((w.alloc o).alloc o') (hv.below (two_new o o')) (hu.below (two_new o o')) hx
  obtain ⟨a, c', rfl⟩ := hv.shape
  obtain ⟨a', d', rfl⟩ := hu.shape
  generalize l.length = n at *
  clear hv hu
  go_enter Try.func43, Try.ntmps43
  go_wp2_with fail
  refine (hE _ _).mono ?_
  rintro e w1 ⟨rfl, hb1⟩
  clear hE
  go_wp2
  go_ret
  exact ⟨rfl, below_after_of (two_new _ _) hb1⟩
set_option maxRecDepth 100000 in
set_option maxHeartbeats 1000000 in
theorem markDirectoryResult_any (B : Nat) (q : Int) (v : Value) (l : Rcl) (k0 : Nat) (w : World) (hown : w.ownsRow B 28 4 v l.length (flR l)) (hx : l.length ≤ 1048576) (hk0 : 0 < k0 ∧ k0 ≤ 1048576) :
    Calls Try.prog 45 #[.agg #[.int .i64 q, v], .int .i64 k0] w fun e w' => e = .returned (.int .i64 ((k0 + l.length * 4 : Nat) : Int)) ∧ w.grownBy w' v.ownBlock ∧ w'.ownsRow B 28 4 v l.length (flR (mkR k0 l.length)) := by
  have hM := fun o => markDirectory_any B v l k0 _ (hown.alloc o) hx hk0
  obtain ⟨a, c', rfl⟩ := own_shape hown
  generalize l.length = n at *
  clear hown
  go_enter Try.func45, Try.ntmps45
  go_wp2_with fail
  refine (hM _).mono ?_
  rintro e w1 ⟨rfl, hg, ho⟩
  have HH : Hid (w.grownBy w1 (Value.slice a n c').ownBlock ∧ w1.ownsRow B 28 4 (.slice a n c') n (flR (mkR k0 n))) := ⟨grown_trans (World.grownBy_alloc _ _ _) hg, ho⟩
  clear hM hg ho
  go_wp2
  go_ret
  exact ⟨rfl, HH.out⟩
set_option maxRecDepth 100000 in
set_option maxHeartbeats 1000000 in
theorem heldDirectory_any (v : Value) (n k0 : Nat) (w : World) (hv : Rcs w v (mkR k0 n)) (hx : n ≤ 1048576) (hk0 : 0 < k0 ∧ k0 ≤ 1048576) :
    Calls Try.prog 87 #[.agg #[v], .int .i64 k0] w fun e w' => e = .returned (.int .i64 ((k0 + n * 4 : Nat) : Int)) ∧ Below w.heap.size w w' := by
  have hH := fun o => heldRecordS_any v n k0 _ (hv.below (one_new o)) hx hk0
  obtain ⟨a, c', rfl⟩ := hv.shape
  rw [mkR_len] at *
  have hs : ¬ ((k0 + n * 4 : Nat) : Int) < 0 := by omega
  generalize ((k0 + n * 4 : Nat) : Int) = z at *
  clear hv
  go_enter Try.func87, Try.ntmps87
  go_wp2_with fail
  refine (hH _).mono ?_
  rintro e w1 ⟨rfl, hb1⟩
  clear hH
  go_wp2
  go_ret
  exact ⟨rfl, below_after hb1⟩
set_option maxRecDepth 100000 in
set_option maxHeartbeats 1000000 in
theorem heldDirectoryResult_any (q : Int) (v : Value) (n k0 : Nat) (w : World) (hv : Rcs w v (mkR k0 n)) (hx : n ≤ 1048576) (hk0 : 0 < k0 ∧ k0 ≤ 1048576) :
    Calls Try.prog 46 #[.agg #[.int .i64 q, v], .int .i64 k0] w fun e w' => e = .returned (.int .i64 ((k0 + n * 4 : Nat) : Int)) ∧ Below w.heap.size w w' := by
  have hH := fun o => heldDirectory_any v n k0 _ (hv.below (one_new o)) hx hk0
  obtain ⟨a, c', rfl⟩ := hv.shape
  rw [mkR_len] at *
  have hs : ¬ ((k0 + n * 4 : Nat) : Int) < 0 := by omega
  generalize ((k0 + n * 4 : Nat) : Int) = z at *
  clear hv
  go_enter Try.func46, Try.ntmps46
  go_wp2_with fail
  refine (hH _).mono ?_
  rintro e w1 ⟨rfl, hb1⟩
  clear hH
  go_wp2
  go_ret
  exact ⟨rfl, below_after hb1⟩
end U
end Go.Proofs.Ythmnjojjnlnbjaa

/- The law on UpdateRecord, walked: true, and nothing that was there has turned. -/
namespace Go.Proofs.Ythmnjojjnlnbjaa
open Go.RowKit
namespace U
theorem upL_len (l : Rcl) (r : Rc) (s : Int) : (upL l r s).length ≤ 13 := by
  unfold upL
  by_cases h : upC l r s = 0
  · rw [if_pos h]
    have h0 : dirF l = 0 := by
      unfold upC at h
      by_cases h0 : dirF l = 0
      · exact h0
      · rw [if_neg h0] at h; exact h
    have h1 := (dirOk h0).len
    have h2 := putR_len (dirOk h0) r
    omega
  · rw [if_neg h]; simp
/-- The two boxes of the arguments. -/
def DR (w : World) (b : Nat) (v : Value) (r0 : ByteArray) (r1 r2 r3 : Int) : Prop :=
  b + 1 < w.heap.size ∧ w.cell? ⟨b, 0, none⟩ = some v ∧ w.cell? ⟨b + 1, 0, none⟩ = some (.string r0) ∧ w.cell? ⟨b + 1, 1, none⟩ = some (.int .i64 r1) ∧ w.cell? ⟨b + 1, 2, none⟩ = some (.int .i64 r2) ∧ w.cell? ⟨b + 1, 3, none⟩ = some (.int .i64 r3)
theorem DR.below {w w' : World} {b : Nat} {v : Value} {r0 : ByteArray} {r1 r2 r3 : Int} (h : DR w b v r0 r1 r2 r3) (hb : Below w.heap.size w w') : DR w' b v r0 r1 r2 r3 := by
  obtain ⟨h0, h1, h2, h3, h4, h5⟩ := h
  have hl : b < w.heap.size := by omega
  exact ⟨Nat.lt_of_lt_of_le h0 hb.size, (hb.cell (p := ⟨b, 0, none⟩) hl).trans h1, (hb.cell (p := ⟨b + 1, 0, none⟩) h0).trans h2, (hb.cell (p := ⟨b + 1, 1, none⟩) h0).trans h3, (hb.cell (p := ⟨b + 1, 2, none⟩) h0).trans h4, (hb.cell (p := ⟨b + 1, 3, none⟩) h0).trans h5⟩
theorem DR.grown {w w' : World} {b : Nat} {v : Value} {r0 : ByteArray} {r1 r2 r3 : Int} {row : Option Nat} (h : DR w b v r0 r1 r2 r3) (hg : w.grownBy w' row) (hne : ∀ j, row = some j → b + 1 < j) : DR w' b v r0 r1 r2 r3 := by
  obtain ⟨h0, h1, h2, h3, h4, h5⟩ := h
  have n0 : some b ≠ row := fun e => by have := hne b e.symm; omega
  have n1 : some (b + 1) ≠ row := fun e => by have := hne (b + 1) e.symm; omega
  exact ⟨Nat.lt_of_lt_of_le h0 hg.size, hg.cell h1 n0, hg.cell h2 n1, hg.cell h3 n1, hg.cell h4 n1, hg.cell h5 n1⟩
theorem DR.new (w : World) (v : Value) (r0 : ByteArray) (r1 r2 r3 : Int) (t t' : TypeId) : DR ((w.alloc (.cells #[v] t)).alloc (.cells #[.string r0, .int .i64 r1, .int .i64 r2, .int .i64 r3] t')) w.heap.size v r0 r1 r2 r3 :=
  ⟨by simp, one_cellV (heap_alloc_old' _ _ _ (heap_alloc_new w _)), four_cellsV (heap_new2 w _ _)⟩
/-- An answer that lies in a block that may be written. -/
structure PrD (w : World) (g : Nat) (x y : Value) : Prop where
  c0 : w.cell? ⟨g, 0, none⟩ = some x
  c1 : w.cell? ⟨g, 1, none⟩ = some y
  f0 : w.frozen? ⟨g, 0, none⟩ = false
  f1 : w.frozen? ⟨g, 1, none⟩ = false
  lt : g < w.heap.size
theorem PrD.new (w : World) : PrD (w.alloc (.cells #[.int .i64 0, .slice none 0 0] 32)) w.heap.size (.int .i64 0) (.slice none 0 0) := by
  have h := two_cells (heap_alloc_new w (.cells #[.int .i64 0, .slice none 0 0] 32))
  exact ⟨h.1, h.2.1, h.2.2.1, h.2.2.2, by simp⟩
theorem PrD.below {w w' : World} {g : Nat} {x y : Value} (h : PrD w g x y) (hb : Below w.heap.size w w') : PrD w' g x y :=
  ⟨(hb.cell (p := ⟨g, 0, none⟩) h.lt).trans h.c0, (hb.cell (p := ⟨g, 1, none⟩) h.lt).trans h.c1, (hb.frozen (p := ⟨g, 0, none⟩) h.lt).trans h.f0, (hb.frozen (p := ⟨g, 1, none⟩) h.lt).trans h.f1, Nat.lt_of_lt_of_le h.lt hb.size⟩
theorem PrD.drew {w : World} {g : Nat} {x y : Value} (h : PrD w g x y) : PrD w.drew g x y := h.below (Below.refl _ _).drew
theorem PrD.set {w : World} {g : Nat} {x y x' y' : Value} (h : PrD w g x y) : Pair ((w.setCell ⟨g, 0, none⟩ x').setCell ⟨g, 1, none⟩ y') g x' y' := by
  refine ⟨by simpa using h.lt, ?_, ?_⟩
  · exact (World.cell?_setCell_other _ _ _ _ (by simp)).trans (World.cell?_setCell_same _ _ _ h.c0)
  · exact World.cell?_setCell_same _ _ _ ((World.cell?_setCell_other _ _ _ _ (by simp)).trans h.c1)
set_option maxRecDepth 100000 in
set_option maxHeartbeats 8000000 in
theorem fnExactUpdateRecord_walk (v : Value) (l : Rcl) (r0 : ByteArray) (r1 r2 r3 s : Int) (w : World) (hv : Rcs w v l) (hl : l.length ≤ maxLen) (hM : LbM l) (hs : r0.size ≤ maxLen) :
    Calls Try.prog 8 #[.agg #[v], .agg #[.string r0, .int .i64 r1, .int .i64 r2, .int .i64 r3], .int .i64 s] w fun e w' => e = .returned (.bool true) ∧ Below w.heap.size w w' := by
  have hZ := szDirectory_any v l 1048576 ((w.alloc (.cells #[v] 65)).alloc (.cells #[.string r0, .int .i64 r1, .int .i64 r2, .int .i64 r3] 73)) (hv.below (two_new _ _)) hM hl (by omega)
  have hok := fun h => szR_ok (l := l) (z := 1048576) (by omega) h
  have O0 := DR.new w v r0 r1 r2 r3 65 73
  obtain ⟨a, c, rfl⟩ := hv.shape
  generalize szR l 1048576 = z at *
  by_cases h : z < 0
  · generalize l.length = n at *
    clear hv hok hM O0
    go_enter Try.func8, Try.ntmps8
    go_wp2_with fail
    refine hZ.mono ?_
    rintro e w1 ⟨rfl, hb1⟩
    clear hZ
    go_wp2
    go_ret
    exact ⟨rfl, below_after (below_after hb1)⟩
  · obtain ⟨hx, hL, hz, -⟩ := hok h
    have hZR := fun w => szRecord_gen r0 r1 r2 r3 z w hs (by omega)
    unfold recV at hZR
    by_cases h2 : z - (r0.size : Int) < 0
    · rw [if_pos h2] at hZR
      generalize l.length = n at *
      clear hv hok hM hL
      go_enter Try.func8, Try.ntmps8
      go_wp2_with fail
      refine hZ.mono ?_
      rintro e w1 ⟨rfl, hb1⟩
      obtain ⟨-, -, d1, d2, d3, d4⟩ := O0.below hb1
      have hB1 := below_after (below_after hb1)
      clear hZ hb1 O0
      go_wp2_with fail
      refine (hZR _).mono ?_
      rintro e w2 ⟨rfl, hb2⟩
      have hB2 := below_after_of hB1 hb2
      clear hZR hb2
      go_wp2
      go_ret
      exact ⟨rfl, hB2⟩
    rw [if_neg h2] at hZR
    have hrs : r0.size ≤ 1048576 := by omega
    have hT := fun w' hb => toDirectory_any _ l w' (hv.below (w' := w') hb) hx
    have hTR := fun w => toRecord_any r0 r1 r2 r3 w
    unfold recV at hTR
    have hS := fun u w' hu => specUpdateRecord_any u l r0 r1 r2 r3 s w' hu hL hx hrs
    have hI := fun u w' hu => implUpdateRecord_any u l r0 r1 r2 r3 s w' hu hL hx hrs
    unfold DirAns at hS hI
    have hE := fun u v w' hu hv => eqDirectory_same u v l w' hu hv hx
    have hMk := fun B v k0 w h hk => markDirectory_any B v l k0 w h hx hk
    have hyl := upL_len l ⟨r0, r1, r2, r3⟩ s
    generalize upC l ⟨r0, r1, r2, r3⟩ s = code at *
    generalize upL l ⟨r0, r1, r2, r3⟩ s = ys at *
    generalize hze : z - (r0.size : Int) = z2 at *
    obtain ⟨n, hn⟩ : ∃ n, n = l.length := ⟨_, rfl⟩
    rw [← hn] at hZ hT hl hx O0 hMk ⊢
    clear hn hv hok hM hL hze hz
    have hkn : decide (((1 + n * 4 : Nat) : Int) < 0) = false := by simp; omega
    have hln : decide (((1 + ys.length * 4 : Nat) : Int) < 0) = false := by simp; omega
    go_enter Try.func8, Try.ntmps8
    go_wp2_with fail
    refine hZ.mono ?_
    rintro e w0 ⟨rfl, hb0⟩
    have O1 := O0.below hb0
    have hB0 := below_after (below_after hb0)
    obtain ⟨-, -, d1, d2, d3, d4⟩ := O1
    have O1 := O0.below hb0
    clear hZ hb0 O0
    go_wp2_with fail
    refine (hZR _).mono ?_
    rintro e w1 ⟨rfl, hb1⟩
    have O1 := O1.below hb1
    have hB1 := below_after_of hB0 hb1
    have HA1 : Hid (∀ w', Below w1.heap.size w1 w' → w'.cell? ⟨w.heap.size, 0, none⟩ = some (.slice a n c) ∧ w'.cell? ⟨w.heap.size + 1, 0, none⟩ = some (.string r0) ∧ w'.cell? ⟨w.heap.size + 1, 1, none⟩ = some (.int .i64 r1) ∧ w'.cell? ⟨w.heap.size + 1, 2, none⟩ = some (.int .i64 r2) ∧ w'.cell? ⟨w.heap.size + 1, 3, none⟩ = some (.int .i64 r3)) := fun w' h => (O1.below h).2
    have hl1 : w.heap.size + 1 < w1.heap.size := O1.1
    have hl1' : w.heap.size < w1.heap.size := by omega
    have hbr := Below.refl w1.heap.size w1
    obtain ⟨d0, d1, d2, d3, d4⟩ := HA1.out _ hbr
    have HT1 : Hid (∀ w', Below w1.heap.size w1 w' → Calls Try.prog 36 #[.agg #[.slice a n c]] w' fun e w'' => ∃ a c, e = .returned (.agg #[.slice a n c]) ∧ Below w'.heap.size w' w'' ∧ w''.ownsRow w'.heap.size 28 4 (.slice a n c) n (flR l)) := fun w' h => hT w' (below_after_of hB1 h)
    clear hZR hb1 hB0
    clear HT1 hbr d0 d1 d2 d3 d4 hl1'
    go_wp2_with fail
    have q0 : ∀ w', Below w1.heap.size w1 w' → w'.cell? ⟨w.heap.size, 0, none⟩ = some (.slice a n c) := fun w' h => (HA1.out w' h).1
    have q1 : ∀ w', Below w1.heap.size w1 w' → w'.cell? ⟨w.heap.size + 1, 0, none⟩ = some (.string r0) := fun w' h => (HA1.out w' h).2.1
    have q2 : ∀ w', Below w1.heap.size w1 w' → w'.cell? ⟨w.heap.size + 1, 1, none⟩ = some (.int .i64 r1) := fun w' h => (HA1.out w' h).2.2.1
    have q3 : ∀ w', Below w1.heap.size w1 w' → w'.cell? ⟨w.heap.size + 1, 2, none⟩ = some (.int .i64 r2) := fun w' h => (HA1.out w' h).2.2.2.1
    have q4 : ∀ w', Below w1.heap.size w1 w' → w'.cell? ⟨w.heap.size + 1, 3, none⟩ = some (.int .i64 r3) := fun w' h => (HA1.out w' h).2.2.2.2
    have HBW : Hid (Below w.heap.size w w1) := hB1
    refine Code.wp_mono (Q := fun e a' w' => e = Exit.normal ∧ ∃ (g : Nat) (a1 : Option Addr) (c1 : Nat) (a2 : Option Addr) (c2 : Nat), a' = { tmps := #[.agg #[.slice a n c], .agg #[.string r0, .int .i64 r1, .int .i64 r2, .int .i64 r3], .int .i64 s, .pointer (some ⟨w.heap.size, 0, none⟩), .pointer (some ⟨w.heap.size + 1, 0, none⟩), undef, .bool false, .int .i64 z2, .pointer (some ⟨g, 0, none⟩), undef, undef, undef, undef, undef, undef, .agg #[.slice a n c], .int .i64 1048576, .int .i64 z, .int .i64 z, .bool (decide (z < 0)), .agg #[.string r0, .int .i64 r1, .int .i64 r2, .int .i64 r3], .int .i64 z, .int .i64 z2, .int .i64 z2, .bool (decide (z2 < 0)), .agg #[.slice a n c], .agg #[.slice a1 n c1], .agg #[.string r0, .int .i64 r1, .int .i64 r2, .int .i64 r3], .agg #[.string r0, .int .i64 r1, .int .i64 r2, .int .i64 r3], .int .i64 s, .agg #[.int .i64 code, .slice a2 ys.length c2], undef, undef, undef, undef, undef, undef, undef, undef, undef, undef, undef, undef, undef, undef, undef, undef, undef, undef, undef, undef, undef, undef, undef, undef, undef, undef, undef, undef, undef, undef, undef, undef, undef, undef, undef, undef, undef, undef, undef, undef, undef, undef, undef, undef, undef, undef, undef, undef, undef, undef, undef, undef, undef, undef, undef, undef], defers := [] } ∧ Pair w' g (.int .i64 code) (.slice a2 ys.length c2) ∧ w'.ownsRow w1.heap.size 28 4 (.slice a2 ys.length c2) ys.length (flR ys) ∧ (∀ k, (Value.slice a2 ys.length c2).ownBlock = some k → k ≠ g) ∧ w1.heap.size ≤ g ∧ Below w1.heap.size w1 w') ?tail ?reg
    case reg =>
      refine wp_region_held_drew (S := fun w' => Below w1.heap.size w1 w') (by kernel_rfl) ((Below.refl _ _).drew) (fun hHeld => ?_)
      refine h_take (i := 0) (d := some 25) (v := ?vr1) (by rfl) (by kernel_rfl) (by kernel_rfl) (by kernel_rfl) (fun _ _ _ h => (by cases h.1)) (by rfl) ?hyr1 hHeld ?restr1
      case hyr1 =>
        intro o ho
        simp only [List.getElem?_toArray, List.getElem?_cons_zero, Option.some.injEq] at ho
        subst ho
        intro w' hSw
        first | (go_simp; done) | (go_simp; with_reducible rfl)
      try simp only [Act.put, List.setIfInBounds_toArray, List.set_cons_zero, List.set_cons_succ]
      refine h_take (i := 2) (d := some 27) (v := ?vr2) (by rfl) (by kernel_rfl) (by kernel_rfl) (by kernel_rfl) (fun _ _ _ h => (by cases h.1)) (by rfl) ?hyr2 hHeld ?restr2
      case hyr2 =>
        intro o ho
        simp only [List.getElem?_toArray, List.getElem?_cons_succ, List.getElem?_cons_zero, Option.some.injEq] at ho
        subst ho
        intro w' hSw
        first | (go_simp; done) | (go_simp; with_reducible rfl)
      try simp only [Act.put, List.setIfInBounds_toArray, List.set_cons_zero, List.set_cons_succ]
      refine h_take (i := 4) (d := some 29) (v := ?vr3) (by rfl) (by kernel_rfl) (by kernel_rfl) (by kernel_rfl) (fun _ _ _ h => (by cases h.1)) (by rfl) ?hyr3 hHeld ?restr3
      case hyr3 =>
        intro o ho
        simp only [List.getElem?_toArray, List.getElem?_cons_succ, List.getElem?_cons_zero, Option.some.injEq] at ho
        subst ho
        intro w' hSw
        first | (go_simp; done) | (go_simp; with_reducible rfl)
      try simp only [Act.put, List.setIfInBounds_toArray, List.set_cons_zero, List.set_cons_succ]
      refine wpAnyH_ready (rs := [1, 6]) (by kernel_rfl) (by simp) ?_
      refine AllReadyH.cons rfl (fun K hK => ?_) (AllReadyH.cons rfl (fun K hK => ?_) AllReadyH.nil)
      · go_simp
        refine (hT _ (below_after_of HBW.out hHeld)).mono ?_
        rintro e wq ⟨a1, c1, rfl, hbq, o1⟩
        have hq := below_after_of hHeld hbq
        try (have G := G.below hbq)
        refine hK.out _ _ ?_ (fun hHeld => ?_)
        · exact hq
        clear hK K
        try simp only [Act.put, List.setIfInBounds_toArray, List.set_cons_zero, List.set_cons_succ]
        refine wpAnyH_ready (rs := [3, 6]) (by kernel_rfl) (by simp) ?_
        refine AllReadyH.cons rfl (fun K hK => ?_) (AllReadyH.cons rfl (fun K hK => ?_) AllReadyH.nil)
        · go_simp
          refine (hTR _).mono ?_
          rintro e wq ⟨rfl, hbq⟩
          have hq := below_after_of hHeld hbq
          try (have G := G.below hbq)
          have o1 := own_below o1 hbq
          refine hK.out _ _ ?_ (fun hHeld => ?_)
          · exact hq
          clear hK K
          try simp only [Act.put, List.setIfInBounds_toArray, List.set_cons_zero, List.set_cons_succ]
          refine wpAnyH_ready (rs := [5, 6]) (by kernel_rfl) (by simp) ?_
          refine AllReadyH.cons rfl (fun K hK => ?_) (AllReadyH.cons rfl (fun K hK => ?_) AllReadyH.nil)
          · go_simp
            have hm2 := hHeld.size
            try (have hg2 := G.lt)
            refine (hS _ _ (own_rcs' o1)).mono ?_
            rintro e wq ⟨a2, c2, rfl, hbq, own2⟩
            have hL2 := fun k hk => own2.lt k hk
            have hq := below_after_of hHeld hbq
            try (have G := G.below hbq)
            refine hK.out _ _ ?_ (fun hHeld => ?_)
            · exact hq
            clear hK K
            try simp only [Act.put, List.setIfInBounds_toArray, List.set_cons_zero, List.set_cons_succ]
            refine wpAnyH_ready (rs := [6]) (by kernel_rfl) (by simp) ?_
            refine AllReadyH.cons rfl (fun K hK => ?_) AllReadyH.nil
            · go_simp
              first | (have G := PrD.new wq; have hgg := hq.size) | (have G := (PrD.new w1).drew; have hgg := Nat.le_refl w1.heap.size)
              try (have I3 := own2)
              try (have o1 := own_below o1 (one_new (.cells #[.int .i64 0, .slice none 0 0] 32)))
              refine hK.out _ _ ?_ (fun hHeld => ?_)
              · exact below_after_of hHeld (one_new _)
              clear hK K
              try simp only [Act.put, List.setIfInBounds_toArray, List.set_cons_zero, List.set_cons_succ]
              have ⟨x0, x1, u0, u1, hgl⟩ := G
              refine wpAnyH_ready (rs := [7]) (by kernel_rfl) (by simp) ?_
              refine AllReadyH.cons rfl (fun K hK => ?_) AllReadyH.nil
              go_simp
              refine hK.out _ _ ?_ (fun hHeld => ?_)
              · first | exact (hHeld.setCell (by exact hgg) _).setCell (by exact hgg) _ | exact below_after_of hq (one_new _)
              clear hK K
              try simp only [Act.put, List.setIfInBounds_toArray, List.set_cons_zero, List.set_cons_succ]
              refine wpAnyH_done (by kernel_rfl) ?_ _
              refine ⟨rfl, _, a1, c1, a2, c2, rfl, ?_, ?_, ?_, hgg, hHeld⟩
              · first | exact PrD.set G | exact Pair.new _ _ _ _
              · first | exact own_mono (ownsRow_setCell_below (ownsRow_setCell_below own2 hg2 _) hg2 _) hm2 | exact own_mono (own_below I3 (one_new _)) hm2
              · intro k hk; have := hL2 k hk; first | omega | (simp at *; omega)
          · go_simp
            first | (have G := PrD.new wq; have hgg := hq.size) | (have G := (PrD.new w1).drew; have hgg := Nat.le_refl w1.heap.size)
            try (have I3 := own2)
            try (have o1 := own_below o1 (one_new (.cells #[.int .i64 0, .slice none 0 0] 32)))
            refine hK.out _ _ ?_ (fun hHeld => ?_)
            · exact below_after_of hHeld (one_new _)
            clear hK K
            try simp only [Act.put, List.setIfInBounds_toArray, List.set_cons_zero, List.set_cons_succ]
            refine wpAnyH_ready (rs := [5]) (by kernel_rfl) (by simp) ?_
            refine AllReadyH.cons rfl (fun K hK => ?_) AllReadyH.nil
            · go_simp
              have hm2 := hHeld.size
              try (have hg2 := G.lt)
              refine (hS _ _ (own_rcs' o1)).mono ?_
              rintro e wq ⟨a2, c2, rfl, hbq, own2⟩
              have hL2 := fun k hk => own2.lt k hk
              have hq := below_after_of hHeld hbq
              try (have G := G.below hbq)
              refine hK.out _ _ ?_ (fun hHeld => ?_)
              · exact hq
              clear hK K
              try simp only [Act.put, List.setIfInBounds_toArray, List.set_cons_zero, List.set_cons_succ]
              have ⟨x0, x1, u0, u1, hgl⟩ := G
              refine wpAnyH_ready (rs := [7]) (by kernel_rfl) (by simp) ?_
              refine AllReadyH.cons rfl (fun K hK => ?_) AllReadyH.nil
              go_simp
              refine hK.out _ _ ?_ (fun hHeld => ?_)
              · first | exact (hHeld.setCell (by exact hgg) _).setCell (by exact hgg) _ | exact below_after_of hq (one_new _)
              clear hK K
              try simp only [Act.put, List.setIfInBounds_toArray, List.set_cons_zero, List.set_cons_succ]
              refine wpAnyH_done (by kernel_rfl) ?_ _
              refine ⟨rfl, _, a1, c1, a2, c2, rfl, ?_, ?_, ?_, hgg, hHeld⟩
              · first | exact PrD.set G | exact Pair.new _ _ _ _
              · first | exact own_mono (ownsRow_setCell_below (ownsRow_setCell_below own2 hg2 _) hg2 _) hm2 | exact own_mono (own_below I3 (one_new _)) hm2
              · intro k hk; have := hL2 k hk; first | omega | (simp at *; omega)
        · go_simp
          first | (have G := PrD.new wq; have hgg := hq.size) | (have G := (PrD.new w1).drew; have hgg := Nat.le_refl w1.heap.size)
          try (have I3 := own2)
          try (have o1 := own_below o1 (one_new (.cells #[.int .i64 0, .slice none 0 0] 32)))
          refine hK.out _ _ ?_ (fun hHeld => ?_)
          · exact below_after_of hHeld (one_new _)
          clear hK K
          try simp only [Act.put, List.setIfInBounds_toArray, List.set_cons_zero, List.set_cons_succ]
          refine wpAnyH_ready (rs := [3]) (by kernel_rfl) (by simp) ?_
          refine AllReadyH.cons rfl (fun K hK => ?_) AllReadyH.nil
          · go_simp
            refine (hTR _).mono ?_
            rintro e wq ⟨rfl, hbq⟩
            have hq := below_after_of hHeld hbq
            try (have G := G.below hbq)
            have o1 := own_below o1 hbq
            refine hK.out _ _ ?_ (fun hHeld => ?_)
            · exact hq
            clear hK K
            try simp only [Act.put, List.setIfInBounds_toArray, List.set_cons_zero, List.set_cons_succ]
            refine wpAnyH_ready (rs := [5]) (by kernel_rfl) (by simp) ?_
            refine AllReadyH.cons rfl (fun K hK => ?_) AllReadyH.nil
            · go_simp
              have hm2 := hHeld.size
              try (have hg2 := G.lt)
              refine (hS _ _ (own_rcs' o1)).mono ?_
              rintro e wq ⟨a2, c2, rfl, hbq, own2⟩
              have hL2 := fun k hk => own2.lt k hk
              have hq := below_after_of hHeld hbq
              try (have G := G.below hbq)
              refine hK.out _ _ ?_ (fun hHeld => ?_)
              · exact hq
              clear hK K
              try simp only [Act.put, List.setIfInBounds_toArray, List.set_cons_zero, List.set_cons_succ]
              have ⟨x0, x1, u0, u1, hgl⟩ := G
              refine wpAnyH_ready (rs := [7]) (by kernel_rfl) (by simp) ?_
              refine AllReadyH.cons rfl (fun K hK => ?_) AllReadyH.nil
              go_simp
              refine hK.out _ _ ?_ (fun hHeld => ?_)
              · first | exact (hHeld.setCell (by exact hgg) _).setCell (by exact hgg) _ | exact below_after_of hq (one_new _)
              clear hK K
              try simp only [Act.put, List.setIfInBounds_toArray, List.set_cons_zero, List.set_cons_succ]
              refine wpAnyH_done (by kernel_rfl) ?_ _
              refine ⟨rfl, _, a1, c1, a2, c2, rfl, ?_, ?_, ?_, hgg, hHeld⟩
              · first | exact PrD.set G | exact Pair.new _ _ _ _
              · first | exact own_mono (ownsRow_setCell_below (ownsRow_setCell_below own2 hg2 _) hg2 _) hm2 | exact own_mono (own_below I3 (one_new _)) hm2
              · intro k hk; have := hL2 k hk; first | omega | (simp at *; omega)
      · go_simp
        first | (have G := PrD.new wq; have hgg := hq.size) | (have G := (PrD.new w1).drew; have hgg := Nat.le_refl w1.heap.size)
        try (have I3 := own2)
        try (have o1 := own_below o1 (one_new (.cells #[.int .i64 0, .slice none 0 0] 32)))
        refine hK.out _ _ ?_ (fun hHeld => ?_)
        · exact below_after_of hHeld (one_new _)
        clear hK K
        try simp only [Act.put, List.setIfInBounds_toArray, List.set_cons_zero, List.set_cons_succ]
        refine wpAnyH_ready (rs := [1]) (by kernel_rfl) (by simp) ?_
        refine AllReadyH.cons rfl (fun K hK => ?_) AllReadyH.nil
        · go_simp
          refine (hT _ (below_after_of HBW.out hHeld)).mono ?_
          rintro e wq ⟨a1, c1, rfl, hbq, o1⟩
          have hq := below_after_of hHeld hbq
          try (have G := G.below hbq)
          refine hK.out _ _ ?_ (fun hHeld => ?_)
          · exact hq
          clear hK K
          try simp only [Act.put, List.setIfInBounds_toArray, List.set_cons_zero, List.set_cons_succ]
          refine wpAnyH_ready (rs := [3]) (by kernel_rfl) (by simp) ?_
          refine AllReadyH.cons rfl (fun K hK => ?_) AllReadyH.nil
          · go_simp
            refine (hTR _).mono ?_
            rintro e wq ⟨rfl, hbq⟩
            have hq := below_after_of hHeld hbq
            try (have G := G.below hbq)
            have o1 := own_below o1 hbq
            refine hK.out _ _ ?_ (fun hHeld => ?_)
            · exact hq
            clear hK K
            try simp only [Act.put, List.setIfInBounds_toArray, List.set_cons_zero, List.set_cons_succ]
            refine wpAnyH_ready (rs := [5]) (by kernel_rfl) (by simp) ?_
            refine AllReadyH.cons rfl (fun K hK => ?_) AllReadyH.nil
            · go_simp
              have hm2 := hHeld.size
              try (have hg2 := G.lt)
              refine (hS _ _ (own_rcs' o1)).mono ?_
              rintro e wq ⟨a2, c2, rfl, hbq, own2⟩
              have hL2 := fun k hk => own2.lt k hk
              have hq := below_after_of hHeld hbq
              try (have G := G.below hbq)
              refine hK.out _ _ ?_ (fun hHeld => ?_)
              · exact hq
              clear hK K
              try simp only [Act.put, List.setIfInBounds_toArray, List.set_cons_zero, List.set_cons_succ]
              have ⟨x0, x1, u0, u1, hgl⟩ := G
              refine wpAnyH_ready (rs := [7]) (by kernel_rfl) (by simp) ?_
              refine AllReadyH.cons rfl (fun K hK => ?_) AllReadyH.nil
              go_simp
              refine hK.out _ _ ?_ (fun hHeld => ?_)
              · first | exact (hHeld.setCell (by exact hgg) _).setCell (by exact hgg) _ | exact below_after_of hq (one_new _)
              clear hK K
              try simp only [Act.put, List.setIfInBounds_toArray, List.set_cons_zero, List.set_cons_succ]
              refine wpAnyH_done (by kernel_rfl) ?_ _
              refine ⟨rfl, _, a1, c1, a2, c2, rfl, ?_, ?_, ?_, hgg, hHeld⟩
              · first | exact PrD.set G | exact Pair.new _ _ _ _
              · first | exact own_mono (ownsRow_setCell_below (ownsRow_setCell_below own2 hg2 _) hg2 _) hm2 | exact own_mono (own_below I3 (one_new _)) hm2
              · intro k hk; have := hL2 k hk; first | omega | (simp at *; omega)
    rintro _ _ W3 ⟨rfl, g3, b1, d1, b3, d3, rfl, P3, o3, -, hg3, hb3⟩
    dsimp only
    have hgl3 : g3 < W3.heap.size := P3.1
    have O3 := O1.below hb3
    have hB3 := below_after_of hB1 hb3
    have hlt3 : ∀ k, (Value.slice b3 ys.length d3).ownBlock = some k → w1.heap.size ≤ k ∧ k < W3.heap.size := fun k hk => o3.lt k hk
    have co3 := O3.2.1
    have hl3 : w.heap.size < W3.heap.size := by have := O3.1; omega
    clear hS q0 q1 q2 q3 q4 HBW HA1 O1 hB1 hb3
    go_wp2_with fail
    -- the argument, copied
    refine (hT _ hB3).mono ?_
    rintro e w4 ⟨a4, c4, rfl, hb4, own4⟩
    obtain ⟨W4, hW4⟩ : ∃ W4, W4 = w4.alloc (.cells #[.slice a4 n c4] 26) := ⟨_, rfl⟩
    have HW4 : Hid (w4.alloc (.cells #[.slice a4 n c4] 26) = W4) := hW4.symm
    have hN4 : Below w4.heap.size w4 W4 := by rw [hW4]; exact one_new _
    have Q4 : One W4 w4.heap.size (.slice a4 n c4) := by rw [hW4]; exact One.new w4 _ _
    have hb4' := below_after_of hb4 hN4
    have P4 := P3.below hb4'
    have i4 := own_below o3 hb4'
    have O4 := O3.below hb4'
    have hlt4 : ∀ k, (Value.slice a4 n c4).ownBlock = some k → W3.heap.size ≤ k ∧ k < w4.heap.size := fun k hk => own4.lt k hk
    have own4' := own_below own4 hN4
    have hB4 := below_after_of hB3 hb4'
    have HL4 : Hid (W3.heap.size ≤ w4.heap.size ∧ w4.heap.size < W4.heap.size) := ⟨hb4.size, Q4.1⟩
    have HR4 : Hid (∀ w', Below W4.heap.size W4 w' → Rcs w' (.slice a4 n c4) l) := fun w' h => own_rcs' (own_below own4' h)
    have HA4 : Hid (∀ w', Below W4.heap.size W4 w' → w'.cell? ⟨w.heap.size, 0, none⟩ = some (.slice a n c) ∧ w'.cell? ⟨w.heap.size + 1, 0, none⟩ = some (.string r0) ∧ w'.cell? ⟨w.heap.size + 1, 1, none⟩ = some (.int .i64 r1) ∧ w'.cell? ⟨w.heap.size + 1, 2, none⟩ = some (.int .i64 r2) ∧ w'.cell? ⟨w.heap.size + 1, 3, none⟩ = some (.int .i64 r3)) := fun w' h => (O4.below h).2
    have HQ4 : Hid (∀ w', Below W4.heap.size W4 w' → w'.cell? ⟨w4.heap.size, 0, none⟩ = some (.slice a4 n c4)) := fun w' h => (Q4.below h).2
    clear hb4 own4 hB3 O3 o3 P3 hW4 hN4 hb4' co3
    go_wp2_with fail
    rw [HW4.out]
    have q0 : ∀ w', Below W4.heap.size W4 w' → w'.cell? ⟨w.heap.size, 0, none⟩ = some (.slice a n c) := fun w' h => (HA4.out w' h).1
    have q1 : ∀ w', Below W4.heap.size W4 w' → w'.cell? ⟨w.heap.size + 1, 0, none⟩ = some (.string r0) := fun w' h => (HA4.out w' h).2.1
    have q2 : ∀ w', Below W4.heap.size W4 w' → w'.cell? ⟨w.heap.size + 1, 1, none⟩ = some (.int .i64 r1) := fun w' h => (HA4.out w' h).2.2.1
    have q3 : ∀ w', Below W4.heap.size W4 w' → w'.cell? ⟨w.heap.size + 1, 2, none⟩ = some (.int .i64 r2) := fun w' h => (HA4.out w' h).2.2.2.1
    have q4 : ∀ w', Below W4.heap.size W4 w' → w'.cell? ⟨w.heap.size + 1, 3, none⟩ = some (.int .i64 r3) := fun w' h => (HA4.out w' h).2.2.2.2
    have q5 : ∀ w', Below W4.heap.size W4 w' → w'.cell? ⟨w4.heap.size, 0, none⟩ = some (.slice a4 n c4) := HQ4.out
    refine Code.wp_mono (Q := fun e a' w' => e = Exit.normal ∧ ∃ (g : Nat) (a2 : Option Addr) (c2 : Nat), a' = { tmps := #[.agg #[.slice a n c], .agg #[.string r0, .int .i64 r1, .int .i64 r2, .int .i64 r3], .int .i64 s, .pointer (some ⟨w.heap.size, 0, none⟩), .pointer (some ⟨w.heap.size + 1, 0, none⟩), undef, .bool false, .int .i64 z2, .pointer (some ⟨g3, 0, none⟩), .pointer (some ⟨w4.heap.size, 0, none⟩), .pointer (some ⟨g, 0, none⟩), undef, undef, undef, undef, .agg #[.slice a n c], .int .i64 1048576, .int .i64 z, .int .i64 z, .bool (decide (z < 0)), .agg #[.string r0, .int .i64 r1, .int .i64 r2, .int .i64 r3], .int .i64 z, .int .i64 z2, .int .i64 z2, .bool (decide (z2 < 0)), .agg #[.slice a n c], .agg #[.slice b1 n d1], .agg #[.string r0, .int .i64 r1, .int .i64 r2, .int .i64 r3], .agg #[.string r0, .int .i64 r1, .int .i64 r2, .int .i64 r3], .int .i64 s, .agg #[.int .i64 code, .slice b3 ys.length d3], .agg #[.slice a n c], .agg #[.slice a4 n c4], .agg #[.slice a4 n c4], .agg #[.string r0, .int .i64 r1, .int .i64 r2, .int .i64 r3], .agg #[.string r0, .int .i64 r1, .int .i64 r2, .int .i64 r3], .int .i64 s, .agg #[.int .i64 code, .slice a2 ys.length c2], undef, undef, undef, undef, undef, undef, undef, undef, undef, undef, undef, undef, undef, undef, undef, undef, undef, undef, undef, undef, undef, undef, undef, undef, undef, undef, undef, undef, undef, undef, undef, undef, undef, undef, undef, undef, undef, undef, undef, undef, undef, undef, undef, undef, undef, undef, undef, undef, undef], defers := [] } ∧ Pair w' g (.int .i64 code) (.slice a2 ys.length c2) ∧ w'.ownsRow W4.heap.size 28 4 (.slice a2 ys.length c2) ys.length (flR ys) ∧ (∀ k, (Value.slice a2 ys.length c2).ownBlock = some k → k ≠ g) ∧ W4.heap.size ≤ g ∧ Below W4.heap.size W4 w') ?tail2 ?reg2
    case reg2 =>
      refine wp_region_held_drew (S := fun w' => Below W4.heap.size W4 w') (by kernel_rfl) ((Below.refl _ _).drew) (fun hHeld => ?_)
      refine h_take (i := 0) (d := some 33) (v := ?vt1) (by rfl) (by kernel_rfl) (by kernel_rfl) (by kernel_rfl) (fun _ _ _ h => (by cases h.1)) (by rfl) ?hyt1 hHeld ?restt1
      case hyt1 =>
        intro o ho
        simp only [List.getElem?_toArray, List.getElem?_cons_zero, Option.some.injEq] at ho
        subst ho
        intro w' hSw
        first | (go_simp; done) | (go_simp; with_reducible rfl)
      try simp only [Act.put, List.setIfInBounds_toArray, List.set_cons_zero, List.set_cons_succ]
      refine h_take (i := 1) (d := some 34) (v := ?vt2) (by rfl) (by kernel_rfl) (by kernel_rfl) (by kernel_rfl) (fun _ _ _ h => (by cases h.1)) (by rfl) ?hyt2 hHeld ?restt2
      case hyt2 =>
        intro o ho
        simp only [List.getElem?_toArray, List.getElem?_cons_succ, List.getElem?_cons_zero, Option.some.injEq] at ho
        subst ho
        intro w' hSw
        first | (go_simp; done) | (go_simp; with_reducible rfl)
      try simp only [Act.put, List.setIfInBounds_toArray, List.set_cons_zero, List.set_cons_succ]
      refine h_take (i := 3) (d := some 36) (v := ?vt3) (by rfl) (by kernel_rfl) (by kernel_rfl) (by kernel_rfl) (fun _ _ _ h => (by cases h.1)) (by rfl) ?hyt3 hHeld ?restt3
      case hyt3 =>
        intro o ho
        simp only [List.getElem?_toArray, List.getElem?_cons_succ, List.getElem?_cons_zero, Option.some.injEq] at ho
        subst ho
        intro w' hSw
        first | (go_simp; done) | (go_simp; with_reducible rfl)
      try simp only [Act.put, List.setIfInBounds_toArray, List.set_cons_zero, List.set_cons_succ]
      refine wpAnyH_ready (rs := [2, 5]) (by kernel_rfl) (by simp) ?_
      refine AllReadyH.cons rfl (fun K hK => ?_) (AllReadyH.cons rfl (fun K hK => ?_) AllReadyH.nil)
      · go_simp
        refine (hTR _).mono ?_
        rintro e wq ⟨rfl, hbq⟩
        have hq := below_after_of hHeld hbq
        try (have G := G.below hbq)
        refine hK.out _ _ ?_ (fun hHeld => ?_)
        · exact hq
        clear hK K
        try simp only [Act.put, List.setIfInBounds_toArray, List.set_cons_zero, List.set_cons_succ]
        refine wpAnyH_ready (rs := [4, 5]) (by kernel_rfl) (by simp) ?_
        refine AllReadyH.cons rfl (fun K hK => ?_) (AllReadyH.cons rfl (fun K hK => ?_) AllReadyH.nil)
        · go_simp
          have hm2 := hHeld.size
          try (have hg2 := G.lt)
          refine (hI _ _ (HR4.out _ hHeld)).mono ?_
          rintro e wq ⟨a2, c2, rfl, hbq, own2⟩
          have hL2 := fun k hk => own2.lt k hk
          have hq := below_after_of hHeld hbq
          try (have G := G.below hbq)
          refine hK.out _ _ ?_ (fun hHeld => ?_)
          · exact hq
          clear hK K
          try simp only [Act.put, List.setIfInBounds_toArray, List.set_cons_zero, List.set_cons_succ]
          refine wpAnyH_ready (rs := [5]) (by kernel_rfl) (by simp) ?_
          refine AllReadyH.cons rfl (fun K hK => ?_) AllReadyH.nil
          · go_simp
            first | (have G := PrD.new wq; have hgg := hq.size) | (have G := (PrD.new W4).drew; have hgg := Nat.le_refl W4.heap.size)
            try (have I3 := own2)
            try (have o1 := own_below o1 (one_new (.cells #[.int .i64 0, .slice none 0 0] 32)))
            refine hK.out _ _ ?_ (fun hHeld => ?_)
            · exact below_after_of hHeld (one_new _)
            clear hK K
            try simp only [Act.put, List.setIfInBounds_toArray, List.set_cons_zero, List.set_cons_succ]
            have ⟨x0, x1, u0, u1, hgl⟩ := G
            refine wpAnyH_ready (rs := [6]) (by kernel_rfl) (by simp) ?_
            refine AllReadyH.cons rfl (fun K hK => ?_) AllReadyH.nil
            go_simp
            refine hK.out _ _ ?_ (fun hHeld => ?_)
            · first | exact (hHeld.setCell (by exact hgg) _).setCell (by exact hgg) _ | exact below_after_of hq (one_new _)
            clear hK K
            try simp only [Act.put, List.setIfInBounds_toArray, List.set_cons_zero, List.set_cons_succ]
            refine wpAnyH_done (by kernel_rfl) ?_ _
            refine ⟨rfl, _, a2, c2, rfl, ?_, ?_, ?_, hgg, hHeld⟩
            · first | exact PrD.set G | exact Pair.new _ _ _ _
            · first | exact own_mono (ownsRow_setCell_below (ownsRow_setCell_below own2 hg2 _) hg2 _) hm2 | exact own_mono (own_below I3 (one_new _)) hm2
            · intro k hk; have := hL2 k hk; first | omega | (simp at *; omega)
        · go_simp
          first | (have G := PrD.new wq; have hgg := hq.size) | (have G := (PrD.new W4).drew; have hgg := Nat.le_refl W4.heap.size)
          try (have I3 := own2)
          try (have o1 := own_below o1 (one_new (.cells #[.int .i64 0, .slice none 0 0] 32)))
          refine hK.out _ _ ?_ (fun hHeld => ?_)
          · exact below_after_of hHeld (one_new _)
          clear hK K
          try simp only [Act.put, List.setIfInBounds_toArray, List.set_cons_zero, List.set_cons_succ]
          refine wpAnyH_ready (rs := [4]) (by kernel_rfl) (by simp) ?_
          refine AllReadyH.cons rfl (fun K hK => ?_) AllReadyH.nil
          · go_simp
            have hm2 := hHeld.size
            try (have hg2 := G.lt)
            refine (hI _ _ (HR4.out _ hHeld)).mono ?_
            rintro e wq ⟨a2, c2, rfl, hbq, own2⟩
            have hL2 := fun k hk => own2.lt k hk
            have hq := below_after_of hHeld hbq
            try (have G := G.below hbq)
            refine hK.out _ _ ?_ (fun hHeld => ?_)
            · exact hq
            clear hK K
            try simp only [Act.put, List.setIfInBounds_toArray, List.set_cons_zero, List.set_cons_succ]
            have ⟨x0, x1, u0, u1, hgl⟩ := G
            refine wpAnyH_ready (rs := [6]) (by kernel_rfl) (by simp) ?_
            refine AllReadyH.cons rfl (fun K hK => ?_) AllReadyH.nil
            go_simp
            refine hK.out _ _ ?_ (fun hHeld => ?_)
            · first | exact (hHeld.setCell (by exact hgg) _).setCell (by exact hgg) _ | exact below_after_of hq (one_new _)
            clear hK K
            try simp only [Act.put, List.setIfInBounds_toArray, List.set_cons_zero, List.set_cons_succ]
            refine wpAnyH_done (by kernel_rfl) ?_ _
            refine ⟨rfl, _, a2, c2, rfl, ?_, ?_, ?_, hgg, hHeld⟩
            · first | exact PrD.set G | exact Pair.new _ _ _ _
            · first | exact own_mono (ownsRow_setCell_below (ownsRow_setCell_below own2 hg2 _) hg2 _) hm2 | exact own_mono (own_below I3 (one_new _)) hm2
            · intro k hk; have := hL2 k hk; first | omega | (simp at *; omega)
      · go_simp
        first | (have G := PrD.new wq; have hgg := hq.size) | (have G := (PrD.new W4).drew; have hgg := Nat.le_refl W4.heap.size)
        try (have I3 := own2)
        try (have o1 := own_below o1 (one_new (.cells #[.int .i64 0, .slice none 0 0] 32)))
        refine hK.out _ _ ?_ (fun hHeld => ?_)
        · exact below_after_of hHeld (one_new _)
        clear hK K
        try simp only [Act.put, List.setIfInBounds_toArray, List.set_cons_zero, List.set_cons_succ]
        refine wpAnyH_ready (rs := [2]) (by kernel_rfl) (by simp) ?_
        refine AllReadyH.cons rfl (fun K hK => ?_) AllReadyH.nil
        · go_simp
          refine (hTR _).mono ?_
          rintro e wq ⟨rfl, hbq⟩
          have hq := below_after_of hHeld hbq
          try (have G := G.below hbq)
          refine hK.out _ _ ?_ (fun hHeld => ?_)
          · exact hq
          clear hK K
          try simp only [Act.put, List.setIfInBounds_toArray, List.set_cons_zero, List.set_cons_succ]
          refine wpAnyH_ready (rs := [4]) (by kernel_rfl) (by simp) ?_
          refine AllReadyH.cons rfl (fun K hK => ?_) AllReadyH.nil
          · go_simp
            have hm2 := hHeld.size
            try (have hg2 := G.lt)
            refine (hI _ _ (HR4.out _ hHeld)).mono ?_
            rintro e wq ⟨a2, c2, rfl, hbq, own2⟩
            have hL2 := fun k hk => own2.lt k hk
            have hq := below_after_of hHeld hbq
            try (have G := G.below hbq)
            refine hK.out _ _ ?_ (fun hHeld => ?_)
            · exact hq
            clear hK K
            try simp only [Act.put, List.setIfInBounds_toArray, List.set_cons_zero, List.set_cons_succ]
            have ⟨x0, x1, u0, u1, hgl⟩ := G
            refine wpAnyH_ready (rs := [6]) (by kernel_rfl) (by simp) ?_
            refine AllReadyH.cons rfl (fun K hK => ?_) AllReadyH.nil
            go_simp
            refine hK.out _ _ ?_ (fun hHeld => ?_)
            · first | exact (hHeld.setCell (by exact hgg) _).setCell (by exact hgg) _ | exact below_after_of hq (one_new _)
            clear hK K
            try simp only [Act.put, List.setIfInBounds_toArray, List.set_cons_zero, List.set_cons_succ]
            refine wpAnyH_done (by kernel_rfl) ?_ _
            refine ⟨rfl, _, a2, c2, rfl, ?_, ?_, ?_, hgg, hHeld⟩
            · first | exact PrD.set G | exact Pair.new _ _ _ _
            · first | exact own_mono (ownsRow_setCell_below (ownsRow_setCell_below own2 hg2 _) hg2 _) hm2 | exact own_mono (own_below I3 (one_new _)) hm2
            · intro k hk; have := hL2 k hk; first | omega | (simp at *; omega)
    rintro _ _ W5 ⟨rfl, g5, a5, c5, rfl, P5, own5, hne5, hgg5, hb5⟩
    dsimp only
    have hlt5 : ∀ k, (Value.slice a5 ys.length c5).ownBlock = some k → W4.heap.size ≤ k ∧ k < W5.heap.size := fun k hk => own5.lt k hk
    have own4'' := own_below own4' hb5
    have P4' := P4.below hb5
    have i4' := own_below i4 hb5
    have O4' := O4.below hb5
    have Q4' := Q4.below hb5
    have hB5 := below_after_of hB4 hb5
    have C5 : Hid (∀ w', Below W5.heap.size W5 w' → Pair w' g3 (.int .i64 code) (.slice b3 ys.length d3) ∧ Pair w' g5 (.int .i64 code) (.slice a5 ys.length c5) ∧ w'.ownsRow w1.heap.size 28 4 (.slice b3 ys.length d3) ys.length (flR ys) ∧ w'.ownsRow W4.heap.size 28 4 (.slice a5 ys.length c5) ys.length (flR ys) ∧ w'.ownsRow W3.heap.size 28 4 (.slice a4 n c4) n (flR l) ∧ DR w' w.heap.size (.slice a n c) r0 r1 r2 r3 ∧ One w' w4.heap.size (.slice a4 n c4) ∧ Below w.heap.size w w') :=
      fun w' h => ⟨P4'.below h, P5.below h, own_below i4' h, own_below own5 h, own_below own4'' h, O4'.below h, Q4'.below h, below_after_of hB5 h⟩
    obtain ⟨p0, p1, p2⟩ := P4'
    obtain ⟨p3, p4, p5⟩ := P5
    have j3 := own_rcs' i4'
    have j5 := own_rcs' own5
    clear own5 own4' own4'' P4 i4 O4 Q4 i4' O4' Q4' hB4 hB5 q0 q1 q2 q3 q4 q5 HR4 HA4 HQ4 hb5
    go_wp2_with fail
    -- the two are the same
    refine (eqDirectoryResult_same code _ _ ys _ j5 j3 (by omega)).mono ?_
    rintro e w6 ⟨rfl, hb6⟩
    obtain ⟨-, -, -, -, -, O6, Q6, hB6⟩ := C5.out _ hb6
    have c6 := O6.2.1
    have d6 := Q6.2
    have hl6 : w.heap.size < w6.heap.size := by have := O6.1; omega
    have hl6' := Q6.1
    have hbr := hb6
    have HC6 : Hid (∀ w', Below W5.heap.size W5 w' → w'.cell? ⟨w.heap.size, 0, none⟩ = some (.slice a n c) ∧ w'.cell? ⟨w4.heap.size, 0, none⟩ = some (.slice a4 n c4)) := fun w' h => ⟨(C5.out _ h).2.2.2.2.2.1.2.1, (C5.out _ h).2.2.2.2.2.2.1.2⟩
    have HT6 : Hid (∀ w', Below W5.heap.size W5 w' → Calls Try.prog 36 #[.agg #[.slice a n c]] w' fun e w'' => ∃ a c, e = .returned (.agg #[.slice a n c]) ∧ Below w'.heap.size w' w'' ∧ w''.ownsRow w'.heap.size 28 4 (.slice a n c) n (flR l)) := fun w' h => hT w' (C5.out _ h).2.2.2.2.2.2.2
    have HE6 : Hid (∀ w' u, Below W5.heap.size W5 w' → Rcs w' u l → Calls Try.prog 37 #[.agg #[.slice a4 n c4], .agg #[u]] w' fun e w'' => e = .returned (.bool true) ∧ Below w'.heap.size w' w'') := fun w' u h hu => hE _ _ w' (own_rcs' (C5.out _ h).2.2.2.2.1) hu
    clear j3 j5 p0 p1 p2 p3 p4 p5 hE hb6 O6 Q6 hB6
    go_wp2_with fail
    go_region_held3 (fun w' => w'.cell? ⟨w.heap.size, 0, none⟩ = some (.slice a n c) ∧ w'.cell? ⟨w4.heap.size, 0, none⟩ = some (.slice a4 n c4))
      (first | exact ⟨c6, d6⟩ | exact HC6.out _ hbr | exact HC6.out _ hbr.drew)
      (first
        | (go_at_call 36; refine (HT6.out _ (by first | exact hbr | exact hbr.drew)).mono ?_; rintro e w7 ⟨a7, c7, rfl, hb7, o7⟩; have hbr : Below W5.heap.size W5 w7 := (by first | exact below_after_of hbr hb7 | exact below_after_of hbr.drew hb7))
        | (go_at_call 37; refine (HE6.out _ _ (by first | exact hbr | exact hbr.drew) (own_rcs' o7)).mono ?_; rintro e w8 ⟨rfl, hb8⟩; have hbr : Below W5.heap.size W5 w8 := (by first | exact below_after_of hbr hb8 | exact below_after_of hbr.drew hb8)))
    obtain ⟨Q2, Q4, j3, j5, j4, O8, Q8, hB8⟩ := C5.out _ hbr
    have d8 := Q8.2
    have hl8 := Q8.1
    have hz8 : W5.heap.size ≤ w8.heap.size := hbr.size
    clear HT6 HE6 HC6 o7 hb7 hb8 c6 d6 hl6 hl6' C5 hbr Q8
    -- the argument is marked
    go_wp2_with fail
    refine (hMk _ _ 1 _ j4 (by omega)).mono ?_
    rintro e w9 ⟨rfl, hg9, own9⟩
    have hL4 := HL4.out
    have Q2 := Q2.grown hg9 (fun e => by have := hlt4 _ e.symm; omega)
    have Q4 := Q4.grown hg9 (fun e => by have := hlt4 _ e.symm; omega)
    have O9 := O8.grown hg9 (fun j hj => by have := hlt4 j hj; omega)
    have j3 := own_grown j3 hg9 (apart_lt (fun k hk j hj => by have := hlt3 k hk; have := hlt4 j hj; omega))
    have j5 := own_grown j5 hg9 (apart_gt (fun k hk j hj => by have := hlt5 k hk; have := hlt4 j hj; omega))
    have hB9 := hB8.grown hg9 hB8.size (fun k hk => by have := hlt4 k hk; omega)
    clear hg9 own9 j4 hB8 O8 d8 hl8 hMk hz8
    obtain ⟨p0, p1, p2⟩ := Q2
    obtain ⟨p3, p4, p5⟩ := Q4
    have Q2 : Pair w9 g3 (.int .i64 code) (.slice b3 ys.length d3) := ⟨p0, p1, p2⟩
    have Q4 : Pair w9 g5 (.int .i64 code) (.slice a5 ys.length c5) := ⟨p3, p4, p5⟩
    go_wp2_with fail
    -- the two are still the same
    refine (eqDirectoryResult_same code _ _ ys _ (own_rcs' j5) (own_rcs' j3) (by omega)).mono ?_
    rintro e w10 ⟨rfl, hb10⟩
    have Q2 := Q2.below hb10
    have Q4 := Q4.below hb10
    have O10 := O9.below hb10
    have j3 := own_below j3 hb10
    have j5 := own_below j5 hb10
    have hB10 := below_after_of hB9 hb10
    clear hb10 hB9 O9 p0 p1 p2 p3 p4 p5
    obtain ⟨p3, p4, p5⟩ := Q4
    have Q4 : Pair w10 g5 (.int .i64 code) (.slice a5 ys.length c5) := ⟨p3, p4, p5⟩
    go_wp2_with fail
    -- the answer is marked
    refine (markDirectoryResult_any W4.heap.size code _ ys 1 _ j5 (by omega) (by omega)).mono ?_
    rintro e w11 ⟨rfl, hg11, own11⟩
    have Q2 := Q2.grown hg11 (fun e => by have := hlt5 _ e.symm; omega)
    have Q4 := Q4.grown hg11 (fun e => hne5 _ e.symm rfl)
    have O11 := O10.grown hg11 (fun j hj => by have := hlt5 j hj; omega)
    have j3 := own_grown j3 hg11 (apart_lt (fun k hk j hj => by have := hlt3 k hk; have := hlt5 j hj; omega))
    have hB11 := hB10.grown hg11 hB10.size (fun k hk => by have := hlt5 k hk; omega)
    have m11 : Rcs w11 (.slice a5 ys.length c5) (mkR 1 ys.length) := own_rcs' own11
    have C11 : Hid (∀ w', Below w11.heap.size w11 w' → Pair w' g3 (.int .i64 code) (.slice b3 ys.length d3) ∧ Pair w' g5 (.int .i64 code) (.slice a5 ys.length c5) ∧ Rcs w' (.slice b3 ys.length d3) ys ∧ Rcs w' (.slice a5 ys.length c5) (mkR 1 ys.length) ∧ DR w' w.heap.size (.slice a n c) r0 r1 r2 r3 ∧ Below w.heap.size w w') :=
      fun w' h => ⟨Q2.below h, Q4.below h, (own_rcs' j3).below h, m11.below h, O11.below h, below_after_of hB11 h⟩
    clear hg11 own11 j5 hB10 p3 p4 p5 hL4 O10
    obtain ⟨p3, p4, p5⟩ := Q4
    clear Q2 j3 hB11 O11
    go_wp2_with fail
    refine (heldDirectoryResult_any code _ ys.length 1 _ m11 (by omega) (by omega)).mono ?_
    rintro e w12 ⟨rfl, hb12⟩
    have HB12 : Hid (Below w11.heap.size w11 w12) := hb12
    have O12 := (C11.out _ hb12).2.2.2.2.1
    have hB12 := (C11.out _ hb12).2.2.2.2.2
    have HA12 : Hid (∀ w', Below w12.heap.size w12 w' → w'.cell? ⟨w.heap.size, 0, none⟩ = some (.slice a n c) ∧ w'.cell? ⟨w.heap.size + 1, 0, none⟩ = some (.string r0) ∧ w'.cell? ⟨w.heap.size + 1, 1, none⟩ = some (.int .i64 r1) ∧ w'.cell? ⟨w.heap.size + 1, 2, none⟩ = some (.int .i64 r2) ∧ w'.cell? ⟨w.heap.size + 1, 3, none⟩ = some (.int .i64 r3)) := fun w' h => (O12.below h).2
    clear p3 p4 p5 m11 hb12 O12
    go_wp2_with fail
    have q0 : ∀ w', Below w12.heap.size w12 w' → w'.cell? ⟨w.heap.size, 0, none⟩ = some (.slice a n c) := fun w' h => (HA12.out w' h).1
    have q1 : ∀ w', Below w12.heap.size w12 w' → w'.cell? ⟨w.heap.size + 1, 0, none⟩ = some (.string r0) := fun w' h => (HA12.out w' h).2.1
    have q2 : ∀ w', Below w12.heap.size w12 w' → w'.cell? ⟨w.heap.size + 1, 1, none⟩ = some (.int .i64 r1) := fun w' h => (HA12.out w' h).2.2.1
    have q3 : ∀ w', Below w12.heap.size w12 w' → w'.cell? ⟨w.heap.size + 1, 2, none⟩ = some (.int .i64 r2) := fun w' h => (HA12.out w' h).2.2.2.1
    have q4 : ∀ w', Below w12.heap.size w12 w' → w'.cell? ⟨w.heap.size + 1, 3, none⟩ = some (.int .i64 r3) := fun w' h => (HA12.out w' h).2.2.2.2
    have HBW : Hid (Below w.heap.size w w12) := hB12
    refine Code.wp_mono (Q := fun e a' w' => e = Exit.normal ∧ ∃ (g : Nat) (a1 : Option Addr) (c1 : Nat) (a2 : Option Addr) (c2 : Nat), a' = { tmps := #[Value.agg #[Value.slice a n c], Value.agg #[Value.string r0, Value.int IntKind.i64 r1, Value.int IntKind.i64 r2, Value.int IntKind.i64 r3], Value.int IntKind.i64 s, Value.pointer (some { block := w.heap.size, off := 0 }), Value.pointer (some { block := w.heap.size + 1, off := 0 }), undef, Value.bool false, Value.int IntKind.i64 z2, Value.pointer (some { block := g3, off := 0 }), Value.pointer (some { block := w4.heap.size, off := 0 }), Value.pointer (some { block := g5, off := 0 }), Value.int IntKind.i64 (1 + (n : Int) * 4), Value.int IntKind.i64 (1 + (ys.length : Int) * 4), Value.int IntKind.i64 (1 + (ys.length : Int) * 4), .pointer (some ⟨g, 0, none⟩), Value.agg #[Value.slice a n c], Value.int IntKind.i64 1048576, Value.int IntKind.i64 z, Value.int IntKind.i64 z, Value.bool (decide (z < 0)), Value.agg #[Value.string r0, Value.int IntKind.i64 r1, Value.int IntKind.i64 r2, Value.int IntKind.i64 r3], Value.int IntKind.i64 z, Value.int IntKind.i64 z2, Value.int IntKind.i64 z2, Value.bool (decide (z2 < 0)), Value.agg #[Value.slice a n c], Value.agg #[Value.slice b1 n d1], Value.agg #[Value.string r0, Value.int IntKind.i64 r1, Value.int IntKind.i64 r2, Value.int IntKind.i64 r3], Value.agg #[Value.string r0, Value.int IntKind.i64 r1, Value.int IntKind.i64 r2, Value.int IntKind.i64 r3], Value.int IntKind.i64 s, Value.agg #[Value.int IntKind.i64 code, Value.slice b3 (List.length ys) d3], Value.agg #[Value.slice a n c], Value.agg #[Value.slice a4 n c4], Value.agg #[Value.slice a4 n c4], Value.agg #[Value.string r0, Value.int IntKind.i64 r1, Value.int IntKind.i64 r2, Value.int IntKind.i64 r3], Value.agg #[Value.string r0, Value.int IntKind.i64 r1, Value.int IntKind.i64 r2, Value.int IntKind.i64 r3], Value.int IntKind.i64 s, Value.agg #[Value.int IntKind.i64 code, Value.slice a5 (List.length ys) c5], Value.agg #[Value.int IntKind.i64 code, Value.slice a5 (List.length ys) c5], Value.agg #[Value.int IntKind.i64 code, Value.slice b3 (List.length ys) d3], Value.bool true, Value.bool false, Value.agg #[Value.slice a4 n c4], Value.agg #[Value.slice a n c], Value.agg #[Value.slice a7 n c7], Value.bool true, Value.bool false, Value.agg #[Value.slice a4 n c4], Value.int IntKind.i64 1, Value.int IntKind.i64 (1 + (n : Int) * 4), Value.int IntKind.i64 (1 + (n : Int) * 4), Value.bool (decide (1 + (n : Int) * 4 < 0)), Value.bool (decide (1 + (n : Int) * 4 < 0)), Value.agg #[Value.int IntKind.i64 code, Value.slice a5 (List.length ys) c5], Value.agg #[Value.int IntKind.i64 code, Value.slice b3 (List.length ys) d3], Value.bool true, Value.bool false, Value.bool (decide (1 + (n : Int) * 4 < 0)), Value.agg #[Value.int IntKind.i64 code, Value.slice a5 (List.length ys) c5], Value.int IntKind.i64 1, Value.int IntKind.i64 (1 + (ys.length : Int) * 4), Value.agg #[Value.int IntKind.i64 code, Value.slice a5 (List.length ys) c5], Value.int IntKind.i64 1, Value.int IntKind.i64 (1 + (ys.length : Int) * 4), Value.int IntKind.i64 (1 + (ys.length : Int) * 4), Value.bool (decide (1 + (ys.length : Int) * 4 < 0)), Value.int IntKind.i64 (1 + (ys.length : Int) * 4), Value.int IntKind.i64 (1 + (ys.length : Int) * 4), Value.bool false, .agg #[.slice a n c], .agg #[.slice a1 n c1], .agg #[.string r0, .int .i64 r1, .int .i64 r2, .int .i64 r3], .agg #[.string r0, .int .i64 r1, .int .i64 r2, .int .i64 r3], .int .i64 s, .agg #[.int .i64 code, .slice a2 ys.length c2], undef, undef, undef, undef, undef, undef, undef, undef, undef, undef, undef, undef], defers := [] } ∧ Pair w' g (.int .i64 code) (.slice a2 ys.length c2) ∧ w'.ownsRow w12.heap.size 28 4 (.slice a2 ys.length c2) ys.length (flR ys) ∧ (∀ k, (Value.slice a2 ys.length c2).ownBlock = some k → k ≠ g) ∧ w12.heap.size ≤ g ∧ Below w12.heap.size w12 w') ?tail3 ?reg3
    case reg3 =>
      refine wp_region_held_drew (S := fun w' => Below w12.heap.size w12 w') (by kernel_rfl) ((Below.refl _ _).drew) (fun hHeld => ?_)
      refine h_take (i := 0) (d := some 69) (v := ?vs1) (by rfl) (by kernel_rfl) (by kernel_rfl) (by kernel_rfl) (fun _ _ _ h => (by cases h.1)) (by rfl) ?hys1 hHeld ?rests1
      case hys1 =>
        intro o ho
        simp only [List.getElem?_toArray, List.getElem?_cons_zero, Option.some.injEq] at ho
        subst ho
        intro w' hSw
        first | (go_simp; done) | (go_simp; with_reducible rfl)
      try simp only [Act.put, List.setIfInBounds_toArray, List.set_cons_zero, List.set_cons_succ]
      refine h_take (i := 2) (d := some 71) (v := ?vs2) (by rfl) (by kernel_rfl) (by kernel_rfl) (by kernel_rfl) (fun _ _ _ h => (by cases h.1)) (by rfl) ?hys2 hHeld ?rests2
      case hys2 =>
        intro o ho
        simp only [List.getElem?_toArray, List.getElem?_cons_succ, List.getElem?_cons_zero, Option.some.injEq] at ho
        subst ho
        intro w' hSw
        first | (go_simp; done) | (go_simp; with_reducible rfl)
      try simp only [Act.put, List.setIfInBounds_toArray, List.set_cons_zero, List.set_cons_succ]
      refine h_take (i := 4) (d := some 73) (v := ?vs3) (by rfl) (by kernel_rfl) (by kernel_rfl) (by kernel_rfl) (fun _ _ _ h => (by cases h.1)) (by rfl) ?hys3 hHeld ?rests3
      case hys3 =>
        intro o ho
        simp only [List.getElem?_toArray, List.getElem?_cons_succ, List.getElem?_cons_zero, Option.some.injEq] at ho
        subst ho
        intro w' hSw
        first | (go_simp; done) | (go_simp; with_reducible rfl)
      try simp only [Act.put, List.setIfInBounds_toArray, List.set_cons_zero, List.set_cons_succ]
      refine wpAnyH_ready (rs := [1, 6]) (by kernel_rfl) (by simp) ?_
      refine AllReadyH.cons rfl (fun K hK => ?_) (AllReadyH.cons rfl (fun K hK => ?_) AllReadyH.nil)
      · go_simp
        refine (hT _ (below_after_of HBW.out hHeld)).mono ?_
        rintro e wq ⟨a1, c1, rfl, hbq, o1⟩
        have hq := below_after_of hHeld hbq
        try (have G := G.below hbq)
        refine hK.out _ _ ?_ (fun hHeld => ?_)
        · exact hq
        clear hK K
        try simp only [Act.put, List.setIfInBounds_toArray, List.set_cons_zero, List.set_cons_succ]
        refine wpAnyH_ready (rs := [3, 6]) (by kernel_rfl) (by simp) ?_
        refine AllReadyH.cons rfl (fun K hK => ?_) (AllReadyH.cons rfl (fun K hK => ?_) AllReadyH.nil)
        · go_simp
          refine (hTR _).mono ?_
          rintro e wq ⟨rfl, hbq⟩
          have hq := below_after_of hHeld hbq
          try (have G := G.below hbq)
          have o1 := own_below o1 hbq
          refine hK.out _ _ ?_ (fun hHeld => ?_)
          · exact hq
          clear hK K
          try simp only [Act.put, List.setIfInBounds_toArray, List.set_cons_zero, List.set_cons_succ]
          refine wpAnyH_ready (rs := [5, 6]) (by kernel_rfl) (by simp) ?_
          refine AllReadyH.cons rfl (fun K hK => ?_) (AllReadyH.cons rfl (fun K hK => ?_) AllReadyH.nil)
          · go_simp
            have hm2 := hHeld.size
            try (have hg2 := G.lt)
            refine (hI _ _ (own_rcs' o1)).mono ?_
            rintro e wq ⟨a2, c2, rfl, hbq, own2⟩
            have hL2 := fun k hk => own2.lt k hk
            have hq := below_after_of hHeld hbq
            try (have G := G.below hbq)
            refine hK.out _ _ ?_ (fun hHeld => ?_)
            · exact hq
            clear hK K
            try simp only [Act.put, List.setIfInBounds_toArray, List.set_cons_zero, List.set_cons_succ]
            refine wpAnyH_ready (rs := [6]) (by kernel_rfl) (by simp) ?_
            refine AllReadyH.cons rfl (fun K hK => ?_) AllReadyH.nil
            · go_simp
              first | (have G := PrD.new wq; have hgg := hq.size) | (have G := (PrD.new w12).drew; have hgg := Nat.le_refl w12.heap.size)
              try (have I3 := own2)
              try (have o1 := own_below o1 (one_new (.cells #[.int .i64 0, .slice none 0 0] 32)))
              refine hK.out _ _ ?_ (fun hHeld => ?_)
              · exact below_after_of hHeld (one_new _)
              clear hK K
              try simp only [Act.put, List.setIfInBounds_toArray, List.set_cons_zero, List.set_cons_succ]
              have ⟨x0, x1, u0, u1, hgl⟩ := G
              refine wpAnyH_ready (rs := [7]) (by kernel_rfl) (by simp) ?_
              refine AllReadyH.cons rfl (fun K hK => ?_) AllReadyH.nil
              go_simp
              refine hK.out _ _ ?_ (fun hHeld => ?_)
              · first | exact (hHeld.setCell (by exact hgg) _).setCell (by exact hgg) _ | exact below_after_of hq (one_new _)
              clear hK K
              try simp only [Act.put, List.setIfInBounds_toArray, List.set_cons_zero, List.set_cons_succ]
              refine wpAnyH_done (by kernel_rfl) ?_ _
              refine ⟨rfl, _, a1, c1, a2, c2, rfl, ?_, ?_, ?_, hgg, hHeld⟩
              · first | exact PrD.set G | exact Pair.new _ _ _ _
              · first | exact own_mono (ownsRow_setCell_below (ownsRow_setCell_below own2 hg2 _) hg2 _) hm2 | exact own_mono (own_below I3 (one_new _)) hm2
              · intro k hk; have := hL2 k hk; first | omega | (simp at *; omega)
          · go_simp
            first | (have G := PrD.new wq; have hgg := hq.size) | (have G := (PrD.new w12).drew; have hgg := Nat.le_refl w12.heap.size)
            try (have I3 := own2)
            try (have o1 := own_below o1 (one_new (.cells #[.int .i64 0, .slice none 0 0] 32)))
            refine hK.out _ _ ?_ (fun hHeld => ?_)
            · exact below_after_of hHeld (one_new _)
            clear hK K
            try simp only [Act.put, List.setIfInBounds_toArray, List.set_cons_zero, List.set_cons_succ]
            refine wpAnyH_ready (rs := [5]) (by kernel_rfl) (by simp) ?_
            refine AllReadyH.cons rfl (fun K hK => ?_) AllReadyH.nil
            · go_simp
              have hm2 := hHeld.size
              try (have hg2 := G.lt)
              refine (hI _ _ (own_rcs' o1)).mono ?_
              rintro e wq ⟨a2, c2, rfl, hbq, own2⟩
              have hL2 := fun k hk => own2.lt k hk
              have hq := below_after_of hHeld hbq
              try (have G := G.below hbq)
              refine hK.out _ _ ?_ (fun hHeld => ?_)
              · exact hq
              clear hK K
              try simp only [Act.put, List.setIfInBounds_toArray, List.set_cons_zero, List.set_cons_succ]
              have ⟨x0, x1, u0, u1, hgl⟩ := G
              refine wpAnyH_ready (rs := [7]) (by kernel_rfl) (by simp) ?_
              refine AllReadyH.cons rfl (fun K hK => ?_) AllReadyH.nil
              go_simp
              refine hK.out _ _ ?_ (fun hHeld => ?_)
              · first | exact (hHeld.setCell (by exact hgg) _).setCell (by exact hgg) _ | exact below_after_of hq (one_new _)
              clear hK K
              try simp only [Act.put, List.setIfInBounds_toArray, List.set_cons_zero, List.set_cons_succ]
              refine wpAnyH_done (by kernel_rfl) ?_ _
              refine ⟨rfl, _, a1, c1, a2, c2, rfl, ?_, ?_, ?_, hgg, hHeld⟩
              · first | exact PrD.set G | exact Pair.new _ _ _ _
              · first | exact own_mono (ownsRow_setCell_below (ownsRow_setCell_below own2 hg2 _) hg2 _) hm2 | exact own_mono (own_below I3 (one_new _)) hm2
              · intro k hk; have := hL2 k hk; first | omega | (simp at *; omega)
        · go_simp
          first | (have G := PrD.new wq; have hgg := hq.size) | (have G := (PrD.new w12).drew; have hgg := Nat.le_refl w12.heap.size)
          try (have I3 := own2)
          try (have o1 := own_below o1 (one_new (.cells #[.int .i64 0, .slice none 0 0] 32)))
          refine hK.out _ _ ?_ (fun hHeld => ?_)
          · exact below_after_of hHeld (one_new _)
          clear hK K
          try simp only [Act.put, List.setIfInBounds_toArray, List.set_cons_zero, List.set_cons_succ]
          refine wpAnyH_ready (rs := [3]) (by kernel_rfl) (by simp) ?_
          refine AllReadyH.cons rfl (fun K hK => ?_) AllReadyH.nil
          · go_simp
            refine (hTR _).mono ?_
            rintro e wq ⟨rfl, hbq⟩
            have hq := below_after_of hHeld hbq
            try (have G := G.below hbq)
            have o1 := own_below o1 hbq
            refine hK.out _ _ ?_ (fun hHeld => ?_)
            · exact hq
            clear hK K
            try simp only [Act.put, List.setIfInBounds_toArray, List.set_cons_zero, List.set_cons_succ]
            refine wpAnyH_ready (rs := [5]) (by kernel_rfl) (by simp) ?_
            refine AllReadyH.cons rfl (fun K hK => ?_) AllReadyH.nil
            · go_simp
              have hm2 := hHeld.size
              try (have hg2 := G.lt)
              refine (hI _ _ (own_rcs' o1)).mono ?_
              rintro e wq ⟨a2, c2, rfl, hbq, own2⟩
              have hL2 := fun k hk => own2.lt k hk
              have hq := below_after_of hHeld hbq
              try (have G := G.below hbq)
              refine hK.out _ _ ?_ (fun hHeld => ?_)
              · exact hq
              clear hK K
              try simp only [Act.put, List.setIfInBounds_toArray, List.set_cons_zero, List.set_cons_succ]
              have ⟨x0, x1, u0, u1, hgl⟩ := G
              refine wpAnyH_ready (rs := [7]) (by kernel_rfl) (by simp) ?_
              refine AllReadyH.cons rfl (fun K hK => ?_) AllReadyH.nil
              go_simp
              refine hK.out _ _ ?_ (fun hHeld => ?_)
              · first | exact (hHeld.setCell (by exact hgg) _).setCell (by exact hgg) _ | exact below_after_of hq (one_new _)
              clear hK K
              try simp only [Act.put, List.setIfInBounds_toArray, List.set_cons_zero, List.set_cons_succ]
              refine wpAnyH_done (by kernel_rfl) ?_ _
              refine ⟨rfl, _, a1, c1, a2, c2, rfl, ?_, ?_, ?_, hgg, hHeld⟩
              · first | exact PrD.set G | exact Pair.new _ _ _ _
              · first | exact own_mono (ownsRow_setCell_below (ownsRow_setCell_below own2 hg2 _) hg2 _) hm2 | exact own_mono (own_below I3 (one_new _)) hm2
              · intro k hk; have := hL2 k hk; first | omega | (simp at *; omega)
      · go_simp
        first | (have G := PrD.new wq; have hgg := hq.size) | (have G := (PrD.new w12).drew; have hgg := Nat.le_refl w12.heap.size)
        try (have I3 := own2)
        try (have o1 := own_below o1 (one_new (.cells #[.int .i64 0, .slice none 0 0] 32)))
        refine hK.out _ _ ?_ (fun hHeld => ?_)
        · exact below_after_of hHeld (one_new _)
        clear hK K
        try simp only [Act.put, List.setIfInBounds_toArray, List.set_cons_zero, List.set_cons_succ]
        refine wpAnyH_ready (rs := [1]) (by kernel_rfl) (by simp) ?_
        refine AllReadyH.cons rfl (fun K hK => ?_) AllReadyH.nil
        · go_simp
          refine (hT _ (below_after_of HBW.out hHeld)).mono ?_
          rintro e wq ⟨a1, c1, rfl, hbq, o1⟩
          have hq := below_after_of hHeld hbq
          try (have G := G.below hbq)
          refine hK.out _ _ ?_ (fun hHeld => ?_)
          · exact hq
          clear hK K
          try simp only [Act.put, List.setIfInBounds_toArray, List.set_cons_zero, List.set_cons_succ]
          refine wpAnyH_ready (rs := [3]) (by kernel_rfl) (by simp) ?_
          refine AllReadyH.cons rfl (fun K hK => ?_) AllReadyH.nil
          · go_simp
            refine (hTR _).mono ?_
            rintro e wq ⟨rfl, hbq⟩
            have hq := below_after_of hHeld hbq
            try (have G := G.below hbq)
            have o1 := own_below o1 hbq
            refine hK.out _ _ ?_ (fun hHeld => ?_)
            · exact hq
            clear hK K
            try simp only [Act.put, List.setIfInBounds_toArray, List.set_cons_zero, List.set_cons_succ]
            refine wpAnyH_ready (rs := [5]) (by kernel_rfl) (by simp) ?_
            refine AllReadyH.cons rfl (fun K hK => ?_) AllReadyH.nil
            · go_simp
              have hm2 := hHeld.size
              try (have hg2 := G.lt)
              refine (hI _ _ (own_rcs' o1)).mono ?_
              rintro e wq ⟨a2, c2, rfl, hbq, own2⟩
              have hL2 := fun k hk => own2.lt k hk
              have hq := below_after_of hHeld hbq
              try (have G := G.below hbq)
              refine hK.out _ _ ?_ (fun hHeld => ?_)
              · exact hq
              clear hK K
              try simp only [Act.put, List.setIfInBounds_toArray, List.set_cons_zero, List.set_cons_succ]
              have ⟨x0, x1, u0, u1, hgl⟩ := G
              refine wpAnyH_ready (rs := [7]) (by kernel_rfl) (by simp) ?_
              refine AllReadyH.cons rfl (fun K hK => ?_) AllReadyH.nil
              go_simp
              refine hK.out _ _ ?_ (fun hHeld => ?_)
              · first | exact (hHeld.setCell (by exact hgg) _).setCell (by exact hgg) _ | exact below_after_of hq (one_new _)
              clear hK K
              try simp only [Act.put, List.setIfInBounds_toArray, List.set_cons_zero, List.set_cons_succ]
              refine wpAnyH_done (by kernel_rfl) ?_ _
              refine ⟨rfl, _, a1, c1, a2, c2, rfl, ?_, ?_, ?_, hgg, hHeld⟩
              · first | exact PrD.set G | exact Pair.new _ _ _ _
              · first | exact own_mono (ownsRow_setCell_below (ownsRow_setCell_below own2 hg2 _) hg2 _) hm2 | exact own_mono (own_below I3 (one_new _)) hm2
              · intro k hk; have := hL2 k hk; first | omega | (simp at *; omega)
    rintro _ _ W14 ⟨rfl, g14, a13, c13, a14, c14, rfl, P14, o14, -, -, hb14⟩
    dsimp only
    have hb14' := below_after_of HB12.out hb14
    obtain ⟨Q2, -, k3, -, -, -⟩ := C11.out _ hb14'
    obtain ⟨p0, p1, p2⟩ := Q2
    obtain ⟨p3, p4, p5⟩ := P14
    clear q0 q1 q2 q3 q4 HBW hb14 HB12 hB12 HA12
    go_wp2_with fail
    refine (eqDirectoryResult_same code _ _ ys _ (own_rcs' o14) k3 (by omega)).mono ?_
    rintro e w15 ⟨rfl, hb15⟩
    have hb15' := below_after_of hb14' hb15
    obtain ⟨-, Q4, -, m15, -, hB15⟩ := C11.out _ hb15'
    clear p0 p1 p2 p3 p4 p5 o14 k3 hb14' hb15 hb15' C11
    obtain ⟨p3, p4, p5⟩ := Q4
    go_wp2_with fail
    refine (heldDirectoryResult_any code _ ys.length 1 _ m15 (by omega) (by omega)).mono ?_
    rintro e w16 ⟨rfl, hb16⟩
    have hB16 := below_after_of hB15 hb16
    clear m15 p3 p4 p5 hb16 hB15
    go_wp2
    go_ret
    exact ⟨rfl, hB16⟩
end U
end Go.Proofs.Ythmnjojjnlnbjaa

/- What every law's row asks behind its walk: the arguments and the named variables read as they did, for nothing that was there has turned. -/
namespace Go.Proofs.Ythmnjojjnlnbjaa
namespace U
open Go.ChangeShapes Go.WideShapes Go.ChangeAt Go.RowKit
section
variable {H : Type} {enc : TypeId × Value → H} {P : Program} {W W' : World}
theorem all_stays (hl : laidOutB P = true) (hb : Below W.heap.size W W') : ∀ (ts : List TypeId) (vs : List Value) (ds : List (DataW H)) (ps : List MemPlace), (∀ t ∈ ts, P.readableRec t = true ∧ t < P.types.size) →
    DataW.TrodAll enc P W 0 (fun _ => true) true ts vs ds ps → (∀ x ∈ ps, x.block < W.heap.size) → DataW.TrodAll enc P W' 0 (fun b => decide (b < W.heap.size)) true ts vs ds ps
  | [], [], [], _, _, h, _ => h
  | t :: ts, v :: vs, d :: ds, ps, ht, h, hlt => by
    obtain ⟨p, q, h1, h2, rfl⟩ := h
    have hp := ht t (by simp)
    exact ⟨p, q, Below.trod hl hp.1 hp.2 h1 hb (fun x hx => hlt x (by simp [hx])), all_stays hl hb ts vs ds q (fun t h => ht t (by simp [h])) h2 (fun x hx => hlt x (by simp [hx])), rfl⟩
  | [], [], _ :: _, _, _, h, _ => h.elim
  | [], _ :: _, _, _, _, h, _ => by cases h
  | _ :: _, [], _, _, _, h, _ => by cases h
  | _ :: _, _ :: _, [], _, _, h, _ => h.elim
theorem vars_stay (hl : laidOutB P = true) (hb : Below W.heap.size W W') : ∀ (ns : List String) (ds : List (DataW H)) (ps : List MemPlace), (∀ n ∈ ns, ∀ g t, P.globalNamed n = some g → (P.globals[g]?).map (·.type) = some t → P.readableRec t = true ∧ t < P.types.size) →
    DataW.TrodVars enc P W (fun _ => true) ns ds ps → (∀ x ∈ ps, x.block < W.heap.size) → DataW.TrodVars enc P W' (fun b => decide (b < W.heap.size)) ns ds ps
  | [], [], _, _, h, _ => h
  | n :: ns, d :: ds, ps, ht, h, hlt => by
    obtain ⟨g, t, cs, fuel, p, q, h1, h2, h3, h4, h5, rfl⟩ := h
    have hp := ht n (by simp) g t h1 h2
    have hg : g < W.heap.size := by
      have h3' := h3
      simp only [World.var?, h1, Option.bind_some] at h3'
      rcases hh : W.heap[g]? with _ | o
      · rw [hh] at h3'; cases h3'
      · exact (Array.getElem?_eq_some_iff.1 hh).1
    refine ⟨g, t, cs, fuel, p, q, h1, h2, var?_below hb h1 hg h3, ?_, vars_stay hl hb ns ds q (fun m hm => ht m (by simp [hm])) h5 (fun x hx => hlt x (by simp [hx])), rfl⟩
    exact DataW.trod_stays (kids_book hl hp.1) (book_sized hp.1) (fun h => by cases h) ⟨hp.2, book_self t⟩ h4 (fun x hx => hb.same (hlt x (by simp [hx]))) (fun x hx => by simpa using hlt x (by simp [hx]))
  | [], _ :: _, _, _, h, _ => h.elim
  | _ :: _, [], _, _, h, _ => h.elim
/-- A law that answered true and turned nothing. -/
theorem law_post {f : Func} {s : ChangeSpec} {apart : Bool} {args : Array Value} {ds gs : List (DataW H)} {before : List MemPlace} {tb : TypeId}
    (hW : DataW.Whole enc P f.params.toList s.vars apart W args.toList ds gs before) (hb : Below W.heap.size W W') (hl : laidOutB P = true)
    (ht : ∀ t ∈ f.params.toList, P.readableRec t = true ∧ t < P.types.size)
    (hv : ∀ n ∈ s.vars, ∀ g t, P.globalNamed n = some g → (P.globals[g]?).map (·.type) = some t → P.readableRec t = true ∧ t < P.types.size)
    (hr : f.resultTypes = #[tb]) (htb : P.underlying tb = some .bool)
    (hf1 : (s.fn H (ds ++ gs)).results = [.lit (.bool true)]) (hf2 : (s.fn H (ds ++ gs)).args = ds) (hf3 : (s.fn H (ds ++ gs)).vars = gs) :
    s.post enc P f apart true false false W args (.bool true) W' := by
  have hlt := hW.lt
  have hW2 := hW
  obtain ⟨p, q, hA, hV, rfl, _, _⟩ := hW
  refine ⟨ds, gs, p ++ q, [], p, q, hW2, ?_, ?_, ?_, hb.frame _, fun h => by cases h⟩
  · rw [hf1, hr]
    exact trodAll_cons_mk (shut_bool htb _) trodAll_mk0
  · rw [hf2]
    exact all_stays hl hb _ _ _ _ ht hA (fun x hx => hlt x (by simp [hx]))
  · rw [hf3]
    exact vars_stay hl hb _ _ _ hv hV (fun x hx => hlt x (by simp [hx]))
end
end U
end Go.Proofs.Ythmnjojjnlnbjaa

/- An argument that is a directory, opened: it reads as a list of records. -/
namespace Go.Proofs.Ythmnjojjnlnbjaa
namespace U
open Go.ChangeShapes Go.WideShapes Go.ChangeAt Go.RowKit
theorem rcs_field {H : Type} {enc : TypeId × Value → H} {P : Program} {W : World} {t e : TypeId} {f0 f1 f2 f3 : Field} {v : Value} {fuel : Nat} {x : DataW H × List MemPlace} (ht : P.underlying t = some (.slice e)) (he : P.underlying e = some (.struct #[f0, f1, f2, f3]))
    (ce : P.cellsOf e = 4) (hone : Go.Deep.oneCellFields P #[f0, f1, f2, f3] = true) (i0 : P.underlying f0.type = some .string) (i1 : P.underlying f1.type = some (.int .i64)) (i2 : P.underlying f2.type = some (.int .i64)) (i3 : P.underlying f3.type = some (.int .i64))
    (hf : DataW.trod enc P W 0 (fun _ => true) true fuel t [v] = some x) : ∃ l, Rcs W v l ∧ l.length ≤ maxLen ∧ LbM l := by
  rcases Go.Deep.open_slice ht hf with ⟨hcs, hx⟩ | ⟨a, len, cap, m, n, D, Pl, hcs, hb, hl, hm, hmm, hx, hcell⟩
  · have e1 : v = .slice none 0 0 := by simpa using hcs
    subst e1
    exact ⟨[], Rcs.nil _ _ _, by simp, fun r hr => by cases hr⟩
  · have e1 : v = .slice (some a) len cap := by simpa using hcs
    subst e1
    rw [if_pos rfl] at hmm
    subst hmm
    by_cases h0 : len = 0
    · subst h0
      exact ⟨[], Rcs.nil _ _ _, by simp, fun r hr => by cases hr⟩
    · have each : ∀ i, i < len → ∃ r : Rc, W.cell? (a.add (i * 4)) = some (.string r.l) ∧ W.cell? (a.add (i * 4 + 1)) = some (.int .i64 r.v) ∧ W.cell? (a.add (i * 4 + 2)) = some (.int .i64 r.o) ∧ W.cell? (a.add (i * 4 + 3)) = some (.int .i64 r.p) ∧ r.l.size ≤ maxLen := by
        intro i hi
        obtain ⟨cs', h1, h2⟩ := hcell i (by omega)
        rw [ce] at h1
        obtain ⟨_, hlen, hc⟩ := World.cells?_some h1
        obtain ⟨y0, y1, y2, y3, k, -, -, t0, t1, t2, t3⟩ := Joins.trod_struct4 he h2
        obtain ⟨o0, k0⟩ := Go.Deep.hone_of hone 0 f0 rfl
        obtain ⟨o1, k1⟩ := Go.Deep.hone_of hone 1 f1 rfl
        obtain ⟨o2, k2⟩ := Go.Deep.hone_of hone 2 f2 rfl
        obtain ⟨o3, k3⟩ := Go.Deep.hone_of hone 3 f3 rfl
        match cs', hlen with
        | [v0, v1, v2, v3], _ =>
          have g0 : DataW.trod enc P W 0 (fun _ => true) true k f0.type [v0] = some y0 := by simpa [o0, k0] using t0
          have g1 : DataW.trod enc P W 0 (fun _ => true) true k f1.type [v1] = some y1 := by simpa [o1, k1] using t1
          have g2 : DataW.trod enc P W 0 (fun _ => true) true k f2.type [v2] = some y2 := by simpa [o2, k2] using t2
          have g3 : DataW.trod enc P W 0 (fun _ => true) true k f3.type [v3] = some y3 := by simpa [o3, k3] using t3
          obtain ⟨s, hs0, -, hs⟩ := DataW.trod_string i0 g0
          obtain ⟨n1, hn1, -, -⟩ := DataW.trod_int i1 g1
          obtain ⟨n2, hn2, -, -⟩ := DataW.trod_int i2 g2
          obtain ⟨n3, hn3, -, -⟩ := DataW.trod_int i3 g3
          have e0 := hc 0 (by omega)
          have e1 := hc 1 (by omega)
          have e2 := hc 2 (by omega)
          have e3 := hc 3 (by omega)
          rw [Go.Deep.add_add] at e0 e1 e2 e3
          simp at hs0 hn1 hn2 hn3
          subst hs0 hn1 hn2 hn3
          exact ⟨⟨s, n1, n2, n3⟩, by simpa using e0, by simpa using e1, by simpa using e2, by simpa using e3, hs⟩
      obtain ⟨b, off, spot⟩ := a
      have hspot : spot = none := by
        obtain ⟨r, h1, -⟩ := each 0 (by omega)
        simpa [Addr.add] using World.cell?_spot h1
      subst hspot
      have each2 : ∀ i, i < len → ∃ r : Rc, RecS W b (off + i * 4) r ∧ r.l.size ≤ maxLen := fun i hi => by
        obtain ⟨r, h⟩ := each i hi
        simp only [add_plain] at h
        exact ⟨r, ⟨h.1, by rw [Nat.add_assoc]; exact h.2.1, by rw [Nat.add_assoc]; exact h.2.2.1, by rw [Nat.add_assoc]; exact h.2.2.2.1⟩, h.2.2.2.2⟩
      obtain ⟨q, hq⟩ : ∃ q : Nat → Rc, ∀ i, i < len → RecS W b (off + i * 4) (q i) ∧ (q i).l.size ≤ maxLen := by
        refine ⟨fun i => if h : i < len then Classical.choose (each2 i h) else rcZ, fun i hi => ?_⟩
        show RecS W b (off + i * 4) (if h : i < len then Classical.choose (each2 i h) else rcZ) ∧ (if h : i < len then Classical.choose (each2 i h) else rcZ).l.size ≤ maxLen
        rw [dif_pos hi]
        exact Classical.choose_spec (each2 i hi)
      have hbb : b < W.heap.size := (hq 0 (by omega)).1.lt
      refine ⟨(List.range len).map q, Or.inr ⟨b, off, _, by simp; rfl, hbb, fun j hj => ?_⟩, by simp; omega, fun r hr => ?_⟩
      · have hj' : j < len := by simpa using hj
        have e2 : rAt ((List.range len).map q) j = q j := by rw [rAt_eq hj]; simp
        rw [e2]
        exact (hq j hj').1
      · obtain ⟨i, hi, rfl⟩ := List.mem_map.1 hr
        exact (hq i (List.mem_range.1 hi)).2
theorem dr_arg {H : Type} {enc : TypeId × Value → H} {P : Program} {W : World} {base : Nat} {td e : TypeId} {g f0 f1 f2 f3 : Field} {v : Value} {d : DataW H} {p : List MemPlace} (hd : P.underlying td = some (.struct #[g])) (hgo : Go.Deep.oneCellFields P #[g] = true) (cd : P.cellsOf td = 1) (ht : P.underlying g.type = some (.slice e)) (he : P.underlying e = some (.struct #[f0, f1, f2, f3]))
    (ce : P.cellsOf e = 4) (hone : Go.Deep.oneCellFields P #[f0, f1, f2, f3] = true) (i0 : P.underlying f0.type = some .string) (i1 : P.underlying f1.type = some (.int .i64)) (i2 : P.underlying f2.type = some (.int .i64)) (i3 : P.underlying f3.type = some (.int .i64))
    (hv : Value.okWide P W .any base td v) (h : DataW.Trod enc P W 0 (fun _ => true) true td v d p) : ∃ u l, v = .agg #[u] ∧ Rcs W u l ∧ l.length ≤ maxLen ∧ LbM l := by
  obtain ⟨cs, rfl, hsz⟩ := okWide_struct hd hv
  rw [cd] at hsz
  obtain ⟨u, rfl⟩ : ∃ u, cs = #[u] := by
    obtain ⟨l⟩ := cs
    match l, hsz with
    | [u], _ => exact ⟨u, rfl⟩
  obtain ⟨fuel, hf⟩ := h
  obtain ⟨xs, n, _, -, hl, hlen, hfs⟩ := DataW.trod_struct hd hf
  have h0 := hfs 0 g rfl
  obtain ⟨o0, k0⟩ := Go.Deep.hone_of hgo 0 g rfl
  match xs, hlen with
  | [y0], _ =>
    have g0 : DataW.trod enc P W 0 (fun _ => true) true n g.type [u] = some y0 := by simpa [Value.cells, o0, k0] using h0
    obtain ⟨l, h1, h2, h3⟩ := rcs_field ht he ce hone i0 i1 i2 i3 g0
    exact ⟨u, l, rfl, h1, h2, h3⟩
end U
end Go.Proofs.Ythmnjojjnlnbjaa

/- An argument that is a slice of numbers, opened: it reads as a list. -/
namespace Go.Proofs.Ythmnjojjnlnbjaa
namespace U
open Go.ChangeShapes Go.WideShapes Go.ChangeAt Go.RowKit
theorem ints_arg {H : Type} {enc : TypeId × Value → H} {P : Program} {W : World} {base : Nat} {t e : TypeId} {k : IntKind} {v : Value} {d : DataW H} {p : List MemPlace} (ht : P.underlying t = some (.slice e)) (he : P.underlying e = some (.int k)) (hce : P.cellsOf e = 1)
    (hv : Value.okWide P W .any base t v) (h : DataW.Trod enc P W 0 (fun _ => true) true t v d p) : ∃ xs, Ints k W v xs ∧ xs.length ≤ maxLen ∧ ∀ n ∈ xs, (Lit.int k n).wf = true := by
  obtain ⟨a0, len, cap, rfl⟩ := okWide_slice ht hv
  obtain ⟨fuel, hf⟩ := h
  rcases open_ints ht he hce hf with ⟨hcs, hx⟩ | ⟨a, len', cap', zs, hcs, h1, hl, hm, hz, hx, hcell, hwz⟩
  · have e1 : (Value.slice a0 len cap) = .slice none 0 0 := by simpa [Value.cells] using hcs
    cases e1
    exact ⟨[], Or.inl ⟨rfl, none, 0, rfl⟩, by simp, by simp⟩
  · have e1 : (Value.slice a0 len cap) = .slice (some a) len' cap' := by simpa [Value.cells] using hcs
    cases e1
    rw [if_pos rfl] at hz
    by_cases h0 : len = 0
    · subst h0
      exact ⟨[], Or.inl ⟨rfl, _, _, rfl⟩, by simp, by simp⟩
    · obtain ⟨b, off, rfl, hc⟩ := ints_at hcell (by omega)
      have hlen : (zs.take len).length = len := by rw [List.length_take]; omega
      have hb : b < W.heap.size := by
        have := hc 0 (by omega)
        rcases hh : W.heap[b]? with _ | o
        · simp [World.cell?, hh] at this
        · exact (Array.getElem?_eq_some_iff.1 hh).1
      refine ⟨zs.take len, Or.inr ⟨b, off, cap, by rw [hlen], hb, fun j hj => ?_⟩, by omega, fun n hn => hwz n (List.mem_of_mem_take hn)⟩
      rw [hlen] at hj
      rw [hc j (by omega)]
      congr 2
      simp only [List.getD_eq_getElem?_getD, List.getElem?_take, if_pos hj]
end U
end Go.Proofs.Ythmnjojjnlnbjaa

/- A field of an argument that is a slice of numbers, opened: it reads as a list. -/
namespace Go.Proofs.Ythmnjojjnlnbjaa
namespace U
open Go.ChangeShapes Go.WideShapes Go.ChangeAt Go.RowKit
theorem ints_field {H : Type} {enc : TypeId × Value → H} {P : Program} {W : World} {t e : TypeId} {k : IntKind} {v : Value} {x : DataW H × List MemPlace} {fuel : Nat} (ht : P.underlying t = some (.slice e)) (he : P.underlying e = some (.int k)) (hce : P.cellsOf e = 1)
    (hf : DataW.trod enc P W 0 (fun _ => true) true fuel t [v] = some x) : ∃ xs, Ints k W v xs ∧ xs.length ≤ maxLen ∧ ∀ n ∈ xs, (Lit.int k n).wf = true := by
  rcases open_ints ht he hce hf with ⟨hcs, hx⟩ | ⟨a, len, cap, zs, hcs, h1, hl, hm, hz, hx, hcell, hwz⟩
  · have e1 : v = .slice none 0 0 := by simpa using hcs
    exact ⟨[], Or.inl ⟨rfl, none, 0, e1⟩, by simp, by simp⟩
  · have e1 : v = .slice (some a) len cap := by simpa using hcs
    subst e1
    rw [if_pos rfl] at hz
    by_cases h0 : len = 0
    · subst h0
      exact ⟨[], Or.inl ⟨rfl, _, _, rfl⟩, by simp, by simp⟩
    · obtain ⟨b, off, rfl, hc⟩ := ints_at hcell (by omega)
      have hlen : (zs.take len).length = len := by rw [List.length_take]; omega
      have hb : b < W.heap.size := by
        have := hc 0 (by omega)
        rcases hh : W.heap[b]? with _ | o
        · simp [World.cell?, hh] at this
        · exact (Array.getElem?_eq_some_iff.1 hh).1
      refine ⟨zs.take len, Or.inr ⟨b, off, cap, by rw [hlen], hb, fun j hj => ?_⟩, by omega, fun n hn => hwz n (List.mem_of_mem_take hn)⟩
      rw [hlen] at hj
      rw [hc j (by omega)]
      congr 2
      simp only [List.getD_eq_getElem?_getD, List.getElem?_take, if_pos hj]
end U
end Go.Proofs.Ythmnjojjnlnbjaa

/- The law FnExactUpdateRecord holds at every argument: it answers true, and the arguments read as they did. -/
namespace Go.Proofs.Ythmnjojjnlnbjaa
namespace fnExactUpdateRecord
open Go.ChangeShapes Go.WideShapes Go.ChangeAt Go.RowKit

theorem laidOut : laidOutB Try.prog = true := by kernel_rfl
theorem own : ownKnob Try.prog.godebug = none := by kernel_rfl

set_option maxRecDepth 100000 in
theorem lifted (os : Os) (started : os.Started) (H : Type) (enc : TypeId × Value → H) :
    ReturnsInHanded {} Try.checked os 8 .any (Rows.fnExactUpdateRecordSpec.pre6 enc Try.prog Try.f8 Rows.fnExactUpdateRecordRow.domain false) (Rows.fnExactUpdateRecordSpec.post enc Try.prog Try.f8 false true false false) := by
  refine returnsInHanded_of_change (C := Try.checked) own started (by kernel_rfl) Try.func8
    (ChangeSpec.witness6 (enc := enc) (C := Try.checked) false ⟨#[], #[.agg #[.slice none 0 0], .agg #[.string ByteArray.empty, .int .i64 0, .int .i64 0, .int .i64 0], .int .i64 0], []⟩ 8 (by kernel_rfl) (by kernel_rfl) (by kernel_rfl) (by kernel_rfl)) ?_
  intro W base args ds gs before hval0 hW hcnd _
  have hval : ∀ (j : Nat) t v, Try.f8.params[j]? = some t → args[j]? = some v → Value.okWide Try.prog W .any base t v := hval0
  have hW' := hW
  obtain ⟨p, q, hA0, hV, rfl, hfz, hnd⟩ := hW
  have hA : DataW.TrodAll enc Try.prog W 0 (fun _ => true) true Try.f8.params.toList args.toList ds p := hA0
  rw [Try.params8] at hA hval
  obtain ⟨v0, vs0, d0, ds0, p0, q0, hargs0, rfl, rfl, h0, r0⟩ := trodAll_cons hA
  obtain ⟨v1, vs1, d1, ds1, p1, q1, hargs1, rfl, rfl, h1, r1⟩ := trodAll_cons r0
  obtain ⟨v2, vs2, d2, ds2, p2, q2, hargs2, rfl, rfl, h2, r2⟩ := trodAll_cons r1
  obtain ⟨rfl, rfl, rfl⟩ := trodAll_nil r2
  obtain rfl : args = #[v0, v1, v2] := by cases args; simp_all
  obtain ⟨rfl, rfl⟩ := trodVars_none hV
  obtain ⟨u0, l0, rfl, hl0, hlen0, hlb0⟩ := U.dr_arg Try.underlying65 (by kernel_rfl) (by kernel_rfl) Try.underlying63 Try.underlying73 (by kernel_rfl) (by kernel_rfl) Try.underlying9 Try.underlying2 Try.underlying2 Try.underlying2 (hval 0 65 v0 rfl rfl) h0
  obtain ⟨e10, e11, e12, e13, y10, y11, y12, y13, fuel1, rfl, rfl, rfl, t10, t11, t12, t13⟩ := Joins.open_agg4 Try.underlying73 (by kernel_rfl) (by kernel_rfl) (hval 1 73 v1 rfl rfl) h1
  obtain ⟨s1, hs10, -, hs1⟩ := DataW.trod_string Try.underlying9 t10
  obtain rfl : e10 = .string s1 := by simpa using hs10
  obtain ⟨n11, hn11, -, -⟩ := DataW.trod_int Try.underlying2 t11
  obtain rfl : e11 = .int .i64 n11 := by simpa using hn11
  obtain ⟨n12, hn12, -, -⟩ := DataW.trod_int Try.underlying2 t12
  obtain rfl : e12 = .int .i64 n12 := by simpa using hn12
  obtain ⟨n13, hn13, -, -⟩ := DataW.trod_int Try.underlying2 t13
  obtain rfl : e13 = .int .i64 n13 := by simpa using hn13
  obtain ⟨n2, rfl, rfl, rfl, -⟩ := open_int Try.underlying2 (hval 2 2 v2 rfl rfl) h2
  clear hA0 hval0
  refine (U.fnExactUpdateRecord_walk u0 l0 s1 n11 n12 n13 n2 W hl0 hlen0 hlb0 hs1).mono fun e W' ⟨he, hg⟩ => ?_
  subst he
  refine ⟨_, rfl, U.law_post (tb := 4) hW' hg laidOut ?_ (fun n hn => by cases hn) (by kernel_rfl) Try.underlying4 rfl rfl rfl⟩
  rw [Try.params8]; intro t ht; simp at ht; rcases ht with rfl | rfl | rfl <;> exact ⟨by kernel_rfl, of_decide_eq_true (by kernel_rfl)⟩

theorem over : Rows.fnExactUpdateRecordRow.holds Try.pinned (OpenSpec.ofChange Rows.fnExactUpdateRecordSpec) :=
  OpenClaim.holds_of_wide 8 Try.f8 rfl rfl rfl rfl rfl rfl rfl ⟨rfl, rfl, rfl, rfl, rfl⟩ rfl rfl rfl rfl rfl (by kernel_rfl) Try.func8 (by kernel_rfl)
    (of_decide_eq_true (by kernel_rfl)) (by unfold Func.isWrapper; first | (rw [if_pos (by decide +kernel)]; kernel_rfl) | (rw [if_neg (by decide +kernel)]; exact ⟨rfl, rfl⟩))
    (fun os started H enc _ => lifted os started H enc)
end fnExactUpdateRecord
/-- The law FnExactUpdateRecord: whatever the arguments, the call returns true and they read as before. -/
theorem fnExactUpdateRecord_holds : Rows.FnExactUpdateRecordSaid := fnExactUpdateRecord.over
#print axioms fnExactUpdateRecord_holds
end Go.Proofs.Ythmnjojjnlnbjaa
