/- Joined: what the texts behind it need. -/
import Derived.Test.YtjhmfaibpnagcaaGreatGBB
import Derived.Deep.Trees
import Derived.Test.YtjhmfaibpnagcaaGreatGBA
import Derived.Handy
import Derived.Lib.Walk
import Derived.Lib.BitFns
import Derived.WalkLawsBesides
import Derived.Test.YtjhmfaibpnagcaaGreatRows
import Derived.WalkKit
import Derived.ProofKit
import Derived.OpenShut
import Derived.ShutString
import Derived.WalkSmall
import Derived.Deep.SlicePairs
import Derived.Lib.SmallJoins
import Derived.Maps.OwnSet
import Derived.Maps.Ext
import Derived.Deep.RegionHeld3
import Derived.Test.YtjhmfaibpnagcaaGreatShelf
/- The sum of a part, and the root, as the program makes them. -/
namespace Go.Proofs.YtjhmfaibpnagcaaGreat
open Go.RowKit
namespace U
theorem rows_pls {l : Prl} (h : Ris l) (hf : ∀ p ∈ l, fine p = true) (n : Nat) : Pls (rows l n) := by
  have h0 : ∀ p ∈ l, 0 ≤ p.1 := fun p hp => (fine_bd (hf p hp)).1.1
  intro p hp
  have h1 := rows_bd h h0 n p hp
  obtain ⟨p', hp', e⟩ := ((rows_row h h0 n).2 p.1).1 ⟨p.2, hp⟩
  have h2 := (fine_bd (hf p' hp')).1
  have h3 : p'.1 / (2 ^ n : Nat) ≤ p'.1 := Int.ediv_le_self _ h2.1
  exact ⟨⟨h1.1, by omega⟩, h1.2⟩
theorem own_cap {w : World} {B : Nat} {e : TypeId} {v : Value} {m : Nat} {xs : List Value} (h : w.ownsRow B e 2 v m xs) : ∀ a n c, v = .slice a n c → n ≤ c := by
  intro a n c hv
  subst hv
  rcases h.2 with ⟨h1, _⟩ | ⟨g, cap, cur, h1, _, _, hc, _⟩
  · cases h1; omega
  · cases h1; exact hc
theorem prt_nil {l : Prl} {n : Nat} (h : (rows l n).length = 0) : prt l n = emp n := by
  unfold prt
  rw [List.eq_nil_of_length_eq_zero h]
theorem prt_cons {l : Prl} {n : Nat} (h : 0 < (rows l n).length) : prt l n = (pAt (rows l n) 0).2 := by
  unfold prt
  rcases hr : rows l n with _ | ⟨p, t⟩
  · rw [hr] at h; simp at h
  · simp [pAt]
set_option maxRecDepth 100000 in
set_option maxHeartbeats 4000000 in
theorem partSum_any (v : Value) (l : Prl) (n : Nat) (w : World) (hv : Prs w v l) (hl : l.length ≤ 12) (hr : Ris l) (hf : ∀ p ∈ l, fine p = true) (hn : n ≤ 8) :
    Calls Tryz.prog 189 #[v, .int .i64 (n : Int), .agg (arrA emp)] w fun e w' => e = .returned (.int .i64 (prt l n)) ∧ Below w.heap.size w w' := by
  have hL := fun o => leafRow_any v l _ (hv.below (one_new o)) hl hf
  obtain ⟨ad, c, rfl⟩ := hv.shape
  generalize l.length = len at hv ⊢ hL
  have HL : Hid (l.length ≤ 12) := hl
  have HR : Hid (Ris l) := hr
  have HF : Hid (∀ p ∈ l, fine p = true) := hf
  have A0 := ArrAt.of (f := emp) (heap_alloc_new w (.cells (arrA emp) 243))
  clear hv hr hf hl
  go_enter Tryz.func189, Tryz.ntmps189
  go_wp2_with fail
  refine (hL _).mono ?_
  rintro e w1 ⟨v1, rfl, ho1, hb1⟩
  rw [World.size_alloc] at ho1
  have A1 := A0.below hb1 (by simp)
  have hB1 := below_after hb1
  have hz1 : w.heap.size < w1.heap.size := by have := hb1.size; simp at this; omega
  have HA1 : Hid (ArrAt w1 w.heap.size emp) := A1
  have HB1 : Hid (Below w.heap.size w w1) := hB1
  have HO1 : Hid (w1.ownsRow (w.heap.size + 1) 280 2 v1 (rows l 0).length ((fl (rows l 0)).map (Value.int .i64))) := ho1
  clear hL A0 A1 hb1 ho1 hB1
  go_wp2
  go_loopw [7, 12] (fun u i wr => ∃ k : Nat, k ≤ n ∧ i = .int .i64 k ∧ w.heap.size < wr.heap.size ∧ Hid (Below w.heap.size w wr) ∧ Hid (ArrAt wr w.heap.size emp) ∧ Hid (wr.ownsRow (w.heap.size + 1) 280 2 u (rows l k).length ((fl (rows l k)).map (Value.int .i64)))) (fun _ i _ => n - (intOf i).toNat)
  case atStart => exact ⟨0, Nat.zero_le _, rfl, hz1, HB1, HA1, HO1⟩
  case round =>
    obtain ⟨k, hk, rfl, hz, HB, HA, HO⟩ := hrel
    have hprs := own_prs HO.out
    have hcap := own_cap HO.out
    obtain ⟨a', c', rfl⟩ := own_shape2 HO.out
    by_cases hkn : k < n
    · have hki : (k : Int) < (n : Int) := by omega
      have hk9 : (k : Int) < 9 := by omega
      have hk0 : (0 : Int) ≤ (k : Int) := by omega
      have ck := HA.out.c k (by omega)
      have hR := rowAbove_any _ (rows l k) (emp k) wr hprs hcap (Nat.le_trans (rows_len l k) HL.out) (emp_bd k) (rows_pls HR.out HF.out k)
      have e1 : abv (emp k) (rows l k) = rows l (k + 1) := rfl
      rw [e1] at hR
      obtain ⟨r2, hr2⟩ : ∃ r2, r2 = rows l (k + 1) := ⟨_, rfl⟩
      have HR2 : Hid (rows l (k + 1) = r2) := hr2.symm
      rw [← hr2] at hR
      clear hr2 e1
      generalize emp k = x at *
      generalize (rows l k).length = m at *
      clear hprs hcap HO
      go_wp2_with fail
      refine hR.mono ?_
      rintro e w2 ⟨v2, rfl, ho2, hb2⟩
      have hB2 := below_after_of HB.out hb2
      have A2 := HA.out.below hb2 hz
      have ho3 := own_mono ho2 (show w.heap.size + 1 ≤ wr.heap.size by omega)
      have hz2 := hb2.size
      clear hR hb2 ho2 ck
      go_wp2
      go_roundw
      case rel => exact ⟨k + 1, by omega, by go_num, by omega, hB2, A2, by rw [HR2.out]; exact ho3⟩
      case measure => simp [intOf]; omega
    · have hkn : k = n := by omega
      subst hkn
      have hki : ¬ (k : Int) < (k : Int) := by omega
      have hk9 : (k : Int) < 9 := by omega
      have hk0 : (0 : Int) ≤ (k : Int) := by omega
      have ck := HA.out.c k (by omega)
      have HZ : Hid ((rows l k).length = 0 → prt l k = emp k) := prt_nil
      have HC : Hid (0 < (rows l k).length → prt l k = (pAt (rows l k) 0).2) := prt_cons
      by_cases h0 : (rows l k).length = 0
      · have e1 := HZ.out h0
        have E1 : Hid (prt l k = emp k) := e1
        rw [h0]
        generalize emp k = x at *
        clear hprs hcap e1
        go_wp2
        go_ret
        exact ⟨ret_int E1.out.symm, HB.out⟩
      · obtain ⟨-, b, off, rfl, hb, hc⟩ := hprs.at (by omega)
        have g1 := (hc 0 (by omega)).2
        have E1 : Hid (prt l k = (pAt (rows l k) 0).2) := HC.out (by omega)
        simp only [Nat.zero_mul, Nat.add_zero] at g1
        generalize (pAt (rows l k) 0).2 = y at *
        have hm1 : 0 < (rows l k).length := by omega
        have hm2 : ¬ ((rows l k).length : Int) = 0 := by omega
        have hm3 : (0 : Int) < ((rows l k).length : Int) := by omega
        generalize (rows l k).length = m at *
        clear hprs hcap hc HZ HC ck
        go_wp2
        go_ret
        exact ⟨ret_int E1.out.symm, HB.out⟩
theorem cut_whole {l : Prl} (hf : ∀ p ∈ l, fine p = true) : ∀ p ∈ l, p.1 / (2 ^ 8 : Nat) = 0 := fun p hp => by
  have := (fine_bd (hf p hp)).1
  show p.1 / 256 = 0
  omega
/-- The code and the value of the root. -/
def orC (l : Prl) : Int := slF l
def orV (l : Prl) : Int := if slF l = 0 then nd l 8 0 else 0
set_option maxRecDepth 100000 in
set_option maxHeartbeats 1000000 in
theorem implOldRoot_any (v : Value) (l : Prl) (w : World) (hv : Prs w v l) (hx : l.length ≤ 1099511627776) :
    Calls Tryz.prog 150 #[v] w fun e w' => IntAns w (orC l) (orV l) e w' := by
  have hF := fun w' h => implSlotsFault_any v l w' (hv.below h) hx
  have hE := fun w => emptySums_any w
  unfold orC orV
  by_cases h0 : slF l = 0
  · have hs := slF_ok h0
    have hP := fun w' h => partSum_any v l 8 w' (hv.below h) hs.len hs.ris hs.fin (by omega)
    have e1 : prt l 8 = nd l 8 0 := prt_nd hs.ris hs.pos (cut_whole hs.fin)
    rw [e1] at hP
    rw [if_pos h0, h0]
    rw [h0] at hF
    obtain ⟨ad, c, rfl⟩ := hv.shape
    generalize nd l 8 0 = x at *
    generalize l.length = n at *
    generalize arrA emp = A at *
    clear hv e1 h0 hs
    go_enter Tryz.func150, Tryz.ntmps150
    go_wp2_with fail
    refine (hF _ (one_new _)).mono ?_
    rintro e w1 ⟨rfl, hb1⟩
    clear hF
    go_wp2_with fail
    refine (hE _).mono ?_
    rintro e w2 ⟨rfl, hb2⟩
    have hb2' := below_after_of hb1 hb2
    clear hE
    go_wp2_with fail
    refine (hP _ (below_after hb2')).mono ?_
    rintro e w3 ⟨rfl, hb3⟩
    have hb3' := below_after_of hb2' hb3
    obtain ⟨g0, g1, f0, f1⟩ := two_cellsV ((hb3'.block w.heap.size (by simp)).trans (heap_alloc_new w _))
    have hB3 := below_after hb3'
    clear hP hb1 hb2 hb3 hb2' hb3'
    go_wp2
    exact bodyPost_ret (v := .agg #[.int .i64 0, .int .i64 x]) (by simp [results, Tryz.results150, go_sem, *]) rfl ⟨rfl, (hB3.setCell (by simp) _).setCell (by simp) _⟩
  · rw [if_neg h0]
    obtain ⟨ad, c, rfl⟩ := hv.shape
    generalize slF l = f at *
    generalize l.length = n at *
    have hfn : (f != 0) = true := by simpa using h0
    clear hv hE h0
    go_enter Tryz.func150, Tryz.ntmps150
    go_wp2_with fail
    refine (hF _ (one_new _)).mono ?_
    rintro e w1 ⟨rfl, hb1⟩
    obtain ⟨g0, g1, f0, f1⟩ := two_cellsV ((hb1.block w.heap.size (by simp)).trans (heap_alloc_new w _))
    have hB1 := below_after hb1
    clear hF hb1
    go_wp2
    exact bodyPost_ret (v := .agg #[.int .i64 f, .int .i64 0]) (by simp [results, Tryz.results150, go_sem, *]) rfl ⟨rfl, (hB1.setCell (by simp) _).setCell (by simp) _⟩
set_option maxRecDepth 100000 in
theorem l4Root_any (v : Value) (l : Prl) (w : World) (hv : Prs w v l) (hl : l.length ≤ 1048576) (hf : ∀ p ∈ l, fine p = true) :
    Calls Tryz.prog 142 #[v] w fun e w' => e = .returned (.int .i64 (nd l 8 0)) ∧ Below w.heap.size w w' := by
  have hN := fun w' h => l4Node_8 v l 0 0 w' (hv.below h) hl hf (by show _ = _; rfl) (by omega)
  obtain ⟨ad, c, rfl⟩ := hv.shape
  generalize nd l 8 0 = x at *
  generalize l.length = n at *
  clear hv hf
  go_enter Tryz.func142, Tryz.ntmps142
  go_wp2_with fail
  refine (hN _ (Below.refl _ _)).mono ?_
  rintro e w1 ⟨rfl, hb1⟩
  clear hN
  go_wp2
  go_ret
  exact ⟨rfl, hb1⟩
end U
end Go.Proofs.YtjhmfaibpnagcaaGreat

/- The new tree, by mathematics alone: the fork bit of slots, both sides of it, the tree, its pieces and sums, its forks, and where a key is led. -/
namespace Go.Proofs.YtjhmfaibpnagcaaGreat
namespace U
/-- Bit number b of a number. -/
def bitN (k : Int) (b : Nat) : Int := k / (2 ^ b : Nat) % 2
theorem bitN_bd (k : Int) (b : Nat) : bitN k b = 0 ∨ bitN k b = 1 := by unfold bitN; omega
/-- The slots that have a bit. -/
def sd (l : Prl) (b : Nat) (s : Int) : Prl := l.filter fun p => decide (bitN p.1 b = s)
theorem sd_mem {l : Prl} {b : Nat} {s : Int} {p : Int × Int} : p ∈ sd l b s ↔ p ∈ l ∧ bitN p.1 b = s := by
  unfold sd; rw [List.mem_filter, decide_eq_true_iff]
theorem sd_ris {l : Prl} (h : Ris l) (b : Nat) (s : Int) : Ris (sd l b s) := List.Pairwise.filter _ h
theorem sd_len (l : Prl) (b : Nat) (s : Int) : (sd l b s).length ≤ l.length := List.length_filter_le _ _
theorem sd_lt {l : Prl} {b : Nat} {s : Int} {p : Int × Int} (hp : p ∈ l) (h : bitN p.1 b ≠ s) : (sd l b s).length < l.length := by
  unfold sd
  rw [List.length_filter_lt_length_iff_exists]
  exact ⟨p, hp, by simpa using h⟩
theorem sd_sls {l : Prl} (h : Sls l) (b : Nat) (s : Int) : Sls (sd l b s) :=
  ⟨Nat.le_trans (sd_len l b s) h.len, sd_ris h.ris b s, fun p hp => h.fin p (sd_mem.1 hp).1⟩
/-- The number of the highest bit in which not all are the same. -/
structure FB (l : Prl) (b : Nat) : Prop where
  le : b ≤ 7
  top : ∀ p ∈ l, p.1 / (2 ^ (b + 1) : Nat) = (pAt l 0).1 / (2 ^ (b + 1) : Nat)
  lo : bitN (pAt l 0).1 b = 0
  hi : bitN (pAt l (l.length - 1)).1 b = 1
theorem ris_first {l : Prl} (h : Ris l) {p : Int × Int} (hp : p ∈ l) : (pAt l 0).1 ≤ p.1 := by
  obtain ⟨i, hi, rfl⟩ := List.getElem_of_mem hp
  rw [← pAt_eq hi]
  rcases Nat.eq_zero_or_pos i with rfl | h0
  · exact Int.le_refl _
  · exact Int.le_of_lt (ris_at h h0 hi)
theorem ris_last {l : Prl} (h : Ris l) {p : Int × Int} (hp : p ∈ l) : p.1 ≤ (pAt l (l.length - 1)).1 := by
  obtain ⟨i, hi, rfl⟩ := List.getElem_of_mem hp
  rw [← pAt_eq hi]
  by_cases e : i = l.length - 1
  · rw [← e]; exact Int.le_refl _
  · exact Int.le_of_lt (ris_at h (by omega) (by omega))
theorem pAt_mem {l : Prl} {i : Nat} (h : i < l.length) : pAt l i ∈ l := by rw [pAt_eq h]; exact List.getElem_mem _
theorem ediv_le {x y : Int} (h : x ≤ y) (n : Nat) : x / (2 ^ n : Nat) ≤ y / (2 ^ n : Nat) := Int.ediv_le_ediv (pow_pos n) h
theorem fb_aux {x y : Int} (h : x < y) : ∀ n : Nat, x / (2 ^ n : Nat) = y / (2 ^ n : Nat) → ∃ b, b < n ∧ x / (2 ^ (b + 1) : Nat) = y / (2 ^ (b + 1) : Nat) ∧ x / (2 ^ b : Nat) ≠ y / (2 ^ b : Nat) := by
  intro n
  induction n with
  | zero => intro h1; simp at h1; omega
  | succ n ih =>
    intro h1
    by_cases e : x / (2 ^ n : Nat) = y / (2 ^ n : Nat)
    · obtain ⟨b, h2, h3⟩ := ih e
      exact ⟨b, by omega, h3⟩
    · exact ⟨n, by omega, h1, e⟩
theorem fb_of {l : Prl} {b : Nat} (h : Ris l) (hb : b ≤ 7) (h2 : 2 ≤ l.length) (e1 : (pAt l 0).1 / (2 ^ (b + 1) : Nat) = (pAt l (l.length - 1)).1 / (2 ^ (b + 1) : Nat)) (e2 : (pAt l 0).1 / (2 ^ b : Nat) ≠ (pAt l (l.length - 1)).1 / (2 ^ b : Nat)) : FB l b := by
  have h3 := ediv_le (Int.le_of_lt (ris_at h (show 0 < l.length - 1 by omega) (by omega))) b
  have e3 := e1
  rw [div_succ, div_succ] at e3
  refine ⟨hb, fun p hp => ?_, ?_, ?_⟩
  · have h4 := ediv_le (ris_first h hp) (b + 1)
    have h5 := ediv_le (ris_last h hp) (b + 1)
    omega
  · unfold bitN; omega
  · unfold bitN; omega
theorem fb_ex {l : Prl} (h : Sls l) (h2 : 2 ≤ l.length) : ∃ b, FB l b := by
  have h3 := ris_at h.ris (show 0 < l.length - 1 by omega) (by omega)
  have h4 := (h.at (show 0 < l.length by omega)).1
  have h5 := (h.at (show l.length - 1 < l.length by omega)).1
  have h6 : (pAt l 0).1 / (2 ^ 8 : Nat) = (pAt l (l.length - 1)).1 / (2 ^ 8 : Nat) := by
    show _ / 256 = _ / 256
    omega
  obtain ⟨b, hb, e1, e2⟩ := fb_aux h3 8 h6
  exact ⟨b, fb_of h.ris (by omega) h2 e1 e2⟩
theorem fb_mid {l : Prl} {b : Nat} (h : FB l b) (h0 : 0 < l.length) {p : Int × Int} (hp : p ∈ l) : p.1 / (2 ^ b : Nat) = (pAt l (l.length - 1)).1 / (2 ^ b : Nat) - 1 + bitN p.1 b := by
  have h1 := h.top p hp
  have h2 := h.top _ (pAt_mem (show l.length - 1 < l.length by omega))
  have h3 := h.hi
  rw [div_succ, div_succ] at h1 h2
  unfold bitN at *
  omega
theorem fb_uniq {l : Prl} {b c : Nat} (h : FB l b) (h' : FB l c) (h0 : 0 < l.length) : b = c := by
  have key : ∀ {b c : Nat}, FB l b → FB l c → ¬ b < c := by
    intro b c h h' hlt
    have h1 := h.top _ (pAt_mem (show l.length - 1 < l.length by omega))
    have h2 := h'.lo
    have h3 := h'.hi
    unfold bitN at h2 h3
    obtain ⟨d, rfl⟩ : ∃ d, c = (b + 1) + d := ⟨c - (b + 1), by omega⟩
    rw [Nat.pow_add, Int.natCast_mul, ← Int.ediv_ediv_of_nonneg (Int.natCast_nonneg _)] at h2 h3
    rw [h1] at h3
    omega
  have h1 := key h h'
  have h2 := key h' h
  omega
/-- Where those begin that have a 1. -/
def ones (l : Prl) (b : Nat) : Int := (pAt l (l.length - 1)).1 / (2 ^ b : Nat) * (2 ^ b : Nat)
theorem ones_iff {l : Prl} {b : Nat} (h : FB l b) (h0 : 0 < l.length) {p : Int × Int} (hp : p ∈ l) : p.1 < ones l b ↔ bitN p.1 b = 0 := by
  unfold ones
  rw [← Int.ediv_lt_iff_lt_mul (pow_pos b)]
  have h1 := fb_mid h h0 hp
  have h2 := bitN_bd p.1 b
  omega
theorem sd_zero {l : Prl} {b : Nat} (hr : Ris l) (h : FB l b) (h0 : 0 < l.length) : sd l b 0 = l.take (low l (ones l b)) := by
  rw [← low_take hr]
  unfold sd
  apply List.filter_congr
  intro p hp
  rw [decide_eq_decide]
  exact (ones_iff h h0 hp).symm
theorem sd_one {l : Prl} {b : Nat} (hr : Ris l) (h : FB l b) (h0 : 0 < l.length) : sd l b 1 = l.drop (low l (ones l b)) := by
  rw [← low_drop hr]
  unfold sd
  apply List.filter_congr
  intro p hp
  rw [decide_eq_decide]
  have h1 := ones_iff h h0 hp
  have h2 := bitN_bd p.1 b
  omega
theorem fb_left {l : Prl} {b : Nat} (h : FB l b) (h0 : 0 < l.length) : pAt l 0 ∈ sd l b 0 := sd_mem.2 ⟨pAt_mem h0, h.lo⟩
theorem fb_right {l : Prl} {b : Nat} (h : FB l b) (h0 : 0 < l.length) : pAt l (l.length - 1) ∈ sd l b 1 := sd_mem.2 ⟨pAt_mem (by omega), h.hi⟩
theorem fb_less {l : Prl} {b : Nat} {s : Int} (h : FB l b) (h0 : 0 < l.length) (hs : s = 0 ∨ s = 1) : (sd l b s).length < l.length := by
  rcases hs with rfl | rfl
  · exact sd_lt (pAt_mem (show l.length - 1 < l.length by omega)) (by rw [h.hi]; decide)
  · exact sd_lt (pAt_mem h0) (by rw [h.lo]; decide)
theorem fb_some {l : Prl} {b : Nat} {s : Int} (h : FB l b) (h0 : 0 < l.length) (hs : s = 0 ∨ s = 1) : 0 < (sd l b s).length := by
  rcases hs with rfl | rfl
  · exact List.length_pos_of_mem (fb_left h h0)
  · exact List.length_pos_of_mem (fb_right h h0)
theorem sd_both (l : Prl) (b : Nat) : (sd l b 0).length + (sd l b 1).length = l.length := by
  induction l with
  | nil => rfl
  | cons p t ih =>
    unfold sd at *
    rcases bitN_bd p.1 b with e | e
    · rw [List.filter_cons_of_pos (by simp [e]), List.filter_cons_of_neg (by simp [e]), List.length_cons, List.length_cons]; omega
    · rw [List.filter_cons_of_neg (by simp [e]), List.filter_cons_of_pos (by simp [e]), List.length_cons, List.length_cons]; omega
/-- Trees of the library's, with a key and a value at a leaf and a number at a fork. -/
abbrev Bt := Go.Deep.BT (Option (Int × Int))
/-- A tree that is nothing, a leaf with nothing below, or a fork of two such trees. -/
def shp : Bt → Prop
  | .nil => True
  | .node b o (some _) l r => b = 0 ∧ o = 0 ∧ l = .nil ∧ r = .nil
  | .node _ o none l r => o = 0 ∧ shp l ∧ shp r
/-- The new tree. -/
structure Tr where
  t : Bt
  h : shp t
def Tr.none : Tr := ⟨.nil, trivial⟩
def Tr.leaf (k v : Int) : Tr := ⟨.node 0 0 (some (k, v)) .nil .nil, rfl, rfl, rfl, rfl⟩
def Tr.fork (b : Nat) (l r : Tr) : Tr := ⟨.node b 0 Option.none l.t r.t, rfl, l.h, r.h⟩
/-- Recursion on the new tree. -/
def foB {α : Type} (n : α) (lf : Int → Int → α) (fk : Nat → Tr → Tr → α → α → α) : (t : Bt) → shp t → α
  | .nil, _ => n
  | .node _ _ (some p) _ _, _ => lf p.1 p.2
  | .node b _ none l r, h => fk b ⟨l, h.2.1⟩ ⟨r, h.2.2⟩ (foB n lf fk l h.2.1) (foB n lf fk r h.2.2)
def Tr.fo {α : Type} (n : α) (lf : Int → Int → α) (fk : Nat → Tr → Tr → α → α → α) (t : Tr) : α := foB n lf fk t.t t.h
theorem ind_aux {motive : Tr → Prop} (none : motive Tr.none) (leaf : ∀ k v, motive (Tr.leaf k v)) (fork : ∀ b l r, motive l → motive r → motive (Tr.fork b l r)) : ∀ (t : Bt) (h : shp t), motive ⟨t, h⟩
  | .nil, _ => none
  | .node b o (some (k, v)) l r, h => by
    obtain ⟨rfl, rfl, rfl, rfl⟩ := h
    exact leaf k v
  | .node b o Option.none l r, h => by
    obtain ⟨rfl, h1, h2⟩ := h
    exact fork b ⟨l, h1⟩ ⟨r, h2⟩ (ind_aux none leaf fork l h1) (ind_aux none leaf fork r h2)
/-- Induction on the new tree. -/
theorem Tr.ind {motive : Tr → Prop} (none : motive Tr.none) (leaf : ∀ k v, motive (Tr.leaf k v)) (fork : ∀ b l r, motive l → motive r → motive (Tr.fork b l r)) (t : Tr) : motive t := ind_aux none leaf fork t.t t.h
theorem Tr.cs {motive : Tr → Prop} (none : motive Tr.none) (leaf : ∀ k v, motive (Tr.leaf k v)) (fork : ∀ b l r, motive (Tr.fork b l r)) (t : Tr) : motive t := Tr.ind none leaf (fun b l r _ _ => fork b l r) t
theorem Tr.three (t : Tr) : t = Tr.none ∨ (∃ k v, t = Tr.leaf k v) ∨ ∃ b l r, t = Tr.fork b l r := by
  induction t using Tr.cs with
  | none => exact Or.inl rfl
  | leaf k v => exact Or.inr (Or.inl ⟨k, v, rfl⟩)
  | fork b l r => exact Or.inr (Or.inr ⟨b, l, r, rfl⟩)
/-- The new tree of slots. -/
def isB : Bt → Prl → Prop
  | .nil, l => l = []
  | .node _ _ (some p) _ _, l => l = [p]
  | .node b _ none L R, l => 2 ≤ l.length ∧ FB l b ∧ isB L (sd l b 0) ∧ isB R (sd l b 1)
/-- The new tree of slots. -/
structure IsTr (l : Prl) (t : Tr) : Prop where
  b : isB t.t l
theorem IsTr.none : IsTr [] Tr.none := ⟨rfl⟩
theorem IsTr.leaf (k v : Int) : IsTr [(k, v)] (Tr.leaf k v) := ⟨rfl⟩
theorem IsTr.fork {l : Prl} {b : Nat} {L R : Tr} (h2 : 2 ≤ l.length) (hb : FB l b) (h3 : IsTr (sd l b 0) L) (h4 : IsTr (sd l b 1) R) : IsTr l (Tr.fork b L R) := ⟨⟨h2, hb, h3.b, h4.b⟩⟩
theorem IsTr.ind {motive : (l : Prl) → (t : Tr) → IsTr l t → Prop} (none : motive [] Tr.none IsTr.none) (leaf : ∀ k v, motive [(k, v)] (Tr.leaf k v) (IsTr.leaf k v))
    (fork : ∀ {l : Prl} {b : Nat} {L R : Tr} (h2 : 2 ≤ l.length) (hb : FB l b) (h3 : IsTr (sd l b 0) L) (h4 : IsTr (sd l b 1) R), motive (sd l b 0) L h3 → motive (sd l b 1) R h4 → motive l (Tr.fork b L R) (IsTr.fork h2 hb h3 h4)) {l : Prl} {t : Tr} (h : IsTr l t) : motive l t h := by
  induction t using Tr.ind generalizing l with
  | none => obtain ⟨e⟩ := h; cases (show l = [] from e); exact none
  | leaf k v => obtain ⟨e⟩ := h; cases (show l = [(k, v)] from e); exact leaf k v
  | fork b L R ih1 ih2 =>
    obtain ⟨h2, hb, h3, h4⟩ := h
    exact fork h2 hb ⟨h3⟩ ⟨h4⟩ (ih1 ⟨h3⟩) (ih2 ⟨h4⟩)
theorem IsTr.cs {motive : (l : Prl) → (t : Tr) → IsTr l t → Prop} (none : motive [] Tr.none IsTr.none) (leaf : ∀ k v, motive [(k, v)] (Tr.leaf k v) (IsTr.leaf k v))
    (fork : ∀ {l : Prl} {b : Nat} {L R : Tr} (h2 : 2 ≤ l.length) (hb : FB l b) (h3 : IsTr (sd l b 0) L) (h4 : IsTr (sd l b 1) R), motive l (Tr.fork b L R) (IsTr.fork h2 hb h3 h4)) {l : Prl} {t : Tr} (h : IsTr l t) : motive l t h :=
  IsTr.ind none leaf (fun h2 hb h3 h4 _ _ => fork h2 hb h3 h4) h
theorem isTr_ex : ∀ (n : Nat) (l : Prl), l.length ≤ n → Sls l → ∃ t, IsTr l t := by
  intro n
  induction n with
  | zero =>
    intro l h _
    rw [List.eq_nil_of_length_eq_zero (Nat.le_zero.1 h)]
    exact ⟨_, IsTr.none⟩
  | succ n ih =>
    intro l h hs
    match l, h, hs with
    | [], _, _ => exact ⟨_, IsTr.none⟩
    | [(k, v)], _, _ => exact ⟨_, IsTr.leaf k v⟩
    | p :: q :: r, h, hs =>
      have h2 : 2 ≤ (p :: q :: r).length := by simp
      obtain ⟨b, hb⟩ := fb_ex hs h2
      have h3 := fb_less (s := 0) hb (by omega) (Or.inl rfl)
      have h4 := fb_less (s := 1) hb (by omega) (Or.inr rfl)
      obtain ⟨L, hL⟩ := ih _ (by omega) (sd_sls hs b 0)
      obtain ⟨R, hR⟩ := ih _ (by omega) (sd_sls hs b 1)
      exact ⟨_, IsTr.fork h2 hb hL hR⟩
/-- What is summed for a tree. -/
def Tr.bts (t : Tr) : List Int := t.fo (tagL 9 []) (fun k v => tagL 4 [k, v]) (fun b _ _ x y => tagL 5 [(b : Int), sumL x, sumL y])
theorem Tr.bts_none : Tr.none.bts = tagL 9 [] := rfl
theorem Tr.bts_leaf (k v : Int) : (Tr.leaf k v).bts = tagL 4 [k, v] := rfl
theorem Tr.bts_fork (b : Nat) (l r : Tr) : (Tr.fork b l r).bts = tagL 5 [(b : Int), sumL l.bts, sumL r.bts] := rfl
def Tr.sum (t : Tr) : Int := sumL t.bts
theorem Tr.sum_bd (t : Tr) : 0 ≤ t.sum ∧ t.sum ≤ 65520 := sumL_bd _
theorem Tr.len (t : Tr) : t.bts.length ≤ 7 := by
  induction t using Tr.cs with
  | none => rw [Tr.bts_none, tagL_len]; simp
  | leaf k v => rw [Tr.bts_leaf, tagL_len]; simp
  | fork b l r => rw [Tr.bts_fork, tagL_len]; simp
/-- A tree all of whose leaves and bits are in range. -/
def Tr.Ok (t : Tr) : Prop := t.fo True (fun k v => (0 ≤ k ∧ k ≤ 255) ∧ (0 ≤ v ∧ v ≤ 65520)) (fun b _ _ x y => b ≤ 7 ∧ x ∧ y)
theorem IsTr.ok {l : Prl} {t : Tr} (h : IsTr l t) (hs : Sls l) : t.Ok := by
  induction h using IsTr.ind with
  | none => trivial
  | leaf k v => exact fine_bd (hs.fin _ (List.mem_singleton.2 rfl))
  | fork _ hb _ _ ih1 ih2 => exact ⟨hb.le, ih1 (sd_sls hs _ _), ih2 (sd_sls hs _ _)⟩
theorem Tr.Ok.nums3 {b : Nat} (hb : b ≤ 7) (l r : Tr) : [(b : Int), l.sum, r.sum].all sumB = true := by
  have h1 := l.sum_bd
  have h2 := r.sum_bd
  simp [sumB_iff]
  omega
theorem Tr.Ok.nums2 {k v : Int} (hk : 0 ≤ k ∧ k ≤ 255) (hv : 0 ≤ v ∧ v ≤ 65520) : [k, v].all sumB = true := by
  simp [sumB_iff]
  omega
theorem Tr.Ok.bts {t : Tr} (h : t.Ok) : Bts t.bts := by
  induction t using Tr.cs with
  | none => exact tagL_bts (by omega) rfl
  | leaf k v => exact tagL_bts (by omega) (Tr.Ok.nums2 h.1 h.2)
  | fork b l r => exact tagL_bts (by omega) (Tr.Ok.nums3 h.1 l r)
/-- How many forks there are. -/
def Tr.forks (t : Tr) : Nat := t.fo 0 (fun _ _ => 0) (fun _ _ _ x y => 1 + x + y)
theorem Tr.forks_fork (b : Nat) (l r : Tr) : (Tr.fork b l r).forks = 1 + l.forks + r.forks := rfl
theorem IsTr.forks {l : Prl} {t : Tr} (h : IsTr l t) : t.forks = l.length - 1 := by
  induction h using IsTr.ind with
  | none => rfl
  | leaf k v => rfl
  | fork h2 hb h3 h4 ih1 ih2 =>
    rename_i l b L R
    have e := sd_both l b
    have e1 := fb_some (s := 0) hb (by omega) (Or.inl rfl)
    have e2 := fb_some (s := 1) hb (by omega) (Or.inr rfl)
    rw [Tr.forks_fork]
    omega
end U
end Go.Proofs.YtjhmfaibpnagcaaGreat

/- The new tree as the program holds it: its values, what assertions tell of them, bits, and the fork bit. -/
namespace Go.Proofs.YtjhmfaibpnagcaaGreat
open Go.RowKit
namespace U
def Tr.val (t : Tr) : Value := t.fo (.iface 283 (.agg #[])) (fun k v => .iface 264 (.agg #[.int .i64 k, .int .i64 v])) (fun b _ _ x y => .iface 271 (.agg #[.int .i64 (b : Int), x, y]))
theorem Tr.val_none : Tr.none.val = .iface 283 (.agg #[]) := rfl
theorem Tr.val_leaf (k v : Int) : (Tr.leaf k v).val = .iface 264 (.agg #[.int .i64 k, .int .i64 v]) := rfl
theorem Tr.val_fork (b : Nat) (l r : Tr) : (Tr.fork b l r).val = .iface 271 (.agg #[.int .i64 (b : Int), l.val, r.val]) := rfl
theorem Tr.isIface (t : Tr) : ∃ k x, t.val = .iface k x := by
  induction t using Tr.cs <;> exact ⟨_, _, rfl⟩
theorem three_cellsT {w : World} {g : Nat} {x y z : Value} {t : TypeId} (h : w.heap[g]? = some (.cells #[x, y, z] t)) : w.cell? ⟨g, 0, none⟩ = some x ∧ w.cell? ⟨g, 1, none⟩ = some y ∧ w.cell? ⟨g, 2, none⟩ = some z := by
  refine ⟨?_, ?_, ?_⟩
  · unfold World.cell?; rw [h]; rfl
  · unfold World.cell?; rw [h]; rfl
  · unfold World.cell?; rw [h]; rfl
theorem and_all : ∀ q : Fin 256, bits BinOp.and IntKind.i64 ((q.1 : Nat) : Int) 1 = ((q.1 : Nat) : Int) % 2 := by decide +kernel
theorem and_one {q : Int} (h0 : 0 ≤ q) (h1 : q ≤ 255) : bits BinOp.and IntKind.i64 q 1 = q % 2 := by
  have := and_all ⟨q.toNat, by omega⟩
  have e : ((q.toNat : Nat) : Int) = q := by omega
  simp only [e] at this
  exact this
set_option maxRecDepth 100000 in
theorem bitOf_any (k : Int) (b : Nat) (w : World) (hb : b ≤ 7) (hk : 0 ≤ k ∧ k ≤ 255) : Calls Tryz.prog 209 #[.int .i64 k, .int .i64 (b : Int)] w fun e w' => e = .returned (.int .i64 (bitN k b)) ∧ w' = w := by
  unfold bitN
  rcases (show b = 0 ∨ b = 1 ∨ b = 2 ∨ b = 3 ∨ b = 4 ∨ b = 5 ∨ b = 6 ∨ b = 7 by omega) with rfl | rfl | rfl | rfl | rfl | rfl | rfl | rfl
  all_goals
    go_enter Tryz.func209, Tryz.ntmps209
    go_wp2
    go_ret
    refine ⟨ret_int ?_, rfl⟩
    rw [and_one (by omega) (by omega)]
    simp only [Nat.reducePow]
    omega
set_option maxRecDepth 100000 in
theorem l6Bit_any (k : Int) (b : Nat) (w : World) (hb : b ≤ 7) (hk : 0 ≤ k ∧ k ≤ 255) : Calls Tryz.prog 167 #[.int .i64 k, .int .i64 (b : Int)] w fun e w' => e = .returned (.int .i64 (bitN k b)) ∧ w' = w := by
  unfold bitN
  rcases (show b = 0 ∨ b = 1 ∨ b = 2 ∨ b = 3 ∨ b = 4 ∨ b = 5 ∨ b = 6 ∨ b = 7 by omega) with rfl | rfl | rfl | rfl | rfl | rfl | rfl | rfl
  all_goals
    go_enter Tryz.func167, Tryz.ntmps167
    go_wp2
    go_ret
    refine ⟨ret_int ?_, rfl⟩
    simp only [Nat.reducePow]
    omega
theorem xor_i64 (a b : Nat) (ha : a < 256) (hb : b < 256) : bits .xor .i64 (a : Int) (b : Int) = ((a ^^^ b : Nat) : Int) := by
  have hx : a ^^^ b < 2 ^ 8 := Nat.xor_lt_two_pow (n := 8) ha hb
  have h1 : (BitVec.ofInt 64 (a : Int)).toNat = a := by
    rw [BitVec.ofInt_natCast, BitVec.toNat_ofNat]; exact Nat.mod_eq_of_lt (by omega)
  have h2 : (BitVec.ofInt 64 (b : Int)).toNat = b := by
    rw [BitVec.ofInt_natCast, BitVec.toNat_ofNat]; exact Nat.mod_eq_of_lt (by omega)
  show IntKind.i64.wrap ((BitVec.ofInt 64 (a : Int) ^^^ BitVec.ofInt 64 (b : Int)).toNat : Int) = _
  rw [BitVec.toNat_xor, h1, h2, IntKind.wrap_i64]
  omega
theorem xor_shift (a b c : Nat) : (a ^^^ b) / 2 ^ c = (a / 2 ^ c) ^^^ (b / 2 ^ c) := by
  rw [← Nat.shiftRight_eq_div_pow, ← Nat.shiftRight_eq_div_pow, ← Nat.shiftRight_eq_div_pow, Nat.shiftRight_xor_distrib]
theorem xor_zero_of {a b : Nat} (h : a ^^^ b = 0) : a = b := by
  have : a ^^^ b ^^^ b = b := by rw [h]; simp
  rw [Nat.xor_assoc, Nat.xor_self, Nat.xor_zero] at this
  exact this
/-- What two numbers have apart lies between two powers. -/
theorem xor_log {a b c : Nat} (h1 : a / 2 ^ (c + 1) = b / 2 ^ (c + 1)) (h2 : a / 2 ^ c ≠ b / 2 ^ c) : 2 ^ c ≤ a ^^^ b ∧ a ^^^ b < 2 ^ (c + 1) := by
  have e1 : (a ^^^ b) / 2 ^ (c + 1) = 0 := by rw [xor_shift, h1, Nat.xor_self]
  have e2 : (a ^^^ b) / 2 ^ c ≠ 0 := by
    rw [xor_shift]
    exact fun h => h2 (xor_zero_of h)
  have p1 := Nat.two_pow_pos (c + 1)
  have p2 := Nat.two_pow_pos c
  constructor
  · rcases Nat.lt_or_ge (a ^^^ b) (2 ^ c) with h | h
    · exact absurd (Nat.div_eq_of_lt h) e2
    · exact h
  · rcases Nat.lt_or_ge (a ^^^ b) (2 ^ (c + 1)) with h | h
    · exact h
    · have := Nat.div_pos h p1
      omega
set_option maxRecDepth 100000 in
set_option maxHeartbeats 4000000 in
theorem len64_any (x : Int) (w : World) (h0 : 0 ≤ x) (h1 : x ≤ 255) : Calls Tryz.prog 238 #[.int .u64 x] w fun e w' => e = .returned (.int .i64 (Lib.bitLen x.toNat)) ∧ w' = w := by
  have g1 : ¬ x ≥ 4294967296 := by omega
  have g2 : ¬ x ≥ 65536 := by omega
  have g3 : ¬ x ≥ 256 := by omega
  go_enter Tryz.func238, Tryz.ntmps238
  go_wp2
  go_ret
  refine ⟨ret_int ?_, rfl⟩
  rw [Lib.len8_of x h0 h1]
  have l := Lib.bitLen_le8' x h0 h1
  simp only [wrap64]
  omega
theorem bitLen_at {x c : Nat} (h1 : 2 ^ c ≤ x) (h2 : x < 2 ^ (c + 1)) (hx : x < 256) : Lib.bitLen x = c + 1 := by
  rw [Lib.bitLen_shift c x h1 (by omega)]
  have e : x / 2 ^ c = 1 := by
    have p := Nat.two_pow_pos c
    rw [Nat.pow_succ] at h2
    have h3 : 1 ≤ x / 2 ^ c := (Nat.le_div_iff_mul_le p).2 (by omega)
    have h4 : x / 2 ^ c < 2 := (Nat.div_lt_iff_lt_mul p).2 (by omega)
    omega
  rw [e]
  rfl
/-- The fork bit, out of the lowest and the highest key. -/
theorem fb_bits {l : Prl} {b : Nat} (hs : Sls l) (h2 : 2 ≤ l.length) (hb : FB l b) : ∃ x : Nat, bits .xor .i64 (pAt l 0).1 (pAt l (l.length - 1)).1 = (x : Int) ∧ x < 256 ∧ Lib.bitLen x = b + 1 := by
  have h3 := (hs.at (show 0 < l.length by omega)).1
  have h4 := (hs.at (show l.length - 1 < l.length by omega)).1
  have t := hb.top _ (pAt_mem (show l.length - 1 < l.length by omega))
  have lo := hb.lo
  have hi := hb.hi
  unfold bitN at lo hi
  generalize (pAt l 0).1 = p at *
  generalize (pAt l (l.length - 1)).1 = q at *
  obtain ⟨p, rfl⟩ : ∃ n : Nat, p = n := ⟨p.toNat, by omega⟩
  obtain ⟨q, rfl⟩ : ∃ n : Nat, q = n := ⟨q.toNat, by omega⟩
  have e1 : p / 2 ^ (b + 1) = q / 2 ^ (b + 1) := by
    rw [← Int.natCast_ediv, ← Int.natCast_ediv] at t
    omega
  have e2 : p / 2 ^ b ≠ q / 2 ^ b := by
    rw [← Int.natCast_ediv] at lo hi
    intro h
    rw [h] at lo
    omega
  have hx : p ^^^ q < 2 ^ 8 := Nat.xor_lt_two_pow (n := 8) (by omega) (by omega)
  have hl := xor_log e1 e2
  exact ⟨p ^^^ q, xor_i64 p q (by omega) (by omega), hx, bitLen_at hl.1 hl.2 hx⟩
set_option maxRecDepth 100000 in
set_option maxHeartbeats 1000000 in
theorem forkBitOf_any (v : Value) (l : Prl) (b : Nat) (w : World) (hv : Prs w v l) (hs : Sls l) (h2 : 2 ≤ l.length) (hb : FB l b) :
    Calls Tryz.prog 219 #[v] w fun e w' => e = .returned (.int .i64 (b : Int)) ∧ ∃ n, w' = w.drewN n := by
  obtain ⟨a, c, rfl⟩ := hv.shape
  obtain ⟨-, bb, off, rfl, hlt, hc⟩ := hv.at (by omega)
  obtain ⟨x, hx, hx2, hx3⟩ := fb_bits hs h2 hb
  have hn := hs.len
  have hb7 := hb.le
  have c0 := (hc 0 (by omega)).1
  have c1 := (hc (l.length - 1) (by omega)).1
  have hL := fun w => len64_any (x : Int) w (by omega) (by omega)
  rw [Int.toNat_natCast, hx3] at hL
  simp only [Nat.zero_mul, Nat.add_zero] at c0
  generalize (pAt l 0).1 = p at *
  generalize (pAt l (l.length - 1)).1 = q at *
  clear hv hs hb hc hx3
  generalize l.length = n at *
  obtain ⟨m, rfl⟩ : ∃ m, n = m + 1 := ⟨n - 1, by omega⟩
  have hm1 : 1 ≤ m := by omega
  have hm2 : m ≤ 11 := by omega
  rw [Nat.add_sub_cancel] at c1
  clear h2 hn
  go_enter Tryz.func219, Tryz.ntmps219
  go_wp2
  go_quiet (fail)
  go_wp2_with fail
  refine (hL _).mono ?_
  rintro e w1 ⟨rfl, rfl⟩
  clear hL
  go_wp2
  go_ret
  exact ⟨ret_int (by go_arith), _, rfl⟩
end U
end Go.Proofs.YtjhmfaibpnagcaaGreat

/- The fork bit and a side of slots, as the model makes them. -/
namespace Go.Proofs.YtjhmfaibpnagcaaGreat
open Go.RowKit
namespace U
def sdAt (l : Prl) (b : Nat) (s : Int) (k : Nat) : Prl := sd (l.take k) b s
theorem sdAt_all (l : Prl) (b : Nat) (s : Int) : sdAt l b s l.length = sd l b s := by unfold sdAt; rw [List.take_length]
theorem sdAt_in {l : Prl} {b : Nat} {s : Int} {k : Nat} (h : k < l.length) (h1 : bitN (pAt l k).1 b = s) : sdAt l b s (k + 1) = sdAt l b s k ++ [pAt l k] := by
  unfold sdAt sd
  rw [takeP h, List.filter_append, List.filter_cons_of_pos (by simp [h1])]
  rfl
theorem sdAt_out {l : Prl} {b : Nat} {s : Int} {k : Nat} (h : k < l.length) (h1 : ¬ bitN (pAt l k).1 b = s) : sdAt l b s (k + 1) = sdAt l b s k := by
  unfold sdAt sd
  rw [takeP h, List.filter_append, List.filter_cons_of_neg (by simp [h1])]
  simp
theorem sdAt_len (l : Prl) (b : Nat) (s : Int) (k : Nat) : (sdAt l b s k).length ≤ l.length := by
  have h1 := sd_len (l.take k) b s
  rw [List.length_take] at h1
  unfold sdAt
  omega
set_option maxRecDepth 100000 in
set_option maxHeartbeats 2000000 in
theorem l6Side_core (ad : Option Addr) (n c : Nat) (l : Prl) (b : Nat) (s : Int) (w : World) (HN : Hid (n = l.length)) (hn : n ≤ 12) (HS : Hid (Sls l)) (hb7 : b ≤ 7) (HV : Hid (Prs w (.slice ad n c) l)) :
    Calls Tryz.prog 168 #[.slice ad n c, .int .i64 (b : Int), .int .i64 s] w fun e w' => ∃ v', e = .returned v' ∧ w'.ownsRow w.heap.size 57 2 v' (sd l b s).length ((fl (sd l b s)).map (Value.int .i64)) ∧ Below w.heap.size w w' := by
  obtain ⟨i0, hi, hz0, hz1, hz2⟩ := info_parts Tryz.infoSl
  go_enter Tryz.func168, Tryz.ntmps168
  go_wp2
  go_loopw [7, 8] (fun u i wr => ∃ k : Nat, k ≤ n ∧ i = .int .i64 k ∧ Hid (Below w.heap.size w wr) ∧ Hid (wr.ownsRow w.heap.size 57 2 u (sdAt l b s k).length ((fl (sdAt l b s k)).map (Value.int .i64)))) (fun _ i _ => n - (intOf i).toNat)
  case atStart => exact ⟨0, Nat.zero_le _, rfl, one_new _, none_own w _ _ (Nat.le_refl _)⟩
  case round =>
    obtain ⟨k, hk, rfl, hB, ho⟩ := hrel
    obtain ⟨a', c', rfl⟩ := own_shape2 ho.out
    by_cases hkn : k < n
    · have hki : (k : Int) < (n : Int) := by omega
      have hkl : k < l.length := by have := HN.out; omega
      obtain ⟨-, bk, off, rfl, hbk, hc⟩ := HV.out.at (by omega)
      have hc1 := (hB.out.cell (p := ⟨bk, off + k * 2, none⟩) hbk).trans (hc k hkl).1
      have hc2 := (hB.out.cell (p := ⟨bk, off + k * 2 + 1, none⟩) hbk).trans (hc k hkl).2
      have HI : Hid (bitN (pAt l k).1 b = s → sdAt l b s (k + 1) = sdAt l b s k ++ [((pAt l k).1, (pAt l k).2)]) := sdAt_in hkl
      have HO : Hid (¬ bitN (pAt l k).1 b = s → sdAt l b s (k + 1) = sdAt l b s k) := sdAt_out hkl
      have hBt := fun w => l6Bit_any (pAt l k).1 b w hb7 (HS.out.at hkl).1
      have hlen := sdAt_len l b s k
      rw [← HN.out] at hlen
      generalize bitN (pAt l k).1 b = z at *
      generalize (pAt l k).1 = x at *
      generalize (pAt l k).2 = y at *
      generalize sdAt l b s k = m at *
      clear hc
      by_cases h1 : z = s
      · have HI2 := HI.out h1
        have HS : Hid (sdAt l b s (k + 1) = m ++ [(x, y)]) := HI2
        have h1' : (z == s) = true := by simpa using h1
        have ho2 := ho.out
        have hsz := hB.out.size
        clear HI HO HI2 h1
        go_wp2_with fail
        refine (hBt _).mono ?_
        rintro e w1 ⟨rfl, rfl⟩
        clear hBt
        go_wp2_with (at_builtin; refine wpList_append_own _ rfl _ _ 34 rfl w.heap.size 57 i0 (.agg #[.int .i64 0, .int .i64 0]) 2 16 Tryz.underlying34 hi hz0 hz1 hz2 rfl (by decide) _ _ _ rfl (ho2.alloc _) ⟨w1.heap.size, 0, none⟩ 1 1 [.int .i64 x, .int .i64 y] rfl rfl (World.news_of_block (heap_alloc_new _ _)) (ints_oneCell .i64 [x, y]) (by unfold maxLen; omega) (by omega) (by simp; omega) ?_)
        intro v' w2 hown' hgrow _
        have hb2 : Below w.heap.size w w2 := (hB.out.alloc (by omega) _).grown hgrow (by simp; omega) (fun k hk => (ho.out.lt k hk).1)
        have own2 := own_snoc hown'
        clear hgrow hown' ho2 ho
        go_wp2
        go_roundw
        case rel => exact ⟨k + 1, by omega, by go_num, hb2, by rw [HS.out]; exact own2⟩
        case measure => simp [intOf]; omega
      · have HS : Hid (sdAt l b s (k + 1) = m) := HO.out h1
        have h1' : (z == s) = false := by simpa using h1
        clear HI HO h1
        go_wp2_with fail
        refine (hBt _).mono ?_
        rintro e w1 ⟨rfl, rfl⟩
        clear hBt
        go_wp2
        go_roundw
        case rel => exact ⟨k + 1, by omega, by go_num, hB, by rw [HS.out]; exact ho⟩
        case measure => simp [intOf]; omega
    · have hkn : k = n := by omega
      subst hkn
      have e1 : sdAt l b s k = sd l b s := by rw [HN.out]; exact sdAt_all _ _ _
      rw [e1] at ho ⊢
      go_wp2
      go_ret
      exact ⟨_, rfl, ho.out, hB.out⟩
theorem l6Side_any (v : Value) (l : Prl) (b : Nat) (s : Int) (w : World) (hv : Prs w v l) (hs : Sls l) (hb : b ≤ 7) :
    Calls Tryz.prog 168 #[v, .int .i64 (b : Int), .int .i64 s] w fun e w' => ∃ a' c', e = .returned (.slice a' (sd l b s).length c') ∧ w'.ownsRow w.heap.size 57 2 (.slice a' (sd l b s).length c') (sd l b s).length ((fl (sd l b s)).map (Value.int .i64)) ∧ Below w.heap.size w w' := by
  obtain ⟨ad, c, rfl⟩ := hv.shape
  refine (l6Side_core ad l.length c l b s w rfl hs.len hs hb hv).mono ?_
  rintro e w' ⟨v', rfl, ho, hb⟩
  obtain ⟨a', c', rfl⟩ := own_shape2 ho
  exact ⟨a', c', rfl, ho, hb⟩
/-- All keys are the same above a bit. -/
def Top (l : Prl) (k : Nat) : Prop := ∀ p ∈ l, p.1 / (2 ^ (k + 1) : Nat) = (pAt l 0).1 / (2 ^ (k + 1) : Nat)
theorem top_seven {l : Prl} (hs : Sls l) (h0 : 0 < l.length) : Top l 7 := by
  intro p hp
  have h1 := (fine_bd (hs.fin p hp)).1
  have h2 := (hs.at h0).1
  show p.1 / 256 = _ / 256
  omega
theorem top_down {l : Prl} {k : Nat} (h : Top l (k + 1)) (hb : ∀ j, j < l.length → bitN (pAt l j).1 (k + 1) = bitN (pAt l 0).1 (k + 1)) : Top l k := by
  intro p hp
  obtain ⟨i, hi, rfl⟩ := List.getElem_of_mem hp
  have h1 := h _ hp
  have h2 := hb i hi
  rw [pAt_eq hi] at h2
  unfold bitN at h2
  rw [div_succ _ (k + 1), div_succ (pAt l 0).1 (k + 1)] at h1
  omega
theorem top_found {l : Prl} {k i : Nat} (hs : Sls l) (hk : k ≤ 7) (h : Top l k) (hi : i < l.length) (h2 : 2 ≤ l.length) (hd : bitN (pAt l i).1 k ≠ bitN (pAt l 0).1 k) : FB l k := by
  refine fb_of hs.ris hk h2 (h _ (pAt_mem (by omega))).symm ?_
  intro e
  apply hd
  have h4 := ediv_le (ris_first hs.ris (pAt_mem hi)) k
  have h5 := ediv_le (ris_last hs.ris (pAt_mem hi)) k
  unfold bitN
  rw [show (pAt l i).1 / (2 ^ k : Nat) = (pAt l 0).1 / (2 ^ k : Nat) by omega]
theorem top_zero {l : Prl} (hs : Sls l) (h : Top l 0) (h2 : 2 ≤ l.length) : FB l 0 := by
  refine fb_of hs.ris (by omega) h2 (h _ (pAt_mem (by omega))).symm ?_
  have h3 := ris_at hs.ris (show 0 < l.length - 1 by omega) (by omega)
  show _ / 1 ≠ _ / 1
  omega
/-- A bit, as the model tells it. -/
structure BtAt (k b z : Int) : Prop where
  c : ∀ w, Calls Tryz.prog 167 #[.int .i64 k, .int .i64 b] w fun e w' => e = .returned (.int .i64 z) ∧ w' = w
set_option maxRecDepth 100000 in
set_option maxHeartbeats 4000000 in
theorem l6Fork_core (bk off c n : Nat) (l : Prl) (b : Nat) (w : World) (HN : Hid (n = l.length)) (hn : n ≤ 12) (hn2 : 2 ≤ n) (HS : Hid (Sls l)) (HB : Hid (FB l b)) (hbk : bk < w.heap.size)
    (HC : Hid (∀ j, j < n → w.cell? ⟨bk, off + j * 2, none⟩ = some (.int .i64 (pAt l j).1) ∧ w.cell? ⟨bk, off + j * 2 + 1, none⟩ = some (.int .i64 (pAt l j).2))) :
    Calls Tryz.prog 166 #[.slice (some ⟨bk, off, none⟩) n c] w fun e w' => e = .returned (.int .i64 (b : Int)) ∧ Below w.heap.size w w' := by
  go_enter Tryz.func166, Tryz.ntmps166
  go_wp2
  go_loopw [3] (fun i wr => ∃ k : Nat, k ≤ 7 ∧ i = .int .i64 k ∧ Hid (Below w.heap.size w wr) ∧ Hid (Top l k)) (fun i _ => (intOf i).toNat)
  case atStart => exact ⟨7, Nat.le_refl _, rfl, Below.refl _ _, top_seven HS.out (by have := HN.out; omega)⟩
  case round =>
    obtain ⟨k, hk, rfl, hB, ht⟩ := hrel
    by_cases hk0 : 0 < k
    · have hki : (0 : Int) < (k : Int) := by omega
      go_wp2
      go_loopw [4] (fun i wr2 => ∃ j : Nat, 1 ≤ j ∧ j ≤ n ∧ i = .int .i64 j ∧ Hid (Below w.heap.size w wr2) ∧ Hid (∀ m, m < j → bitN (pAt l m).1 k = bitN (pAt l 0).1 k)) (fun i _ => n - (intOf i).toNat)
      case atStart => exact ⟨1, Nat.le_refl _, by omega, rfl, hB, fun m hm => by rw [show m = 0 by omega]⟩
      case round =>
        obtain ⟨j, hj1, hjn, rfl, hB2, hE⟩ := hrel
        by_cases hlt : j < n
        · have hji : (j : Int) < (n : Int) := by omega
          have hjl : j < l.length := by have := HN.out; omega
          have h0l : 0 < l.length := by omega
          have c0 := (hB2.out.cell (p := ⟨bk, off + 0 * 2, none⟩) hbk).trans (HC.out 0 (by omega)).1
          have cj := (hB2.out.cell (p := ⟨bk, off + j * 2, none⟩) hbk).trans (HC.out j hlt).1
          simp only [Nat.zero_mul, Nat.add_zero] at c0
          have b0 : BtAt (pAt l 0).1 (k : Int) (bitN (pAt l 0).1 k) := ⟨fun w => l6Bit_any _ k w hk (HS.out.at h0l).1⟩
          have bj : BtAt (pAt l j).1 (k : Int) (bitN (pAt l j).1 k) := ⟨fun w => l6Bit_any _ k w hk (HS.out.at hjl).1⟩
          have HF : Hid (bitN (pAt l j).1 k ≠ bitN (pAt l 0).1 k → b = k) := fun h => fb_uniq HB.out (top_found HS.out hk ht.out hjl (by omega) h) h0l
          obtain ⟨z0, hz0⟩ : ∃ z, z = bitN (pAt l 0).1 k := ⟨_, rfl⟩
          obtain ⟨zj, hzj⟩ : ∃ z, z = bitN (pAt l j).1 k := ⟨_, rfl⟩
          have HZ0 : Hid (z0 = bitN (pAt l 0).1 k) := hz0
          have HZJ : Hid (zj = bitN (pAt l j).1 k) := hzj
          rw [← hz0] at b0 HF
          rw [← hzj] at bj HF
          clear hz0 hzj hjl h0l
          obtain ⟨x0, hx0⟩ : ∃ x, x = (pAt l 0).1 := ⟨_, rfl⟩
          obtain ⟨xj, hxj⟩ : ∃ x, x = (pAt l j).1 := ⟨_, rfl⟩
          rw [← hx0] at b0 c0
          rw [← hxj] at bj cj
          clear hx0 hxj
          have q0 := After.cell c0
          have qj := After.cell cj
          have hne := After.ne wr
          clear c0 cj
          by_cases hz : zj = z0
          · have hz' : (zj != z0) = false := by simpa using hz
            have HE2 : Hid (∀ m, m < j + 1 → bitN (pAt l m).1 k = bitN (pAt l 0).1 k) := fun m hm => by
              by_cases hmj : m = j
              · rw [hmj, ← HZ0.out, ← HZJ.out, hz]
              · exact hE.out m (by omega)
            clear hz
            go_wp2_with fail
            refine wp_region_after (by kernel_rfl) (by kernel_rfl) ?_
            repeat (first | go_big_quiet_skip | (go_big_quiet_want; go_big_quiet_op; first | go_big_quiet_on | go_big_quiet_call (first
              | (go_at_call 167; refine (BtAt.c (by assumption) _).mono ?_; rintro e wq ⟨rfl, rfl⟩; exact ⟨rfl, _, rfl⟩))))
            refine wpQuiet_nil ?_
            rintro _ ⟨n3, rfl⟩
            have hB3 := below_after_of hB2.out n3.b
            generalize n3.w = w3 at *
            clear q0 qj hne n3
            go_wp2
            go_roundw
            case rel => exact ⟨j + 1, by omega, by omega, by go_num, hB3, HE2⟩
            case measure => simp [intOf]; omega
          · have hz' : (zj != z0) = true := by simpa using hz
            have e : Hid (b = k) := HF.out hz
            clear hz
            go_wp2_with fail
            refine wp_region_after (by kernel_rfl) (by kernel_rfl) ?_
            repeat (first | go_big_quiet_skip | (go_big_quiet_want; go_big_quiet_op; first | go_big_quiet_on | go_big_quiet_call (first
              | (go_at_call 167; refine (BtAt.c (by assumption) _).mono ?_; rintro e wq ⟨rfl, rfl⟩; exact ⟨rfl, _, rfl⟩))))
            refine wpQuiet_nil ?_
            rintro _ ⟨n3, rfl⟩
            have hB3 := below_after_of hB2.out n3.b
            generalize n3.w = w3 at *
            clear q0 qj hne n3
            go_wp2
            go_ret
            exact ⟨ret_int (by rw [e.out]), hB3⟩
        · have hjn : j = n := by omega
          subst hjn
          obtain ⟨m, rfl⟩ : ∃ m, k = m + 1 := ⟨k - 1, by omega⟩
          have hT : Hid (Top l m) := top_down ht.out (fun i hi => hE.out i (by have := HN.out; omega))
          go_wp2
          go_roundw
          case rel => exact ⟨m, by omega, by go_num, hB2, hT⟩
          case measure => simp [intOf]
    · have hk0 : k = 0 := by omega
      subst hk0
      have e : Hid (b = 0) := fb_uniq HB.out (top_zero HS.out ht.out (by have := HN.out; omega)) (by have := HN.out; omega)
      go_wp2
      go_ret
      exact ⟨ret_int (by rw [e.out]; rfl), hB.out⟩
theorem l6Fork_any (v : Value) (l : Prl) (b : Nat) (w : World) (hv : Prs w v l) (hs : Sls l) (h2 : 2 ≤ l.length) (hb : FB l b) :
    Calls Tryz.prog 166 #[v] w fun e w' => e = .returned (.int .i64 (b : Int)) ∧ Below w.heap.size w w' := by
  obtain ⟨a, c, rfl⟩ := hv.shape
  obtain ⟨-, bb, off, rfl, hlt, hc⟩ := hv.at (by omega)
  exact l6Fork_core bb off c l.length l b w rfl hs.len h2 hs hb hlt hc
end U
end Go.Proofs.YtjhmfaibpnagcaaGreat

/- What is summed for a leaf, by the program and by the model. -/
namespace Go.Proofs.YtjhmfaibpnagcaaGreat
open Go.RowKit
namespace U
end U
end Go.Proofs.YtjhmfaibpnagcaaGreat

/- A number below 65536, kept as a float, comes back. -/
namespace Go.Proofs.YtjhmfaibpnagcaaGreat
namespace U
end U
end Go.Proofs.YtjhmfaibpnagcaaGreat

/- Two sums as one complex number, by the program. -/
namespace Go.Proofs.YtjhmfaibpnagcaaGreat
open Go.RowKit
namespace U
theorem field_BR1 (c : Int) (a : Option Addr) (n k : Nat) (w : World) : (Instr.field 200 (.agg #[.int .i64 c, .slice a n k]) 1).run Tryz.prog w = .ok (.slice a n k) w := by kernel_rfl
end U
end Go.Proofs.YtjhmfaibpnagcaaGreat

/- What is summed for a node of the new tree, and its sum, as the program makes them. -/
namespace Go.Proofs.YtjhmfaibpnagcaaGreat
open Go.RowKit
namespace U
/-- Which method tells the piece of a node, and of what. -/
def pcF (t : Tr) : Nat := t.fo 253 (fun _ _ => 254) (fun _ _ _ _ _ => 280)
def pcV (t : Tr) : Value := t.fo (.agg #[]) (fun k v => .agg #[.int .i64 k, .int .i64 v]) (fun b l r _ _ => .agg #[.int .i64 (b : Int), l.val, r.val])
theorem pcF_none : pcF Tr.none = 253 := rfl
theorem pcF_leaf (k v : Int) : pcF (Tr.leaf k v) = 254 := rfl
theorem pcF_fork (b : Nat) (l r : Tr) : pcF (Tr.fork b l r) = 280 := rfl
theorem pcV_none : pcV Tr.none = .agg #[] := rfl
theorem pcV_leaf (k v : Int) : pcV (Tr.leaf k v) = .agg #[.int .i64 k, .int .i64 v] := rfl
theorem pcV_fork (b : Nat) (l r : Tr) : pcV (Tr.fork b l r) = .agg #[.int .i64 (b : Int), l.val, r.val] := rfl
structure PcAt (t : Tr) : Prop where
  c : ∀ w, Calls Tryz.prog (pcF t) #[pcV t] w fun e w' => ∃ v', e = .returned v' ∧ w'.ownsRow w.heap.size 5 1 v' t.bts.length (t.bts.map (Value.int .u8)) ∧ Below w.heap.size w w'
theorem Tr.sumOf {t : Tr} (h : t.Ok) (u : Value) (w : World) (hu : Ints .u8 w u t.bts) : Calls Tryz.prog 132 #[u] w fun e w' => e = .returned (.agg #[.int .i64 0, .int .i64 t.sum]) ∧ Below w.heap.size w w' := by
  have h1 := implSumOf_any u t.bts w hu h.bts (by have := t.len; omega)
  have h2 := sm_ok (bs := t.bts) (by have := t.len; omega)
  rw [h2.1, h2.2] at h1
  exact h1
set_option maxRecDepth 100000 in
set_option maxHeartbeats 1000000 in
theorem trieSum_of {t : Tr} (h : t.Ok) (hp : PcAt t) (w : World) : Calls Tryz.prog 191 #[t.val] w fun e w' => e = .returned (.int .i64 t.sum) ∧ Below w.heap.size w w' := by
  have hP := hp.c
  have hS := fun u w hu => Tr.sumOf h u w hu
  have hf := field_IR1
  rcases t.three with rfl | ⟨k, v, rfl⟩ | ⟨b, l, r, rfl⟩
  all_goals
    simp only [pcF_none, pcF_leaf, pcF_fork, pcV_none, pcV_leaf, pcV_fork, Tr.val_none, Tr.val_leaf, Tr.val_fork] at hP ⊢
    generalize Tr.sum _ = s at *
    generalize Tr.bts _ = ys at *
    clear hp h
    try generalize Tr.val _ = vl at *
    try generalize Tr.val _ = vr at *
    go_enter Tryz.func191, Tryz.ntmps191
    go_wp2_with fail
    refine (hP _).mono ?_
    rintro e w1 ⟨u, rfl, own1, hb1⟩
    have HI := own_ints own1
    obtain ⟨a1, c1, rfl⟩ := own_shape own1
    clear hP own1
    go_wp2_with fail
    refine (hS _ _ HI).mono ?_
    rintro e w2 ⟨rfl, hb2⟩
    have hB2 := below_after_of hb1 hb2
    clear hS hb1 hb2 HI
    go_wp2
    go_ret
    exact ⟨rfl, hB2⟩
theorem three_ints (w : World) (a b c : Int) (t : TypeId) : Ints .i64 (w.alloc (.cells #[.int .i64 a, .int .i64 b, .int .i64 c] t)) (.slice (some ⟨w.heap.size, 0, none⟩) 3 3) [a, b, c] := by
  refine Or.inr ⟨w.heap.size, 0, 3, rfl, by simp, fun j hj => ?_⟩
  have hh := heap_alloc_new w (.cells #[.int .i64 a, .int .i64 b, .int .i64 c] t)
  unfold World.cell?
  rw [hh]
  rcases (show j = 0 ∨ j = 1 ∨ j = 2 by simp at hj; omega) with rfl | rfl | rfl <;> rfl
theorem tag_none : tgC 9 [] = 0 ∧ tgL 9 [] = Tr.none.bts := tg_ok rfl (by simp) rfl
theorem tag_leaf {k v : Int} (h : (Tr.leaf k v).Ok) : tgC 4 [k, v] = 0 ∧ tgL 4 [k, v] = (Tr.leaf k v).bts := tg_ok rfl (by simp) (Tr.Ok.nums2 h.1 h.2)
theorem tag_fork {b : Nat} {l r : Tr} (h : (Tr.fork b l r).Ok) : tgC 5 [(b : Int), l.sum, r.sum] = 0 ∧ tgL 5 [(b : Int), l.sum, r.sum] = (Tr.fork b l r).bts := tg_ok rfl (by simp) (Tr.Ok.nums3 h.1 l r)
set_option maxRecDepth 100000 in
set_option maxHeartbeats 1000000 in
theorem piece_none : PcAt .none := by
  refine ⟨fun w => ?_⟩
  have hT := fun w => implTagBytes_any 9 (.slice none 0 0) [] w (Or.inl ⟨rfl, _, _, rfl⟩) (by simp)
  rw [tag_none.1, tag_none.2] at hT
  simp only [pcF_none, pcV_none]
  generalize Tr.bts _ = ys at *
  go_enter Tryz.func253, Tryz.ntmps253
  go_wp2_with fail
  refine (hT _).mono ?_
  intro e w2 h2
  obtain ⟨a2, c2, rfl, hb2, own2⟩ := h2.use
  have kf := fun w => field_BR1 0 a2 ys.length c2 w
  have hB2 := below_after hb2
  rw [World.size_alloc] at own2
  have own3 := own_mono own2 (show w.heap.size ≤ w.heap.size + 1 by omega)
  clear hT h2
  go_wp2
  go_ret
  exact ⟨_, rfl, own3, hB2⟩
set_option maxRecDepth 100000 in
set_option maxHeartbeats 1000000 in
theorem piece_leaf {k v : Int} (h : (Tr.leaf k v).Ok) : PcAt (.leaf k v) := by
  refine ⟨fun w => ?_⟩
  have hT := fun u w hu => implTagBytes_any 4 u [k, v] w hu (by simp)
  rw [(tag_leaf h).1, (tag_leaf h).2] at hT
  simp only [pcF_leaf, pcV_leaf]
  generalize Tr.bts _ = ys at *
  clear h
  go_enter Tryz.func254, Tryz.ntmps254
  go_wp2_with fail
  refine (hT _ _ (two_ints_at (by simp))).mono ?_
  intro e w2 h2
  obtain ⟨a2, c2, rfl, hb2, own2⟩ := h2.use
  have kf := fun w => field_BR1 0 a2 ys.length c2 w
  have hB2 := below_after (below_after hb2)
  rw [World.size_alloc, World.size_alloc] at own2
  have own3 := own_mono own2 (show w.heap.size ≤ w.heap.size + 1 + 1 by omega)
  clear hT h2
  go_wp2
  go_ret
  exact ⟨_, rfl, own3, hB2⟩
/-- The sum of a node's value. -/
structure SmAt (v : Value) (s : Int) : Prop where
  c : ∀ w, Calls Tryz.prog 191 #[v] w fun e w' => e = .returned (.int .i64 s) ∧ Below w.heap.size w w'
set_option maxRecDepth 100000 in
set_option maxHeartbeats 2000000 in
theorem piece_fork {b : Nat} {l r : Tr} (h : (Tr.fork b l r).Ok) (h1 : SmAt l.val l.sum) (h2 : SmAt r.val r.sum) : PcAt (.fork b l r) := by
  refine ⟨fun w => ?_⟩
  have hT := fun u w hu => implTagBytes_any 5 u [(b : Int), l.sum, r.sum] w hu (by simp)
  rw [(tag_fork h).1, (tag_fork h).2] at hT
  simp only [pcF_fork, pcV_fork]
  generalize Tr.bts _ = ys at *
  generalize l.val = vl at *
  generalize r.val = vr at *
  generalize l.sum = x at *
  generalize r.sum = y at *
  clear h
  have A0 := three_cellsT (heap_alloc_new w (.cells #[.int .i64 (b : Int), vl, vr] 271))
  obtain ⟨W, hW⟩ : ∃ W, W = w.alloc (.cells #[.int .i64 (b : Int), vl, vr] 271) := ⟨_, rfl⟩
  have hBW : Hid (Below w.heap.size w W) := by rw [hW]; exact one_new _
  have hlt : w.heap.size < W.heap.size := by rw [hW]; simp
  rw [← hW] at A0
  have HW : Hid (w.alloc (.cells #[.int .i64 (b : Int), vl, vr] 271) = W) := hW.symm
  have HG : Hid (∀ w', Below W.heap.size W w' → w'.cell? ⟨w.heap.size, 0, none⟩ = some (.int .i64 (b : Int)) ∧ w'.cell? ⟨w.heap.size, 1, none⟩ = some vl ∧ w'.cell? ⟨w.heap.size, 2, none⟩ = some vr) := fun w' h => ⟨(h.cell (p := ⟨w.heap.size, 0, none⟩) hlt).trans A0.1, (h.cell (p := ⟨w.heap.size, 1, none⟩) hlt).trans A0.2.1, (h.cell (p := ⟨w.heap.size, 2, none⟩) hlt).trans A0.2.2⟩
  obtain ⟨c0, c1, c2⟩ := A0
  have hbr := Below.refl W.heap.size W
  clear hW
  go_enter Tryz.func280, Tryz.ntmps280
  go_wp2
  rw [HW.out]
  go_region_held3 (fun w' => w'.cell? ⟨w.heap.size, 0, none⟩ = some (.int .i64 (b : Int)) ∧ w'.cell? ⟨w.heap.size, 1, none⟩ = some vl ∧ w'.cell? ⟨w.heap.size, 2, none⟩ = some vr)
    (first | exact ⟨c0, c1, c2⟩ | exact HG.out _ hbr | exact HG.out _ (hbr.alloc hbr.size _))
    (first
      | (go_at_call 191; refine (SmAt.c (by assumption) _).mono ?_; rintro e wq ⟨rfl, hbq⟩; have hbr : Below W.heap.size W wq := (by first | exact below_after_of hbr hbq | exact below_after_of hbr.drew hbq))
      | (go_at_call 188; refine (hT _ _ (three_ints _ _ _ _ _)).mono ?_; intro e wt ht; obtain ⟨at', ct', rfl, hbt, own2⟩ := ht.use; rw [World.size_alloc] at own2; have own3 := own_mono own2 (Nat.le_succ_of_le (Nat.le_trans (Nat.le_of_lt hlt) hbr.size)); have hbr : Below W.heap.size W wt := below_after_of (hbr.alloc hbr.size _) hbt; have kf := fun w => field_BR1 0 at' ys.length ct' w))
  have hB3 := below_after_of hBW.out hbr
  go_wp2
  go_ret
  exact ⟨_, rfl, own3, hB3⟩
theorem piece_any (t : Tr) : t.Ok → PcAt t := by
  induction t using Tr.ind with
  | none => exact fun _ => piece_none
  | leaf k v => exact fun h => piece_leaf h
  | fork b l r ih1 ih2 => exact fun h => piece_fork h ⟨fun w => trieSum_of h.2.1 (ih1 h.2.1) w⟩ ⟨fun w => trieSum_of h.2.2 (ih2 h.2.2) w⟩
theorem trieSum_any {t : Tr} (h : t.Ok) : SmAt t.val t.sum := ⟨fun w => trieSum_of h (piece_any t h) w⟩
end U
end Go.Proofs.YtjhmfaibpnagcaaGreat

/- What is summed for slots, their root and their forks, as the model makes them. -/
namespace Go.Proofs.YtjhmfaibpnagcaaGreat
open Go.RowKit
namespace U
/-- The piece of slots, as the model makes it. -/
structure ByAt (l : Prl) (t : Tr) : Prop where
  c : ∀ (v : Value) (w : World), Prs w v l → Calls Tryz.prog 186 #[v] w fun e w' => ∃ v', e = .returned v' ∧ w'.ownsRow w.heap.size 5 1 v' t.bts.length (t.bts.map (Value.int .u8)) ∧ Below w.heap.size w w'
/-- The root of slots, as the model makes it. -/
structure RtAt (l : Prl) (x : Int) : Prop where
  c : ∀ (v : Value) (w : World), Prs w v l → Calls Tryz.prog 143 #[v] w fun e w' => e = .returned (.int .i64 x) ∧ Below w.heap.size w w'
set_option maxRecDepth 100000 in
set_option maxHeartbeats 1000000 in
theorem l6Root_of {l : Prl} {t : Tr} (h : ByAt l t) (hok : t.Ok) : RtAt l t.sum := by
  refine ⟨fun v w hv => ?_⟩
  have hB := h.c v w hv
  have hS := fun u w hu => l2Sum_any u t.bts w hu hok.bts (by have := t.len; omega)
  obtain ⟨ad, c, rfl⟩ := hv.shape
  have e1 : sumL t.bts = t.sum := rfl
  rw [e1] at hS
  generalize t.sum = x at *
  generalize t.bts = ys at *
  generalize l.length = n at *
  clear hv h hok e1
  go_enter Tryz.func143, Tryz.ntmps143
  go_wp2_with fail
  refine hB.mono ?_
  rintro e w1 ⟨u, rfl, own1, hb1⟩
  have HI := own_ints own1
  obtain ⟨a1, c1, rfl⟩ := own_shape own1
  clear hB own1
  go_wp2_with fail
  refine (hS _ _ HI).mono ?_
  rintro e w2 ⟨rfl, rfl⟩
  clear hS HI
  go_wp2
  go_ret
  exact ⟨rfl, hb1⟩
set_option maxRecDepth 100000 in
set_option maxHeartbeats 1000000 in
theorem l6Bytes_none : ByAt [] .none := by
  refine ⟨fun v w hv => ?_⟩
  have hT := fun w => l2Bytes_any 9 (.slice none 0 0) [] w (Or.inl ⟨rfl, _, _, rfl⟩) (by simp) (by omega) rfl
  obtain ⟨ad, c, rfl⟩ := hv.shape
  have e1 : tagL 9 [] = Tr.none.bts := rfl
  rw [e1] at hT
  generalize Tr.bts _ = ys at *
  clear hv e1
  go_enter Tryz.func186, Tryz.ntmps186
  go_wp2_with fail
  refine (hT _).mono ?_
  rintro e w2 ⟨u, rfl, own2, hb2⟩
  obtain ⟨a2, c2, rfl⟩ := own_shape own2
  clear hT
  go_wp2
  go_ret
  exact ⟨_, rfl, own2, hb2⟩
set_option maxRecDepth 100000 in
set_option maxHeartbeats 1000000 in
theorem l6Bytes_leaf {k y : Int} (h : (Tr.leaf k y).Ok) : ByAt [(k, y)] (.leaf k y) := by
  refine ⟨fun v w hv => ?_⟩
  have hT := fun u w hu => l2Bytes_any 4 u [k, y] w hu (by simp) (by omega) (Tr.Ok.nums2 h.1 h.2)
  obtain ⟨ad, c, rfl⟩ := hv.shape
  obtain ⟨-, b, off, rfl, hlt, hc⟩ := hv.at (by simp)
  have c0 : w.cell? ⟨b, off, none⟩ = some (.int .i64 k) := by simpa [pAt] using (hc 0 (by simp)).1
  have c1 : w.cell? ⟨b, off + 1, none⟩ = some (.int .i64 y) := by simpa [pAt] using (hc 0 (by simp)).2
  have e1 : tagL 4 [k, y] = (Tr.leaf k y).bts := rfl
  rw [e1] at hT
  generalize Tr.bts _ = ys at *
  have HG : Hid (∀ w', Below w.heap.size w w' → w'.cell? ⟨b, off, none⟩ = some (.int .i64 k) ∧ w'.cell? ⟨b, off + 1, none⟩ = some (.int .i64 y)) := fun w' h => ⟨(h.cell (p := ⟨b, off, none⟩) hlt).trans c0, (h.cell (p := ⟨b, off + 1, none⟩) hlt).trans c1⟩
  clear hv e1 h hc
  have hbr := Below.refl w.heap.size w
  go_enter Tryz.func186, Tryz.ntmps186
  go_wp2
  go_region_held3 (fun w' => w'.cell? ⟨b, off, none⟩ = some (.int .i64 k) ∧ w'.cell? ⟨b, off + 1, none⟩ = some (.int .i64 y))
    (first | exact ⟨c0, c1⟩ | exact HG.out _ hbr | exact HG.out _ hbr.drew | exact HG.out _ (one_new _) | exact HG.out _ (hbr.drew.alloc hbr.drew.size _))
    (first
      | (go_at_call 201; refine (hT _ _ ((two_ints w k y 2).below (Below.refl _ _).drew)).mono ?_; rintro e wt ⟨u, rfl, own2, hbt⟩; obtain ⟨a2, c2, rfl⟩ := own_shape own2; have hbd : Below w.heap.size w (w.alloc (.cells #[.int .i64 k, .int .i64 y] 2)).drew := (one_new _).drew; have own3 := own_mono own2 hbd.size; have hbr : Below w.heap.size w wt := below_after_of hbd hbt))
  go_wp2
  go_ret
  exact ⟨_, rfl, own3, hbr⟩
set_option maxRecDepth 100000 in
set_option maxHeartbeats 1000000 in
theorem l6Bytes_fork {l : Prl} {b : Nat} {L R : Tr} (hs : Sls l) (h2 : 2 ≤ l.length) (hb : FB l b) (r0 : RtAt (sd l b 0) L.sum) (r1 : RtAt (sd l b 1) R.sum) : ByAt l (.fork b L R) := by
  refine ⟨fun v w hv => ?_⟩
  have hF := fun w' h => l6Fork_any v l b w' (hv.below h) hs h2 hb
  have hS := fun s w' h => l6Side_any v l b s w' (hv.below h) hs hb.le
  have hT := fun u w hu => l2Bytes_any 5 u [(b : Int), L.sum, R.sum] w hu (by simp) (by omega) (Tr.Ok.nums3 hb.le L R)
  have e1 : tagL 5 [(b : Int), L.sum, R.sum] = (Tr.fork b L R).bts := rfl
  rw [e1] at hT
  have hn := hs.len
  obtain ⟨ad, c, rfl⟩ := hv.shape
  have R0 := fun a c w h => r0.c (.slice a (sd l b 0).length c) w h
  have R1 := fun a c w h => r1.c (.slice a (sd l b 1).length c) w h
  have S0 := hS 0
  have S1 := hS 1
  generalize L.sum = x at *
  generalize R.sum = y at *
  generalize Tr.bts _ = ys at *
  generalize sd l b 0 = m0 at *
  generalize sd l b 1 = m1 at *
  generalize l.length = n at *
  clear hv e1 hs hS r0 r1 hb
  have d1 : ¬ ((n : Int) = 0) := by omega
  have d2 : ¬ ((n : Int) = 1) := by omega
  have d1' : ((n : Int) == 0) = false := by simpa using d1
  have d2' : ((n : Int) == 1) = false := by simpa using d2
  go_enter Tryz.func186, Tryz.ntmps186
  go_wp2_with fail
  refine (hF _ (Below.refl _ _)).mono ?_
  rintro e w1 ⟨rfl, hb1⟩
  clear hF
  go_wp2_with fail
  refine (S0 _ hb1).mono ?_
  rintro e w2 ⟨a2, c2, rfl, own2, hb2⟩
  have hB2 := below_after_of hb1 hb2
  clear S0 hb1 hb2
  go_wp2_with fail
  refine (R0 _ _ _ (own_prs' own2)).mono ?_
  rintro e w3 ⟨rfl, hb3⟩
  have hB3 := below_after_of hB2 hb3
  clear R0 hB2 hb3 own2
  go_wp2_with fail
  refine (S1 _ hB3).mono ?_
  rintro e w4 ⟨a4, c4, rfl, own4, hb4⟩
  have hB4 := below_after_of hB3 hb4
  clear S1 hB3 hb4
  go_wp2_with fail
  refine (R1 _ _ _ (own_prs' own4)).mono ?_
  rintro e w5 ⟨rfl, hb5⟩
  have hB5 := below_after_of hB4 hb5
  clear R1 hB4 hb5 own4
  go_wp2_with fail
  refine (hT _ _ (three_ints _ _ _ _ _)).mono ?_
  rintro e w6 ⟨u, rfl, own6, hb6⟩
  rw [World.size_alloc] at own6
  have own7 := own_mono own6 (Nat.le_succ_of_le hB5.size)
  have hB6 := below_after_of (hB5.alloc hB5.size _) hb6
  obtain ⟨a6, c6, rfl⟩ := own_shape own7
  clear hT own6 hb6 hB5
  go_wp2
  go_ret
  exact ⟨_, rfl, own7, hB6⟩
theorem l6Bytes_any {l : Prl} {t : Tr} (h : IsTr l t) : Sls l → ByAt l t := by
  induction h using IsTr.ind with
  | none => intro _; exact l6Bytes_none
  | leaf k y => intro hs; exact l6Bytes_leaf ((IsTr.leaf k y).ok hs)
  | fork h2 hb h3 h4 ih1 ih2 =>
    intro hs
    exact l6Bytes_fork hs h2 hb (l6Root_of (ih1 (sd_sls hs _ _)) (h3.ok (sd_sls hs _ _))) (l6Root_of (ih2 (sd_sls hs _ _)) (h4.ok (sd_sls hs _ _)))
theorem l6Root_any {l : Prl} {t : Tr} (h : IsTr l t) (hs : Sls l) : RtAt l t.sum := l6Root_of (l6Bytes_any h hs) (h.ok hs)
end U
end Go.Proofs.YtjhmfaibpnagcaaGreat

/- The new tree of slots, as the program makes it. -/
namespace Go.Proofs.YtjhmfaibpnagcaaGreat
open Go.RowKit
namespace U
set_option maxRecDepth 100000 in
theorem trieOf_none (a : Option Addr) (c : Nat) (w : World) : Calls Tryz.prog 192 #[.slice a 0 c] w fun e w' => e = .returned Tr.none.val ∧ Below w.heap.size w w' := by
  rw [Tr.val_none]
  go_enter Tryz.func192, Tryz.ntmps192
  go_wp2
  go_ret
  exact ⟨rfl, Below.refl _ _⟩
set_option maxRecDepth 100000 in
theorem trieOf_leaf (b off c : Nat) (k v : Int) (w : World) (c0 : w.cell? ⟨b, off, none⟩ = some (.int .i64 k)) (c1 : w.cell? ⟨b, off + 1, none⟩ = some (.int .i64 v)) :
    Calls Tryz.prog 192 #[.slice (some ⟨b, off, none⟩) 1 c] w fun e w' => e = .returned (Tr.leaf k v).val ∧ Below w.heap.size w w' := by
  rw [Tr.val_leaf]
  go_enter Tryz.func192, Tryz.ntmps192
  go_wp2
  go_ret
  exact ⟨rfl, Below.refl _ _⟩
/-- What the program makes of a slice, from a world on. -/
structure TrAt (W : World) (v x : Value) : Prop where
  c : ∀ w', Below W.heap.size W w' → Calls Tryz.prog 192 #[v] w' fun e w'' => e = .returned x ∧ Below w'.heap.size w' w''
set_option maxRecDepth 100000 in
set_option maxHeartbeats 1000000 in
theorem trieOf_fork (l : Prl) (b : Nat) (L R : Tr) (h2 : 2 ≤ l.length) (hb : FB l b)
    (ih1 : ∀ (v : Value) (w : World), Prs w v (sd l b 0) → Okv v → Calls Tryz.prog 192 #[v] w fun e w' => e = .returned L.val ∧ Below w.heap.size w w')
    (ih2 : ∀ (v : Value) (w : World), Prs w v (sd l b 1) → Okv v → Calls Tryz.prog 192 #[v] w fun e w' => e = .returned R.val ∧ Below w.heap.size w w')
    (v : Value) (w : World) (hv : Prs w v l) (hcap : Okv v) (hs : Sls l) :
    Calls Tryz.prog 192 #[v] w fun e w' => e = .returned (Tr.fork b L R).val ∧ Below w.heap.size w w' := by
  have hF := fun w' h => forkBitOf_any v l b w' (hv.below h) hs h2 hb
  have hP := fun w' h => placeOf_any v l (ones l b) w' (hv.below h) hs.len hs.ris
  obtain ⟨a, c, rfl⟩ := hv.shape
  obtain ⟨-, bb, off, rfl, hlt, hc⟩ := hv.at (by omega)
  have hcp := (hcap _ _ _ rfl).1
  have hn := hs.len
  have hb7 := hb.le
  have c1 := (hc (l.length - 1) (by omega)).1
  have hK := (hs.at (show l.length - 1 < l.length by omega)).1
  have e0 := sd_zero hs.ris hb (by omega)
  have e1 := sd_one hs.ris hb (by omega)
  have hlo : 0 < low l (ones l b) ∧ low l (ones l b) < l.length := by
    have s0 := fb_some (s := 0) hb (by omega) (Or.inl rfl)
    have s1 := fb_some (s := 1) hb (by omega) (Or.inr rfl)
    rw [e0, List.length_take] at s0
    rw [e1, List.length_drop] at s1
    omega
  have hp1 : ∀ cc, Prs w (.slice (some ⟨bb, off, none⟩) (low l (ones l b)) cc) (sd l b 0) := fun cc => by
    rw [e0]
    exact prs_part (i := 0) rfl hlt (Nat.zero_le _) (Nat.le_of_lt hlo.2) hc
  have hp2 : ∀ cc, Prs w (.slice (some ⟨bb, off + low l (ones l b) * 2, none⟩) (l.length - low l (ones l b)) cc) (sd l b 1) := fun cc => by
    have := prs_part (c := cc) rfl hlt (show low l (ones l b) ≤ l.length by omega) (Nat.le_refl _) hc
    rw [List.take_length] at this
    rw [e1]
    exact this
  have hX : wrap64 ((pAt l (l.length - 1)).1 / 2 ^ b * 2 ^ b) = ones l b := by
    have h1 := Int.ediv_mul_le (pAt l (l.length - 1)).1 (Int.ne_of_gt (pow_pos b))
    have h3 : 0 ≤ ones l b := Int.mul_nonneg (Int.ediv_nonneg hK.1 (Int.le_of_lt (pow_pos b))) (Int.le_of_lt (pow_pos b))
    have e : (pAt l (l.length - 1)).1 / 2 ^ b * 2 ^ b = ones l b := by unfold ones; rw [Int.natCast_pow]; rfl
    rw [e]
    have h4 : ones l b ≤ (pAt l (l.length - 1)).1 := h1
    generalize ones l b = z at *
    generalize (pAt l (l.length - 1)).1 = y at *
    go_arith
  generalize (pAt l (l.length - 1)).1 = q at *
  generalize ones l b = X at *
  generalize low l X = lo at *
  generalize thr l X = th at *
  have T1 : TrAt w (.slice (some ⟨bb, off, none⟩) lo c) L.val := ⟨fun w' h => ih1 _ w' ((hp1 c).below (w' := w') h) (by intro a n c' e; cases e; exact ⟨by omega, fun h => by cases h⟩)⟩
  have T2 : TrAt w (.slice (some ⟨bb, off + lo * 2, none⟩) (l.length - lo) (c - lo)) R.val := ⟨fun w' h => ih2 _ w' ((hp2 (c - lo)).below (w' := w') h) (by intro a n c' e; cases e; exact ⟨by omega, fun h => by cases h⟩)⟩
  clear ih1 ih2 hp1 hp2 e0 e1 hc hv hs hcap hb
  generalize l.length = n at *
  obtain ⟨m, rfl⟩ : ∃ m, n = m + 1 := ⟨n - 1, by omega⟩
  rw [Nat.add_sub_cancel] at c1
  rw [Tr.val_fork]
  obtain ⟨tL, xL, eL⟩ := L.isIface
  obtain ⟨tR, xR, eR⟩ := R.isIface
  rw [eL] at T1 ⊢
  rw [eR] at T2 ⊢
  clear eL eR
  have hm1 : 1 ≤ m := by omega
  have hm2 : m ≤ 11 := by omega
  have hb0 : (0 : Int) ≤ (b : Int) := by omega
  have hb8 : (b : Int) ≤ 64 := by omega
  have d1 : ¬ ((m : Int) + 1 = 0) := by omega
  have d2 : ¬ ((m : Int) + 1 = 1) := by omega
  have d3 : ¬ (m = 0) := by omega
  go_enter Tryz.func192, Tryz.ntmps192
  go_wp2_with fail
  refine (hF _ (Below.refl _ _)).mono ?_
  rintro e w1 ⟨rfl, k1, rfl⟩
  have hb1 : Below w.heap.size w (w.drewN k1) := below_drewN (Below.refl _ _) _
  clear hF
  go_wp2_with fail
  refine (hP _ hb1).mono ?_
  rintro e w2 ⟨rfl, hb2⟩
  have hB2 := below_after_of hb1 hb2
  have hne := After.ne w2
  clear hP hb1 hb2
  go_wp2_with fail
  refine wp_region_after (by kernel_rfl) (by kernel_rfl) ?_
  repeat (first | go_big_quiet_skip | (go_big_quiet_want; go_big_quiet_op; first | go_big_quiet_on | go_big_quiet_call (first
    | (go_at_call 192; refine (TrAt.c (by assumption) _ (below_after_of hB2 (After.b _))).mono ?_; rintro e wq ⟨rfl, hbq⟩; exact ⟨rfl, after_mk (below_after_of (After.b _) hbq)⟩))))
  refine wpQuiet_nil ?_
  rintro _ ⟨n3, rfl⟩
  have hB3 := below_after_of hB2 n3.b
  generalize n3.w = w3 at *
  clear hne n3 hB2 T1 T2
  go_wp2
  go_ret
  exact ⟨rfl, hB3⟩
theorem trieOf_any {l : Prl} {t : Tr} (h : IsTr l t) : ∀ (v : Value) (w : World), Sls l → Prs w v l → Okv v → Calls Tryz.prog 192 #[v] w fun e w' => e = .returned t.val ∧ Below w.heap.size w w' := by
  induction h using IsTr.ind with
  | none =>
    intro v w _ hv _
    obtain ⟨a, c, rfl⟩ := hv.shape
    exact trieOf_none a c w
  | leaf k y =>
    intro v w _ hv _
    obtain ⟨a, c, rfl⟩ := hv.shape
    obtain ⟨-, b, off, rfl, -, hc⟩ := hv.at (by simp)
    have h0 := hc 0 (by simp)
    exact trieOf_leaf b off c k y w (by simpa [pAt] using h0.1) (by simpa [pAt] using h0.2)
  | fork h2 hb h3 h4 ih1 ih2 =>
    intro v w hs hv ho
    exact trieOf_fork _ _ _ _ h2 hb (fun v w hp ho => ih1 v w (sd_sls hs _ _) hp ho) (fun v w hp ho => ih2 v w (sd_sls hs _ _) hp ho) v w hv ho hs
end U
end Go.Proofs.YtjhmfaibpnagcaaGreat

/- How many forks the new tree has, as the program counts them. -/
namespace Go.Proofs.YtjhmfaibpnagcaaGreat
open Go.RowKit
namespace U
end U
end Go.Proofs.YtjhmfaibpnagcaaGreat

/- The fork bit, the root, the forks and the piece of slots, as the program answers them. -/
namespace Go.Proofs.YtjhmfaibpnagcaaGreat
open Go.RowKit
namespace U
set_option maxRecDepth 100000 in
set_option maxHeartbeats 1000000 in
theorem implNewRoot_ok (v : Value) (l : Prl) (t : Tr) (w : World) (hv : Prs w v l) (ho : Okv v) (h0 : slF l = 0) (ht : IsTr l t) :
    Calls Tryz.prog 151 #[v] w fun e w' => IntAns w 0 t.sum e w' := by
  have hs := slF_ok h0
  have hF := fun w' h => implSlotsFault_any v l w' (hv.below h) (by have := hs.len; omega)
  have hT := fun w' h => trieOf_any ht v w' hs (hv.below h) ho
  have hfk : t.forks ≤ 1000 := by have := ht.forks; have := hs.len; omega
  have hQ := (SmAt.c (trieSum_any (ht.ok hs)))
  rw [h0] at hF
  obtain ⟨tT, xT, eT⟩ := t.isIface
  rw [eT] at hT hQ
  obtain ⟨ad, c, rfl⟩ := hv.shape
  generalize t.sum = x at *
  generalize l.length = n at *
  clear hv h0 hs ht ho eT hfk
  go_enter Tryz.func151, Tryz.ntmps151
  go_wp2_with fail
  refine (hF _ (one_new _)).mono ?_
  rintro e w1 ⟨rfl, hb1⟩
  clear hF
  go_wp2_with fail
  refine (hT _ (below_after hb1)).mono ?_
  rintro e w2 ⟨rfl, hb2⟩
  have hb2' := below_after_of hb1 hb2
  clear hT hb1 hb2
  go_wp2_with fail
  refine (hQ _).mono ?_
  rintro e w3 ⟨rfl, hb3⟩
  have hb3' := below_after_of hb2' hb3
  obtain ⟨g0, g1, f0, f1⟩ := two_cellsV ((hb3'.block w.heap.size (by simp)).trans (heap_alloc_new w _))
  have hB3 := below_after hb3'
  clear hQ hb2' hb3 hb3'
  go_wp2
  exact bodyPost_ret (v := .agg #[.int .i64 0, .int .i64 x]) (by simp [results, Tryz.results151, go_sem, *]) rfl ⟨rfl, (hB3.setCell (by simp) _).setCell (by simp) _⟩
end U
end Go.Proofs.YtjhmfaibpnagcaaGreat

/- The fork bit, the root, the forks and the piece of slots, as the model answers them; both answer alike. -/
namespace Go.Proofs.YtjhmfaibpnagcaaGreat
open Go.RowKit
namespace U
end U
end Go.Proofs.YtjhmfaibpnagcaaGreat

/- The head of a directory, as both models tell it. -/
namespace Go.Proofs.YtjhmfaibpnagcaaGreat
open Go.RowKit
namespace U
/-- The roots of slots without fault, as all functions tell them. -/
structure RootsAt (l : Prl) (o n : Int) : Prop where
  so : ∀ (v : Value) (w : World), Prs w v l → Calls Tryz.prog 142 #[v] w fun e w' => e = .returned (.int .i64 o) ∧ Below w.heap.size w w'
  sn : ∀ (v : Value) (w : World), Prs w v l → Calls Tryz.prog 143 #[v] w fun e w' => e = .returned (.int .i64 n) ∧ Below w.heap.size w w'
  io : ∀ (v : Value) (w : World), Prs w v l → Calls Tryz.prog 150 #[v] w fun e w' => IntAns w 0 o e w'
  inn : ∀ (v : Value) (w : World), Prs w v l → Okv v → Calls Tryz.prog 151 #[v] w fun e w' => IntAns w 0 n e w'
  ob : 0 ≤ o ∧ o ≤ 65520
  nb : 0 ≤ n ∧ n ≤ 65520
theorem roots_at (l : Prl) (h : slF l = 0) : ∃ o n, RootsAt l o n := by
  have hs := slF_ok h
  obtain ⟨t, ht⟩ := isTr_ex _ l (Nat.le_refl _) hs
  have hlen := hs.len
  refine ⟨nd l 8 0, t.sum, fun v w hv => l4Root_any v l w hv (by omega) hs.fin, fun v w hv => (l6Root_any ht hs).c v w hv, fun v w hv => ?_, fun v w hv ho => implNewRoot_ok v l t w hv ho h ht, ?_, ?_⟩
  · have := implOldRoot_any v l w hv (by omega)
    unfold orC orV at this
    rw [h] at this
    exact this
  · exact nd_bd _ _ _
  · exact t.sum_bd
theorem five_cellsF {w : World} {b : Nat} {x0 x1 x2 x3 x4 : Value} {t : TypeId} (h : w.heap[b]? = some (.cells #[x0, x1, x2, x3, x4] t (0, 0))) : (w.cell? ⟨b, 0, none⟩ = some x0 ∧ w.cell? ⟨b, 1, none⟩ = some x1 ∧ w.cell? ⟨b, 2, none⟩ = some x2 ∧ w.cell? ⟨b, 3, none⟩ = some x3 ∧ w.cell? ⟨b, 4, none⟩ = some x4) ∧ w.frozen? ⟨b, 0, none⟩ = false ∧ w.frozen? ⟨b, 1, none⟩ = false ∧ w.frozen? ⟨b, 2, none⟩ = false ∧ w.frozen? ⟨b, 3, none⟩ = false ∧ w.frozen? ⟨b, 4, none⟩ = false := by
  simp [World.cell?, World.frozen?, h]
theorem head_set2 {w : World} {b : Nat} {x0 x1 x2 x3 x4 : Value} {t : TypeId} (h : w.heap[b]? = some (.cells #[x0, x1, x2, x3, x4] t (0, 0))) (x : Value) : (w.setCell ⟨b, 2, none⟩ x).heap[b]? = some (.cells #[x0, x1, x, x3, x4] t (0, 0)) := by
  have := heap_setCell_same w b 2 _ _ x h
  simpa using this
theorem fieldS1 (c : Int) (v : Value) (w : World) (h : ∃ a n k, v = .slice a n k) : (Instr.field 173 (.agg #[.int .i64 c, v]) 1).run Tryz.prog w = .ok v w := by
  obtain ⟨a, n, k, rfl⟩ := h
  kernel_rfl
set_option maxRecDepth 100000 in
set_option maxHeartbeats 2000000 in
theorem rootsOf_any (u : Value) (l : Rcl) (o n : Int) (w : World) (hv : Rcs w u l) (hl : Lbs l) (h0 : dirF l = 0) (hR : RootsAt (dirSl l) o n) :
    Calls Tryz.prog 90 #[.agg #[u]] w fun x w' => x = .returned (trV o n) ∧ Below w.heap.size w w' := by
  have hok := dirOk h0
  have hS := implSlotsOf_any u l ((w.alloc (.cells #[u] 33)).alloc (.cells #[.int .i64 0, .int .i64 0] 147)) (hv.below (two_new _ _)) hl (by have := hok.len; omega)
  have e1 : sfL l = dirSl l := by unfold sfL; rw [if_pos h0]
  rw [e1, h0] at hS
  obtain ⟨a, c, rfl⟩ := hv.shape
  generalize dirSl l = m at *
  generalize l.length = k at *
  clear hv hl h0 e1 hok
  unfold trV
  go_enter Tryz.func90, Tryz.ntmps90
  go_wp2_with fail
  refine hS.mono ?_
  intro x w1 h1
  obtain ⟨hb1, v1, rfl, o1⟩ := h1
  obtain ⟨a1, c1, rfl⟩ := own_sh o1
  have p1 := own_prs o1
  have k1 := own_okv o1
  have kf := fun w => fieldS1 0 (.slice a1 m.length c1) w ⟨_, _, _, rfl⟩
  have Q1 := (heap_at2 hb1).2
  have hB1 : Below w.heap.size w w1 := below_after (below_after hb1)
  have hO := hR.io _ _ p1
  have HN : Hid (∀ w', Below w1.heap.size w1 w' → Calls Tryz.prog 151 #[.slice a1 m.length c1] w' fun e w'' => IntAns w' 0 n e w'') := fun w' h => hR.inn _ _ (p1.below h) k1
  have hlt1 := (Array.getElem?_eq_some_iff.1 Q1).1
  generalize m.length = mn at *
  clear o1 k1 p1 hR hb1 hS
  go_wp2_with fail
  refine hO.mono ?_
  rintro x w2 ⟨rfl, hb2⟩
  have kg := fun w => fieldI1 0 o w
  have hN := HN.out _ hb2
  clear hO kf HN
  go_wp2_with fail
  refine hN.mono ?_
  rintro x w3 ⟨rfl, hb3⟩
  have kh := fun w => fieldI1 0 n w
  have hb13 := below_after_of hb2 hb3
  obtain ⟨c0, c1', f0, f1⟩ := two_cells ((hb13.block _ hlt1).trans Q1)
  have hB3 := below_after_of hB1 hb13
  clear hN hb2 hb3 hb13 Q1 hB1 hlt1
  go_wp2
  exact bodyPost_ret (v := .agg #[.int .i64 o, .int .i64 n]) (by simp [results, Tryz.results90, go_sem, c0, c1']) rfl ⟨rfl, (hB3.setCell (Nat.le_succ _) _).setCell (Nat.le_succ _) _⟩
set_option maxRecDepth 100000 in
set_option maxHeartbeats 2000000 in
theorem l10Head_off (g og : Nat) (u : Value) (l : Rcl) (e p v o n : Int) (w : World) (hg : g < w.heap.size) (hD : w.cell? ⟨g, og, none⟩ = some u) (hv : Rcs w u l) (hok : DirOk l) (hR : RootsAt (dirSl l) o n) :
    Calls Tryz.prog 73 #[.pointer (some ⟨g, og, none⟩), .int .i64 e, .int .i64 p, .int .i64 v] w fun x w' => x = .returned (hdV e p (kepO p o) (kepN p n) v) ∧ Below w.heap.size w w' := by
  have hB0 : Below w.heap.size w ((w.alloc (.cells #[.int .i64 0, .int .i64 0, .int .i64 0, .int .i64 0, .int .i64 0] 88)).alloc (.cells #[.int .i64 e, .int .i64 p, .int .i64 0, .int .i64 0, .int .i64 v] 88)) := two_new _ _
  have hS := l9Slots_off g og u l _ (Nat.lt_of_lt_of_le hg hB0.size) ((hB0.cell (p := ⟨g, og, none⟩) hg).trans hD) (hv.below hB0) hok
  have hO := fun w => l10HasOld_any p w
  have hN := fun w => l10HasNew_any p w
  generalize dirSl l = m at *
  clear hv hD
  unfold hdV kepO kepN
  rcases Bool.eq_false_or_eq_true (hasO p) with h1 | h1
  · rcases Bool.eq_false_or_eq_true (hasN p) with h2 | h2
    · rw [h1] at hO ⊢
      rw [h2] at hN ⊢
      simp only [if_true]
      clear h1 h2
      go_enter Tryz.func73, Tryz.ntmps73
      go_wp2_with fail
      refine hS.mono ?_
      rintro x w1 ⟨v1, rfl, hb1, o1⟩
      obtain ⟨a1, c1, rfl⟩ := own_sh o1
      have QA := (heap_at2 hb1).1
      have QB := (heap_at2 hb1).2
      have hB1 : Below w.heap.size w w1 := below_after (below_after hb1)
      have HO1 : Hid (w1.ownsRow (w.heap.size + 2) 57 2 (.slice a1 m.length c1) m.length ((fl m).map (Value.int .i64))) := own_mono o1 (by simp)
      have hl2 : w.heap.size + 1 < w1.heap.size := (Array.getElem?_eq_some_iff.1 QB).1
      have hl1 : w.heap.size < w1.heap.size := (Array.getElem?_eq_some_iff.1 QA).1
      clear o1 hb1 hS
      obtain ⟨⟨a0, a1', a2, a3, a4⟩, b0, b1, b2, b3, b4⟩ := five_cellsF QA
      obtain ⟨⟨c0, c1', c2, c3, c4⟩, d0, d1, d2, d3, d4⟩ := five_cellsF QB
      go_wp2_with fail
      refine (hO _).mono ?_
      rintro x wq ⟨rfl, hwq⟩
      rw [hwq]
      clear hwq wq
      clear hO
      have hA := hR.so _ _ (own_prs HO1.out)
      have HM : Hid (RootsAt m o n) := hR
      clear hR
      generalize hmn : m.length = mn at *
      have HMN : Hid (m.length = mn) := hmn
      clear hmn
      go_wp2_with fail
      refine hA.mono ?_
      rintro x w2 ⟨rfl, hb2⟩
      have QA2 := (hb2.block _ hl1).trans QA
      have QB2 := (hb2.block _ hl2).trans QB
      have hB2 := below_after_of hB1 hb2
      have HO2 := own_below HO1.out hb2
      have hl3 : w.heap.size + 1 < w2.heap.size := (Array.getElem?_eq_some_iff.1 QB2).1
      clear a0 a1' a2 a3 a4 b0 b1 b2 b3 b4 c0 c1' c2 c3 c4 d0 d1 d2 d3 d4 QA QB hA hb2 HO1
      obtain ⟨⟨a0, a1', a2, a3, a4⟩, b0, b1, b2, b3, b4⟩ := five_cellsF QA2
      obtain ⟨⟨c0, c1', c2, c3, c4⟩, d0, d1, d2, d3, d4⟩ := five_cellsF QB2
      obtain ⟨W3, hW3⟩ : ∃ W3, W3 = w2.setCell ⟨w.heap.size + 1, 2, none⟩ (.int .i64 o) := ⟨_, rfl⟩
      have HW3 : Hid (w2.setCell ⟨w.heap.size + 1, 2, none⟩ (.int .i64 o) = W3) := hW3.symm
      have QA3 : W3.heap[w.heap.size]? = some (.cells #[.int .i64 0, .int .i64 0, .int .i64 0, .int .i64 0, .int .i64 0] 88) := by rw [hW3]; exact (heap_setCell_other w2 ⟨w.heap.size + 1, 2, none⟩ w.heap.size _ (by simp)).trans QA2
      have QB3 : W3.heap[w.heap.size + 1]? = some (.cells #[.int .i64 e, .int .i64 p, .int .i64 o, .int .i64 0, .int .i64 v] 88) := by rw [hW3]; exact head_set2 QB2 _
      have hB3 : Below w.heap.size w W3 := by rw [hW3]; exact hB2.setCell (Nat.le_succ _) _
      have HO3 : Hid (W3.ownsRow (w.heap.size + 2) 57 2 (.slice a1 mn c1) mn ((fl m).map (Value.int .i64))) := by rw [hW3]; exact ownsRow_setCell_below HO2 (by simp) _
      clear hW3 HO2 hB2 hB1 QA2 QB2
      go_wp2_with fail
      rw [HW3.out]
      clear a0 a1' a2 a3 a4 b0 b1 b2 b3 b4 c0 c1' c2 c3 c4 d0 d1 d2 d3 d4 HW3
      obtain ⟨⟨a0, a1', a2, a3, a4⟩, b0, b1, b2, b3, b4⟩ := five_cellsF QA3
      obtain ⟨⟨c0, c1', c2, c3, c4⟩, d0, d1, d2, d3, d4⟩ := five_cellsF QB3
      refine (hN _).mono ?_
      rintro x wq ⟨rfl, hwq⟩
      rw [hwq]
      clear hwq wq
      clear hN
      have hA := HM.out.sn _ _ (own_prs_n HMN.out.symm HO3.out)
      have hl4 : w.heap.size < W3.heap.size := (Array.getElem?_eq_some_iff.1 QA3).1
      have hl5 : w.heap.size + 1 < W3.heap.size := (Array.getElem?_eq_some_iff.1 QB3).1
      go_wp2_with fail
      refine hA.mono ?_
      rintro x w4 ⟨rfl, hb4⟩
      have QA4 := (hb4.block _ hl4).trans QA3
      have QB4 := (hb4.block _ hl5).trans QB3
      have hB4 := below_after_of hB3 hb4
      clear a0 a1' a2 a3 a4 b0 b1 b2 b3 b4 c0 c1' c2 c3 c4 d0 d1 d2 d3 d4 QA3 QB3 hA hb4 hl4 hl5
      obtain ⟨⟨a0, a1', a2, a3, a4⟩, b0, b1, b2, b3, b4⟩ := five_cellsF QA4
      obtain ⟨⟨c0, c1', c2, c3, c4⟩, d0, d1, d2, d3, d4⟩ := five_cellsF QB4
      have HBE : Hid (Below w.heap.size w w4) := hB4
      clear hB4
      go_wp2
      refine bodyPost_ret (v := .agg #[.int .i64 e, .int .i64 p, .int .i64 o, .int .i64 n, .int .i64 v]) (by simp [results, Tryz.results73, go_sem, a0, a1', a2, a3, a4]) rfl ⟨rfl, ?_⟩
      exact (((((HBE.out.setCell (Nat.le_succ _) _).setCell (Nat.le_refl _) _).setCell (Nat.le_refl _) _).setCell (Nat.le_refl _) _).setCell (Nat.le_refl _) _).setCell (Nat.le_refl _) _
    · rw [h1] at hO ⊢
      rw [h2] at hN ⊢
      simp only [if_true, if_false, Bool.false_eq_true]
      clear h1 h2
      go_enter Tryz.func73, Tryz.ntmps73
      go_wp2_with fail
      refine hS.mono ?_
      rintro x w1 ⟨v1, rfl, hb1, o1⟩
      obtain ⟨a1, c1, rfl⟩ := own_sh o1
      have QA := (heap_at2 hb1).1
      have QB := (heap_at2 hb1).2
      have hB1 : Below w.heap.size w w1 := below_after (below_after hb1)
      have HO1 : Hid (w1.ownsRow (w.heap.size + 2) 57 2 (.slice a1 m.length c1) m.length ((fl m).map (Value.int .i64))) := own_mono o1 (by simp)
      have hl2 : w.heap.size + 1 < w1.heap.size := (Array.getElem?_eq_some_iff.1 QB).1
      have hl1 : w.heap.size < w1.heap.size := (Array.getElem?_eq_some_iff.1 QA).1
      clear o1 hb1 hS
      obtain ⟨⟨a0, a1', a2, a3, a4⟩, b0, b1, b2, b3, b4⟩ := five_cellsF QA
      obtain ⟨⟨c0, c1', c2, c3, c4⟩, d0, d1, d2, d3, d4⟩ := five_cellsF QB
      go_wp2_with fail
      refine (hO _).mono ?_
      rintro x wq ⟨rfl, hwq⟩
      rw [hwq]
      clear hwq wq
      clear hO
      have hA := hR.so _ _ (own_prs HO1.out)
      have HM : Hid (RootsAt m o n) := hR
      clear hR
      generalize hmn : m.length = mn at *
      have HMN : Hid (m.length = mn) := hmn
      clear hmn
      go_wp2_with fail
      refine hA.mono ?_
      rintro x w2 ⟨rfl, hb2⟩
      have QA2 := (hb2.block _ hl1).trans QA
      have QB2 := (hb2.block _ hl2).trans QB
      have hB2 := below_after_of hB1 hb2
      have HO2 := own_below HO1.out hb2
      have hl3 : w.heap.size + 1 < w2.heap.size := (Array.getElem?_eq_some_iff.1 QB2).1
      clear a0 a1' a2 a3 a4 b0 b1 b2 b3 b4 c0 c1' c2 c3 c4 d0 d1 d2 d3 d4 QA QB hA hb2 HO1
      obtain ⟨⟨a0, a1', a2, a3, a4⟩, b0, b1, b2, b3, b4⟩ := five_cellsF QA2
      obtain ⟨⟨c0, c1', c2, c3, c4⟩, d0, d1, d2, d3, d4⟩ := five_cellsF QB2
      obtain ⟨W3, hW3⟩ : ∃ W3, W3 = w2.setCell ⟨w.heap.size + 1, 2, none⟩ (.int .i64 o) := ⟨_, rfl⟩
      have HW3 : Hid (w2.setCell ⟨w.heap.size + 1, 2, none⟩ (.int .i64 o) = W3) := hW3.symm
      have QA3 : W3.heap[w.heap.size]? = some (.cells #[.int .i64 0, .int .i64 0, .int .i64 0, .int .i64 0, .int .i64 0] 88) := by rw [hW3]; exact (heap_setCell_other w2 ⟨w.heap.size + 1, 2, none⟩ w.heap.size _ (by simp)).trans QA2
      have QB3 : W3.heap[w.heap.size + 1]? = some (.cells #[.int .i64 e, .int .i64 p, .int .i64 o, .int .i64 0, .int .i64 v] 88) := by rw [hW3]; exact head_set2 QB2 _
      have hB3 : Below w.heap.size w W3 := by rw [hW3]; exact hB2.setCell (Nat.le_succ _) _
      have HO3 : Hid (W3.ownsRow (w.heap.size + 2) 57 2 (.slice a1 mn c1) mn ((fl m).map (Value.int .i64))) := by rw [hW3]; exact ownsRow_setCell_below HO2 (by simp) _
      clear hW3 HO2 hB2 hB1 QA2 QB2
      go_wp2_with fail
      rw [HW3.out]
      clear a0 a1' a2 a3 a4 b0 b1 b2 b3 b4 c0 c1' c2 c3 c4 d0 d1 d2 d3 d4 HW3
      obtain ⟨⟨a0, a1', a2, a3, a4⟩, b0, b1, b2, b3, b4⟩ := five_cellsF QA3
      obtain ⟨⟨c0, c1', c2, c3, c4⟩, d0, d1, d2, d3, d4⟩ := five_cellsF QB3
      refine (hN _).mono ?_
      rintro x wq ⟨rfl, hwq⟩
      rw [hwq]
      clear hwq wq
      clear hN
      have HBE : Hid (Below w.heap.size w W3) := hB3
      clear hB3
      go_wp2
      refine bodyPost_ret (v := .agg #[.int .i64 e, .int .i64 p, .int .i64 o, .int .i64 0, .int .i64 v]) (by simp [results, Tryz.results73, go_sem, a0, a1', a2, a3, a4]) rfl ⟨rfl, ?_⟩
      exact (((((HBE.out).setCell (Nat.le_refl _) _).setCell (Nat.le_refl _) _).setCell (Nat.le_refl _) _).setCell (Nat.le_refl _) _).setCell (Nat.le_refl _) _
  · rcases Bool.eq_false_or_eq_true (hasN p) with h2 | h2
    · rw [h1] at hO ⊢
      rw [h2] at hN ⊢
      simp only [if_true, if_false, Bool.false_eq_true]
      clear h1 h2
      go_enter Tryz.func73, Tryz.ntmps73
      go_wp2_with fail
      refine hS.mono ?_
      rintro x w1 ⟨v1, rfl, hb1, o1⟩
      obtain ⟨a1, c1, rfl⟩ := own_sh o1
      have QA := (heap_at2 hb1).1
      have QB := (heap_at2 hb1).2
      have hB1 : Below w.heap.size w w1 := below_after (below_after hb1)
      have HO1 : Hid (w1.ownsRow (w.heap.size + 2) 57 2 (.slice a1 m.length c1) m.length ((fl m).map (Value.int .i64))) := own_mono o1 (by simp)
      have hl2 : w.heap.size + 1 < w1.heap.size := (Array.getElem?_eq_some_iff.1 QB).1
      have hl1 : w.heap.size < w1.heap.size := (Array.getElem?_eq_some_iff.1 QA).1
      clear o1 hb1 hS
      obtain ⟨⟨a0, a1', a2, a3, a4⟩, b0, b1, b2, b3, b4⟩ := five_cellsF QA
      obtain ⟨⟨c0, c1', c2, c3, c4⟩, d0, d1, d2, d3, d4⟩ := five_cellsF QB
      go_wp2_with fail
      refine (hO _).mono ?_
      rintro x wq ⟨rfl, hwq⟩
      rw [hwq]
      clear hwq wq
      clear hO
      go_wp2_with fail
      refine (hN _).mono ?_
      rintro x wq ⟨rfl, hwq⟩
      rw [hwq]
      clear hwq wq
      clear hN
      have hA := hR.sn _ _ (own_prs HO1.out)
      generalize m.length = mn at *
      have hl4 : w.heap.size < w1.heap.size := (Array.getElem?_eq_some_iff.1 QA).1
      have hl5 : w.heap.size + 1 < w1.heap.size := (Array.getElem?_eq_some_iff.1 QB).1
      go_wp2_with fail
      refine hA.mono ?_
      rintro x w4 ⟨rfl, hb4⟩
      have QA4 := (hb4.block _ hl4).trans QA
      have QB4 := (hb4.block _ hl5).trans QB
      have hB4 := below_after_of hB1 hb4
      clear a0 a1' a2 a3 a4 b0 b1 b2 b3 b4 c0 c1' c2 c3 c4 d0 d1 d2 d3 d4 QA QB hA hb4 hl4 hl5
      obtain ⟨⟨a0, a1', a2, a3, a4⟩, b0, b1, b2, b3, b4⟩ := five_cellsF QA4
      obtain ⟨⟨c0, c1', c2, c3, c4⟩, d0, d1, d2, d3, d4⟩ := five_cellsF QB4
      have HBE : Hid (Below w.heap.size w w4) := hB4
      clear hB4
      go_wp2
      refine bodyPost_ret (v := .agg #[.int .i64 e, .int .i64 p, .int .i64 0, .int .i64 n, .int .i64 v]) (by simp [results, Tryz.results73, go_sem, a0, a1', a2, a3, a4]) rfl ⟨rfl, ?_⟩
      exact (((((HBE.out.setCell (Nat.le_succ _) _).setCell (Nat.le_refl _) _).setCell (Nat.le_refl _) _).setCell (Nat.le_refl _) _).setCell (Nat.le_refl _) _).setCell (Nat.le_refl _) _
    · rw [h1] at hO ⊢
      rw [h2] at hN ⊢
      simp only [if_false, Bool.false_eq_true]
      clear h1 h2
      go_enter Tryz.func73, Tryz.ntmps73
      go_wp2_with fail
      refine hS.mono ?_
      rintro x w1 ⟨v1, rfl, hb1, o1⟩
      obtain ⟨a1, c1, rfl⟩ := own_sh o1
      have QA := (heap_at2 hb1).1
      have QB := (heap_at2 hb1).2
      have hB1 : Below w.heap.size w w1 := below_after (below_after hb1)
      have HO1 : Hid (w1.ownsRow (w.heap.size + 2) 57 2 (.slice a1 m.length c1) m.length ((fl m).map (Value.int .i64))) := own_mono o1 (by simp)
      have hl2 : w.heap.size + 1 < w1.heap.size := (Array.getElem?_eq_some_iff.1 QB).1
      have hl1 : w.heap.size < w1.heap.size := (Array.getElem?_eq_some_iff.1 QA).1
      clear o1 hb1 hS
      obtain ⟨⟨a0, a1', a2, a3, a4⟩, b0, b1, b2, b3, b4⟩ := five_cellsF QA
      obtain ⟨⟨c0, c1', c2, c3, c4⟩, d0, d1, d2, d3, d4⟩ := five_cellsF QB
      go_wp2_with fail
      refine (hO _).mono ?_
      rintro x wq ⟨rfl, hwq⟩
      rw [hwq]
      clear hwq wq
      clear hO
      go_wp2_with fail
      refine (hN _).mono ?_
      rintro x wq ⟨rfl, hwq⟩
      rw [hwq]
      clear hwq wq
      clear hN
      have HBE : Hid (Below w.heap.size w w1) := hB1
      clear hB1
      go_wp2
      refine bodyPost_ret (v := .agg #[.int .i64 e, .int .i64 p, .int .i64 0, .int .i64 0, .int .i64 v]) (by simp [results, Tryz.results73, go_sem, a0, a1', a2, a3, a4]) rfl ⟨rfl, ?_⟩
      exact (((((HBE.out).setCell (Nat.le_refl _) _).setCell (Nat.le_refl _) _).setCell (Nat.le_refl _) _).setCell (Nat.le_refl _) _).setCell (Nat.le_refl _) _
end U
end Go.Proofs.YtjhmfaibpnagcaaGreat

/- The head for a directory, as both models tell it. -/
namespace Go.Proofs.YtjhmfaibpnagcaaGreat
open Go.RowKit
namespace U
def hfC (l : Rcl) (e p v : Int) : Int := if dirF l = 0 then (if hdN e p v = true then 0 else 3) else dirF l
theorem hfC_dir {l : Rcl} {e p v : Int} (h : ¬ dirF l = 0) : hfC l e p v = dirF l := if_neg h
theorem hfC_ok {l : Rcl} {e p v : Int} (h : dirF l = 0) (h1 : hdN e p v = true) : hfC l e p v = 0 := by unfold hfC; rw [if_pos h, h1]; rfl
theorem hdC_bare (e p v : Int) : hdC e p 0 0 v = if hdN e p v = true then 0 else 3 := by
  have h0 : sumB 0 = true := by decide
  have h1 : hdF p 0 0 = true := by simp [hdF]
  unfold hdC hdR
  rw [h0, h1]
  simp
theorem hfC_or (l : Rcl) (e p v : Int) : (if dirF l = 0 then hdC e p 0 0 v else dirF l) = hfC l e p v := by unfold hfC; rw [hdC_bare]
set_option maxRecDepth 100000 in
set_option maxHeartbeats 4000000 in
theorem implHeadFor_bad (u : Value) (l : Rcl) (e p v : Int) (w : World) (hv : Rcs w u l) (hl : Lbs l) (hx : l.length ≤ 1099511627776) (h : ¬ hfC l e p v = 0) :
    Calls Tryz.prog 38 #[.agg #[u], .int .i64 e, .int .i64 p, .int .i64 v] w fun x w' => x = .returned (hrV (hfC l e p v) 0 0 0 0 0) ∧ Below w.heap.size w w' := by
  obtain ⟨W, hW⟩ : ∃ W, W = ((w.alloc (.cells #[u] 33)).alloc headZ).alloc (.cells #[.int .i64 e, .int .i64 p, .int .i64 0, .int .i64 0, .int .i64 v] 149) := ⟨_, rfl⟩
  have HW : Hid (((w.alloc (.cells #[u] 33)).alloc headZ).alloc (.cells #[.int .i64 e, .int .i64 p, .int .i64 0, .int .i64 0, .int .i64 v] 149) = W) := hW.symm
  have hB0 : Below w.heap.size w W := by rw [hW]; exact (two_new _ _).alloc (by simp; omega) _
  have A0 : W.heap[w.heap.size]? = some (.cells #[u] 33) := by
    rw [hW]; exact ((one_new _).block w.heap.size (by simp; omega)).trans (((one_new headZ).block w.heap.size (by simp)).trans (heap_alloc_new w _))
  have A1 : W.heap[w.heap.size + 1]? = some headZ := by
    rw [hW]; exact ((one_new _).block (w.heap.size + 1) (by simp)).trans (heap_new2 w _ _)
  have A2 : W.heap[w.heap.size + 1 + 1]? = some (.cells #[.int .i64 e, .int .i64 p, .int .i64 0, .int .i64 0, .int .i64 v] 149) := by
    rw [hW]
    have := heap_alloc_new ((w.alloc (.cells #[u] 33)).alloc headZ) (.cells #[.int .i64 e, .int .i64 p, .int .i64 0, .int .i64 0, .int .i64 v] 149)
    simpa using this
  have HD : Hid (∀ w', Below W.heap.size W w' → Calls Tryz.prog 79 #[.agg #[u]] w' fun x w'' => x = .returned (.int .i64 (dirF l)) ∧ Below w'.heap.size w' w'') := fun w' h => implDirectoryFault_any u l w' (hv.below (below_after_of hB0 h)) hl hx
  have hFl := fun w => flat_any e p 0 0 v w
  have hHF := fun w => implHeadFault_any e p 0 0 v w
  have hOr := fun u w hu => cmpOr2 (dirF l) (hdC e p 0 0 v) u w hu
  rw [hfC_or] at hOr
  have hcn := code_ne h
  unfold hrV
  obtain ⟨a, c, rfl⟩ := hv.shape
  unfold hdV at hFl hHF
  unfold headZ at HW A1
  generalize hdC e p 0 0 v = hc at *
  generalize dirF l = df at *
  generalize hfC l e p v = q at *
  clear hl h
  generalize l.length = k at *
  have l0 := (Array.getElem?_eq_some_iff.1 A0).1
  have l1 := (Array.getElem?_eq_some_iff.1 A1).1
  have l2 := (Array.getElem?_eq_some_iff.1 A2).1
  have HCC : Hid (∀ w', Below W.heap.size W w' → w'.cell? ⟨w.heap.size, 0, none⟩ = some (.slice a k c) ∧ w'.cell? ⟨w.heap.size + 1 + 1, 0, none⟩ = some (.int .i64 e) ∧ w'.cell? ⟨w.heap.size + 1 + 1, 1, none⟩ = some (.int .i64 p) ∧ w'.cell? ⟨w.heap.size + 1 + 1, 2, none⟩ = some (.int .i64 0) ∧ w'.cell? ⟨w.heap.size + 1 + 1, 3, none⟩ = some (.int .i64 0) ∧ w'.cell? ⟨w.heap.size + 1 + 1, 4, none⟩ = some (.int .i64 v)) :=
    fun w' h => ⟨by unfold World.cell?; rw [(h.block _ l0).trans A0]; rfl, five_cells ((h.block _ l2).trans A2)⟩
  have HA1 : Hid (∀ w', Below W.heap.size W w' → w'.heap[w.heap.size + 1]? = some (.cells #[.int .i64 0, .int .i64 0, .int .i64 0, .int .i64 0, .int .i64 0, .int .i64 0] 90)) := fun w' h => (h.block _ l1).trans A1
  have HA2 : Hid (∀ w', Below W.heap.size W w' → w'.heap[w.heap.size + 1 + 1]? = some (.cells #[.int .i64 e, .int .i64 p, .int .i64 0, .int .i64 0, .int .i64 v] 149)) := fun w' h => (h.block _ l2).trans A2
  have HBW : Hid (∀ w', Below W.heap.size W w' → Below w.heap.size w w') := fun w' h => below_after_of hB0 h
  have hbr := Below.refl W.heap.size W
  obtain ⟨g0, g1, g2, g3, g4, g5⟩ := HCC.out _ hbr
  clear hv hW hB0 A0 A1 A2 l0 l1 l2 hx
  go_enter Tryz.func38, Tryz.ntmps38
  go_wp2_with fail
  rw [HW.out]
  go_region_held3 (fun w' => w'.cell? ⟨w.heap.size, 0, none⟩ = some (.slice a k c) ∧ w'.cell? ⟨w.heap.size + 1 + 1, 0, none⟩ = some (.int .i64 e) ∧ w'.cell? ⟨w.heap.size + 1 + 1, 1, none⟩ = some (.int .i64 p) ∧ w'.cell? ⟨w.heap.size + 1 + 1, 2, none⟩ = some (.int .i64 0) ∧ w'.cell? ⟨w.heap.size + 1 + 1, 3, none⟩ = some (.int .i64 0) ∧ w'.cell? ⟨w.heap.size + 1 + 1, 4, none⟩ = some (.int .i64 v))
    (first | with_reducible exact ⟨g0, g1, g2, g3, g4, g5⟩ | with_reducible exact HCC.out _ hbr | with_reducible exact HCC.out _ hbr.drew | with_reducible exact HCC.out _ (hbr.alloc hbr.size _))
    (first
      | (go_at_call 79; refine (HD.out _ (by first | exact hbr | exact hbr.drew)).mono ?_; rintro x w2 ⟨rfl, hb2⟩; have hbr : Below W.heap.size W w2 := (by first | exact below_after_of hbr hb2 | exact below_after_of hbr.drew hb2))
      | (go_at_call 89; refine (hFl _).mono ?_; rintro x w3 ⟨rfl, hb3⟩; have hbr : Below W.heap.size W w3 := (by first | exact below_after_of hbr hb3 | exact below_after_of hbr.drew hb3))
      | (go_at_call 88; refine (hHF _).mono ?_; rintro x w4 ⟨rfl, hb4⟩; have hbr : Below W.heap.size W w4 := (by first | exact below_after_of hbr hb4 | exact below_after_of hbr.drew hb4))
      | (go_at_call 56; refine (hOr _ _ (two_intsH rfl)).mono ?_; rintro x w5 ⟨rfl, hw5⟩; have hbr : Below W.heap.size W w5 := (by rw [hw5]; exact hbr.alloc hbr.size _); clear hw5))
  clear g0 g1 g2 g3 g4 g5 HD hHF hOr HW
  obtain ⟨⟨c0, c1, c2, c3, c4, c5⟩, f0, f1, f2, f3, f4, f5⟩ := six_cellsH (HA1.out _ hbr)
  have hB1 := HBW.out _ hbr
  clear HCC HA1 HA2 HBW hFl hbr
  go_wp2
  refine bodyPost_ret (v := .agg #[.int .i64 q, .int .i64 0, .int .i64 0, .int .i64 0, .int .i64 0, .int .i64 0]) (by simp [results, Tryz.results38, go_sem, c0, c1, c2, c3, c4, c5]) rfl ⟨rfl, ?_⟩
  exact (((((hB1.setCell (Nat.le_succ _) _).setCell (Nat.le_succ _) _).setCell (Nat.le_succ _) _).setCell (Nat.le_succ _) _).setCell (Nat.le_succ _) _).setCell (Nat.le_succ _) _
set_option maxRecDepth 100000 in
set_option maxHeartbeats 4000000 in
theorem implHeadFor_ok (u : Value) (l : Rcl) (e p v o n : Int) (w : World) (hv : Rcs w u l) (hl : Lbs l) (hx : l.length ≤ 1099511627776) (h0 : dirF l = 0) (h1 : hdN e p v = true) (hR : RootsAt (dirSl l) o n) :
    Calls Tryz.prog 38 #[.agg #[u], .int .i64 e, .int .i64 p, .int .i64 v] w fun x w' => x = .returned (hrV 0 e p (kepO p o) (kepN p n) v) ∧ Below w.heap.size w w' := by
  obtain ⟨W, hW⟩ : ∃ W, W = ((w.alloc (.cells #[u] 33)).alloc headZ).alloc (.cells #[.int .i64 e, .int .i64 p, .int .i64 0, .int .i64 0, .int .i64 v] 149) := ⟨_, rfl⟩
  have HW : Hid (((w.alloc (.cells #[u] 33)).alloc headZ).alloc (.cells #[.int .i64 e, .int .i64 p, .int .i64 0, .int .i64 0, .int .i64 v] 149) = W) := hW.symm
  have hB0 : Below w.heap.size w W := by rw [hW]; exact (two_new _ _).alloc (by simp; omega) _
  have A0 : W.heap[w.heap.size]? = some (.cells #[u] 33) := by
    rw [hW]; exact ((one_new _).block w.heap.size (by simp; omega)).trans (((one_new headZ).block w.heap.size (by simp)).trans (heap_alloc_new w _))
  have A1 : W.heap[w.heap.size + 1]? = some headZ := by
    rw [hW]; exact ((one_new _).block (w.heap.size + 1) (by simp)).trans (heap_new2 w _ _)
  have A2 : W.heap[w.heap.size + 1 + 1]? = some (.cells #[.int .i64 e, .int .i64 p, .int .i64 0, .int .i64 0, .int .i64 v] 149) := by
    rw [hW]
    have := heap_alloc_new ((w.alloc (.cells #[u] 33)).alloc headZ) (.cells #[.int .i64 e, .int .i64 p, .int .i64 0, .int .i64 0, .int .i64 v] 149)
    simpa using this
  have HD : Hid (∀ w', Below W.heap.size W w' → Calls Tryz.prog 79 #[.agg #[u]] w' fun x w'' => x = .returned (.int .i64 (dirF l)) ∧ Below w'.heap.size w' w'') := fun w' h => implDirectoryFault_any u l w' (hv.below (below_after_of hB0 h)) hl hx
  have hFl := fun w => flat_any e p 0 0 v w
  have hHF := fun w => implHeadFault_any e p 0 0 v w
  have hOr := fun u w hu => cmpOr2 (dirF l) (hdC e p 0 0 v) u w hu
  rw [hfC_or] at hOr
  rw [hfC_ok h0 h1] at hOr
  have HRo : Hid (∀ w', Below W.heap.size W w' → Calls Tryz.prog 90 #[.agg #[u]] w' fun x w'' => x = .returned (trV o n) ∧ Below w'.heap.size w' w'') := fun w' h => rootsOf_any u l o n w' (hv.below (below_after_of hB0 h)) hl h0 hR
  have hK := fun w => keptIn_any o n p w
  have hF2 := fun w => flat_any e p (kepO p o) (kepN p n) v w
  unfold hrV
  unfold trV at HRo hK
  unfold hdV at hF2
  clear hR h0 h1
  obtain ⟨a, c, rfl⟩ := hv.shape
  unfold hdV at hFl hHF
  unfold headZ at HW A1
  generalize hdC e p 0 0 v = hc at *
  generalize dirF l = df at *
  generalize kepO p o = ko at *
  generalize kepN p n = kn at *
  clear hl
  generalize l.length = k at *
  have l0 := (Array.getElem?_eq_some_iff.1 A0).1
  have l1 := (Array.getElem?_eq_some_iff.1 A1).1
  have l2 := (Array.getElem?_eq_some_iff.1 A2).1
  have HCC : Hid (∀ w', Below W.heap.size W w' → w'.cell? ⟨w.heap.size, 0, none⟩ = some (.slice a k c) ∧ w'.cell? ⟨w.heap.size + 1 + 1, 0, none⟩ = some (.int .i64 e) ∧ w'.cell? ⟨w.heap.size + 1 + 1, 1, none⟩ = some (.int .i64 p) ∧ w'.cell? ⟨w.heap.size + 1 + 1, 2, none⟩ = some (.int .i64 0) ∧ w'.cell? ⟨w.heap.size + 1 + 1, 3, none⟩ = some (.int .i64 0) ∧ w'.cell? ⟨w.heap.size + 1 + 1, 4, none⟩ = some (.int .i64 v)) :=
    fun w' h => ⟨by unfold World.cell?; rw [(h.block _ l0).trans A0]; rfl, five_cells ((h.block _ l2).trans A2)⟩
  have HA1 : Hid (∀ w', Below W.heap.size W w' → w'.heap[w.heap.size + 1]? = some (.cells #[.int .i64 0, .int .i64 0, .int .i64 0, .int .i64 0, .int .i64 0, .int .i64 0] 90)) := fun w' h => (h.block _ l1).trans A1
  have HA2 : Hid (∀ w', Below W.heap.size W w' → w'.heap[w.heap.size + 1 + 1]? = some (.cells #[.int .i64 e, .int .i64 p, .int .i64 0, .int .i64 0, .int .i64 v] 149)) := fun w' h => (h.block _ l2).trans A2
  have HBW : Hid (∀ w', Below W.heap.size W w' → Below w.heap.size w w') := fun w' h => below_after_of hB0 h
  have hbr := Below.refl W.heap.size W
  obtain ⟨g0, g1, g2, g3, g4, g5⟩ := HCC.out _ hbr
  clear hv hW hB0 A0 A1 A2 l0 l1 l2 hx
  go_enter Tryz.func38, Tryz.ntmps38
  go_wp2_with fail
  rw [HW.out]
  go_region_held3 (fun w' => w'.cell? ⟨w.heap.size, 0, none⟩ = some (.slice a k c) ∧ w'.cell? ⟨w.heap.size + 1 + 1, 0, none⟩ = some (.int .i64 e) ∧ w'.cell? ⟨w.heap.size + 1 + 1, 1, none⟩ = some (.int .i64 p) ∧ w'.cell? ⟨w.heap.size + 1 + 1, 2, none⟩ = some (.int .i64 0) ∧ w'.cell? ⟨w.heap.size + 1 + 1, 3, none⟩ = some (.int .i64 0) ∧ w'.cell? ⟨w.heap.size + 1 + 1, 4, none⟩ = some (.int .i64 v))
    (first | with_reducible exact ⟨g0, g1, g2, g3, g4, g5⟩ | with_reducible exact HCC.out _ hbr | with_reducible exact HCC.out _ hbr.drew | with_reducible exact HCC.out _ (hbr.alloc hbr.size _))
    (first
      | (go_at_call 79; refine (HD.out _ (by first | exact hbr | exact hbr.drew)).mono ?_; rintro x w2 ⟨rfl, hb2⟩; have hbr : Below W.heap.size W w2 := (by first | exact below_after_of hbr hb2 | exact below_after_of hbr.drew hb2))
      | (go_at_call 89; refine (hFl _).mono ?_; rintro x w3 ⟨rfl, hb3⟩; have hbr : Below W.heap.size W w3 := (by first | exact below_after_of hbr hb3 | exact below_after_of hbr.drew hb3))
      | (go_at_call 88; refine (hHF _).mono ?_; rintro x w4 ⟨rfl, hb4⟩; have hbr : Below W.heap.size W w4 := (by first | exact below_after_of hbr hb4 | exact below_after_of hbr.drew hb4))
      | (go_at_call 56; refine (hOr _ _ (two_intsH rfl)).mono ?_; rintro x w5 ⟨rfl, hw5⟩; have hbr : Below W.heap.size W w5 := (by rw [hw5]; exact hbr.alloc hbr.size _); clear hw5))
  clear g0 g1 g2 g3 g4 g5 HD hHF hOr HW
  obtain ⟨g0, g1, g2, g3, g4, g5⟩ := HCC.out _ hbr
  clear HCC hFl
  go_wp2_with fail
  refine (HRo.out _ hbr).mono ?_
  rintro x w6 ⟨rfl, hb6⟩
  have hbr6 := below_after_of hbr hb6
  clear HRo hb6
  go_wp2_with fail
  refine (hK _).mono ?_
  rintro x w7 ⟨rfl, hb7⟩
  have hbr7 := below_after_of hbr6 hb7
  have Q1 := HA1.out _ hbr7
  have Q2 := HA2.out _ hbr7
  have hB7 := HBW.out _ hbr7
  clear hK hb7 HA1 HA2 HBW hbr hbr6 hbr7 g0 g1 g2 g3 g4 g5
  obtain ⟨⟨d0, d1, d2, d3, d4⟩, j0, j1, j2, j3, j4⟩ := five_cellsF Q2
  obtain ⟨W8, hW8⟩ : ∃ W8, W8 = (w7.setCell ⟨w.heap.size + 1 + 1, 2, none⟩ (.int .i64 ko)).setCell ⟨w.heap.size + 1 + 1, 3, none⟩ (.int .i64 kn) := ⟨_, rfl⟩
  have HW8 : Hid ((w7.setCell ⟨w.heap.size + 1 + 1, 2, none⟩ (.int .i64 ko)).setCell ⟨w.heap.size + 1 + 1, 3, none⟩ (.int .i64 kn) = W8) := hW8.symm
  have R1 : W8.heap[w.heap.size + 1]? = some (.cells #[.int .i64 0, .int .i64 0, .int .i64 0, .int .i64 0, .int .i64 0, .int .i64 0] 90) := by
    rw [hW8]; exact (heap_setCell_other _ ⟨w.heap.size + 1 + 1, 3, none⟩ (w.heap.size + 1) _ (by simp)).trans ((heap_setCell_other _ ⟨w.heap.size + 1 + 1, 2, none⟩ (w.heap.size + 1) _ (by simp)).trans Q1)
  have hB8 : Below w.heap.size w W8 := by rw [hW8]; exact (hB7.setCell (by show w.heap.size ≤ w.heap.size + 1 + 1; omega) _).setCell (by show w.heap.size ≤ w.heap.size + 1 + 1; omega) _
  have lt8 := (Array.getElem?_eq_some_iff.1 R1).1
  clear hW8 Q1 Q2 hB7
  go_wp2_with fail
  rw [HW8.out]
  clear d0 d1 d2 d3 d4 j0 j1 j2 j3 j4 HW8
  refine (hF2 _).mono ?_
  rintro x w9 ⟨rfl, hb9⟩
  obtain ⟨⟨c0, c1, c2, c3, c4, c5⟩, f0, f1, f2, f3, f4, f5⟩ := six_cellsH ((hb9.block _ lt8).trans R1)
  have hB9 := below_after_of hB8 hb9
  clear hF2 hb9 R1 hB8 lt8
  go_wp2
  refine bodyPost_ret (v := .agg #[.int .i64 0, .int .i64 e, .int .i64 p, .int .i64 ko, .int .i64 kn, .int .i64 v]) (by simp [results, Tryz.results38, go_sem, c0, c1, c2, c3, c4, c5]) rfl ⟨rfl, ?_⟩
  exact (((((hB9.setCell (Nat.le_succ _) _).setCell (Nat.le_succ _) _).setCell (Nat.le_succ _) _).setCell (Nat.le_succ _) _).setCell (Nat.le_succ _) _).setCell (Nat.le_succ _) _
end U
end Go.Proofs.YtjhmfaibpnagcaaGreat

/- A record that a law is handed: how great it is, and the record that the functions are handed. -/
namespace Go.Proofs.YtjhmfaibpnagcaaGreat
open Go.RowKit
namespace U
set_option maxRecDepth 100000 in
set_option maxHeartbeats 1000000 in
theorem toRecord_any (l : ByteArray) (v o p : Int) (w : World) :
    Calls Tryz.prog 17 #[recV l v o p] w fun e w' => e = .returned (recV l v o p) ∧ Below w.heap.size w w' := by
  unfold recV
  go_enter Tryz.func17, Tryz.ntmps17
  go_wp2
  refine bodyPost_ret (v := recV l v o p) (by simp [results, Tryz.results17, go_sem, recV]) rfl ⟨rfl, ?_⟩
  exact (two_new _ _).alloc (by simp; omega) _
end U
end Go.Proofs.YtjhmfaibpnagcaaGreat

/- Records in blocks that may be written: where they come from, and how they stay. -/
namespace Go.Proofs.YtjhmfaibpnagcaaGreat
open Go.RowKit
namespace U
/-- A result that lies in five cells that may be written. -/
structure ResOwn (w : World) (g : Nat) (c : Int) (l : ByteArray) (v o p : Int) : Prop where
  c0 : w.cell? ⟨g, 0, none⟩ = some (.int .i64 c)
  c1 : w.cell? ⟨g, 1, none⟩ = some (.string l)
  c2 : w.cell? ⟨g, 2, none⟩ = some (.int .i64 v)
  c3 : w.cell? ⟨g, 3, none⟩ = some (.int .i64 o)
  c4 : w.cell? ⟨g, 4, none⟩ = some (.int .i64 p)
  f0 : w.frozen? ⟨g, 0, none⟩ = false
  f1 : w.frozen? ⟨g, 1, none⟩ = false
  f2 : w.frozen? ⟨g, 2, none⟩ = false
  f3 : w.frozen? ⟨g, 3, none⟩ = false
  f4 : w.frozen? ⟨g, 4, none⟩ = false
theorem res_of_heap {W : World} {g : Nat} {c : Int} {l : ByteArray} {v o p : Int} {t : TypeId} (h : W.heap[g]? = some (.cells #[.int .i64 c, .string l, .int .i64 v, .int .i64 o, .int .i64 p] t (0, 0))) : ResOwn W g c l v o p := by
  constructor <;> simp [World.cell?, World.frozen?, h]
end U
end Go.Proofs.YtjhmfaibpnagcaaGreat

/- Results that hold a record, held against one another. -/
namespace Go.Proofs.YtjhmfaibpnagcaaGreat
open Go.RowKit
namespace U
set_option maxRecDepth 100000 in
set_option maxHeartbeats 1000000 in
theorem eqRecord_same (l : ByteArray) (v o p : Int) (w : World) :
    Calls Tryz.prog 133 #[recV l v o p, recV l v o p] w fun e w' => e = .returned (.bool true) ∧ Below w.heap.size w w' := by
  have h1 : (l.toList == l.toList) = true := by simp
  unfold recV
  go_enter Tryz.func133, Tryz.ntmps133
  go_wp2
  go_ret
  exact ⟨rfl, two_new _ _⟩
/-- A result that lies in five cells of a block. -/
structure ResAt (w : World) (g : Nat) (c : Int) (l : ByteArray) (v o p : Int) : Prop where
  lt : g < w.heap.size
  c0 : w.cell? ⟨g, 0, none⟩ = some (.int .i64 c)
  c1 : w.cell? ⟨g, 1, none⟩ = some (.string l)
  c2 : w.cell? ⟨g, 2, none⟩ = some (.int .i64 v)
  c3 : w.cell? ⟨g, 3, none⟩ = some (.int .i64 o)
  c4 : w.cell? ⟨g, 4, none⟩ = some (.int .i64 p)
theorem ResAt.new (w : World) (c : Int) (l : ByteArray) (v o p : Int) (t : TypeId) : ResAt (w.alloc (.cells #[.int .i64 c, .string l, .int .i64 v, .int .i64 o, .int .i64 p] t)) w.heap.size c l v o p := by
  have h := res_of_heap (heap_alloc_new w (.cells #[.int .i64 c, .string l, .int .i64 v, .int .i64 o, .int .i64 p] t))
  exact ⟨by simp, h.c0, h.c1, h.c2, h.c3, h.c4⟩
theorem ResAt.below {w w' : World} {g : Nat} {c : Int} {l : ByteArray} {v o p : Int} (h : ResAt w g c l v o p) (hb : Below w.heap.size w w') : ResAt w' g c l v o p :=
  ⟨Nat.lt_of_lt_of_le h.lt hb.size, (hb.cell (p := ⟨g, 0, none⟩) h.lt).trans h.c0, (hb.cell (p := ⟨g, 1, none⟩) h.lt).trans h.c1, (hb.cell (p := ⟨g, 2, none⟩) h.lt).trans h.c2, (hb.cell (p := ⟨g, 3, none⟩) h.lt).trans h.c3, (hb.cell (p := ⟨g, 4, none⟩) h.lt).trans h.c4⟩
end U
end Go.Proofs.YtjhmfaibpnagcaaGreat

/- Directories as the laws look at them: sizes, copies, compared. -/
namespace Go.Proofs.YtjhmfaibpnagcaaGreat
open Go.RowKit
namespace U
theorem Tryz.infoRc : (Tryz.prog.info? 52).map (fun i => (i.zero, i.size, i.bytes)) = some (some (.agg #[.string ⟨#[]⟩, .int .i64 0, .int .i64 0, .int .i64 0]), 4, 40) := by kernel_rfl
/-- What is left of a size behind some records. -/
def szT (l : Rcl) (z : Int) : Nat → Int
  | 0 => z - l.length
  | k + 1 => szT l z k - (rAt l k).l.size
theorem szT_mono (l : Rcl) (z : Int) (k : Nat) : ∀ d, szT l z (k + d) ≤ szT l z k
  | 0 => Int.le_refl _
  | d + 1 => by
    have := szT_mono l z k d
    show szT l z (k + d) - _ ≤ _
    omega
def szR (l : Rcl) (z : Int) : Int := if szT l z l.length < 0 then -1 else szT l z l.length
theorem szT_le {l : Rcl} {z : Int} {k : Nat} : szT l z k ≤ z := by
  have h := szT_mono l z 0 k
  rw [Nat.zero_add] at h
  have : szT l z 0 = z - l.length := rfl
  omega
theorem szR_ok {l : Rcl} {z : Int} (hz : z ≤ 1048576) (h : ¬ szR l z < 0) : l.length ≤ 1048576 ∧ Lbs l ∧ szR l z ≤ z ∧ szR l z = szT l z l.length := by
  unfold szR at h ⊢
  by_cases h1 : szT l z l.length < 0
  · rw [if_pos h1] at h; omega
  · rw [if_neg h1]
    refine ⟨?_, ?_, szT_le, rfl⟩
    · have h2 := szT_mono l z 0 l.length
      rw [Nat.zero_add] at h2
      have : szT l z 0 = z - l.length := rfl
      omega
    · intro r hr
      obtain ⟨j, hj, rfl⟩ := List.mem_iff_getElem.1 hr
      have h2 := szT_mono l z (j + 1) (l.length - (j + 1))
      rw [show j + 1 + (l.length - (j + 1)) = l.length by omega] at h2
      have h3 : szT l z (j + 1) = szT l z j - (rAt l j).l.size := rfl
      have h4 : szT l z j ≤ z := szT_le
      rw [rAt_eq hj] at h3
      omega
set_option maxRecDepth 100000 in
set_option maxHeartbeats 1000000 in
theorem szRecord_gen (l : ByteArray) (v o p z : Int) (w : World) (hs : l.size ≤ maxLen) (hz : 0 ≤ z ∧ z ≤ 1048576) :
    Calls Tryz.prog 15 #[recV l v o p, .int .i64 z] w fun e w' => e = .returned (.int .i64 (if z - l.size < 0 then -1 else z - l.size)) ∧ Below w.heap.size w w' := by
  unfold recV
  unfold maxLen at hs
  have h := RecAt.new w l v o p 49
  by_cases h1 : z - l.size < 0
  · rw [if_pos h1]
    go_enter Tryz.func15, Tryz.ntmps15
    go_wp2
    go_ret
    exact ⟨rfl, one_new _⟩
  · rw [if_neg h1]
    go_enter Tryz.func15, Tryz.ntmps15
    go_wp2
    go_ret
    exact ⟨rfl, one_new _⟩
/-- Records whose labels lie in memory. -/
def LbM (l : Rcl) : Prop := ∀ r ∈ l, r.l.size ≤ maxLen
theorem LbM.at {l : Rcl} (h : LbM l) {j : Nat} (hj : j < l.length) : (rAt l j).l.size ≤ maxLen := h _ (rAt_mem hj)
set_option maxRecDepth 100000 in
set_option maxHeartbeats 2000000 in
theorem szRecordS_core (b off c n : Nat) (l : Rcl) (z : Int) (w : World) (HN : Hid (n = l.length)) (hn : n ≤ 1048576) (hz : 0 ≤ z ∧ z ≤ 1048576) (hnz : ¬ z - n < 0) (hb : b < w.heap.size) (hM : LbM l) (hc : ∀ j, j < n → RecS w b (off + j * 4) (rAt l j)) :
    Calls Tryz.prog 65 #[.slice (some ⟨b, off, none⟩) n c, .int .i64 z] w fun e w' => e = .returned (.int .i64 (szR l z)) ∧ Below w.heap.size w w' := by
  have e0 : szT l z 0 = z - n := by rw [HN.out]; rfl
  have HZ : Hid (szR l z = if szT l z n < 0 then -1 else szT l z n) := (by rw [HN.out]; rfl : szR l z = if szT l z n < 0 then -1 else szT l z n)
  have HM : Hid (∀ k d, szT l z (k + d) ≤ szT l z k) := szT_mono l z
  have HL : Hid (∀ k, szT l z k ≤ z) := fun k => szT_le
  generalize szR l z = q at *
  go_enter Tryz.func65, Tryz.ntmps65
  go_wp2
  go_loopw [1, 5] (fun u i wr => ∃ k : Nat, k ≤ n ∧ i = .int .i64 k ∧ u = .int .i64 (szT l z k) ∧ 0 ≤ szT l z k ∧ Hid (Below w.heap.size w wr)) (fun _ i _ => n - (intOf i).toNat)
  case atStart => exact ⟨0, Nat.zero_le _, rfl, by rw [e0], by omega, Below.refl _ _⟩
  case round =>
    obtain ⟨k, hk, rfl, rfl, h0, hB⟩ := hrel
    by_cases hkn : k < n
    · have hki : (k : Int) < (n : Int) := by omega
      obtain ⟨d0, d1, d2, d3⟩ := (hc k hkn).below hB.out hb
      have hbr : b < wr.heap.size := Nat.lt_of_lt_of_le hb hB.out.size
      have hS := fun w => szRecord_gen (rAt l k).l (rAt l k).v (rAt l k).o (rAt l k).p (szT l z k) w (hM.at (by have := HN.out; omega)) ⟨h0, by have := HL.out k; omega⟩
      have HX : Hid (szT l z (k + 1) = szT l z k - (rAt l k).l.size) := rfl
      rw [← HX.out] at hS
      have HQ : Hid (szT l z (k + 1) < 0 → q = -1) := (fun h => by
        have := HM.out (k + 1) (n - (k + 1))
        rw [show k + 1 + (n - (k + 1)) = n by omega] at this
        rw [HZ.out, if_pos (by omega)] : szT l z (k + 1) < 0 → q = -1)
      unfold recV at hS
      generalize (rAt l k).l = x0 at *
      generalize (rAt l k).v = x1 at *
      generalize (rAt l k).o = x2 at *
      generalize (rAt l k).p = x3 at *
      generalize hs1 : szT l z (k + 1) = s1 at *
      have HS1 : Hid (szT l z (k + 1) = s1) := hs1
      generalize szT l z k = s0 at *
      clear hc hs1 HX
      by_cases hlt : s1 < 0
      · rw [if_pos hlt] at hS
        have HQ2 : Hid (q = -1) := HQ.out hlt
        clear HQ
        go_wp2_with fail
        refine (hS _).mono ?_
        rintro e w1 ⟨rfl, hb1⟩
        have HB1 : Hid (Below w.heap.size w w1) := below_after_of hB.out hb1
        clear hS hb1
        go_wp2
        go_ret
        exact ⟨ret_int HQ2.out.symm, HB1.out⟩
      · rw [if_neg hlt] at hS
        clear HQ
        go_wp2_with fail
        refine (hS _).mono ?_
        rintro e w1 ⟨rfl, hb1⟩
        have HB1 : Hid (Below w.heap.size w w1) := below_after_of hB.out hb1
        clear hS hb1
        go_wp2
        go_roundw
        case rel => exact ⟨k + 1, by omega, by go_num, by rw [HS1.out], by rw [HS1.out]; omega, HB1⟩
        case measure => simp [intOf]; omega
    · have hkn : k = n := by omega
      subst hkn
      have HQ2 : Hid (q = szT l z k) := (by rw [HZ.out, if_neg (by omega)] : q = szT l z k)
      generalize szT l z k = s0 at *
      clear hc
      go_wp2
      go_ret
      exact ⟨ret_int HQ2.out.symm, hB.out⟩
set_option maxRecDepth 100000 in
set_option maxHeartbeats 1000000 in
theorem szRecordS_any (v : Value) (l : Rcl) (z : Int) (w : World) (hv : Rcs w v l) (hM : LbM l) (hx : l.length ≤ maxLen) (hz : 0 ≤ z ∧ z ≤ 1048576) :
    Calls Tryz.prog 65 #[v, .int .i64 z] w fun e w' => e = .returned (.int .i64 (szR l z)) ∧ Below w.heap.size w w' := by
  obtain ⟨a, c, rfl⟩ := hv.shape
  by_cases h : z - l.length < 0
  · have HQ : szR l z = -1 := by
      have h2 := szT_mono l z 0 l.length
      rw [Nat.zero_add] at h2
      have : szT l z 0 = z - l.length := rfl
      unfold szR
      rw [if_pos (by omega)]
    rw [HQ]
    generalize l.length = n at *
    unfold maxLen at hx
    clear hv HQ
    go_enter Tryz.func65, Tryz.ntmps65
    go_wp2
    go_ret
    exact ⟨rfl, Below.refl _ _⟩
  · by_cases h0 : 0 < l.length
    · obtain ⟨_, b, off, rfl, hb, hc⟩ := hv.at h0
      exact szRecordS_core b off c l.length l z w rfl (by omega) hz h hb hM hc
    · have e1 : l = [] := List.eq_nil_of_length_eq_zero (by omega)
      subst e1
      have e2 : szR [] z = z := by unfold szR szT; simp; omega
      rw [e2]
      simp only [List.length_nil]
      have hzn : ¬ z < 0 := by omega
      clear hv h0 hx h e2 hM
      go_enter Tryz.func65, Tryz.ntmps65
      go_wp2
      refine wp_loop_rounds 1 ?_; rw [rounds_succ]
      go_wp2
      go_ret
      exact ⟨rfl, Below.refl _ _⟩
set_option maxRecDepth 100000 in
set_option maxHeartbeats 1000000 in
theorem szDirectory_any (v : Value) (l : Rcl) (z : Int) (w : World) (hv : Rcs w v l) (hM : LbM l) (hx : l.length ≤ maxLen) (hz : 0 ≤ z ∧ z ≤ 1048576) :
    Calls Tryz.prog 24 #[.agg #[v], .int .i64 z] w fun e w' => e = .returned (.int .i64 (szR l z)) ∧ Below w.heap.size w w' := by
  have hS := fun o => szRecordS_any v l z (w.alloc o) (hv.below (one_new _)) hM hx hz
  obtain ⟨a, c, rfl⟩ := hv.shape
  have HQ : Hid (szR l z < 0 → szR l z = -1) := (fun h => by unfold szR at h ⊢; by_cases h1 : szT l z l.length < 0 <;> simp [h1] at h ⊢ : szR l z < 0 → szR l z = -1)
  generalize szR l z = q at *
  generalize l.length = n at *
  clear hv hM
  by_cases hq : q < 0
  · have e := HQ.out hq
    subst e
    clear HQ
    go_enter Tryz.func24, Tryz.ntmps24
    go_wp2_with fail
    refine (hS _).mono ?_
    rintro e w1 ⟨rfl, hb1⟩
    clear hS
    go_wp2
    go_ret
    exact ⟨rfl, below_after hb1⟩
  · clear HQ
    go_enter Tryz.func24, Tryz.ntmps24
    go_wp2_with fail
    refine (hS _).mono ?_
    rintro e w1 ⟨rfl, hb1⟩
    clear hS
    go_wp2
    go_ret
    exact ⟨rfl, below_after hb1⟩
end U
end Go.Proofs.YtjhmfaibpnagcaaGreat

/- Directories as the laws look at them: copied. -/
namespace Go.Proofs.YtjhmfaibpnagcaaGreat
open Go.RowKit
namespace U
theorem flR_set (l : Rcl) (r : Rc) : ∀ (k : Nat), k < l.length → flR (l.set k r) = ((((flR l).set (k * 4) (.string r.l)).set (k * 4 + 1) (.int .i64 r.v)).set (k * 4 + 2) (.int .i64 r.o)).set (k * 4 + 3) (.int .i64 r.p) := by
  induction l with
  | nil => intro k h; simp at h
  | cons x t ih =>
    intro k h
    have e : ∀ t : Rcl, ∀ x : Rc, flR (x :: t) = .string x.l :: .int .i64 x.v :: .int .i64 x.o :: .int .i64 x.p :: flR t := fun t x => rfl
    cases k with
    | zero => simp [e]
    | succ k =>
      have h1 := ih k (by simpa using h)
      rw [List.set_cons_succ, e, e, h1, show (k + 1) * 4 = k * 4 + 1 + 1 + 1 + 1 by omega]
      simp
/-- The first records, nothing behind them. -/
def rset (l : Rcl) (k : Nat) : Rcl := l.take k ++ List.replicate (l.length - k) rcZ
theorem rset_len (l : Rcl) {k : Nat} (h : k ≤ l.length) : (rset l k).length = l.length := by unfold rset; rw [List.length_append, List.length_take, List.length_replicate]; omega
theorem rset_all (l : Rcl) : rset l l.length = l := by unfold rset; simp
theorem rset_at (l : Rcl) {k : Nat} (h : k ≤ l.length) (i : Nat) : (rset l k)[i]? = if i < k then l[i]? else if i < l.length then some rcZ else none := by
  unfold rset
  rw [List.getElem?_append, List.length_take, List.getElem?_take, List.getElem?_replicate]
  by_cases h1 : i < k
  · rw [if_pos (by omega), if_pos h1]
    simp [h1]
  · rw [if_neg (by omega), if_neg h1]
    by_cases h2 : i < l.length
    · rw [if_pos h2, if_pos (by omega)]
    · rw [if_neg h2, if_neg (by omega)]
theorem rset_set (l : Rcl) {k : Nat} (h : k < l.length) : (rset l k).set k (rAt l k) = rset l (k + 1) := by
  apply List.ext_getElem?
  intro i
  rw [List.getElem?_set, rset_at l (by omega), rset_at l (by omega), rset_len l (by omega)]
  by_cases e : k = i
  · subst e
    rw [if_pos rfl, if_pos h, if_pos (by omega), rAt_eq h, List.getElem?_eq_getElem h]
  · rw [if_neg e]
    by_cases h1 : i < k
    · rw [if_pos h1, if_pos (by omega)]
    · have h2 : ¬ i < k + 1 := by omega
      rw [if_neg h1, if_neg h2]
theorem made_four (n : Nat) : (madeCells #[Value.string ⟨#[]⟩, Value.int .i64 0, Value.int .i64 0, Value.int .i64 0] (n * 4)).toList = flR (List.replicate n rcZ) := by
  apply List.ext_getElem?
  intro i
  by_cases hi : i < n * 4
  · have h4 := flR_at (List.replicate n rcZ) (i / 4) (by rw [List.length_replicate]; omega)
    have hz : rAt (List.replicate n rcZ) (i / 4) = rcZ := by rw [rAt_eq (by rw [List.length_replicate]; omega), List.getElem_replicate]
    rw [hz] at h4
    have hm : (madeCells #[Value.string ⟨#[]⟩, Value.int .i64 0, Value.int .i64 0, Value.int .i64 0] (n * 4)).toList[i]? = some (#[Value.string ⟨#[]⟩, Value.int .i64 0, Value.int .i64 0, Value.int .i64 0][i % 4]!) := by
      simp only [madeCells, Array.toList_map, List.getElem?_map]
      rw [show (Array.range (n * 4)).toList[i]? = some i by simp [hi]]
      rfl
    rw [hm]
    have hd : i = i / 4 * 4 + i % 4 := by omega
    rcases (by omega : i % 4 = 0 ∨ i % 4 = 1 ∨ i % 4 = 2 ∨ i % 4 = 3) with h | h | h | h
    · rw [h, Nat.add_zero] at hd
      rw [h, hd, h4.1]
      rfl
    · rw [h] at hd
      rw [h, hd, h4.2.1]
      rfl
    · rw [h] at hd
      rw [h, hd, h4.2.2.1]
      rfl
    · rw [h] at hd
      rw [h, hd, h4.2.2.2]
      rfl
  · rw [List.getElem?_eq_none (by simp [madeCells]; omega), List.getElem?_eq_none (by rw [flR_len, List.length_replicate]; omega)]
theorem made_rcs {w1 w : World} {n : Nat} {l : Rcl} (HN : n = l.length) (h : w1.ownsRow w.heap.size 52 4 (.slice (some ⟨w.heap.size, 0, none⟩) n n) n (madeCells #[Value.string ⟨#[]⟩, Value.int .i64 0, Value.int .i64 0, Value.int .i64 0] (n * 4)).toList) :
    w1.ownsRow w.heap.size 52 4 (.slice (some ⟨w.heap.size, 0, none⟩) n n) n (flR (rset l 0)) := by
  have e : rset l 0 = List.replicate n rcZ := by unfold rset; simp [HN]
  rw [e, ← made_four]
  exact h
theorem own_some4 {w : World} {B g n cap : Nat} {e : TypeId} {xs : List Value} (h : w.ownsRow B e 4 (.slice (some ⟨g, 0, none⟩) n cap) n xs) {j : Nat} (hj : j < n * 4) : ∃ x, w.cell? ⟨g, j, none⟩ = some x :=
  ⟨_, (h.cellAt j (by omega)).trans (List.getElem?_eq_getElem (by rw [h.1]; omega))⟩
set_option maxRecDepth 100000 in
set_option maxHeartbeats 4000000 in
theorem toRecordS_core (b off c n : Nat) (l : Rcl) (w : World) (HN : Hid (n = l.length)) (hx : n ≤ 1048576) (hb : b < w.heap.size) (hc : ∀ j, j < n → RecS w b (off + j * 4) (rAt l j)) :
    Calls Tryz.prog 75 #[.slice (some ⟨b, off, none⟩) n c] w fun e w' => e = .returned (.slice (some ⟨w.heap.size, 0, none⟩) n n) ∧ Below w.heap.size w w' ∧ w'.ownsRow w.heap.size 52 4 (.slice (some ⟨w.heap.size, 0, none⟩) n n) n (flR l) := by
  obtain ⟨i0, hi, hz0, hz1, hz2⟩ := info_parts Tryz.infoRc
  go_enter Tryz.func75, Tryz.ntmps75
  go_wp2_with (at_make; refine wpList_make_full _ rfl _ _ 31 rfl w.heap.size 52 i0 (.agg #[.string ⟨#[]⟩, .int .i64 0, .int .i64 0, .int .i64 0]) 4 Tryz.underlying31 hi hz0 hz1 _ _ _ _ n rfl rfl rfl rfl (by rw [hz2]; omega) (by unfold maxLen; omega) (Nat.le_refl _) ?_)
  intro w1 hown1 hg1
  have own1 := made_rcs HN.out hown1
  have hB1 : Below w.heap.size w w1 := (Below.refl _ _).grown hg1 (Nat.le_refl _) (fun k hk => by cases hk)
  clear hown1 hg1
  go_wp2
  go_loopw [4] (fun i wr => ∃ k : Nat, k ≤ n ∧ i = .int .i64 k ∧ Below w.heap.size w wr ∧ w.heap.size < wr.heap.size ∧ wr.ownsRow w.heap.size 52 4 (.slice (some ⟨w.heap.size, 0, none⟩) n n) n (flR (rset l k))) (fun i _ => n - (intOf i).toNat)
  case atStart => exact ⟨0, Nat.zero_le _, rfl, hB1, (own1.lt _ rfl).2, own1⟩
  case round =>
    obtain ⟨k, hk, rfl, hB, hsz, ho⟩ := hrel
    by_cases hkn : k < n
    · have hki : (k : Int) < (n : Int) := by omega
      obtain ⟨d0, d1, d2, d3⟩ := (hc k hkn).below hB hb
      have hbr : b < wr.heap.size := Nat.lt_of_lt_of_le hb hB.size
      have hlk : k < l.length := by have := HN.out; omega
      have hts : ((((flR (rset l k)).set (k * 4) (.string (rAt l k).l)).set (k * 4 + 1) (.int .i64 (rAt l k).v)).set (k * 4 + 2) (.int .i64 (rAt l k).o)).set (k * 4 + 3) (.int .i64 (rAt l k).p) = flR (rset l (k + 1)) := by
        rw [← flR_set _ _ k (by rw [rset_len l (by omega)]; exact hlk), rset_set l hlk]
      have hT := fun w => toRecord_any (rAt l k).l (rAt l k).v (rAt l k).o (rAt l k).p w
      unfold recV at hT
      generalize (rAt l k).l = x0 at *
      generalize (rAt l k).v = x1 at *
      generalize (rAt l k).o = x2 at *
      generalize (rAt l k).p = x3 at *
      have HT : Hid (((((flR (rset l k)).set (k * 4) (.string x0)).set (k * 4 + 1) (.int .i64 x1)).set (k * 4 + 2) (.int .i64 x2)).set (k * 4 + 3) (.int .i64 x3) = flR (rset l (k + 1))) := hts
      have HB : Hid (Below w.heap.size w wr) := hB
      have HO : Hid (wr.ownsRow w.heap.size 52 4 (.slice (some ⟨w.heap.size, 0, none⟩) n n) n (flR (rset l k))) := ho
      clear hc hts own1 hB1 ho hB
      go_wp2_with fail
      refine (hT _).mono ?_
      rintro e w2 ⟨rfl, hb2⟩
      have ho2 := own_below HO.out hb2
      have f0 := ho2.frozenAt (k * 4)
      have f1 := ho2.frozenAt (k * 4 + 1)
      have f2 := ho2.frozenAt (k * 4 + 2)
      have f3 := ho2.frozenAt (k * 4 + 3)
      obtain ⟨z0, g0⟩ := own_some4 ho2 (j := k * 4) (by omega)
      obtain ⟨z1, g1⟩ := own_some4 ho2 (j := k * 4 + 1) (by omega)
      obtain ⟨z2, g2⟩ := own_some4 ho2 (j := k * 4 + 2) (by omega)
      obtain ⟨z3, g3⟩ := own_some4 ho2 (j := k * 4 + 3) (by omega)
      have s1 := (ho2.stored (k * 4) (.string x0)).1
      have s2 := (s1.stored (k * 4 + 1) (.int .i64 x1)).1
      have s3 := (s2.stored (k * 4 + 2) (.int .i64 x2)).1
      have s4 := (s3.stored (k * 4 + 3) (.int .i64 x3)).1
      rw [HT.out] at s4
      have hB2 : Below w.heap.size w ((((w2.setCell ⟨w.heap.size, k * 4, none⟩ (.string x0)).setCell ⟨w.heap.size, k * 4 + 1, none⟩ (.int .i64 x1)).setCell ⟨w.heap.size, k * 4 + 2, none⟩ (.int .i64 x2)).setCell ⟨w.heap.size, k * 4 + 3, none⟩ (.int .i64 x3)) := ((((below_after_of HB.out hb2).setCell (Nat.le_refl _) _).setCell (Nat.le_refl _) _).setCell (Nat.le_refl _) _).setCell (Nat.le_refl _) _
      have hsz2 : w.heap.size < w2.heap.size := by have := hb2.size; omega
      have HB2 : Hid (Below w.heap.size w ((((w2.setCell ⟨w.heap.size, k * 4, none⟩ (.string x0)).setCell ⟨w.heap.size, k * 4 + 1, none⟩ (.int .i64 x1)).setCell ⟨w.heap.size, k * 4 + 2, none⟩ (.int .i64 x2)).setCell ⟨w.heap.size, k * 4 + 3, none⟩ (.int .i64 x3))) := hB2
      have HS2 : Hid (((((w2.setCell ⟨w.heap.size, k * 4, none⟩ (.string x0)).setCell ⟨w.heap.size, k * 4 + 1, none⟩ (.int .i64 x1)).setCell ⟨w.heap.size, k * 4 + 2, none⟩ (.int .i64 x2)).setCell ⟨w.heap.size, k * 4 + 3, none⟩ (.int .i64 x3)).ownsRow w.heap.size 52 4 (.slice (some ⟨w.heap.size, 0, none⟩) n n) n (flR (rset l (k + 1)))) := s4
      clear ho2 s1 s2 s3 s4 hB2 hb2 hT
      go_wp2
      go_roundw
      case rel => exact ⟨k + 1, by omega, by go_num, HB2.out, by simp; omega, HS2.out⟩
      case measure => simp [intOf]; omega
    · have hkn : k = n := by omega
      subst hkn
      have e1 : rset l k = l := by rw [HN.out]; exact rset_all _
      rw [e1] at ho
      go_wp2
      go_ret
      exact ⟨rfl, hB, ho⟩
set_option maxRecDepth 100000 in
set_option maxHeartbeats 1000000 in
theorem toRecordS_any (v : Value) (l : Rcl) (w : World) (hv : Rcs w v l) (hx : l.length ≤ 1048576) :
    Calls Tryz.prog 75 #[v] w fun e w' => ∃ a c, e = .returned (.slice a l.length c) ∧ Below w.heap.size w w' ∧ w'.ownsRow w.heap.size 52 4 (.slice a l.length c) l.length (flR l) := by
  obtain ⟨a, c, rfl⟩ := hv.shape
  by_cases h0 : 0 < l.length
  · obtain ⟨_, b, off, rfl, hb, hc⟩ := hv.at h0
    refine (toRecordS_core b off c l.length l w rfl hx hb hc).mono ?_
    rintro e w' ⟨rfl, hB, ho⟩
    exact ⟨_, _, rfl, hB, ho⟩
  · have e1 : l = [] := List.eq_nil_of_length_eq_zero (by omega)
    subst e1
    obtain ⟨i0, hi, hz0, hz1, hz2⟩ := info_parts Tryz.infoRc
    simp only [List.length_nil] at *
    clear hv h0
    go_enter Tryz.func75, Tryz.ntmps75
    go_wp2_with (at_make; refine wpList_make_full _ rfl _ _ 31 rfl w.heap.size 52 i0 (.agg #[.string ⟨#[]⟩, .int .i64 0, .int .i64 0, .int .i64 0]) 4 Tryz.underlying31 hi hz0 hz1 _ _ _ _ 0 rfl rfl rfl rfl (by rw [hz2]; omega) (by unfold maxLen; omega) (Nat.le_refl _) ?_)
    intro w1 hown1 hg1
    have hB1 : Below w.heap.size w w1 := (Below.refl _ _).grown hg1 (Nat.le_refl _) (fun k hk => by cases hk)
    have own1 := made_rcs (l := []) rfl hown1
    clear hown1 hg1
    go_wp2
    refine wp_loop_rounds 1 ?_; rw [rounds_succ]
    go_wp2
    go_ret
    exact ⟨_, _, rfl, hB1, own1⟩
set_option maxRecDepth 100000 in
set_option maxHeartbeats 1000000 in
theorem toDirectory_any (v : Value) (l : Rcl) (w : World) (hv : Rcs w v l) (hx : l.length ≤ 1048576) :
    Calls Tryz.prog 31 #[.agg #[v]] w fun e w' => ∃ a c, e = .returned (.agg #[.slice a l.length c]) ∧ Below w.heap.size w w' ∧ w'.ownsRow w.heap.size 52 4 (.slice a l.length c) l.length (flR l) := by
  obtain ⟨a, c, rfl⟩ := hv.shape
  obtain ⟨W, hW⟩ : ∃ W, W = ((w.alloc (.cells #[.slice a l.length c] 24)).alloc (.cells #[.slice none 0 0] 33)).alloc (.cells #[.slice none 0 0] 33) := ⟨_, rfl⟩
  have HW : Hid (((w.alloc (.cells #[.slice a l.length c] 24)).alloc (.cells #[.slice none 0 0] 33)).alloc (.cells #[.slice none 0 0] 33) = W) := hW.symm
  have hB : Below w.heap.size w W := by rw [hW]; exact ((one_new _).alloc (one_new _).size _).alloc ((one_new _).alloc (one_new _).size _).size _
  have HH : Hid (W.heap[w.heap.size + 1]? = some (.cells #[.slice none 0 0] 33) ∧ W.heap[w.heap.size + 1 + 1]? = some (.cells #[.slice none 0 0] 33)) := (by
    rw [hW]
    have h1 := heap_alloc_new (w.alloc (.cells #[.slice a l.length c] 24)) (.cells #[.slice none 0 0] 33)
    have h2 := heap_alloc_new ((w.alloc (.cells #[.slice a l.length c] 24)).alloc (.cells #[.slice none 0 0] 33)) (.cells #[.slice none 0 0] 33)
    simp only [World.size_alloc] at h1 h2
    exact ⟨((one_new _).block (w.heap.size + 1) (by simp)).trans h1, h2⟩ : _ ∧ _)
  have hT := toRecordS_any _ l W (hv.below hB) hx
  have hzW : w.heap.size + 1 + 1 < W.heap.size := (Array.getElem?_eq_some_iff.1 HH.out.2).1
  generalize l.length = n at *
  clear hW hv
  go_enter Tryz.func31, Tryz.ntmps31
  go_wp2_with fail
  rw [HW.out]
  refine hT.mono ?_
  rintro e w1 ⟨a1, c1, rfl, hb1, o1⟩
  have HO : Hid (w1.ownsRow W.heap.size 52 4 (.slice a1 n c1) n (flR l)) := o1
  have q1 := (hb1.block (w.heap.size + 1) (by omega)).trans HH.out.1
  have q2 := (hb1.block (w.heap.size + 1 + 1) hzW).trans HH.out.2
  have k1 : w1.cell? ⟨w.heap.size + 1, 0, none⟩ = some (.slice none 0 0) := by unfold World.cell?; rw [q1]; rfl
  have k2 : w1.cell? ⟨w.heap.size + 1 + 1, 0, none⟩ = some (.slice none 0 0) := by unfold World.cell?; rw [q2]; rfl
  have f1 : w1.frozen? ⟨w.heap.size + 1, 0, none⟩ = false := by unfold World.frozen?; rw [q1]; rfl
  have f2 : w1.frozen? ⟨w.heap.size + 1 + 1, 0, none⟩ = false := by unfold World.frozen?; rw [q2]; rfl
  have HB1 : Hid (Below w.heap.size w w1) := below_after_of hB hb1
  have hz1 : w.heap.size + 1 + 1 < w1.heap.size := Nat.lt_of_lt_of_le hzW hb1.size
  clear hT hb1 o1 q1 q2
  go_wp2
  refine bodyPost_ret (v := .agg #[.slice a1 n c1]) (by simp [results, Tryz.results31, go_sem, *]) rfl ⟨a1, c1, rfl, (HB1.out.setCell (by show w.heap.size ≤ w.heap.size + 1 + 1; omega) _).setCell (by show w.heap.size ≤ w.heap.size + 1; omega) _, ?_⟩
  exact own_mono (ownsRow_setCell_below (ownsRow_setCell_below HO.out (by show w.heap.size + 1 + 1 < W.heap.size; omega) _) (by show w.heap.size + 1 < W.heap.size; omega) _) hB.size
end U
end Go.Proofs.YtjhmfaibpnagcaaGreat

/- Directories as the laws look at them: compared. -/
namespace Go.Proofs.YtjhmfaibpnagcaaGreat
open Go.RowKit
namespace U
theorem one_cellV {w : World} {g : Nat} {x : Value} {t : TypeId} (h : w.heap[g]? = some (.cells #[x] t)) : w.cell? ⟨g, 0, none⟩ = some x := by unfold World.cell?; rw [h]; rfl
set_option maxRecDepth 100000 in
set_option maxHeartbeats 4000000 in
theorem eqRecordS_core (b off c b' off' c' n : Nat) (l : Rcl) (w : World) (hx : n ≤ 1048576) (hb : b < w.heap.size) (hb' : b' < w.heap.size) (hc : ∀ j, j < n → RecS w b (off + j * 4) (rAt l j)) (hc' : ∀ j, j < n → RecS w b' (off' + j * 4) (rAt l j)) :
    Calls Tryz.prog 94 #[.slice (some ⟨b, off, none⟩) n c, .slice (some ⟨b', off', none⟩) n c'] w fun e w' => e = .returned (.bool true) ∧ Below w.heap.size w w' := by
  have hnn := hne_all
  go_enter Tryz.func94, Tryz.ntmps94
  go_wp2
  go_loopw [5] (fun i wr => ∃ k : Nat, k ≤ n ∧ i = .int .i64 k ∧ Hid (Below w.heap.size w wr)) (fun i _ => n - (intOf i).toNat)
  case atStart => exact ⟨0, Nat.zero_le _, rfl, Below.refl _ _⟩
  case round =>
    obtain ⟨k, hk, rfl, hB⟩ := hrel
    by_cases hkn : k < n
    · have hki : (k : Int) < (n : Int) := by omega
      obtain ⟨d0, d1, d2, d3⟩ := (hc k hkn).below hB.out hb
      obtain ⟨d0', d1', d2', d3'⟩ := (hc' k hkn).below hB.out hb'
      have hE := fun w => eqRecord_same (rAt l k).l (rAt l k).v (rAt l k).o (rAt l k).p w
      unfold recV at hE
      generalize (rAt l k).l = x0 at *
      generalize (rAt l k).v = x1 at *
      generalize (rAt l k).o = x2 at *
      generalize (rAt l k).p = x3 at *
      have q0 := After.cell d0
      have q1 := After.cell d1
      have q2 := After.cell d2
      have q3 := After.cell d3
      have p0 := After.cell d0'
      have p1 := After.cell d1'
      have p2 := After.cell d2'
      have p3 := After.cell d3'
      have hne := After.ne wr
      clear hc hc' d0 d1 d2 d3 d0' d1' d2' d3'
      go_wp2_with fail
      refine wp_region_after (by kernel_rfl) (by kernel_rfl) ?_
      repeat (first | go_big_quiet_skip | (go_big_quiet_want; go_big_quiet_op; first | go_big_quiet_on | go_big_quiet_call (first | (go_at_call 133; refine (hE _).mono ?_; rintro e wq ⟨rfl, hbq⟩; exact ⟨rfl, after_mk (below_after_of (After.b _) hbq)⟩))))
      refine wpQuiet_nil ?_
      rintro _ ⟨n6, rfl⟩
      have HB6 : Hid (Below w.heap.size w n6.w) := below_after_of hB.out n6.b
      generalize n6.w = w6 at *
      clear hne q0 q1 q2 q3 p0 p1 p2 p3 n6 hE
      go_wp2
      go_roundw
      case rel => exact ⟨k + 1, by omega, by go_num, HB6⟩
      case measure => simp [intOf]; omega
    · have hkn : k = n := by omega
      subst hkn
      clear hc hc'
      go_wp2
      go_ret
      exact ⟨rfl, hB.out⟩
set_option maxRecDepth 100000 in
set_option maxHeartbeats 1000000 in
theorem eqRecordS_same (v u : Value) (l : Rcl) (w : World) (hv : Rcs w v l) (hu : Rcs w u l) (hx : l.length ≤ 1048576) :
    Calls Tryz.prog 94 #[v, u] w fun e w' => e = .returned (.bool true) ∧ Below w.heap.size w w' := by
  obtain ⟨a, c, rfl⟩ := hv.shape
  obtain ⟨a', c', rfl⟩ := hu.shape
  by_cases h0 : 0 < l.length
  · obtain ⟨_, b, off, rfl, hb, hc⟩ := hv.at h0
    obtain ⟨_, b', off', rfl, hb', hc'⟩ := hu.at h0
    exact eqRecordS_core b off c b' off' c' l.length l w hx hb hb' hc hc'
  · have e1 : l = [] := List.eq_nil_of_length_eq_zero (by omega)
    subst e1
    simp only [List.length_nil] at *
    clear hv hu h0
    go_enter Tryz.func94, Tryz.ntmps94
    go_wp2
    refine wp_loop_rounds 1 ?_; rw [rounds_succ]
    go_wp2
    go_ret
    exact ⟨rfl, Below.refl _ _⟩
set_option maxRecDepth 100000 in
set_option maxHeartbeats 1000000 in
theorem eqDirectory_same (v u : Value) (l : Rcl) (w : World) (hv : Rcs w v l) (hu : Rcs w u l) (hx : l.length ≤ 1048576) :
    Calls Tryz.prog 40 #[.agg #[v], .agg #[u]] w fun e w' => e = .returned (.bool true) ∧ Below w.heap.size w w' := by
  have hE := fun o o' => eqRecordS_same v u l ((w.alloc o).alloc o') (hv.below (two_new _ _)) (hu.below (two_new _ _)) hx
  obtain ⟨a, c, rfl⟩ := hv.shape
  obtain ⟨a', c', rfl⟩ := hu.shape
  generalize l.length = n at *
  clear hv hu
  go_enter Tryz.func40, Tryz.ntmps40
  go_wp2_with fail
  refine (hE _ _).mono ?_
  rintro e w1 ⟨rfl, hb1⟩
  clear hE
  go_wp2
  go_ret
  exact ⟨rfl, below_after (below_after hb1)⟩
end U
end Go.Proofs.YtjhmfaibpnagcaaGreat

/- Directories that are the same, by the program and by the model. -/
namespace Go.Proofs.YtjhmfaibpnagcaaGreat
open Go.RowKit
namespace U
end U
end Go.Proofs.YtjhmfaibpnagcaaGreat

/- Two answers that are one are found the same. -/
namespace Go.Proofs.YtjhmfaibpnagcaaGreat
open Go.RowKit
namespace U
end U
end Go.Proofs.YtjhmfaibpnagcaaGreat

/- Heads as the laws look at them: copied, compared. -/
namespace Go.Proofs.YtjhmfaibpnagcaaGreat
open Go.RowKit
namespace U
set_option maxRecDepth 100000 in
set_option maxHeartbeats 1000000 in
theorem toHead_any (e p o n v : Int) (w : World) :
    Calls Tryz.prog 77 #[hdV e p o n v] w fun x w' => x = .returned (hdV e p o n v) ∧ Below w.heap.size w w' := by
  unfold hdV
  go_enter Tryz.func77, Tryz.ntmps77
  go_wp2
  refine bodyPost_ret (v := hdV e p o n v) (by simp [results, Tryz.results77, go_sem, hdV]) rfl ⟨rfl, ?_⟩
  exact (two_new _ _).alloc (by simp; omega) _
set_option maxRecDepth 100000 in
set_option maxHeartbeats 1000000 in
theorem eqHead_same (e p o n v : Int) (w : World) :
    Calls Tryz.prog 96 #[hdV e p o n v, hdV e p o n v] w fun x w' => x = .returned (.bool true) ∧ Below w.heap.size w w' := by
  have h0 := hne_all e
  have h1 := hne_all p
  have h2 := hne_all o
  have h3 := hne_all n
  have h4 := hne_all v
  unfold hdV
  go_enter Tryz.func96, Tryz.ntmps96
  go_wp2
  go_ret
  exact ⟨rfl, two_new _ _⟩
end U
end Go.Proofs.YtjhmfaibpnagcaaGreat

/- Rows of heads as the laws look at them: measured, copied, compared. -/
namespace Go.Proofs.YtjhmfaibpnagcaaGreat
open Go.RowKit
namespace U
theorem Tryz.infoHd : (Tryz.prog.info? 88).map (fun i => (i.zero, i.size, i.bytes)) = some (some (.agg #[.int .i64 0, .int .i64 0, .int .i64 0, .int .i64 0, .int .i64 0]), 5, 40) := by kernel_rfl
theorem flH_set (l : Hdl) (r : Hd) : ∀ (k : Nat), k < l.length → flH (l.set k r) = (((((flH l).set (k * 5) (.int .i64 r.e)).set (k * 5 + 1) (.int .i64 r.p)).set (k * 5 + 2) (.int .i64 r.o)).set (k * 5 + 3) (.int .i64 r.n)).set (k * 5 + 4) (.int .i64 r.v) := by
  induction l with
  | nil => intro k h; simp at h
  | cons x t ih =>
    intro k h
    have e : ∀ t : Hdl, ∀ x : Hd, flH (x :: t) = .int .i64 x.e :: .int .i64 x.p :: .int .i64 x.o :: .int .i64 x.n :: .int .i64 x.v :: flH t := fun t x => rfl
    cases k with
    | zero => simp [e]
    | succ k =>
      have h1 := ih k (by simpa using h)
      rw [List.set_cons_succ, e, e, h1, show (k + 1) * 5 = k * 5 + 1 + 1 + 1 + 1 + 1 by omega]
      simp
/-- The first heads, nothing behind them. -/
def hset (l : Hdl) (k : Nat) : Hdl := l.take k ++ List.replicate (l.length - k) hdZ
theorem hset_len (l : Hdl) {k : Nat} (h : k ≤ l.length) : (hset l k).length = l.length := by unfold hset; rw [List.length_append, List.length_take, List.length_replicate]; omega
theorem hset_all (l : Hdl) : hset l l.length = l := by unfold hset; simp
theorem hset_at (l : Hdl) {k : Nat} (h : k ≤ l.length) (i : Nat) : (hset l k)[i]? = if i < k then l[i]? else if i < l.length then some hdZ else none := by
  unfold hset
  rw [List.getElem?_append, List.length_take, List.getElem?_take, List.getElem?_replicate]
  by_cases h1 : i < k
  · rw [if_pos (by omega), if_pos h1]
    simp [h1]
  · rw [if_neg (by omega), if_neg h1]
    by_cases h2 : i < l.length
    · rw [if_pos h2, if_pos (by omega)]
    · rw [if_neg h2, if_neg (by omega)]
theorem hset_set (l : Hdl) {k : Nat} (h : k < l.length) : (hset l k).set k (hAt l k) = hset l (k + 1) := by
  apply List.ext_getElem?
  intro i
  rw [List.getElem?_set, hset_at l (by omega), hset_at l (by omega), hset_len l (by omega)]
  by_cases e : k = i
  · subst e
    rw [if_pos rfl, if_pos h, if_pos (by omega), hAt_eq h, List.getElem?_eq_getElem h]
  · rw [if_neg e]
    by_cases h1 : i < k
    · rw [if_pos h1, if_pos (by omega)]
    · have h2 : ¬ i < k + 1 := by omega
      rw [if_neg h1, if_neg h2]
theorem made_five (n : Nat) : (madeCells #[Value.int .i64 0, Value.int .i64 0, Value.int .i64 0, Value.int .i64 0, Value.int .i64 0] (n * 5)).toList = flH (List.replicate n hdZ) := by
  apply List.ext_getElem?
  intro i
  by_cases hi : i < n * 5
  · have h4 := flH_at (List.replicate n hdZ) (i / 5) (by rw [List.length_replicate]; omega)
    have hz : hAt (List.replicate n hdZ) (i / 5) = hdZ := by rw [hAt_eq (by rw [List.length_replicate]; omega), List.getElem_replicate]
    rw [hz] at h4
    have hm : (madeCells #[Value.int .i64 0, Value.int .i64 0, Value.int .i64 0, Value.int .i64 0, Value.int .i64 0] (n * 5)).toList[i]? = some (#[Value.int .i64 0, Value.int .i64 0, Value.int .i64 0, Value.int .i64 0, Value.int .i64 0][i % 5]!) := by
      simp only [madeCells, Array.toList_map, List.getElem?_map]
      rw [show (Array.range (n * 5)).toList[i]? = some i by simp [hi]]
      rfl
    rw [hm]
    have hd : i = i / 5 * 5 + i % 5 := by omega
    rcases (by omega : i % 5 = 0 ∨ i % 5 = 1 ∨ i % 5 = 2 ∨ i % 5 = 3 ∨ i % 5 = 4) with h | h | h | h | h
    · rw [h, Nat.add_zero] at hd
      rw [h, hd, h4.1]
      rfl
    · rw [h] at hd
      rw [h, hd, h4.2.1]
      rfl
    · rw [h] at hd
      rw [h, hd, h4.2.2.1]
      rfl
    · rw [h] at hd
      rw [h, hd, h4.2.2.2.1]
      rfl
    · rw [h] at hd
      rw [h, hd, h4.2.2.2.2]
      rfl
  · rw [List.getElem?_eq_none (by simp [madeCells]; omega), List.getElem?_eq_none (by rw [flH_len, List.length_replicate]; omega)]
theorem made_hds {w1 w : World} {n : Nat} {l : Hdl} (HN : n = l.length) (h : w1.ownsRow w.heap.size 88 5 (.slice (some ⟨w.heap.size, 0, none⟩) n n) n (madeCells #[Value.int .i64 0, Value.int .i64 0, Value.int .i64 0, Value.int .i64 0, Value.int .i64 0] (n * 5)).toList) :
    w1.ownsRow w.heap.size 88 5 (.slice (some ⟨w.heap.size, 0, none⟩) n n) n (flH (hset l 0)) := by
  have e : hset l 0 = List.replicate n hdZ := by unfold hset; simp [HN]
  rw [e, ← made_five]
  exact h
theorem own_some5 {w : World} {B g n cap : Nat} {e : TypeId} {xs : List Value} (h : w.ownsRow B e 5 (.slice (some ⟨g, 0, none⟩) n cap) n xs) {j : Nat} (hj : j < n * 5) : ∃ x, w.cell? ⟨g, j, none⟩ = some x :=
  ⟨_, (h.cellAt j (by omega)).trans (List.getElem?_eq_getElem (by rw [h.1]; omega))⟩
set_option maxRecDepth 100000 in
set_option maxHeartbeats 4000000 in
theorem toHeadS_core (b off c n : Nat) (l : Hdl) (w : World) (HN : Hid (n = l.length)) (hx : n ≤ 1048576) (hb : b < w.heap.size) (hc : ∀ j, j < n → HdS w b (off + j * 5) (hAt l j)) :
    Calls Tryz.prog 33 #[.slice (some ⟨b, off, none⟩) n c] w fun e w' => e = .returned (.slice (some ⟨w.heap.size, 0, none⟩) n n) ∧ Below w.heap.size w w' ∧ w'.ownsRow w.heap.size 88 5 (.slice (some ⟨w.heap.size, 0, none⟩) n n) n (flH l) := by
  obtain ⟨i0, hi, hz0, hz1, hz2⟩ := info_parts Tryz.infoHd
  go_enter Tryz.func33, Tryz.ntmps33
  go_wp2_with (at_make; refine wpList_make_full _ rfl _ _ 35 rfl w.heap.size 88 i0 (.agg #[.int .i64 0, .int .i64 0, .int .i64 0, .int .i64 0, .int .i64 0]) 5 Tryz.underlying35 hi hz0 hz1 _ _ _ _ n rfl rfl rfl rfl (by rw [hz2]; omega) (by unfold maxLen; omega) (Nat.le_refl _) ?_)
  intro w1 hown1 hg1
  have own1 := made_hds HN.out hown1
  have hB1 : Below w.heap.size w w1 := (Below.refl _ _).grown hg1 (Nat.le_refl _) (fun k hk => by cases hk)
  clear hown1 hg1
  go_wp2
  go_loopw [4] (fun i wr => ∃ k : Nat, k ≤ n ∧ i = .int .i64 k ∧ Below w.heap.size w wr ∧ w.heap.size < wr.heap.size ∧ wr.ownsRow w.heap.size 88 5 (.slice (some ⟨w.heap.size, 0, none⟩) n n) n (flH (hset l k))) (fun i _ => n - (intOf i).toNat)
  case atStart => exact ⟨0, Nat.zero_le _, rfl, hB1, (own1.lt _ rfl).2, own1⟩
  case round =>
    obtain ⟨k, hk, rfl, hB, hsz, ho⟩ := hrel
    by_cases hkn : k < n
    · have hki : (k : Int) < (n : Int) := by omega
      obtain ⟨d0, d1, d2, d3, d4⟩ := (hc k hkn).below hB hb
      have hbr : b < wr.heap.size := Nat.lt_of_lt_of_le hb hB.size
      have hlk : k < l.length := by have := HN.out; omega
      have hts : (((((flH (hset l k)).set (k * 5) (.int .i64 (hAt l k).e)).set (k * 5 + 1) (.int .i64 (hAt l k).p)).set (k * 5 + 2) (.int .i64 (hAt l k).o)).set (k * 5 + 3) (.int .i64 (hAt l k).n)).set (k * 5 + 4) (.int .i64 (hAt l k).v) = flH (hset l (k + 1)) := by
        rw [← flH_set _ _ k (by rw [hset_len l (by omega)]; exact hlk), hset_set l hlk]
      have hT := fun w => toHead_any (hAt l k).e (hAt l k).p (hAt l k).o (hAt l k).n (hAt l k).v w
      unfold hdV at hT
      generalize (hAt l k).e = x0 at *
      generalize (hAt l k).p = x1 at *
      generalize (hAt l k).o = x2 at *
      generalize (hAt l k).n = x3 at *
      generalize (hAt l k).v = x4 at *
      have HT : Hid ((((((flH (hset l k)).set (k * 5) (.int .i64 x0)).set (k * 5 + 1) (.int .i64 x1)).set (k * 5 + 2) (.int .i64 x2)).set (k * 5 + 3) (.int .i64 x3)).set (k * 5 + 4) (.int .i64 x4) = flH (hset l (k + 1))) := hts
      have HB : Hid (Below w.heap.size w wr) := hB
      have HO : Hid (wr.ownsRow w.heap.size 88 5 (.slice (some ⟨w.heap.size, 0, none⟩) n n) n (flH (hset l k))) := ho
      clear hc hts own1 hB1 ho hB
      go_wp2_with fail
      refine (hT _).mono ?_
      rintro e w2 ⟨rfl, hb2⟩
      have ho2 := own_below HO.out hb2
      have f0 := ho2.frozenAt (k * 5)
      have f1 := ho2.frozenAt (k * 5 + 1)
      have f2 := ho2.frozenAt (k * 5 + 2)
      have f3 := ho2.frozenAt (k * 5 + 3)
      have f4 := ho2.frozenAt (k * 5 + 4)
      obtain ⟨z0, g0⟩ := own_some5 ho2 (j := k * 5) (by omega)
      obtain ⟨z1, g1⟩ := own_some5 ho2 (j := k * 5 + 1) (by omega)
      obtain ⟨z2, g2⟩ := own_some5 ho2 (j := k * 5 + 2) (by omega)
      obtain ⟨z3, g3⟩ := own_some5 ho2 (j := k * 5 + 3) (by omega)
      obtain ⟨z4, g4⟩ := own_some5 ho2 (j := k * 5 + 4) (by omega)
      have s1 := (ho2.stored (k * 5) (.int .i64 x0)).1
      have s2 := (s1.stored (k * 5 + 1) (.int .i64 x1)).1
      have s3 := (s2.stored (k * 5 + 2) (.int .i64 x2)).1
      have s4 := (s3.stored (k * 5 + 3) (.int .i64 x3)).1
      have s5 := (s4.stored (k * 5 + 4) (.int .i64 x4)).1
      rw [HT.out] at s5
      have hsz2 : w.heap.size < w2.heap.size := by have := hb2.size; omega
      have HB2 : Hid (Below w.heap.size w (((((w2.setCell ⟨w.heap.size, k * 5, none⟩ (.int .i64 x0)).setCell ⟨w.heap.size, k * 5 + 1, none⟩ (.int .i64 x1)).setCell ⟨w.heap.size, k * 5 + 2, none⟩ (.int .i64 x2)).setCell ⟨w.heap.size, k * 5 + 3, none⟩ (.int .i64 x3)).setCell ⟨w.heap.size, k * 5 + 4, none⟩ (.int .i64 x4))) := (((((below_after_of HB.out hb2).setCell (Nat.le_refl _) _).setCell (Nat.le_refl _) _).setCell (Nat.le_refl _) _).setCell (Nat.le_refl _) _).setCell (Nat.le_refl _) _
      have HS2 : Hid ((((((w2.setCell ⟨w.heap.size, k * 5, none⟩ (.int .i64 x0)).setCell ⟨w.heap.size, k * 5 + 1, none⟩ (.int .i64 x1)).setCell ⟨w.heap.size, k * 5 + 2, none⟩ (.int .i64 x2)).setCell ⟨w.heap.size, k * 5 + 3, none⟩ (.int .i64 x3)).setCell ⟨w.heap.size, k * 5 + 4, none⟩ (.int .i64 x4)).ownsRow w.heap.size 88 5 (.slice (some ⟨w.heap.size, 0, none⟩) n n) n (flH (hset l (k + 1)))) := s5
      clear ho2 s1 s2 s3 s4 s5 hb2 hT
      go_wp2
      go_roundw
      case rel => exact ⟨k + 1, by omega, by go_num, HB2.out, by simp; omega, HS2.out⟩
      case measure => simp [intOf]; omega
    · have hkn : k = n := by omega
      subst hkn
      have e1 : hset l k = l := by rw [HN.out]; exact hset_all _
      rw [e1] at ho
      go_wp2
      go_ret
      exact ⟨rfl, hB, ho⟩
set_option maxRecDepth 100000 in
set_option maxHeartbeats 1000000 in
theorem toHeadS_any (v : Value) (l : Hdl) (w : World) (hv : Hds w v l) (hx : l.length ≤ 1048576) :
    Calls Tryz.prog 33 #[v] w fun e w' => ∃ a c, e = .returned (.slice a l.length c) ∧ Below w.heap.size w w' ∧ w'.ownsRow w.heap.size 88 5 (.slice a l.length c) l.length (flH l) := by
  obtain ⟨a, c, rfl⟩ := hv.shape
  by_cases h0 : 0 < l.length
  · obtain ⟨_, b, off, rfl, hb, hc⟩ := hv.at h0
    refine (toHeadS_core b off c l.length l w rfl hx hb hc).mono ?_
    rintro e w' ⟨rfl, hB, ho⟩
    exact ⟨_, _, rfl, hB, ho⟩
  · have e1 : l = [] := List.eq_nil_of_length_eq_zero (by omega)
    subst e1
    obtain ⟨i0, hi, hz0, hz1, hz2⟩ := info_parts Tryz.infoHd
    simp only [List.length_nil] at *
    clear hv h0
    go_enter Tryz.func33, Tryz.ntmps33
    go_wp2_with (at_make; refine wpList_make_full _ rfl _ _ 35 rfl w.heap.size 88 i0 (.agg #[.int .i64 0, .int .i64 0, .int .i64 0, .int .i64 0, .int .i64 0]) 5 Tryz.underlying35 hi hz0 hz1 _ _ _ _ 0 rfl rfl rfl rfl (by rw [hz2]; omega) (by unfold maxLen; omega) (Nat.le_refl _) ?_)
    intro w1 hown1 hg1
    have hB1 : Below w.heap.size w w1 := (Below.refl _ _).grown hg1 (Nat.le_refl _) (fun k hk => by cases hk)
    have own1 := made_hds (l := []) rfl hown1
    clear hown1 hg1
    go_wp2
    refine wp_loop_rounds 1 ?_; rw [rounds_succ]
    go_wp2
    go_ret
    exact ⟨_, _, rfl, hB1, own1⟩
set_option maxRecDepth 100000 in
set_option maxHeartbeats 4000000 in
theorem eqHeadS_core (b off c b' off' c' n : Nat) (l : Hdl) (w : World) (hx : n ≤ 1048576) (hb : b < w.heap.size) (hb' : b' < w.heap.size) (hc : ∀ j, j < n → HdS w b (off + j * 5) (hAt l j)) (hc' : ∀ j, j < n → HdS w b' (off' + j * 5) (hAt l j)) :
    Calls Tryz.prog 42 #[.slice (some ⟨b, off, none⟩) n c, .slice (some ⟨b', off', none⟩) n c'] w fun e w' => e = .returned (.bool true) ∧ Below w.heap.size w w' := by
  have hnn := hne_all
  go_enter Tryz.func42, Tryz.ntmps42
  go_wp2
  go_loopw [5] (fun i wr => ∃ k : Nat, k ≤ n ∧ i = .int .i64 k ∧ Hid (Below w.heap.size w wr)) (fun i _ => n - (intOf i).toNat)
  case atStart => exact ⟨0, Nat.zero_le _, rfl, Below.refl _ _⟩
  case round =>
    obtain ⟨k, hk, rfl, hB⟩ := hrel
    by_cases hkn : k < n
    · have hki : (k : Int) < (n : Int) := by omega
      obtain ⟨d0, d1, d2, d3, d4⟩ := (hc k hkn).below hB.out hb
      obtain ⟨d0', d1', d2', d3', d4'⟩ := (hc' k hkn).below hB.out hb'
      have hE := fun w => eqHead_same (hAt l k).e (hAt l k).p (hAt l k).o (hAt l k).n (hAt l k).v w
      unfold hdV at hE
      generalize (hAt l k).e = x0 at *
      generalize (hAt l k).p = x1 at *
      generalize (hAt l k).o = x2 at *
      generalize (hAt l k).n = x3 at *
      generalize (hAt l k).v = x4 at *
      have q0 := After.cell d0
      have q1 := After.cell d1
      have q2 := After.cell d2
      have q3 := After.cell d3
      have q4 := After.cell d4
      have p0 := After.cell d0'
      have p1 := After.cell d1'
      have p2 := After.cell d2'
      have p3 := After.cell d3'
      have p4 := After.cell d4'
      have hne := After.ne wr
      clear hc hc' d0 d1 d2 d3 d4 d0' d1' d2' d3' d4'
      go_wp2_with fail
      refine wp_region_after (by kernel_rfl) (by kernel_rfl) ?_
      repeat (first | go_big_quiet_skip | (go_big_quiet_want; go_big_quiet_op; first | go_big_quiet_on | go_big_quiet_call (first | (go_at_call 96; refine (hE _).mono ?_; rintro e wq ⟨rfl, hbq⟩; exact ⟨rfl, after_mk (below_after_of (After.b _) hbq)⟩))))
      refine wpQuiet_nil ?_
      rintro _ ⟨n6, rfl⟩
      have HB6 : Hid (Below w.heap.size w n6.w) := below_after_of hB.out n6.b
      generalize n6.w = w6 at *
      clear hne q0 q1 q2 q3 q4 p0 p1 p2 p3 p4 n6 hE
      go_wp2
      go_roundw
      case rel => exact ⟨k + 1, by omega, by go_num, HB6⟩
      case measure => simp [intOf]; omega
    · have hkn : k = n := by omega
      subst hkn
      clear hc hc'
      go_wp2
      go_ret
      exact ⟨rfl, hB.out⟩
set_option maxRecDepth 100000 in
set_option maxHeartbeats 1000000 in
theorem eqHeadS_same (v u : Value) (l : Hdl) (w : World) (hv : Hds w v l) (hu : Hds w u l) (hx : l.length ≤ 1048576) :
    Calls Tryz.prog 42 #[v, u] w fun e w' => e = .returned (.bool true) ∧ Below w.heap.size w w' := by
  obtain ⟨a, c, rfl⟩ := hv.shape
  obtain ⟨a', c', rfl⟩ := hu.shape
  by_cases h0 : 0 < l.length
  · obtain ⟨_, b, off, rfl, hb, hc⟩ := hv.at h0
    obtain ⟨_, b', off', rfl, hb', hc'⟩ := hu.at h0
    exact eqHeadS_core b off c b' off' c' l.length l w hx hb hb' hc hc'
  · have e1 : l = [] := List.eq_nil_of_length_eq_zero (by omega)
    subst e1
    simp only [List.length_nil] at *
    clear hv hu h0
    go_enter Tryz.func42, Tryz.ntmps42
    go_wp2
    refine wp_loop_rounds 1 ?_; rw [rounds_succ]
    go_wp2
    go_ret
    exact ⟨rfl, Below.refl _ _⟩
end U
end Go.Proofs.YtjhmfaibpnagcaaGreat

/- What every law's row asks behind its walk: the arguments and the named variables read as they did, for nothing that was there has turned. -/
namespace Go.Proofs.YtjhmfaibpnagcaaGreat
namespace U
open Go.ChangeShapes Go.WideShapes Go.ChangeAt Go.RowKit
section
variable {H : Type} {enc : TypeId × Value → H} {P : Program} {W W' : World}
theorem all_stays (hl : laidOutB P = true) (hb : Below W.heap.size W W') : ∀ (ts : List TypeId) (vs : List Value) (ds : List (DataW H)) (ps : List MemPlace), (∀ t ∈ ts, P.readableRec t = true ∧ t < P.types.size) →
    DataW.TrodAll enc P W 0 (fun _ => true) true ts vs ds ps → (∀ x ∈ ps, x.block < W.heap.size) → DataW.TrodAll enc P W' 0 (fun b => decide (b < W.heap.size)) true ts vs ds ps
  | [], [], [], _, _, h, _ => h
  | t :: ts, v :: vs, d :: ds, ps, ht, h, hlt => by
    obtain ⟨p, q, h1, h2, rfl⟩ := h
    have hp := ht t (by simp)
    exact ⟨p, q, Below.trod hl hp.1 hp.2 h1 hb (fun x hx => hlt x (by simp [hx])), all_stays hl hb ts vs ds q (fun t h => ht t (by simp [h])) h2 (fun x hx => hlt x (by simp [hx])), rfl⟩
  | [], [], _ :: _, _, _, h, _ => h.elim
  | [], _ :: _, _, _, _, h, _ => by cases h
  | _ :: _, [], _, _, _, h, _ => by cases h
  | _ :: _, _ :: _, [], _, _, h, _ => h.elim
theorem vars_stay (hl : laidOutB P = true) (hb : Below W.heap.size W W') : ∀ (ns : List String) (ds : List (DataW H)) (ps : List MemPlace), (∀ n ∈ ns, ∀ g t, P.globalNamed n = some g → (P.globals[g]?).map (·.type) = some t → P.readableRec t = true ∧ t < P.types.size) →
    DataW.TrodVars enc P W (fun _ => true) ns ds ps → (∀ x ∈ ps, x.block < W.heap.size) → DataW.TrodVars enc P W' (fun b => decide (b < W.heap.size)) ns ds ps
  | [], [], _, _, h, _ => h
  | n :: ns, d :: ds, ps, ht, h, hlt => by
    obtain ⟨g, t, cs, fuel, p, q, h1, h2, h3, h4, h5, rfl⟩ := h
    have hp := ht n (by simp) g t h1 h2
    have hg : g < W.heap.size := by
      have h3' := h3
      simp only [World.var?, h1, Option.bind_some] at h3'
      rcases hh : W.heap[g]? with _ | o
      · rw [hh] at h3'; cases h3'
      · exact (Array.getElem?_eq_some_iff.1 hh).1
    refine ⟨g, t, cs, fuel, p, q, h1, h2, var?_below hb h1 hg h3, ?_, vars_stay hl hb ns ds q (fun m hm => ht m (by simp [hm])) h5 (fun x hx => hlt x (by simp [hx])), rfl⟩
    exact DataW.trod_stays (kids_book hl hp.1) (book_sized hp.1) (fun h => by cases h) ⟨hp.2, book_self t⟩ h4 (fun x hx => hb.same (hlt x (by simp [hx]))) (fun x hx => by simpa using hlt x (by simp [hx]))
  | [], _ :: _, _, _, h, _ => h.elim
  | _ :: _, [], _, _, h, _ => h.elim
/-- A law that answered true and turned nothing. -/
theorem law_post {f : Func} {s : ChangeSpec} {apart : Bool} {args : Array Value} {ds gs : List (DataW H)} {before : List MemPlace} {tb : TypeId}
    (hW : DataW.Whole enc P f.params.toList s.vars apart W args.toList ds gs before) (hb : Below W.heap.size W W') (hl : laidOutB P = true)
    (ht : ∀ t ∈ f.params.toList, P.readableRec t = true ∧ t < P.types.size)
    (hv : ∀ n ∈ s.vars, ∀ g t, P.globalNamed n = some g → (P.globals[g]?).map (·.type) = some t → P.readableRec t = true ∧ t < P.types.size)
    (hr : f.resultTypes = #[tb]) (htb : P.underlying tb = some .bool)
    (hf1 : (s.fn H (ds ++ gs)).results = [.lit (.bool true)]) (hf2 : (s.fn H (ds ++ gs)).args = ds) (hf3 : (s.fn H (ds ++ gs)).vars = gs) :
    s.post enc P f apart true false false W args (.bool true) W' := by
  have hlt := hW.lt
  have hW2 := hW
  obtain ⟨p, q, hA, hV, rfl, _, _⟩ := hW
  refine ⟨ds, gs, p ++ q, [], p, q, hW2, ?_, ?_, ?_, hb.frame _, fun h => by cases h⟩
  · rw [hf1, hr]
    exact trodAll_cons_mk (shut_bool htb _) trodAll_mk0
  · rw [hf2]
    exact all_stays hl hb _ _ _ _ ht hA (fun x hx => hlt x (by simp [hx]))
  · rw [hf3]
    exact vars_stay hl hb _ _ _ hv hV (fun x hx => hlt x (by simp [hx]))
end
end U
end Go.Proofs.YtjhmfaibpnagcaaGreat

/- An argument that is a directory, opened: it reads as a list of records. -/
namespace Go.Proofs.YtjhmfaibpnagcaaGreat
namespace U
open Go.ChangeShapes Go.WideShapes Go.ChangeAt Go.RowKit
theorem rcs_field {H : Type} {enc : TypeId × Value → H} {P : Program} {W : World} {t e : TypeId} {f0 f1 f2 f3 : Field} {v : Value} {fuel : Nat} {x : DataW H × List MemPlace} (ht : P.underlying t = some (.slice e)) (he : P.underlying e = some (.struct #[f0, f1, f2, f3]))
    (ce : P.cellsOf e = 4) (hone : Go.Deep.oneCellFields P #[f0, f1, f2, f3] = true) (i0 : P.underlying f0.type = some .string) (i1 : P.underlying f1.type = some (.int .i64)) (i2 : P.underlying f2.type = some (.int .i64)) (i3 : P.underlying f3.type = some (.int .i64))
    (hf : DataW.trod enc P W 0 (fun _ => true) true fuel t [v] = some x) : ∃ l, Rcs W v l ∧ l.length ≤ maxLen ∧ LbM l := by
  rcases Go.Deep.open_slice ht hf with ⟨hcs, hx⟩ | ⟨a, len, cap, m, n, D, Pl, hcs, hb, hl, hm, hmm, hx, hcell⟩
  · have e1 : v = .slice none 0 0 := by simpa using hcs
    subst e1
    exact ⟨[], Rcs.nil _ _ _, by simp, fun r hr => by cases hr⟩
  · have e1 : v = .slice (some a) len cap := by simpa using hcs
    subst e1
    rw [if_pos rfl] at hmm
    subst hmm
    by_cases h0 : len = 0
    · subst h0
      exact ⟨[], Rcs.nil _ _ _, by simp, fun r hr => by cases hr⟩
    · have each : ∀ i, i < len → ∃ r : Rc, W.cell? (a.add (i * 4)) = some (.string r.l) ∧ W.cell? (a.add (i * 4 + 1)) = some (.int .i64 r.v) ∧ W.cell? (a.add (i * 4 + 2)) = some (.int .i64 r.o) ∧ W.cell? (a.add (i * 4 + 3)) = some (.int .i64 r.p) ∧ r.l.size ≤ maxLen := by
        intro i hi
        obtain ⟨cs', h1, h2⟩ := hcell i (by omega)
        rw [ce] at h1
        obtain ⟨_, hlen, hc⟩ := World.cells?_some h1
        obtain ⟨y0, y1, y2, y3, k, -, -, t0, t1, t2, t3⟩ := Joins.trod_struct4 he h2
        obtain ⟨o0, k0⟩ := Go.Deep.hone_of hone 0 f0 rfl
        obtain ⟨o1, k1⟩ := Go.Deep.hone_of hone 1 f1 rfl
        obtain ⟨o2, k2⟩ := Go.Deep.hone_of hone 2 f2 rfl
        obtain ⟨o3, k3⟩ := Go.Deep.hone_of hone 3 f3 rfl
        match cs', hlen with
        | [v0, v1, v2, v3], _ =>
          have g0 : DataW.trod enc P W 0 (fun _ => true) true k f0.type [v0] = some y0 := by simpa [o0, k0] using t0
          have g1 : DataW.trod enc P W 0 (fun _ => true) true k f1.type [v1] = some y1 := by simpa [o1, k1] using t1
          have g2 : DataW.trod enc P W 0 (fun _ => true) true k f2.type [v2] = some y2 := by simpa [o2, k2] using t2
          have g3 : DataW.trod enc P W 0 (fun _ => true) true k f3.type [v3] = some y3 := by simpa [o3, k3] using t3
          obtain ⟨s, hs0, -, hs⟩ := DataW.trod_string i0 g0
          obtain ⟨n1, hn1, -, -⟩ := DataW.trod_int i1 g1
          obtain ⟨n2, hn2, -, -⟩ := DataW.trod_int i2 g2
          obtain ⟨n3, hn3, -, -⟩ := DataW.trod_int i3 g3
          have e0 := hc 0 (by omega)
          have e1 := hc 1 (by omega)
          have e2 := hc 2 (by omega)
          have e3 := hc 3 (by omega)
          rw [Go.Deep.add_add] at e0 e1 e2 e3
          simp at hs0 hn1 hn2 hn3
          subst hs0 hn1 hn2 hn3
          exact ⟨⟨s, n1, n2, n3⟩, by simpa using e0, by simpa using e1, by simpa using e2, by simpa using e3, hs⟩
      obtain ⟨b, off, spot⟩ := a
      have hspot : spot = none := by
        obtain ⟨r, h1, -⟩ := each 0 (by omega)
        simpa [Addr.add] using World.cell?_spot h1
      subst hspot
      have each2 : ∀ i, i < len → ∃ r : Rc, RecS W b (off + i * 4) r ∧ r.l.size ≤ maxLen := fun i hi => by
        obtain ⟨r, h⟩ := each i hi
        simp only [add_plain] at h
        exact ⟨r, ⟨h.1, by rw [Nat.add_assoc]; exact h.2.1, by rw [Nat.add_assoc]; exact h.2.2.1, by rw [Nat.add_assoc]; exact h.2.2.2.1⟩, h.2.2.2.2⟩
      obtain ⟨q, hq⟩ : ∃ q : Nat → Rc, ∀ i, i < len → RecS W b (off + i * 4) (q i) ∧ (q i).l.size ≤ maxLen := by
        refine ⟨fun i => if h : i < len then Classical.choose (each2 i h) else rcZ, fun i hi => ?_⟩
        show RecS W b (off + i * 4) (if h : i < len then Classical.choose (each2 i h) else rcZ) ∧ (if h : i < len then Classical.choose (each2 i h) else rcZ).l.size ≤ maxLen
        rw [dif_pos hi]
        exact Classical.choose_spec (each2 i hi)
      have hbb : b < W.heap.size := (hq 0 (by omega)).1.lt
      refine ⟨(List.range len).map q, Or.inr ⟨b, off, _, by simp; rfl, hbb, fun j hj => ?_⟩, by simp; omega, fun r hr => ?_⟩
      · have hj' : j < len := by simpa using hj
        have e2 : rAt ((List.range len).map q) j = q j := by rw [rAt_eq hj]; simp
        rw [e2]
        exact (hq j hj').1
      · obtain ⟨i, hi, rfl⟩ := List.mem_map.1 hr
        exact (hq i (List.mem_range.1 hi)).2
end U
end Go.Proofs.YtjhmfaibpnagcaaGreat

/- An argument that is a head, or a row of heads, opened. -/
namespace Go.Proofs.YtjhmfaibpnagcaaGreat
namespace U
open Go.ChangeShapes Go.WideShapes Go.ChangeAt Go.RowKit
theorem trod_struct5H {H : Type} {enc : TypeId × Value → H} {P : Program} {w : World} {t : TypeId} {f0 f1 f2 f3 f4 : Field} {fuel : Nat} {cs : List Value} {x : DataW H × List MemPlace} (ht : P.underlying t = some (.struct #[f0, f1, f2, f3, f4])) (h : DataW.trod enc P w 0 (fun _ => true) true fuel t cs = some x) :
    ∃ y0 y1 y2 y3 y4 n, DataW.trod enc P w 0 (fun _ => true) true n f0.type ((cs.drop f0.offset).take (P.cellsOf f0.type)) = some y0 ∧ DataW.trod enc P w 0 (fun _ => true) true n f1.type ((cs.drop f1.offset).take (P.cellsOf f1.type)) = some y1 ∧
      DataW.trod enc P w 0 (fun _ => true) true n f2.type ((cs.drop f2.offset).take (P.cellsOf f2.type)) = some y2 ∧ DataW.trod enc P w 0 (fun _ => true) true n f3.type ((cs.drop f3.offset).take (P.cellsOf f3.type)) = some y3 ∧ DataW.trod enc P w 0 (fun _ => true) true n f4.type ((cs.drop f4.offset).take (P.cellsOf f4.type)) = some y4 := by
  obtain ⟨xs, n, _, rfl, hl, hlen, hf⟩ := DataW.trod_struct ht h
  match xs, hlen with
  | [y0, y1, y2, y3, y4], _ => exact ⟨y0, y1, y2, y3, y4, n, by simpa using hf 0 f0 rfl, by simpa using hf 1 f1 rfl, by simpa using hf 2 f2 rfl, by simpa using hf 3 f3 rfl, by simpa using hf 4 f4 rfl⟩
set_option maxRecDepth 100000 in
theorem hd_cells {H : Type} {enc : TypeId × Value → H} {W : World} {n : Nat} {c0 c1 c2 c3 c4 : Value} {y : DataW H × List MemPlace} (hf : DataW.trod enc Tryz.prog W 0 (fun _ => true) true n 139 [c0, c1, c2, c3, c4] = some y) :
    ∃ r : Hd, c0 = .int .i64 r.e ∧ c1 = .int .i64 r.p ∧ c2 = .int .i64 r.o ∧ c3 = .int .i64 r.n ∧ c4 = .int .i64 r.v := by
  obtain ⟨y0, y1, y2, y3, y4, n, h0, h1, h2, h3, h4⟩ := trod_struct5H Tryz.underlying139 hf
  have k1 : Tryz.prog.cellsOf 2 = 1 := by kernel_rfl
  simp only [k1] at h0 h1 h2 h3 h4
  simp at h0 h1 h2 h3 h4
  obtain ⟨a, ha, -⟩ := DataW.trod_int Tryz.underlying2 h0
  obtain ⟨b, hb, -⟩ := DataW.trod_int Tryz.underlying2 h1
  obtain ⟨c, hc, -⟩ := DataW.trod_int Tryz.underlying2 h2
  obtain ⟨d, hd, -⟩ := DataW.trod_int Tryz.underlying2 h3
  obtain ⟨e, he, -⟩ := DataW.trod_int Tryz.underlying2 h4
  exact ⟨⟨a, b, c, d, e⟩, by simpa using ha, by simpa using hb, by simpa using hc, by simpa using hd, by simpa using he⟩
set_option maxRecDepth 100000 in
theorem hds_field {H : Type} {enc : TypeId × Value → H} {W : World} {v : Value} {fuel : Nat} {x : DataW H × List MemPlace} (hf : DataW.trod enc Tryz.prog W 0 (fun _ => true) true fuel 26 [v] = some x) : ∃ l, Hds W v l ∧ l.length ≤ maxLen := by
  rcases Go.Deep.open_slice Tryz.underlying26 hf with ⟨hcs, hx⟩ | ⟨a, len, cap, m, n, D, Pl, hcs, hb, hl, hm, hmm, hx, hcell⟩
  · have e1 : v = .slice none 0 0 := by simpa using hcs
    subst e1
    exact ⟨[], Hds.nil _ _ _, by simp⟩
  · have e1 : v = .slice (some a) len cap := by simpa using hcs
    subst e1
    rw [if_pos rfl] at hmm
    subst hmm
    by_cases h0 : len = 0
    · subst h0
      exact ⟨[], Hds.nil _ _ _, by simp⟩
    · have each : ∀ i, i < len → ∃ r : Hd, W.cell? (a.add (i * 5)) = some (.int .i64 r.e) ∧ W.cell? (a.add (i * 5 + 1)) = some (.int .i64 r.p) ∧ W.cell? (a.add (i * 5 + 2)) = some (.int .i64 r.o) ∧ W.cell? (a.add (i * 5 + 3)) = some (.int .i64 r.n) ∧ W.cell? (a.add (i * 5 + 4)) = some (.int .i64 r.v) := by
        intro i hi
        obtain ⟨cs', h1, h2⟩ := hcell i (by omega)
        have ce : Tryz.prog.cellsOf 139 = 5 := by kernel_rfl
        rw [ce] at h1
        obtain ⟨_, hlen, hc⟩ := World.cells?_some h1
        match cs', hlen with
        | [v0, v1, v2, v3, v4], _ =>
          obtain ⟨r, rfl, rfl, rfl, rfl, rfl⟩ := hd_cells h2
          have e0 := hc 0 (by omega)
          have e1 := hc 1 (by omega)
          have e2 := hc 2 (by omega)
          have e3 := hc 3 (by omega)
          have e4 := hc 4 (by omega)
          rw [Go.Deep.add_add] at e0 e1 e2 e3 e4
          exact ⟨r, by simpa using e0, by simpa using e1, by simpa using e2, by simpa using e3, by simpa using e4⟩
      obtain ⟨b, off, spot⟩ := a
      have hspot : spot = none := by
        obtain ⟨r, h1, -⟩ := each 0 (by omega)
        simpa [Addr.add] using World.cell?_spot h1
      subst hspot
      have each2 : ∀ i, i < len → ∃ r : Hd, HdS W b (off + i * 5) r := fun i hi => by
        obtain ⟨r, h⟩ := each i hi
        simp only [add_plain] at h
        exact ⟨r, ⟨h.1, by rw [Nat.add_assoc]; exact h.2.1, by rw [Nat.add_assoc]; exact h.2.2.1, by rw [Nat.add_assoc]; exact h.2.2.2.1, by rw [Nat.add_assoc]; exact h.2.2.2.2⟩⟩
      obtain ⟨q, hq⟩ : ∃ q : Nat → Hd, ∀ i, i < len → HdS W b (off + i * 5) (q i) := by
        refine ⟨fun i => if h : i < len then Classical.choose (each2 i h) else hdZ, fun i hi => ?_⟩
        show HdS W b (off + i * 5) (if h : i < len then Classical.choose (each2 i h) else hdZ)
        rw [dif_pos hi]
        exact Classical.choose_spec (each2 i hi)
      have hbb : b < W.heap.size := (hq 0 (by omega)).lt
      refine ⟨(List.range len).map q, Or.inr ⟨b, off, _, by simp; rfl, hbb, fun j hj => ?_⟩, by simp; omega⟩
      have hj' : j < len := by simpa using hj
      have e2 : hAt ((List.range len).map q) j = q j := by rw [hAt_eq hj]; simp
      rw [e2]
      exact hq j hj'
end U
end Go.Proofs.YtjhmfaibpnagcaaGreat

/- An argument that is a slice of pairs of numbers, opened: it reads as a list of pairs. -/
namespace Go.Proofs.YtjhmfaibpnagcaaGreat
namespace U
open Go.ChangeShapes Go.WideShapes Go.ChangeAt Go.RowKit
theorem ints_of {H : Type} {enc : TypeId × Value → H} {P : Program} {W : World} {t : TypeId} {v : Value} {x : DataW H × List MemPlace} {fuel : Nat} (ht : P.underlying t = some (.int .i64))
    (h : DataW.trod enc P W 0 (fun _ => true) true fuel t [v] = some x) : ∃ n : Int, v = .int .i64 n ∧ -9223372036854775808 ≤ n ∧ n ≤ 9223372036854775807 := by
  obtain ⟨n, hn, _, hw⟩ := DataW.trod_int ht h
  exact ⟨n, by simpa using hn, bounds_i64 hw⟩
end U
end Go.Proofs.YtjhmfaibpnagcaaGreat

/- Marks in a directory's records, and how they are looked at anew. -/
namespace Go.Proofs.YtjhmfaibpnagcaaGreat
open Go.RowKit
namespace U
def digB (d : Nat) : ByteArray := ⟨#[UInt8.ofNat (48 + d)]⟩
theorem bt_digB {d : Nat} (h : d < 10) : bt (digB d) 0 = ((48 + d : Nat) : Int) := by
  rcases (by omega : d = 0 ∨ d = 1 ∨ d = 2 ∨ d = 3 ∨ d = 4 ∨ d = 5 ∨ d = 6 ∨ d = 7 ∨ d = 8 ∨ d = 9) with rfl | rfl | rfl | rfl | rfl | rfl | rfl | rfl | rfl | rfl <;> rfl
def mtL : Nat → Nat → ByteArray → ByteArray
  | 0, _, out => out
  | f + 1, k, out => if k = 0 then out else mtL f (k / 10) (digB (k % 10) ++ out)
theorem mtL_zero (f : Nat) (out : ByteArray) : mtL f 0 out = out := by cases f <;> rfl
theorem mtL_st : ∀ (f g k : Nat) (out : ByteArray), k ≤ f → k ≤ g → mtL f k out = mtL g k out
  | 0, g, k, out, h, _ => by
    have e : k = 0 := by omega
    subst e
    rw [mtL_zero, mtL_zero]
  | f + 1, g, k, out, h1, h2 => by
    by_cases e : k = 0
    · subst e; rw [mtL_zero, mtL_zero]
    · obtain ⟨g', rfl⟩ : ∃ g', g = g' + 1 := ⟨g - 1, by omega⟩
      rw [mtL, mtL, if_neg e, if_neg e]
      exact mtL_st f g' (k / 10) _ (by omega) (by omega)
theorem mtL_step {k : Nat} {out : ByteArray} (h : ¬ k = 0) : mtL k k out = mtL (k / 10) (k / 10) (digB (k % 10) ++ out) := by
  obtain ⟨f, hf⟩ : ∃ f, k = f + 1 := ⟨k - 1, by omega⟩
  have e : mtL (f + 1) k out = mtL f (k / 10) (digB (k % 10) ++ out) := by rw [mtL, if_neg h]
  rw [← hf] at e
  rw [e]
  exact mtL_st _ _ _ _ (by omega) (Nat.le_refl _)
/-- The mark of a number, as a text. -/
def mkT (k : Nat) : ByteArray := ⟨#[109]⟩ ++ mtL k k ⟨#[]⟩
theorem conv_dig (w : World) (d : Nat) (h : d < 10) : (convert 182 9 (.slice (some ⟨w.heap.size, 0, none⟩) 1 1)).run Tryz.prog (w.alloc (.cells #[.int .u8 (48 + (d : Int))] 5)) = .ok (.string (digB d)) (w.alloc (.cells #[.int .u8 (48 + (d : Int))] 5)) := by
  refine conv_back (P := Tryz.prog) _ 182 9 5 w.heap.size 0 1 (digB d) Tryz.underlying182 Tryz.underlying5 Tryz.underlying9 (fun j hj => ?_)
  have hj1 : j < 1 := hj
  obtain rfl : j = 0 := by omega
  rw [bt_digB h, show ((48 + d : Nat) : Int) = 48 + (d : Int) by omega]
  unfold World.cell?
  rw [heap_alloc_new]
  rfl
set_option maxRecDepth 100000 in
set_option maxHeartbeats 1000000 in
theorem markText_any (k : Nat) (w : World) (h0 : 0 < k) (hk : k ≤ 4398046511104) : Calls Tryz.prog 153 #[.int .i64 (k : Int)] w fun e w' => e = .returned (.string (mkT k)) ∧ Below w.heap.size w w' := by
  obtain ⟨T, hT⟩ : ∃ T, T = mtL k k ⟨#[]⟩ := ⟨_, rfl⟩
  have HT : Hid (mtL k k ⟨#[]⟩ = T) := hT.symm
  unfold mkT
  rw [← hT]
  have hn : ¬ ((k : Int) ≤ 0) := by omega
  clear hT
  go_enter Tryz.func153, Tryz.ntmps153
  go_wp2
  go_loopw [0, 3] (fun a u wr => ∃ (j : Nat) (out : ByteArray), out.size + j ≤ k ∧ a = .int .i64 (j : Int) ∧ u = .string out ∧ Hid (mtL j j out = T) ∧ Hid (Below w.heap.size w wr)) (fun a _ _ => (intOf a).toNat)
  case atStart => exact ⟨k, ⟨#[]⟩, by show 0 + k ≤ k; omega, rfl, rfl, HT, Below.refl _ _⟩
  case round =>
    obtain ⟨j, out, hj, rfl, rfl, HM, hB⟩ := hrel
    by_cases hj0 : j = 0
    · subst hj0
      have e : Hid (out = T) := (by rw [← HM.out]; rfl : out = T)
      have hso : ¬ 9223372036854775807 < (⟨#[109]⟩ : ByteArray).size + out.size := by show ¬ 9223372036854775807 < 1 + out.size; omega
      have hso2 : ¬ 9223372036854775807 < 1 + out.size := by omega
      go_wp2
      go_ret
      exact ⟨by rw [e.out]; rfl, hB.out⟩
    · have hjp : ((j : Int) > 0) := by omega
      have HM2 : Hid (mtL (j / 10) (j / 10) (digB (j % 10) ++ out) = T) := (by rw [← mtL_step hj0]; exact HM.out : mtL (j / 10) (j / 10) (digB (j % 10) ++ out) = T)
      have hr : (j : Int).tmod 10 = ((j % 10 : Nat) : Int) := by rw [Int.tmod_eq_emod_of_nonneg (by omega)]; rfl
      have hq : (j : Int).tdiv 10 = ((j / 10 : Nat) : Int) := by rw [Int.tdiv_eq_ediv_of_nonneg (by omega)]; rfl
      have hd := fun w => conv_dig w (j % 10) (by omega)
      have hd10 : j % 10 < 10 := by omega
      have hq10 : j / 10 < j := by omega
      generalize j % 10 = d at *
      generalize j / 10 = q at *
      have hsd : (digB d).size = 1 := rfl
      have hso : ¬ 9223372036854775807 < (digB d).size + out.size := by rw [hsd]; omega
      have hsz : (digB d ++ out).size + q ≤ k := by rw [ByteArray.size_append, hsd]; omega
      have HZ : Hid ((digB d ++ out).size + q ≤ k) := hsz
      clear hsd hsz
      go_wp2
      go_roundw
      case rel => exact ⟨q, _, HZ.out, rfl, rfl, HM2, hB.out.alloc hB.out.size _⟩
      case measure => simp [intOf]; omega
end U
end Go.Proofs.YtjhmfaibpnagcaaGreat

/- A directory's records, marked, and looked at anew. -/
namespace Go.Proofs.YtjhmfaibpnagcaaGreat
open Go.RowKit
namespace U
theorem grown_of_below {w w' : World} {N : Nat} (h : Below N w w') (hN : w.heap.size ≤ N) (row : Option Nat) : w.grownBy w' row := ⟨h.os, h.tape, h.output, h.size, fun i hi _ => h.block i (Nat.lt_of_lt_of_le hi hN)⟩
/-- A record of marks. -/
def mkR1 (k : Nat) : Rc := ⟨mkT k, ((k + 1 : Nat) : Int), ((k + 2 : Nat) : Int), ((k + 3 : Nat) : Int)⟩
def mkR (k n : Nat) : Rcl := (List.range n).map fun j => mkR1 (k + j * 4)
theorem mkR_len (k n : Nat) : (mkR k n).length = n := by simp [mkR]
theorem mkR_at (k n j : Nat) (h : j < n) : rAt (mkR k n) j = mkR1 (k + j * 4) := by
  rw [rAt_eq (by rw [mkR_len]; exact h)]
  simp [mkR]
/-- The first records marked. -/
def mkd (l : Rcl) (k0 : Nat) (k : Nat) : Rcl := mkR k0 k ++ l.drop k
theorem mkd_len (l : Rcl) (k0 : Nat) {k : Nat} (h : k ≤ l.length) : (mkd l k0 k).length = l.length := by unfold mkd; rw [List.length_append, mkR_len, List.length_drop]; omega
theorem mkd_zero (l : Rcl) (k0 : Nat) : mkd l k0 0 = l := by unfold mkd; simp [mkR]
theorem mkd_all (l : Rcl) (k0 : Nat) : mkd l k0 l.length = mkR k0 l.length := by unfold mkd; simp
theorem mkd_set (l : Rcl) (k0 : Nat) {k : Nat} (h : k < l.length) : (mkd l k0 k).set k (mkR1 (k0 + k * 4)) = mkd l k0 (k + 1) := by
  have h1 : mkR k0 (k + 1) = mkR k0 k ++ [mkR1 (k0 + k * 4)] := by unfold mkR; rw [List.range_succ, List.map_append]; rfl
  unfold mkd
  rw [h1, List.set_append_right _ _ (by rw [mkR_len]; exact Nat.le_refl _), mkR_len, Nat.sub_self, List.append_assoc]
  congr 1
  rw [List.drop_eq_getElem_cons h]
  rfl
set_option maxRecDepth 100000 in
set_option maxHeartbeats 4000000 in
theorem markRecordS_any (B : Nat) (v : Value) (l : Rcl) (k0 : Nat) (w : World) (hown : w.ownsRow B 52 4 v l.length (flR l)) (hx : l.length ≤ 1048576) (hk0 : 0 < k0 ∧ k0 ≤ 1099511627776) :
    Calls Tryz.prog 97 #[v, .int .i64 k0] w fun e w' => e = .returned (.int .i64 ((k0 + l.length * 4 : Nat) : Int)) ∧ w.grownBy w' v.ownBlock ∧ w'.ownsRow B 52 4 v l.length (flR (mkR k0 l.length)) := by
  by_cases h0 : l.length = 0
  · have e1 : l = [] := List.eq_nil_of_length_eq_zero h0
    subst e1
    obtain ⟨a, c, rfl⟩ : ∃ a c, v = .slice a 0 c := by
      rcases hown.2 with ⟨rfl, hn⟩ | ⟨g, cap, cur, rfl, _⟩
      · exact ⟨none, 0, rfl⟩
      · exact ⟨_, _, rfl⟩
    simp only [List.length_nil] at *
    go_enter Tryz.func97, Tryz.ntmps97
    go_wp2
    refine wp_loop_rounds 1 ?_; rw [rounds_succ]
    go_wp2
    go_ret
    exact ⟨rfl, World.grownBy.refl _ _, hown⟩
  · rcases hown.2 with ⟨_, h⟩ | ⟨g, cap, cur, rfl, hB, hg, _⟩
    · exact absurd h h0
    have hgs : g < w.heap.size := (Array.getElem?_eq_some_iff.1 hg).1
    clear hg hB
    obtain ⟨n, hn⟩ : ∃ n, n = l.length := ⟨_, rfl⟩
    have HN : Hid (n = l.length) := hn
    rw [← hn] at hown hx h0 ⊢
    have HA : Hid (mkd l k0 n = mkR k0 n) := (by rw [hn]; exact mkd_all l k0 : mkd l k0 n = mkR k0 n)
    clear hn h0
    go_enter Tryz.func97, Tryz.ntmps97
    go_wp2
    go_loopw [1, 5] (fun k i wr => ∃ j : Nat, j ≤ n ∧ i = .int .i64 j ∧ k = .int .i64 ((k0 + j * 4 : Nat) : Int) ∧ Hid (w.grownBy wr (some g)) ∧ Hid (wr.ownsRow B 52 4 (.slice (some ⟨g, 0, none⟩) n cap) n (flR (mkd l k0 j)))) (fun _ i _ => n - (intOf i).toNat)
    case atStart => exact ⟨0, Nat.zero_le _, rfl, by simp, World.grownBy.refl _ _, by rw [mkd_zero]; exact hown⟩
    case round =>
      obtain ⟨j, hj, rfl, rfl, hgr, ho⟩ := hrel
      by_cases hjn : j < n
      · have hji : (j : Int) < (n : Int) := by omega
        have hM := fun w => markText_any (k0 + j * 4) w (by omega) (by omega)
        have hts : ((((flR (mkd l k0 j)).set (j * 4) (.string (mkT (k0 + j * 4)))).set (j * 4 + 1) (.int .i64 ((k0 + j * 4 + 1 : Nat) : Int))).set (j * 4 + 2) (.int .i64 ((k0 + j * 4 + 2 : Nat) : Int))).set (j * 4 + 3) (.int .i64 ((k0 + j * 4 + 3 : Nat) : Int)) = flR (mkd l k0 (j + 1)) := by
          have := HN.out
          rw [← mkd_set l k0 (by omega), flR_set _ _ j (by rw [mkd_len l k0 (by omega)]; omega)]
          rfl
        have HQ : Hid (k0 + (j + 1) * 4 = k0 + j * 4 + 4) := (by omega : k0 + (j + 1) * 4 = k0 + j * 4 + 4)
        generalize mkT (k0 + j * 4) = t at *
        have hqb : k0 + j * 4 ≤ 1099515822080 := by omega
        generalize k0 + j * 4 = q at *
        have HT : Hid (((((flR (mkd l k0 j)).set (j * 4) (.string t)).set (j * 4 + 1) (.int .i64 ((q : Int) + 1))).set (j * 4 + 2) (.int .i64 ((q : Int) + 1 + 1))).set (j * 4 + 3) (.int .i64 ((q : Int) + 1 + 1 + 1)) = flR (mkd l k0 (j + 1))) := hts
        have hgw : g < wr.heap.size := Nat.lt_of_lt_of_le hgs hgr.out.size
        clear hts hown
        go_wp2_with fail
        refine (hM _).mono ?_
        rintro e w2 ⟨rfl, hb2⟩
        have ho2 := own_below ho.out hb2
        have f0 := ho2.frozenAt (j * 4)
        have f1 := ho2.frozenAt (j * 4 + 1)
        have f2 := ho2.frozenAt (j * 4 + 2)
        have f3 := ho2.frozenAt (j * 4 + 3)
        obtain ⟨z0, g0⟩ := own_some4 ho2 (j := j * 4) (by omega)
        obtain ⟨z1, g1⟩ := own_some4 ho2 (j := j * 4 + 1) (by omega)
        obtain ⟨z2, g2⟩ := own_some4 ho2 (j := j * 4 + 2) (by omega)
        obtain ⟨z3, g3⟩ := own_some4 ho2 (j := j * 4 + 3) (by omega)
        obtain ⟨s1, r1⟩ := ho2.stored (j * 4) (.string t)
        obtain ⟨s2, r2⟩ := s1.stored (j * 4 + 1) (.int .i64 ((q : Int) + 1))
        obtain ⟨s3, r3⟩ := s2.stored (j * 4 + 2) (.int .i64 ((q : Int) + 1 + 1))
        obtain ⟨s4, r4⟩ := s3.stored (j * 4 + 3) (.int .i64 ((q : Int) + 1 + 1 + 1))
        have s5 := grown_trans (grown_trans (grown_trans (grown_trans (grown_trans hgr.out (grown_of_below hb2 (Nat.le_refl _) _)) r1) r2) r3) r4
        rw [HT.out] at s4
        have HS4 : Hid (((((w2.setCell ⟨g, j * 4, none⟩ (.string t)).setCell ⟨g, j * 4 + 1, none⟩ (.int .i64 ((q : Int) + 1))).setCell ⟨g, j * 4 + 2, none⟩ (.int .i64 ((q : Int) + 1 + 1))).setCell ⟨g, j * 4 + 3, none⟩ (.int .i64 ((q : Int) + 1 + 1 + 1))).ownsRow B 52 4 (.slice (some ⟨g, 0, none⟩) n cap) n (flR (mkd l k0 (j + 1)))) := s4
        have HS5 : Hid (w.grownBy ((((w2.setCell ⟨g, j * 4, none⟩ (.string t)).setCell ⟨g, j * 4 + 1, none⟩ (.int .i64 ((q : Int) + 1))).setCell ⟨g, j * 4 + 2, none⟩ (.int .i64 ((q : Int) + 1 + 1))).setCell ⟨g, j * 4 + 3, none⟩ (.int .i64 ((q : Int) + 1 + 1 + 1))) (some g)) := s5
        have hg2 : g < w2.heap.size := Nat.lt_of_lt_of_le hgw hb2.size
        clear ho2 s1 s2 s3 s4 s5 r1 r2 r3 r4 hb2 hM
        go_wp2
        go_roundw
        case rel => exact ⟨j + 1, by omega, by go_num, by rw [HQ.out]; congr 1, HS5, HS4⟩
        case measure => simp [intOf]; omega
      · have hjn : j = n := by omega
        subst hjn
        rw [HA.out] at ho
        go_wp2
        go_ret
        exact ⟨rfl, hgr.out, ho.out⟩
set_option maxRecDepth 100000 in
set_option maxHeartbeats 4000000 in
theorem heldRecordS_any (v : Value) (n k0 : Nat) (w : World) (hv : Rcs w v (mkR k0 n)) (hx : n ≤ 1048576) (hk0 : 0 < k0 ∧ k0 ≤ 1099511627776) :
    Calls Tryz.prog 154 #[v, .int .i64 k0] w fun e w' => e = .returned (.int .i64 ((k0 + n * 4 : Nat) : Int)) ∧ Below w.heap.size w w' := by
  obtain ⟨a, c, rfl⟩ := hv.shape
  by_cases h0 : n = 0
  · subst h0
    simp only [mkR_len]
    clear hv
    go_enter Tryz.func154, Tryz.ntmps154
    go_wp2
    refine wp_loop_rounds 1 ?_; rw [rounds_succ]
    go_wp2
    go_ret
    exact ⟨rfl, Below.refl _ _⟩
  · obtain ⟨_, b, off, rfl, hb, hc⟩ := hv.at (by rw [mkR_len]; omega)
    have HC : Hid (∀ j, j < n → RecS w b (off + j * 4) (mkR1 (k0 + j * 4))) := fun j hj => by
      have h1 := hc j (by rw [mkR_len]; exact hj)
      rw [mkR_at _ _ _ hj] at h1
      exact h1
    rw [mkR_len]
    clear hv hc h0
    go_enter Tryz.func154, Tryz.ntmps154
    go_wp2
    go_loopw [1, 5] (fun k i wr => ∃ j : Nat, j ≤ n ∧ i = .int .i64 j ∧ k = .int .i64 ((k0 + j * 4 : Nat) : Int) ∧ Hid (Below w.heap.size w wr)) (fun _ i _ => n - (intOf i).toNat)
    case atStart => exact ⟨0, Nat.zero_le _, rfl, by simp, Below.refl _ _⟩
    case round =>
      obtain ⟨j, hj, rfl, rfl, hB⟩ := hrel
      by_cases hjn : j < n
      · have hji : (j : Int) < (n : Int) := by omega
        have hr := HC.out j hjn
        have hM := fun w => markText_any (k0 + j * 4) w (by omega) (by omega)
        have HR : Hid (∀ w', Below w.heap.size w w' → w'.cell? ⟨b, off + j * 4, none⟩ = some (.string (mkT (k0 + j * 4))) ∧ w'.cell? ⟨b, off + j * 4 + 1, none⟩ = some (.int .i64 (((k0 + j * 4 : Nat) : Int) + 1)) ∧ w'.cell? ⟨b, off + j * 4 + 2, none⟩ = some (.int .i64 (((k0 + j * 4 : Nat) : Int) + 1 + 1)) ∧ w'.cell? ⟨b, off + j * 4 + 3, none⟩ = some (.int .i64 (((k0 + j * 4 : Nat) : Int) + 1 + 1 + 1))) := fun w' h => ⟨(hr.below h hb).c0, (hr.below h hb).c1, (hr.below h hb).c2, (hr.below h hb).c3⟩
        have HQ : Hid (((k0 + j * 4 : Nat) : Int) + 1 + 1 + 1 + 1 = ((k0 + (j + 1) * 4 : Nat) : Int)) := (by omega : ((k0 + j * 4 : Nat) : Int) + 1 + 1 + 1 + 1 = ((k0 + (j + 1) * 4 : Nat) : Int))
        have hqb : k0 + j * 4 ≤ 1099515822080 := by omega
        generalize mkT (k0 + j * 4) = t at *
        generalize k0 + j * 4 = q at *
        obtain ⟨d0, -, -, -⟩ := HR.out _ hB.out
        have q0 := After.cell d0
        have hne := After.ne wr
        have htt : (t.toList == t.toList) = true := by simp
        have hbw : b < wr.heap.size := Nat.lt_of_lt_of_le hb hB.out.size
        clear hr d0
        go_wp2_with fail
        refine wp_region_after (by kernel_rfl) (by kernel_rfl) ?_
        repeat (first | go_big_quiet_skip | (go_big_quiet_want; go_big_quiet_op; first | go_big_quiet_on | go_big_quiet_call (first | (go_at_call 153; refine (hM _).mono ?_; rintro e wq ⟨rfl, hbq⟩; exact ⟨rfl, after_mk (below_after_of (After.b _) hbq)⟩))))
        refine wpQuiet_nil ?_
        rintro _ ⟨n6, rfl⟩
        have HB6 : Hid (Below w.heap.size w n6.w) := below_after_of hB.out n6.b
        generalize n6.w = w6 at *
        obtain ⟨d0, d1, d2, d3⟩ := HR.out _ HB6.out
        have hnn := hne_all
        clear hne q0 n6 hM HR
        go_wp2
        go_roundw
        case rel => exact ⟨j + 1, by omega, by go_num, by rw [← HQ.out], HB6⟩
        case measure => simp [intOf]; omega
      · have hjn : j = n := by omega
        subst hjn
        go_wp2
        go_ret
        exact ⟨rfl, hB.out⟩
set_option maxRecDepth 100000 in
set_option maxHeartbeats 1000000 in
theorem markDirectory_any (B : Nat) (v : Value) (l : Rcl) (k0 : Nat) (w : World) (hown : w.ownsRow B 52 4 v l.length (flR l)) (hx : l.length ≤ 1048576) (hk0 : 0 < k0 ∧ k0 ≤ 1099511627776) :
    Calls Tryz.prog 44 #[.agg #[v], .int .i64 k0] w fun e w' => e = .returned (.int .i64 ((k0 + l.length * 4 : Nat) : Int)) ∧ w.grownBy w' v.ownBlock ∧ w'.ownsRow B 52 4 v l.length (flR (mkR k0 l.length)) := by
  have hM := fun o => markRecordS_any B v l k0 _ (hown.alloc o) hx hk0
  obtain ⟨a, c', rfl⟩ : ∃ a c, v = .slice a l.length c := by
    rcases hown.2 with ⟨rfl, hn⟩ | ⟨g, cap, cur, rfl, _⟩
    · exact ⟨none, 0, by rw [hn]⟩
    · exact ⟨_, _, rfl⟩
  generalize l.length = n at *
  clear hown
  go_enter Tryz.func44, Tryz.ntmps44
  go_wp2_with fail
  refine (hM _).mono ?_
  rintro e w1 ⟨rfl, hg, ho⟩
  have HH : Hid (w.grownBy w1 (Value.slice a n c').ownBlock ∧ w1.ownsRow B 52 4 (.slice a n c') n (flR (mkR k0 n))) := ⟨grown_trans (World.grownBy_alloc _ _ _) hg, ho⟩
  clear hM hg ho
  go_wp2
  go_ret
  exact ⟨rfl, HH.out⟩
/-- A box of one cell. -/
def One (w : World) (b : Nat) (x : Value) : Prop := b < w.heap.size ∧ w.cell? ⟨b, 0, none⟩ = some x
theorem One.below {w w' : World} {b : Nat} {x : Value} (h : One w b x) (hb : Below w.heap.size w w') : One w' b x := ⟨Nat.lt_of_lt_of_le h.1 hb.size, (hb.cell (p := ⟨b, 0, none⟩) h.1).trans h.2⟩
theorem One.grown {w w' : World} {b : Nat} {x : Value} {row : Option Nat} (h : One w b x) (hg : w.grownBy w' row) (hne : some b ≠ row) : One w' b x := ⟨Nat.lt_of_lt_of_le h.1 hg.size, hg.cell h.2 hne⟩
theorem One.new (w : World) (x : Value) (t : TypeId) : One (w.alloc (.cells #[x] t)) w.heap.size x := ⟨by simp, one_cellV (heap_alloc_new w _)⟩
end U
end Go.Proofs.YtjhmfaibpnagcaaGreat

/- A code and a directory: compared, marked, looked at anew. -/
namespace Go.Proofs.YtjhmfaibpnagcaaGreat
open Go.RowKit
namespace U
set_option maxRecDepth 100000 in
set_option maxHeartbeats 1000000 in
theorem heldDirectory_any (v : Value) (n k0 : Nat) (w : World) (hv : Rcs w v (mkR k0 n)) (hx : n ≤ 1048576) (hk0 : 0 < k0 ∧ k0 ≤ 1099511627776) :
    Calls Tryz.prog 98 #[.agg #[v], .int .i64 k0] w fun e w' => e = .returned (.int .i64 ((k0 + n * 4 : Nat) : Int)) ∧ Below w.heap.size w w' := by
  have hH := fun o => heldRecordS_any v n k0 _ (hv.below (one_new o)) hx hk0
  obtain ⟨a, c', rfl⟩ := hv.shape
  rw [mkR_len] at *
  have hs : ¬ ((k0 + n * 4 : Nat) : Int) < 0 := by omega
  generalize ((k0 + n * 4 : Nat) : Int) = z at *
  clear hv
  go_enter Tryz.func98, Tryz.ntmps98
  go_wp2_with fail
  refine (hH _).mono ?_
  rintro e w1 ⟨rfl, hb1⟩
  clear hH
  go_wp2
  go_ret
  exact ⟨rfl, below_after hb1⟩
end U
end Go.Proofs.YtjhmfaibpnagcaaGreat

/- Records by their keys, in a map: what the map's block is good for. -/
namespace Go.Proofs.YtjhmfaibpnagcaaGreat
open Go.RowKit Go.Maps
namespace U
/-- How a record reads. -/
def recD (r : Rc) : DataW Unit := .agg [.lit (.string r.l.data.toList), .lit (.int .i64 r.v), .lit (.int .i64 r.o), .lit (.int .i64 r.p)]
/-- How an element of the map reads. -/
def recE (v : Value) : Option (DataW Unit × List MemPlace) :=
  match v with
  | .agg cs => (match cs.toList with
    | [.string l, .int .i64 a, .int .i64 b, .int .i64 c] => some (recD ⟨l, a, b, c⟩, [])
    | _ => none)
  | _ => none
def Rc.val (r : Rc) : Value := .agg #[.string r.l, .int .i64 r.v, .int .i64 r.o, .int .i64 r.p]
theorem recE_mk (r : Rc) : recE r.val = some (recD r, []) := rfl
theorem Tryz.mapK : Keyed Tryz.prog 2 := int_keyed Tryz.underlying2
theorem key_lit {x : Int} (h : 0 ≤ x ∧ x < 256) : keyOf Tryz.prog 2 (.int .i64 x) = some (.int .i64 x) := keyOf_int_mk Tryz.underlying2 (WalkArith.wf_i64 (by omega))
/-- A block that is a map of records by key. -/
structure MpAt (w : World) (b n : Nat) (g : Int → Option Rc) : Prop where
  ex : ∃ D : DataW Unit, w.ownsMap Tryz.prog 2 recE b n D ∧ (∀ x, Go.Maps.has D (.int .i64 x) = (g x).isSome) ∧ ∀ x r, g x = some r → ∀ z, D.atKey (.int .i64 x) z = recD r
theorem MpAt.lt {w : World} {b n : Nat} {g : Int → Option Rc} (h : MpAt w b n g) : b < w.heap.size := by
  obtain ⟨D, h1, -, -⟩ := h.ex
  exact h1.lt
theorem MpAt.below {w w' : World} {b n N : Nat} {g : Int → Option Rc} (h : MpAt w b n g) (hb : Below N w w') (hlt : b < N) : MpAt w' b n g := by
  obtain ⟨D, ⟨es, clock, e1, e2⟩, h2, h3⟩ := h.ex
  exact ⟨D, ⟨es, clock, (hb.block b hlt).trans e1, e2⟩, h2, h3⟩
theorem lit_ne {x y : Int} (h : x ≠ y) : (Lit.int .i64 x) ≠ (Lit.int .i64 y) := fun e => h (by cases e; rfl)
theorem key_is (x : Int) : WideAt.IsKeyLit (Lit.int .i64 x) := trivial
theorem MpAt.store {w : World} {b n : Nat} {g : Int → Option Rc} (h : MpAt w b n g) (hn : n < maxLen) {x : Int} (hx : 0 ≤ x ∧ x < 256) (r : Rc) :
    ∃ w', (Instr.mapUpdate 166 (.map (some b)) (.int .i64 x) r.val).run Tryz.prog w = .ok () w' ∧ MpAt w' b (n + 1) (fun y => if y = x then some r else g y) ∧ w.grownBy w' (some b) := by
  obtain ⟨D, h1, h2, h3⟩ := h.ex
  obtain ⟨w', hrun, ho, hg⟩ := h1.update Tryz.mapK Tryz.underlying166 hn (key_lit hx) (recE_mk r)
  refine ⟨w', hrun, ⟨_, ho, fun y => ?_, fun y s hs z => ?_⟩, hg⟩
  · by_cases e : y = x
    · subst e
      rw [if_pos rfl, has_put_same h1.isMap (key_is _)]
      rfl
    · rw [if_neg e, has_put_other (lit_ne e), h2]
  · by_cases e : y = x
    · subst e
      rw [if_pos rfl] at hs
      cases hs
      exact atKey_put_same h1.isMap (key_is _) _ _
    · rw [if_neg e] at hs
      rw [atKey_put_other (lit_ne e)]
      exact h3 y s hs z
theorem DirOk.one {l : Rcl} (h : DirOk l) {i j : Nat} (hi : i < l.length) (hj : j < l.length) (e : (rAt l i).k = (rAt l j).k) : i = j := by
  rcases Nat.lt_trichotomy i j with h1 | h1 | h1
  · have := h.rise j hj i h1; omega
  · exact h1
  · have := h.rise i hi j h1; omega
end U
end Go.Proofs.YtjhmfaibpnagcaaGreat

/- A region that draws its order, driven by hand: what is passed over, what is taken first. -/
namespace Go.Proofs.YtjhmfaibpnagcaaGreat
open Go.RowKit
namespace U
section
variable {P : Program} {ops : Array Oper} {Q : Exit → Act → World → Prop} {md : Region.Mode} {S : World → Prop}
theorem h_take {i : Nat} {d : Option Tmp} {v : Value} {fuel : Nat} {listed : Array Bool} {a : Act} {w : World} (hd : (ops[i]?).map (·.dst) = some d)
    (hs : Region.noSelect ops = true) (hf : Region.free md ops listed i = true) (hr : (Region.ready md ops listed).contains i = true)
    (hQ : ∀ c a w, Q (.panic c) (a.put d v) w → Q (.panic c) a w) (hw : (ops[i]?).map (fun o => Region.wanted o (yielded ops a.tmps)) = some true)
    (hy : ∀ o, ops[i]? = some o → ∀ w, S w → (execOp a.eval o).run P w = .ok (.value v) w) (hS : S w)
    (h : wpAnyH P md ops Q S fuel (listed.setIfInBounds i true) (a.put d v) w) : wpAnyH P md ops Q S (fuel + 1) listed a w := by
  rcases ho : ops[i]? with _ | o
  · rw [ho] at hd; cases hd
  · rw [ho] at hd hw
    cases hd
    exact wpAnyH_take ho hs hf hr hQ (Or.inl ⟨Option.some.inj hw, hy o ho⟩) hS h
end
end U
end Go.Proofs.YtjhmfaibpnagcaaGreat

/- Records by their keys: the map that the program makes of a directory. -/
namespace Go.Proofs.YtjhmfaibpnagcaaGreat
open Go.RowKit Go.Maps
namespace U
set_option maxHeartbeats 400000 in
theorem clone_strR (s : ByteArray) (w : World) (hs : s.size ≤ 1048576) : Calls Tryz.prog 152 #[.string s] w fun e w' => e = .returned (.string s) ∧ Below w.heap.size w w' := by
  go_enter Tryz.func152, Tryz.ntmps152
  go_wp2_with fail
  refine (Tryz.stringslite_Clone s _ (by omega)).mono ?_
  rintro e w1 ⟨rfl, hb1⟩
  go_wp2
  go_ret
  exact ⟨rfl, hb1⟩
set_option maxRecDepth 100000 in
set_option maxHeartbeats 1000000 in
theorem ownRecord_any (l : ByteArray) (v o p : Int) (w : World) (hs : l.size ≤ 1048576) :
    Calls Tryz.prog 93 #[.agg #[.string l, .int .i64 v, .int .i64 o, .int .i64 p]] w fun e w' => e = .returned (.agg #[.string l, .int .i64 v, .int .i64 o, .int .i64 p]) ∧ Below w.heap.size w w' := by
  have hC := fun w => clone_strR l w hs
  go_enter Tryz.func93, Tryz.ntmps93
  go_wp2_with fail
  refine (hC _).mono ?_
  rintro e w1 ⟨rfl, hb1⟩
  have hB : Below w.heap.size w w1 := below_after (below_after hb1)
  have k0 := blk4 ((hb1.block w.heap.size (by simp; omega)).trans (heap_alloc_old' _ _ _ (heap_alloc_new w _)))
  have k1 := blk4 ((hb1.block (w.heap.size + 1) (by simp)).trans (heap_new2 w _ _))
  go_split_ands
  clear hb1 hC
  go_wp2
  refine bodyPost_ret (v := .agg #[.string l, .int .i64 v, .int .i64 o, .int .i64 p]) (by simp [results, Tryz.results93, go_sem, *]) rfl ⟨rfl, ?_⟩
  exact ((((hB.setCell (Nat.le_refl _) _).setCell (Nat.le_succ _) _).setCell (Nat.le_succ _) _).setCell (Nat.le_succ _) _).setCell (Nat.le_succ _) _
end U
end Go.Proofs.YtjhmfaibpnagcaaGreat
