/- Rows of words, as the laws hold them: compared, marked, looked at anew. -/
import Derived.Test.YtmjbmlojcieciaaDoorText
import Derived.Test.YtmjbmlojcieciaaDoorIntR
import Derived.Test.YtmjbmlojcieciaaDoorOwn
import Derived.Test.YtmjbmlojcieciaaDoorPairs
import Derived.Test.YtmjbmlojcieciaaDoorQuiet
import Derived.Test.YtmjbmlojcieciaaDoorParse2
namespace Go.Proofs.YtmjbmlojcieciaaDoor
open Go.RowKit
namespace U
attribute [local go_sem] Go.wp_at_zero Go.wp_at_succ
/-- The text of a mark. -/
def mtF : Nat → Nat → ByteArray → ByteArray
  | 0, _, o => o
  | f + 1, k, o => if k = 0 then o else mtF f (k / 10) (⟨#[UInt8.ofNat (48 + k % 10)]⟩ ++ o)
def mtB (k : Nat) : ByteArray := ⟨#[109]⟩ ++ mtF 8 k ⟨#[]⟩
theorem mtF_zero (f : Nat) (o : ByteArray) : mtF f 0 o = o := by cases f <;> simp [mtF]
theorem mtF_pos {f k : Nat} {o : ByteArray} (h : 0 < k) : mtF (f + 1) k o = mtF f (k / 10) (⟨#[UInt8.ofNat (48 + k % 10)]⟩ ++ o) := by rw [mtF, if_neg (by omega)]
theorem mtF_len : ∀ (f k : Nat) (o : ByteArray), (mtF f k o).size ≤ f + o.size
  | 0, _, o => by simp [mtF]
  | f + 1, k, o => by
    rw [mtF]
    split
    · omega
    · have h := mtF_len f (k / 10) (⟨#[UInt8.ofNat (48 + k % 10)]⟩ ++ o)
      rw [ByteArray.size_append] at h
      have e : (⟨#[UInt8.ofNat (48 + k % 10)]⟩ : ByteArray).size = 1 := rfl
      omega
set_option maxRecDepth 100000 in
set_option maxHeartbeats 2000000 in
theorem markText_any (k : Nat) (w : World) (h0 : 0 < k) (hk : k < 100000000) :
    Calls Tryd.prog 40 #[.int .i64 (k : Int)] w fun e w' => e = .returned (.string (mtB k)) ∧ Below w.heap.size w w' := by
  obtain ⟨y, hy⟩ : ∃ y, y = mtF 8 k ⟨#[]⟩ := ⟨_, rfl⟩
  have hyl : y.size ≤ 8 := by rw [hy]; exact mtF_len _ _ _
  have hadd : ∀ w, (Op.stringOp .add ⟨#[109]⟩ y).run Tryd.prog w = .ok (.string (⟨#[109]⟩ ++ y)) w := fun w => run_string_add_sum w ⟨#[109]⟩ y (by show 1 + y.size ≤ _; omega)
  unfold mtB
  rw [← hy]
  have HY : Hid (mtF 8 k ⟨#[]⟩ = y) := hy.symm
  have hk1 : ¬ (k : Int) ≤ 0 := by omega
  clear hy hyl
  go_enter Tryd.func40, Tryd.ntmps40
  go_wp2
  go_loopw [0, 3] (fun i r wr => ∃ (f n : Nat) (o : ByteArray), i = .int .i64 (n : Int) ∧ r = .string o ∧ n < 10 ^ f ∧ o.size + f ≤ 8 ∧ Hid (mtF f n o = y) ∧ Below w.heap.size w wr) (fun i _ _ => (intOf i).toNat)
  case atStart => exact ⟨8, k, ⟨#[]⟩, rfl, rfl, by omega, by show 0 + 8 ≤ 8; omega, HY, Below.refl _ _⟩
  case round =>
    obtain ⟨f, n, o, rfl, rfl, hn, hof, hF, hb⟩ := hrel
    by_cases hn0 : n = 0
    · subst hn0
      have e : Hid (o = y) := by have := hF.out; rw [mtF_zero] at this; exact this
      rw [e.out]
      have h2 : ¬ ((0 : Nat) : Int) > 0 := by omega
      go_wp2
      go_ret
      exact ⟨rfl, hb⟩
    · obtain ⟨f, rfl⟩ : ∃ g, f = g + 1 := by
        rcases f with _ | g
        · simp at hn; omega
        · exact ⟨g, rfl⟩
      have hn1 : (n : Int) > 0 := by omega
      obtain ⟨r, hr⟩ : ∃ r, r = n % 10 := ⟨_, rfl⟩
      have hr9 : r < 10 := by omega
      have HF : Hid (mtF f (n / 10) (⟨#[UInt8.ofNat (48 + r)]⟩ ++ o) = y) := by show _ = _; rw [hr, ← mtF_pos (by omega)]; exact hF.out
      have hd : ((n : Int).tdiv 10) = ((n / 10 : Nat) : Int) := by rw [Int.tdiv_eq_ediv_of_nonneg (by omega)]; omega
      have hm' : ((n : Int).tmod 10) = (r : Int) := by rw [Int.tmod_eq_emod_of_nonneg (by omega)]; omega
      have hn8 : n < 100000000 := Nat.lt_of_lt_of_le hn (Nat.le_trans (Nat.pow_le_pow_right (by omega) (by omega : f + 1 ≤ 8)) (by decide))
      have hw1 : IntKind.i64.wrap ((n / 10 : Nat) : Int) = ((n / 10 : Nat) : Int) := by rw [IntKind.wrap_i64]; omega
      have hw : IntKind.u8.wrap (48 + (r : Int)) = 48 + (r : Int) := by rw [IntKind.wrap_u8]; omega
      have hw0 : IntKind.i64.wrap (48 + (r : Int)) = 48 + (r : Int) := by rw [IntKind.wrap_i64]; omega
      have hcv := fun g => conv_one g (48 + (r : Int)) (by omega) (by omega)
      rw [show (48 + (r : Int)).toNat = 48 + r by omega] at hcv
      have hq : n / 10 < 10 ^ f := by rw [Nat.pow_succ] at hn; omega
      have hnn : n / 10 < n := by omega
      generalize UInt8.ofNat (48 + r) = z at *
      have hadd1 : ∀ w, (Op.stringOp .add ⟨#[z]⟩ o).run Tryd.prog w = .ok (.string (⟨#[z]⟩ ++ o)) w := fun w => run_string_add_sum w ⟨#[z]⟩ o (by show 1 + o.size ≤ _; omega)
      generalize hdv : n / 10 = q at *
      have hbA := hb.alloc hb.size (.cells #[.int .u8 (48 + (r : Int))] 5)
      clear hr hF hdv hadd
      go_wp2
      go_roundw
      case rel => exact ⟨f, q, ⟨#[z]⟩ ++ o, rfl, rfl, hq, by rw [ByteArray.size_append]; show 1 + o.size + f ≤ 8; omega, HF, hbA⟩
      case measure => simp [intOf]; omega
/-- A slice of words that is read. -/
def Wds (w : World) (v : Value) (xs : List ByteArray) : Prop :=
  (xs = [] ∧ ∃ a c, v = .slice a 0 c) ∨ ∃ b c, v = .slice (some ⟨b, 0, none⟩) xs.length c ∧ b < w.heap.size ∧ ∀ j x, xs[j]? = some x → w.cell? ⟨b, j, none⟩ = some (.string x)
theorem Wds.below {w w' : World} {v : Value} {xs : List ByteArray} (h : Wds w v xs) (hb : Below w.heap.size w w') : Wds w' v xs := by
  rcases h with h | ⟨b, c, rfl, hlt, hc⟩
  · exact Or.inl h
  · exact Or.inr ⟨b, c, rfl, Nat.lt_of_lt_of_le hlt hb.size, fun j x hj => (hb.cell (p := ⟨b, j, none⟩) hlt).trans (hc j x hj)⟩
theorem Wds.grown {w w' : World} {v : Value} {xs : List ByteArray} {row : Option Nat} (h : Wds w v xs) (hg : w.grownBy w' row) (hne : v.ownBlock = none ∨ v.ownBlock ≠ row) : Wds w' v xs := by
  rcases h with h | ⟨b, c, rfl, hlt, hc⟩
  · exact Or.inl h
  · refine Or.inr ⟨b, c, rfl, Nat.lt_of_lt_of_le hlt hg.size, fun j x hj => ?_⟩
    have e : w'.heap[b]? = w.heap[b]? := hg.block b hlt (by
      rcases hne with h | h
      · cases h
      · intro e; exact h (by rw [← e]; rfl))
    unfold World.cell?
    dsimp only
    rw [e]
    exact hc j x hj
theorem Wds.shape {w : World} {v : Value} {xs : List ByteArray} (h : Wds w v xs) : ∃ a c, v = .slice a xs.length c := by
  rcases h with ⟨rfl, a, c, rfl⟩ | ⟨b, c, rfl, _⟩
  · exact ⟨a, c, rfl⟩
  · exact ⟨_, c, rfl⟩
theorem own_wds {w : World} {B : Nat} {v : Value} {xs : List ByteArray} (h : w.ownsRow B 9 1 v xs.length (xs.map Value.string)) : Wds w v xs := by
  have h0 := h
  rcases h.2 with ⟨rfl, hn⟩ | ⟨g, cap, cur, rfl, hB, hg, _⟩
  · exact Or.inl ⟨List.eq_nil_of_length_eq_zero hn, none, 0, rfl⟩
  · refine Or.inr ⟨g, cap, rfl, (Array.getElem?_eq_some_iff.1 hg).1, fun j x hj => ?_⟩
    have hlt := (List.getElem?_eq_some_iff.1 hj).1
    rw [h0.cellAt j (by omega)]
    simp [List.getElem?_map, hj]
theorem strEq (x : ByteArray) : (x.toList != x.toList) = false := by simp
set_option maxRecDepth 100000 in
set_option maxHeartbeats 2000000 in
theorem eqStringS_same (v u : Value) (xs : List ByteArray) (w : World) (hv : Wds w v xs) (hu : Wds w u xs) (hx : xs.length ≤ 1099511627776) :
    Calls Tryd.prog 22 #[v, u] w fun e w' => e = .returned (.bool true) ∧ Below w.heap.size w w' := by
  rcases hv with ⟨rfl, a, c, rfl⟩ | ⟨b, c, rfl, hb, hc⟩
  · obtain ⟨a', c', rfl⟩ := hu.shape
    simp only [List.length_nil]
    clear hu hx
    go_enter Tryd.func22, Tryd.ntmps22
    go_wp2
    refine wp_loop_rounds 1 ?_; rw [rounds_succ]
    go_wp2
    go_ret
    exact ⟨rfl, Below.refl _ _⟩
  · rcases hu with ⟨rfl, a', c', rfl⟩ | ⟨b', c', rfl, hb', hc'⟩
    · simp only [List.length_nil]
      clear hc hx hb
      go_enter Tryd.func22, Tryd.ntmps22
      go_wp2
      refine wp_loop_rounds 1 ?_; rw [rounds_succ]
      go_wp2
      go_ret
      exact ⟨rfl, Below.refl _ _⟩
    · have HC : Hid (∀ j x, xs[j]? = some x → w.cell? ⟨b, j, none⟩ = some (.string x)) := hc
      have HC' : Hid (∀ j x, xs[j]? = some x → w.cell? ⟨b', j, none⟩ = some (.string x)) := hc'
      clear hc hc'
      go_enter Tryd.func22, Tryd.ntmps22
      go_wp2
      go_loopw [5] (fun i wr => ∃ k : Nat, k ≤ xs.length ∧ i = .int .i64 k ∧ ∃ m, wr = w.drewN m) (fun i _ => xs.length - (intOf i).toNat)
      case atStart => exact ⟨0, Nat.zero_le _, rfl, 0, rfl⟩
      case round =>
        obtain ⟨k, hk, rfl, m, rfl⟩ := hrel
        by_cases hkn : k < xs.length
        · have hx1 := HC.out k _ (List.getElem?_eq_getElem hkn)
          have hy1 := HC'.out k _ (List.getElem?_eq_getElem hkn)
          have hki : (k : Int) < (xs.length : Int) := by omega
          have e1 := strEq xs[k]
          generalize xs[k] = x at *
          go_wp2
          go_quiet (fail)
          go_wp2
          go_roundw
          case rel => exact ⟨k + 1, by omega, by go_num, _, rfl⟩
          case measure => simp [intOf]; omega
        · have hki : ¬ (k : Int) < (xs.length : Int) := by omega
          go_wp2
          go_ret
          exact ⟨rfl, (Below.refl _ _).trans ⟨rfl, rfl, rfl, Nat.le_refl _, fun _ _ => rfl⟩⟩
/-- The marks of a row. -/
def msB (k0 n : Nat) : List ByteArray := (List.range n).map fun j => mtB (k0 + j)
theorem msB_len (k0 n : Nat) : (msB k0 n).length = n := by simp [msB]
theorem msB_at {k0 n j : Nat} (h : j < n) : (msB k0 n)[j]? = some (mtB (k0 + j)) := by simp [msB, h]
def hfB (xs : List ByteArray) (k0 j : Nat) : List ByteArray := msB k0 j ++ xs.drop j
theorem hfB_zero (xs : List ByteArray) (k0 : Nat) : hfB xs k0 0 = xs := by simp [hfB, msB]
theorem hfB_all (xs : List ByteArray) (k0 : Nat) : hfB xs k0 xs.length = msB k0 xs.length := by simp [hfB]
theorem hfB_set (xs : List ByteArray) (k0 j : Nat) (h : j < xs.length) : (hfB xs k0 j).set j (mtB (k0 + j)) = hfB xs k0 (j + 1) := by
  unfold hfB
  rw [List.set_append_right _ _ (by rw [msB_len]; exact Nat.le_refl _), msB_len, Nat.sub_self, List.drop_eq_getElem_cons h, List.set_cons_zero]
  have e : msB k0 (j + 1) = msB k0 j ++ [mtB (k0 + j)] := by unfold msB; rw [List.range_succ, List.map_append]; rfl
  rw [e, List.append_assoc]
  rfl
set_option maxRecDepth 100000 in
set_option maxHeartbeats 2000000 in
theorem markStringS_any (B : Nat) (v : Value) (xs : List ByteArray) (k0 : Nat) (w : World) (hown : w.ownsRow B 9 1 v xs.length (xs.map Value.string)) (hx : xs.length ≤ 10000000) (hk : 0 < k0) (hk0 : k0 ≤ 10000000) :
    Calls Tryd.prog 23 #[v, .int .i64 k0] w fun e w' => e = .returned (.int .i64 ((k0 + xs.length : Nat) : Int)) ∧ w.grownBy w' v.ownBlock ∧ w'.ownsRow B 9 1 v xs.length ((msB k0 xs.length).map Value.string) := by
  by_cases h0 : xs.length = 0
  · have e1 : xs = [] := List.eq_nil_of_length_eq_zero h0
    subst e1
    obtain ⟨a, c, rfl⟩ := own_shape hown
    simp only [List.length_nil] at *
    go_enter Tryd.func23, Tryd.ntmps23
    go_wp2
    refine wp_loop_rounds 1 ?_; rw [rounds_succ]
    go_wp2
    go_ret
    exact ⟨rfl, World.grownBy.refl _ _, hown⟩
  · rcases hown.2 with ⟨_, h⟩ | ⟨g, cap, cur, rfl, hB, hg, _⟩
    · exact absurd h h0
    have hgs : g < w.heap.size := (Array.getElem?_eq_some_iff.1 hg).1
    have hM := fun (k : Nat) w h => markText_any k w h
    clear hg hB
    obtain ⟨n, hn⟩ : ∃ n, n = xs.length := ⟨_, rfl⟩
    have HN : Hid (n = xs.length) := hn
    rw [← hn] at hown hx h0 ⊢
    clear hn h0
    go_enter Tryd.func23, Tryd.ntmps23
    go_wp2
    go_loopw [1, 5] (fun k i wr => ∃ j : Nat, j ≤ n ∧ i = .int .i64 j ∧ k = .int .i64 ((k0 + j : Nat) : Int) ∧ w.grownBy wr (some g) ∧ wr.ownsRow B 9 1 (.slice (some ⟨g, 0, none⟩) n cap) n ((hfB xs k0 j).map Value.string)) (fun _ i _ => n - (intOf i).toNat)
    case atStart => exact ⟨0, Nat.zero_le _, rfl, by simp, World.grownBy.refl _ _, by rw [hfB_zero]; exact hown⟩
    case round =>
      obtain ⟨j, hj, rfl, rfl, hgr, ho⟩ := hrel
      by_cases hjn : j < n
      · have hji : (j : Int) < (n : Int) := by omega
        have hMk := hM (k0 + j) wr (by omega) (by omega)
        have HS : Hid ((hfB xs k0 j).set j (mtB (k0 + j)) = hfB xs k0 (j + 1)) := hfB_set xs k0 j (by have := HN.out; omega)
        generalize mtB (k0 + j) = z at *
        clear hM hown
        go_wp2_with fail
        refine hMk.mono ?_
        rintro e wq ⟨rfl, hbq⟩
        have hoq := own_below ho hbq
        have hgq : w.grownBy wq (some g) := grown_trans hgr ⟨hbq.os, hbq.tape, hbq.output, hbq.size, fun k hk _ => hbq.block k hk⟩
        have hfz := hoq.frozenAt j
        obtain ⟨x, hcl⟩ := own_some hoq hjn
        obtain ⟨s1, s2⟩ := hoq.stored j (.string z)
        have s2 := grown_trans hgq s2
        rw [← List.map_set, HS.out] at s1
        clear ho hoq hgr hgq hMk hbq
        go_wp2
        go_roundw
        case rel =>
          exact ⟨j + 1, by omega, by go_num, by go_num, s2, s1⟩
        case measure => simp [intOf]; omega
      · go_wp2
        go_ret
        have hjn : j = n := by omega
        subst hjn
        refine ⟨rfl, hgr, ?_⟩
        rw [HN.out, hfB_all, ← HN.out] at ho
        exact ho
set_option maxRecDepth 100000 in
set_option maxHeartbeats 2000000 in
theorem heldStringS_any (v : Value) (n k0 : Nat) (w : World) (hv : Wds w v (msB k0 n)) (hx : n ≤ 10000000) (hk : 0 < k0) (hk0 : k0 ≤ 10000000) :
    Calls Tryd.prog 24 #[v, .int .i64 k0] w fun e w' => e = .returned (.int .i64 ((k0 + n : Nat) : Int)) ∧ Below w.heap.size w w' := by
  rcases hv with ⟨he, a, c, rfl⟩ | ⟨b, c, rfl, hb, hc⟩
  · have e0 : n = 0 := by have := msB_len k0 n; rw [he] at this; simpa using this.symm
    subst e0
    clear he
    go_enter Tryd.func24, Tryd.ntmps24
    go_wp2
    refine wp_loop_rounds 1 ?_; rw [rounds_succ]
    go_wp2
    go_ret
    exact ⟨rfl, Below.refl _ _⟩
  · have HC : Hid (∀ j x, (msB k0 n)[j]? = some x → w.cell? ⟨b, j, none⟩ = some (.string x)) := hc
    have hM := fun (k : Nat) w h => markText_any k w h
    rw [msB_len]
    clear hc
    go_enter Tryd.func24, Tryd.ntmps24
    go_wp2
    go_loopw [1, 5] (fun k i wr => ∃ j : Nat, j ≤ n ∧ i = .int .i64 j ∧ k = .int .i64 ((k0 + j : Nat) : Int) ∧ Below w.heap.size w wr) (fun _ i _ => n - (intOf i).toNat)
    case atStart => exact ⟨0, Nat.zero_le _, rfl, by simp, Below.refl _ _⟩
    case round =>
      obtain ⟨j, hj, rfl, rfl, hbr⟩ := hrel
      by_cases hjn : j < n
      · have hji : (j : Int) < (n : Int) := by omega
        have hx1 : wr.cell? ⟨b, j, none⟩ = some (.string (mtB (k0 + j))) := (hbr.cell (p := ⟨b, j, none⟩) hb).trans (HC.out j _ (msB_at hjn))
        have hMk := fun w => hM (k0 + j) w (by omega) (by omega)
        have e1 := strEq (mtB (k0 + j))
        generalize mtB (k0 + j) = z at *
        have q0 := After.cell hx1
        have hne := After.ne wr
        clear hM hx1
        go_wp2_with fail
        refine wp_region_after (by kernel_rfl) (by kernel_rfl) ?_
        repeat (first | go_big_quiet_skip | (go_big_quiet_want; go_big_quiet_op; first | go_big_quiet_on | go_big_quiet_call (first | (go_at_call 40; refine (hMk _).mono ?_; rintro e wq ⟨rfl, hbq⟩; exact ⟨rfl, after_mk (below_after_of (After.b _) hbq)⟩))))
        refine wpQuiet_nil ?_
        rintro _ ⟨n6, rfl⟩
        have hb6 := n6.b
        generalize n6.w = w6 at *
        have hbr := below_after_of hbr hb6
        clear n6 q0 hne hb6 hMk
        go_wp2
        go_roundw
        case rel => exact ⟨j + 1, by omega, by go_num, by go_num, hbr⟩
        case measure => simp [intOf]; omega
      · have hjn : j = n := by omega
        subst hjn
        go_wp2
        go_ret
        exact ⟨rfl, hbr⟩
set_option maxRecDepth 100000 in
set_option maxHeartbeats 1000000 in
theorem eqWordsResult_same (v u : Value) (xs : List ByteArray) (w : World) (hv : Wds w v xs) (hu : Wds w u xs) (hx : xs.length ≤ 1099511627776) :
    Calls Tryd.prog 8 #[.agg #[.int .i64 0, v], .agg #[.int .i64 0, u]] w fun e w' => e = .returned (.bool true) ∧ Below w.heap.size w w' := by
  obtain ⟨a, c, rfl⟩ := hv.shape
  obtain ⟨a', c', rfl⟩ := hu.shape
  have hE := fun w' (hb : Below w.heap.size w w') => eqStringS_same _ _ xs w' (hv.below hb) (hu.below hb) hx
  clear hv hu
  go_enter Tryd.func8, Tryd.ntmps8
  go_wp2_with fail
  refine (hE _ (two_new _ _)).mono ?_
  rintro e w1 ⟨rfl, hb1⟩
  have hB1 : Below w.heap.size w w1 := below_after (below_after hb1)
  clear hE hb1
  go_wp2
  go_ret
  exact ⟨rfl, hB1⟩
set_option maxRecDepth 100000 in
set_option maxHeartbeats 1000000 in
theorem markWordsResult_any (B : Nat) (v : Value) (xs : List ByteArray) (k0 : Nat) (w : World) (hown : w.ownsRow B 9 1 v xs.length (xs.map Value.string)) (hx : xs.length ≤ 10000000) (hk : 0 < k0) (hk0 : k0 ≤ 10000000) :
    Calls Tryd.prog 9 #[.agg #[.int .i64 0, v], .int .i64 k0] w fun e w' => e = .returned (.int .i64 ((k0 + xs.length : Nat) : Int)) ∧ w.grownBy w' v.ownBlock ∧ w'.ownsRow B 9 1 v xs.length ((msB k0 xs.length).map Value.string) := by
  obtain ⟨a, c', rfl⟩ := own_shape hown
  have hM := fun o => markStringS_any B _ xs k0 _ (hown.alloc o) hx hk hk0
  go_enter Tryd.func9, Tryd.ntmps9
  go_wp2_with fail
  refine (hM _).mono ?_
  rintro e w' ⟨rfl, hg, ho⟩
  clear hM
  go_wp2
  go_ret
  exact ⟨rfl, grown_trans (World.grownBy_alloc _ _ _) hg, ho⟩
set_option maxRecDepth 100000 in
set_option maxHeartbeats 1000000 in
theorem heldWordsResult_any (v : Value) (n k0 : Nat) (w : World) (hv : Wds w v (msB k0 n)) (hx : n ≤ 10000000) (hk : 0 < k0) (hk0 : k0 ≤ 10000000) :
    Calls Tryd.prog 10 #[.agg #[.int .i64 0, v], .int .i64 k0] w fun e w' => e = .returned (.int .i64 ((k0 + n : Nat) : Int)) ∧ Below w.heap.size w w' := by
  obtain ⟨a, c', rfl⟩ := hv.shape
  have hM := fun o => heldStringS_any _ n k0 _ (hv.below (one_new o)) hx hk hk0
  rw [msB_len] at *
  have h0 : ¬ (((k0 + n : Nat) : Int) < 0) := by omega
  go_enter Tryd.func10, Tryd.ntmps10
  go_wp2_with fail
  refine (hM _).mono ?_
  rintro e w' ⟨rfl, hb⟩
  clear hM
  go_wp2
  go_ret
  exact ⟨rfl, below_after hb⟩
theorem apartW {w w' : World} {B B' n n' : Nat} {e e' : TypeId} {v v' : Value} {xs xs' : List Value} (h : w.ownsRow B e 1 v n xs) (h' : w'.ownsRow B' e' 1 v' n' xs') (hB : w.heap.size ≤ B') : v.ownBlock = none ∨ v.ownBlock ≠ v'.ownBlock := by
  rcases hk : v.ownBlock with _ | g
  · exact Or.inl rfl
  · refine Or.inr (fun e => ?_)
    have h1 := (h.lt g hk).2
    have h2 := (h'.lt g e.symm).1
    omega
end U
end Go.Proofs.YtmjbmlojcieciaaDoor
