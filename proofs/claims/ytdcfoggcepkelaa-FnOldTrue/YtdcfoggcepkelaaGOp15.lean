/- What the old tree shows is so, or there is a clash: by mathematics; draws. -/
import Derived.Test.YtdcfoggcepkelaaGE
import Derived.Test.YtdcfoggcepkelaaGOp14
namespace Go.Proofs.Ytdcfoggcepkelaa
open Go.RowKit
namespace U
theorem numB_inj {a b : Int} (h : numB a = numB b) : a = b := by
  unfold numB at h
  simp only [List.cons.injEq, and_true] at h
  omega
theorem tag_two_inj {t a b c d : Int} (h : tagL t [a, b] = tagL t [c, d]) : a = c ∧ b = d := by
  unfold tagL at h
  simp only [List.flatMap_cons, List.flatMap_nil, List.append_nil, List.cons.injEq, true_and] at h
  have h1 := List.append_inj_left h (by simp [numB])
  have h2 := List.append_inj_right h (by simp [numB])
  exact ⟨numB_inj h1, numB_inj h2⟩
theorem l2B_same {a b : List Int} (h : l2B a b = false) (hs : sumL a = sumL b) : a = b := by
  unfold l2B at h
  have := of_decide_eq_false h
  apply Classical.byContradiction
  intro hne
  exact this ⟨hs, hne⟩
/-- Where no clash is met from a level on, the leaves are the same. -/
theorem no_clash {l : Prl} {x s : Int} {p a b : List Int} (hs : s = sumL a) (hb : sumL b = nd l 0 x) : ∀ n, l2B (ocW l x s p a b n).1 (ocW l x s p a b n).2 = false → clm x s p n = nd l n (x / (2 ^ n : Nat)) → a = b := by
  intro n
  induction n with
  | zero =>
    intro h1 h2
    refine l2B_same h1 ?_
    rw [clm_zero] at h2
    rw [← hs, hb, h2]
    simp
  | succ n ih =>
    intro h1 h2
    have hsum : sumL (ndP x s p n) = sumL (ndT l x n) := by
      rw [clm_succ, nd_both] at h2
      exact h2
    rcases Bool.eq_false_or_eq_true (l2B (ndP x s p n) (ndT l x n)) with hc | hc
    · rw [ocW_yes hc] at h1
      dsimp only at h1
      rw [hc] at h1
      cases h1
    · rw [ocW_no hc] at h1
      have hq := tag_two_inj (l2B_same hc hsum)
      refine ih h1 ?_
      have hd := div_succ x n
      unfold sdL sdR at hq
      generalize hqq : x / (2 ^ n : Nat) = q at *
      rw [hd] at hq
      by_cases h0 : q % 2 = 0
      · rw [if_pos h0, if_pos h0] at hq
        rw [hq.1, show 2 * (q / 2) = q by omega]
      · rw [if_neg h0, if_neg h0] at hq
        rw [hq.2, show 2 * (q / 2) + 1 = q by omega]
theorem tag_ne_nil (t : Int) (xs : List Int) : tagL t xs ≠ [] := by unfold tagL; simp
/-- What the old tree shows, and is taken, is so, or there is a clash. -/
theorem old_true {l : Prl} {x y : Int} {b : Bool} {p : List Int} (h : ocC l x b y p = 0) (hf : ocF l x b y p = false) : slF l = 0 ∧ thr l x = b ∧ (b = true → fsV l x = y) := by
  unfold ocC at h
  by_cases h0 : slF l = 0
  · rw [if_pos h0] at h
    by_cases hc : coC x b y p = 0
    · rw [if_pos hc] at h
      by_cases hr : coV x b y p = nd l 8 0
      · have e := (oc_ok h0 hc hr).2
        rw [hf] at e
        obtain ⟨ha, h8, hs⟩ := co_zero hc
        have hx := askd_key ha
        have hv := (co_ok ha h8 hs).2
        have e2 : x / ((2 ^ 8 : Nat) : Int) = 0 := by
          have : ((2 ^ 8 : Nat) : Int) = 256 := rfl
          rw [this]
          omega
        have hl := no_clash (l := l) (x := x) (s := sumL (leafL x b y)) (p := p) (a := leafL x b y) (b := lfT l x) rfl (lfT_sum h0) 8 e.symm (by rw [e2, ← hr, hv])
        refine ⟨h0, ?_⟩
        rcases Bool.eq_false_or_eq_true (thr l x) with ht | ht
        · cases b
          · have : leafL x false y = [] := rfl
            rw [this, lfT_there h0 ht] at hl
            exact absurd hl.symm (tag_ne_nil _ _)
          · refine ⟨ht, fun _ => ?_⟩
            have e3 : leafL x true y = tagL 3 [x, y] := rfl
            have e4 : fsV l x = (pAt l (low l x)).2 := by unfold fsV; rw [if_pos ⟨h0, ht⟩]
            rw [e3, lfT_there h0 ht] at hl
            rw [e4, (tag_two_inj hl).2]
        · cases b
          · exact ⟨ht, fun h => by cases h⟩
          · have e3 : leafL x true y = tagL 3 [x, y] := rfl
            rw [e3, lfT_none ht] at hl
            exact absurd hl (tag_ne_nil _ _)
      · rw [if_neg hr] at h; omega
    · rw [if_neg hc] at h; exact absurd h hc
  · rw [if_neg h0] at h; exact absurd h h0
set_option maxRecDepth 100000 in
set_option maxHeartbeats 2000000 in
theorem drawLeafBytes_any (cv : Value) (cs : List Int) (w : World) (h : Code w cv cs) (hob : cs ≠ [] → ∀ g, cv.ownBlock = some g → g < w.heap.size) :
    Calls Try.prog 41 #[cv] w fun e w' => ∃ (x : Int) (b : Bool) (y : Int), e = .returned (.tuple #[.int .i64 x, .bool b, .int .i64 y]) ∧ Below w.heap.size w w' := by
  have hsrc := h.src hob
  have hshape := h.shape
  clear h hob
  go_enter Try.func41, Try.ntmps41
  go_wp2_with fail
  refine (l1Source_any cv _ hshape).mono ?_
  rintro e w1 ⟨rfl, rfl⟩
  go_wp2_with fail
  refine (l5With_any _ 0 cv cs _ hsrc (by omega)).mono ?_
  rintro e w2 ⟨va, vc, l, x, b, y, pa, pc, p, a', rfl, H2, hg2, -, -⟩
  have hB2 : Below w.heap.size w w2 := below_src hg2
  clear H2 hg2 hsrc hshape
  generalize l.length = n at *
  generalize p.length = m at *
  go_wp2
  exact bodyPost_ret (v := .tuple #[.int .i64 x, .bool b, .int .i64 y]) (by simp [results, Try.results41, go_sem]) rfl ⟨x, b, y, rfl, hB2⟩
set_option maxRecDepth 100000 in
set_option maxHeartbeats 2000000 in
theorem drawOldClash_any (cv : Value) (cs : List Int) (w : World) (h : Code w cv cs) (hob : cs ≠ [] → ∀ g, cv.ownBlock = some g → g < w.heap.size) :
    Calls Try.prog 39 #[cv] w fun e w' => ∃ (a : Option Addr) (c : Nat) (l : Prl) (x : Int) (b : Bool) (y : Int) (pa : Option Addr) (pc : Nat) (p : List Int), e = .returned (.tuple #[.slice a l.length c, .int .i64 x, .bool b, .int .i64 y, .slice pa p.length pc]) ∧ l.length ≤ 13 ∧ p.length ≤ 8 ∧ w'.ownsRow w.heap.size 119 2 (.slice a l.length c) l.length ((fl l).map (Value.int .i64)) ∧ Ints .i64 w' (.slice pa p.length pc) p ∧ Okv (.slice pa p.length pc) ∧ Below w.heap.size w w' := by
  have hsrc := h.src hob
  have hshape := h.shape
  clear h hob
  go_enter Try.func39, Try.ntmps39
  go_wp2_with fail
  refine (l1Source_any cv _ hshape).mono ?_
  rintro e w1 ⟨rfl, rfl⟩
  go_wp2_with fail
  refine (l5With_any _ 0 cv cs _ hsrc (by omega)).mono ?_
  rintro e w2 ⟨va, vc, l, x, b, y, pa, pc, p, a', rfl, H2, hg2, ha2, hs2⟩
  rw [World.size_alloc] at H2
  clear hsrc hshape
  go_wp2_with fail
  refine (l1Chance_any w.heap.size a' cv cs 14 _ hs2 (by omega) (by omega) (by omega)).mono ?_
  rintro e w3 ⟨r, rfl, hg3, hs3⟩
  have H3 := H2.grown hg3 (by omega)
  have hG3 := grown_trans hg2 hg3
  have hz3 : w.heap.size + 1 ≤ w3.heap.size := by have := hG3.size; simpa using this
  clear hg3 hg2 H2 hs2
  cases r
  · have hB3 : Below w.heap.size w w3 := below_src hG3
    have HH : Hid (WithAt w.heap.size w3 (.slice va l.length vc) l (.slice pa p.length pc) p) := H3.mono (by omega)
    clear H3 hs3 hG3
    obtain ⟨n, hn⟩ : ∃ n, n = l.length := ⟨_, rfl⟩
    obtain ⟨m, hm⟩ : ∃ m, m = p.length := ⟨_, rfl⟩
    have HN : Hid (n = l.length ∧ m = p.length) := ⟨hn, hm⟩
    rw [← hn, ← hm]
    clear hn hm
    go_wp2
    exact bodyPost_ret (v := .tuple #[.slice va n vc, .int .i64 x, .bool b, .int .i64 y, .slice pa m pc]) (by simp [results, Try.results39, go_sem]) rfl (by
      rw [HN.out.1, HN.out.2]
      exact ⟨va, vc, l, x, b, y, pa, pc, p, rfl, by have := HH.out.six; omega, HH.out.le, HH.out.own, HH.out.path, HH.out.okv, hB3⟩)
  · have hT := l4Bent_any w.heap.size (a' + 1) cv cs w3 hs3 (by omega)
    obtain ⟨n, hn⟩ : ∃ n, n = l.length := ⟨_, rfl⟩
    obtain ⟨m, hm⟩ : ∃ m, m = p.length := ⟨_, rfl⟩
    have HN : Hid (m = p.length) := hm
    have HH : Hid (WithAt (w.heap.size + 1) w3 (.slice va l.length vc) l (.slice pa p.length pc) p) := H3
    rw [← hn, ← hm]
    clear hn hm hs3 H3
    go_wp2_with fail
    refine hT.mono ?_
    rintro e w4 ⟨v4, l4, a4, rfl, hl4, ho4, hg4, -, -⟩
    have HH4 : Hid (WithAt (w.heap.size + 1) w4 (.slice va l.length vc) l (.slice pa p.length pc) p) := HH.out.grown hg4 (by omega)
    obtain ⟨b4, c4, rfl⟩ := own_shape2 ho4
    have hB4 : Below w.heap.size w w4 := below_src (grown_trans hG3 hg4)
    have HO4 : Hid (w4.ownsRow w.heap.size 119 2 (.slice b4 l4.length c4) l4.length ((fl l4).map (Value.int .i64))) := own_mono ho4 (by omega)
    have HL4 : Hid (l4.length ≤ 13) := hl4
    clear hT hg4 ho4 HH hG3 hl4
    obtain ⟨n4, hn4⟩ : ∃ n4, n4 = l4.length := ⟨_, rfl⟩
    have HN4 : Hid (n4 = l4.length) := hn4
    rw [← hn4]
    clear hn4
    go_wp2
    exact bodyPost_ret (v := .tuple #[.slice b4 n4 c4, .int .i64 x, .bool b, .int .i64 y, .slice pa m pc]) (by simp [results, Try.results39, go_sem]) rfl (by
      rw [HN4.out, HN.out]
      exact ⟨b4, c4, l4, x, b, y, pa, pc, p, rfl, HL4.out, HH4.out.le, HO4.out, HH4.out.path, HH4.out.okv, hB4⟩)
end U
end Go.Proofs.Ytdcfoggcepkelaa
