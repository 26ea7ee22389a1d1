/- The law on code points, walked: true, and nothing that was there has turned. -/
import Derived.Test.YtjkhhcpiladidaaDoorTrip
import Derived.Test.YtjkhhcpiladidaaDoorDraw3
import Derived.Test.YtjkhhcpiladidaaDoorCnt
import Derived.Test.YtjkhhcpiladidaaDoorLwN
import Derived.Test.YtjkhhcpiladidaaDoorPairs
import Derived.Test.YtjkhhcpiladidaaDoorHeldBy
import Derived.Deep.RegionHeld3
import Derived.Deep.DeepCutAuto
namespace Go.Proofs.YtjkhhcpiladidaaDoor
open Go.RowKit
namespace U
set_option maxHeartbeats 400000 in
theorem lwBig_any (a : Option Addr) (n c : Nat) (w : World) (hn : n ≤ maxLen) :
    Calls Tryd.prog 6 #[.slice a n c] w fun e w' => e = .returned (.bool (decide (1048576 < n))) ∧ w' = w := by
  unfold maxLen at hn
  go_enter Tryd.func6, Tryd.ntmps6
  go_wp2
  go_ret
  exact ⟨ret_bool (by rw [Bool.eq_iff_iff, decide_eq_true_iff, decide_eq_true_iff]; omega), rfl⟩
theorem fld_RR0 (x y z : Int) (w : World) : (Instr.field 36 (.agg #[.int .i64 x, .int .i64 y, .int .i64 z]) 0).run Tryd.prog w = .ok (.int .i64 x) w := by kernel_rfl
theorem fld_RR1 (x y z : Int) (w : World) : (Instr.field 36 (.agg #[.int .i64 x, .int .i64 y, .int .i64 z]) 1).run Tryd.prog w = .ok (.int .i64 y) w := by kernel_rfl
theorem fld_IR0 (x y : Int) (w : World) : (Instr.field 39 (.agg #[.int .i64 x, .int .i64 y]) 0).run Tryd.prog w = .ok (.int .i64 x) w := by kernel_rfl
theorem fld_TR0 (x : Int) (s : ByteArray) (w : World) : (Instr.field 31 (.agg #[.int .i64 x, .string s]) 0).run Tryd.prog w = .ok (.int .i64 x) w := by kernel_rfl
theorem fld_TR1 (x : Int) (s : ByteArray) (w : World) : (Instr.field 31 (.agg #[.int .i64 x, .string s]) 1).run Tryd.prog w = .ok (.string s) w := by kernel_rfl
theorem fld_NR0 (x : Int) (a : Option Addr) (n c : Nat) (w : World) : (Instr.field 27 (.agg #[.int .i64 x, .slice a n c]) 0).run Tryd.prog w = .ok (.int .i64 x) w := by kernel_rfl
theorem fld_NR1 (x : Int) (a : Option Addr) (n c : Nat) (w : World) : (Instr.field 27 (.agg #[.int .i64 x, .slice a n c]) 1).run Tryd.prog w = .ok (.slice a n c) w := by kernel_rfl
theorem rP_cnt {s : ByteArray} {rc : Int} {rl : List Int} (h1 : rc = (rP s).1) (h2 : rl = (rP s).2) : (if rc = 0 then (rl.length : Int) else 0) = (rl.length : Int) := by
  by_cases h : 200 < s.size
  · rw [rP_big h] at h1 h2; subst h1 h2; rfl
  · rcases hr : runes s with _ | ys
    · rw [rP_none h hr] at h1 h2; subst h1 h2; rfl
    · rw [rP_some h hr] at h1 h2; subst h1 h2; rfl
theorem keep_call {W7 Wc w1 : World} (hb : Below Wc.heap.size Wc w1) (h : Below W7.heap.size W7 Wc) : Below W7.heap.size W7 w1 := below_after_of h hb
theorem keep_alloc {W7 Wc : World} (h : Below W7.heap.size W7 Wc) (o : Obj) : Below W7.heap.size W7 (Wc.alloc o) := h.alloc h.size o
theorem strOf_sub (s : ByteArray) (p n : Nat) (h : p + n ≤ s.size) : strOf (bts s p n) = s.extract p (p + n) := by
  apply ByteArray.ext
  apply Array.toList_inj.1
  rw [Lib.extract_data, Nat.add_sub_cancel_left]
  have hl := Lib.size_eq s
  unfold strOf bts
  apply List.ext_getElem
  · simp only [List.length_map, List.length_range, List.length_take, List.length_drop]; omega
  · intro j h1 h2
    have hj : j < n := by simpa using h1
    have hj2 : p + j < s.data.size := by show p + j < s.size; omega
    simp only [List.getElem_map, List.getElem_range, List.getElem_take, List.getElem_drop]
    rw [bt_list]
    simp only [List.getD_eq_getElem?_getD, Array.getElem?_toList, Array.getElem?_eq_getElem hj2, Option.getD_some, Int.toNat_natCast]
    simp
/-- A code point that was found: what its answer says. -/
theorem ra_zero {x : ByteArray} {a ar an : Int} (h0 : 0 = raC x a) (h1 : ar = raR x a) (h2 : an = raN x a) : ∃ p n : Nat, a = p ∧ an = n ∧ p < x.size ∧ okAt x p = true ∧ runeB ar = true ∧ p + n ≤ x.size ∧ (1 ≤ n ∧ szV ar = n) ∧ (strOf (textL [ar]) = x.extract p (p + n) ∧ textC [ar] = 0) := by
  by_cases h : 0 ≤ a ∧ a < x.size
  · obtain ⟨p, rfl⟩ : ∃ p : Nat, a = p := ⟨a.toNat, by omega⟩
    have hp : p < x.size := by omega
    rcases Bool.eq_false_or_eq_true (okAt x p) with hok | hok
    · have e := ra_in hp hok
      rw [e.2.1] at h1
      rw [e.2.2] at h2
      have hd := dec_enc hp hok
      have hs := ok_size hok
      have hw := width x p
      have hb : runeB ar = true := by rw [h1]; exact hs.1
      have ht := text_ok (xs := [ar]) (by simp) (by simp [hb])
      refine ⟨p, (Utf8.decode x p).2, rfl, h2, hp, hok, hb, hd.1, ⟨hw.1, ?_⟩, ?_, ht.1⟩
      · rw [(sz_yes hb).2, h1]; exact hs.2
      · rw [ht.2]
        simp only [List.flatMap_cons, List.flatMap_nil, List.append_nil]
        rw [h1, hd.2]
        exact strOf_sub x p _ hd.1
    · rw [(ra_no hp hok).1] at h0; omega
  · rw [(ra_out h).1] at h0; omega
theorem ra_codes {x : ByteArray} {a ac : Int} (h : ac = raC x a) (h0 : ¬ ac = 0) : ac = 3 ∨ ac = 5 := by
  unfold raC at h
  split at h
  · split at h
    · exact absurd h h0
    · exact Or.inr h
  · exact Or.inl h
theorem text_codes {xs : List Int} {tc : Int} (h : tc = textC xs) (h0 : ¬ tc = 0) : tc = 2 ∨ tc = 3 := by
  unfold textC at h
  split at h
  · exact Or.inl h
  · split at h
    · exact absurd h h0
    · exact Or.inr h
theorem rP_codes {s : ByteArray} {rc : Int} (h : rc = (rP s).1) (h0 : ¬ rc = 0) : rc = 2 ∨ rc = 5 := by
  by_cases h1 : 200 < s.size
  · rw [rP_big h1] at h; exact Or.inl h
  · rcases hr : runes s with _ | xs
    · rw [rP_none h1 hr] at h; exact Or.inr h
    · rw [rP_some h1 hr] at h; exact absurd h h0
theorem runes_at {xs : List Int} (h : xs.all runeB = true) {k : Nat} (hk : k < xs.length) : runeB (xs.getD k 0) = true := by
  rw [getD_eq hk]
  rw [List.all_eq_true] at h
  exact h _ (List.getElem_mem hk)
theorem runes_zero {s : ByteArray} {rl : List Int} (h : 0 = (rP s).1) (h2 : rl = (rP s).2) : rP s = (0, rl) ∧ (rl.flatMap encB).length = s.size ∧ rl.all runeB = true ∧ strOf (rl.flatMap encB) = s := by
  by_cases h1 : 200 < s.size
  · rw [rP_big h1] at h; exact absurd h (by decide)
  · rcases hr : runes s with _ | xs
    · rw [rP_none h1 hr] at h; exact absurd h (by decide)
    · have e := rP_some h1 hr
      rw [e] at h2
      have h3 : rl = xs := h2
      rw [h3]
      have hb := runes_back hr
      exact ⟨e, by have := strOf_size (xs.flatMap encB); rw [hb.1] at this; exact this.symm, hb.2, hb.1⟩
/-- A list that was written is read back. -/
theorem text_read {xs : List Int} (h : 0 = textC xs) : rP (strOf (textL xs)) = (0, xs) ∧ (strOf (textL xs)).size ≤ 200 := by
  by_cases h1 : 50 < xs.length
  · rw [(text_many h1).1] at h; omega
  · rcases Bool.eq_false_or_eq_true (xs.all runeB) with h2 | h2
    · have e := text_ok h1 h2
      rw [e.2]
      have hl := sofar_len xs xs.length
      rw [sofar_all] at hl
      have hs : (strOf (xs.flatMap encB)).size ≤ 200 := by rw [strOf_size]; omega
      exact ⟨rP_some (by omega) (runes_fwd h2), hs⟩
    · rw [(text_no h1 h2).1] at h; omega
set_option maxRecDepth 100000 in
set_option maxHeartbeats 4000000 in
theorem fnRunes_small (cv : Value) (cs : List Int) (w : World) (h : Code w cv cs) (hob : cs ≠ [] → ∀ g, cv.ownBlock = some g → g < w.heap.size) (hE : Ends w) (hL : Leads w) :
    Calls Tryd.prog 3 #[cv] w fun e w' => e = .returned (.bool true) ∧ Below w.heap.size w w' := by
  obtain ⟨cva, cvc, rfl⟩ := h.1.shape
  have hbig : decide (1048576 < cs.length) = false := by simp; exact h.2.1
  have hlb := fun w => lwBig_any cva cs.length cvc w (by have := h.2.1; unfold maxLen; omega)
  rw [hbig] at hlb
  obtain ⟨cl, hcl⟩ : ∃ cl, cl = cs.length := ⟨_, rfl⟩
  have HCL : Hid (cl = cs.length) := hcl
  rw [← hcl] at h hob hlb ⊢
  clear hcl hbig
  go_enter Tryd.func3, Tryd.ntmps3
  go_wp2_with fail
  refine (hlb _).mono ?_
  rintro e w0 ⟨rfl, rfl⟩
  clear hlb
  go_wp2_with fail
  refine (drawRunesOf_any _ cs _ h hob).mono ?_
  rintro e w1 ⟨s, hs, rfl, hb1⟩
  have hlr := rP_len s
  have hR := fun w => implRunesOf_any s w (by omega)
  go_wp2_with fail
  refine (hR _).mono ?_
  intro e w2 h2
  obtain ⟨a2, c2, rfl, hb2, own2⟩ := h2.use
  have i2 := own_ints own2
  have hB2 := below_after_of hb1 hb2
  clear h2 own2 hb2 hb1
  obtain ⟨rc, hrc⟩ : ∃ rc, rc = (rP s).1 := ⟨_, rfl⟩
  obtain ⟨rl, hrl⟩ : ∃ rl, rl = (rP s).2 := ⟨_, rfl⟩
  have HRC : Hid (rc = (rP s).1) := hrc
  have HRL : Hid (rl = (rP s).2) := hrl
  rw [← hrl] at hlr i2 ⊢
  rw [← hrc] at ⊢
  clear hrc hrl hR
  have P2 := Pair.new w2 (.int .i64 rc) (.slice a2 rl.length c2) 27
  have i2 := i2.below (one_new (.cells #[.int .i64 rc, .slice a2 rl.length c2] 27))
  have hB2 := below_after_of hB2 (one_new (.cells #[.int .i64 rc, .slice a2 rl.length c2] 27))
  have hz2 : w2.heap.size < (w2.alloc (.cells #[.int .i64 rc, .slice a2 rl.length c2] 27)).heap.size := by simp
  go_wp2_with fail
  refine (drawTextOf_any _ cs _ (h.below hB2) (fun hz g e => Nat.lt_of_lt_of_le (hob hz g e) hB2.size)).mono ?_
  rintro e w3 ⟨v3, xs, hxl, rfl, i3, hb3⟩
  have P3 := P2.below hb3
  have i2 := i2.below hb3
  have hB3 := below_after_of hB2 hb3
  have hz3 : w2.heap.size < w3.heap.size := Nat.lt_of_lt_of_le hz2 hb3.size
  clear P2 hb3 hB2 hz2
  obtain ⟨a3, c3, rfl⟩ := i3.shape
  go_wp2_with fail
  refine (implTextOf_any _ xs _ i3 (by omega) (hE.below hB3) (hL.below hB3)).mono ?_
  rintro e w4 ⟨rfl, hb4⟩
  obtain ⟨tc, htc⟩ : ∃ tc, tc = textC xs := ⟨_, rfl⟩
  obtain ⟨tt, htt⟩ : ∃ tt, tt = strOf (textL xs) := ⟨_, rfl⟩
  have HTC : Hid (tc = textC xs) := htc
  have HTT : Hid (tt = strOf (textL xs)) := htt
  rw [← htc, ← htt]
  clear htc htt
  have P4 := (P3.below hb4).below (one_new (.cells #[.int .i64 tc, .string tt] 31))
  have i2 := (i2.below hb4).below (one_new (.cells #[.int .i64 tc, .string tt] 31))
  have i3 := (i3.below hb4).below (one_new (.cells #[.int .i64 tc, .string tt] 31))
  have Q4 := Pair.new w4 (.int .i64 tc) (.string tt) 31
  have hB4 := below_after_of (below_after_of hB3 hb4) (one_new (.cells #[.int .i64 tc, .string tt] 31))
  have hz4 : w2.heap.size < w4.heap.size := Nat.lt_of_lt_of_le hz3 hb4.size
  clear P3 hb4 hB3 hz3
  go_wp2_with fail
  refine (drawRuneAt_any _ cs _ (h.below hB4) (fun hz g e => Nat.lt_of_lt_of_le (hob hz g e) hB4.size)).mono ?_
  rintro e w5 ⟨x, at', hx, hat1, hat2, rfl, hb5⟩
  have P5 := P4.below hb5
  have Q5 := Q4.below hb5
  have i2 := i2.below hb5
  have i3 := i3.below hb5
  have hB5 := below_after_of hB4 hb5
  have hz5 : w4.heap.size < w5.heap.size := by have := hb5.size; simp at this; omega
  clear P4 Q4 hb5 hB4
  go_wp2_with fail
  refine (implRuneAt_any x at' _ (by omega) (hE.below hB5)).mono ?_
  rintro e w6 ⟨rfl, hb6⟩
  have P6 := P5.below hb6
  have Q6 := Q5.below hb6
  have i2 := i2.below hb6
  have i3 := i3.below hb6
  have hB6 := below_after_of hB5 hb6
  have hz6 : w4.heap.size < w6.heap.size := Nat.lt_of_lt_of_le hz5 hb6.size
  clear P5 Q5 hb6 hB5 hz5
  have hSA := fun w => specRuneAt_any x at' w (by omega)
  have hCN := fun w => implCountRunes_any s (rP s).1 (rP s).2 w (rP_len s) (fun w => implRunesOf_any s w (by omega))
  rw [← HRC.out, ← HRL.out] at hCN
  obtain ⟨ac, hac⟩ : ∃ ac, ac = raC x at' := ⟨_, rfl⟩
  obtain ⟨ar, har⟩ : ∃ ar, ar = raR x at' := ⟨_, rfl⟩
  obtain ⟨an, han⟩ : ∃ an, an = raN x at' := ⟨_, rfl⟩
  have HAC : Hid (ac = raC x at') := hac
  have HAR : Hid (ar = raR x at') := har
  have HAN : Hid (an = raN x at') := han
  rw [← hac, ← har, ← han] at hSA ⊢
  clear hac har han
  go_wp2_with fail
  have c6 := three_cells (heap_alloc_new w6 (.cells #[.int .i64 ac, .int .i64 ar, .int .i64 an] 36))
  obtain ⟨W7, hW7⟩ : ∃ W7, W7 = w6.alloc (.cells #[.int .i64 ac, .int .i64 ar, .int .i64 an] 36) := ⟨_, rfl⟩
  rw [← hW7] at c6 ⊢
  have hz7 : w6.heap.size < W7.heap.size := by rw [hW7]; simp
  have hB7 : Below w0.heap.size w0 W7 := by rw [hW7]; exact below_after_of hB6 (one_new _)
  have P7 : Pair W7 w2.heap.size (.int .i64 rc) (.slice a2 rl.length c2) := by rw [hW7]; exact P6.below (one_new _)
  have Q7 : Pair W7 w4.heap.size (.int .i64 tc) (.string tt) := by rw [hW7]; exact Q6.below (one_new _)
  have i27 : Ints .i64 W7 (.slice a2 rl.length c2) rl := by rw [hW7]; exact i2.below (one_new _)
  have i37 : Ints .i64 W7 (.slice a3 xs.length c3) xs := by rw [hW7]; exact i3.below (one_new _)
  clear hW7 P6 Q6 i2 i3 hB6
  have hE7 := hE.below hB7
  have hL7 := hL.below hB7
  have hcnt : (if rc = 0 then (rl.length : Int) else 0) = (rl.length : Int) := rP_cnt HRC.out HRL.out
  rw [hcnt] at hCN
  have hnll : ∀ l : List UInt8, (l != l) = false := by simp
  have hnii : ∀ i : Int, (i != i) = false := by simp
  have hfl1 := field_IntResult_1
  have hfl2 := fld_RR0
  have hfl3 := fld_RR1
  have hfl4 := fld_IR0
  have hfl5 := fld_TR1
  clear hcnt
  dsimp only [List.append]
  go_cut [105] (fun v wx => v = .bool false ∧ Below W7.heap.size W7 wx)
  case first =>
    obtain ⟨c0, c1, c2', f0, f1, f2⟩ := c6
    obtain ⟨p0, p1, p2⟩ := P7
    by_cases h0 : ac = 0
    · subst h0
      obtain ⟨p, n, rfl, rfl, hpx, hok, har, hpn, hsv, htx⟩ := ra_zero HAC.out HAR.out HAN.out
      have hTO := fun v w hv hE hL => implTextOf_any v [ar] w hv (by simp) hE hL
      rw [htx.2, htx.1] at hTO
      have mk : Hid (∀ w', Below W7.heap.size W7 w' → Below W7.heap.size W7 w' ∧ w'.cell? ⟨w6.heap.size, 0, none⟩ = some (.int .i64 0) ∧ w'.cell? ⟨w6.heap.size, 1, none⟩ = some (.int .i64 ar) ∧ w'.cell? ⟨w6.heap.size, 2, none⟩ = some (.int .i64 n) ∧ w'.cell? ⟨w2.heap.size, 0, none⟩ = some (.int .i64 rc) ∧ w'.cell? ⟨w2.heap.size, 1, none⟩ = some (.slice a2 rl.length c2)) :=
        fun w' hb => ⟨hb, (hb.cell (p := ⟨_, _, none⟩) hz7).trans c0, (hb.cell (p := ⟨_, _, none⟩) hz7).trans c1, (hb.cell (p := ⟨_, _, none⟩) hz7).trans c2', (hb.cell (p := ⟨_, _, none⟩) p0).trans p1, (hb.cell (p := ⟨_, _, none⟩) p0).trans p2⟩
      clear HAC HAR HAN c0 c1 c2' f0 f1 f2 p1 p2 htx hok
      have hn1 : decide ((n : Int) < 1) = false := by simp; omega
      have hn2 : decide ((x.size : Int) - (p : Int) < (n : Int)) = false := by simp; omega
      have hsv2 := hsv.2
      have hwr1 : IntKind.i64.wrap ((x.size : Int) - (p : Int)) = (x.size : Int) - (p : Int) := by rw [IntKind.wrap_i64]; omega
      have hwr2 : IntKind.i64.wrap ((p : Int) + (n : Int)) = (p : Int) + (n : Int) := by rw [IntKind.wrap_i64]; omega
      have hpp : (p : Int) ≤ (p : Int) + (n : Int) := by omega
      have htn : ((p : Int) + (n : Int)).toNat = p + n := by omega
      have hpi : 0 ≤ (p : Int) := by omega
      have hpn2 : (p : Int) + (n : Int) ≤ (x.size : Int) := by omega
      have hcur : Below W7.heap.size W7 W7.drew := (Below.refl _ _).drew
      have hq0 : ∀ n' : After W7, n'.w.cell? ⟨w6.heap.size, 0, none⟩ = some (.int .i64 0) := fun n' => (mk.out _ n'.b).2.1
      have hq1 : ∀ n' : After W7, n'.w.cell? ⟨w6.heap.size, 1, none⟩ = some (.int .i64 ar) := fun n' => (mk.out _ n'.b).2.2.1
      have hq2 : ∀ n' : After W7, n'.w.cell? ⟨w6.heap.size, 2, none⟩ = some (.int .i64 n) := fun n' => (mk.out _ n'.b).2.2.2.1
      have hq3 : ∀ n' : After W7, n'.w.cell? ⟨w2.heap.size, 0, none⟩ = some (.int .i64 rc) := fun n' => (mk.out _ n'.b).2.2.2.2.1
      have hq4 : ∀ n' : After W7, n'.w.cell? ⟨w2.heap.size, 1, none⟩ = some (.slice a2 rl.length c2) := fun n' => (mk.out _ n'.b).2.2.2.2.2
      have hne := After.ne W7
      clear mk
      refine wp_region_held_drew (S := fun w' => ∃ n : After W7, w' = n.w) (by kernel_rfl) (after_mk hcur) (fun hHeld => ?_)
      refine h_take (i := 0) (d := (some 30)) (v := ?vz1) (by rfl) (by kernel_rfl) (by kernel_rfl) (by kernel_rfl) (fun _ _ _ h => h) (by rfl) ?hyz1 hHeld ?restz1
      case hyz1 =>
        intro o ho
        simp only [List.getElem?_toArray, List.getElem?_cons_zero, Option.some.injEq] at ho
        subst ho
        rintro _ ⟨nw, rfl⟩
        first | (go_simp; done) | (go_simp; with_reducible rfl)
      try simp only [Act.put, List.setIfInBounds_toArray, List.set_cons_zero, List.set_cons_succ]
      as_aux_lemma =>
       refine h_take (i := 1) (d := (some 31)) (v := ?vz2) (by rfl) (by kernel_rfl) (by kernel_rfl) (by kernel_rfl) (fun _ _ _ h => h) (by rfl) ?hyz2 hHeld ?restz2
       case hyz2 =>
         intro o ho
         simp only [List.getElem?_toArray, List.getElem?_cons_succ, List.getElem?_cons_zero, Option.some.injEq] at ho
         subst ho
         rintro _ ⟨nw, rfl⟩
         first | (go_simp; done) | (go_simp; with_reducible rfl)
       try simp only [Act.put, List.setIfInBounds_toArray, List.set_cons_zero, List.set_cons_succ]
       as_aux_lemma =>
        refine h_take (i := 2) (d := (some 32)) (v := ?vz3) (by rfl) (by kernel_rfl) (by kernel_rfl) (by kernel_rfl) (fun _ _ _ h => h) (by rfl) ?hyz3 hHeld ?restz3
        case hyz3 =>
          intro o ho
          simp only [List.getElem?_toArray, List.getElem?_cons_succ, List.getElem?_cons_zero, Option.some.injEq] at ho
          subst ho
          rintro _ ⟨nw, rfl⟩
          first | (go_simp; done) | (go_simp; with_reducible rfl)
        try simp only [Act.put, List.setIfInBounds_toArray, List.set_cons_zero, List.set_cons_succ]
        as_aux_lemma =>
         refine h_take (i := 3) (d := (some 33)) (v := ?vz4) (by rfl) (by kernel_rfl) (by kernel_rfl) (by kernel_rfl) (fun _ _ _ h => h) (by rfl) ?hyz4 hHeld ?restz4
         case hyz4 =>
           intro o ho
           simp only [List.getElem?_toArray, List.getElem?_cons_succ, List.getElem?_cons_zero, Option.some.injEq] at ho
           subst ho
           rintro _ ⟨nw, rfl⟩
           first | (go_simp; done) | (go_simp; with_reducible rfl)
         try simp only [Act.put, List.setIfInBounds_toArray, List.set_cons_zero, List.set_cons_succ]
         as_aux_lemma =>
          refine wpAnyH_ready (rs := [4]) (by kernel_rfl) (by simp) ?_
          refine AllReadyH.cons rfl (fun K hK => ?_) AllReadyH.nil
          go_simp
          refine (hSA _).mono ?_
          rintro e wq ⟨rfl, hbq⟩
          have hcur := below_after_of hcur hbq
          clear hbq
          refine hK.out _ _ ?_ (fun hHeld => ?_)
          · exact after_mk hcur
          clear hK K
          refine h_take (i := 5) (d := (some 35)) (v := ?vz5) (by rfl) (by kernel_rfl) (by kernel_rfl) (by kernel_rfl) (fun _ _ _ h => h) (by rfl) ?hyz5 hHeld ?restz5
          case hyz5 =>
            intro o ho
            simp only [List.getElem?_toArray, List.getElem?_cons_succ, List.getElem?_cons_zero, Option.some.injEq] at ho
            subst ho
            rintro _ ⟨nw, rfl⟩
            first | (go_simp; done) | (go_simp; with_reducible rfl)
          try simp only [Act.put, List.setIfInBounds_toArray, List.set_cons_zero, List.set_cons_succ]
          as_aux_lemma =>
           refine h_take (i := 6) (d := (some 36)) (v := ?vz6) (by rfl) (by kernel_rfl) (by kernel_rfl) (by kernel_rfl) (fun _ _ _ h => h) (by rfl) ?hyz6 hHeld ?restz6
           case hyz6 =>
             intro o ho
             simp only [List.getElem?_toArray, List.getElem?_cons_succ, List.getElem?_cons_zero, Option.some.injEq] at ho
             subst ho
             rintro _ ⟨nw, rfl⟩
             first | (go_simp; done) | (go_simp; with_reducible rfl)
           try simp only [Act.put, List.setIfInBounds_toArray, List.set_cons_zero, List.set_cons_succ]
           as_aux_lemma =>
            refine h_take (i := 7) (d := (some 37)) (v := ?vz7) (by rfl) (by kernel_rfl) (by kernel_rfl) (by kernel_rfl) (fun _ _ _ h => h) (by rfl) ?hyz7 hHeld ?restz7
            case hyz7 =>
              intro o ho
              simp only [List.getElem?_toArray, List.getElem?_cons_succ, List.getElem?_cons_zero, Option.some.injEq] at ho
              subst ho
              rintro _ ⟨nw, rfl⟩
              first | (go_simp; done) | (go_simp; with_reducible rfl)
            try simp only [Act.put, List.setIfInBounds_toArray, List.set_cons_zero, List.set_cons_succ]
            as_aux_lemma =>
             first | (refine h_skip (i := 8) (d := (some 38)) (by rfl) (by kernel_rfl) (by kernel_rfl) (by kernel_rfl) (fun _ _ _ h => h) (by rfl) hHeld ?_) | (refine h_take (i := 8) (d := (some 38)) (v := ?vz8) (by rfl) (by kernel_rfl) (by kernel_rfl) (by kernel_rfl) (fun _ _ _ h => h) (by rfl) ?hyz8 hHeld ?restz8; (case hyz8 => intro o ho; simp only [List.getElem?_toArray, List.getElem?_cons_succ, List.getElem?_cons_zero, Option.some.injEq] at ho; subst ho; rintro _ ⟨nw, rfl⟩; first | (go_simp; done) | (go_simp; with_reducible rfl)))
             try simp only [Act.put, List.setIfInBounds_toArray, List.set_cons_zero, List.set_cons_succ]
             as_aux_lemma =>
              first | (refine h_skip (i := 9) (d := (some 39)) (by rfl) (by kernel_rfl) (by kernel_rfl) (by kernel_rfl) (fun _ _ _ h => h) (by rfl) hHeld ?_) | (refine h_take (i := 9) (d := (some 39)) (v := ?vz9) (by rfl) (by kernel_rfl) (by kernel_rfl) (by kernel_rfl) (fun _ _ _ h => h) (by rfl) ?hyz9 hHeld ?restz9; (case hyz9 => intro o ho; simp only [List.getElem?_toArray, List.getElem?_cons_succ, List.getElem?_cons_zero, Option.some.injEq] at ho; subst ho; rintro _ ⟨nw, rfl⟩; first | (go_simp; done) | (go_simp; with_reducible rfl)))
              try simp only [Act.put, List.setIfInBounds_toArray, List.set_cons_zero, List.set_cons_succ]
              as_aux_lemma =>
               first | (refine h_skip (i := 10) (d := (some 40)) (by rfl) (by kernel_rfl) (by kernel_rfl) (by kernel_rfl) (fun _ _ _ h => h) (by rfl) hHeld ?_) | (refine h_take (i := 10) (d := (some 40)) (v := ?vz10) (by rfl) (by kernel_rfl) (by kernel_rfl) (by kernel_rfl) (fun _ _ _ h => h) (by rfl) ?hyz10 hHeld ?restz10; (case hyz10 => intro o ho; simp only [List.getElem?_toArray, List.getElem?_cons_succ, List.getElem?_cons_zero, Option.some.injEq] at ho; subst ho; rintro _ ⟨nw, rfl⟩; first | (go_simp; done) | (go_simp; with_reducible rfl)))
               try simp only [Act.put, List.setIfInBounds_toArray, List.set_cons_zero, List.set_cons_succ]
               as_aux_lemma =>
                first | (refine h_skip (i := 11) (d := (some 41)) (by rfl) (by kernel_rfl) (by kernel_rfl) (by kernel_rfl) (fun _ _ _ h => h) (by rfl) hHeld ?_) | (refine h_take (i := 11) (d := (some 41)) (v := ?vz11) (by rfl) (by kernel_rfl) (by kernel_rfl) (by kernel_rfl) (fun _ _ _ h => h) (by rfl) ?hyz11 hHeld ?restz11; (case hyz11 => intro o ho; simp only [List.getElem?_toArray, List.getElem?_cons_succ, List.getElem?_cons_zero, Option.some.injEq] at ho; subst ho; rintro _ ⟨nw, rfl⟩; first | (go_simp; done) | (go_simp; with_reducible rfl)))
                try simp only [Act.put, List.setIfInBounds_toArray, List.set_cons_zero, List.set_cons_succ]
                as_aux_lemma =>
                 refine wpAnyH_ready (rs := [12]) (by kernel_rfl) (by simp) ?_
                 refine AllReadyH.cons rfl (fun K hK => ?_) AllReadyH.nil
                 go_simp
                 refine (hSA _).mono ?_
                 rintro e wq ⟨rfl, hbq⟩
                 have hcur := below_after_of hcur hbq
                 clear hbq
                 refine hK.out _ _ ?_ (fun hHeld => ?_)
                 · exact after_mk hcur
                 clear hK K
                 first | (refine h_skip (i := 13) (d := (some 43)) (by rfl) (by kernel_rfl) (by kernel_rfl) (by kernel_rfl) (fun _ _ _ h => h) (by rfl) hHeld ?_) | (refine h_take (i := 13) (d := (some 43)) (v := ?vz12) (by rfl) (by kernel_rfl) (by kernel_rfl) (by kernel_rfl) (fun _ _ _ h => h) (by rfl) ?hyz12 hHeld ?restz12; (case hyz12 => intro o ho; simp only [List.getElem?_toArray, List.getElem?_cons_succ, List.getElem?_cons_zero, Option.some.injEq] at ho; subst ho; rintro _ ⟨nw, rfl⟩; first | (go_simp; done) | (go_simp; with_reducible rfl)))
                 try simp only [Act.put, List.setIfInBounds_toArray, List.set_cons_zero, List.set_cons_succ]
                 as_aux_lemma =>
                  first | (refine h_skip (i := 14) (d := (some 44)) (by rfl) (by kernel_rfl) (by kernel_rfl) (by kernel_rfl) (fun _ _ _ h => h) (by rfl) hHeld ?_) | (refine h_take (i := 14) (d := (some 44)) (v := ?vz13) (by rfl) (by kernel_rfl) (by kernel_rfl) (by kernel_rfl) (fun _ _ _ h => h) (by rfl) ?hyz13 hHeld ?restz13; (case hyz13 => intro o ho; simp only [List.getElem?_toArray, List.getElem?_cons_succ, List.getElem?_cons_zero, Option.some.injEq] at ho; subst ho; rintro _ ⟨nw, rfl⟩; first | (go_simp; done) | (go_simp; with_reducible rfl)))
                  try simp only [Act.put, List.setIfInBounds_toArray, List.set_cons_zero, List.set_cons_succ]
                  as_aux_lemma =>
                   refine h_take (i := 15) (d := (some 45)) (v := ?vz14) (by rfl) (by kernel_rfl) (by kernel_rfl) (by kernel_rfl) (fun _ _ _ h => h) (by rfl) ?hyz14 hHeld ?restz14
                   case hyz14 =>
                     intro o ho
                     simp only [List.getElem?_toArray, List.getElem?_cons_succ, List.getElem?_cons_zero, Option.some.injEq] at ho
                     subst ho
                     rintro _ ⟨nw, rfl⟩
                     first | (go_simp; done) | (go_simp; with_reducible rfl)
                   try simp only [Act.put, List.setIfInBounds_toArray, List.set_cons_zero, List.set_cons_succ]
                   as_aux_lemma =>
                    refine h_take (i := 16) (d := (some 46)) (v := ?vz15) (by rfl) (by kernel_rfl) (by kernel_rfl) (by kernel_rfl) (fun _ _ _ h => h) (by rfl) ?hyz15 hHeld ?restz15
                    case hyz15 =>
                      intro o ho
                      simp only [List.getElem?_toArray, List.getElem?_cons_succ, List.getElem?_cons_zero, Option.some.injEq] at ho
                      subst ho
                      rintro _ ⟨nw, rfl⟩
                      first | (go_simp; done) | (go_simp; with_reducible rfl)
                    try simp only [Act.put, List.setIfInBounds_toArray, List.set_cons_zero, List.set_cons_succ]
                    as_aux_lemma =>
                     first | (refine h_skip (i := 17) (d := (some 47)) (by rfl) (by kernel_rfl) (by kernel_rfl) (by kernel_rfl) (fun _ _ _ h => h) (by rfl) hHeld ?_) | (refine h_take (i := 17) (d := (some 47)) (v := ?vz16) (by rfl) (by kernel_rfl) (by kernel_rfl) (by kernel_rfl) (fun _ _ _ h => h) (by rfl) ?hyz16 hHeld ?restz16; (case hyz16 => intro o ho; simp only [List.getElem?_toArray, List.getElem?_cons_succ, List.getElem?_cons_zero, Option.some.injEq] at ho; subst ho; rintro _ ⟨nw, rfl⟩; first | (go_simp; done) | (go_simp; with_reducible rfl)))
                     try simp only [Act.put, List.setIfInBounds_toArray, List.set_cons_zero, List.set_cons_succ]
                     as_aux_lemma =>
                      first | (refine h_skip (i := 18) (d := (some 48)) (by rfl) (by kernel_rfl) (by kernel_rfl) (by kernel_rfl) (fun _ _ _ h => h) (by rfl) hHeld ?_) | (refine h_take (i := 18) (d := (some 48)) (v := ?vz17) (by rfl) (by kernel_rfl) (by kernel_rfl) (by kernel_rfl) (fun _ _ _ h => h) (by rfl) ?hyz17 hHeld ?restz17; (case hyz17 => intro o ho; simp only [List.getElem?_toArray, List.getElem?_cons_succ, List.getElem?_cons_zero, Option.some.injEq] at ho; subst ho; rintro _ ⟨nw, rfl⟩; first | (go_simp; done) | (go_simp; with_reducible rfl)))
                      try simp only [Act.put, List.setIfInBounds_toArray, List.set_cons_zero, List.set_cons_succ]
                      as_aux_lemma =>
                       first | (refine h_skip (i := 19) (d := (some 49)) (by rfl) (by kernel_rfl) (by kernel_rfl) (by kernel_rfl) (fun _ _ _ h => h) (by rfl) hHeld ?_) | (refine h_take (i := 19) (d := (some 49)) (v := ?vz18) (by rfl) (by kernel_rfl) (by kernel_rfl) (by kernel_rfl) (fun _ _ _ h => h) (by rfl) ?hyz18 hHeld ?restz18; (case hyz18 => intro o ho; simp only [List.getElem?_toArray, List.getElem?_cons_succ, List.getElem?_cons_zero, Option.some.injEq] at ho; subst ho; rintro _ ⟨nw, rfl⟩; first | (go_simp; done) | (go_simp; with_reducible rfl)))
                       try simp only [Act.put, List.setIfInBounds_toArray, List.set_cons_zero, List.set_cons_succ]
                       as_aux_lemma =>
                        first | (refine h_skip (i := 20) (d := (some 50)) (by rfl) (by kernel_rfl) (by kernel_rfl) (by kernel_rfl) (fun _ _ _ h => h) (by rfl) hHeld ?_) | (refine h_take (i := 20) (d := (some 50)) (v := ?vz19) (by rfl) (by kernel_rfl) (by kernel_rfl) (by kernel_rfl) (fun _ _ _ h => h) (by rfl) ?hyz19 hHeld ?restz19; (case hyz19 => intro o ho; simp only [List.getElem?_toArray, List.getElem?_cons_succ, List.getElem?_cons_zero, Option.some.injEq] at ho; subst ho; rintro _ ⟨nw, rfl⟩; first | (go_simp; done) | (go_simp; with_reducible rfl)))
                        try simp only [Act.put, List.setIfInBounds_toArray, List.set_cons_zero, List.set_cons_succ]
                        as_aux_lemma =>
                         first | (refine h_skip (i := 21) (d := (some 51)) (by rfl) (by kernel_rfl) (by kernel_rfl) (by kernel_rfl) (fun _ _ _ h => h) (by rfl) hHeld ?_) | (refine h_take (i := 21) (d := (some 51)) (v := ?vz20) (by rfl) (by kernel_rfl) (by kernel_rfl) (by kernel_rfl) (fun _ _ _ h => h) (by rfl) ?hyz20 hHeld ?restz20; (case hyz20 => intro o ho; simp only [List.getElem?_toArray, List.getElem?_cons_succ, List.getElem?_cons_zero, Option.some.injEq] at ho; subst ho; rintro _ ⟨nw, rfl⟩; first | (go_simp; done) | (go_simp; with_reducible rfl)))
                         try simp only [Act.put, List.setIfInBounds_toArray, List.set_cons_zero, List.set_cons_succ]
                         as_aux_lemma =>
                          first | (refine h_skip (i := 22) (d := (some 52)) (by rfl) (by kernel_rfl) (by kernel_rfl) (by kernel_rfl) (fun _ _ _ h => h) (by rfl) hHeld ?_) | (refine h_take (i := 22) (d := (some 52)) (v := ?vz21) (by rfl) (by kernel_rfl) (by kernel_rfl) (by kernel_rfl) (fun _ _ _ h => h) (by rfl) ?hyz21 hHeld ?restz21; (case hyz21 => intro o ho; simp only [List.getElem?_toArray, List.getElem?_cons_succ, List.getElem?_cons_zero, Option.some.injEq] at ho; subst ho; rintro _ ⟨nw, rfl⟩; first | (go_simp; done) | (go_simp; with_reducible rfl)))
                          try simp only [Act.put, List.setIfInBounds_toArray, List.set_cons_zero, List.set_cons_succ]
                          as_aux_lemma =>
                           first | (refine h_skip (i := 23) (d := (some 53)) (by rfl) (by kernel_rfl) (by kernel_rfl) (by kernel_rfl) (fun _ _ _ h => h) (by rfl) hHeld ?_) | (refine h_take (i := 23) (d := (some 53)) (v := ?vz22) (by rfl) (by kernel_rfl) (by kernel_rfl) (by kernel_rfl) (fun _ _ _ h => h) (by rfl) ?hyz22 hHeld ?restz22; (case hyz22 => intro o ho; simp only [List.getElem?_toArray, List.getElem?_cons_succ, List.getElem?_cons_zero, Option.some.injEq] at ho; subst ho; rintro _ ⟨nw, rfl⟩; first | (go_simp; done) | (go_simp; with_reducible rfl)))
                           try simp only [Act.put, List.setIfInBounds_toArray, List.set_cons_zero, List.set_cons_succ]
                           as_aux_lemma =>
                            first | (refine h_skip (i := 24) (d := (some 54)) (by rfl) (by kernel_rfl) (by kernel_rfl) (by kernel_rfl) (fun _ _ _ h => h) (by rfl) hHeld ?_) | (refine h_take (i := 24) (d := (some 54)) (v := ?vz23) (by rfl) (by kernel_rfl) (by kernel_rfl) (by kernel_rfl) (fun _ _ _ h => h) (by rfl) ?hyz23 hHeld ?restz23; (case hyz23 => intro o ho; simp only [List.getElem?_toArray, List.getElem?_cons_succ, List.getElem?_cons_zero, Option.some.injEq] at ho; subst ho; rintro _ ⟨nw, rfl⟩; first | (go_simp; done) | (go_simp; with_reducible rfl)))
                            try simp only [Act.put, List.setIfInBounds_toArray, List.set_cons_zero, List.set_cons_succ]
                            as_aux_lemma =>
                             refine wpAnyH_ready (rs := [25]) (by kernel_rfl) (by simp) ?_
                             refine AllReadyH.cons rfl (fun K hK => ?_) AllReadyH.nil
                             go_simp
                             refine (implSizeOf_any _ _ (hE7.below hcur)).mono ?_
                             rintro e wq ⟨rfl, hbq⟩
                             have hcur := below_after_of hcur hbq
                             rw [hsv2]
                             clear hbq
                             refine hK.out _ _ ?_ (fun hHeld => ?_)
                             · exact after_mk hcur
                             clear hK K
                             first | (refine h_skip (i := 26) (d := (some 56)) (by rfl) (by kernel_rfl) (by kernel_rfl) (by kernel_rfl) (fun _ _ _ h => h) (by rfl) hHeld ?_) | (refine h_take (i := 26) (d := (some 56)) (v := ?vz24) (by rfl) (by kernel_rfl) (by kernel_rfl) (by kernel_rfl) (fun _ _ _ h => h) (by rfl) ?hyz24 hHeld ?restz24; (case hyz24 => intro o ho; simp only [List.getElem?_toArray, List.getElem?_cons_succ, List.getElem?_cons_zero, Option.some.injEq] at ho; subst ho; rintro _ ⟨nw, rfl⟩; first | (go_simp; done) | (go_simp; with_reducible rfl)))
                             try simp only [Act.put, List.setIfInBounds_toArray, List.set_cons_zero, List.set_cons_succ]
                             as_aux_lemma =>
                              first | (refine h_skip (i := 27) (d := (some 57)) (by rfl) (by kernel_rfl) (by kernel_rfl) (by kernel_rfl) (fun _ _ _ h => h) (by rfl) hHeld ?_) | (refine h_take (i := 27) (d := (some 57)) (v := ?vz25) (by rfl) (by kernel_rfl) (by kernel_rfl) (by kernel_rfl) (fun _ _ _ h => h) (by rfl) ?hyz25 hHeld ?restz25; (case hyz25 => intro o ho; simp only [List.getElem?_toArray, List.getElem?_cons_succ, List.getElem?_cons_zero, Option.some.injEq] at ho; subst ho; rintro _ ⟨nw, rfl⟩; first | (go_simp; done) | (go_simp; with_reducible rfl)))
                              try simp only [Act.put, List.setIfInBounds_toArray, List.set_cons_zero, List.set_cons_succ]
                              as_aux_lemma =>
                               first | (refine h_skip (i := 28) (d := (some 58)) (by rfl) (by kernel_rfl) (by kernel_rfl) (by kernel_rfl) (fun _ _ _ h => h) (by rfl) hHeld ?_) | (refine h_take (i := 28) (d := (some 58)) (v := ?vz26) (by rfl) (by kernel_rfl) (by kernel_rfl) (by kernel_rfl) (fun _ _ _ h => h) (by rfl) ?hyz26 hHeld ?restz26; (case hyz26 => intro o ho; simp only [List.getElem?_toArray, List.getElem?_cons_succ, List.getElem?_cons_zero, Option.some.injEq] at ho; subst ho; rintro _ ⟨nw, rfl⟩; first | (go_simp; done) | (go_simp; with_reducible rfl)))
                               try simp only [Act.put, List.setIfInBounds_toArray, List.set_cons_zero, List.set_cons_succ]
                               as_aux_lemma =>
                                first | (refine h_skip (i := 29) (d := (some 59)) (by rfl) (by kernel_rfl) (by kernel_rfl) (by kernel_rfl) (fun _ _ _ h => h) (by rfl) hHeld ?_) | (refine h_take (i := 29) (d := (some 59)) (v := ?vz27) (by rfl) (by kernel_rfl) (by kernel_rfl) (by kernel_rfl) (fun _ _ _ h => h) (by rfl) ?hyz27 hHeld ?restz27; (case hyz27 => intro o ho; simp only [List.getElem?_toArray, List.getElem?_cons_succ, List.getElem?_cons_zero, Option.some.injEq] at ho; subst ho; rintro _ ⟨nw, rfl⟩; first | (go_simp; done) | (go_simp; with_reducible rfl)))
                                try simp only [Act.put, List.setIfInBounds_toArray, List.set_cons_zero, List.set_cons_succ]
                                as_aux_lemma =>
                                 first | (refine h_skip (i := 30) (d := (some 60)) (by rfl) (by kernel_rfl) (by kernel_rfl) (by kernel_rfl) (fun _ _ _ h => h) (by rfl) hHeld ?_) | (refine h_take (i := 30) (d := (some 60)) (v := ?vz28) (by rfl) (by kernel_rfl) (by kernel_rfl) (by kernel_rfl) (fun _ _ _ h => h) (by rfl) ?hyz28 hHeld ?restz28; (case hyz28 => intro o ho; simp only [List.getElem?_toArray, List.getElem?_cons_succ, List.getElem?_cons_zero, Option.some.injEq] at ho; subst ho; rintro _ ⟨nw, rfl⟩; first | (go_simp; done) | (go_simp; with_reducible rfl)))
                                 try simp only [Act.put, List.setIfInBounds_toArray, List.set_cons_zero, List.set_cons_succ]
                                 as_aux_lemma =>
                                  first | (refine h_skip (i := 31) (d := (some 61)) (by rfl) (by kernel_rfl) (by kernel_rfl) (by kernel_rfl) (fun _ _ _ h => h) (by rfl) hHeld ?_) | (refine h_take (i := 31) (d := (some 61)) (v := ?vz29) (by rfl) (by kernel_rfl) (by kernel_rfl) (by kernel_rfl) (fun _ _ _ h => h) (by rfl) ?hyz29 hHeld ?restz29; (case hyz29 => intro o ho; simp only [List.getElem?_toArray, List.getElem?_cons_succ, List.getElem?_cons_zero, Option.some.injEq] at ho; subst ho; rintro _ ⟨nw, rfl⟩; first | (go_simp; done) | (go_simp; with_reducible rfl)))
                                  try simp only [Act.put, List.setIfInBounds_toArray, List.set_cons_zero, List.set_cons_succ]
                                  as_aux_lemma =>
                                   first | (refine h_skip (i := 32) (d := (some 62)) (by rfl) (by kernel_rfl) (by kernel_rfl) (by kernel_rfl) (fun _ _ _ h => h) (by rfl) hHeld ?_) | (refine h_take (i := 32) (d := (some 62)) (v := ?vz30) (by rfl) (by kernel_rfl) (by kernel_rfl) (by kernel_rfl) (fun _ _ _ h => h) (by rfl) ?hyz30 hHeld ?restz30; (case hyz30 => intro o ho; simp only [List.getElem?_toArray, List.getElem?_cons_succ, List.getElem?_cons_zero, Option.some.injEq] at ho; subst ho; rintro _ ⟨nw, rfl⟩; first | (go_simp; done) | (go_simp; with_reducible rfl)))
                                   try simp only [Act.put, List.setIfInBounds_toArray, List.set_cons_zero, List.set_cons_succ]
                                   as_aux_lemma =>
                                    first | (refine h_skip (i := 33) (d := (some 63)) (by rfl) (by kernel_rfl) (by kernel_rfl) (by kernel_rfl) (fun _ _ _ h => h) (by rfl) hHeld ?_) | (refine h_take (i := 33) (d := (some 63)) (v := ?vz31) (by rfl) (by kernel_rfl) (by kernel_rfl) (by kernel_rfl) (fun _ _ _ h => h) (by rfl) ?hyz31 hHeld ?restz31; (case hyz31 => intro o ho; simp only [List.getElem?_toArray, List.getElem?_cons_succ, List.getElem?_cons_zero, Option.some.injEq] at ho; subst ho; rintro _ ⟨nw, rfl⟩; first | (go_simp; done) | (go_simp; with_reducible rfl)))
                                    try simp only [Act.put, List.setIfInBounds_toArray, List.set_cons_zero, List.set_cons_succ]
                                    as_aux_lemma =>
                                     first | (refine h_skip (i := 34) (d := (some 64)) (by rfl) (by kernel_rfl) (by kernel_rfl) (by kernel_rfl) (fun _ _ _ h => h) (by rfl) hHeld ?_) | (refine h_take (i := 34) (d := (some 64)) (v := ?vz32) (by rfl) (by kernel_rfl) (by kernel_rfl) (by kernel_rfl) (fun _ _ _ h => h) (by rfl) ?hyz32 hHeld ?restz32; (case hyz32 => intro o ho; simp only [List.getElem?_toArray, List.getElem?_cons_succ, List.getElem?_cons_zero, Option.some.injEq] at ho; subst ho; rintro _ ⟨nw, rfl⟩; first | (go_simp; done) | (go_simp; with_reducible rfl)))
                                     try simp only [Act.put, List.setIfInBounds_toArray, List.set_cons_zero, List.set_cons_succ]
                                     as_aux_lemma =>
                                      first | (refine h_skip (i := 35) (d := (some 65)) (by rfl) (by kernel_rfl) (by kernel_rfl) (by kernel_rfl) (fun _ _ _ h => h) (by rfl) hHeld ?_) | (refine h_take (i := 35) (d := (some 65)) (v := ?vz33) (by rfl) (by kernel_rfl) (by kernel_rfl) (by kernel_rfl) (fun _ _ _ h => h) (by rfl) ?hyz33 hHeld ?restz33; (case hyz33 => intro o ho; simp only [List.getElem?_toArray, List.getElem?_cons_succ, List.getElem?_cons_zero, Option.some.injEq] at ho; subst ho; rintro _ ⟨nw, rfl⟩; first | (go_simp; done) | (go_simp; with_reducible rfl)))
                                      try simp only [Act.put, List.setIfInBounds_toArray, List.set_cons_zero, List.set_cons_succ]
                                      as_aux_lemma =>
                                       first | (refine h_skip (i := 36) (d := (some 66)) (by rfl) (by kernel_rfl) (by kernel_rfl) (by kernel_rfl) (fun _ _ _ h => h) (by rfl) hHeld ?_) | (refine h_take (i := 36) (d := (some 66)) (v := ?vz34) (by rfl) (by kernel_rfl) (by kernel_rfl) (by kernel_rfl) (fun _ _ _ h => h) (by rfl) ?hyz34 hHeld ?restz34; (case hyz34 => intro o ho; simp only [List.getElem?_toArray, List.getElem?_cons_succ, List.getElem?_cons_zero, Option.some.injEq] at ho; subst ho; rintro _ ⟨nw, rfl⟩; first | (go_simp; done) | (go_simp; with_reducible rfl)))
                                       try simp only [Act.put, List.setIfInBounds_toArray, List.set_cons_zero, List.set_cons_succ]
                                       as_aux_lemma =>
                                        first | (refine h_skip (i := 37) (d := (some 67)) (by rfl) (by kernel_rfl) (by kernel_rfl) (by kernel_rfl) (fun _ _ _ h => h) (by rfl) hHeld ?_) | (refine h_take (i := 37) (d := (some 67)) (v := ?vz35) (by rfl) (by kernel_rfl) (by kernel_rfl) (by kernel_rfl) (fun _ _ _ h => h) (by rfl) ?hyz35 hHeld ?restz35; (case hyz35 => intro o ho; simp only [List.getElem?_toArray, List.getElem?_cons_succ, List.getElem?_cons_zero, Option.some.injEq] at ho; subst ho; rintro _ ⟨nw, rfl⟩; first | (go_simp; done) | (go_simp; with_reducible rfl)))
                                        try simp only [Act.put, List.setIfInBounds_toArray, List.set_cons_zero, List.set_cons_succ]
                                        as_aux_lemma =>
                                         first | (refine h_skip (i := 38) (d := (some 68)) (by rfl) (by kernel_rfl) (by kernel_rfl) (by kernel_rfl) (fun _ _ _ h => h) (by rfl) hHeld ?_) | (refine h_take (i := 38) (d := (some 68)) (v := ?vz36) (by rfl) (by kernel_rfl) (by kernel_rfl) (by kernel_rfl) (fun _ _ _ h => h) (by rfl) ?hyz36 hHeld ?restz36; (case hyz36 => intro o ho; simp only [List.getElem?_toArray, List.getElem?_cons_succ, List.getElem?_cons_zero, Option.some.injEq] at ho; subst ho; rintro _ ⟨nw, rfl⟩; first | (go_simp; done) | (go_simp; with_reducible rfl)))
                                         try simp only [Act.put, List.setIfInBounds_toArray, List.set_cons_zero, List.set_cons_succ]
                                         as_aux_lemma =>
                                          first | (refine h_skip (i := 39) (d := (some 69)) (by rfl) (by kernel_rfl) (by kernel_rfl) (by kernel_rfl) (fun _ _ _ h => h) (by rfl) hHeld ?_) | (refine h_take (i := 39) (d := (some 69)) (v := ?vz37) (by rfl) (by kernel_rfl) (by kernel_rfl) (by kernel_rfl) (fun _ _ _ h => h) (by rfl) ?hyz37 hHeld ?restz37; (case hyz37 => intro o ho; simp only [List.getElem?_toArray, List.getElem?_cons_succ, List.getElem?_cons_zero, Option.some.injEq] at ho; subst ho; rintro _ ⟨nw, rfl⟩; first | (go_simp; done) | (go_simp; with_reducible rfl)))
                                          try simp only [Act.put, List.setIfInBounds_toArray, List.set_cons_zero, List.set_cons_succ]
                                          as_aux_lemma =>
                                           first | (refine h_skip (i := 40) (d := (some 70)) (by rfl) (by kernel_rfl) (by kernel_rfl) (by kernel_rfl) (fun _ _ _ h => h) (by rfl) hHeld ?_) | (refine h_take (i := 40) (d := (some 70)) (v := ?vz38) (by rfl) (by kernel_rfl) (by kernel_rfl) (by kernel_rfl) (fun _ _ _ h => h) (by rfl) ?hyz38 hHeld ?restz38; (case hyz38 => intro o ho; simp only [List.getElem?_toArray, List.getElem?_cons_succ, List.getElem?_cons_zero, Option.some.injEq] at ho; subst ho; rintro _ ⟨nw, rfl⟩; first | (go_simp; done) | (go_simp; with_reducible rfl)))
                                           try simp only [Act.put, List.setIfInBounds_toArray, List.set_cons_zero, List.set_cons_succ]
                                           as_aux_lemma =>
                                            first | (refine h_skip (i := 41) (d := (some 71)) (by rfl) (by kernel_rfl) (by kernel_rfl) (by kernel_rfl) (fun _ _ _ h => h) (by rfl) hHeld ?_) | (refine h_take (i := 41) (d := (some 71)) (v := ?vz39) (by rfl) (by kernel_rfl) (by kernel_rfl) (by kernel_rfl) (fun _ _ _ h => h) (by rfl) ?hyz39 hHeld ?restz39; (case hyz39 => intro o ho; simp only [List.getElem?_toArray, List.getElem?_cons_succ, List.getElem?_cons_zero, Option.some.injEq] at ho; subst ho; rintro _ ⟨nw, rfl⟩; first | (go_simp; done) | (go_simp; with_reducible rfl)))
                                            try simp only [Act.put, List.setIfInBounds_toArray, List.set_cons_zero, List.set_cons_succ]
                                            as_aux_lemma =>
                                             first | (refine h_skip (i := 42) (d := (some 72)) (by rfl) (by kernel_rfl) (by kernel_rfl) (by kernel_rfl) (fun _ _ _ h => h) (by rfl) hHeld ?_) | (refine h_take (i := 42) (d := (some 72)) (v := ?vz40) (by rfl) (by kernel_rfl) (by kernel_rfl) (by kernel_rfl) (fun _ _ _ h => h) (by rfl) ?hyz40 hHeld ?restz40; (case hyz40 => intro o ho; simp only [List.getElem?_toArray, List.getElem?_cons_succ, List.getElem?_cons_zero, Option.some.injEq] at ho; subst ho; rintro _ ⟨nw, rfl⟩; first | (go_simp; done) | (go_simp; with_reducible rfl)))
                                             try simp only [Act.put, List.setIfInBounds_toArray, List.set_cons_zero, List.set_cons_succ]
                                             as_aux_lemma =>
                                              first | (refine h_skip (i := 43) (d := (some 73)) (by rfl) (by kernel_rfl) (by kernel_rfl) (by kernel_rfl) (fun _ _ _ h => h) (by rfl) hHeld ?_) | (refine h_take (i := 43) (d := (some 73)) (v := ?vz41) (by rfl) (by kernel_rfl) (by kernel_rfl) (by kernel_rfl) (fun _ _ _ h => h) (by rfl) ?hyz41 hHeld ?restz41; (case hyz41 => intro o ho; simp only [List.getElem?_toArray, List.getElem?_cons_succ, List.getElem?_cons_zero, Option.some.injEq] at ho; subst ho; rintro _ ⟨nw, rfl⟩; first | (go_simp; done) | (go_simp; with_reducible rfl)))
                                              try simp only [Act.put, List.setIfInBounds_toArray, List.set_cons_zero, List.set_cons_succ]
                                              as_aux_lemma =>
                                               first | (refine h_skip (i := 44) (d := (some 74)) (by rfl) (by kernel_rfl) (by kernel_rfl) (by kernel_rfl) (fun _ _ _ h => h) (by rfl) hHeld ?_) | (refine h_take (i := 44) (d := (some 74)) (v := ?vz42) (by rfl) (by kernel_rfl) (by kernel_rfl) (by kernel_rfl) (fun _ _ _ h => h) (by rfl) ?hyz42 hHeld ?restz42; (case hyz42 => intro o ho; simp only [List.getElem?_toArray, List.getElem?_cons_succ, List.getElem?_cons_zero, Option.some.injEq] at ho; subst ho; rintro _ ⟨nw, rfl⟩; first | (go_simp; done) | (go_simp; with_reducible rfl)))
                                               try simp only [Act.put, List.setIfInBounds_toArray, List.set_cons_zero, List.set_cons_succ]
                                               as_aux_lemma =>
                                                first | (refine h_skip (i := 48) (d := (some 78)) (by rfl) (by kernel_rfl) (by kernel_rfl) (by kernel_rfl) (fun _ _ _ h => h) (by rfl) hHeld ?_) | (refine h_take (i := 48) (d := (some 78)) (v := ?vz43) (by rfl) (by kernel_rfl) (by kernel_rfl) (by kernel_rfl) (fun _ _ _ h => h) (by rfl) ?hyz43 hHeld ?restz43; (case hyz43 => intro o ho; simp only [List.getElem?_toArray, List.getElem?_cons_succ, List.getElem?_cons_zero, Option.some.injEq] at ho; subst ho; rintro _ ⟨nw, rfl⟩; first | (go_simp; done) | (go_simp; with_reducible rfl)))
                                                try simp only [Act.put, List.setIfInBounds_toArray, List.set_cons_zero, List.set_cons_succ]
                                                as_aux_lemma =>
                                                 first | (refine h_skip (i := 49) (d := (some 79)) (by rfl) (by kernel_rfl) (by kernel_rfl) (by kernel_rfl) (fun _ _ _ h => h) (by rfl) hHeld ?_) | (refine h_take (i := 49) (d := (some 79)) (v := ?vz44) (by rfl) (by kernel_rfl) (by kernel_rfl) (by kernel_rfl) (fun _ _ _ h => h) (by rfl) ?hyz44 hHeld ?restz44; (case hyz44 => intro o ho; simp only [List.getElem?_toArray, List.getElem?_cons_succ, List.getElem?_cons_zero, Option.some.injEq] at ho; subst ho; rintro _ ⟨nw, rfl⟩; first | (go_simp; done) | (go_simp; with_reducible rfl)))
                                                 try simp only [Act.put, List.setIfInBounds_toArray, List.set_cons_zero, List.set_cons_succ]
                                                 as_aux_lemma =>
                                                  first | (refine h_skip (i := 50) (d := (some 80)) (by rfl) (by kernel_rfl) (by kernel_rfl) (by kernel_rfl) (fun _ _ _ h => h) (by rfl) hHeld ?_) | (refine h_take (i := 50) (d := (some 80)) (v := ?vz45) (by rfl) (by kernel_rfl) (by kernel_rfl) (by kernel_rfl) (fun _ _ _ h => h) (by rfl) ?hyz45 hHeld ?restz45; (case hyz45 => intro o ho; simp only [List.getElem?_toArray, List.getElem?_cons_succ, List.getElem?_cons_zero, Option.some.injEq] at ho; subst ho; rintro _ ⟨nw, rfl⟩; first | (go_simp; done) | (go_simp; with_reducible rfl)))
                                                  try simp only [Act.put, List.setIfInBounds_toArray, List.set_cons_zero, List.set_cons_succ]
                                                  as_aux_lemma =>
                                                   first | (refine h_skip (i := 51) (d := (some 81)) (by rfl) (by kernel_rfl) (by kernel_rfl) (by kernel_rfl) (fun _ _ _ h => h) (by rfl) hHeld ?_) | (refine h_take (i := 51) (d := (some 81)) (v := ?vz46) (by rfl) (by kernel_rfl) (by kernel_rfl) (by kernel_rfl) (fun _ _ _ h => h) (by rfl) ?hyz46 hHeld ?restz46; (case hyz46 => intro o ho; simp only [List.getElem?_toArray, List.getElem?_cons_succ, List.getElem?_cons_zero, Option.some.injEq] at ho; subst ho; rintro _ ⟨nw, rfl⟩; first | (go_simp; done) | (go_simp; with_reducible rfl)))
                                                   try simp only [Act.put, List.setIfInBounds_toArray, List.set_cons_zero, List.set_cons_succ]
                                                   as_aux_lemma =>
                                                    first | (refine h_skip (i := 52) (d := (some 82)) (by rfl) (by kernel_rfl) (by kernel_rfl) (by kernel_rfl) (fun _ _ _ h => h) (by rfl) hHeld ?_) | (refine h_take (i := 52) (d := (some 82)) (v := ?vz47) (by rfl) (by kernel_rfl) (by kernel_rfl) (by kernel_rfl) (fun _ _ _ h => h) (by rfl) ?hyz47 hHeld ?restz47; (case hyz47 => intro o ho; simp only [List.getElem?_toArray, List.getElem?_cons_succ, List.getElem?_cons_zero, Option.some.injEq] at ho; subst ho; rintro _ ⟨nw, rfl⟩; first | (go_simp; done) | (go_simp; with_reducible rfl)))
                                                    try simp only [Act.put, List.setIfInBounds_toArray, List.set_cons_zero, List.set_cons_succ]
                                                    as_aux_lemma =>
                                                     first | (refine h_skip (i := 53) (d := (some 83)) (by rfl) (by kernel_rfl) (by kernel_rfl) (by kernel_rfl) (fun _ _ _ h => h) (by rfl) hHeld ?_) | (refine h_take (i := 53) (d := (some 83)) (v := ?vz48) (by rfl) (by kernel_rfl) (by kernel_rfl) (by kernel_rfl) (fun _ _ _ h => h) (by rfl) ?hyz48 hHeld ?restz48; (case hyz48 => intro o ho; simp only [List.getElem?_toArray, List.getElem?_cons_succ, List.getElem?_cons_zero, Option.some.injEq] at ho; subst ho; rintro _ ⟨nw, rfl⟩; first | (go_simp; done) | (go_simp; with_reducible rfl)))
                                                     try simp only [Act.put, List.setIfInBounds_toArray, List.set_cons_zero, List.set_cons_succ]
                                                     as_aux_lemma =>
                                                      first | (refine h_skip (i := 54) (d := (some 84)) (by rfl) (by kernel_rfl) (by kernel_rfl) (by kernel_rfl) (fun _ _ _ h => h) (by rfl) hHeld ?_) | (refine h_take (i := 54) (d := (some 84)) (v := ?vz49) (by rfl) (by kernel_rfl) (by kernel_rfl) (by kernel_rfl) (fun _ _ _ h => h) (by rfl) ?hyz49 hHeld ?restz49; (case hyz49 => intro o ho; simp only [List.getElem?_toArray, List.getElem?_cons_succ, List.getElem?_cons_zero, Option.some.injEq] at ho; subst ho; rintro _ ⟨nw, rfl⟩; first | (go_simp; done) | (go_simp; with_reducible rfl)))
                                                      try simp only [Act.put, List.setIfInBounds_toArray, List.set_cons_zero, List.set_cons_succ]
                                                      as_aux_lemma =>
                                                       refine wpAnyH_ready (rs := [45]) (by kernel_rfl) (by simp) ?_
                                                       refine AllReadyH.cons rfl (fun K hK => ?_) AllReadyH.nil
                                                       go_simp
                                                       have hlit := lit_ints (w := wq) .i64 [ar] 2 1
                                                       have hcur := below_after_of hcur (one_new (w := wq) (.cells #[.int .i64 ar] 2))
                                                       refine hK.out _ _ ?_ (fun hHeld => ?_)
                                                       · exact after_mk hcur
                                                       clear hK K
                                                       refine wpAnyH_ready (rs := [46]) (by kernel_rfl) (by simp) ?_
                                                       refine AllReadyH.cons rfl (fun K hK => ?_) AllReadyH.nil
                                                       go_simp
                                                       refine (hTO _ _ hlit (hE7.below hcur) (hL7.below hcur)).mono ?_
                                                       rintro e wt ⟨rfl, hbq⟩
                                                       have hcur := below_after_of hcur hbq
                                                       clear hbq hlit
                                                       refine hK.out _ _ ?_ (fun hHeld => ?_)
                                                       · exact after_mk hcur
                                                       clear hK K
                                                       first | (refine h_skip (i := 47) (d := (some 77)) (by rfl) (by kernel_rfl) (by kernel_rfl) (by kernel_rfl) (fun _ _ _ h => h) (by rfl) hHeld ?_) | (refine h_take (i := 47) (d := (some 77)) (v := ?vz50) (by rfl) (by kernel_rfl) (by kernel_rfl) (by kernel_rfl) (fun _ _ _ h => h) (by rfl) ?hyz50 hHeld ?restz50; (case hyz50 => intro o ho; simp only [List.getElem?_toArray, List.getElem?_cons_succ, List.getElem?_cons_zero, Option.some.injEq] at ho; subst ho; rintro _ ⟨nw, rfl⟩; first | (go_simp; done) | (go_simp; with_reducible rfl)))
                                                       try simp only [Act.put, List.setIfInBounds_toArray, List.set_cons_zero, List.set_cons_succ]
                                                       as_aux_lemma =>
                                                        first | (refine h_skip (i := 55) (d := (some 85)) (by rfl) (by kernel_rfl) (by kernel_rfl) (by kernel_rfl) (fun _ _ _ h => h) (by rfl) hHeld ?_) | (refine h_take (i := 55) (d := (some 85)) (v := ?vz51) (by rfl) (by kernel_rfl) (by kernel_rfl) (by kernel_rfl) (fun _ _ _ h => h) (by rfl) ?hyz51 hHeld ?restz51; (case hyz51 => intro o ho; simp only [List.getElem?_toArray, List.getElem?_cons_succ, List.getElem?_cons_zero, Option.some.injEq] at ho; subst ho; rintro _ ⟨nw, rfl⟩; first | (go_simp; done) | (go_simp; with_reducible rfl)))
                                                        try simp only [Act.put, List.setIfInBounds_toArray, List.set_cons_zero, List.set_cons_succ]
                                                        as_aux_lemma =>
                                                         first | (refine h_skip (i := 56) (d := (some 86)) (by rfl) (by kernel_rfl) (by kernel_rfl) (by kernel_rfl) (fun _ _ _ h => h) (by rfl) hHeld ?_) | (refine h_take (i := 56) (d := (some 86)) (v := ?vz52) (by rfl) (by kernel_rfl) (by kernel_rfl) (by kernel_rfl) (fun _ _ _ h => h) (by rfl) ?hyz52 hHeld ?restz52; (case hyz52 => intro o ho; simp only [List.getElem?_toArray, List.getElem?_cons_succ, List.getElem?_cons_zero, Option.some.injEq] at ho; subst ho; rintro _ ⟨nw, rfl⟩; first | (go_simp; done) | (go_simp; with_reducible rfl)))
                                                         try simp only [Act.put, List.setIfInBounds_toArray, List.set_cons_zero, List.set_cons_succ]
                                                         as_aux_lemma =>
                                                          first | (refine h_skip (i := 57) (d := (some 87)) (by rfl) (by kernel_rfl) (by kernel_rfl) (by kernel_rfl) (fun _ _ _ h => h) (by rfl) hHeld ?_) | (refine h_take (i := 57) (d := (some 87)) (v := ?vz53) (by rfl) (by kernel_rfl) (by kernel_rfl) (by kernel_rfl) (fun _ _ _ h => h) (by rfl) ?hyz53 hHeld ?restz53; (case hyz53 => intro o ho; simp only [List.getElem?_toArray, List.getElem?_cons_succ, List.getElem?_cons_zero, Option.some.injEq] at ho; subst ho; rintro _ ⟨nw, rfl⟩; first | (go_simp; done) | (go_simp; with_reducible rfl)))
                                                          try simp only [Act.put, List.setIfInBounds_toArray, List.set_cons_zero, List.set_cons_succ]
                                                          as_aux_lemma =>
                                                           refine h_take (i := 58) (d := (some 88)) (v := ?vz54) (by rfl) (by kernel_rfl) (by kernel_rfl) (by kernel_rfl) (fun _ _ _ h => h) (by rfl) ?hyz54 hHeld ?restz54
                                                           case hyz54 =>
                                                             intro o ho
                                                             simp only [List.getElem?_toArray, List.getElem?_cons_succ, List.getElem?_cons_zero, Option.some.injEq] at ho
                                                             subst ho
                                                             rintro _ ⟨nw, rfl⟩
                                                             first | (go_simp; done) | (go_simp; with_reducible rfl)
                                                           try simp only [Act.put, List.setIfInBounds_toArray, List.set_cons_zero, List.set_cons_succ]
                                                           as_aux_lemma =>
                                                            refine h_take (i := 59) (d := (some 89)) (v := ?vz55) (by rfl) (by kernel_rfl) (by kernel_rfl) (by kernel_rfl) (fun _ _ _ h => h) (by rfl) ?hyz55 hHeld ?restz55
                                                            case hyz55 =>
                                                              intro o ho
                                                              simp only [List.getElem?_toArray, List.getElem?_cons_succ, List.getElem?_cons_zero, Option.some.injEq] at ho
                                                              subst ho
                                                              rintro _ ⟨nw, rfl⟩
                                                              first | (go_simp; done) | (go_simp; with_reducible rfl)
                                                            try simp only [Act.put, List.setIfInBounds_toArray, List.set_cons_zero, List.set_cons_succ]
                                                            as_aux_lemma =>
                                                             first | (refine h_skip (i := 60) (d := (some 90)) (by rfl) (by kernel_rfl) (by kernel_rfl) (by kernel_rfl) (fun _ _ _ h => h) (by rfl) hHeld ?_) | (refine h_take (i := 60) (d := (some 90)) (v := ?vz56) (by rfl) (by kernel_rfl) (by kernel_rfl) (by kernel_rfl) (fun _ _ _ h => h) (by rfl) ?hyz56 hHeld ?restz56; (case hyz56 => intro o ho; simp only [List.getElem?_toArray, List.getElem?_cons_succ, List.getElem?_cons_zero, Option.some.injEq] at ho; subst ho; rintro _ ⟨nw, rfl⟩; first | (go_simp; done) | (go_simp; with_reducible rfl)))
                                                             try simp only [Act.put, List.setIfInBounds_toArray, List.set_cons_zero, List.set_cons_succ]
                                                             as_aux_lemma =>
                                                              first | (refine h_skip (i := 63) (d := (some 93)) (by rfl) (by kernel_rfl) (by kernel_rfl) (by kernel_rfl) (fun _ _ _ h => h) (by rfl) hHeld ?_) | (refine h_take (i := 63) (d := (some 93)) (v := ?vz57) (by rfl) (by kernel_rfl) (by kernel_rfl) (by kernel_rfl) (fun _ _ _ h => h) (by rfl) ?hyz57 hHeld ?restz57; (case hyz57 => intro o ho; simp only [List.getElem?_toArray, List.getElem?_cons_succ, List.getElem?_cons_zero, Option.some.injEq] at ho; subst ho; rintro _ ⟨nw, rfl⟩; first | (go_simp; done) | (go_simp; with_reducible rfl)))
                                                              try simp only [Act.put, List.setIfInBounds_toArray, List.set_cons_zero, List.set_cons_succ]
                                                              as_aux_lemma =>
                                                               first | (refine h_skip (i := 64) (d := (some 94)) (by rfl) (by kernel_rfl) (by kernel_rfl) (by kernel_rfl) (fun _ _ _ h => h) (by rfl) hHeld ?_) | (refine h_take (i := 64) (d := (some 94)) (v := ?vz58) (by rfl) (by kernel_rfl) (by kernel_rfl) (by kernel_rfl) (fun _ _ _ h => h) (by rfl) ?hyz58 hHeld ?restz58; (case hyz58 => intro o ho; simp only [List.getElem?_toArray, List.getElem?_cons_succ, List.getElem?_cons_zero, Option.some.injEq] at ho; subst ho; rintro _ ⟨nw, rfl⟩; first | (go_simp; done) | (go_simp; with_reducible rfl)))
                                                               try simp only [Act.put, List.setIfInBounds_toArray, List.set_cons_zero, List.set_cons_succ]
                                                               as_aux_lemma =>
                                                                refine wpAnyH_ready (rs := [61]) (by kernel_rfl) (by simp) ?_
                                                                refine AllReadyH.cons rfl (fun K hK => ?_) AllReadyH.nil
                                                                go_simp
                                                                refine (hCN _).mono ?_
                                                                rintro e wq ⟨rfl, hbq⟩
                                                                have hcur := below_after_of hcur hbq
                                                                clear hbq
                                                                refine hK.out _ _ ?_ (fun hHeld => ?_)
                                                                · exact after_mk hcur
                                                                clear hK K
                                                                first | (refine h_skip (i := 62) (d := (some 92)) (by rfl) (by kernel_rfl) (by kernel_rfl) (by kernel_rfl) (fun _ _ _ h => h) (by rfl) hHeld ?_) | (refine h_take (i := 62) (d := (some 92)) (v := ?vz59) (by rfl) (by kernel_rfl) (by kernel_rfl) (by kernel_rfl) (fun _ _ _ h => h) (by rfl) ?hyz59 hHeld ?restz59; (case hyz59 => intro o ho; simp only [List.getElem?_toArray, List.getElem?_cons_succ, List.getElem?_cons_zero, Option.some.injEq] at ho; subst ho; rintro _ ⟨nw, rfl⟩; first | (go_simp; done) | (go_simp; with_reducible rfl)))
                                                                try simp only [Act.put, List.setIfInBounds_toArray, List.set_cons_zero, List.set_cons_succ]
                                                                as_aux_lemma =>
                                                                 first | (refine h_skip (i := 65) (d := (some 95)) (by rfl) (by kernel_rfl) (by kernel_rfl) (by kernel_rfl) (fun _ _ _ h => h) (by rfl) hHeld ?_) | (refine h_take (i := 65) (d := (some 95)) (v := ?vz60) (by rfl) (by kernel_rfl) (by kernel_rfl) (by kernel_rfl) (fun _ _ _ h => h) (by rfl) ?hyz60 hHeld ?restz60; (case hyz60 => intro o ho; simp only [List.getElem?_toArray, List.getElem?_cons_succ, List.getElem?_cons_zero, Option.some.injEq] at ho; subst ho; rintro _ ⟨nw, rfl⟩; first | (go_simp; done) | (go_simp; with_reducible rfl)))
                                                                 try simp only [Act.put, List.setIfInBounds_toArray, List.set_cons_zero, List.set_cons_succ]
                                                                 as_aux_lemma =>
                                                                  refine h_take (i := 66) (d := (some 96)) (v := ?vz61) (by rfl) (by kernel_rfl) (by kernel_rfl) (by kernel_rfl) (fun _ _ _ h => h) (by rfl) ?hyz61 hHeld ?restz61
                                                                  case hyz61 =>
                                                                    intro o ho
                                                                    simp only [List.getElem?_toArray, List.getElem?_cons_succ, List.getElem?_cons_zero, Option.some.injEq] at ho
                                                                    subst ho
                                                                    rintro _ ⟨nw, rfl⟩
                                                                    first | (go_simp; done) | (go_simp; with_reducible rfl)
                                                                  try simp only [Act.put, List.setIfInBounds_toArray, List.set_cons_zero, List.set_cons_succ]
                                                                  as_aux_lemma =>
                                                                   refine h_take (i := 67) (d := (some 97)) (v := ?vz62) (by rfl) (by kernel_rfl) (by kernel_rfl) (by kernel_rfl) (fun _ _ _ h => h) (by rfl) ?hyz62 hHeld ?restz62
                                                                   case hyz62 =>
                                                                     intro o ho
                                                                     simp only [List.getElem?_toArray, List.getElem?_cons_succ, List.getElem?_cons_zero, Option.some.injEq] at ho
                                                                     subst ho
                                                                     rintro _ ⟨nw, rfl⟩
                                                                     first | (go_simp; done) | (go_simp; with_reducible rfl)
                                                                   try simp only [Act.put, List.setIfInBounds_toArray, List.set_cons_zero, List.set_cons_succ]
                                                                   as_aux_lemma =>
                                                                    first | (refine h_skip (i := 68) (d := (some 98)) (by rfl) (by kernel_rfl) (by kernel_rfl) (by kernel_rfl) (fun _ _ _ h => h) (by rfl) hHeld ?_) | (refine h_take (i := 68) (d := (some 98)) (v := ?vz63) (by rfl) (by kernel_rfl) (by kernel_rfl) (by kernel_rfl) (fun _ _ _ h => h) (by rfl) ?hyz63 hHeld ?restz63; (case hyz63 => intro o ho; simp only [List.getElem?_toArray, List.getElem?_cons_succ, List.getElem?_cons_zero, Option.some.injEq] at ho; subst ho; rintro _ ⟨nw, rfl⟩; first | (go_simp; done) | (go_simp; with_reducible rfl)))
                                                                    try simp only [Act.put, List.setIfInBounds_toArray, List.set_cons_zero, List.set_cons_succ]
                                                                    as_aux_lemma =>
                                                                     first | (refine h_skip (i := 71) (d := (some 101)) (by rfl) (by kernel_rfl) (by kernel_rfl) (by kernel_rfl) (fun _ _ _ h => h) (by rfl) hHeld ?_) | (refine h_take (i := 71) (d := (some 101)) (v := ?vz64) (by rfl) (by kernel_rfl) (by kernel_rfl) (by kernel_rfl) (fun _ _ _ h => h) (by rfl) ?hyz64 hHeld ?restz64; (case hyz64 => intro o ho; simp only [List.getElem?_toArray, List.getElem?_cons_succ, List.getElem?_cons_zero, Option.some.injEq] at ho; subst ho; rintro _ ⟨nw, rfl⟩; first | (go_simp; done) | (go_simp; with_reducible rfl)))
                                                                     try simp only [Act.put, List.setIfInBounds_toArray, List.set_cons_zero, List.set_cons_succ]
                                                                     as_aux_lemma =>
                                                                      first | (refine h_skip (i := 72) (d := (some 102)) (by rfl) (by kernel_rfl) (by kernel_rfl) (by kernel_rfl) (fun _ _ _ h => h) (by rfl) hHeld ?_) | (refine h_take (i := 72) (d := (some 102)) (v := ?vz65) (by rfl) (by kernel_rfl) (by kernel_rfl) (by kernel_rfl) (fun _ _ _ h => h) (by rfl) ?hyz65 hHeld ?restz65; (case hyz65 => intro o ho; simp only [List.getElem?_toArray, List.getElem?_cons_succ, List.getElem?_cons_zero, Option.some.injEq] at ho; subst ho; rintro _ ⟨nw, rfl⟩; first | (go_simp; done) | (go_simp; with_reducible rfl)))
                                                                      try simp only [Act.put, List.setIfInBounds_toArray, List.set_cons_zero, List.set_cons_succ]
                                                                      as_aux_lemma =>
                                                                       first | (refine h_skip (i := 73) (d := (some 103)) (by rfl) (by kernel_rfl) (by kernel_rfl) (by kernel_rfl) (fun _ _ _ h => h) (by rfl) hHeld ?_) | (refine h_take (i := 73) (d := (some 103)) (v := ?vz66) (by rfl) (by kernel_rfl) (by kernel_rfl) (by kernel_rfl) (fun _ _ _ h => h) (by rfl) ?hyz66 hHeld ?restz66; (case hyz66 => intro o ho; simp only [List.getElem?_toArray, List.getElem?_cons_succ, List.getElem?_cons_zero, Option.some.injEq] at ho; subst ho; rintro _ ⟨nw, rfl⟩; first | (go_simp; done) | (go_simp; with_reducible rfl)))
                                                                       try simp only [Act.put, List.setIfInBounds_toArray, List.set_cons_zero, List.set_cons_succ]
                                                                       as_aux_lemma =>
                                                                        refine wpAnyH_ready (rs := [69]) (by kernel_rfl) (by simp) ?_
                                                                        refine AllReadyH.cons rfl (fun K hK => ?_) AllReadyH.nil
                                                                        go_simp
                                                                        refine (hCN _).mono ?_
                                                                        rintro e wq ⟨rfl, hbq⟩
                                                                        have hcur := below_after_of hcur hbq
                                                                        clear hbq
                                                                        refine hK.out _ _ ?_ (fun hHeld => ?_)
                                                                        · exact after_mk hcur
                                                                        clear hK K
                                                                        first | (refine h_skip (i := 70) (d := (some 100)) (by rfl) (by kernel_rfl) (by kernel_rfl) (by kernel_rfl) (fun _ _ _ h => h) (by rfl) hHeld ?_) | (refine h_take (i := 70) (d := (some 100)) (v := ?vz67) (by rfl) (by kernel_rfl) (by kernel_rfl) (by kernel_rfl) (fun _ _ _ h => h) (by rfl) ?hyz67 hHeld ?restz67; (case hyz67 => intro o ho; simp only [List.getElem?_toArray, List.getElem?_cons_succ, List.getElem?_cons_zero, Option.some.injEq] at ho; subst ho; rintro _ ⟨nw, rfl⟩; first | (go_simp; done) | (go_simp; with_reducible rfl)))
                                                                        try simp only [Act.put, List.setIfInBounds_toArray, List.set_cons_zero, List.set_cons_succ]
                                                                        as_aux_lemma =>
                                                                         first | (refine h_skip (i := 74) (d := (some 104)) (by rfl) (by kernel_rfl) (by kernel_rfl) (by kernel_rfl) (fun _ _ _ h => h) (by rfl) hHeld ?_) | (refine h_take (i := 74) (d := (some 104)) (v := ?vz68) (by rfl) (by kernel_rfl) (by kernel_rfl) (by kernel_rfl) (fun _ _ _ h => h) (by rfl) ?hyz68 hHeld ?restz68; (case hyz68 => intro o ho; simp only [List.getElem?_toArray, List.getElem?_cons_succ, List.getElem?_cons_zero, Option.some.injEq] at ho; subst ho; rintro _ ⟨nw, rfl⟩; first | (go_simp; done) | (go_simp; with_reducible rfl)))
                                                                         try simp only [Act.put, List.setIfInBounds_toArray, List.set_cons_zero, List.set_cons_succ]
                                                                         as_aux_lemma =>
                                                                          refine h_take (i := 75) (d := (some 105)) (v := ?vz69) (by rfl) (by kernel_rfl) (by kernel_rfl) (by kernel_rfl) (fun _ _ _ h => h) (by rfl) ?hyz69 hHeld ?restz69
                                                                          case hyz69 =>
                                                                            intro o ho
                                                                            simp only [List.getElem?_toArray, List.getElem?_cons_succ, List.getElem?_cons_zero, Option.some.injEq] at ho
                                                                            subst ho
                                                                            rintro _ ⟨nw, rfl⟩
                                                                            first | (go_simp; done) | (go_simp; with_reducible rfl)
                                                                          try simp only [Act.put, List.setIfInBounds_toArray, List.set_cons_zero, List.set_cons_succ]
                                                                          as_aux_lemma =>
                                                                           refine wpAnyH_done (by kernel_rfl) ?_ _
                                                                           go_wp2_with fail
                                                                           go_meet
                                                                           case rel => exact ⟨rfl, hcur⟩
    · have hac0 : (ac == 0) = false := by simpa using h0
      have mk : Hid (∀ w', Below W7.heap.size W7 w' → w'.cell? ⟨w6.heap.size, 0, none⟩ = some (.int .i64 ac) ∧ w'.cell? ⟨w6.heap.size, 1, none⟩ = some (.int .i64 ar) ∧ w'.cell? ⟨w2.heap.size, 0, none⟩ = some (.int .i64 rc) ∧ w'.cell? ⟨w2.heap.size, 1, none⟩ = some (.slice a2 rl.length c2)) :=
        fun w' hb => ⟨(hb.cell (p := ⟨_, _, none⟩) hz7).trans c0, (hb.cell (p := ⟨_, _, none⟩) hz7).trans c1, (hb.cell (p := ⟨_, _, none⟩) p0).trans p1, (hb.cell (p := ⟨_, _, none⟩) p0).trans p2⟩
      have hbW : Below W7.heap.size W7 W7.drew := (Below.refl _ _).drew
      have hq0 := After.cell c0
      have hq1 := After.cell c1
      have hq2 := After.cell p1
      have hq3 := After.cell p2
      have hne := After.ne W7
      clear HAC HAR HAN c0 c1 c2' f0 f1 f2 hE7 hL7 h0 p1 p2 mk hbW
      refine wp_region_after (by kernel_rfl) (by kernel_rfl) ?_
      repeat (first | go_big_quiet_skip | (go_big_quiet_want; go_big_quiet_op; first | go_big_quiet_on | go_big_quiet_call (first
    | (go_at_call 13; refine (hSA _).mono ?_; rintro e wq ⟨rfl, hbq⟩; exact ⟨rfl, after_mk (below_after_of (After.b _) hbq)⟩)
    | (go_at_call 15; refine (hCN _).mono ?_; rintro e wq ⟨rfl, hbq⟩; exact ⟨rfl, after_mk (below_after_of (After.b _) hbq)⟩)
        )))
      refine wpQuiet_nil ?_
      rintro _ ⟨nq, rfl⟩
      have hbq := nq.b
      generalize nq.w = wq at *
      clear hq0 hq1 hq2 hq3 hne nq
      go_wp2_with fail
      go_meet
      case rel => exact ⟨rfl, hbq⟩
  case rest =>
    obtain ⟨rfl, hb8⟩ := hcut
    have Q8 := Q7.below hb8
    have P8 := P7.below hb8
    have i28 := i27.below hb8
    have i38 := i37.below hb8
    have hE8 := hE7.below hb8
    have hL8 := hL7.below hb8
    have hB8 := below_after_of hB7 hb8
    have hfl6 := fld_TR0
    have hfl7 := fld_NR0
    have hfl8 := fld_NR1
    have hST := fun w (h : Ints .i64 w (.slice a3 xs.length c3) xs) => specTextOf_any _ xs w h (by omega)
    rw [← HTC.out, ← HTT.out] at hST
    clear Q7 P7 i27 i37 hE7 hL7 hb8 hSA hCN hz7 c6 hB7
    go_wp2_with fail
    go_cut [132] (fun v wx => v = .bool false ∧ Below wc.heap.size wc wx)
    case first =>
      obtain ⟨q0, q1, q2⟩ := Q8
      by_cases h0 : tc = 0
      · subst h0
        have hrd := text_read HTC.out
        rw [← HTT.out] at hrd
        have hRT := fun w => implRunesOf_any tt w (by omega)
        rw [hrd.1] at hRT
        have h2x : decide (xs = xs) = true := by simp
        have mk : Hid (∀ w', Below wc.heap.size wc w' → Below wc.heap.size wc w' ∧ w'.cell? ⟨w4.heap.size, 0, none⟩ = some (.int .i64 0) ∧ w'.cell? ⟨w4.heap.size, 1, none⟩ = some (.string tt)) :=
          fun w' hb => ⟨hb, (hb.cell (p := ⟨_, _, none⟩) q0).trans q1, (hb.cell (p := ⟨_, _, none⟩) q0).trans q2⟩
        clear HTC HTT q1 q2 hrd
        have hcur : Below wc.heap.size wc wc.drew := (Below.refl _ _).drew
        have hq0 : ∀ n' : After wc, n'.w.cell? ⟨w4.heap.size, 0, none⟩ = some (.int .i64 0) := fun n' => (mk.out _ n'.b).2.1
        have hq1 : ∀ n' : After wc, n'.w.cell? ⟨w4.heap.size, 1, none⟩ = some (.string tt) := fun n' => (mk.out _ n'.b).2.2
        have hne := After.ne wc
        clear mk
        refine wp_region_held_drew (S := fun w' => ∃ n : After wc, w' = n.w) (by kernel_rfl) (after_mk hcur) (fun hHeld => ?_)
        refine h_take (i := 0) (d := (some 106)) (v := ?vz70) (by rfl) (by kernel_rfl) (by kernel_rfl) (by kernel_rfl) (fun _ _ _ h => h) (by rfl) ?hyz70 hHeld ?restz70
        case hyz70 =>
          intro o ho
          simp only [List.getElem?_toArray, List.getElem?_cons_zero, Option.some.injEq] at ho
          subst ho
          rintro _ ⟨nw, rfl⟩
          first | (go_simp; done) | (go_simp; with_reducible rfl)
        try simp only [Act.put, List.setIfInBounds_toArray, List.set_cons_zero, List.set_cons_succ]
        as_aux_lemma =>
         refine h_take (i := 1) (d := (some 107)) (v := ?vz71) (by rfl) (by kernel_rfl) (by kernel_rfl) (by kernel_rfl) (fun _ _ _ h => h) (by rfl) ?hyz71 hHeld ?restz71
         case hyz71 =>
           intro o ho
           simp only [List.getElem?_toArray, List.getElem?_cons_succ, List.getElem?_cons_zero, Option.some.injEq] at ho
           subst ho
           rintro _ ⟨nw, rfl⟩
           first | (go_simp; done) | (go_simp; with_reducible rfl)
         try simp only [Act.put, List.setIfInBounds_toArray, List.set_cons_zero, List.set_cons_succ]
         as_aux_lemma =>
          refine h_take (i := 2) (d := (some 108)) (v := ?vz72) (by rfl) (by kernel_rfl) (by kernel_rfl) (by kernel_rfl) (fun _ _ _ h => h) (by rfl) ?hyz72 hHeld ?restz72
          case hyz72 =>
            intro o ho
            simp only [List.getElem?_toArray, List.getElem?_cons_succ, List.getElem?_cons_zero, Option.some.injEq] at ho
            subst ho
            rintro _ ⟨nw, rfl⟩
            first | (go_simp; done) | (go_simp; with_reducible rfl)
          try simp only [Act.put, List.setIfInBounds_toArray, List.set_cons_zero, List.set_cons_succ]
          as_aux_lemma =>
           refine wpAnyH_ready (rs := [3]) (by kernel_rfl) (by simp) ?_
           refine AllReadyH.cons rfl (fun K hK => ?_) AllReadyH.nil
           go_simp
           refine (hST _ (i38.below hcur)).mono ?_
           rintro e wq ⟨rfl, hbq⟩
           have hcur := below_after_of hcur hbq
           clear hbq
           refine hK.out _ _ ?_ (fun hHeld => ?_)
           · exact after_mk hcur
           clear hK K
           refine h_take (i := 4) (d := (some 110)) (v := ?vz73) (by rfl) (by kernel_rfl) (by kernel_rfl) (by kernel_rfl) (fun _ _ _ h => h) (by rfl) ?hyz73 hHeld ?restz73
           case hyz73 =>
             intro o ho
             simp only [List.getElem?_toArray, List.getElem?_cons_succ, List.getElem?_cons_zero, Option.some.injEq] at ho
             subst ho
             rintro _ ⟨nw, rfl⟩
             first | (go_simp; done) | (go_simp; with_reducible rfl)
           try simp only [Act.put, List.setIfInBounds_toArray, List.set_cons_zero, List.set_cons_succ]
           as_aux_lemma =>
            refine h_take (i := 5) (d := (some 111)) (v := ?vz74) (by rfl) (by kernel_rfl) (by kernel_rfl) (by kernel_rfl) (fun _ _ _ h => h) (by rfl) ?hyz74 hHeld ?restz74
            case hyz74 =>
              intro o ho
              simp only [List.getElem?_toArray, List.getElem?_cons_succ, List.getElem?_cons_zero, Option.some.injEq] at ho
              subst ho
              rintro _ ⟨nw, rfl⟩
              first | (go_simp; done) | (go_simp; with_reducible rfl)
            try simp only [Act.put, List.setIfInBounds_toArray, List.set_cons_zero, List.set_cons_succ]
            as_aux_lemma =>
             refine h_take (i := 6) (d := (some 112)) (v := ?vz75) (by rfl) (by kernel_rfl) (by kernel_rfl) (by kernel_rfl) (fun _ _ _ h => h) (by rfl) ?hyz75 hHeld ?restz75
             case hyz75 =>
               intro o ho
               simp only [List.getElem?_toArray, List.getElem?_cons_succ, List.getElem?_cons_zero, Option.some.injEq] at ho
               subst ho
               rintro _ ⟨nw, rfl⟩
               first | (go_simp; done) | (go_simp; with_reducible rfl)
             try simp only [Act.put, List.setIfInBounds_toArray, List.set_cons_zero, List.set_cons_succ]
             as_aux_lemma =>
              first | (refine h_skip (i := 7) (d := (some 113)) (by rfl) (by kernel_rfl) (by kernel_rfl) (by kernel_rfl) (fun _ _ _ h => h) (by rfl) hHeld ?_) | (refine h_take (i := 7) (d := (some 113)) (v := ?vz76) (by rfl) (by kernel_rfl) (by kernel_rfl) (by kernel_rfl) (fun _ _ _ h => h) (by rfl) ?hyz76 hHeld ?restz76; (case hyz76 => intro o ho; simp only [List.getElem?_toArray, List.getElem?_cons_succ, List.getElem?_cons_zero, Option.some.injEq] at ho; subst ho; rintro _ ⟨nw, rfl⟩; first | (go_simp; done) | (go_simp; with_reducible rfl)))
              try simp only [Act.put, List.setIfInBounds_toArray, List.set_cons_zero, List.set_cons_succ]
              as_aux_lemma =>
               first | (refine h_skip (i := 8) (d := (some 114)) (by rfl) (by kernel_rfl) (by kernel_rfl) (by kernel_rfl) (fun _ _ _ h => h) (by rfl) hHeld ?_) | (refine h_take (i := 8) (d := (some 114)) (v := ?vz77) (by rfl) (by kernel_rfl) (by kernel_rfl) (by kernel_rfl) (fun _ _ _ h => h) (by rfl) ?hyz77 hHeld ?restz77; (case hyz77 => intro o ho; simp only [List.getElem?_toArray, List.getElem?_cons_succ, List.getElem?_cons_zero, Option.some.injEq] at ho; subst ho; rintro _ ⟨nw, rfl⟩; first | (go_simp; done) | (go_simp; with_reducible rfl)))
               try simp only [Act.put, List.setIfInBounds_toArray, List.set_cons_zero, List.set_cons_succ]
               as_aux_lemma =>
                first | (refine h_skip (i := 9) (d := (some 115)) (by rfl) (by kernel_rfl) (by kernel_rfl) (by kernel_rfl) (fun _ _ _ h => h) (by rfl) hHeld ?_) | (refine h_take (i := 9) (d := (some 115)) (v := ?vz78) (by rfl) (by kernel_rfl) (by kernel_rfl) (by kernel_rfl) (fun _ _ _ h => h) (by rfl) ?hyz78 hHeld ?restz78; (case hyz78 => intro o ho; simp only [List.getElem?_toArray, List.getElem?_cons_succ, List.getElem?_cons_zero, Option.some.injEq] at ho; subst ho; rintro _ ⟨nw, rfl⟩; first | (go_simp; done) | (go_simp; with_reducible rfl)))
                try simp only [Act.put, List.setIfInBounds_toArray, List.set_cons_zero, List.set_cons_succ]
                as_aux_lemma =>
                 first | (refine h_skip (i := 10) (d := (some 116)) (by rfl) (by kernel_rfl) (by kernel_rfl) (by kernel_rfl) (fun _ _ _ h => h) (by rfl) hHeld ?_) | (refine h_take (i := 10) (d := (some 116)) (v := ?vz79) (by rfl) (by kernel_rfl) (by kernel_rfl) (by kernel_rfl) (fun _ _ _ h => h) (by rfl) ?hyz79 hHeld ?restz79; (case hyz79 => intro o ho; simp only [List.getElem?_toArray, List.getElem?_cons_succ, List.getElem?_cons_zero, Option.some.injEq] at ho; subst ho; rintro _ ⟨nw, rfl⟩; first | (go_simp; done) | (go_simp; with_reducible rfl)))
                 try simp only [Act.put, List.setIfInBounds_toArray, List.set_cons_zero, List.set_cons_succ]
                 as_aux_lemma =>
                  first | (refine h_skip (i := 11) (d := (some 117)) (by rfl) (by kernel_rfl) (by kernel_rfl) (by kernel_rfl) (fun _ _ _ h => h) (by rfl) hHeld ?_) | (refine h_take (i := 11) (d := (some 117)) (v := ?vz80) (by rfl) (by kernel_rfl) (by kernel_rfl) (by kernel_rfl) (fun _ _ _ h => h) (by rfl) ?hyz80 hHeld ?restz80; (case hyz80 => intro o ho; simp only [List.getElem?_toArray, List.getElem?_cons_succ, List.getElem?_cons_zero, Option.some.injEq] at ho; subst ho; rintro _ ⟨nw, rfl⟩; first | (go_simp; done) | (go_simp; with_reducible rfl)))
                  try simp only [Act.put, List.setIfInBounds_toArray, List.set_cons_zero, List.set_cons_succ]
                  as_aux_lemma =>
                   first | (refine h_skip (i := 12) (d := (some 118)) (by rfl) (by kernel_rfl) (by kernel_rfl) (by kernel_rfl) (fun _ _ _ h => h) (by rfl) hHeld ?_) | (refine h_take (i := 12) (d := (some 118)) (v := ?vz81) (by rfl) (by kernel_rfl) (by kernel_rfl) (by kernel_rfl) (fun _ _ _ h => h) (by rfl) ?hyz81 hHeld ?restz81; (case hyz81 => intro o ho; simp only [List.getElem?_toArray, List.getElem?_cons_succ, List.getElem?_cons_zero, Option.some.injEq] at ho; subst ho; rintro _ ⟨nw, rfl⟩; first | (go_simp; done) | (go_simp; with_reducible rfl)))
                   try simp only [Act.put, List.setIfInBounds_toArray, List.set_cons_zero, List.set_cons_succ]
                   as_aux_lemma =>
                    first | (refine h_skip (i := 15) (d := (some 121)) (by rfl) (by kernel_rfl) (by kernel_rfl) (by kernel_rfl) (fun _ _ _ h => h) (by rfl) hHeld ?_) | (refine h_take (i := 15) (d := (some 121)) (v := ?vz82) (by rfl) (by kernel_rfl) (by kernel_rfl) (by kernel_rfl) (fun _ _ _ h => h) (by rfl) ?hyz82 hHeld ?restz82; (case hyz82 => intro o ho; simp only [List.getElem?_toArray, List.getElem?_cons_succ, List.getElem?_cons_zero, Option.some.injEq] at ho; subst ho; rintro _ ⟨nw, rfl⟩; first | (go_simp; done) | (go_simp; with_reducible rfl)))
                    try simp only [Act.put, List.setIfInBounds_toArray, List.set_cons_zero, List.set_cons_succ]
                    as_aux_lemma =>
                     refine wpAnyH_ready (rs := [13]) (by kernel_rfl) (by simp) ?_
                     refine AllReadyH.cons rfl (fun K hK => ?_) AllReadyH.nil
                     go_simp
                     refine (hRT _).mono ?_
                     intro e wq h9
                     obtain ⟨aq, cq, rfl, hbq, ownq⟩ := h9.use
                     have iq := own_ints ownq
                     have hcur := below_after_of hcur hbq
                     clear h9 ownq hbq
                     refine hK.out _ _ ?_ (fun hHeld => ?_)
                     · exact after_mk hcur
                     clear hK K
                     first | (refine h_skip (i := 14) (d := (some 120)) (by rfl) (by kernel_rfl) (by kernel_rfl) (by kernel_rfl) (fun _ _ _ h => h) (by rfl) hHeld ?_) | (refine h_take (i := 14) (d := (some 120)) (v := ?vz83) (by rfl) (by kernel_rfl) (by kernel_rfl) (by kernel_rfl) (fun _ _ _ h => h) (by rfl) ?hyz83 hHeld ?restz83; (case hyz83 => intro o ho; simp only [List.getElem?_toArray, List.getElem?_cons_succ, List.getElem?_cons_zero, Option.some.injEq] at ho; subst ho; rintro _ ⟨nw, rfl⟩; first | (go_simp; done) | (go_simp; with_reducible rfl)))
                     try simp only [Act.put, List.setIfInBounds_toArray, List.set_cons_zero, List.set_cons_succ]
                     as_aux_lemma =>
                      refine wpAnyH_ready (rs := [16]) (by kernel_rfl) (by simp) ?_
                      refine AllReadyH.cons rfl (fun K hK => ?_) AllReadyH.nil
                      go_simp
                      refine (lwNums_any _ _ xs xs _ iq (i38.below hcur) (by omega) (by omega)).mono ?_
                      rintro e wn ⟨rfl, nq, rfl⟩
                      have hcur := below_drewN hcur nq
                      refine hK.out _ _ ?_ (fun hHeld => ?_)
                      · exact after_mk hcur
                      clear hK K
                      first | (refine h_skip (i := 17) (d := (some 123)) (by rfl) (by kernel_rfl) (by kernel_rfl) (by kernel_rfl) (fun _ _ _ h => h) (by rfl) hHeld ?_) | (refine h_take (i := 17) (d := (some 123)) (v := ?vz84) (by rfl) (by kernel_rfl) (by kernel_rfl) (by kernel_rfl) (fun _ _ _ h => h) (by rfl) ?hyz84 hHeld ?restz84; (case hyz84 => intro o ho; simp only [List.getElem?_toArray, List.getElem?_cons_succ, List.getElem?_cons_zero, Option.some.injEq] at ho; subst ho; rintro _ ⟨nw, rfl⟩; first | (go_simp; done) | (go_simp; with_reducible rfl)))
                      try simp only [Act.put, List.setIfInBounds_toArray, List.set_cons_zero, List.set_cons_succ]
                      as_aux_lemma =>
                       first | (refine h_skip (i := 18) (d := (some 124)) (by rfl) (by kernel_rfl) (by kernel_rfl) (by kernel_rfl) (fun _ _ _ h => h) (by rfl) hHeld ?_) | (refine h_take (i := 18) (d := (some 124)) (v := ?vz85) (by rfl) (by kernel_rfl) (by kernel_rfl) (by kernel_rfl) (fun _ _ _ h => h) (by rfl) ?hyz85 hHeld ?restz85; (case hyz85 => intro o ho; simp only [List.getElem?_toArray, List.getElem?_cons_succ, List.getElem?_cons_zero, Option.some.injEq] at ho; subst ho; rintro _ ⟨nw, rfl⟩; first | (go_simp; done) | (go_simp; with_reducible rfl)))
                       try simp only [Act.put, List.setIfInBounds_toArray, List.set_cons_zero, List.set_cons_succ]
                       as_aux_lemma =>
                        first | (refine h_skip (i := 19) (d := (some 125)) (by rfl) (by kernel_rfl) (by kernel_rfl) (by kernel_rfl) (fun _ _ _ h => h) (by rfl) hHeld ?_) | (refine h_take (i := 19) (d := (some 125)) (v := ?vz86) (by rfl) (by kernel_rfl) (by kernel_rfl) (by kernel_rfl) (fun _ _ _ h => h) (by rfl) ?hyz86 hHeld ?restz86; (case hyz86 => intro o ho; simp only [List.getElem?_toArray, List.getElem?_cons_succ, List.getElem?_cons_zero, Option.some.injEq] at ho; subst ho; rintro _ ⟨nw, rfl⟩; first | (go_simp; done) | (go_simp; with_reducible rfl)))
                        try simp only [Act.put, List.setIfInBounds_toArray, List.set_cons_zero, List.set_cons_succ]
                        as_aux_lemma =>
                         first | (refine h_skip (i := 20) (d := (some 126)) (by rfl) (by kernel_rfl) (by kernel_rfl) (by kernel_rfl) (fun _ _ _ h => h) (by rfl) hHeld ?_) | (refine h_take (i := 20) (d := (some 126)) (v := ?vz87) (by rfl) (by kernel_rfl) (by kernel_rfl) (by kernel_rfl) (fun _ _ _ h => h) (by rfl) ?hyz87 hHeld ?restz87; (case hyz87 => intro o ho; simp only [List.getElem?_toArray, List.getElem?_cons_succ, List.getElem?_cons_zero, Option.some.injEq] at ho; subst ho; rintro _ ⟨nw, rfl⟩; first | (go_simp; done) | (go_simp; with_reducible rfl)))
                         try simp only [Act.put, List.setIfInBounds_toArray, List.set_cons_zero, List.set_cons_succ]
                         as_aux_lemma =>
                          refine wpAnyH_ready (rs := [21]) (by kernel_rfl) (by simp) ?_
                          refine AllReadyH.cons rfl (fun K hK => ?_) AllReadyH.nil
                          go_simp
                          refine (hRT _).mono ?_
                          intro e wq h9
                          obtain ⟨aq, cq, rfl, hbq, ownq⟩ := h9.use
                          have iq := own_ints ownq
                          have hcur := below_after_of hcur hbq
                          clear h9 ownq hbq
                          refine hK.out _ _ ?_ (fun hHeld => ?_)
                          · exact after_mk hcur
                          clear hK K
                          first | (refine h_skip (i := 22) (d := (some 128)) (by rfl) (by kernel_rfl) (by kernel_rfl) (by kernel_rfl) (fun _ _ _ h => h) (by rfl) hHeld ?_) | (refine h_take (i := 22) (d := (some 128)) (v := ?vz88) (by rfl) (by kernel_rfl) (by kernel_rfl) (by kernel_rfl) (fun _ _ _ h => h) (by rfl) ?hyz88 hHeld ?restz88; (case hyz88 => intro o ho; simp only [List.getElem?_toArray, List.getElem?_cons_succ, List.getElem?_cons_zero, Option.some.injEq] at ho; subst ho; rintro _ ⟨nw, rfl⟩; first | (go_simp; done) | (go_simp; with_reducible rfl)))
                          try simp only [Act.put, List.setIfInBounds_toArray, List.set_cons_zero, List.set_cons_succ]
                          as_aux_lemma =>
                           first | (refine h_skip (i := 23) (d := (some 129)) (by rfl) (by kernel_rfl) (by kernel_rfl) (by kernel_rfl) (fun _ _ _ h => h) (by rfl) hHeld ?_) | (refine h_take (i := 23) (d := (some 129)) (v := ?vz89) (by rfl) (by kernel_rfl) (by kernel_rfl) (by kernel_rfl) (fun _ _ _ h => h) (by rfl) ?hyz89 hHeld ?restz89; (case hyz89 => intro o ho; simp only [List.getElem?_toArray, List.getElem?_cons_succ, List.getElem?_cons_zero, Option.some.injEq] at ho; subst ho; rintro _ ⟨nw, rfl⟩; first | (go_simp; done) | (go_simp; with_reducible rfl)))
                           try simp only [Act.put, List.setIfInBounds_toArray, List.set_cons_zero, List.set_cons_succ]
                           as_aux_lemma =>
                            first | (refine h_skip (i := 24) (d := (some 130)) (by rfl) (by kernel_rfl) (by kernel_rfl) (by kernel_rfl) (fun _ _ _ h => h) (by rfl) hHeld ?_) | (refine h_take (i := 24) (d := (some 130)) (v := ?vz90) (by rfl) (by kernel_rfl) (by kernel_rfl) (by kernel_rfl) (fun _ _ _ h => h) (by rfl) ?hyz90 hHeld ?restz90; (case hyz90 => intro o ho; simp only [List.getElem?_toArray, List.getElem?_cons_succ, List.getElem?_cons_zero, Option.some.injEq] at ho; subst ho; rintro _ ⟨nw, rfl⟩; first | (go_simp; done) | (go_simp; with_reducible rfl)))
                            try simp only [Act.put, List.setIfInBounds_toArray, List.set_cons_zero, List.set_cons_succ]
                            as_aux_lemma =>
                             first | (refine h_skip (i := 25) (d := (some 131)) (by rfl) (by kernel_rfl) (by kernel_rfl) (by kernel_rfl) (fun _ _ _ h => h) (by rfl) hHeld ?_) | (refine h_take (i := 25) (d := (some 131)) (v := ?vz91) (by rfl) (by kernel_rfl) (by kernel_rfl) (by kernel_rfl) (fun _ _ _ h => h) (by rfl) ?hyz91 hHeld ?restz91; (case hyz91 => intro o ho; simp only [List.getElem?_toArray, List.getElem?_cons_succ, List.getElem?_cons_zero, Option.some.injEq] at ho; subst ho; rintro _ ⟨nw, rfl⟩; first | (go_simp; done) | (go_simp; with_reducible rfl)))
                             try simp only [Act.put, List.setIfInBounds_toArray, List.set_cons_zero, List.set_cons_succ]
                             as_aux_lemma =>
                              refine h_take (i := 26) (d := (some 132)) (v := ?vz92) (by rfl) (by kernel_rfl) (by kernel_rfl) (by kernel_rfl) (fun _ _ _ h => h) (by rfl) ?hyz92 hHeld ?restz92
                              case hyz92 =>
                                intro o ho
                                simp only [List.getElem?_toArray, List.getElem?_cons_succ, List.getElem?_cons_zero, Option.some.injEq] at ho
                                subst ho
                                rintro _ ⟨nw, rfl⟩
                                first | (go_simp; done) | (go_simp; with_reducible rfl)
                              try simp only [Act.put, List.setIfInBounds_toArray, List.set_cons_zero, List.set_cons_succ]
                              as_aux_lemma =>
                               refine wpAnyH_done (by kernel_rfl) ?_ _
                               go_wp2_with fail
                               go_meet
                               case rel => exact ⟨rfl, hcur⟩
      · have htc0 : (tc == 0) = false := by simpa using h0
        have hq0 := After.cell q1
        have hne := After.ne wc
        have hS2 := fun (n : After wc) => hST n.w (i38.below n.b)
        clear HTC HTT q1 q2 hST
        refine wp_region_after (by kernel_rfl) (by kernel_rfl) ?_
        repeat (first | go_big_quiet_skip | (go_big_quiet_want; go_big_quiet_op; first | go_big_quiet_on | go_big_quiet_call (first
    | (go_at_call 16; refine (hS2 _).mono ?_; rintro e wq ⟨rfl, hbq⟩; exact ⟨rfl, after_mk (below_after_of (After.b _) hbq)⟩)
          )))
        refine wpQuiet_nil ?_
        rintro _ ⟨nq, rfl⟩
        have hbq := nq.b
        generalize nq.w = wq at *
        clear hq0 hne nq hS2
        go_wp2_with fail
        go_meet
        case rel => exact ⟨rfl, hbq⟩
    case rest =>
      obtain ⟨rfl, hb9⟩ := hcut
      have P9 := P8.below hb9
      have i29 := i28.below hb9
      have hE9 := hE8.below hb9
      have hL9 := hL8.below hb9
      have hB9 := below_after_of hB8 hb9
      have hSR := fun w => specRunesOf_any s w (by omega)
      rw [← HRC.out, ← HRL.out] at hSR
      clear P8 i28 hE8 hL8 hB8 hb9 hST i38 Q8
      have p0 := P9.2.1
      have p1 := P9.2.2
      by_cases hr0 : rc = 0
      · subst hr0
        obtain ⟨hrp, hsz, hall, hstr⟩ := runes_zero HRC.out HRL.out
        have hTO : rl.length ≤ 50 → ∀ v w, Ints .i64 w v rl → Ends w → Leads w → Calls Tryd.prog 10 #[v] w fun e w' => TextAns w 0 s e w' := fun h50 v w hv hE hL => by
          have h := implTextOf_any v rl w hv (by omega) hE hL
          have e := text_ok (xs := rl) (by omega) hall
          rw [e.1, e.2, hstr] at h
          exact h
        have HALL : Hid (rl.all runeB = true) := hall
        have HLEN : Hid ((sofar rl rl.length).length = s.size) := by show _ = _; rw [sofar_all]; exact hsz
        clear hall hsz hstr hrp HTC HTT HRC HRL
        obtain ⟨n, hn⟩ : ∃ n, n = rl.length := ⟨_, rfl⟩
        have HN : Hid (n = rl.length) := hn
        have HV : Hid (Ints .i64 wc (.slice a2 rl.length c2) rl) := i29
        rw [← hn] at hlr HV HLEN P9 p1 hTO
        clear hn i29
        have hR1 : ∀ w, Calls Tryd.prog 18 #[.string s] w fun e w' => ∃ a c, e = .returned (.agg #[.int .i64 0, .slice a n c]) ∧ Below w.heap.size w w' ∧ Ints .i64 w' (.slice a n c) rl := fun w => (hSR w).mono fun e w' h9 => by
          obtain ⟨aq, cq, rfl, hbq, ownq⟩ := h9.use
          rw [← HN.out] at ownq
          exact ⟨aq, cq, by rw [HN.out], hbq, own_ints (by rw [← HN.out]; exact ownq)⟩
        clear hSR
        go_wp2_with fail
        go_loopw [10, 11] (fun sm i wr => ∃ k : Nat, k ≤ n ∧ i = .int .i64 k ∧ sm = .int .i64 ((sofar rl k).length : Int) ∧ Below wc.heap.size wc wr) (fun _ i _ => n - (intOf i).toNat)
        case atStart => exact ⟨0, Nat.zero_le _, rfl, rfl, Below.refl _ _⟩
        case round =>
          obtain ⟨k, hk, rfl, rfl, hbr⟩ := hrel
          have Pr := P9.below hbr
          have r0 := Pr.2.1
          have r1 := Pr.2.2
          by_cases hkn : k < n
          · have hki : (k : Int) < (n : Int) := by omega
            have hkx : k < rl.length := by have := HN.out; omega
            obtain ⟨-, b, off, rfl, hbl, hc⟩ := HV.out.at (by omega)
            have hcj := (hbr.cell (p := ⟨b, off + k, none⟩) hbl).trans (hc k hkx)
            have hx := runes_at HALL.out hkx
            have hsl := sofar_len rl k
            have hsc := sofar_succ hkx
            obtain ⟨x, hxx⟩ : ∃ x, x = rl.getD k 0 := ⟨_, rfl⟩
            rw [← hxx] at hcj hx hsc
            have hlen : ((sofar rl (k + 1)).length : Int) = ((sofar rl k).length : Int) + sizeI x := by
              rw [hsc, List.length_append, Int.natCast_add, enc_size]
            have HL2 : Hid (((sofar rl (k + 1)).length : Int) = ((sofar rl k).length : Int) + sizeI x) := hlen
            obtain ⟨m, hm⟩ : ∃ m, m = (sofar rl k).length := ⟨_, rfl⟩
            have hS := implSizeOf_any x wr (hE9.below hbr)
            rw [(sz_yes hx).1, (sz_yes hx).2] at hS
            have hsb := sizeI_cases x
            have hsb1 : 1 ≤ sizeI x ∧ sizeI x ≤ 4 := by omega
            rw [← hm] at hsl HL2 ⊢
            generalize sizeI x = sz at *
            clear hxx hc hsc hlen hm hsb hx hTO hR1 hE9 hL9
            go_wp2_with fail
            refine hS.mono ?_
            rintro e w5' ⟨rfl, hb5'⟩
            have hB5' := below_after_of hbr hb5'
            clear hS hb5' r0 r1 hcj Pr hbr
            go_wp2
            go_roundw
            case rel => exact ⟨k + 1, by omega, by go_num, by rw [HL2.out], hB5'⟩
            case measure => simp [intOf]; omega
          · have hkn : k = n := by omega
            subst hkn
            rw [HLEN.out]
            have hEr := hE9.below hbr
            have hLr := hL9.below hbr
            have hBr := below_after_of hB9 hbr
            have ir := HV.out.below hbr
            clear HLEN hE9 hL9 hB9 P9 HV p0 p1 r0
            go_wp2_with fail
            have hq1 := After.cell r1
            have h2x : decide (rl = rl) = true := by simp
            have hii : ∀ i : Int, (i == i) = true := by simp
            have hll : (s.toList == s.toList) = true := by simp
            have hcur : Below wr.heap.size wr wr.drew := (Below.refl _ _).drew
            have hne := After.ne wr
            clear Pr r1
            by_cases h50 : 50 < k
            · have h51 : decide ((50 : Int) < (k : Int)) = true := by simp; omega
              refine wp_region_held_drew (S := fun w' => ∃ n : After wr, w' = n.w) (by kernel_rfl) (after_mk hcur) (fun hHeld => ?_)
              refine h_take (i := 0) (d := (some 158)) (v := ?vz93) (by rfl) (by kernel_rfl) (by kernel_rfl) (by kernel_rfl) (fun _ _ _ h => h) (by rfl) ?hyz93 hHeld ?restz93
              case hyz93 =>
                intro o ho
                simp only [List.getElem?_toArray, List.getElem?_cons_zero, Option.some.injEq] at ho
                subst ho
                rintro _ ⟨nw, rfl⟩
                first | (go_simp; done) | (go_simp; with_reducible rfl)
              try simp only [Act.put, List.setIfInBounds_toArray, List.set_cons_zero, List.set_cons_succ]
              as_aux_lemma =>
               refine h_take (i := 1) (d := (some 159)) (v := ?vz94) (by rfl) (by kernel_rfl) (by kernel_rfl) (by kernel_rfl) (fun _ _ _ h => h) (by rfl) ?hyz94 hHeld ?restz94
               case hyz94 =>
                 intro o ho
                 simp only [List.getElem?_toArray, List.getElem?_cons_succ, List.getElem?_cons_zero, Option.some.injEq] at ho
                 subst ho
                 rintro _ ⟨nw, rfl⟩
                 first | (go_simp; done) | (go_simp; with_reducible rfl)
               try simp only [Act.put, List.setIfInBounds_toArray, List.set_cons_zero, List.set_cons_succ]
               as_aux_lemma =>
                refine h_take (i := 2) (d := (some 160)) (v := ?vz95) (by rfl) (by kernel_rfl) (by kernel_rfl) (by kernel_rfl) (fun _ _ _ h => h) (by rfl) ?hyz95 hHeld ?restz95
                case hyz95 =>
                  intro o ho
                  simp only [List.getElem?_toArray, List.getElem?_cons_succ, List.getElem?_cons_zero, Option.some.injEq] at ho
                  subst ho
                  rintro _ ⟨nw, rfl⟩
                  first | (go_simp; done) | (go_simp; with_reducible rfl)
                try simp only [Act.put, List.setIfInBounds_toArray, List.set_cons_zero, List.set_cons_succ]
                as_aux_lemma =>
                 refine h_take (i := 3) (d := (some 161)) (v := ?vz96) (by rfl) (by kernel_rfl) (by kernel_rfl) (by kernel_rfl) (fun _ _ _ h => h) (by rfl) ?hyz96 hHeld ?restz96
                 case hyz96 =>
                   intro o ho
                   simp only [List.getElem?_toArray, List.getElem?_cons_succ, List.getElem?_cons_zero, Option.some.injEq] at ho
                   subst ho
                   rintro _ ⟨nw, rfl⟩
                   first | (go_simp; done) | (go_simp; with_reducible rfl)
                 try simp only [Act.put, List.setIfInBounds_toArray, List.set_cons_zero, List.set_cons_succ]
                 as_aux_lemma =>
                  refine h_take (i := 4) (d := (some 162)) (v := ?vz97) (by rfl) (by kernel_rfl) (by kernel_rfl) (by kernel_rfl) (fun _ _ _ h => h) (by rfl) ?hyz97 hHeld ?restz97
                  case hyz97 =>
                    intro o ho
                    simp only [List.getElem?_toArray, List.getElem?_cons_succ, List.getElem?_cons_zero, Option.some.injEq] at ho
                    subst ho
                    rintro _ ⟨nw, rfl⟩
                    first | (go_simp; done) | (go_simp; with_reducible rfl)
                  try simp only [Act.put, List.setIfInBounds_toArray, List.set_cons_zero, List.set_cons_succ]
                  as_aux_lemma =>
                   first | (refine h_skip (i := 5) (d := (some 163)) (by rfl) (by kernel_rfl) (by kernel_rfl) (by kernel_rfl) (fun _ _ _ h => h) (by rfl) hHeld ?_) | (refine h_take (i := 5) (d := (some 163)) (v := ?vz98) (by rfl) (by kernel_rfl) (by kernel_rfl) (by kernel_rfl) (fun _ _ _ h => h) (by rfl) ?hyz98 hHeld ?restz98; (case hyz98 => intro o ho; simp only [List.getElem?_toArray, List.getElem?_cons_succ, List.getElem?_cons_zero, Option.some.injEq] at ho; subst ho; rintro _ ⟨nw, rfl⟩; first | (go_simp; done) | (go_simp; with_reducible rfl)))
                   try simp only [Act.put, List.setIfInBounds_toArray, List.set_cons_zero, List.set_cons_succ]
                   as_aux_lemma =>
                    first | (refine h_skip (i := 6) (d := (some 164)) (by rfl) (by kernel_rfl) (by kernel_rfl) (by kernel_rfl) (fun _ _ _ h => h) (by rfl) hHeld ?_) | (refine h_take (i := 6) (d := (some 164)) (v := ?vz99) (by rfl) (by kernel_rfl) (by kernel_rfl) (by kernel_rfl) (fun _ _ _ h => h) (by rfl) ?hyz99 hHeld ?restz99; (case hyz99 => intro o ho; simp only [List.getElem?_toArray, List.getElem?_cons_succ, List.getElem?_cons_zero, Option.some.injEq] at ho; subst ho; rintro _ ⟨nw, rfl⟩; first | (go_simp; done) | (go_simp; with_reducible rfl)))
                    try simp only [Act.put, List.setIfInBounds_toArray, List.set_cons_zero, List.set_cons_succ]
                    as_aux_lemma =>
                     first | (refine h_skip (i := 7) (d := (some 165)) (by rfl) (by kernel_rfl) (by kernel_rfl) (by kernel_rfl) (fun _ _ _ h => h) (by rfl) hHeld ?_) | (refine h_take (i := 7) (d := (some 165)) (v := ?vz100) (by rfl) (by kernel_rfl) (by kernel_rfl) (by kernel_rfl) (fun _ _ _ h => h) (by rfl) ?hyz100 hHeld ?restz100; (case hyz100 => intro o ho; simp only [List.getElem?_toArray, List.getElem?_cons_succ, List.getElem?_cons_zero, Option.some.injEq] at ho; subst ho; rintro _ ⟨nw, rfl⟩; first | (go_simp; done) | (go_simp; with_reducible rfl)))
                     try simp only [Act.put, List.setIfInBounds_toArray, List.set_cons_zero, List.set_cons_succ]
                     as_aux_lemma =>
                      first | (refine h_skip (i := 8) (d := (some 166)) (by rfl) (by kernel_rfl) (by kernel_rfl) (by kernel_rfl) (fun _ _ _ h => h) (by rfl) hHeld ?_) | (refine h_take (i := 8) (d := (some 166)) (v := ?vz101) (by rfl) (by kernel_rfl) (by kernel_rfl) (by kernel_rfl) (fun _ _ _ h => h) (by rfl) ?hyz101 hHeld ?restz101; (case hyz101 => intro o ho; simp only [List.getElem?_toArray, List.getElem?_cons_succ, List.getElem?_cons_zero, Option.some.injEq] at ho; subst ho; rintro _ ⟨nw, rfl⟩; first | (go_simp; done) | (go_simp; with_reducible rfl)))
                      try simp only [Act.put, List.setIfInBounds_toArray, List.set_cons_zero, List.set_cons_succ]
                      as_aux_lemma =>
                       first | (refine h_skip (i := 9) (d := (some 167)) (by rfl) (by kernel_rfl) (by kernel_rfl) (by kernel_rfl) (fun _ _ _ h => h) (by rfl) hHeld ?_) | (refine h_take (i := 9) (d := (some 167)) (v := ?vz102) (by rfl) (by kernel_rfl) (by kernel_rfl) (by kernel_rfl) (fun _ _ _ h => h) (by rfl) ?hyz102 hHeld ?restz102; (case hyz102 => intro o ho; simp only [List.getElem?_toArray, List.getElem?_cons_succ, List.getElem?_cons_zero, Option.some.injEq] at ho; subst ho; rintro _ ⟨nw, rfl⟩; first | (go_simp; done) | (go_simp; with_reducible rfl)))
                       try simp only [Act.put, List.setIfInBounds_toArray, List.set_cons_zero, List.set_cons_succ]
                       as_aux_lemma =>
                        first | (refine h_skip (i := 10) (d := (some 168)) (by rfl) (by kernel_rfl) (by kernel_rfl) (by kernel_rfl) (fun _ _ _ h => h) (by rfl) hHeld ?_) | (refine h_take (i := 10) (d := (some 168)) (v := ?vz103) (by rfl) (by kernel_rfl) (by kernel_rfl) (by kernel_rfl) (fun _ _ _ h => h) (by rfl) ?hyz103 hHeld ?restz103; (case hyz103 => intro o ho; simp only [List.getElem?_toArray, List.getElem?_cons_succ, List.getElem?_cons_zero, Option.some.injEq] at ho; subst ho; rintro _ ⟨nw, rfl⟩; first | (go_simp; done) | (go_simp; with_reducible rfl)))
                        try simp only [Act.put, List.setIfInBounds_toArray, List.set_cons_zero, List.set_cons_succ]
                        as_aux_lemma =>
                         first | (refine h_skip (i := 11) (d := (some 169)) (by rfl) (by kernel_rfl) (by kernel_rfl) (by kernel_rfl) (fun _ _ _ h => h) (by rfl) hHeld ?_) | (refine h_take (i := 11) (d := (some 169)) (v := ?vz104) (by rfl) (by kernel_rfl) (by kernel_rfl) (by kernel_rfl) (fun _ _ _ h => h) (by rfl) ?hyz104 hHeld ?restz104; (case hyz104 => intro o ho; simp only [List.getElem?_toArray, List.getElem?_cons_succ, List.getElem?_cons_zero, Option.some.injEq] at ho; subst ho; rintro _ ⟨nw, rfl⟩; first | (go_simp; done) | (go_simp; with_reducible rfl)))
                         try simp only [Act.put, List.setIfInBounds_toArray, List.set_cons_zero, List.set_cons_succ]
                         as_aux_lemma =>
                          refine h_skip (i := 12) (d := (some 170)) (by rfl) (by kernel_rfl) (by kernel_rfl) (by kernel_rfl) (fun _ _ _ h => h) (by rfl) hHeld ?_
                          simp only [Act.put, List.setIfInBounds_toArray, List.set_cons_zero, List.set_cons_succ]
                          first | (refine h_skip (i := 13) (d := (some 171)) (by rfl) (by kernel_rfl) (by kernel_rfl) (by kernel_rfl) (fun _ _ _ h => h) (by rfl) hHeld ?_) | (refine h_take (i := 13) (d := (some 171)) (v := ?vz105) (by rfl) (by kernel_rfl) (by kernel_rfl) (by kernel_rfl) (fun _ _ _ h => h) (by rfl) ?hyz105 hHeld ?restz105; (case hyz105 => intro o ho; simp only [List.getElem?_toArray, List.getElem?_cons_succ, List.getElem?_cons_zero, Option.some.injEq] at ho; subst ho; rintro _ ⟨nw, rfl⟩; first | (go_simp; done) | (go_simp; with_reducible rfl)))
                          try simp only [Act.put, List.setIfInBounds_toArray, List.set_cons_zero, List.set_cons_succ]
                          as_aux_lemma =>
                           first | (refine h_skip (i := 14) (d := (some 172)) (by rfl) (by kernel_rfl) (by kernel_rfl) (by kernel_rfl) (fun _ _ _ h => h) (by rfl) hHeld ?_) | (refine h_take (i := 14) (d := (some 172)) (v := ?vz106) (by rfl) (by kernel_rfl) (by kernel_rfl) (by kernel_rfl) (fun _ _ _ h => h) (by rfl) ?hyz106 hHeld ?restz106; (case hyz106 => intro o ho; simp only [List.getElem?_toArray, List.getElem?_cons_succ, List.getElem?_cons_zero, Option.some.injEq] at ho; subst ho; rintro _ ⟨nw, rfl⟩; first | (go_simp; done) | (go_simp; with_reducible rfl)))
                           try simp only [Act.put, List.setIfInBounds_toArray, List.set_cons_zero, List.set_cons_succ]
                           as_aux_lemma =>
                            first | (refine h_skip (i := 15) (d := (some 173)) (by rfl) (by kernel_rfl) (by kernel_rfl) (by kernel_rfl) (fun _ _ _ h => h) (by rfl) hHeld ?_) | (refine h_take (i := 15) (d := (some 173)) (v := ?vz107) (by rfl) (by kernel_rfl) (by kernel_rfl) (by kernel_rfl) (fun _ _ _ h => h) (by rfl) ?hyz107 hHeld ?restz107; (case hyz107 => intro o ho; simp only [List.getElem?_toArray, List.getElem?_cons_succ, List.getElem?_cons_zero, Option.some.injEq] at ho; subst ho; rintro _ ⟨nw, rfl⟩; first | (go_simp; done) | (go_simp; with_reducible rfl)))
                            try simp only [Act.put, List.setIfInBounds_toArray, List.set_cons_zero, List.set_cons_succ]
                            as_aux_lemma =>
                             first | (refine h_skip (i := 16) (d := (some 174)) (by rfl) (by kernel_rfl) (by kernel_rfl) (by kernel_rfl) (fun _ _ _ h => h) (by rfl) hHeld ?_) | (refine h_take (i := 16) (d := (some 174)) (v := ?vz108) (by rfl) (by kernel_rfl) (by kernel_rfl) (by kernel_rfl) (fun _ _ _ h => h) (by rfl) ?hyz108 hHeld ?restz108; (case hyz108 => intro o ho; simp only [List.getElem?_toArray, List.getElem?_cons_succ, List.getElem?_cons_zero, Option.some.injEq] at ho; subst ho; rintro _ ⟨nw, rfl⟩; first | (go_simp; done) | (go_simp; with_reducible rfl)))
                             try simp only [Act.put, List.setIfInBounds_toArray, List.set_cons_zero, List.set_cons_succ]
                             as_aux_lemma =>
                              refine h_take (i := 17) (d := (some 175)) (v := ?vz109) (by rfl) (by kernel_rfl) (by kernel_rfl) (by kernel_rfl) (fun _ _ _ h => h) (by rfl) ?hyz109 hHeld ?restz109
                              case hyz109 =>
                                intro o ho
                                simp only [List.getElem?_toArray, List.getElem?_cons_succ, List.getElem?_cons_zero, Option.some.injEq] at ho
                                subst ho
                                rintro _ ⟨nw, rfl⟩
                                first | (go_simp; done) | (go_simp; with_reducible rfl)
                              try simp only [Act.put, List.setIfInBounds_toArray, List.set_cons_zero, List.set_cons_succ]
                              as_aux_lemma =>
                               refine h_take (i := 18) (d := (some 176)) (v := ?vz110) (by rfl) (by kernel_rfl) (by kernel_rfl) (by kernel_rfl) (fun _ _ _ h => h) (by rfl) ?hyz110 hHeld ?restz110
                               case hyz110 =>
                                 intro o ho
                                 simp only [List.getElem?_toArray, List.getElem?_cons_succ, List.getElem?_cons_zero, Option.some.injEq] at ho
                                 subst ho
                                 rintro _ ⟨nw, rfl⟩
                                 first | (go_simp; done) | (go_simp; with_reducible rfl)
                               try simp only [Act.put, List.setIfInBounds_toArray, List.set_cons_zero, List.set_cons_succ]
                               as_aux_lemma =>
                                first | (refine h_skip (i := 19) (d := (some 177)) (by rfl) (by kernel_rfl) (by kernel_rfl) (by kernel_rfl) (fun _ _ _ h => h) (by rfl) hHeld ?_) | (refine h_take (i := 19) (d := (some 177)) (v := ?vz111) (by rfl) (by kernel_rfl) (by kernel_rfl) (by kernel_rfl) (fun _ _ _ h => h) (by rfl) ?hyz111 hHeld ?restz111; (case hyz111 => intro o ho; simp only [List.getElem?_toArray, List.getElem?_cons_succ, List.getElem?_cons_zero, Option.some.injEq] at ho; subst ho; rintro _ ⟨nw, rfl⟩; first | (go_simp; done) | (go_simp; with_reducible rfl)))
                                try simp only [Act.put, List.setIfInBounds_toArray, List.set_cons_zero, List.set_cons_succ]
                                as_aux_lemma =>
                                 first | (refine h_skip (i := 20) (d := (some 178)) (by rfl) (by kernel_rfl) (by kernel_rfl) (by kernel_rfl) (fun _ _ _ h => h) (by rfl) hHeld ?_) | (refine h_take (i := 20) (d := (some 178)) (v := ?vz112) (by rfl) (by kernel_rfl) (by kernel_rfl) (by kernel_rfl) (fun _ _ _ h => h) (by rfl) ?hyz112 hHeld ?restz112; (case hyz112 => intro o ho; simp only [List.getElem?_toArray, List.getElem?_cons_succ, List.getElem?_cons_zero, Option.some.injEq] at ho; subst ho; rintro _ ⟨nw, rfl⟩; first | (go_simp; done) | (go_simp; with_reducible rfl)))
                                 try simp only [Act.put, List.setIfInBounds_toArray, List.set_cons_zero, List.set_cons_succ]
                                 as_aux_lemma =>
                                  first | (refine h_skip (i := 21) (d := (some 179)) (by rfl) (by kernel_rfl) (by kernel_rfl) (by kernel_rfl) (fun _ _ _ h => h) (by rfl) hHeld ?_) | (refine h_take (i := 21) (d := (some 179)) (v := ?vz113) (by rfl) (by kernel_rfl) (by kernel_rfl) (by kernel_rfl) (fun _ _ _ h => h) (by rfl) ?hyz113 hHeld ?restz113; (case hyz113 => intro o ho; simp only [List.getElem?_toArray, List.getElem?_cons_succ, List.getElem?_cons_zero, Option.some.injEq] at ho; subst ho; rintro _ ⟨nw, rfl⟩; first | (go_simp; done) | (go_simp; with_reducible rfl)))
                                  try simp only [Act.put, List.setIfInBounds_toArray, List.set_cons_zero, List.set_cons_succ]
                                  as_aux_lemma =>
                                   refine wpAnyH_ready (rs := [22]) (by kernel_rfl) (by simp) ?_
                                   refine AllReadyH.cons rfl (fun K hK => ?_) AllReadyH.nil
                                   go_simp
                                   refine (hR1 _).mono ?_
                                   rintro e wq ⟨aq, cq, rfl, hbq, iq⟩
                                   have hcur := below_after_of hcur hbq
                                   clear hbq
                                   refine hK.out _ _ ?_ (fun hHeld => ?_)
                                   · exact after_mk hcur
                                   clear hK K
                                   first | (refine h_skip (i := 23) (d := (some 181)) (by rfl) (by kernel_rfl) (by kernel_rfl) (by kernel_rfl) (fun _ _ _ h => h) (by rfl) hHeld ?_) | (refine h_take (i := 23) (d := (some 181)) (v := ?vz114) (by rfl) (by kernel_rfl) (by kernel_rfl) (by kernel_rfl) (fun _ _ _ h => h) (by rfl) ?hyz114 hHeld ?restz114; (case hyz114 => intro o ho; simp only [List.getElem?_toArray, List.getElem?_cons_succ, List.getElem?_cons_zero, Option.some.injEq] at ho; subst ho; rintro _ ⟨nw, rfl⟩; first | (go_simp; done) | (go_simp; with_reducible rfl)))
                                   try simp only [Act.put, List.setIfInBounds_toArray, List.set_cons_zero, List.set_cons_succ]
                                   as_aux_lemma =>
                                    refine wpAnyH_ready (rs := [24]) (by kernel_rfl) (by simp) ?_
                                    refine AllReadyH.cons rfl (fun K hK => ?_) AllReadyH.nil
                                    go_simp
                                    refine (lwNums_any _ _ rl rl _ (ir.below hcur) iq (by have := HN.out; omega) (by have := HN.out; omega)).mono ?_
                                    rintro e wq2 ⟨rfl, nq, rfl⟩
                                    have hcur := below_drewN hcur nq
                                    refine hK.out _ _ ?_ (fun hHeld => ?_)
                                    · exact after_mk hcur
                                    clear hK K
                                    refine h_take (i := 25) (d := (some 183)) (v := ?vz115) (by rfl) (by kernel_rfl) (by kernel_rfl) (by kernel_rfl) (fun _ _ _ h => h) (by rfl) ?hyz115 hHeld ?restz115
                                    case hyz115 =>
                                      intro o ho
                                      simp only [List.getElem?_toArray, List.getElem?_cons_succ, List.getElem?_cons_zero, Option.some.injEq] at ho
                                      subst ho
                                      rintro _ ⟨nw, rfl⟩
                                      first | (go_simp; done) | (go_simp; with_reducible rfl)
                                    try simp only [Act.put, List.setIfInBounds_toArray, List.set_cons_zero, List.set_cons_succ]
                                    as_aux_lemma =>
                                     refine h_take (i := 26) (d := (some 2)) (v := ?vz116) (by rfl) (by kernel_rfl) (by kernel_rfl) (by kernel_rfl) (fun _ _ _ h => h) (by rfl) ?hyz116 hHeld ?restz116
                                     case hyz116 =>
                                       intro o ho
                                       simp only [List.getElem?_toArray, List.getElem?_cons_succ, List.getElem?_cons_zero, Option.some.injEq] at ho
                                       subst ho
                                       rintro _ ⟨nw, rfl⟩
                                       first | (go_simp; done) | (go_simp; with_reducible rfl)
                                     try simp only [Act.put, List.setIfInBounds_toArray, List.set_cons_zero, List.set_cons_succ]
                                     as_aux_lemma =>
                                      refine wpAnyH_done (by kernel_rfl) ?_ _
                                      go_wp2
                                      go_ret
                                      exact ⟨rfl, below_after_of hBr hcur⟩
            · have h51 : decide ((50 : Int) < (k : Int)) = false := by simp; omega
              refine wp_region_held_drew (S := fun w' => ∃ n : After wr, w' = n.w) (by kernel_rfl) (after_mk hcur) (fun hHeld => ?_)
              refine h_take (i := 0) (d := (some 158)) (v := ?vz117) (by rfl) (by kernel_rfl) (by kernel_rfl) (by kernel_rfl) (fun _ _ _ h => h) (by rfl) ?hyz117 hHeld ?restz117
              case hyz117 =>
                intro o ho
                simp only [List.getElem?_toArray, List.getElem?_cons_zero, Option.some.injEq] at ho
                subst ho
                rintro _ ⟨nw, rfl⟩
                first | (go_simp; done) | (go_simp; with_reducible rfl)
              try simp only [Act.put, List.setIfInBounds_toArray, List.set_cons_zero, List.set_cons_succ]
              as_aux_lemma =>
               refine h_take (i := 1) (d := (some 159)) (v := ?vz118) (by rfl) (by kernel_rfl) (by kernel_rfl) (by kernel_rfl) (fun _ _ _ h => h) (by rfl) ?hyz118 hHeld ?restz118
               case hyz118 =>
                 intro o ho
                 simp only [List.getElem?_toArray, List.getElem?_cons_succ, List.getElem?_cons_zero, Option.some.injEq] at ho
                 subst ho
                 rintro _ ⟨nw, rfl⟩
                 first | (go_simp; done) | (go_simp; with_reducible rfl)
               try simp only [Act.put, List.setIfInBounds_toArray, List.set_cons_zero, List.set_cons_succ]
               as_aux_lemma =>
                refine h_take (i := 2) (d := (some 160)) (v := ?vz119) (by rfl) (by kernel_rfl) (by kernel_rfl) (by kernel_rfl) (fun _ _ _ h => h) (by rfl) ?hyz119 hHeld ?restz119
                case hyz119 =>
                  intro o ho
                  simp only [List.getElem?_toArray, List.getElem?_cons_succ, List.getElem?_cons_zero, Option.some.injEq] at ho
                  subst ho
                  rintro _ ⟨nw, rfl⟩
                  first | (go_simp; done) | (go_simp; with_reducible rfl)
                try simp only [Act.put, List.setIfInBounds_toArray, List.set_cons_zero, List.set_cons_succ]
                as_aux_lemma =>
                 refine h_take (i := 3) (d := (some 161)) (v := ?vz120) (by rfl) (by kernel_rfl) (by kernel_rfl) (by kernel_rfl) (fun _ _ _ h => h) (by rfl) ?hyz120 hHeld ?restz120
                 case hyz120 =>
                   intro o ho
                   simp only [List.getElem?_toArray, List.getElem?_cons_succ, List.getElem?_cons_zero, Option.some.injEq] at ho
                   subst ho
                   rintro _ ⟨nw, rfl⟩
                   first | (go_simp; done) | (go_simp; with_reducible rfl)
                 try simp only [Act.put, List.setIfInBounds_toArray, List.set_cons_zero, List.set_cons_succ]
                 as_aux_lemma =>
                  refine h_take (i := 4) (d := (some 162)) (v := ?vz121) (by rfl) (by kernel_rfl) (by kernel_rfl) (by kernel_rfl) (fun _ _ _ h => h) (by rfl) ?hyz121 hHeld ?restz121
                  case hyz121 =>
                    intro o ho
                    simp only [List.getElem?_toArray, List.getElem?_cons_succ, List.getElem?_cons_zero, Option.some.injEq] at ho
                    subst ho
                    rintro _ ⟨nw, rfl⟩
                    first | (go_simp; done) | (go_simp; with_reducible rfl)
                  try simp only [Act.put, List.setIfInBounds_toArray, List.set_cons_zero, List.set_cons_succ]
                  as_aux_lemma =>
                   first | (refine h_skip (i := 5) (d := (some 163)) (by rfl) (by kernel_rfl) (by kernel_rfl) (by kernel_rfl) (fun _ _ _ h => h) (by rfl) hHeld ?_) | (refine h_take (i := 5) (d := (some 163)) (v := ?vz122) (by rfl) (by kernel_rfl) (by kernel_rfl) (by kernel_rfl) (fun _ _ _ h => h) (by rfl) ?hyz122 hHeld ?restz122; (case hyz122 => intro o ho; simp only [List.getElem?_toArray, List.getElem?_cons_succ, List.getElem?_cons_zero, Option.some.injEq] at ho; subst ho; rintro _ ⟨nw, rfl⟩; first | (go_simp; done) | (go_simp; with_reducible rfl)))
                   try simp only [Act.put, List.setIfInBounds_toArray, List.set_cons_zero, List.set_cons_succ]
                   as_aux_lemma =>
                    first | (refine h_skip (i := 6) (d := (some 164)) (by rfl) (by kernel_rfl) (by kernel_rfl) (by kernel_rfl) (fun _ _ _ h => h) (by rfl) hHeld ?_) | (refine h_take (i := 6) (d := (some 164)) (v := ?vz123) (by rfl) (by kernel_rfl) (by kernel_rfl) (by kernel_rfl) (fun _ _ _ h => h) (by rfl) ?hyz123 hHeld ?restz123; (case hyz123 => intro o ho; simp only [List.getElem?_toArray, List.getElem?_cons_succ, List.getElem?_cons_zero, Option.some.injEq] at ho; subst ho; rintro _ ⟨nw, rfl⟩; first | (go_simp; done) | (go_simp; with_reducible rfl)))
                    try simp only [Act.put, List.setIfInBounds_toArray, List.set_cons_zero, List.set_cons_succ]
                    as_aux_lemma =>
                     first | (refine h_skip (i := 7) (d := (some 165)) (by rfl) (by kernel_rfl) (by kernel_rfl) (by kernel_rfl) (fun _ _ _ h => h) (by rfl) hHeld ?_) | (refine h_take (i := 7) (d := (some 165)) (v := ?vz124) (by rfl) (by kernel_rfl) (by kernel_rfl) (by kernel_rfl) (fun _ _ _ h => h) (by rfl) ?hyz124 hHeld ?restz124; (case hyz124 => intro o ho; simp only [List.getElem?_toArray, List.getElem?_cons_succ, List.getElem?_cons_zero, Option.some.injEq] at ho; subst ho; rintro _ ⟨nw, rfl⟩; first | (go_simp; done) | (go_simp; with_reducible rfl)))
                     try simp only [Act.put, List.setIfInBounds_toArray, List.set_cons_zero, List.set_cons_succ]
                     as_aux_lemma =>
                      first | (refine h_skip (i := 8) (d := (some 166)) (by rfl) (by kernel_rfl) (by kernel_rfl) (by kernel_rfl) (fun _ _ _ h => h) (by rfl) hHeld ?_) | (refine h_take (i := 8) (d := (some 166)) (v := ?vz125) (by rfl) (by kernel_rfl) (by kernel_rfl) (by kernel_rfl) (fun _ _ _ h => h) (by rfl) ?hyz125 hHeld ?restz125; (case hyz125 => intro o ho; simp only [List.getElem?_toArray, List.getElem?_cons_succ, List.getElem?_cons_zero, Option.some.injEq] at ho; subst ho; rintro _ ⟨nw, rfl⟩; first | (go_simp; done) | (go_simp; with_reducible rfl)))
                      try simp only [Act.put, List.setIfInBounds_toArray, List.set_cons_zero, List.set_cons_succ]
                      as_aux_lemma =>
                       first | (refine h_skip (i := 9) (d := (some 167)) (by rfl) (by kernel_rfl) (by kernel_rfl) (by kernel_rfl) (fun _ _ _ h => h) (by rfl) hHeld ?_) | (refine h_take (i := 9) (d := (some 167)) (v := ?vz126) (by rfl) (by kernel_rfl) (by kernel_rfl) (by kernel_rfl) (fun _ _ _ h => h) (by rfl) ?hyz126 hHeld ?restz126; (case hyz126 => intro o ho; simp only [List.getElem?_toArray, List.getElem?_cons_succ, List.getElem?_cons_zero, Option.some.injEq] at ho; subst ho; rintro _ ⟨nw, rfl⟩; first | (go_simp; done) | (go_simp; with_reducible rfl)))
                       try simp only [Act.put, List.setIfInBounds_toArray, List.set_cons_zero, List.set_cons_succ]
                       as_aux_lemma =>
                        first | (refine h_skip (i := 10) (d := (some 168)) (by rfl) (by kernel_rfl) (by kernel_rfl) (by kernel_rfl) (fun _ _ _ h => h) (by rfl) hHeld ?_) | (refine h_take (i := 10) (d := (some 168)) (v := ?vz127) (by rfl) (by kernel_rfl) (by kernel_rfl) (by kernel_rfl) (fun _ _ _ h => h) (by rfl) ?hyz127 hHeld ?restz127; (case hyz127 => intro o ho; simp only [List.getElem?_toArray, List.getElem?_cons_succ, List.getElem?_cons_zero, Option.some.injEq] at ho; subst ho; rintro _ ⟨nw, rfl⟩; first | (go_simp; done) | (go_simp; with_reducible rfl)))
                        try simp only [Act.put, List.setIfInBounds_toArray, List.set_cons_zero, List.set_cons_succ]
                        as_aux_lemma =>
                         first | (refine h_skip (i := 11) (d := (some 169)) (by rfl) (by kernel_rfl) (by kernel_rfl) (by kernel_rfl) (fun _ _ _ h => h) (by rfl) hHeld ?_) | (refine h_take (i := 11) (d := (some 169)) (v := ?vz128) (by rfl) (by kernel_rfl) (by kernel_rfl) (by kernel_rfl) (fun _ _ _ h => h) (by rfl) ?hyz128 hHeld ?restz128; (case hyz128 => intro o ho; simp only [List.getElem?_toArray, List.getElem?_cons_succ, List.getElem?_cons_zero, Option.some.injEq] at ho; subst ho; rintro _ ⟨nw, rfl⟩; first | (go_simp; done) | (go_simp; with_reducible rfl)))
                         try simp only [Act.put, List.setIfInBounds_toArray, List.set_cons_zero, List.set_cons_succ]
                         as_aux_lemma =>
                          first | (refine h_skip (i := 14) (d := (some 172)) (by rfl) (by kernel_rfl) (by kernel_rfl) (by kernel_rfl) (fun _ _ _ h => h) (by rfl) hHeld ?_) | (refine h_take (i := 14) (d := (some 172)) (v := ?vz129) (by rfl) (by kernel_rfl) (by kernel_rfl) (by kernel_rfl) (fun _ _ _ h => h) (by rfl) ?hyz129 hHeld ?restz129; (case hyz129 => intro o ho; simp only [List.getElem?_toArray, List.getElem?_cons_succ, List.getElem?_cons_zero, Option.some.injEq] at ho; subst ho; rintro _ ⟨nw, rfl⟩; first | (go_simp; done) | (go_simp; with_reducible rfl)))
                          try simp only [Act.put, List.setIfInBounds_toArray, List.set_cons_zero, List.set_cons_succ]
                          as_aux_lemma =>
                           refine wpAnyH_ready (rs := [12]) (by kernel_rfl) (by simp) ?_
                           refine AllReadyH.cons rfl (fun K hK => ?_) AllReadyH.nil
                           go_simp
                           refine (hTO (by omega) _ _ (ir.below hcur) (hEr.below hcur) (hLr.below hcur)).mono ?_
                           rintro e wt ⟨rfl, hbq⟩
                           have hcur := below_after_of hcur hbq
                           clear hbq
                           refine hK.out _ _ ?_ (fun hHeld => ?_)
                           · exact after_mk hcur
                           clear hK K
                           first | (refine h_skip (i := 13) (d := (some 171)) (by rfl) (by kernel_rfl) (by kernel_rfl) (by kernel_rfl) (fun _ _ _ h => h) (by rfl) hHeld ?_) | (refine h_take (i := 13) (d := (some 171)) (v := ?vz130) (by rfl) (by kernel_rfl) (by kernel_rfl) (by kernel_rfl) (fun _ _ _ h => h) (by rfl) ?hyz130 hHeld ?restz130; (case hyz130 => intro o ho; simp only [List.getElem?_toArray, List.getElem?_cons_succ, List.getElem?_cons_zero, Option.some.injEq] at ho; subst ho; rintro _ ⟨nw, rfl⟩; first | (go_simp; done) | (go_simp; with_reducible rfl)))
                           try simp only [Act.put, List.setIfInBounds_toArray, List.set_cons_zero, List.set_cons_succ]
                           as_aux_lemma =>
                            first | (refine h_skip (i := 15) (d := (some 173)) (by rfl) (by kernel_rfl) (by kernel_rfl) (by kernel_rfl) (fun _ _ _ h => h) (by rfl) hHeld ?_) | (refine h_take (i := 15) (d := (some 173)) (v := ?vz131) (by rfl) (by kernel_rfl) (by kernel_rfl) (by kernel_rfl) (fun _ _ _ h => h) (by rfl) ?hyz131 hHeld ?restz131; (case hyz131 => intro o ho; simp only [List.getElem?_toArray, List.getElem?_cons_succ, List.getElem?_cons_zero, Option.some.injEq] at ho; subst ho; rintro _ ⟨nw, rfl⟩; first | (go_simp; done) | (go_simp; with_reducible rfl)))
                            try simp only [Act.put, List.setIfInBounds_toArray, List.set_cons_zero, List.set_cons_succ]
                            as_aux_lemma =>
                             first | (refine h_skip (i := 16) (d := (some 174)) (by rfl) (by kernel_rfl) (by kernel_rfl) (by kernel_rfl) (fun _ _ _ h => h) (by rfl) hHeld ?_) | (refine h_take (i := 16) (d := (some 174)) (v := ?vz132) (by rfl) (by kernel_rfl) (by kernel_rfl) (by kernel_rfl) (fun _ _ _ h => h) (by rfl) ?hyz132 hHeld ?restz132; (case hyz132 => intro o ho; simp only [List.getElem?_toArray, List.getElem?_cons_succ, List.getElem?_cons_zero, Option.some.injEq] at ho; subst ho; rintro _ ⟨nw, rfl⟩; first | (go_simp; done) | (go_simp; with_reducible rfl)))
                             try simp only [Act.put, List.setIfInBounds_toArray, List.set_cons_zero, List.set_cons_succ]
                             as_aux_lemma =>
                              refine h_take (i := 17) (d := (some 175)) (v := ?vz133) (by rfl) (by kernel_rfl) (by kernel_rfl) (by kernel_rfl) (fun _ _ _ h => h) (by rfl) ?hyz133 hHeld ?restz133
                              case hyz133 =>
                                intro o ho
                                simp only [List.getElem?_toArray, List.getElem?_cons_succ, List.getElem?_cons_zero, Option.some.injEq] at ho
                                subst ho
                                rintro _ ⟨nw, rfl⟩
                                first | (go_simp; done) | (go_simp; with_reducible rfl)
                              try simp only [Act.put, List.setIfInBounds_toArray, List.set_cons_zero, List.set_cons_succ]
                              as_aux_lemma =>
                               refine h_take (i := 18) (d := (some 176)) (v := ?vz134) (by rfl) (by kernel_rfl) (by kernel_rfl) (by kernel_rfl) (fun _ _ _ h => h) (by rfl) ?hyz134 hHeld ?restz134
                               case hyz134 =>
                                 intro o ho
                                 simp only [List.getElem?_toArray, List.getElem?_cons_succ, List.getElem?_cons_zero, Option.some.injEq] at ho
                                 subst ho
                                 rintro _ ⟨nw, rfl⟩
                                 first | (go_simp; done) | (go_simp; with_reducible rfl)
                               try simp only [Act.put, List.setIfInBounds_toArray, List.set_cons_zero, List.set_cons_succ]
                               as_aux_lemma =>
                                first | (refine h_skip (i := 19) (d := (some 177)) (by rfl) (by kernel_rfl) (by kernel_rfl) (by kernel_rfl) (fun _ _ _ h => h) (by rfl) hHeld ?_) | (refine h_take (i := 19) (d := (some 177)) (v := ?vz135) (by rfl) (by kernel_rfl) (by kernel_rfl) (by kernel_rfl) (fun _ _ _ h => h) (by rfl) ?hyz135 hHeld ?restz135; (case hyz135 => intro o ho; simp only [List.getElem?_toArray, List.getElem?_cons_succ, List.getElem?_cons_zero, Option.some.injEq] at ho; subst ho; rintro _ ⟨nw, rfl⟩; first | (go_simp; done) | (go_simp; with_reducible rfl)))
                                try simp only [Act.put, List.setIfInBounds_toArray, List.set_cons_zero, List.set_cons_succ]
                                as_aux_lemma =>
                                 first | (refine h_skip (i := 20) (d := (some 178)) (by rfl) (by kernel_rfl) (by kernel_rfl) (by kernel_rfl) (fun _ _ _ h => h) (by rfl) hHeld ?_) | (refine h_take (i := 20) (d := (some 178)) (v := ?vz136) (by rfl) (by kernel_rfl) (by kernel_rfl) (by kernel_rfl) (fun _ _ _ h => h) (by rfl) ?hyz136 hHeld ?restz136; (case hyz136 => intro o ho; simp only [List.getElem?_toArray, List.getElem?_cons_succ, List.getElem?_cons_zero, Option.some.injEq] at ho; subst ho; rintro _ ⟨nw, rfl⟩; first | (go_simp; done) | (go_simp; with_reducible rfl)))
                                 try simp only [Act.put, List.setIfInBounds_toArray, List.set_cons_zero, List.set_cons_succ]
                                 as_aux_lemma =>
                                  first | (refine h_skip (i := 21) (d := (some 179)) (by rfl) (by kernel_rfl) (by kernel_rfl) (by kernel_rfl) (fun _ _ _ h => h) (by rfl) hHeld ?_) | (refine h_take (i := 21) (d := (some 179)) (v := ?vz137) (by rfl) (by kernel_rfl) (by kernel_rfl) (by kernel_rfl) (fun _ _ _ h => h) (by rfl) ?hyz137 hHeld ?restz137; (case hyz137 => intro o ho; simp only [List.getElem?_toArray, List.getElem?_cons_succ, List.getElem?_cons_zero, Option.some.injEq] at ho; subst ho; rintro _ ⟨nw, rfl⟩; first | (go_simp; done) | (go_simp; with_reducible rfl)))
                                  try simp only [Act.put, List.setIfInBounds_toArray, List.set_cons_zero, List.set_cons_succ]
                                  as_aux_lemma =>
                                   refine wpAnyH_ready (rs := [22]) (by kernel_rfl) (by simp) ?_
                                   refine AllReadyH.cons rfl (fun K hK => ?_) AllReadyH.nil
                                   go_simp
                                   refine (hR1 _).mono ?_
                                   rintro e wq ⟨aq, cq, rfl, hbq, iq⟩
                                   have hcur := below_after_of hcur hbq
                                   clear hbq
                                   refine hK.out _ _ ?_ (fun hHeld => ?_)
                                   · exact after_mk hcur
                                   clear hK K
                                   first | (refine h_skip (i := 23) (d := (some 181)) (by rfl) (by kernel_rfl) (by kernel_rfl) (by kernel_rfl) (fun _ _ _ h => h) (by rfl) hHeld ?_) | (refine h_take (i := 23) (d := (some 181)) (v := ?vz138) (by rfl) (by kernel_rfl) (by kernel_rfl) (by kernel_rfl) (fun _ _ _ h => h) (by rfl) ?hyz138 hHeld ?restz138; (case hyz138 => intro o ho; simp only [List.getElem?_toArray, List.getElem?_cons_succ, List.getElem?_cons_zero, Option.some.injEq] at ho; subst ho; rintro _ ⟨nw, rfl⟩; first | (go_simp; done) | (go_simp; with_reducible rfl)))
                                   try simp only [Act.put, List.setIfInBounds_toArray, List.set_cons_zero, List.set_cons_succ]
                                   as_aux_lemma =>
                                    refine wpAnyH_ready (rs := [24]) (by kernel_rfl) (by simp) ?_
                                    refine AllReadyH.cons rfl (fun K hK => ?_) AllReadyH.nil
                                    go_simp
                                    refine (lwNums_any _ _ rl rl _ (ir.below hcur) iq (by have := HN.out; omega) (by have := HN.out; omega)).mono ?_
                                    rintro e wq2 ⟨rfl, nq, rfl⟩
                                    have hcur := below_drewN hcur nq
                                    refine hK.out _ _ ?_ (fun hHeld => ?_)
                                    · exact after_mk hcur
                                    clear hK K
                                    refine h_take (i := 25) (d := (some 183)) (v := ?vz139) (by rfl) (by kernel_rfl) (by kernel_rfl) (by kernel_rfl) (fun _ _ _ h => h) (by rfl) ?hyz139 hHeld ?restz139
                                    case hyz139 =>
                                      intro o ho
                                      simp only [List.getElem?_toArray, List.getElem?_cons_succ, List.getElem?_cons_zero, Option.some.injEq] at ho
                                      subst ho
                                      rintro _ ⟨nw, rfl⟩
                                      first | (go_simp; done) | (go_simp; with_reducible rfl)
                                    try simp only [Act.put, List.setIfInBounds_toArray, List.set_cons_zero, List.set_cons_succ]
                                    as_aux_lemma =>
                                     refine h_take (i := 26) (d := (some 2)) (v := ?vz140) (by rfl) (by kernel_rfl) (by kernel_rfl) (by kernel_rfl) (fun _ _ _ h => h) (by rfl) ?hyz140 hHeld ?restz140
                                     case hyz140 =>
                                       intro o ho
                                       simp only [List.getElem?_toArray, List.getElem?_cons_succ, List.getElem?_cons_zero, Option.some.injEq] at ho
                                       subst ho
                                       rintro _ ⟨nw, rfl⟩
                                       first | (go_simp; done) | (go_simp; with_reducible rfl)
                                     try simp only [Act.put, List.setIfInBounds_toArray, List.set_cons_zero, List.set_cons_succ]
                                     as_aux_lemma =>
                                      refine wpAnyH_done (by kernel_rfl) ?_ _
                                      go_wp2
                                      go_ret
                                      exact ⟨rfl, below_after_of hBr hcur⟩
      · have hrc := rP_codes HRC.out hr0
        have mk : Hid (∀ w', Below wc.heap.size wc w' → Below wc.heap.size wc w' ∧ w'.cell? ⟨w2.heap.size, 0, none⟩ = some (.int .i64 rc)) :=
          fun w' hb => ⟨hb, (hb.cell (p := ⟨_, _, none⟩) P9.1).trans p0⟩
        have hii : ∀ i : Int, (i == i) = true := by simp
        clear HRC HRL HTC HTT hE9 hL9 hr0
        rcases hrc with rfl | rfl
        · go_wp2_with fail
          go_region_held3 (fun w' => Below wc.heap.size wc w' ∧ w'.cell? ⟨w2.heap.size, 0, none⟩ = some (.int .i64 2))
            (first | exact mk.out _ (Below.refl _ _).drew | (go_split_ands; exact mk.out _ (keep_call hbq (by assumption))))
            ((go_at_call 18; refine (hSR _).mono ?_; intro e wq h9; obtain ⟨aq, cq, rfl, hbq, ownq⟩ := h9.use; clear h9 ownq))
          go_split_ands
          go_wp2
          go_ret
          exact ⟨rfl, below_after_of hB9 (by assumption)⟩
        · go_wp2_with fail
          go_region_held3 (fun w' => Below wc.heap.size wc w' ∧ w'.cell? ⟨w2.heap.size, 0, none⟩ = some (.int .i64 5))
            (first | exact mk.out _ (Below.refl _ _).drew | (go_split_ands; exact mk.out _ (keep_call hbq (by assumption))))
            ((go_at_call 18; refine (hSR _).mono ?_; intro e wq h9; obtain ⟨aq, cq, rfl, hbq, ownq⟩ := h9.use; clear h9 ownq))
          go_split_ands
          go_wp2
          go_ret
          exact ⟨rfl, below_after_of hB9 (by assumption)⟩
set_option maxRecDepth 100000 in
set_option maxHeartbeats 1000000 in
theorem fnRunes_walk (v : Value) (xs : List Int) (w : World) (hv : Ints .u8 w v xs) (hx : xs.length ≤ maxLen) (hw : ∀ n ∈ xs, (Lit.int .u8 n).wf = true) (hE : Ends w) (hL : Leads w) :
    Calls Tryd.prog 3 #[v] w fun e w' => e = .returned (.bool true) ∧ Below w.heap.size w w' := by
  by_cases h : xs.length ≤ 1048576
  · exact fnRunes_small v xs w ⟨hv, h, hw⟩ (ints_far hv) hE hL
  · obtain ⟨a, c, rfl⟩ := hv.shape
    have hlb := fun w => lwBig_any a xs.length c w hx
    rw [show decide (1048576 < xs.length) = true by simp; omega] at hlb
    generalize xs.length = n at *
    clear hv hE hL hw
    go_enter Tryd.func3, Tryd.ntmps3
    go_wp2_with fail
    refine (hlb _).mono ?_
    rintro e w0 ⟨rfl, rfl⟩
    clear hlb
    go_wp2
    go_ret
    exact ⟨rfl, Below.refl _ _⟩
end U
end Go.Proofs.YtjkhhcpiladidaaDoor
