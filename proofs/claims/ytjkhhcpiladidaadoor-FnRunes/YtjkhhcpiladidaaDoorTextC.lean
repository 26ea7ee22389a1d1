/- What both TextOf answer. -/
import Derived.Test.YtjkhhcpiladidaaDoorTextB
namespace Go.Proofs.YtjkhhcpiladidaaDoor
open Go.RowKit
namespace U
def textC (xs : List Int) : Int := if 50 < xs.length then 2 else if xs.all runeB = true then 0 else 3
def textL (xs : List Int) : List Int := if 50 < xs.length then [] else if xs.all runeB = true then xs.flatMap encB else []
theorem text_many {xs : List Int} (h : 50 < xs.length) : textC xs = 2 ∧ textL xs = [] := by simp [textC, textL, h]
theorem text_no {xs : List Int} (h : ¬ 50 < xs.length) (h2 : xs.all runeB = false) : textC xs = 3 ∧ textL xs = [] := by simp [textC, textL, h, h2]
theorem text_ok {xs : List Int} (h : ¬ 50 < xs.length) (h2 : xs.all runeB = true) : textC xs = 0 ∧ textL xs = xs.flatMap encB := by unfold textC textL; rw [if_neg h, if_pos h2, if_neg h, if_pos h2]; exact ⟨rfl, rfl⟩
/-- The code points below a place, all of them such, and their bytes. -/
def sofar (xs : List Int) (k : Nat) : List Int := (xs.take k).flatMap encB
theorem take_snoc {xs : List Int} {k : Nat} (h : k < xs.length) : xs.take (k + 1) = xs.take k ++ [xs.getD k 0] := by
  rw [List.take_succ_eq_append_getElem h, getD_eq h]
theorem sofar_succ {xs : List Int} {k : Nat} (h : k < xs.length) : sofar xs (k + 1) = sofar xs k ++ encB (xs.getD k 0) := by
  unfold sofar
  rw [take_snoc h, List.flatMap_append]
  simp
theorem sofar_len (xs : List Int) (k : Nat) : (sofar xs k).length ≤ 4 * k := by
  unfold sofar
  have key : ∀ ys : List Int, (ys.flatMap encB).length ≤ 4 * ys.length := by
    intro ys
    induction ys with
    | nil => simp
    | cons y ys ih => have := enc_len y; simp only [List.flatMap_cons, List.length_append, List.length_cons]; omega
  have h1 := key (xs.take k)
  have h2 : (xs.take k).length ≤ k := List.length_take_le _ _
  omega
theorem sofar_all (xs : List Int) : sofar xs xs.length = xs.flatMap encB := by unfold sofar; rw [List.take_length]
def AllB (xs : List Int) (k : Nat) : Prop := ∀ j, j < k → runeB (xs.getD j 0) = true
theorem AllB.succ {xs : List Int} {k : Nat} (h : AllB xs k) (h1 : runeB (xs.getD k 0) = true) : AllB xs (k + 1) := by
  intro j hj
  by_cases e : j = k
  · subst e; exact h1
  · exact h j (by omega)
theorem AllB.all {xs : List Int} (h : AllB xs xs.length) : xs.all runeB = true := by
  rw [List.all_eq_true]
  intro x hx
  obtain ⟨j, hj, rfl⟩ := List.getElem_of_mem hx
  have := h j hj
  rwa [getD_eq hj] at this
theorem all_no {xs : List Int} {k : Nat} (hk : k < xs.length) (h : runeB (xs.getD k 0) = false) : xs.all runeB = false := by
  rw [getD_eq hk] at h
  rw [Bool.eq_false_iff]
  intro h2
  rw [List.all_eq_true] at h2
  rw [h2 _ (List.getElem_mem hk)] at h
  cases h
theorem flat_bd {xs : List Int} (h : xs.all runeB = true) : ∀ b ∈ xs.flatMap encB, 0 ≤ b ∧ b ≤ 255 := by
  intro b hb
  rw [List.mem_flatMap] at hb
  obtain ⟨x, hx, hb⟩ := hb
  rw [List.all_eq_true] at h
  have := (runeB_iff x).1 (h x hx)
  exact enc_bd x this.1.1 this.1.2 b hb
/-- The answer of a function that hands back a code and a text. -/
def TextAns (w : World) (code : Int) (t : ByteArray) (e : Ending) (w' : World) : Prop := e = .returned (.agg #[.int .i64 code, .string t]) ∧ Below w.heap.size w w'

set_option maxRecDepth 100000 in
set_option maxHeartbeats 2000000 in
theorem specTextOf_core (b off c n : Nat) (xs : List Int) (w : World) (HN : Hid (xs.length = n)) (hn : n ≤ 50) (hb : b < w.heap.size) (hc : ∀ j, j < n → w.cell? ⟨b, off + j, none⟩ = some (.int .i64 (xs.getD j 0))) :
    Calls Tryd.prog 16 #[.slice (some ⟨b, off, none⟩) n c] w fun e w' => TextAns w (textC xs) (strOf (textL xs)) e w' := by
  obtain ⟨i0, hi, hz0, hz1, hz2⟩ := info_parts Tryd.infoU8
  go_enter Tryd.func16, Tryd.ntmps16
  go_wp2
  go_loopw [3, 4] (fun v i wr => ∃ k : Nat, k ≤ n ∧ i = .int .i64 k ∧ Hid (AllB xs k) ∧ wr.heap[w.heap.size]? = some (.cells #[.int .i64 0, .string ⟨#[]⟩] 31 (0, 0)) ∧ Below w.heap.size w wr ∧ wr.ownsRow (w.heap.size + 1) 5 1 v (sofar xs k).length ((sofar xs k).map (Value.int .u8))) (fun _ i _ => n - (intOf i).toNat)
  case atStart =>
    refine ⟨0, Nat.zero_le _, rfl, fun j hj => by omega, ?_, two_new _ _, ?_⟩
    · rw [Below.heap_alloc _ _ _ (by simp)]; exact heap_alloc_new w _
    · have := World.ownsRow_lit (base := w.heap.size + 1) (e := 5) (size := 1) (w.alloc (.cells #[.int .i64 0, .string ⟨#[]⟩] 31)) #[] 0 (by simp) (by decide) rfl
      simpa [sofar] using this
  case round =>
    obtain ⟨k, hk, rfl, hA, hres, hB, hown⟩ := hrel
    obtain ⟨hc0, hc1, hf0, hf1⟩ := two_cells hres
    have hsz : w.heap.size < wr.heap.size := (Array.getElem?_eq_some_iff.1 hres).1
    by_cases hkn : k < n
    · have hki : (k : Int) < (n : Int) := by omega
      have hck := (hB.cell (p := ⟨b, off + k, none⟩) hb).trans (hc k hkn)
      have hxl : k < xs.length := by have := HN.out; omega
      obtain ⟨x, hx⟩ : ∃ x, x = xs.getD k 0 := ⟨_, rfl⟩
      have HX : Hid (x = xs.getD k 0) := hx
      rw [← hx] at hck
      clear hx hc
      rcases Bool.eq_false_or_eq_true (runeB x) with hr | hr
      · have hr2 := (runeB_iff x).1 hr
        have hsl := sofar_len xs k
        have hel := enc_len x
        go_wp2_with (first
          | (go_at_call 37; refine (l1Rune_any _ _).mono ?_; rintro e w' ⟨rfl, rfl⟩)
          | (go_at_call 38; refine (l1Bytes_any _ _ hr2.1.1 hr2.1.2).mono ?_; rintro e w' ⟨rfl, rfl⟩)
          | (at_builtin; refine wpList_append_own _ rfl _ _ 22 rfl (w.heap.size + 1) 5 i0 (.int .u8 0) 1 1 Tryd.underlying22 hi hz0 hz1 hz2 rfl (by decide) _ _ _ rfl (hown.alloc _) ⟨_, 0, none⟩ (encB x).length (encB x).length ((encB x).map (Value.int .u8)) rfl (by simp) (World.news_of_block (heap_alloc_new _ _)) (ints_oneCell _ _) (by unfold maxLen; omega) (by omega) (by simp; omega) ?_))
        intro v' w1 hown' hgrow _
        have hb1 : Below w.heap.size w w1 := (hB.alloc (by omega) _).grown hgrow (by simp; omega) (fun g hg => Nat.le_trans (by omega) (hown.lt g hg).1)
        have hres1 : w1.heap[w.heap.size]? = some (.cells #[.int .i64 0, .string ⟨#[]⟩] 31 (0, 0)) := (hgrow.block _ (by simp; omega) (fun e => by have := (hown.lt _ e.symm).1; omega)).trans ((Below.heap_alloc _ _ _ hsz).trans hres)
        clear hgrow hown hres hB hc0 hc1 hf0 hf1
        go_wp2
        go_roundw
        case rel =>
          refine ⟨k + 1, by omega, by go_num, hA.out.succ (by rw [← HX.out]; exact hr), hres1, hb1, ?_⟩
          rw [sofar_succ hxl, ← HX.out, List.map_append, List.length_append]
          exact hown'
        case measure => simp [intOf]; omega
      · have e := text_no (xs := xs) (by have := HN.out; omega) (all_no hxl (by rw [← HX.out]; exact hr))
        go_wp2_with (go_at_call 37; refine (l1Rune_any _ _).mono ?_; rintro e w' ⟨rfl, rfl⟩)
        exact bodyPost_ret (v := .agg #[.int .i64 3, .string ⟨#[]⟩]) (by simp [results, Tryd.results16, go_sem, hc0, hc1]) rfl (by rw [e.1, e.2]; exact ⟨rfl, (hB.setCell (Nat.le_refl _) _).setCell (Nat.le_refl _) _⟩)
    · have hkn : k = n := by omega
      subst hkn
      have hall : xs.all runeB = true := AllB.all (by rw [HN.out]; exact hA.out)
      have e := text_ok (xs := xs) (by have := HN.out; omega) hall
      have hcv := conv_own (P := Tryd.prog) 22 9 Tryd.underlying22 Tryd.underlying5 Tryd.underlying9 hown (by rw [← HN.out, sofar_all]; exact flat_bd hall)
      have HE : Hid (strOf (sofar xs k) = strOf (textL xs)) := by show _ = _; rw [e.2, ← HN.out, sofar_all]
      have HC : Hid (textC xs = 0) := e.1
      clear e hall hown hc
      go_wp2
      exact bodyPost_ret (v := .agg #[.int .i64 0, .string (strOf (sofar xs k))]) (by simp [results, Tryd.results16, go_sem, hc0, hc1]) rfl (by rw [HC.out, ← HE.out]; exact ⟨rfl, (hB.setCell (Nat.le_refl _) _).setCell (Nat.le_refl _) _⟩)
set_option maxRecDepth 100000 in
set_option maxHeartbeats 1000000 in
theorem specTextOf_any (v : Value) (xs : List Int) (w : World) (hv : Ints .i64 w v xs) (hx : xs.length ≤ 1099511627776) :
    Calls Tryd.prog 16 #[v] w fun e w' => TextAns w (textC xs) (strOf (textL xs)) e w' := by
  obtain ⟨a, c, rfl⟩ := hv.shape
  by_cases h50 : 50 < xs.length
  · have e := text_many h50
    rw [e.1, e.2]
    generalize xs.length = n at *
    clear hv e
    go_enter Tryd.func16, Tryd.ntmps16
    go_wp2
    exact bodyPost_ret (v := .agg #[.int .i64 2, .string ⟨#[]⟩]) (by simp [results, Tryd.results16, go_sem]) rfl ⟨rfl, one_new _⟩
  · by_cases h0 : 0 < xs.length
    · obtain ⟨_, b, off, rfl, hb, hc⟩ := hv.at h0
      exact specTextOf_core b off c xs.length xs w rfl (by omega) hb hc
    · have e1 : xs = [] := List.eq_nil_of_length_eq_zero (by omega)
      subst e1
      have e := text_ok (xs := []) (by simp) rfl
      rw [e.1, e.2]
      simp only [List.length_nil, List.flatMap_nil]
      have hcv := conv_back (P := Tryd.prog) ((w.alloc (.cells #[.int .i64 0, .string ⟨#[]⟩] 31)).alloc (.cells #[] 5)) 22 9 5 (w.heap.size + 1) 0 0 ⟨#[]⟩ Tryd.underlying22 Tryd.underlying5 Tryd.underlying9 (fun j hj => absurd hj (Nat.not_lt_zero j))
      have hcv2 : (convert 22 9 (.slice (some ⟨w.heap.size + 1, 0, none⟩) 0 0)).run Tryd.prog ((w.alloc (.cells #[.int .i64 0, .string ⟨#[]⟩] 31)).alloc (.cells #[] 5)) = _ := hcv
      clear hv h50 h0 hx e hcv
      go_enter Tryd.func16, Tryd.ntmps16
      go_wp2
      refine wp_loop_rounds 1 ?_; rw [rounds_succ]
      go_wp2
      exact bodyPost_ret (v := .agg #[.int .i64 0, .string ⟨#[]⟩]) (by simp [results, Tryd.results16, go_sem]) rfl ⟨rfl, two_new _ _⟩

set_option maxRecDepth 100000 in
set_option maxHeartbeats 4000000 in
theorem implTextOf_core (b off c n : Nat) (xs : List Int) (w : World) (HN : Hid (xs.length = n)) (hn : n ≤ 50) (hb : b < w.heap.size) (hc : ∀ j, j < n → w.cell? ⟨b, off + j, none⟩ = some (.int .i64 (xs.getD j 0))) (hE : Ends w) (hL : Leads w) :
    Calls Tryd.prog 10 #[.slice (some ⟨b, off, none⟩) n c] w fun e w' => TextAns w (textC xs) (strOf (textL xs)) e w' := by
  have hgl := hL.1
  go_enter Tryd.func10, Tryd.ntmps10
  go_wp2
  go_loopw [3, 13] (fun v i wr => ∃ k : Nat, k ≤ n ∧ i = .int .i64 k ∧ Hid (AllB xs k) ∧ wr.heap[w.heap.size]? = some (.cells #[.int .i64 0, .string ⟨#[]⟩] 31 (0, 0)) ∧ Below w.heap.size w wr ∧ wr.ownsRow (w.heap.size + 1) 5 1 v (sofar xs k).length ((sofar xs k).map (Value.int .u8))) (fun _ i _ => n - (intOf i).toNat)
  case atStart => exact ⟨0, Nat.zero_le _, rfl, fun j hj => by omega, heap_alloc_new w _, one_new _, World.ownsRow_nil _ _ _ _⟩
  case round =>
    obtain ⟨k, hk, rfl, hA, hres, hB, hown⟩ := hrel
    have hsz : w.heap.size < wr.heap.size := (Array.getElem?_eq_some_iff.1 hres).1
    by_cases hkn : k < n
    · have hki : (k : Int) < (n : Int) := by omega
      have hck := (hB.cell (p := ⟨b, off + k, none⟩) hb).trans (hc k hkn)
      have hxl : k < xs.length := by have := HN.out; omega
      have hEr := hE.below hB
      have hLr := hL.below hB
      obtain ⟨x, hx⟩ : ∃ x, x = xs.getD k 0 := ⟨_, rfl⟩
      have HX : Hid (x = xs.getD k 0) := hx
      rw [← hx] at hck
      clear hx hc hE hL
      rcases Bool.eq_false_or_eq_true (runeB x) with hr | hr
      · have hr2 := (runeB_iff x).1 hr
        have hsv := sz_yes hr
        have hS := implSizeOf_any x wr hEr
        rw [hsv.1, hsv.2] at hS
        have hsl := sofar_len xs k
        clear hsv
        go_wp2_with fail
        refine hS.mono ?_
        rintro e w2 ⟨rfl, hb2⟩
        have hlt2 := hb2.size
        clear hS
        go_wp2_with fail
        refine (appendRune_any (w.heap.size + 1) _ (sofar xs k) x _ ((own_below hown hb2).alloc _) (by omega) (by simp; omega) (by omega) ((hLr.below hb2).below (one_new _)) hr2.1.1 hr2.1.2).mono ?_
        rintro e w3 ⟨v3, rfl, hown3, hb3⟩
        have hlt3 := hb3.size
        have hres3 : w3.heap[w.heap.size]? = some (.cells #[.int .i64 0, .string ⟨#[]⟩] 31 (0, 0)) := (hb3.block _ (by omega)).trans ((Below.heap_alloc _ _ _ (by omega)).trans ((hb2.block _ hsz).trans hres))
        have hB3 : Below w.heap.size w w3 := hB.trans ((hb2.mono (by omega)).trans (((one_new _).mono (by omega)).trans (hb3.mono (by omega))))
        rw [HX.out, ← sofar_succ hxl] at hown3
        clear hb2 hb3 hres hB hown hlt2 hlt3 hEr hLr hck
        go_wp2
        go_roundw
        case rel => exact ⟨k + 1, by omega, by go_num, hA.out.succ (by rw [← HX.out]; exact hr), hres3, hB3, hown3⟩
        case measure => simp [intOf]; omega
      · have e := text_no (xs := xs) (by have := HN.out; omega) (all_no hxl (by rw [← HX.out]; exact hr))
        have hsv := sz_no hr
        have hS := implSizeOf_any x wr hEr
        rw [hsv.1, hsv.2] at hS
        clear hsv
        go_wp2_with fail
        refine hS.mono ?_
        rintro e w2 ⟨rfl, hb2⟩
        obtain ⟨hc0, hc1, hf0, hf1⟩ := two_cells ((hb2.block _ hsz).trans hres)
        have hlt2 := hb2.size
        have hsz2 : w.heap.size < w2.heap.size := by omega
        clear hS
        go_wp2
        exact bodyPost_ret (v := .agg #[.int .i64 3, .string ⟨#[]⟩]) (by simp [results, Tryd.results10, go_sem, hc0, hc1, hsz2]) rfl (by rw [e.1, e.2]; exact ⟨rfl, ((((hB.trans (hb2.mono (by omega))).setCell (Nat.le_refl _) _).setCell (Nat.le_refl _) _)).alloc (by simp; omega) _⟩)
    · obtain ⟨hc0, hc1, hf0, hf1⟩ := two_cells hres
      have hkn : k = n := by omega
      subst hkn
      have hall : xs.all runeB = true := AllB.all (by rw [HN.out]; exact hA.out)
      have e := text_ok (xs := xs) (by have := HN.out; omega) hall
      have hcv := conv_own (P := Tryd.prog) 22 9 Tryd.underlying22 Tryd.underlying5 Tryd.underlying9 hown (by rw [← HN.out, sofar_all]; exact flat_bd hall)
      have HE : Hid (strOf (sofar xs k) = strOf (textL xs)) := by show _ = _; rw [e.2, ← HN.out, sofar_all]
      have HC : Hid (textC xs = 0) := e.1
      clear e hall hown hc hE hL
      go_wp2
      exact bodyPost_ret (v := .agg #[.int .i64 0, .string (strOf (sofar xs k))]) (by simp [results, Tryd.results10, go_sem, hc0, hc1]) rfl (by rw [HC.out, ← HE.out]; exact ⟨rfl, (hB.setCell (Nat.le_refl _) _).setCell (Nat.le_refl _) _⟩)
set_option maxRecDepth 100000 in
set_option maxHeartbeats 1000000 in
theorem implTextOf_any (v : Value) (xs : List Int) (w : World) (hv : Ints .i64 w v xs) (hx : xs.length ≤ 1099511627776) (hE : Ends w) (hL : Leads w) :
    Calls Tryd.prog 10 #[v] w fun e w' => TextAns w (textC xs) (strOf (textL xs)) e w' := by
  obtain ⟨a, c, rfl⟩ := hv.shape
  by_cases h50 : 50 < xs.length
  · have e := text_many h50
    rw [e.1, e.2]
    generalize xs.length = n at *
    clear hv e hE hL
    go_enter Tryd.func10, Tryd.ntmps10
    go_wp2
    exact bodyPost_ret (v := .agg #[.int .i64 2, .string ⟨#[]⟩]) (by simp [results, Tryd.results10, go_sem]) rfl ⟨rfl, one_new _⟩
  · by_cases h0 : 0 < xs.length
    · obtain ⟨_, b, off, rfl, hb, hc⟩ := hv.at h0
      exact implTextOf_core b off c xs.length xs w rfl (by omega) hb hc hE hL
    · have e1 : xs = [] := List.eq_nil_of_length_eq_zero (by omega)
      subst e1
      have e := text_ok (xs := []) (by simp) rfl
      rw [e.1, e.2]
      simp only [List.length_nil, List.flatMap_nil]
      have hcv := Lib.run_convert_nil_bytes (P := Tryd.prog) (w.alloc (.cells #[.int .i64 0, .string ⟨#[]⟩] 31)) 22 9 5 0 Tryd.underlying22 Tryd.underlying5 Tryd.underlying9
      clear hv h50 h0 hx e hE hL
      go_enter Tryd.func10, Tryd.ntmps10
      go_wp2
      refine wp_loop_rounds 1 ?_; rw [rounds_succ]
      go_wp2
      exact bodyPost_ret (v := .agg #[.int .i64 0, .string ⟨#[]⟩]) (by simp [results, Tryd.results10, go_sem]) rfl ⟨rfl, one_new _⟩
end U
end Go.Proofs.YtjkhhcpiladidaaDoor
