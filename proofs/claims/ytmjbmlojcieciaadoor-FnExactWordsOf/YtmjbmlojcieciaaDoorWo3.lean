/- The words of a line: what the program answers. -/
import Derived.Test.YtmjbmlojcieciaaDoorWo2
import Derived.Test.YtmjbmlojcieciaaDoorOwn
import Derived.Test.YtmjbmlojcieciaaDoorRnd
import Derived.Deep.AppendLies
namespace Go.Proofs.YtmjbmlojcieciaaDoor
open Go.RowKit Go.Shelf
namespace U
attribute [local go_sem] Oper.semAt_some
theorem Tryd.infoSw : (Tryd.prog.info? 9).map (fun i => (i.zero, i.size, i.bytes)) = some (some (.string ByteArray.empty), 1, 16) := by kernel_rfl
/-- A line's words: its pieces that are not empty. -/
def wordB (x : ByteArray) : Bool := !x.toList.isEmpty
def wordsB (l : List ByteArray) : List ByteArray := l.filter wordB
theorem words_hit (l : List ByteArray) {x : ByteArray} (h : wordB x = true) : wordsB (l ++ [x]) = wordsB l ++ [x] := by simp [wordsB, h]
theorem words_miss (l : List ByteArray) {x : ByteArray} (h : wordB x = false) : wordsB (l ++ [x]) = wordsB l := by simp [wordsB, h]
/-- What is answered: words of one's own. -/
structure WordsAns (w : World) (xs : List ByteArray) (e : Ending) (w' : World) : Prop where
  b : Below w.heap.size w w'
  ex : ∃ v, e = .returned (.agg #[.int .i64 0, v]) ∧ w'.ownsRow w.heap.size 9 1 v xs.length (xs.map Value.string)
theorem WordsAns.use {w : World} {xs : List ByteArray} {e : Ending} {w' : World} (h : WordsAns w xs e w') : ∃ a c, e = .returned (.agg #[.int .i64 0, .slice a xs.length c]) ∧ Below w.heap.size w w' ∧ w'.ownsRow w.heap.size 9 1 (.slice a xs.length c) xs.length (xs.map Value.string) := by
  obtain ⟨hb, v, rfl, ho⟩ := h
  obtain ⟨a, c, rfl⟩ := own_shape ho
  exact ⟨a, c, rfl, hb, ho⟩
set_option maxRecDepth 100000 in
set_option maxHeartbeats 2000000 in
theorem splitSeq_any (s : ByteArray) (w : World) :
    Calls Tryd.prog 38 #[.string s, .string ⟨#[32]⟩, .int .i64 0] w fun e w' => e = .returned (.func (.func 63) #[] #[.pointer (some ⟨w.heap.size + 1, 0, none⟩), .pointer (some ⟨w.heap.size, 0, none⟩), .pointer (some ⟨w.heap.size + 1 + 1, 0, none⟩)]) ∧
      w' = ((w.alloc (.cells #[.string s] 9)).alloc (.cells #[.string ⟨#[32]⟩] 9)).alloc (.cells #[.int .i64 0] 3) := by
  go_enter Tryd.func38, Tryd.ntmps38
  go_wp2
  go_ret
  exact ⟨rfl, rfl⟩
set_option maxRecDepth 100000 in
set_option maxHeartbeats 2000000 in
theorem splitSeqX_any (s : ByteArray) (w : World) :
    Calls Tryd.prog 20 #[.string s, .string ⟨#[32]⟩] w fun e w' => e = .returned (.func (.func 63) #[] #[.pointer (some ⟨w.heap.size + 1, 0, none⟩), .pointer (some ⟨w.heap.size, 0, none⟩), .pointer (some ⟨w.heap.size + 1 + 1, 0, none⟩)]) ∧
      w' = ((w.alloc (.cells #[.string s] 9)).alloc (.cells #[.string ⟨#[32]⟩] 9)).alloc (.cells #[.int .i64 0] 3) := by
  have hS := fun w => splitSeq_any s w
  go_enter Tryd.func20, Tryd.ntmps20
  go_wp2_with fail
  refine (hS _).mono ?_
  rintro e w1 ⟨rfl, rfl⟩
  go_wp2
  go_ret
  exact ⟨rfl, rfl⟩
set_option maxRecDepth 100000 in
set_option maxHeartbeats 2000000 in
theorem cloneW_any (s : ByteArray) (w : World) (hs : s.size ≤ 1048576) :
    Calls Tryd.prog 21 #[.string s] w fun e w' => e = .returned (.string s) ∧ Below w.heap.size w w' := by
  have hC := fun w => Tryd.stringslite_Clone s w (by omega)
  go_enter Tryd.func21, Tryd.ntmps21
  go_wp2_with fail
  refine (hC _).mono ?_
  rintro e w1 ⟨rfl, hb⟩
  go_wp2
  go_ret
  exact ⟨rfl, hb⟩
theorem own_cellsW {w : World} {B n size : Nat} {e : TypeId} {v : Value} {xs : List Value} {g : Nat} (h : w.ownsRow B e size v n xs) (hg : v.ownBlock = some g) : ∃ cur, w.heap[g]? = some (.cells cur e) := by
  rcases h.2 with ⟨rfl, _⟩ | ⟨g', cap, cur, rfl, _, h4, _⟩
  · simp [Value.ownBlock] at hg
  · have : g' = g := by simpa [Value.ownBlock] using hg
    subst this
    exact ⟨cur, h4⟩
theorem grown_setW (w : World) (b i : Nat) (v : Value) : w.grownBy (w.setCell ⟨b, i, none⟩ v) (some b) := by
  have h := (Below.refl 0 w).setCell (p := ⟨b, i, none⟩) (Nat.zero_le _) v
  exact ⟨h.os, h.tape, h.output, h.size, fun k _ hne => heap_setCell_other _ _ _ _ (fun e => hne (by rw [e]))⟩
/-- What holds between two rounds: the words so far in their box; what is answered is not yet written. -/
structure WoI (w : World) (B : Nat) (pre : List ByteArray) (W : World) : Prop where
  b : Below w.heap.size w W
  z : B ≤ W.heap.size
  r : W.heap[w.heap.size]? = some (.cells #[.int .i64 0, .slice none 0 0] 24 (0, 0))
  ex : ∃ v, Boxed W (w.heap.size + 1) 22 v ∧ W.ownsRow B 9 1 v (wordsB pre).length ((wordsB pre).map Value.string)
theorem WoI.stays (w : World) (B : Nat) (hB : B = w.heap.size + 5) : StaysBy B (w.heap.size + 2) (WoI w B) := by
  subst hB
  rintro p A C row ⟨hb, hz, hr, v, hbx, hrow⟩ hg hrw
  have hrr : ∀ k, row = some k → w.heap.size ≤ k ∧ k ≠ w.heap.size ∧ k ≠ w.heap.size + 1 := fun k e => by rcases hrw k e with h | ⟨h, -⟩ <;> omega
  refine ⟨hb.grown hg hb.size (fun k e => (hrr k e).1), Nat.le_trans hz hg.size, ?_, v, hbx.kept hg (fun e => (hrr _ e.symm).2.2 rfl), own_grown hrow hg ?_⟩
  · exact (hg.block _ (Array.getElem?_eq_some_iff.1 hr).1 (fun e => (hrr _ e.symm).2.1 rfl)).trans hr
  · rcases hk : v.ownBlock with _ | g
    · exact Or.inl rfl
    · right
      intro e
      rcases hrw g e.symm with h | ⟨-, o, ho, hn⟩
      · have := (hrow.lt _ hk).1; omega
      · obtain ⟨cur, hcur⟩ := own_cellsW hrow hk
        rw [hcur] at ho
        cases ho
        simp [Obj.isCells] at hn
theorem cutB_size (s : ByteArray) : (cutB s).length ≤ s.size + 1 := by
  rw [cutB_len]
  have : s.data.toList.count 32 ≤ s.data.toList.length := List.count_le_length
  have e : s.data.toList.length = s.size := rfl
  omega
set_option maxRecDepth 100000 in
set_option maxHeartbeats 4000000 in
theorem implWordsOf_any (s : ByteArray) (w : World) (hs : s.size ≤ 1048576) :
    Calls Tryd.prog 7 #[.string s] w fun e w' => WordsAns w (wordsB (cutB s)) e w' := by
  obtain ⟨i0, hi, hz0, hz1, hz2⟩ := info_parts Tryd.infoSw
  have hS := fun w => splitSeqX_any s w
  refine (callsIn_wide (n := 4)).1 (callsIn_of_wp_marks Tryd.func7 rfl trivial ?_ rfl)
  refine wpIn_wide.2 ?_
  simp only [Tryd.ntmps7, List.size_toArray, List.length_cons, List.length_nil, Nat.reduceAdd, Nat.reduceSub, Array.replicate_succ, Array.replicate_zero, List.push_toArray, List.append_toArray, List.nil_append, List.cons_append]
  go_wp2_with fail
  refine (hS _).mono ?_
  rintro e W0 ⟨rfl, hw'⟩
  have HW : Hid (W0 = ((((w.alloc (.cells #[.int .i64 0, .slice none 0 0] 24)).alloc (.cells #[.slice none 0 0] 22)).alloc (.cells #[.string s] 9)).alloc (.cells #[.string ⟨#[32]⟩] 9)).alloc (.cells #[.int .i64 0] 3)) := hw'
  clear hw' hS
  go_wp2_with fail
  have hsz : W0.heap.size = w.heap.size + 5 := by rw [HW.out]; simp
  have hbl : ∀ (A : World) (v : Value) (t : TypeId), (A.alloc (.cells #[v] t)).heap[A.heap.size]? = some (.cells #[v] t (0, 0)) := fun A v t => heap_alloc_new A _
  obtain ⟨A1, hA1⟩ : ∃ A, A = (w.alloc (.cells #[.int .i64 0, .slice none 0 0] 24)) := ⟨_, rfl⟩
  obtain ⟨A2, hA2⟩ : ∃ A, A = (A1.alloc (.cells #[.slice none 0 0] 22)) := ⟨_, rfl⟩
  obtain ⟨A3, hA3⟩ : ∃ A, A = (A2.alloc (.cells #[.string s] 9)) := ⟨_, rfl⟩
  obtain ⟨A4, hA4⟩ : ∃ A, A = (A3.alloc (.cells #[.string ⟨#[32]⟩] 9)) := ⟨_, rfl⟩
  have hA5 : W0 = A4.alloc (.cells #[.int .i64 0] 3) := by rw [HW.out, hA4, hA3, hA2, hA1]
  have z1 : A1.heap.size = w.heap.size + 1 := by rw [hA1]; simp
  have z2 : A2.heap.size = w.heap.size + 2 := by rw [hA2]; simp; omega
  have z3 : A3.heap.size = w.heap.size + 3 := by rw [hA3]; simp; omega
  have z4 : A4.heap.size = w.heap.size + 4 := by rw [hA4]; simp; omega
  have b5 : Below A4.heap.size A4 W0 := by rw [hA5]; exact one_new _
  have b4 : Below A3.heap.size A3 W0 := by refine below_after_of ?_ b5; rw [hA4]; exact one_new _
  have b3 : Below A2.heap.size A2 W0 := by refine below_after_of ?_ b4; rw [hA3]; exact one_new _
  have b2 : Below A1.heap.size A1 W0 := by refine below_after_of ?_ b3; rw [hA2]; exact one_new _
  have b1 : Below w.heap.size w W0 := by refine below_after_of ?_ b2; rw [hA1]; exact one_new _
  have g0 : W0.heap[w.heap.size]? = some (.cells #[.int .i64 0, .slice none 0 0] 24 (0, 0)) := (b2.block _ (by omega)).trans (by rw [hA1]; exact heap_alloc_new w _)
  have g1 : W0.heap[w.heap.size + 1]? = some (.cells #[.slice none 0 0] 22 (0, 0)) := (b3.block _ (by omega)).trans (by rw [hA2, ← z1]; exact heap_alloc_new A1 _)
  have g2 : W0.heap[w.heap.size + 2]? = some (.cells #[.string s] 9 (0, 0)) := (b4.block _ (by omega)).trans (by rw [hA3, ← z2]; exact heap_alloc_new A2 _)
  have g3 : W0.cell? ⟨w.heap.size + 2 + 1, 0, none⟩ = some (.string ⟨#[32]⟩) := (b5.cell (p := ⟨w.heap.size + 2 + 1, 0, none⟩) (by show w.heap.size + 2 + 1 < _; omega)).trans (by rw [hA4, ← z3]; exact (Boxed.new A3 _ _).cell)
  have g4 : W0.cell? ⟨w.heap.size + 2 + 2, 0, none⟩ = some (.int .i64 0) := by rw [hA5, show w.heap.size + 2 + 2 = A4.heap.size by omega]; exact (Boxed.new A4 _ _).cell
  clear HW hA1 hA2 hA3 hA4 hA5 hbl b2 b3 b4 b5
  refine wpIn_wide (n := 4) |>.1 ?_
  refine range_pieces 4 (by decide) (w.heap.size + 2) s (by omega) hs rfl (enters_of Tryd.func63 (by kernel_rfl) rfl) rfl g2 g3 g4 (WoI w W0.heap.size) (WoI.stays w _ hsz) ⟨b1, Nat.le_refl _, g0, _, g1, World.ownsRow_nil _ _ _ _⟩ (fun x => { tmps := #[.string s, undef, .pointer (some ⟨w.heap.size, 0, none⟩), .pointer (some ⟨w.heap.size + 1, 0, none⟩), .string x, .string s, .func (.func 63) #[] #[.pointer (some ⟨w.heap.size + 2 + 1, 0, none⟩), .pointer (some ⟨w.heap.size + 2, 0, none⟩), .pointer (some ⟨w.heap.size + 2 + 2, 0, none⟩)], .string x, undef, undef, undef, undef, undef, undef, undef, undef, undef], defers := [] }) ?assign ?body ?done
  case assign =>
    intro l x W K hK
    gi_wp2
    exact hK
  case body =>
    rintro l pre x W ⟨hb, hz, hr, v, hbx, hrow⟩ hx htl
    have kc := hbx.cell
    have hC := fun w => cloneW_any x w hx
    obtain ⟨tl, htl⟩ := htl
    have hpl : (wordsB pre).length + 1 ≤ 1048577 + 1 := by
      have h1 : (wordsB pre).length ≤ pre.length := List.length_filter_le _ _
      have h2 := congrArg List.length htl
      have h3 := cutB_size s
      simp at h2
      omega
    have hbsz := hb.size
    rcases Bool.eq_false_or_eq_true (wordB x) with hx0 | hx0
    · have hx1 : x.toList.isEmpty = false := by simpa [wordB] using hx0
      have HH : Hid (wordsB (pre ++ [x]) = wordsB pre ++ [x]) := words_hit pre hx0
      obtain ⟨a, c, rfl⟩ := own_shape hrow
      have HBX : Hid (Boxed W (w.heap.size + 1) 22 (.slice a (wordsB pre).length c)) := hbx
      have HR : Hid (W.ownsRow W0.heap.size 9 1 (.slice a (wordsB pre).length c) (wordsB pre).length ((wordsB pre).map Value.string)) := hrow
      have HRS : Hid (W.heap[w.heap.size]? = some (.cells #[.int .i64 0, .slice none 0 0] 24 (0, 0))) := hr
      have HB : Hid (Below w.heap.size w W) := hb
      have hlt := hbx.lt
      have kcd : W.drew.cell? ⟨w.heap.size + 1, 0, none⟩ = some (.slice a (wordsB pre).length c) := kc
      generalize hds : wordsB pre = ds at *
      clear hx0 hb hr hbx hrow hds htl
      have hEND : ∀ (g cap : Nat) (w8 wq : World) (ac : Act), Below W.heap.size W wq → w8.ownsRow W0.heap.size 9 1 (.slice (some ⟨g, 0, none⟩) (ds.length + 1) cap) (ds.length + 1) (ds.map Value.string ++ [.string x]) → (wq.alloc (.cells #[.string x] 9)).grownBy w8 (Value.slice a ds.length c).ownBlock →
          goesOn W0.heap.size (w.heap.size + 2) (WoI w W0.heap.size) (pre ++ [x]) W .normal ac (w8.setCell ⟨w.heap.size + 1, 0, none⟩ (.slice (some ⟨g, 0, none⟩) (ds.length + 1) cap)) := by
        intro g cap w8 wq ac hbb hown hgrow
        have hbA := hbb.alloc hbb.size (.cells #[.string x] 9)
        have hng : ∀ k, (Value.slice a ds.length c).ownBlock = some k → W0.heap.size ≤ k ∧ k < W.heap.size := fun k e => HR.out.lt _ e
        have bx8 : Boxed w8 (w.heap.size + 1) 22 (.slice a ds.length c) := Boxed.kept ((hbA.block _ hlt).trans HBX.out) hgrow (fun e => by have := (hng _ e.symm).1; omega)
        have hsz8 : W.heap.size ≤ w8.heap.size := by have := hgrow.size; have := hbb.size; simp at *; omega
        have hgs := grownBy_setCell' w8 (w.heap.size + 1) (.slice (some ⟨g, 0, none⟩) (ds.length + 1) cap)
        have hB8 : Below W0.heap.size W w8 := (hbA.mono hz).grown hgrow (by have := hbb.size; simp; omega) (fun k e => (hng k e).1)
        have r8 : w8.heap[w.heap.size]? = some (.cells #[.int .i64 0, .slice none 0 0] 24 (0, 0)) := (hB8.block _ (by omega)).trans HRS.out
        have hB9 : Below w.heap.size W (w8.setCell ⟨w.heap.size + 1, 0, none⟩ (.slice (some ⟨g, 0, none⟩) (ds.length + 1) cap)) := (hB8.mono (by omega)).grown hgs (by omega) (fun k e => by cases e; omega)
        refine ⟨?_, fun j hj => ?_, HB.out.trans hB9, ?_, ?_, _, Boxed.set _ bx8, ?_⟩
        · refine ⟨by rw [World.size_setCell]; exact hsz8, fun k o hk ho hn => ?_⟩
          rw [heap_setCell_other _ _ _ _ (by show k ≠ w.heap.size + 1; omega)]
          have hkl := (Array.getElem?_eq_some_iff.1 ho).1
          refine (hgrow.block k (Nat.lt_of_lt_of_le hkl hbA.size) (fun e => ?_)).trans ((hbA.block k hkl).trans ho)
          obtain ⟨cur, hcur⟩ := own_cellsW HR.out e.symm
          rw [hcur] at ho
          cases ho
          simp [Obj.isCells] at hn
        · rw [heap_setCell_other _ _ _ _ (by show w.heap.size + 2 + j ≠ w.heap.size + 1; omega)]
          exact hB8.block _ (by omega)
        · rw [World.size_setCell]; omega
        · rw [heap_setCell_other _ _ _ _ (by show w.heap.size ≠ w.heap.size + 1; omega)]; exact r8
        · rw [HH.out, List.map_append, List.length_append]
          exact own_grown hown hgs (Or.inr (fun e => by have := (hown.lt _ e).1; omega))
      gi_wp2
      refine region_round (S := fun _ => True) (by kernel_rfl) ?nd ?no ?held
      case nd =>
        intro i o ho c
        rcases i with _ | _ | _ | _ | _ | _ | i <;> simp at ho <;> (try subst ho) <;> simp
      case no =>
        rintro ⟨_, _, h⟩
        exact h
      have hHeld : True := trivial
      have hbb : Below W.heap.size W W.drew := (Below.refl _ _).drew
      have kq := kcd
      refine h_take (i := 1) (d := (some 11)) (v := ?v1) (by rfl) (by kernel_rfl) (by kernel_rfl) (by kernel_rfl) (fun _ _ _ h => h) (by rfl) ?hy1 hHeld ?rest1
      case hy1 =>
        intro o ho
        simp only [List.getElem?_toArray, List.getElem?_cons_succ, List.getElem?_cons_zero, Option.some.injEq] at ho
        subst ho
        intro w' hSw
        first | (go_simp; done) | (go_simp; with_reducible rfl)
      try simp only [Act.put, List.setIfInBounds_toArray, List.set_cons_zero, List.set_cons_succ]
      refine wpAnyH_ready (rs := [0, 2]) (by kernel_rfl) (by simp) ?_
      refine AllReadyH.cons rfl (fun K hK => ?_) (AllReadyH.cons rfl (fun K hK => ?_) AllReadyH.nil)
      · skip
        go_simp
        refine hK.out _ _ trivial (fun hHeld => ?_)
        clear hK K
        try simp only [Act.put, List.setIfInBounds_toArray, List.set_cons_zero, List.set_cons_succ]
        refine wpAnyH_ready (rs := [2]) (by kernel_rfl) (by simp) ?_
        refine AllReadyH.cons rfl (fun K hK => ?_) AllReadyH.nil
        go_simp
        refine (hC _).mono ?_
        rintro e wq ⟨rfl, hbq⟩
        have hbb : Below W.heap.size W wq := below_after_of hbb hbq
        have kq : wq.cell? ⟨w.heap.size + 1, 0, none⟩ = some (.slice a ds.length c) := (hbb.cell (p := ⟨w.heap.size + 1, 0, none⟩) hlt).trans kc
        clear hbq
        refine hK.out _ _ trivial (fun hHeld => ?_)
        clear hK K
        try simp only [Act.put, List.setIfInBounds_toArray, List.set_cons_zero, List.set_cons_succ]
        refine wpAnyH_ready (rs := [3]) (by kernel_rfl) (by simp) ?_
        refine AllReadyH.cons rfl (fun K hK => ?_) AllReadyH.nil
        have kq := ((hbb.alloc hbb.size (.cells #[.string x] 9)).cell (p := ⟨w.heap.size + 1, 0, none⟩) hlt).trans kc
        go_simp
        refine hK.out _ _ trivial (fun hHeld => ?_)
        clear hK K
        try simp only [Act.put, List.setIfInBounds_toArray, List.set_cons_zero, List.set_cons_succ]
        refine wpAnyH_ready (rs := [4]) (by kernel_rfl) (by simp) ?_
        refine AllReadyH.cons rfl (fun K hK => ?_) AllReadyH.nil
        refine step_append_lies _ (by rfl) _ _ _ (by rfl) W0.heap.size 9 i0 _ 1 16 Tryd.underlying22 hi hz0 hz1 hz2 rfl (by omega) (.slice a ds.length c) ds.length (ds.map Value.string) (by rfl) ((own_below HR.out hbb).alloc _) ⟨wq.heap.size, 0, none⟩ 1 1 [.string x] (by rfl) (by rfl) (World.news_of_block (cs := #[.string x]) (t := 9) (fr := (0, 0)) (heap_alloc_new wq _)) (by simp [Value.oneCell']) (by omega) (by unfold maxLen; omega) (by omega) (by have := hbb.size; simp; omega) (wq.heap.size + 1) (by simp) ?_
        intro g cap w8 hown hgrow hat hlt8
        have hbA := hbb.alloc hbb.size (.cells #[.string x] 9)
        have hng : some (w.heap.size + 1) ≠ (Value.slice a ds.length c).ownBlock := fun e => by have := (HR.out.lt _ e.symm).1; omega
        have bx8 : Boxed w8 (w.heap.size + 1) 22 (.slice a ds.length c) := Boxed.kept ((hbA.block _ hlt).trans HBX.out) hgrow hng
        have k8 := bx8.cell
        have f8 := bx8.frozen
        refine hK.out _ _ trivial (fun hHeld => ?_)
        clear hK K
        try simp only [Act.put, List.setIfInBounds_toArray]
        refine wpAnyH_ready (rs := [5]) (by kernel_rfl) (by simp) ?_
        refine AllReadyH.cons rfl (fun K hK => ?_) AllReadyH.nil
        go_simp
        refine hK.out _ _ trivial (fun hHeld => ?_)
        clear hK K
        try simp only [Act.put, List.setIfInBounds_toArray, List.set_cons_zero, List.set_cons_succ]
        refine wpAnyH_done (by kernel_rfl) ?_ _
        exact hEND g cap w8 wq { tmps := #[], defers := [] } hbb hown hgrow
      · skip
        go_simp
        refine (hC _).mono ?_
        rintro e wq ⟨rfl, hbq⟩
        have hbb : Below W.heap.size W wq := below_after_of hbb hbq
        have kq : wq.cell? ⟨w.heap.size + 1, 0, none⟩ = some (.slice a ds.length c) := (hbb.cell (p := ⟨w.heap.size + 1, 0, none⟩) hlt).trans kc
        clear hbq
        refine hK.out _ _ trivial (fun hHeld => ?_)
        clear hK K
        try simp only [Act.put, List.setIfInBounds_toArray, List.set_cons_zero, List.set_cons_succ]
        refine wpAnyH_ready (rs := [0, 3]) (by kernel_rfl) (by simp) ?_
        refine AllReadyH.cons rfl (fun K hK => ?_) (AllReadyH.cons rfl (fun K hK => ?_) AllReadyH.nil)
        · skip
          go_simp
          refine hK.out _ _ trivial (fun hHeld => ?_)
          clear hK K
          try simp only [Act.put, List.setIfInBounds_toArray, List.set_cons_zero, List.set_cons_succ]
          refine wpAnyH_ready (rs := [3]) (by kernel_rfl) (by simp) ?_
          refine AllReadyH.cons rfl (fun K hK => ?_) AllReadyH.nil
          have kq := ((hbb.alloc hbb.size (.cells #[.string x] 9)).cell (p := ⟨w.heap.size + 1, 0, none⟩) hlt).trans kc
          go_simp
          refine hK.out _ _ trivial (fun hHeld => ?_)
          clear hK K
          try simp only [Act.put, List.setIfInBounds_toArray, List.set_cons_zero, List.set_cons_succ]
          refine wpAnyH_ready (rs := [4]) (by kernel_rfl) (by simp) ?_
          refine AllReadyH.cons rfl (fun K hK => ?_) AllReadyH.nil
          refine step_append_lies _ (by rfl) _ _ _ (by rfl) W0.heap.size 9 i0 _ 1 16 Tryd.underlying22 hi hz0 hz1 hz2 rfl (by omega) (.slice a ds.length c) ds.length (ds.map Value.string) (by rfl) ((own_below HR.out hbb).alloc _) ⟨wq.heap.size, 0, none⟩ 1 1 [.string x] (by rfl) (by rfl) (World.news_of_block (cs := #[.string x]) (t := 9) (fr := (0, 0)) (heap_alloc_new wq _)) (by simp [Value.oneCell']) (by omega) (by unfold maxLen; omega) (by omega) (by have := hbb.size; simp; omega) (wq.heap.size + 1) (by simp) ?_
          intro g cap w8 hown hgrow hat hlt8
          have hbA := hbb.alloc hbb.size (.cells #[.string x] 9)
          have hng : some (w.heap.size + 1) ≠ (Value.slice a ds.length c).ownBlock := fun e => by have := (HR.out.lt _ e.symm).1; omega
          have bx8 : Boxed w8 (w.heap.size + 1) 22 (.slice a ds.length c) := Boxed.kept ((hbA.block _ hlt).trans HBX.out) hgrow hng
          have k8 := bx8.cell
          have f8 := bx8.frozen
          refine hK.out _ _ trivial (fun hHeld => ?_)
          clear hK K
          try simp only [Act.put, List.setIfInBounds_toArray]
          refine wpAnyH_ready (rs := [5]) (by kernel_rfl) (by simp) ?_
          refine AllReadyH.cons rfl (fun K hK => ?_) AllReadyH.nil
          go_simp
          refine hK.out _ _ trivial (fun hHeld => ?_)
          clear hK K
          try simp only [Act.put, List.setIfInBounds_toArray, List.set_cons_zero, List.set_cons_succ]
          refine wpAnyH_done (by kernel_rfl) ?_ _
          exact hEND g cap w8 wq { tmps := #[], defers := [] } hbb hown hgrow
        · skip
          have kq := ((hbb.alloc hbb.size (.cells #[.string x] 9)).cell (p := ⟨w.heap.size + 1, 0, none⟩) hlt).trans kc
          go_simp
          refine hK.out _ _ trivial (fun hHeld => ?_)
          clear hK K
          try simp only [Act.put, List.setIfInBounds_toArray, List.set_cons_zero, List.set_cons_succ]
          refine wpAnyH_ready (rs := [0]) (by kernel_rfl) (by simp) ?_
          refine AllReadyH.cons rfl (fun K hK => ?_) AllReadyH.nil
          go_simp
          refine hK.out _ _ trivial (fun hHeld => ?_)
          clear hK K
          try simp only [Act.put, List.setIfInBounds_toArray, List.set_cons_zero, List.set_cons_succ]
          refine wpAnyH_ready (rs := [4]) (by kernel_rfl) (by simp) ?_
          refine AllReadyH.cons rfl (fun K hK => ?_) AllReadyH.nil
          refine step_append_lies _ (by rfl) _ _ _ (by rfl) W0.heap.size 9 i0 _ 1 16 Tryd.underlying22 hi hz0 hz1 hz2 rfl (by omega) (.slice a ds.length c) ds.length (ds.map Value.string) (by rfl) ((own_below HR.out hbb).alloc _) ⟨wq.heap.size, 0, none⟩ 1 1 [.string x] (by rfl) (by rfl) (World.news_of_block (cs := #[.string x]) (t := 9) (fr := (0, 0)) (heap_alloc_new wq _)) (by simp [Value.oneCell']) (by omega) (by unfold maxLen; omega) (by omega) (by have := hbb.size; simp; omega) (wq.heap.size + 1) (by simp) ?_
          intro g cap w8 hown hgrow hat hlt8
          have hbA := hbb.alloc hbb.size (.cells #[.string x] 9)
          have hng : some (w.heap.size + 1) ≠ (Value.slice a ds.length c).ownBlock := fun e => by have := (HR.out.lt _ e.symm).1; omega
          have bx8 : Boxed w8 (w.heap.size + 1) 22 (.slice a ds.length c) := Boxed.kept ((hbA.block _ hlt).trans HBX.out) hgrow hng
          have k8 := bx8.cell
          have f8 := bx8.frozen
          refine hK.out _ _ trivial (fun hHeld => ?_)
          clear hK K
          try simp only [Act.put, List.setIfInBounds_toArray]
          refine wpAnyH_ready (rs := [5]) (by kernel_rfl) (by simp) ?_
          refine AllReadyH.cons rfl (fun K hK => ?_) AllReadyH.nil
          go_simp
          refine hK.out _ _ trivial (fun hHeld => ?_)
          clear hK K
          try simp only [Act.put, List.setIfInBounds_toArray, List.set_cons_zero, List.set_cons_succ]
          refine wpAnyH_done (by kernel_rfl) ?_ _
          exact hEND g cap w8 wq { tmps := #[], defers := [] } hbb hown hgrow
    · have hx1 : x.toList.isEmpty = true := by simpa [wordB] using hx0
      gi_wp2
      exact ⟨KeepsFrom.refl _ _, fun _ _ => rfl, hb, hz, hr, v, hbx, by rw [words_miss pre hx0]; exact hrow⟩
  case done =>
    rintro D W hD ⟨hb, hz, hr, v, hbx, hrow⟩ hKD
    obtain ⟨a, c, rfl⟩ := own_shape hrow
    have kc := hbx.cell
    obtain ⟨g0, g1, f0, f1⟩ := two_cells hr
    have hKD9 : ((W.setCell ⟨w.heap.size, 0, none⟩ (.int .i64 0)).setCell ⟨w.heap.size, 1, none⟩ (.slice a (wordsB (cutB s)).length c)).heap[D]? = some (.deferred (some [])) := by
      rw [heap_setCell_other _ _ _ _ (by show D ≠ w.heap.size; omega), heap_setCell_other _ _ _ _ (by show D ≠ w.heap.size; omega)]
      exact hKD
    have hg9 : W.grownBy ((W.setCell ⟨w.heap.size, 0, none⟩ (.int .i64 0)).setCell ⟨w.heap.size, 1, none⟩ (.slice a (wordsB (cutB s)).length c)) (some w.heap.size) := (grown_setW _ _ 0 _).trans (grown_setW _ _ 1 _)
    have hr9 : ((W.setCell ⟨w.heap.size, 0, none⟩ (.int .i64 0)).setCell ⟨w.heap.size, 1, none⟩ (.slice a (wordsB (cutB s)).length c)).heap[w.heap.size]? = some (.cells #[.int .i64 0, .slice a (wordsB (cutB s)).length c] 24 (0, 0)) := heap_setCell_same _ _ 1 _ _ _ (heap_setCell_same _ _ 0 _ _ _ hr)
    have own9 := own_grown hrow hg9 (Or.inr (fun e => by have := (hrow.lt _ e).1; omega))
    have hB9 : Below w.heap.size w ((W.setCell ⟨w.heap.size, 0, none⟩ (.int .i64 0)).setCell ⟨w.heap.size, 1, none⟩ (.slice a (wordsB (cutB s)).length c)) := hb.grown hg9 hb.size (fun k e => by cases e; exact Nat.le_refl _)
    go_wp2
    generalize (W.setCell ⟨w.heap.size, 0, none⟩ (.int .i64 0)).setCell ⟨w.heap.size, 1, none⟩ (.slice a (wordsB (cutB s)).length c) = W9 at *
    refine ⟨by simp, .inl ⟨_, _, rfl, run_takeDeferred hKD9, ?_⟩⟩
    have hr10 : (W9.putObj D (.deferred none)).heap[w.heap.size]? = some (.cells #[.int .i64 0, .slice a (wordsB (cutB s)).length c] 24 (0, 0)) := by
      rw [World.putObj_heap_other (by omega)]; exact hr9
    have hgp := grownBy_putObj' W9 D (.deferred none)
    have own10 := own_grown own9 hgp (by
      rcases hk : (Value.slice a (wordsB (cutB s)).length c).ownBlock with _ | g
      · exact Or.inl rfl
      · right
        intro e
        obtain ⟨cur, hcur⟩ := own_cellsW own9 hk
        cases e
        rw [hcur] at hKD9
        cases hKD9)
    have hB10 : Below w.heap.size w (W9.putObj D (.deferred none)) := hB9.grown hgp hB9.size (fun k e => by cases e; omega)
    obtain ⟨q0, q1, -, -⟩ := two_cells hr10
    generalize W9.putObj D (.deferred none) = W10 at *
    exact ⟨.agg #[.int .i64 0, .slice a (wordsB (cutB s)).length c], by simp [results, Tryd.results7, go_sem, q0, q1], hB10, _, rfl, own_mono own10 (by omega)⟩
end U
end Go.Proofs.YtmjbmlojcieciaaDoor
