/- What is answered of a label, by the model. -/
import Derived.Test.YtpelafkjnmcdgaaGreatAn1
namespace Go.Proofs.YtpelafkjnmcdgaaGreat
open Go.RowKit Go.Maps
namespace U
set_option maxRecDepth 100000 in
set_option maxHeartbeats 2000000 in
theorem l9At_core (g b off c n : Nat) (l : Rcl) (key : Int) (w : World) (hn : n ≤ 12) (hg : g < w.heap.size) (hb : b < w.heap.size) (hsm : ∀ j, j < n → (rAt l j).l.size ≤ 12)
    (hD : w.cell? ⟨g, 0, none⟩ = some (.slice (some ⟨b, off, none⟩) n c)) (hc : ∀ j, j < n → RecS w b (off + j * 4) (rAt l j)) :
    Calls Tryz.prog 127 #[.pointer (some ⟨g, 0, none⟩), .int .i64 key] w fun e w' => e = .returned (.int .i64 (atK l key n 0)) ∧ Below w.heap.size w w' := by
  obtain ⟨q, hq⟩ : ∃ q, q = atK l key n 0 := ⟨_, rfl⟩
  have HQ : Hid (atK l key n 0 = q) := hq.symm
  rw [← hq]
  clear hq
  have HD : Hid (∀ w', Below w.heap.size w w' → w'.cell? ⟨g, 0, none⟩ = some (.slice (some ⟨b, off, none⟩) n c)) := fun w' h => (h.cell (p := ⟨g, 0, none⟩) hg).trans hD
  go_enter Tryz.func127, Tryz.ntmps127
  go_wp2
  go_loopw [5] (fun i wr => ∃ k : Nat, k ≤ n ∧ i = .int .i64 k ∧ Hid (Below w.heap.size w wr) ∧ Hid (atK l key (n - k) k = q)) (fun i _ => n - (intOf i).toNat)
  case atStart => exact ⟨0, Nat.zero_le _, rfl, Below.refl _ _, HQ⟩
  case round =>
    obtain ⟨k, hk, rfl, hB, HS⟩ := hrel
    have hDk := HD.out _ hB.out
    by_cases hkn : k < n
    · have hki : (k : Int) < (n : Int) := by omega
      have d0 := ((hc k hkn).below hB.out hb).c0
      have hK := fun w => l2Key_any (rAt l k).l w (hsm k hkn)
      have e2 : keyI (rAt l k).l = (rAt l k).k := rfl
      rw [e2] at hK
      have HSN : Hid (n - k = (n - k - 1) + 1) := (by omega : n - k = (n - k - 1) + 1)
      have HH : Hid ((rAt l k).k = key → q = k) := (fun h => by rw [← HS.out, HSN.out]; exact atK_hit h : (rAt l k).k = key → q = k)
      have HM : Hid (¬ (rAt l k).k = key → atK l key (n - k - 1) (k + 1) = q) := (fun h => by rw [← HS.out, HSN.out]; exact (atK_miss h).symm : ¬ (rAt l k).k = key → atK l key (n - k - 1) (k + 1) = q)
      generalize (rAt l k).k = kz at *
      generalize (rAt l k).l = x0 at *
      clear hc e2 hsm
      by_cases hkk : kz = key
      · subst hkk
        have HQ2 : Hid (q = k) := HH.out rfl
        clear HH HM
        go_wp2_with fail
        refine (hK _).mono ?_
        rintro e w1 ⟨rfl, hb1⟩
        have HB1 : Hid (Below w.heap.size w w1) := below_after_of hB.out hb1
        clear hK hb1
        go_wp2
        go_ret
        exact ⟨ret_int HQ2.out.symm, HB1.out⟩
      · have hbn : (kz == key) = false := by simpa using hkk
        have HQ2 : Hid (atK l key (n - k - 1) (k + 1) = q) := HM.out hkk
        clear HH HM hkk
        go_wp2_with fail
        refine (hK _).mono ?_
        rintro e w1 ⟨rfl, hb1⟩
        have HB1 : Hid (Below w.heap.size w w1) := below_after_of hB.out hb1
        clear hK hb1
        go_wp2
        go_roundw
        case rel => exact ⟨k + 1, by omega, by go_num, HB1, by rw [show n - (k + 1) = n - k - 1 by omega]; exact HQ2⟩
        case measure => simp [intOf]; omega
    · have hkn : k = n := by omega
      subst hkn
      have e0 : Hid (q = -1) := (by rw [← HS.out, Nat.sub_self]; rfl : q = -1)
      clear hc
      go_wp2
      go_ret
      exact ⟨ret_int e0.out.symm, hB.out⟩
set_option maxRecDepth 100000 in
set_option maxHeartbeats 1000000 in
theorem l9At_any (g : Nat) (v : Value) (l : Rcl) (key : Int) (w : World) (hg : g < w.heap.size) (hD : w.cell? ⟨g, 0, none⟩ = some v) (hv : Rcs w v l) (hok : DirOk l) :
    Calls Tryz.prog 127 #[.pointer (some ⟨g, 0, none⟩), .int .i64 key] w fun e w' => e = .returned (.int .i64 (atI l key)) ∧ Below w.heap.size w w' := by
  obtain ⟨a, c, rfl⟩ := hv.shape
  by_cases h0 : 0 < l.length
  · obtain ⟨_, b, off, rfl, hb, hc⟩ := hv.at h0
    exact l9At_core g b off c l.length l key w hok.len hg hb (fun j hj => Rc.small_of (hok.ok j hj)) hD hc
  · have e1 : l = [] := List.eq_nil_of_length_eq_zero (by omega)
    subst e1
    have e2 : atI [] key = -1 := rfl
    rw [e2]
    simp only [List.length_nil] at *
    clear hv h0 hok e2
    go_enter Tryz.func127, Tryz.ntmps127
    go_wp2
    refine wp_loop_rounds 1 ?_; rw [rounds_succ]
    go_wp2
    go_ret
    exact ⟨rfl, Below.refl _ _⟩
/-- What the model looks up: a record and whether it is there. -/
def lkV (o : Option Rc) : Value := .tuple #[(o.getD rcZ).val, .bool o.isSome]
set_option maxRecDepth 100000 in
set_option maxHeartbeats 4000000 in
theorem l9Look_none (g : Nat) (v : Value) (l : Rcl) (s : ByteArray) (w : World) (hg : g < w.heap.size) (hD : w.cell? ⟨g, 0, none⟩ = some v) (hv : Rcs w v l) (hok : DirOk l) (hs : s.size ≤ 12) (ho : atI l (keyI s) = -1) :
    Calls Tryz.prog 114 #[.pointer (some ⟨g, 0, none⟩), .string s] w fun e w' => e = .returned (.tuple #[.agg #[.string ⟨#[]⟩, .int .i64 0, .int .i64 0, .int .i64 0], .bool false]) ∧ Below w.heap.size w w' := by
  have hK := fun w => l2Key_any s w hs
  have hA := fun w' (h : Below w.heap.size w w') => l9At_any g v l (keyI s) w' (Nat.lt_of_lt_of_le hg h.size) ((h.cell (p := ⟨g, 0, none⟩) hg).trans hD) (hv.below h) hok
  rw [ho] at hA
  generalize keyI s = kz at *
  clear hv ho
  go_enter Tryz.func114, Tryz.ntmps114
  go_wp2_with fail
  refine (hK _).mono ?_
  rintro e w1 ⟨rfl, hb1⟩
  have hB1 := below_after hb1
  have A1 := (hb1.block _ (by simp)).trans (heap_alloc_new w (.cells #[.string ⟨#[]⟩, .int .i64 0, .int .i64 0, .int .i64 0] 88))
  clear hK hb1
  go_wp2_with fail
  refine (hA _ hB1).mono ?_
  rintro e w2 ⟨rfl, hb2⟩
  have hB2 := below_after_of hB1 hb2
  have A2 := (hb2.block _ (Array.getElem?_eq_some_iff.1 A1).1).trans A1
  clear hA hb2 A1 hB1
  go_wp2
  go_quiet (fail)
  obtain ⟨k0, k1, k2, k3, f0, f1, f2, f3⟩ := blk4 A2
  clear A2
  go_wp2
  refine bodyPost_ret (v := .tuple #[.agg #[.string ⟨#[]⟩, .int .i64 0, .int .i64 0, .int .i64 0], .bool false]) (by simp [results, Tryz.results114, go_sem, *]) rfl ⟨rfl, ?_⟩
  exact (((((below_drewN hB2 _).setCell (Nat.le_refl _) _).setCell (Nat.le_refl _) _).setCell (Nat.le_refl _) _).setCell (Nat.le_refl _) _)
set_option maxRecDepth 100000 in
set_option maxHeartbeats 4000000 in
theorem l9Look_at (g b off c n j : Nat) (s x0 : ByteArray) (x1 x2 x3 : Int) (w : World) (hg : g < w.heap.size) (hD : w.cell? ⟨g, 0, none⟩ = some (.slice (some ⟨b, off, none⟩) n c)) (hj : j < n) (hb : b < w.heap.size) (hr : RecS w b (off + j * 4) ⟨x0, x1, x2, x3⟩) (hs : s.size ≤ 12) (f : Bool) (hf : (x0.toList == (foldS s).toList) = f)
    (hA : ∀ w', Below w.heap.size w w' → Calls Tryz.prog 127 #[.pointer (some ⟨g, 0, none⟩), .int .i64 (keyI s)] w' fun e w'' => e = .returned (.int .i64 (j : Int)) ∧ Below w'.heap.size w' w'') :
    Calls Tryz.prog 114 #[.pointer (some ⟨g, 0, none⟩), .string s] w fun e w' => e = .returned (lkV (if f then some ⟨x0, x1, x2, x3⟩ else none)) ∧ Below w.heap.size w w' := by
  have hK := fun w => l2Key_any s w hs
  have hF := fun w => l1Fold_any s w hs
  generalize keyI s = kz at *
  generalize foldS s = t at *
  have HR : Hid (∀ w', Below w.heap.size w w' → w'.cell? ⟨b, off + j * 4, none⟩ = some (.string x0) ∧ w'.cell? ⟨b, off + j * 4 + 1, none⟩ = some (.int .i64 x1) ∧ w'.cell? ⟨b, off + j * 4 + 2, none⟩ = some (.int .i64 x2) ∧ w'.cell? ⟨b, off + j * 4 + 3, none⟩ = some (.int .i64 x3) ∧ w'.cell? ⟨g, 0, none⟩ = some (.slice (some ⟨b, off, none⟩) n c)) := fun w' h => ⟨(hr.below h hb).c0, (hr.below h hb).c1, (hr.below h hb).c2, (hr.below h hb).c3, (h.cell (p := ⟨g, 0, none⟩) hg).trans hD⟩
  have hji : (j : Int) < (n : Int) := by omega
  have hj0 : decide ((j : Int) < 0) = false := by simp
  clear hr
  cases f
  · show Calls Tryz.prog 114 _ w fun e w' => e = .returned (.tuple #[.agg #[.string ⟨#[]⟩, .int .i64 0, .int .i64 0, .int .i64 0], .bool false]) ∧ Below w.heap.size w w'
    go_enter Tryz.func114, Tryz.ntmps114
    go_wp2_with fail
    refine (hK _).mono ?_
    rintro e w1 ⟨rfl, hb1⟩
    have hB1 := below_after hb1
    have A1 := (hb1.block _ (by simp)).trans (heap_alloc_new w (.cells #[.string ⟨#[]⟩, .int .i64 0, .int .i64 0, .int .i64 0] 88))
    clear hK hb1
    go_wp2_with fail
    refine (hA _ hB1).mono ?_
    rintro e w2 ⟨rfl, hb2⟩
    have hB2 := below_after_of hB1 hb2
    have A2 := (hb2.block _ (Array.getElem?_eq_some_iff.1 A1).1).trans A1
    obtain ⟨d0, d1, d2, d3, d4⟩ := HR.out _ hB2
    have q0 := After.cell d0
    have q4 := After.cell d4
    have hne := After.ne w2
    clear hA hb2 A1 hB1
    go_wp2_with fail
    refine wp_region_after (by kernel_rfl) (by kernel_rfl) ?_
    repeat (first | go_big_quiet_skip | (go_big_quiet_want; go_big_quiet_op; first | go_big_quiet_on | go_big_quiet_call (first | (go_at_call 99; refine (hF _).mono ?_; rintro e wq ⟨rfl, hbq⟩; exact ⟨rfl, after_mk (below_after_of (After.b _) hbq)⟩))))
    refine wpQuiet_nil ?_
    rintro _ ⟨n6, rfl⟩
    have hb7 := n6.b
    have hB7 := below_after_of hB2 hb7
    have A7 := (hb7.block _ (Array.getElem?_eq_some_iff.1 A2).1).trans A2
    generalize n6.w = w7 at *
    obtain ⟨k0, k1, k2, k3, f0, f1, f2, f3⟩ := blk4 A7
    clear A2 A7 hb7 hne q0 q4 n6 hB2 hF d0 d1 d2 d3 d4
    go_wp2
    refine bodyPost_ret (v := .tuple #[.agg #[.string ⟨#[]⟩, .int .i64 0, .int .i64 0, .int .i64 0], .bool false]) (by simp [results, Tryz.results114, go_sem, *]) rfl ⟨rfl, ?_⟩
    exact ((((hB7.setCell (Nat.le_refl _) _).setCell (Nat.le_refl _) _).setCell (Nat.le_refl _) _).setCell (Nat.le_refl _) _)
  · show Calls Tryz.prog 114 _ w fun e w' => e = .returned (.tuple #[.agg #[.string x0, .int .i64 x1, .int .i64 x2, .int .i64 x3], .bool true]) ∧ Below w.heap.size w w'
    go_enter Tryz.func114, Tryz.ntmps114
    go_wp2_with fail
    refine (hK _).mono ?_
    rintro e w1 ⟨rfl, hb1⟩
    have hB1 := below_after hb1
    have A1 := (hb1.block _ (by simp)).trans (heap_alloc_new w (.cells #[.string ⟨#[]⟩, .int .i64 0, .int .i64 0, .int .i64 0] 88))
    clear hK hb1
    go_wp2_with fail
    refine (hA _ hB1).mono ?_
    rintro e w2 ⟨rfl, hb2⟩
    have hB2 := below_after_of hB1 hb2
    have A2 := (hb2.block _ (Array.getElem?_eq_some_iff.1 A1).1).trans A1
    obtain ⟨d0, d1, d2, d3, d4⟩ := HR.out _ hB2
    have q0 := After.cell d0
    have q4 := After.cell d4
    have hne := After.ne w2
    clear hA hb2 A1 hB1
    go_wp2_with fail
    refine wp_region_after (by kernel_rfl) (by kernel_rfl) ?_
    repeat (first | go_big_quiet_skip | (go_big_quiet_want; go_big_quiet_op; first | go_big_quiet_on | go_big_quiet_call (first | (go_at_call 99; refine (hF _).mono ?_; rintro e wq ⟨rfl, hbq⟩; exact ⟨rfl, after_mk (below_after_of (After.b _) hbq)⟩))))
    refine wpQuiet_nil ?_
    rintro _ ⟨n6, rfl⟩
    have hb7 := n6.b
    have hB7 := below_after_of hB2 hb7
    have A7 := (hb7.block _ (Array.getElem?_eq_some_iff.1 A2).1).trans A2
    generalize n6.w = w7 at *
    obtain ⟨k0, k1, k2, k3, f0, f1, f2, f3⟩ := blk4 A7
    clear d0 d1 d2 d3 d4
    obtain ⟨d0, d1, d2, d3, d4⟩ := HR.out _ hB7
    clear A2 A7 hb7 hne q0 q4 n6 hB2 hF
    go_wp2
    refine bodyPost_ret (v := .tuple #[.agg #[.string x0, .int .i64 x1, .int .i64 x2, .int .i64 x3], .bool true]) (by simp [results, Tryz.results114, go_sem, *]) rfl ⟨rfl, ?_⟩
    exact ((((hB7.setCell (Nat.le_refl _) _).setCell (Nat.le_refl _) _).setCell (Nat.le_refl _) _).setCell (Nat.le_refl _) _)
theorem l9Look_any (g : Nat) (v : Value) (l : Rcl) (s : ByteArray) (w : World) (hg : g < w.heap.size) (hD : w.cell? ⟨g, 0, none⟩ = some v) (hv : Rcs w v l) (hok : DirOk l) (hs : s.size ≤ 12) :
    Calls Tryz.prog 114 #[.pointer (some ⟨g, 0, none⟩), .string s] w fun e w' => e = .returned (lkV (fO (lkO l (keyI s)) (foldS s))) ∧ Below w.heap.size w w' := by
  rcases atI_cases l (keyI s) with ⟨h1, -⟩ | ⟨j, hj, -, h1⟩
  · have e : fO (lkO l (keyI s)) (foldS s) = none := by unfold lkO; rw [if_pos h1]; rfl
    rw [e]
    exact l9Look_none g v l s w hg hD hv hok hs h1
  · have hA := fun w' (h : Below w.heap.size w w') => l9At_any g v l (keyI s) w' (Nat.lt_of_lt_of_le hg h.size) ((h.cell (p := ⟨g, 0, none⟩) hg).trans hD) (hv.below h) hok
    rw [h1] at hA
    have e : lkO l (keyI s) = some (rAt l j) := by unfold lkO; rw [h1, if_neg (by omega), Int.toNat_natCast]
    obtain ⟨a, c, rfl⟩ := hv.shape
    obtain ⟨-, b, off, rfl, hb, hc⟩ := hv.at (by omega)
    have hr := hc j hj
    rw [e]
    generalize rAt l j = r at *
    obtain ⟨x0, x1, x2, x3⟩ := r
    rcases Bool.eq_false_or_eq_true (x0.toList == (foldS s).toList) with hf | hf
    · rw [fO_yes (r := ⟨x0, x1, x2, x3⟩) hf]
      exact l9Look_at g b off c l.length j s x0 x1 x2 x3 w hg hD hj hb hr hs true hf hA
    · rw [fO_no (r := ⟨x0, x1, x2, x3⟩) hf]
      exact l9Look_at g b off c l.length j s x0 x1 x2 x3 w hg hD hj hb hr hs false hf hA
end U
end Go.Proofs.YtpelafkjnmcdgaaGreat
